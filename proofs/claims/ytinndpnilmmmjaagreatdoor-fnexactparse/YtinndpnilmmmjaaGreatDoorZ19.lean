import Derived.Test.YtinndpnilmmmjaaGreatDoorZ16
import Derived.Test.YtinndpnilmmmjaaGreatDoorZ17
import Derived.Test.YtinndpnilmmmjaaGreatDoorZ15
set_option maxRecDepth 100000
set_option maxHeartbeats 8000000
set_option linter.defProp false
namespace Go.Proofs.YtinndpnilmmmjaaGreatDoor
open Go.RowKit Go.Proofs.Tryz
def Pj(b off cap:Nat)(s:AE)(w:World)(hl:2000<s.size)(hs:s.size<=17592186044416):Calls prog 47 #[.slice (some ⟨b,off,none⟩) s.size cap] w (Js w (Br s)):=by
 have HE:Hid (Br s=([],7,0)):=by show _=_;unfold Br;rw[AL hl]
 have hli:(2000:Int)<(s.size:Int):=by omega
 go_enter func47,ntmps47;go_wp2_with fail
 go_ret3
 rw[AA HE];exact NU 7 0 AI
def H7(b off cap:Nat)(s:AE)(w:World)(h:De w (some ⟨b,off,none⟩) s.size (bz s))(hs:s.size<=17592186044416)(hR:Fo w)(hT:Fu w):Calls prog 47 #[.slice (some ⟨b,off,none⟩) s.size cap] w (Js w (Br s)):=by
 by_cases hl:2000<s.size
 .exact Pj b off cap s w hl hs
 have hli:¬(2000:Int)<(s.size:Int):=by omega
 have hsz:s.size<=2000:=by omega
 obtain⟨tgt,HU⟩:∃t,FH s (s.size+1) 0 []=t:=⟨_,rfl⟩
 have e:Br s=tgt:=by unfold Br;rw[AG hl];exact HU
 rw[e];have HTG:=AB HU;have hcb:(convert 33 9 (.slice (some ⟨b,off,none⟩) s.size cap)).run prog w=.ok (.string s) w:=by
  have Ae:s.data.toList.length=s.size:=by rw[<-Lib.size_eq]
  have:=Jn (w:=w) (b:=b) (off:=off) (cap:=cap) (l:=s.data.toList) (by rw[Ae];exact h);rw[Ae,QF]at this;exact this
 have HR:=AB hR;have HTB:=AB hT;have HS0:=AB (IY.start w s);obtain⟨i0,hi,hz0,hz2,hz3⟩:=info_parts Qs;clear e HU hl hs h hR hT;go_enter func47,ntmps47;go_wp2_with fail;clear hcb;go_loopw[6,7] (fun u e wr=>∃(n k F pos m:Nat)(acc:List CO),e=.int .i64 (k:Nat)/\pos<=m/\m<=s.size/\k<=m/\(pos=m\/m=k)/\n<=m/\s.size- m<F/\Hid (FH s F m acc=tgt)/\Hid (Et s pos m)/\Hid (IY w s wr pos u n acc)) (fun _ _ wr=>s.size- wr.iterPos w.heap.size);case atStart=>exact⟨0,0,s.size+1,0,0,[],rfl,AC,AZ _,AC,.inl rfl,AC,by omega,HTG,Et.here _,HS0⟩
 case round=>
  obtain⟨n,k,F,pos,m,acc,rfl,hpm,hms,hkm,hpk,hnm,hF,HT,HRE,HS⟩:=hrel;clear HTG HS0;have HIP:Hid (wr.iterPos w.heap.size=pos):=KR (AA HS).iter;by_cases hlt:pos<s.size;case neg=>
   have hnx:∀ty,(Instr.next (.pointer (some ⟨w.heap.size,0,none⟩)) true ty).run prog wr=_:=fun ty=>Lib.run_next_end_at wr w.heap.size s pos ty (AA HS).iter hlt;have HE:Hid (tgt=(acc,0,0)):=by show _=_;rw[<-AA HT,Ky (fun h=>by omega)]
   go_wp2_with fail
   go_ret3
   rw[AA HE];exact(AA HS).gives
  have hnx:∀ty,(Instr.next (.pointer (some ⟨w.heap.size,0,none⟩)) true ty).run prog wr=_:=fun ty=>Lib.run_next_any_at wr w.heap.size s pos ty (AA HS).iter hlt;have hwd:=Lib.decode_width_pos s pos hlt;have hwe:=CA hlt;have HS1:=AB ((AA HS).move (pos+(Utf8.decode s pos).2));have HNXT:=AB (fun h=>(AA HRE).next h);obtain⟨v,hv⟩:∃v,(Utf8.decode s pos).1=v:=⟨_,rfl⟩
  obtain⟨wd,hw⟩:∃n,(Utf8.decode s pos).2=n:=⟨_,rfl⟩
  rw[hv,hw]at hnx;obtain⟨z,hz⟩:∃z:Int,((v:Nat):Int)=z:=⟨_,rfl⟩
  rw[hz]at hnx;have HZ:=AB hz;rw[hw]at hwd hwe HS1 HNXT;have HV:=AB hv;have HW:=AB hw;clear hv hw hz;obtain⟨wr1,hw1⟩:∃W,wr.iterAt w.heap.size s (pos+wd)=W:=⟨_,rfl⟩
  rw[hw1]at HS1 hnx;clear hw1;have HIP1:Hid (wr1.iterPos w.heap.size=pos+wd):=KR (AA HS1).iter;by_cases hsk:pos<m;case pos=>
   have hkp:(pos:Int)<(k:Int):=by omega
   have HRN:Hid (Et s (pos+wd) m):=(AA HNXT (by omega)).2;have hle:=(AA HRN).le;go_wp2_with fail;go_roundw;case rel=>exact⟨n,k,F,pos+wd,m,acc,rfl,hle,hms,hkm,.inr (by omega),hnm,hF,HT,HRN,HS1⟩
   case measure=>rw[AA HIP,AA HIP1];omega
  obtain rfl:pos=m:=by omega
  have hkp:¬(pos:Int)<(k:Int):=by omega
  clear HNXT HRE hsk;have HBL:Hid (∀W,Calls prog 99 #[.int .i32 z] W fun e w'=>e=.returned (.bool (decide (v=32\/v=9)))/\w'=W):=by rw[<-AA HZ];exact AB (fun W=>N9 v W)
  by_cases hbl:v=32\/v=9;case pos=>
   have hb32:bt s pos=32\/bt s pos=9:=hbl.imp (fun h=>(JA (by omega)).1 ((AA HV).trans h)) (fun h=>(JA (by omega)).1 ((AA HV).trans h));have hwd1:wd=1:=by rw[<-AA HW,BX,AL (by omega)]
   have hrm:DX s pos=false:=by
    cases h:DX s pos with
    |false=>rfl
    |true=>have:=LW.1 h;rw[AA HV]at this;omega
   have HNX:Hid (FH s (F- 1) (pos+wd) acc=tgt):=by show _=_;rw[hwd1,<-Ob hF ⟨hlt,hrm⟩ hb32];exact AA HT
   rw[AK hbl]at HBL;clear hbl hb32 hrm hwd1;go_wp2_with(go_at_call 99;refine(AA HBL _).mono ?_;rintro e w5⟨rfl,hw⟩;obtain rfl:=hw.symm);go_roundw;case rel=>exact⟨n,k,F- 1,pos+wd,pos+wd,acc,rfl,AC,hwe,by omega,.inl rfl,by omega,by omega,HNX,Et.here _,HS1⟩
   case measure=>rw[AA HIP,AA HIP1];omega
  rw[AD hbl]at HBL;by_cases hrk:v=9053;case pos=>
   have hrm:DX s pos=true:=LW.2 ((AA HV).trans hrk);have HE:Hid (tgt=(acc,0,0)):=by show _=_;rw[<-AA HT,Ky (fun h=>by rw[hrm]at h;cases h.2)]
   have hrki:z=9053:=by rw[<-AA HZ,hrk];rfl
   rw[hrki]at HBL hnx;clear hbl hrm hrk hrki HZ;go_wp2_with(go_at_call 99;refine(AA HBL _).mono ?_;rintro e w5⟨rfl,hw⟩;obtain rfl:=hw.symm)
   go_ret3
   rw[AA HE];exact(AA HS1).gives
  have hrki:¬ z=9053:=by rw[<-AA HZ];omega
  have HM:Hid (pos<s.size/\DX s pos=false):=by
   refine⟨hlt,?_⟩;cases h:DX s pos with
   |false=>rfl
   |true=>have:=LW.1 h;rw[AA HV]at this;exact absurd this hrk
  have HNB:Hid (¬(bt s pos=32\/bt s pos=9)):=fun h=>hbl (h.imp (fun h=>(AA HV).symm.trans ((JA (by omega)).2 h)) (fun h=>(AA HV).symm.trans ((JA (by omega)).2 h)));have HC0:=AB (SD s pos v (AA HV) wr1 hlt (by omega) ((AA HR).below ((AA HS1).low)) ((AA HTB).below (AA HS1).low));have heg:=VU v;have HRO:Hid (∀W,Calls prog 100 #[.int .i32 z] W fun e w'=>e=.returned (.func (.func (Dx v)) #[] #[])/\w'=W):=by rw[<-AA HZ];exact AB (fun W=>PJ v W)
  have HTE:=AB (fun h=>Ic hlt h);have HRT:=AB (fun h=>UY hlt h);have HLB:=AB (fun h=>Tf (acc:=acc) hF (AA HM) (AA HNB) h);have HLT:=AB (fun h=>Te (acc:=acc) hF (AA HM) (AA HNB) h);have hsl:=fun W=>QK (s:=s) (q:=pos) (by omega) W;rw[AA HW]at HRT;obtain⟨rd,hrd⟩:∃r,Dx v=r:=⟨_,rfl⟩
  rw[hrd]at HC0 heg HRO;obtain⟨x,hx⟩:∃x,s.extract pos s.size=x:=⟨_,rfl⟩
  rw[hx]at HC0;simp only[hx]at hsl;obtain⟨gt,hgt⟩:∃g,BO s pos=g:=⟨_,rfl⟩
  rw[hgt]at HC0 HTE HLB HLT HRT;clear hgt hx hrd hbl hrk;obtain⟨tk,tn,tt,te,tc⟩:=gt;have HC:Hid (Calls prog rd #[.string x] wr1 fun e' w'=>e'=.returned (.tuple #[.agg #[.int .i64 tk,.int .i64 tn,.string tt,.int .i64 0],.int .i64 ((te- pos:Nat):Int),.int .i64 tc])/\Below wr1.heap.size wr1 w'):=AA HC0;clear HC0;obtain⟨wt,hwt⟩:∃x,te- pos=x:=⟨_,rfl⟩
  rw[hwt]at HC;have HWT:=AB hwt;clear hwt;by_cases hc:tc=0;case neg=>
   have hci:(tc==0)=false:=by simpa using hc
   have HE:Hid (tgt=([],tc,pos)):=by show _=_;rw[<-AA HT];exact AA HLB hc
   clear HTE HLT HLB HRT;go_wp2_with(first|(go_at_call 99;refine(AA HBL _).mono ?_;rintro e w5⟨rfl,hw⟩;obtain rfl:=hw.symm)|(go_at_call 100;refine(AA HRO _).mono ?_;rintro e w5⟨rfl,hw⟩;obtain rfl:=hw.symm)|(go_at_fn rd;refine(AA HC).mono ?_;rintro e w5⟨rfl,hb5⟩;have HS5:=AB ((AA HS1).below hb5);clear hb5))
   go_ret3
   rw[AA HE];exact NU tc pos ((AA HS5).low.alloc (FN (AA HS5).lt) _)
  case pos=>
   subst hc;have hte:=AA HTE rfl;have HRN:=AB (AA HRT rfl);have HNX:Hid (FH s (F- 1) te (acc++ [⟨tk,tn,tt,pos⟩])=tgt):=by show _=_;rw[<-AA HT];exact(AA HLT rfl).symm
   have hte1:pos<te:=hte.1;have hte2:te<=s.size:=hte.2;have ewt:(pos:Int)+(wt:Int)=(te:Int):=by have:=AA HWT;omega
   have hwte:IntKind.i64.wrap (te:Int)=(te:Int):=by rw[IntKind.wrap_i64];omega
   have hle:=(AA HRN).le;clear HTE HLT HLB hte HRT;go_wp2_with(first|(go_at_call 99;refine(AA HBL _).mono ?_;rintro e w5⟨rfl,hw⟩;obtain rfl:=hw.symm)|(go_at_call 100;refine(AA HRO _).mono ?_;rintro e w5⟨rfl,hw⟩;obtain rfl:=hw.symm)|(go_at_fn rd;refine(AA HC).mono ?_;rintro e w5⟨rfl,hb5⟩;have HS5:=AB ((AA HS1).below hb5);have hz5:=(AA HS5).lt;clear hb5)|(at_builtin;refine wpList_append_lies _ rfl _ _ 76 rfl (w.heap.size+1) 64 i0 (.agg #[.int .i64 0,.int .i64 0,.string ⟨#[]⟩,.int .i64 0]) 4 40 underlying76 hi hz0 hz2 hz3 rfl (by decide) _ _ _ rfl ((AA HS5).below (((DP _ w5).alloc AC _).alloc (by simp) _)).own ⟨w5.heap.size+1,0,none⟩ 1 1 (Bo ⟨tk,tn,tt,pos⟩) rfl rfl (XE (w5.alloc (.cells #[.int .i64 tk,.int .i64 tn,.string tt,.int .i64 (pos:Nat)] 64)) (w5.heap.size+1) (by simp) ⟨tk,tn,tt,pos⟩) (TW _) (by omega) (by unfold maxLen;omega) (by omega) (by simp;omega) (w5.heap.size+1+1) (by simp) ?_;intro g' CW w7 A2 Au hat Cu;have HF7:=AB (IY.push ((AA HS5).below (((DP _ w5).alloc AC _).alloc (by simp) _)) A2 Au);clear Au hat A2 Cu));have HIP7:Hid (w7.iterPos w.heap.size=pos+wd):=KR (AA HF7).iter;go_roundw;case rel=>exact⟨n+1,te,F- 1,pos+wd,te,acc++ [⟨tk,tn,tt,pos⟩],rfl,hle,hte2,AC,.inr rfl,by omega,by omega,HNX,HRN,HF7⟩
   case measure=>rw[AA HIP,AA HIP7];omega
def D9.at3{w:World}{p:Nat}{v0 v1 v2 v3:Value}(h:D9 w p v0 v1 v2 v3)(v:Value):D9 (w.setCell ⟨p,3,none⟩ v) p v0 v1 v2 v:=by unfold D9 at h ⊢;simp[World.setCell,Array.getElem?_modify,h]
def Ht.first{w:World}{a:Option Addr}{y:CO}(h:Ht w a 1 [y]):∃b off,a=some ⟨b,off,none⟩/\w.cell? ⟨b,off,none⟩=some (.int .i64 y.k)/\w.cell? ⟨b,off+1,none⟩=some (.int .i64 y.n)/\w.cell? ⟨b,off+2,none⟩=some (.string y.t)/\w.cell? ⟨b,off+3,none⟩=some (.int .i64 (y.p:Nat)):=by
 obtain⟨b,off,t,e,_,et,a0,a1,a2,a3⟩:=h.get (j:=0) (by omega);have:y=t:=by simpa using et
 subst this;exact⟨b,off,e,by simpa using a0,by simpa using a1,by simpa using a2,by simpa using a3⟩
def On(x y:Operand)(xs ys:Array Value)(W:World):(eqGuard .neq 64 x y (.agg xs) (.agg ys)).run prog W=.ok () W:=run_eqGuard_agg W .neq 64 x y xs ys (by kernel_rfl)
def Tc(k n p k' n' p':Int)(t t':AE)(W:World):(binOp .neq 64 (.agg #[.int .i64 k,.int .i64 n,.string t,.int .i64 p]) (.agg #[.int .i64 k',.int .i64 n',.string t',.int .i64 p'])).run prog W=.ok (.bool (!(k==k'&&n==n'&&t.toList==t'.toList&&p==p'))) W:=by
 rw[run_neq_struct,run_equalIn_agg W 9999 64 _ _ (by kernel_rfl) (by kernel_rfl)];unfold Program.fieldsOf;rw[underlying64];cases h1:(k==k')<;>cases h2:(n==n')<;>cases h3:(t.toList==t'.toList)<;>cases h4:(p==p')
 all_goals(go_simp;try simp_all)
def XF(k n:Int)(t:AE)(W:World):(binOp .neq 64 (.agg #[.int .i64 k,.int .i64 n,.string t,.int .i64 0]) (.agg #[.int .i64 k,.int .i64 n,.string t,.int .i64 0])).run prog W=.ok (.bool false) W:=by rw[Tc];simp
def Uk(k n:Int)(t:AE)(yk yn:Int)(yt:AE)(yp:Nat)(h:¬(yk=k/\yn=n/\yt=t))(W:World):(binOp .neq 64 (.agg #[.int .i64 yk,.int .i64 yn,.string yt,.int .i64 (yp:Nat)]) (.agg #[.int .i64 k,.int .i64 n,.string t,.int .i64 0])).run prog W=.ok (.bool true) W:=by
 rw[Tc];have:(yk==k&&yn==n&&yt.toList==t.toList&&((yp:Nat):Int)==0)=false:=by
  cases hb:(yk==k&&yn==n&&yt.toList==t.toList&&((yp:Nat):Int)==0)with
  |false=>rfl
  |true=>
   simp only[An,Hk]at hb;refine absurd ⟨hb.1.1.1,hb.1.1.2,?_⟩ h;have e:=hb.1.2;rw[Lib.toList_data,Lib.toList_data]at e;exact CJ (CI.1 e)
 rw[this];rfl
def L3(k n at':Int)(t:AE)(w:World)(hn: -9223372036854775808<=n/\n<=9223372036854775807)(ht:t.size<=1048576)(hG:Vq w)(hR:Fo w)(hT:Fu w):Calls prog 38 #[.agg #[.int .i64 k,.int .i64 n,.string t,.int .i64 at']] w fun e w'=>e=.returned (.string (DJ k n t))/\Below w.heap.size w w':=by
 have hx2:(Dd k n t).size<=2097154:=by
  unfold Dd;split
  .rw[Fz];have:=(M7 n (by omega)).1;omega
  .split
   .show(EC t.data.toList).toArray.size<=_;have:=(Mu t.data.toList).1;rw[<-Lib.size_eq]at this;unfold EC;unfold qd at this;rw[Eu,Ba,AH];simp only[Ba,Fp];omega
   .omega
 have HZ:=AB (fun(y:CO)=>Vc (k:=k) (n:=n) (t:=t) (y:=y) (by omega));obtain⟨Q,hQ⟩:∃Q,Q=w.alloc (.cells #[.int .i64 k,.int .i64 n,.string t,.int .i64 at'] 64):=⟨_,rfl⟩
 have HQ:=AB hQ;have HXQ:Hid (D9 Q w.heap.size (.int .i64 k) (.int .i64 n) (.string t) (.int .i64 at')):=by rw[hQ];exact D9.new w _ _ _ _
 have HBQ:Hid (Below w.heap.size w Q):=by rw[hQ];exact AI.alloc AC _
 have HD:=AB (UM k n at' t hn ht Q (hG.below (AA HBQ)));have HGG:Hid (∀v,Below w.heap.size w v->Fo v/\Fu v):=fun v hv=>⟨hR.below hv,hT.below hv⟩
 obtain⟨res,hres⟩:∃res,DJ k n t=res:=⟨_,rfl⟩
 rw[hres];unfold DJ at hres;obtain⟨x,hx⟩:∃x,Dd k n t=x:=⟨_,rfl⟩
 rw[hx]at hres hx2 HD HZ;obtain⟨r,hr⟩:∃r,Br x=r:=⟨_,rfl⟩
 rw[hr]at hres HZ;have HRR:=AB hr;obtain⟨ts,cd,pl⟩:=r;have HRES:=AB hres;obtain⟨n6,hn6⟩:∃m,ts.length=m:=⟨_,rfl⟩
 have HN6:=AB hn6;clear hQ hx hr hres hn ht hG hR hT hn6;go_enter func38,ntmps38;go_wp2_with(first|(go_at_call 82;rw[<-AA HQ];refine(AA HD).mono ?_;rintro e w5⟨rfl,hb5⟩;have HB5:=AB ((AA HBQ).trans (hb5.mono (AA HBQ).size));have HX5:=AB ((AA HXQ).below AC hb5);obtain⟨p0,p1,p2,p3,g0,g1,g2,g3⟩:=(AA HX5).all;have HX6:=AB ((AA HX5).at3 (.int .i64 0));obtain⟨cap,W1,hcv,hcap,DI,hbW,hzW⟩:=LG (w5.setCell ⟨w.heap.size,3,none⟩ (.int .i64 0)) x;have hz5:(w5.setCell ⟨w.heap.size,3,none⟩ (.int .i64 0)).heap.size=w5.heap.size:=(by simp);rw[hz5]at hcv DI;have HB1:Hid (Below w.heap.size w W1):=((AA HB5).setCell AC _).trans (hbW.mono (by rw[hz5];exact(AA HB5).size));have HX1:=AB ((AA HX6).below AC hbW);have HL:=AB (H7 w5.heap.size 0 cap x W1 DI (by omega) (AA HGG _ (AA HB1)).1 (AA HGG _ (AA HB1)).2);clear hb5 hcap DI hbW hzW hz5)|(go_at_call 47;refine(AA HL).mono ?_;rintro e w6⟨v6,he,hW,hb6⟩;rw[AA HRR]at he hW;have hW':w6.ownsRow W1.heap.size 64 4 v6 n6 (ts.flatMap Bo):=(by rw[<-AA HN6];exact hW);obtain⟨a4,c4,hv6,hO4⟩:=PQ hW';subst hv6;have he':e=.returned (.tuple #[.slice a4 n6 c4,.int .i64 cd,.int .i64 (pl:Nat)]):=he;subst he';have HB6:=AB ((AA HB1).trans (hb6.mono (AA HB1).size));have HX7:=AB ((AA HX1).below AC hb6);have HR6:=AB hO4.row;obtain⟨q0,q1,q2,q3,f0,f1,f2,f3⟩:=(AA HX7).all;clear he hW hW' hb6 hO4 hcv));by_cases hcd:cd=0;case neg=>
  have hd:(cd !=0)=true:=by simpa using hcd
  have HE:Hid (EY k n t (ts,cd,pl)=false):=Nm hcd;clear hcd;go_quiet(fail);go_wp2_with fail;go_ret;exact⟨by rw[<-AA HRES,AA HE];rfl,Below.drewN (AA HB6) _⟩
 subst hcd;by_cases hn1:n6=1;case neg=>
  have hd:((n6:Int) !=1)=true:=by simp;omega
  have HE:Hid (EY k n t (ts,0,pl)=false):=Nl (fun e=>hn1 (by rw[<-AA HN6];exact e));clear hn1;go_quiet(fail);go_wp2_with fail;go_ret;exact⟨by rw[<-AA HRES,AA HE];rfl,Below.drewN (AA HB6) _⟩
 subst hn1;obtain⟨y,rfl⟩:∃y,ts= [y]:=by
  have h:=AA HN6
  match ts,h with
  | [y],_=>exact⟨y,rfl⟩
 obtain⟨b4,o4,rfl,y0,y1,y2,y3⟩:=(AA HR6).first;have HBB:Hid (EY k n t ([y],0,pl)=(decide (y.k=k)&&decide (y.n=n)&&decide (y.t=t))):=by show _=_;unfold EY;simp
 have HP:=AB (AA HZ y rfl rfl);obtain⟨yk,yn,yt,yp⟩:=y;by_cases hall:yk=k/\yn=n/\yt=t;case pos=>
  obtain⟨rfl,rfl,rfl⟩:=hall;have hp0:yp=0:=AA HP rfl rfl;subst hp0;have HE:Hid (EY yk yn yt ([⟨yk,yn,yt,0⟩],0,pl)=true):=by show _=_;rw[AA HBB];simp
  have hne:=fun W=>XF yk yn yt W;have heg:=On;go_quiet(fail);go_wp2_with fail;go_ret;exact⟨by rw[<-AA HRES,AA HE];rfl,Below.drewN (AA HB6) _⟩
 have HE:Hid (EY k n t ([⟨yk,yn,yt,yp⟩],0,pl)=false):=by
  show _=_;rw[AA HBB];cases hb:(decide (yk=k)&&decide (yn=n)&&decide (yt=t))with
  |false=>rfl
  |true=>simp at hb;exact absurd ⟨hb.1.1,hb.1.2,hb.2⟩ hall
 have hne:=fun W=>Uk k n t yk yn yt yp hall W;have heg:=On;clear hall;go_quiet(fail);go_wp2_with fail;go_ret;exact⟨by rw[<-AA HRES,AA HE];rfl,Below.drewN (AA HB6) _⟩
