import Derived.Test.YtinndpnilmmmjaaGreatDoorZ28
set_option maxRecDepth 20000
set_option maxHeartbeats 4000000
set_option linter.defProp false
namespace Go.Proofs.YtinndpnilmmmjaaGreatDoor
open Go.RowKit Go.Proofs.Tryz
section
variable {Z w w0 w1:World}{p i j q:Nat}{nd nd0 nd1 v:Value}{zs:List Int}{xs ys:List AW}{bx:List Nat}{ns:List AM}{ta:Option Addr}{tn tc:Nat}{ts:List CO}{b b' g:Bool}{t:List AM}
def Fa.step(h:Fa Z p ta tn tc b w0 nd0 xs ys i w nd)(d:Nat)(z:Int)(hz:z=(i:Int)+(d:Nat)):Fa Z p ta tn tc b w0 nd0 xs ys (i+d) (w.setCell ⟨p,1,none⟩ (.int .i64 z)) nd:=by
 have e:z=((i+d:Nat):Int):=by omega
 subst e;obtain⟨h1,h2⟩:=h.ps.setAt (i+d);exact h.move h1 h2
def Fa.bad(h:Fa Z p ta tn tc b w0 nd0 xs ys i w nd):Fa Z p ta tn tc true w0 nd0 xs ys i (w.setCell ⟨p,2,none⟩ (.bool true)) nd:=by obtain⟨h1,h2⟩:=h.ps.set2 (.bool true);exact⟨h1,h.but.trans h.at_ h2,h.at_,h.new⟩
def NT(E:Bk Z ta tn ts)(h:EV Z p ta tn tc false w i nd xs)(hi:i<=4200){c:Nat}(hc:c∈Ar){s:AE}(hs:s=BU (BW ((c:Nat):Int)))(hy:(AF ts).cl i=c):Calls prog 44 #[.pointer (some ⟨p,0,none⟩),.string s] w fun e w'=>e=.returned (.bool true)/\Fa Z p ta tn tc false w nd xs [] (i+1) w' nd:=by
 have HS:=AB (I9 E h (z:=0) (j:=i) (by omega) hi);have HM:Hid (Fa Z p ta tn tc false w nd xs [] i w nd):=BE.start h;have hq:=QJ E.ok i hc hs;rw[AK hy]at hq;obtain⟨x,hx⟩:∃x,Ej ts i=x:=⟨_,rfl⟩
 rw[hx]at HS hq;obtain⟨p0,p1,p2,p3,f0,f1,f2,f3,hpl⟩:=h.all;have hw1:IntKind.i64.wrap ((i:Int)+1)=(i:Int)+1:=by rw[IntKind.wrap_i64];omega
 clear h hs hc hy hx E;go_enter func44,ntmps44;go_wp2_with(go_at_call 91;refine(AA HS).mono ?_;rintro e w5⟨rfl,hb5⟩;have hm:=(AA HM).below hb5;clear p0 p1 p2 p3 f0 f1 f2 f3 hpl;obtain⟨p0,p1,p2,p3,f0,f1,f2,f3,hpl⟩:=hm.ps.all;have HM5:=AB (Fa.step hm 1 ((i:Int)+1) (by omega));clear hm hb5);go_ret;exact⟨rfl,AA HM5⟩
def Qw(E:Bk Z ta tn ts)(h:EV Z p ta tn tc false w i nd xs)(hi:i<=4200){c:Nat}(hc:c∈Ar){s:AE}(hs:s=BU (BW ((c:Nat):Int)))(hy:(AF ts).cl i≠c):Calls prog 44 #[.pointer (some ⟨p,0,none⟩),.string s] w fun e w'=>e=.returned (.bool false)/\Fa Z p ta tn tc false w nd xs [] i w' nd:=by
 have HS:=AB (I9 E h (z:=0) (j:=i) (by omega) hi);have HM:Hid (Fa Z p ta tn tc false w nd xs [] i w nd):=BE.start h;have hq:=QJ E.ok i hc hs;rw[AD hy]at hq;obtain⟨x,hx⟩:∃x,Ej ts i=x:=⟨_,rfl⟩
 rw[hx]at HS hq;obtain⟨p0,p1,p2,p3,f0,f1,f2,f3,hpl⟩:=h.all;clear h hs hc hy hx E;go_enter func44,ntmps44;go_wp2_with(go_at_call 91;refine(AA HS).mono ?_;rintro e w5⟨rfl,hb5⟩;have HM5:=AB ((AA HM).below hb5);clear hb5);go_ret;exact⟨rfl,AA HM5⟩
def Pn(h:EV Z p ta tn tc true w i nd xs)(s:AE):Calls prog 44 #[.pointer (some ⟨p,0,none⟩),.string s] w fun e w'=>e=.returned (.bool false)/\Fa Z p ta tn tc true w nd xs [] i w' nd:=by have HM:Hid (Fa Z p ta tn tc true w nd xs [] i w nd):=BE.start h;obtain⟨p0,p1,p2,p3,f0,f1,f2,f3,hpl⟩:=h.all;clear h;go_enter func44,ntmps44;go_wp2_with fail;go_ret;exact⟨rfl,AA HM⟩
def Oz(E:Bk Z ta tn ts)(h:EV Z p ta tn tc false w i nd xs)(hi:i<=4200){c:Nat}(hc:c∈Ar){s:AE}(hs:s=BU (BW ((c:Nat):Int)))(hy:(AF ts).cl i=c):Calls prog 144 #[.pointer (some ⟨p,0,none⟩),.string s] w fun e w'=>e=.returned (.tuple #[])/\Fa Z p ta tn tc false w nd xs [] (i+1) w' nd:=by
 have HS:=AB (NT E h hi hc hs hy);clear h hs hc hy E;go_enter func144,ntmps144;go_wp2_with(go_at_call 44;refine(AA HS).mono ?_;rintro e w5⟨rfl,hm⟩;have HM5:=AB hm;clear hm);first|go_end0|refine bodyPost_ret (results_none rfl _ _ _) rfl ?_
 exact⟨rfl,AA HM5⟩
def Rk(E:Bk Z ta tn ts)(h:EV Z p ta tn tc false w i nd xs)(hi:i<=4200){c:Nat}(hc:c∈Ar){s:AE}(hs:s=BU (BW ((c:Nat):Int)))(hy:(AF ts).cl i≠c):Calls prog 144 #[.pointer (some ⟨p,0,none⟩),.string s] w fun e w'=>e=.returned (.tuple #[])/\Fa Z p ta tn tc true w nd xs [] i w' nd:=by
 have HS:=AB (Qw E h hi hc hs hy);clear h hs hc hy E;go_enter func144,ntmps144;go_wp2_with(go_at_call 44;refine(AA HS).mono ?_;rintro e w5⟨rfl,hm⟩;obtain⟨p0,p1,p2,p3,f0,f1,f2,f3,hpl⟩:=hm.ps.all;have HM5:=AB (Fa.bad hm);clear hm);first|go_end0|refine bodyPost_ret (results_none rfl _ _ _) rfl ?_
 exact⟨rfl,AA HM5⟩
def O0(h:EV Z p ta tn tc true w i nd xs)(s:AE):Calls prog 144 #[.pointer (some ⟨p,0,none⟩),.string s] w fun e w'=>e=.returned (.tuple #[])/\Fa Z p ta tn tc true w nd xs [] i w' nd:=by
 have HS:=AB (Pn h s);clear h;go_enter func144,ntmps144;go_wp2_with(go_at_call 44;refine(AA HS).mono ?_;rintro e w5⟨rfl,hm⟩;obtain⟨p0,p1,p2,p3,f0,f1,f2,f3,hpl⟩:=hm.ps.all;have HM5:=AB (Fa.bad hm);clear hm);first|go_end0|refine bodyPost_ret (results_none rfl _ _ _) rfl ?_
 exact⟨rfl,AA HM5⟩
def Po(ps:List AE)(s:AE):Nat->Nat->Nat
 |0,_=>0
 |f+1,k=>if k<ps.length then(if((ps.getD k ⟨#[]⟩).toList==s.toList)=true then k+1 else Po ps s f (k+1))else 0
def KN(s:AE)(w:World):Calls prog 149 #[.string s] w fun e w'=>e=.returned (.int .i64 (Po Ii s 34 0:Nat))/\Below w.heap.size w w':=by
 have HP:=AB (Qf w);have Ae:=SF;obtain⟨ps,hps⟩:∃ps,Ii=ps:=⟨_,rfl⟩
 rw[hps]at HP Ae ⊢;obtain⟨r,hr⟩:∃r,Po ps s 34 0=r:=⟨_,rfl⟩
 rw[hr];have HR:=AB hr;unfold Jq at HP;rw[Ae]at HP;have HLEN:=AB Ae;clear hps hr Ae;go_enter func149,ntmps149;go_wp2_with(go_at_call 122;refine(AA HP).mono ?_;rintro e w5⟨gb,cap,rfl,DI,hb5⟩;have HROW:=AB DI;have HB5:=AB hb5;clear DI hb5);go_loopw[4] (fun u wr=>∃(k f:Nat),u=.int .i64 (k:Nat)/\k<=33/\33<f+k/\Hid (Po ps s f k=r)/\wr=w5) (fun u _=>34- (intOf u).toNat);case atStart=>exact⟨0,34,rfl,by omega,by omega,HR,rfl⟩
 case round=>
  obtain⟨k,f,rfl,hk,hf,HF,rfl⟩:=hrel;clear HR;obtain⟨f',rfl⟩:∃f',f=f'+1:=⟨f- 1,by omega⟩
  by_cases hlt:k<33;case neg=>
   have hk33:k=33:=by omega
   subst hk33;have HE:Hid (((0:Nat):Int)=((r:Nat):Int)):=by show _=_;rw[<-AA HF,Po,AG (by rw[AA HLEN];omega)]
   clear HF hlt;go_wp2_with fail;go_ret;exact⟨by rw[<-AA HE];rfl,AA HB5⟩
  case pos=>
   obtain⟨bb,off,rfl',hbl,hc⟩:∃bb off,(some ⟨gb,0,none⟩:Option Addr)=some ⟨bb,off,none⟩/\bb<wr.heap.size/\wr.cell? ⟨bb,off+k,none⟩=some (.string (ps.getD k ⟨#[]⟩)):=by
    rcases(AA HROW).at_ with h0|⟨bb,off,e,hb,hc⟩
    .omega
    .exact⟨bb,off,e,hb,hc k hlt⟩
   cases rfl';have hF:=AA HF;rw[Po,AL (by rw[AA HLEN];exact hlt)]at hF;obtain⟨y,hy⟩:∃y,ps.getD k ⟨#[]⟩=y:=⟨_,rfl⟩
   rw[hy]at hF hc;have hki:(k:Int)<33:=by omega
   have hw1:IntKind.i64.wrap ((k:Int)+1)=(k:Int)+1:=by rw[IntKind.wrap_i64];omega
   rw[BY]at hc;clear hy HF;by_cases hq:(y.toList==s.toList)=true;case pos=>
    rw[AL hq]at hF;have HE:Hid ((k:Int)+1=((r:Nat):Int)):=by show _=_;rw[<-hF];rfl
    clear hF;go_wp2_with fail;go_ret;exact⟨by rw[<-AA HE];rfl,AA HB5⟩
   case neg=>
    have hq':(y.toList==s.toList)=false:=by simpa using hq
    rw[AG hq]at hF;have HF:=AB hF;clear hF hq;go_wp2_with fail;go_roundw;case rel=>exact⟨k+1,f',rfl,by omega,by omega,HF,trivial⟩
    case measure=>simp[intOf];omega
end
def Wl:(Ar.all fun c=>decide (Po Ii (BU (BW ((c:Nat):Int))) 34 0=Bd c))=true:=by kernel_rfl
def Wj:Po Ii ⟨#[]⟩ 34 0=0:=by kernel_rfl
def Mb{ts:List CO}(hok:∀y∈ts,F0 y)(j:Nat):(Ej ts j=⟨#[]⟩/\(AF ts).cl j<=4)\/∃c∈Ar,Ej ts j=BU (BW ((c:Nat):Int))/\(AF ts).cl j=c:=by
 by_cases hj:j<ts.length
 .have e:Al ts 0 j=ts[j]:=by unfold Al;simp[List.getD_eq_getElem?_getD,hj]
  have hc:(AF ts).cl j=JS ts[j]:=by show(if j<ts.length then JS (Al ts 0 j)else 0)=_;rw[AL hj,e]
  have hk:=hok _ (By hj);unfold Ej;rw[hc,e];generalize ts[j]=y at hk;unfold JS;rcases hk with⟨h,_⟩|h|⟨h,_⟩|⟨h,c,hm,ht⟩
  .exact .inl ⟨by rw[AG (by omega)],by simp[h]⟩
  .exact .inl ⟨by rw[AG (by omega)],by simp[h]⟩
  .refine .inl ⟨by rw[AG (by omega)],?_⟩;rw[h];simp;split<;>omega
  .refine .inr ⟨c,hm,by rw[AL h];exact ht,?_⟩;rw[AG (by omega),AG (by omega),AG (by omega),AL h,ht,FD hm]
 .left;unfold Ej;rw[I8 hj];refine⟨rfl,?_⟩;show(if j<ts.length then JS (Al ts 0 j)else 0)<=4;rw[AG hj];omega
def Wk{c:Nat}(h:c<=4):Bd c=0:=by
 have:c=0\/c=1\/c=2\/c=3\/c=4:=by omega
 rcases this with rfl|rfl|rfl|rfl|rfl<;>decide
def PC{ts:List CO}(hok:∀y∈ts,F0 y)(j:Nat):Po Ii (Ej ts j) 34 0=Bd ((AF ts).cl j):=by
 rcases Mb hok j with⟨h1,h2⟩|⟨c,hc,h1,h2⟩
 .rw[h1,Wj,Wk h2]
 .rw[h1,h2];exact AT (Ax.mp Wl c hc)
def Eg(c:Nat):Bool:=decide (c=1\/c=2\/c=3\/c=9082\/c=9077\/c=9068\/c=40)
def IJ(c:Nat):Bool:=decide (c=0\/c=41\/c=93\/c=59\/c=125\/c=8900\/c=58\/c=8592)
def CK{ts:List CO}(hok:∀y∈ts,F0 y)(j:Nat):((Al ts 0 j).k=0/\(AF ts).cl j=0/\¬ j<ts.length)\/((Al ts 0 j).k=1/\(AF ts).cl j=1/\j<ts.length)\/((Al ts 0 j).k=2/\(AF ts).cl j=2/\j<ts.length)\/((Al ts 0 j).k=3/\((AF ts).cl j=3\/(AF ts).cl j=4)/\j<ts.length)\/((Al ts 0 j).k=4/\40<=(AF ts).cl j/\j<ts.length):=by
 by_cases hj:j<ts.length
 .have e:Al ts 0 j=ts[j]:=by unfold Al;simp[List.getD_eq_getElem?_getD,hj]
  have hc:(AF ts).cl j=JS ts[j]:=by show(if j<ts.length then JS (Al ts 0 j)else 0)=_;rw[AL hj,e]
  have hk:=hok _ (By hj);rw[hc,e];generalize ts[j]=y at hk;unfold JS;rcases hk with⟨h,_⟩|h|⟨h,_⟩|⟨h,c,hm,ht⟩
  .exact .inr (.inl ⟨h,by simp[h],hj⟩)
  .exact .inr (.inr (.inl ⟨h,by simp[h],hj⟩))
  .refine .inr (.inr (.inr (.inl ⟨h,?_,hj⟩)));by_cases h9:bt y.t 0<=90<;>simp[h,h9]
  .refine .inr (.inr (.inr (.inr ⟨h,?_,hj⟩)));rw[AG (by omega),AG (by omega),AG (by omega),AL h,ht,FD hm];exact AT (Ax.mp If c hm)
 .left;rw[I8 hj];refine⟨rfl,?_,hj⟩;show(if j<ts.length then JS (Al ts 0 j)else 0)=0;rw[AG hj]
section
variable {Z w w0 w1:World}{p i j q:Nat}{nd nd0 nd1 v:Value}{zs:List Int}{xs ys:List AW}{bx:List Nat}{ns:List AM}{ta:Option Addr}{tn tc:Nat}{ts:List CO}{b b' g:Bool}{t:List AM}
def Kd(E:Bk Z ta tn ts)(h:EV Z p ta tn tc b w i nd xs){z:Int}{j:Nat}(hz:(i:Int)+z=(j:Int))(hj:j<=4200):Calls prog 96 #[.pointer (some ⟨p,0,none⟩),.int .i64 z] w fun e w'=>e=.returned (.int .i64 (Ah ((AF ts).cl j):Nat))/\Below w.heap.size w w':=by
 have HS:=AB (I9 E h hz hj);have HP:=AB (fun V=>KN (Ej ts j) V);rw[PC E.ok j]at HP;obtain⟨x,hx⟩:∃x,Ej ts j=x:=⟨_,rfl⟩
 obtain⟨N,hN⟩:∃N,Bd ((AF ts).cl j)=N:=⟨_,rfl⟩
 have HR:Hid (Ah ((AF ts).cl j)=if N<=16 then N else 0):=by show _=_;unfold Ah;rw[hN]
 rw[hx]at HS HP;rw[hN]at HP;clear h hx hN E;by_cases h16:N<=16
 .rw[AL h16]at HR;have hq:¬(16:Int)<(N:Int):=by omega
  go_enter func96,ntmps96;go_wp2_with(first|(go_at_call 91;refine(AA HS).mono ?_;rintro e w5⟨rfl,hb5⟩;have HB5:=AB hb5;clear hb5)|(go_at_call 149;refine(AA HP _).mono ?_;rintro e w6⟨rfl,hb6⟩;have HB6:=AB ((AA HB5).trans (hb6.mono (AA HB5).size));clear hb6));go_ret;exact⟨by rw[AA HR];rfl,AA HB6⟩
 .rw[AG h16]at HR;have hq:(16:Int)<(N:Int):=by omega
  go_enter func96,ntmps96;go_wp2_with(first|(go_at_call 91;refine(AA HS).mono ?_;rintro e w5⟨rfl,hb5⟩;have HB5:=AB hb5;clear hb5)|(go_at_call 149;refine(AA HP _).mono ?_;rintro e w6⟨rfl,hb6⟩;have HB6:=AB ((AA HB5).trans (hb6.mono (AA HB5).size));clear hb6));go_ret;exact⟨by rw[AA HR];rfl,AA HB6⟩
def WB(E:Bk Z ta tn ts)(h:EV Z p ta tn tc b w i nd xs)(hi:Bool){r:Bool}(hr:decide ((AF ts).cl i=if hi=true then 4 else 3)=r):Calls prog 90 #[.pointer (some ⟨p,0,none⟩),.bool hi] w fun e w'=>e=.returned (.bool r)/\Below w.heap.size w w':=by
 have HK:=AB (fun(n:Nat)=>TJ E (h.below (Below.drewN AI n)));obtain⟨p0,p1,p2,p3,f0,f1,f2,f3,hpl⟩:=h.all;have hT:=E.row.belowS h.low;by_cases h3:(Al ts 0 i).k=3
 .have hlt:i<tn:=by
   rw[<-E.row.len];rcases CK E.ok i with⟨h',_⟩|⟨_,_,h'⟩|⟨_,_,h'⟩|⟨_,_,h'⟩|⟨_,_,h'⟩
   .omega
   .exact h'
   .exact h'
   .exact h'
   .exact h'
  obtain⟨tb,off,y,rfl,hbl,hy,a0,a1,a2,a3⟩:=hT.get hlt;have hty:=Gv hy 0;have hmem:y∈ts:=A1 hy;rw[hty]at h3;have hcl:(AF ts).cl i=if bt y.t 0<=90 then 4 else 3:=by show(if i<ts.length then JS (Al ts 0 i)else 0)=_;rw[AL (by rw[E.row.len];exact hlt),hty];unfold JS;rw[h3];simp
  have hnm:=E.nam y hmem h3 hi;have hsz:=E.siz y hmem;have HN:=AB (fun V=>ND y.t hi V hsz);have hres:C8 y.t hi=r:=by rw[hnm,<-hr,hcl];by_cases h90:bt y.t 0<=90<;>cases hi<;>simp[h90]
  rw[hres]at HN;rw[hty,h3]at HK;have hl2:(i:Int)<(tn:Int):=by omega
  obtain⟨yk,yn,yt,yp⟩:=y;clear h hT hy hty hcl hnm hsz hres hr h3 hmem E a0 a1 a3 p2 p3 f0 f1 f2 f3 hlt;go_enter func90,ntmps90;go_wp2_with fail;go_quiet(first|(go_at_call 143;exact Calls.quiet_of (AA HK _))|(go_at_call 56;exact Calls.quiet_of_same (AA HN _)));go_wp2_with fail;go_ret;exact⟨rfl,Below.drewN AI _⟩
 .have hf:r=false:=by
   rw[<-hr];refine AD fun e=> ?_;have:(AF ts).cl i=4\/(AF ts).cl i=3:=by cases hi<;>simp at e<;>omega
   rcases CK E.ok i with⟨h',h'',_⟩|⟨h',h'',_⟩|⟨h',h'',_⟩|⟨h',h'',_⟩|⟨h',h'',_⟩<;>omega
  subst hf;obtain⟨K,hK⟩:∃K,(Al ts 0 i).k=K:=⟨_,rfl⟩
  rw[hK]at HK h3;have hq:(K==3)=false:=by simpa using h3
  clear h hT hr hK h3 E p0 p1 p2 p3 f0 f1 f2 f3 hpl;go_enter func90,ntmps90;go_wp2_with fail;go_quiet(first|(go_at_call 143;exact Calls.quiet_of (AA HK _)));go_wp2_with fail;go_ret;exact⟨rfl,Below.drewN AI _⟩
end
def QP(w:World)(ps:List AE):TC (w.alloc (.cells (ps.map Value.string).toArray 9)) (some ⟨w.heap.size,0,none⟩) ps.length ps:=by
 have hb:(w.alloc (.cells (ps.map Value.string).toArray 9)).heap[w.heap.size]? =some (.cells (ps.map Value.string).toArray 9 (0,0)):=by show(w.heap.push _)[w.heap.size]? =_;simp
 refine⟨rfl,.inr ⟨w.heap.size,0,rfl,by simp,fun i hi=> ?_⟩⟩;unfold World.cell?;simp only[hb];simp[hi,List.getD_eq_getElem?_getD]
def RS:List AE:= [⟨#[226,141,186]⟩,⟨#[226,141,181]⟩,⟨#[226,141,172]⟩,⟨#[40]⟩]
def RE:List AE:= [⟨#[41]⟩,⟨#[93]⟩,⟨#[59]⟩,⟨#[125]⟩,⟨#[226,139,132]⟩,⟨#[58]⟩,⟨#[226,134,144]⟩]
def aI:(Ar.all fun c=>decide ((RS.any fun p=>p.toList==(BU (BW ((c:Nat):Int))).toList)=Eg c))=true:=by kernel_rfl
def Z4:(Ar.all fun c=>decide ((RE.any fun p=>p.toList==(BU (BW ((c:Nat):Int))).toList)=IJ c))=true:=by kernel_rfl
def aH:(RS.any fun p=>p.toList==(⟨#[]⟩:AE).toList)=false:=by kernel_rfl
def Z3:(RE.any fun p=>p.toList==(⟨#[]⟩:AE).toList)=false:=by kernel_rfl
def bM{ts:List CO}(hok:∀y∈ts,F0 y)(j:Nat)(h1:(AF ts).cl j≠1)(h2:(AF ts).cl j≠2)(h3:(AF ts).cl j≠3):(RS.any fun p=>p.toList==(Ej ts j).toList)=Eg ((AF ts).cl j):=by
 rcases Mb hok j with⟨e1,e2⟩|⟨c,hc,e1,e2⟩
 .rw[e1,aH];symm;exact AD (by omega)
 .rw[e1,e2];exact AT (Ax.mp aI c hc)
def bL{ts:List CO}(hok:∀y∈ts,F0 y)(j:Nat)(h0:(AF ts).cl j≠0):(RE.any fun p=>p.toList==(Ej ts j).toList)=IJ ((AF ts).cl j):=by
 rcases Mb hok j with⟨e1,e2⟩|⟨c,hc,e1,e2⟩
 .rw[e1,Z3];symm;exact AD (by omega)
 .rw[e1,e2];exact AT (Ax.mp Z4 c hc)
section
variable {Z w w0 w1:World}{p i j q:Nat}{nd nd0 nd1 v:Value}{zs:List Int}{xs ys:List AW}{bx:List Nat}{ns:List AM}{ta:Option Addr}{tn tc:Nat}{ts:List CO}{b b' g:Bool}{t:List AM}
def WE(E:Bk Z ta tn ts)(h:EV Z p ta tn tc b w i nd xs)(hi:i<=4200){r:Bool}(hr:Eg ((AF ts).cl i)=r):Calls prog 93 #[.pointer (some ⟨p,0,none⟩)] w fun e w'=>e=.returned (.bool r)/\Below w.heap.size w w':=by
 have HK:=AB (Rx E h);have HN:=AB (fun(V:World)(hV:Below w.heap.size w V){r':Bool}(hr':decide ((AF ts).cl i=3)=r')=>WB E (h.below hV) false (r:=r') hr');have HS:=AB (fun(V:World)(hV:Below w.heap.size w V)=>I9 E (h.below hV) (z:=0) (j:=i) (by omega) hi);have hkc:=CK E.ok i;obtain⟨K,hK⟩:∃K,(Al ts 0 i).k=K:=⟨_,rfl⟩
 rw[hK]at HK hkc;by_cases h1:(AF ts).cl i=1
 .have e1:K=1:=by rcases hkc with h'|h'|h'|h'|h'<;>omega
  subst e1;have er:r=true:=by rw[<-hr,h1];rfl
  subst er;clear h E hkc hr h1 HN HS hK;go_enter func93,ntmps93;go_wp2_with(go_at_call 143;refine(AA HK).mono ?_;rintro e w5⟨rfl,hb5⟩;have HB5:=AB hb5;clear hb5);go_ret;exact⟨rfl,AA HB5⟩
 by_cases h2:(AF ts).cl i=2
 .have e1:K=2:=by rcases hkc with h'|h'|h'|h'|h'<;>omega
  subst e1;have er:r=true:=by rw[<-hr,h2];rfl
  subst er;clear h E hkc hr h1 h2 HN HS hK;go_enter func93,ntmps93;go_wp2_with(go_at_call 143;refine(AA HK).mono ?_;rintro e w5⟨rfl,hb5⟩;have HB5:=AB hb5;clear hb5);go_ret;exact⟨rfl,AA HB5⟩
 have k1:(K==1)=false:=by rw[BC];rcases hkc with h'|h'|h'|h'|h'<;>omega
 have k2:(K==2)=false:=by rw[BC];rcases hkc with h'|h'|h'|h'|h'<;>omega
 by_cases h3:(AF ts).cl i=3
 .have er:r=true:=by rw[<-hr,h3];rfl
  subst er;have HN1:=AB (fun V hV=>AA HN V hV (r':=true) (AK h3));clear h E hkc hr h1 h2 h3 HN HS hK;go_enter func93,ntmps93;go_wp2_with(first|(go_at_call 143;refine(AA HK).mono ?_;rintro e w5⟨rfl,hb5⟩;have HB5:=AB hb5;clear hb5)|(go_at_call 90;refine(AA HN1 _ (AA HB5)).mono ?_;rintro e w6⟨rfl,hb6⟩;have HB6:=AB ((AA HB5).trans (hb6.mono (AA HB5).size));clear hb6));go_ret;exact⟨rfl,AA HB6⟩
 .have HN1:=AB (fun V hV=>AA HN V hV (r':=false) (AD h3));have hin:=bM E.ok i h1 h2 h3;rw[hr]at hin;have HL:Hid (∀(V W:World)(cap:Nat),Below (V.alloc (.cells #[.string ⟨#[226,141,186]⟩,.string ⟨#[226,141,181]⟩,.string ⟨#[226,141,172]⟩,.string ⟨#[40]⟩] 9)).heap.size (V.alloc (.cells #[.string ⟨#[226,141,186]⟩,.string ⟨#[226,141,181]⟩,.string ⟨#[226,141,172]⟩,.string ⟨#[40]⟩] 9)) W->Calls prog 140 #[.slice (some ⟨V.heap.size,0,none⟩) 4 cap,.string (Ej ts i)] W fun e w'=>e=.returned (.bool r)/\w'=W):=fun V W cap hW=>by have:=NG (some ⟨V.heap.size,0,none⟩) 4 cap RS (Ej ts i) W ((QP V RS).below AC hW) (by omega);rw[hin]at this;exact this
  obtain⟨x,hx⟩:∃x,Ej ts i=x:=⟨_,rfl⟩
  rw[hx]at HS HL;clear h E hkc hr h1 h2 h3 HN hK hin hx;go_enter func93,ntmps93;go_wp2_with(first|(go_at_call 143;refine(AA HK).mono ?_;rintro e w5⟨rfl,hb5⟩;have HB5:=AB hb5;clear hb5)|(go_at_call 90;refine(AA HN1 _ (AA HB5)).mono ?_;rintro e w6⟨rfl,hb6⟩;have HB6:=AB ((AA HB5).trans (hb6.mono (AA HB5).size));clear hb6)|(go_at_call 91;refine(AA HS _ ((AA HB6).alloc (AA HB6).size _)).mono ?_;rintro e w7⟨rfl,hb7⟩;have HL7:=AB (AA HL w6 w7 4 hb7);have HB7:=AB (((AA HB6).alloc (AA HB6).size (.cells #[.string ⟨#[226,141,186]⟩,.string ⟨#[226,141,181]⟩,.string ⟨#[226,141,172]⟩,.string ⟨#[40]⟩] 9)).trans (hb7.mono (by have:=(AA HB6).size;simp;omega)));clear hb7)|(go_at_call 140;refine(AA HL7).mono ?_;rintro e w8⟨rfl,rfl⟩));go_ret;exact⟨rfl,AA HB7⟩
def bH(E:Bk Z ta tn ts)(h:EV Z p ta tn tc b w i nd xs)(hi:i<=4200){r:Bool}(hr:IJ ((AF ts).cl i)=r):Calls prog 150 #[.pointer (some ⟨p,0,none⟩)] w fun e w'=>e=.returned (.bool r)/\Below w.heap.size w w':=by
 have HS:=AB (fun(V:World)(hV:Below w.heap.size w V)=>I9 E (h.below hV) (z:=0) (j:=i) (by omega) hi);have hln:=E.row.len;obtain⟨p0,p1,p2,p3,f0,f1,f2,f3,hpl⟩:=h.all;by_cases h0:(AF ts).cl i=0
 .have er:r=true:=by rw[<-hr,h0];rfl
  subst er;have hge:¬ i<tn:=fun hlt=>by rcases CK E.ok i with⟨_,_,h'⟩|⟨_,h',_⟩|⟨_,h',_⟩|⟨_,h',_⟩|⟨_,h',_⟩<;>omega
  have hl:decide (tn<=i)=true:=AK (by omega);have hl2:(tn:Int)<=(i:Int):=by omega
  clear h E hr h0 HS hge hln;go_enter func150,ntmps150;go_wp2_with fail;go_quiet(fail);go_wp2_with fail;go_ret;exact⟨rfl,(by repeat(first|exact AI|refine Below.drewN ?_ _|refine Aa ?_))⟩
 .have hlt:i<tn:=by rw[<-hln];exact Ab ts i h0
  have hl:decide (tn<=i)=false:=AD (by omega);have hl2:¬(tn:Int)<=(i:Int):=by omega
  have hin:=bL E.ok i h0;rw[hr]at hin;have HL:Hid (∀(V W:World)(cap:Nat),Below (V.alloc (.cells #[.string ⟨#[41]⟩,.string ⟨#[93]⟩,.string ⟨#[59]⟩,.string ⟨#[125]⟩,.string ⟨#[226,139,132]⟩,.string ⟨#[58]⟩,.string ⟨#[226,134,144]⟩] 9)).heap.size (V.alloc (.cells #[.string ⟨#[41]⟩,.string ⟨#[93]⟩,.string ⟨#[59]⟩,.string ⟨#[125]⟩,.string ⟨#[226,139,132]⟩,.string ⟨#[58]⟩,.string ⟨#[226,134,144]⟩] 9)) W->Calls prog 140 #[.slice (some ⟨V.heap.size,0,none⟩) 7 cap,.string (Ej ts i)] W fun e w'=>e=.returned (.bool r)/\w'=W):=fun V W cap hW=>by have:=NG (some ⟨V.heap.size,0,none⟩) 7 cap RE (Ej ts i) W ((QP V RE).below AC hW) (by omega);rw[hin]at this;exact this
  obtain⟨x,hx⟩:∃x,Ej ts i=x:=⟨_,rfl⟩
  rw[hx]at HS HL;have HBA:Hid (Below w.heap.size w (w.drew.alloc (.cells #[.string ⟨#[41]⟩,.string ⟨#[93]⟩,.string ⟨#[59]⟩,.string ⟨#[125]⟩,.string ⟨#[226,139,132]⟩,.string ⟨#[58]⟩,.string ⟨#[226,134,144]⟩] 9))):=AI.drew.alloc (by simp) _;have HLD:Hid (∀W,Below (w.drew.alloc (.cells #[.string ⟨#[41]⟩,.string ⟨#[93]⟩,.string ⟨#[59]⟩,.string ⟨#[125]⟩,.string ⟨#[226,139,132]⟩,.string ⟨#[58]⟩,.string ⟨#[226,134,144]⟩] 9)).heap.size (w.drew.alloc (.cells #[.string ⟨#[41]⟩,.string ⟨#[93]⟩,.string ⟨#[59]⟩,.string ⟨#[125]⟩,.string ⟨#[226,139,132]⟩,.string ⟨#[58]⟩,.string ⟨#[226,134,144]⟩] 9)) W->_):=fun W hW=>AA HL w.drew W 7 hW;clear h E hr h0 hln hlt hin hx;go_enter func150,ntmps150;go_wp2_with fail;go_region_with(first|(go_at_call 91;refine(AA HS _ (AA HBA)).mono ?_;rintro e w7⟨rfl,hb7⟩;have HL7:=AB (AA HLD w7 hb7);have HB7:=AB ((AA HBA).trans (hb7.mono (by simp)));clear hb7)|(go_at_call 91;refine(AA HS _ AI.drew).mono ?_;rintro e w7⟨rfl,hb7⟩;have hb7':Below w.heap.size w w7:=AI.drew.trans hb7;have HL7:=AB (AA HL w7 _ 7 AI);have HB7:=AB (hb7'.alloc hb7'.size (.cells #[.string ⟨#[41]⟩,.string ⟨#[93]⟩,.string ⟨#[59]⟩,.string ⟨#[125]⟩,.string ⟨#[226,139,132]⟩,.string ⟨#[58]⟩,.string ⟨#[226,134,144]⟩] 9));clear hb7 hb7')|(go_at_call 140;refine(AA HL7).mono ?_;rintro e w8⟨rfl,rfl⟩));all_goals go_wp2_with fail
  all_goals go_ret
  all_goals exact⟨rfl,AA HB7⟩
def WR(E:Bk Z ta tn ts)(h:EV Z p ta tn tc false w i nd xs)(hi:i<=4200)(hy:0<Ah ((AF ts).cl i)):Calls prog 181 #[.pointer (some ⟨p,0,none⟩)] w fun e w'=>e=.returned (.int .i64 (Ah ((AF ts).cl i):Nat))/\Fa Z p ta tn tc false w nd xs [] (i+1) w' nd:=by
 have HS:=AB (Kd E h (z:=0) (j:=i) (by omega) hi);have HM:Hid (Fa Z p ta tn tc false w nd xs [] i w nd):=BE.start h;obtain⟨N,hN⟩:∃N,Ah ((AF ts).cl i)=N:=⟨_,rfl⟩
 rw[hN]at HS hy ⊢;have hq:(((N:Nat):Int)==0)=false:=by rw[BC];omega
 have hw1:IntKind.i64.wrap ((i:Int)+1)=(i:Int)+1:=by rw[IntKind.wrap_i64];omega
 clear h hy hN E;go_enter func181,ntmps181;go_wp2_with(go_at_call 96;refine(AA HS).mono ?_;rintro e w5⟨rfl,hb5⟩;have hm:=(AA HM).below hb5;obtain⟨p0,p1,p2,p3,f0,f1,f2,f3,hpl⟩:=hm.ps.all;have HM5:=AB (Fa.step hm 1 ((i:Int)+1) (by omega));clear hm hb5);go_ret;exact⟨rfl,AA HM5⟩
def WS(E:Bk Z ta tn ts)(h:EV Z p ta tn tc b w i nd xs)(hi:i<=4200)(hy:b=true\/Ah ((AF ts).cl i)=0):Calls prog 181 #[.pointer (some ⟨p,0,none⟩)] w fun e w'=>e=.returned (.int .i64 0)/\Fa Z p ta tn tc true w nd xs [] i w' nd:=by
 have HS:=AB (Kd E h (z:=0) (j:=i) (by omega) hi);have HM:Hid (Fa Z p ta tn tc b w nd xs [] i w nd):=BE.start h;obtain⟨N,hN⟩:∃N,Ah ((AF ts).cl i)=N:=⟨_,rfl⟩
 rw[hN]at HS hy;clear h hN E;cases b with
 |true=>
  clear hy;go_enter func181,ntmps181;go_wp2_with(go_at_call 96;refine(AA HS).mono ?_;rintro e w5⟨rfl,hb5⟩;have hm:=(AA HM).below hb5;obtain⟨p0,p1,p2,p3,f0,f1,f2,f3,hpl⟩:=hm.ps.all;have HM5:=AB (Fa.bad hm);clear hm hb5);go_ret;exact⟨rfl,AA HM5⟩
 |false=>
  obtain rfl:N=0:=by rcases hy with h'|h';cases h';exact h'
  go_enter func181,ntmps181;go_wp2_with(go_at_call 96;refine(AA HS).mono ?_;rintro e w5⟨rfl,hb5⟩;have hm:=(AA HM).below hb5;obtain⟨p0,p1,p2,p3,f0,f1,f2,f3,hpl⟩:=hm.ps.all;have HM5:=AB (Fa.bad hm);clear hm hb5);go_ret;exact⟨rfl,AA HM5⟩
end
