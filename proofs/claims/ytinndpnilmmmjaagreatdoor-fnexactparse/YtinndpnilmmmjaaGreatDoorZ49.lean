import Derived.Test.YtinndpnilmmmjaaGreatDoorZ48
import Derived.Test.YtinndpnilmmmjaaGreatDoorZ25
set_option maxRecDepth 20000
set_option maxHeartbeats 8000000
set_option linter.defProp false
namespace Go.Proofs.YtinndpnilmmmjaaGreatDoor
open Go.RowKit Go.Proofs.Tryz
section
variable {Z w w0 w1:World}{p i j q:Nat}{nd nd0 nd1 v:Value}{zs:List Int}{xs ys:List AW}{bx:List Nat}{ns:List AM}{ta:Option Addr}{tn tc:Nat}{ts:List CO}{b b' g:Bool}{t:List AM}
def KS.kid7{ez:Nat}{a:List AM}{l:List (List AM)}{s:AE}(h:KS Z p ta tn tc w0 nd0 xs bx ns i b w nd v zs)(ht:A0 ns ez (Ay 7 0 0 s [] (a::l)))(hl:ns.length<=1048576):∃nb nn nc s4 n4 c4 kb c5 ea es,nd=.slice (some ⟨nb,0,none⟩) nn nc/\ez<nn/\nn<=1048576/\nb<w.heap.size/\w.cell? ⟨nb,ez*6,none⟩=some (.int .i64 7)/\w.cell? ⟨nb,ez*6+1,none⟩=some (.int .i64 0)/\w.cell? ⟨nb,ez*6+2,none⟩=some (.int .i64 0)/\w.cell? ⟨nb,ez*6+3,none⟩=some (.string s)/\w.cell? ⟨nb,ez*6+4,none⟩=some (.slice s4 n4 c4)/\w.cell? ⟨nb,ez*6+5,none⟩=some (.slice (some ⟨kb,0,none⟩) (es.length+1) c5)/\es.length+1<=c5/\kb<w.heap.size/\kb≠p/\w.cell? ⟨kb,0,none⟩=some (.int .i64 ((ea:Nat):Int))/\ea<nn/\w.cell? ⟨nb,ea*6,none⟩=some (.int .i64 (C6 a))/\(∀(j:Nat)u,((Bv es).map (Value.int .i64))[j]? =some u->w.cell? ⟨kb,1+j,none⟩=some u)/\es.length=l.length/\Av ns es l:=by
 obtain⟨XS,hX,hd⟩:=h.ps;have hxl:XS.length=ns.length:=by rw[<-hd,AS]
 obtain⟨es0,hn,hts,hlt,hc⟩:=ht.inv;obtain⟨ea,es,rfl⟩:∃ea es,es0=ea::es:=by
  cases es0 with
  |nil=>have:=hts.1;simp at this
  |cons ea es=>exact⟨ea,es,rfl⟩
 have hez:ez<XS.length:=by rw[hxl];exact ht.lt
 obtain⟨x,hx⟩:∃x,XS[ez]? =some x:=⟨_,AR hez⟩
 have hxd:x.d=⟨7,0,0,s,[],Bv (ea::es)⟩:=by have h':=hn;rw[<-hd,BV,hx]at h';exact Ac h'
 obtain⟨hl4,hl5⟩:=hX.lists x (A1 hx);obtain⟨a4,c4,e4⟩:=EP hl4;have hk5:(Bv (ea::es)).length=es.length+1:=by rw[Bv,AS];rfl
 rw[hxd]at hl5;rcases KK hl5 with⟨_,h0⟩|⟨kb,c5,e5,hkb,_,hc5,hcel⟩
 .rw[hk5]at h0;omega
 rcases KK hX.own with⟨_,h0⟩|⟨nb,nc,rfl,hnb,_,_,hcn⟩
 .omega
 have hea:ea<XS.length:=by rw[hxl];exact hts.lt Bl
 obtain⟨y,hy⟩:∃y,XS[ea]? =some y:=⟨_,AR hea⟩
 have hta:A0 ns ea a:=hts.2 0 ea a rfl rfl;have hyk:y.d.k=C6 a:=by have h1:(Af ns ea).k=C6 a:=hta.root.1;rw[<-hd,M8 hy]at h1;exact h1
 have hk:∀q u,q<6->x.cells[q]? =some u->w.cell? ⟨nb,ez*6+q,none⟩=some u:=fun q u hq hu'=>by exact hcn _ _ ((Gb XS ez q x hx hq).trans hu')
 have hkp:kb≠p:=fun e=>by obtain⟨cur,hh,_⟩:=Ag hl5 (g:=kb) (by rw[e5];rfl);rw[e,hX.box]at hh;have:=Ac hh;simp at this
 rw[hk5]at e5 hc5;refine⟨nb,XS.length,nc,a4,x.d.nums.length,c4,kb,c5,ea,es,rfl,hez,by omega,hnb,?_,?_,?_,?_,?_,?_,hc5,hkb,hkp,?_,hea,?_,fun j u hu=> ?_,by have:=hts.1;simpa using this,⟨by have:=hts.1;simpa using this,fun j a' l' h1 h2=>hts.2 (j+1) a' l' h1 h2⟩⟩
 .exact hk 0 _ (by omega) (by unfold AW.cells;rw[hxd];rfl)
 .exact hk 1 _ (by omega) (by unfold AW.cells;rw[hxd];rfl)
 .exact hk 2 _ (by omega) (by unfold AW.cells;rw[hxd];rfl)
 .exact hk 3 _ (by omega) (by unfold AW.cells;rw[hxd];rfl)
 .exact hk 4 _ (by omega) (by unfold AW.cells;rw[e4];rfl)
 .exact hk 5 _ (by omega) (by unfold AW.cells;rw[e5];rfl)
 .exact hcel 0 _ rfl
 .have h2:=hcn (ea*6+0) (.int .i64 y.d.k) ((Gb XS ea 0 y hy (by omega)).trans rfl);rw[hyk]at h2;exact h2
 .rw[GH];exact hcel (j+1) u hu
def Y6(E:Bk Z ta tn ts)(h:EV Z p ta tn tc false w i nd xs)(hi:i<=4100)(AQ:xs.length+4*(5000- i)<=100000)(h0:Eg ((AF ts).cl i)=true){q0:Nat}{t0:List AM}(hq0:q0<=4100)(hiq:i+1<=q0)(hO:BM Z p ta tn tc 95 #[.pointer (some ⟨p,0,none⟩)] i true q0 t0)(hl:(AF ts).cl i=3)(hp:q0≠i+1){a:List AM}{l:List (List AM)}(ht0:t0=Ay 7 0 0 E2 [] (a::l))(hll:1<=l.length)(hlm:l.length<=5000)(ha:(AF ts).cl q0=8592)(h3:C6 a≠3):Calls prog 43 #[.pointer (some ⟨p,0,none⟩)] w (Bf Z p ta tn tc w nd xs i false (q0) ([])):=by
 obtain⟨NS,HK,HXL,hxl,hxm,hNS,p0,p1,p2,p3,f0,f1,f2,f3,hpl⟩:=Hp E h hi AQ;obtain⟨tb,off,y,rfl,hbl,hlt,hy,hm,HTK⟩:=E.tok (j:=i) (by intro e;rw[e]at h0;exact absurd h0 (by decide));have hsv:(AF ts).sv i=y.t:=by show(Al ts 0 i).t=_;rw[hy]
 obtain⟨yk,yn,yt,yp⟩:=y;have GK:(AF ts).sv i=yt:=hsv;have HTK:=AB HTK;have hl2:(i:Int)<(tn:Int):=by omega
 have hl3:i<tn:=hlt;have hw1:IntKind.i64.wrap ((i:Int)+1)=(i:Int)+1:=by rw[IntKind.wrap_i64];omega
 have hw2:IntKind.i64.wrap ((q0:Int)+2)=(q0:Int)+2:=by rw[IntKind.wrap_i64];omega
 have hw3:IntKind.i64.wrap ((q0:Int)+1)=(q0:Int)+1:=by rw[IntKind.wrap_i64];omega
 have hpp:((q0:Int)==(i:Int)+1)=false:=by rw[BC];omega
 subst ht0;obtain⟨ka,hka⟩:∃ka,C6 a=ka:=⟨_,rfl⟩
 rw[hka]at h3;have HKA:=AB hka;have HLL:=AB hll;have HLM:=AB hlm;have hk3:(ka==3)=false:=by simpa using h3
 have K1:=AB (IF (i:=i) E true (r:=false) (AD (by intro e;rw[e]at h0;exact absurd h0 (by decide))));have K2:=AB (Og (i:=i) E (by omega) (r:=true) h0);have K3:=AB (IF (i:=i) E false (r:=true) (AK hl));obtain⟨x,hx⟩:∃x,Ej ts (i)=x:=⟨_,rfl⟩
 have K4:=AB (Hs (i:=i) (j:=i) E (z:=0) (by omega) (by omega) hx);have Iy:=IC E.ok hx Ke FX FY (AD (by rw[hl];decide));have K5:=AB (fun(V:World)(n:Value)(hk:KS Z p (some ⟨tb,off,none⟩) tn tc w nd xs [] NS i false V n A3 [])=>hk.readY hO (by omega));obtain⟨x2,hx2⟩:∃x,Ej ts (q0)=x:=⟨_,rfl⟩
 have K6:=AB (Hs (i:=q0) (j:=q0) E (z:=0) (by omega) (by omega) hx2);have E6:=IC E.ok hx2 Ez Cr Cs (AK (ha));clear h hxl hxm h0 hO hl ha h3 hka hll hlm hsv GK hlt hm hy hbl hx hx2 E;go_enter func43,ntmps43;go_wp2_with(first|(go_at_call 90;refine(AA K1 (AA HK)).mono ?_;clear K1;rintro e w5⟨rfl,hk,_⟩;replace HK:=AB hk;clear hk)|(go_at_call 93;refine(AA K2 (AA HK)).mono ?_;clear K2;rintro e w5⟨rfl,hk,_⟩;replace HK:=AB hk;clear hk)|(go_at_call 90;refine(AA K3 (AA HK)).mono ?_;clear K3;rintro e w5⟨rfl,hk,_⟩;replace HK:=AB hk;clear hk)|(go_at_call 91;refine(AA K4 (AA HK)).mono ?_;clear K4;rintro e w5⟨rfl,hk,_⟩;clear HK;clear p0 p1 p2 p3 f0 f1 f2 f3 hpl;obtain⟨p0,p1,p2,p3,f0,f1,f2,f3,hpl⟩:=hk.all;have HK:=AB hk;clear hk)|(go_at_call 95;refine(AA K5 _ _ (AA HK)).mono ?_;clear K5;rintro e w5⟨ez1,nd5,ds,rfl,hk,_,B7,B6,B4⟩;clear HK;have HIez1:=AB B7;have HLez1:=AB B6;have HTez1:=AB B4;clear B7 B6 B4;obtain⟨p0,p1,p2,p3,f0,f1,f2,f3,hpl⟩:=hk.all;obtain⟨a0,a1,a2,a3,htb⟩:=AA HTK _ hk.low;have HK:=AB hk;clear hk)|(go_at_call 91;refine(AA K6 (AA HK)).mono ?_;clear K6;rintro e w5⟨rfl,hk,_⟩;clear HK p0 p1 p2 p3 f0 f1 f2 f3 hpl;obtain⟨p0,p1,p2,p3,f0,f1,f2,f3,hpl⟩:=hk.all;obtain⟨nb,nn,nc,s4,n4,c4,kb,c5,ea,es,rfl,hen,hnn,hnb,y0,y1,y2,y3,y4,y5,hc5,hkb,hkp,z0,hean,z1,hcs,hesl,hts⟩:=hk.kid7 (AA HTez1) (by rw[AH];have:=AA HLez1;have:=AA HXL;omega);rw[AA HKA]at z1;have hen':((ez1:Nat):Int)<((nn:Nat):Int):=B9.2 hen;have hean':((ea:Nat):Int)<((nn:Nat):Int):=B9.2 hean;have HCS:=AB hcs;have HTS:=AB hts;have hes1:1<=es.length:=(by have:=AA HLL;omega);have hes2:es.length<=5000:=(by have:=AA HLM;omega);have HK:=AB (hk.box (.cells #[.int .i64 7,.int .i64 0,.int .i64 0,.string E2,.slice s4 n4 c4,.slice (some ⟨kb,0,none⟩) (es.length+1) c5] 47)).nobox;clear hk hcs hts hesl));go_quiet(fail);have hk:=(AA HK).below (Below.drewN AI nq);clear HK p0 p1 p2 p3 f0 f1 f2 f3 hpl;obtain⟨p0,p1,p2,p3,f0,f1,f2,f3,hpl⟩:=hk.all;have HK:=AB hk.bad;clear hk;go_wp2_with fail;go_ret;have hxl:=AA HXL;exact DB (by rw[AH,hxl];have:=AA HLez1;omega) (AA HK) (by omega) _
def dF(E:Bk Z ta tn ts)(h:EV Z p ta tn tc false w i nd xs)(hi:i<=4100)(AQ:xs.length+4*(5000- i)<=100000)(h0:Eg ((AF ts).cl i)=true){q0:Nat}{t0:List AM}(hq0:q0<=4100)(hiq:i+1<=q0)(hO:BM Z p ta tn tc 95 #[.pointer (some ⟨p,0,none⟩)] i true q0 t0)(hl:(AF ts).cl i=3)(hp:q0≠i+1){a:List AM}{l:List (List AM)}(ht0:t0=Ay 7 0 0 E2 [] (a::l))(hll:1<=l.length)(hlm:l.length<=5000)(ha:(AF ts).cl q0=8592)(h3:C6 a=3){q2:Nat}{t2:List AM}(hq42:q2<=4100)(hR2:BM Z p ta tn tc 94 #[.pointer (some ⟨p,0,none⟩)] (q0+1) g q2 t2):Calls prog 43 #[.pointer (some ⟨p,0,none⟩)] w (Bf Z p ta tn tc w nd xs i g (q2) (Ay 21 0 0 ((AF ts).sv i) [] (l++ [t2]))):=by
 obtain⟨NS,HK,HXL,hxl,hxm,hNS,p0,p1,p2,p3,f0,f1,f2,f3,hpl⟩:=Hp E h hi AQ;obtain⟨tb,off,y,rfl,hbl,hlt,hy,hm,HTK⟩:=E.tok (j:=i) (by intro e;rw[e]at h0;exact absurd h0 (by decide));have hsv:(AF ts).sv i=y.t:=by show(Al ts 0 i).t=_;rw[hy]
 obtain⟨yk,yn,yt,yp⟩:=y;have GK:(AF ts).sv i=yt:=hsv;have HTK:=AB HTK;have hl2:(i:Int)<(tn:Int):=by omega
 have hl3:i<tn:=hlt;have hw1:IntKind.i64.wrap ((i:Int)+1)=(i:Int)+1:=by rw[IntKind.wrap_i64];omega
 have hw2:IntKind.i64.wrap ((q0:Int)+2)=(q0:Int)+2:=by rw[IntKind.wrap_i64];omega
 have hw3:IntKind.i64.wrap ((q0:Int)+1)=(q0:Int)+1:=by rw[IntKind.wrap_i64];omega
 have hpp:((q0:Int)==(i:Int)+1)=false:=by rw[BC];omega
 subst ht0;have HKA:=AB h3;have HLL:=AB hll;have HLM:=AB hlm;obtain⟨i0,hi',hz0,hz1,hz2⟩:=info_parts Dt;have HSV:=AB GK;have K1:=AB (IF (i:=i) E true (r:=false) (AD (by intro e;rw[e]at h0;exact absurd h0 (by decide))));have K2:=AB (Og (i:=i) E (by omega) (r:=true) h0);have K3:=AB (IF (i:=i) E false (r:=true) (AK hl));obtain⟨x,hx⟩:∃x,Ej ts (i)=x:=⟨_,rfl⟩
 have K4:=AB (Hs (i:=i) (j:=i) E (z:=0) (by omega) (by omega) hx);have Iy:=IC E.ok hx Ke FX FY (AD (by rw[hl];decide));have K5:=AB (fun(V:World)(n:Value)(hk:KS Z p (some ⟨tb,off,none⟩) tn tc w nd xs [] NS i false V n A3 [])=>hk.readY hO (by omega));obtain⟨x2,hx2⟩:∃x,Ej ts (q0)=x:=⟨_,rfl⟩
 have K6:=AB (Hs (i:=q0) (j:=q0) E (z:=0) (by omega) (by omega) hx2);have E6:=IC E.ok hx2 Ez Cr Cs (AK (ha));have K7:=AB (fun(V:World)(n VV:Value)(ds:List AM)(CC:List Int)(Ae:ds.length+1<=4*(q0- i))(hk:KS Z p (some ⟨tb,off,none⟩) tn tc w nd xs [] (NS++ds) (q0+1) false V n VV CC)=>hk.read hR2 (by rw[AH];omega));clear h hxl hxm h0 hO hl ha hll hlm hR2 hsv GK hlt hm hy hbl hx hx2 E;go_enter func43,ntmps43;go_wp2_with(first|(go_at_call 90;refine(AA K1 (AA HK)).mono ?_;clear K1;rintro e w5⟨rfl,hk,_⟩;replace HK:=AB hk;clear hk)|(go_at_call 93;refine(AA K2 (AA HK)).mono ?_;clear K2;rintro e w5⟨rfl,hk,_⟩;replace HK:=AB hk;clear hk)|(go_at_call 90;refine(AA K3 (AA HK)).mono ?_;clear K3;rintro e w5⟨rfl,hk,_⟩;replace HK:=AB hk;clear hk)|(go_at_call 91;refine(AA K4 (AA HK)).mono ?_;clear K4;rintro e w5⟨rfl,hk,_⟩;clear HK;clear p0 p1 p2 p3 f0 f1 f2 f3 hpl;obtain⟨p0,p1,p2,p3,f0,f1,f2,f3,hpl⟩:=hk.all;have HK:=AB hk;clear hk)|(go_at_call 95;refine(AA K5 _ _ (AA HK)).mono ?_;clear K5;rintro e w5⟨ez1,nd5,ds,rfl,hk,_,B7,B6,B4⟩;clear HK;have HIez1:=AB B7;have HLez1:=AB B6;have HTez1:=AB B4;clear B7 B6 B4;obtain⟨p0,p1,p2,p3,f0,f1,f2,f3,hpl⟩:=hk.all;obtain⟨a0,a1,a2,a3,htb⟩:=AA HTK _ hk.low;have HK:=AB hk;clear hk)|(go_at_call 91;refine(AA K6 (AA HK)).mono ?_;clear K6;rintro e w5⟨rfl,hk,_⟩;clear HK p0 p1 p2 p3 f0 f1 f2 f3 hpl;obtain⟨p0,p1,p2,p3,f0,f1,f2,f3,hpl⟩:=hk.all;obtain⟨nb,nn,nc,s4,n4,c4,kb,c5,ea,es,rfl,hen,hnn,hnb,y0,y1,y2,y3,y4,y5,hc5,hkb,hkp,z0,hean,z1,hcs,hesl,hts⟩:=hk.kid7 (AA HTez1) (by rw[AH];have:=AA HLez1;have:=AA HXL;omega);rw[AA HKA]at z1;have hen':((ez1:Nat):Int)<((nn:Nat):Int):=B9.2 hen;have hean':((ea:Nat):Int)<((nn:Nat):Int):=B9.2 hean;obtain⟨cs,hcl⟩:∃cs,Bv es=cs:=⟨_,rfl⟩;have hel:es.length=cs.length:=(by rw[<-hcl,Bv,AS]);rw[hcl]at hcs;rw[hel]at y5 hc5;have HCL:=AB hcl;have HCS:=AB hcs;have HTS:=AB hts;have hes1:1<=cs.length:=(by have:=AA HLL;omega);have hes2:cs.length<=5000:=(by have:=AA HLM;omega);have HK:=AB (hk.box (.cells #[.int .i64 7,.int .i64 0,.int .i64 0,.string E2,.slice s4 n4 c4,.slice (some ⟨kb,0,none⟩) (cs.length+1) c5] 47)).nobox;clear hk hcs hts hesl hel hcl));go_quiet(fail);obtain⟨W1,hW1⟩:∃W1,W1=(w5.alloc (.cells #[.int .i64 7,.int .i64 0,.int .i64 0,.string E2,.slice s4 n4 c4,.slice (some ⟨kb,0,none⟩) (cs.length+1) c5] 47)).drewN nq:=⟨_,rfl⟩
 have hb1:Below w5.heap.size w5 W1:=by rw[hW1];exact Below.drewN (AI.alloc AC _) _
 have hk:=(AA HK).below (Below.drewN AI nq);have bq:W1.cell? ⟨w5.heap.size,5,none⟩=some (.slice (some ⟨kb,0,none⟩) (cs.length+1) c5):=by rw[hW1];simp
 have hz5:w5.heap.size<W1.heap.size:=by rw[hW1];simp
 rw[<-hW1]at hk ⊢;clear hW1 HK p0 p1 p2 p3 f0 f1 f2 f3;have hp5:w5.heap.size≠p:=by omega
 clear hpl;obtain⟨p0,p1,p2,p3,f0,f1,f2,f3,hpl⟩:=hk.all;have hkl:=(hk.step 1 ((q0:Int)+1) (by omega)).list [] (by simp);have hsz:(W1.setCell ⟨p,1,none⟩ (.int .i64 ((q0:Int)+1))).heap.size=W1.heap.size:=by simp
 rw[hsz]at hkl;clear hsz;have HKL:=AB hkl;clear hkl;have hzl:=hk.low.size;have HSRC:Hid (∀(j:Nat)u,(cs.map (Value.int .i64))[j]? =some u->((W1.setCell ⟨p,1,none⟩ (.int .i64 ((q0:Int)+1))).alloc (.cells #[] 3)).cell? ((⟨kb,1,none⟩:Addr).add j)=some u):=fun j u hu=>by
  have h1:=AA HCS j u hu;have e1:((W1.setCell ⟨p,1,none⟩ (.int .i64 ((q0:Int)+1))).alloc (.cells #[] 3)).heap[kb]? =w5.heap[kb]? :=by rw[Cm _ _ _ (by simp;omega),BZ W1 ⟨p,1,none⟩ kb _ hkp];exact hb1.block kb hkb
  have e2:(⟨kb,1,none⟩:Addr).add j=⟨kb,1+j,none⟩:=by
   unfold Addr.add;split
   .rename_i h0;rw[h0]
   .rfl
  rw[e2,<-h1];unfold World.cell?;dsimp only;rw[e1]
 clear hk;go_wp2_with(first|(at_builtin;refine wpList_append_lies _ rfl _ _ 45 rfl Z.heap.size 3 i0 (.int .i64 0) 1 8 underlying45 hi' hz0 hz1 hz2 rfl (by decide) _ _ _ rfl (AA HKL).ownR ⟨kb,1,none⟩ cs.length (c5- 1) (cs.map (Value.int .i64)) rfl (by rw[AS,Gl]) (AA HSRC) (PU cs) (by omega) (by show 0+cs.length<=maxLen;unfold maxLen;omega) (by show(0+cs.length)*8<=_;omega) (by simp;try omega) (W1.heap.size+1) (by simp) ?_;intro g1 cap1 w7 A2 Au hat Cu;obtain⟨hk7,_⟩:=KS.grow (us:=cs) (n:=cs.length) (AA HKL) (by unfold Dk;have h':=A2;simp only[Fp,BY,FO,List.nil_append]at h';exact h') Au (Or.imp (fun h=>h) (fun h=>h.trans (by simp)) hat);have HK7:=AB hk7;clear hk7 A2 Au hat Cu)|(go_at_call 94;refine(AA K7 _ _ _ _ _ (AA HLez1) (AA HK7)).mono ?_;clear K7;rintro e w8⟨z2,nd8,ds2,rfl,hk,_,Hb,Ha,G9⟩;have HIz2:=AB Hb;have HLz2:=AB Ha;have HTz2:=AB G9;have HK8:=AB (hk.below (AI.alloc AC (.cells #[.int .i64 z2] 3)));have hzl8:=hk.low.size;clear hk Hb Ha G9)|(at_builtin;refine wpList_append_lies _ rfl _ _ 45 rfl Z.heap.size 3 i0 (.int .i64 0) 1 8 underlying45 hi' hz0 hz1 hz2 rfl (by decide) _ _ _ rfl (AA HK8).ownR ⟨w8.heap.size,0,none⟩ 1 1 [.int .i64 z2] rfl rfl (Dy _ _) (GM _) (by omega) (by unfold maxLen;omega) (by omega) (by simp;omega) (w8.heap.size+1) (by simp) ?_;intro g' CW w9 A2 Au hat Cu;obtain⟨hk9,_⟩:=KS.grew (AA HK8) A2 Au hat (by simp);have HK9:=AB hk9;clear hk9 A2 Au hat Cu)|(go_at_call 45;refine(((AA HK9).put 21 0 0 yt (by have h1:=AA HLez1;have h2:=AA HLz2;have h3:=AA HIez1;have h4:=AA HIz2;have h5:=AA HXL;rw[AH,AH];omega)).mono fun _ _ h=>(⟨_,rfl,h⟩:∃m:Nat,m=_/\_=Ending.returned (.int .i64 (m:Nat))/\_)).mono ?_;rintro e w10⟨m,hm,rfl,nd10,hk⟩;have HM:=AB hm;have HK10:=AB hk;clear hk hm));go_ret;have hxl:=AA HXL;have h1:=AA HLez1;have h2:=AA HLz2;have h3:=AA HIez1;have h4:=AA HIz2;have h6:=AA HTz2;have h7:=AA HTS;have hcl:=AA HCL;have hNl:((NS++ds)++ds2).length=NS.length+ds.length+ds2.length:=by rw[AH,AH]
 rw[AA HSV];cases g with
 |false=>exact Cw (i:=i) (AA HM) (g:=false) (es:= []) (ls:=l++ [t2]) 21 0 yt (AA HK10) (by omega) (by rw[hNl];omega) (fun h=>by cases h) (Hg (by decide) (by decide) (by decide) _)
 |true=>
  obtain⟨h9,e2,rfl,h10⟩:=h6 rfl;exact Cw (i:=i) (AA HM) (g:=true) (es:=es++ [e2]) (ls:=l++ [t2]) 21 0 yt (AA HK10) (by omega) (by rw[hNl];omega) (fun _=>⟨by rw[hNl];omega,by rw[<-hcl];exact Ft _ _,h7.mono.app (Av.one h10)⟩) (Hg (by decide) (by decide) (by decide) _)
end
section
variable {Z w w0 w1:World}{p i j q:Nat}{nd nd0 nd1 v:Value}{zs:List Int}{xs ys:List AW}{bx:List Nat}{ns:List AM}{ta:Option Addr}{tn tc:Nat}{ts:List CO}{b b' g:Bool}{t:List AM}
def Bf.no{t':List AM}{e:Ending}{w':World}(h:Bf Z p ta tn tc w0 nd0 xs i false q t e w'):Bf Z p ta tn tc w0 nd0 xs i false q t' e w':=by obtain⟨z,n',ns',h1,h2,h3,h4,_⟩:=h;exact⟨z,n',ns',h1,h2,h3,h4,fun e=>by cases e⟩
def BM.no{f:Nat}{args:Array Value}{t':List AM}(h:BM Z p ta tn tc f args i false q t):BM Z p ta tn tc f args i false q t':=fun w n x h1 h2=>(h w n x h1 h2).mono fun _ _ h=>h.no
def Bf.rest{e:Ending}{w':World}(h:Bf Z p ta tn tc w0 nd0 xs i g q t e w'):∃z nd' ds,e=.returned (.int .i64 z)/\KS Z p ta tn tc w0 nd0 xs [] (xs.map AW.d++ds) q (!g) w' nd' A3 []/\i<=q/\ds.length<=4*(q- i)/\(g=true->∃e':Nat,z=e'/\A0 (xs.map AW.d++ds) e' t):=by
 obtain⟨z,n',ns',he,hk,hiq,hl,ht⟩:=h;obtain⟨ys,hd⟩:∃ys:List AW,(xs++ys).map AW.d=ns':=⟨_,hk.choose_spec.2.1⟩
 have e1:ns'=xs.map AW.d++ys.map AW.d:=by rw[<-hd,Ao]
 subst e1;refine⟨z,n',ys.map AW.d,he,hk,hiq,?_,fun hg=>(ht hg).2⟩;rw[AH,AS,AS]at hl;rw[AS];omega
structure LL(Z:World)(p:Nat)(ta:Option Addr)(tn tc:Nat)(ts:List CO)(j:Nat):Prop where
 x:∀f r,Bh (AF ts) f 0 j []=some r->BM Z p ta tn tc 94 #[.pointer (some ⟨p,0,none⟩)] j (gX (AF ts) r) r.2.1 (r.2.2.headD [])
 g:∀f r,Bh (AF ts) f 3 j []=some r->BM Z p ta tn tc 146 #[.pointer (some ⟨p,0,none⟩)] j r.1 r.2.1 (r.2.2.headD [])
 s:∀f r,Bh (AF ts) f 5 j []=some r->∃g,GI (AF ts) r g/\BM Z p ta tn tc 43 #[.pointer (some ⟨p,0,none⟩)] j g r.2.1 (r.2.2.headD [])
 t:∀f r,Bh (AF ts) f 6 j []=some r->∃g,GI (AF ts) r g/\BM Z p ta tn tc 145 #[.pointer (some ⟨p,0,none⟩)] j g r.2.1 (r.2.2.headD [])
def VI{X:DN}{q:Nat}{l l':List (List AM)}(b:Bool):GI X (b,q,l) (gX X (b,q,l')):=by refine⟨fun h=>(An _ _▸h:_/\_).1,fun h hb=> ?_⟩;have hb':b=true:=hb;subst hb';have he:IJ (X.cl q)=false:=h;show X.cl q≠8900/\X.cl q≠125/\X.cl q≠58/\X.cl q≠0;refine⟨fun e=> ?_,fun e=> ?_,fun e=> ?_,fun e=> ?_⟩<;>(rw[e]at he;revert he;decide)
def IH{X:DN}{q:Nat}{l:List (List AM)}:GI X (false,q,l) false:=⟨(fun h=>by cases h),(fun _ h=>by cases h)⟩
def di{X:DN}{q:Nat}{l:List (List AM)}:GI X (true,q,l) true:=⟨(fun _=>rfl),(fun h=>by cases h)⟩
def Qx{X:DN}{q:Nat}{l:List (List AM)}(h:X.cl q=8592):GI X (true,q,l) false:=⟨(fun h=>by cases h),fun _ _=>by show X.cl q≠8900/\X.cl q≠125/\X.cl q≠58/\X.cl q≠0;rw[h];decide⟩
def RP(E:Bk Z ta tn ts)(htl:ts.length<=4096)(H:∀j',j<j'->j'<=ts.length->LL Z p ta tn tc ts j')(h1:(AF ts).cl j=123){f:Nat}{r:B1}(hr:EJ (AF ts) (Bh (AF ts) f) j=some r):BM Z p ta tn tc 92 #[.pointer (some ⟨p,0,none⟩)] j r.1 r.2.1 (r.2.2.headD []):=by
 unfold EJ at hr;by_cases h2:(AF ts).cl (j+1)=125
 .rw[AL h2]at hr;cases hr;exact P3 E htl h1 h2
 rw[AG h2]at hr;cases f with
 |zero=>cases hr
 |succ f=>
  refine RO E htl (F:=f+1) (fun j' r h1 h2 h3=>(H j' h1 h2).t _ r h3) h1 h2 (f0':=f) (r:=r) ?_;rcases BG hr with⟨q,l,hx,hk⟩|⟨q,l,hx,rfl⟩
  .rw[Kg (AF ts) (f+1) (f+1) (j+1) AC _ hx];exact hk
  .rw[Kg (AF ts) (f+1) (f+1) (j+1) AC _ hx];rfl
def ed(E:Bk Z ta tn ts)(htl:ts.length<=4096)(hj:j<=ts.length)(H:∀j',j<j'->j'<=ts.length->LL Z p ta tn tc ts j'){f:Nat}{r:B1}(hr:Vo (AF ts) (Bh (AF ts) f) j=some r):BM Z p ta tn tc 146 #[.pointer (some ⟨p,0,none⟩)] j r.1 r.2.1 (r.2.2.headD []):=by
 intro w nd xs h AQ;unfold Vo at hr;by_cases hs:0<Ah ((AF ts).cl j)
 .rw[AL hs]at hr;unfold Jy at hr;by_cases h1:(AF ts).cl (j+1)=47
  .rw[AL h1]at hr;cases hr;exact dm E h (by omega) AQ hs h1
  rw[AG h1]at hr;by_cases h2:(AF ts).cl (j+1)=9023
  .rw[AL h2]at hr;cases hr;exact Zr E h (by omega) AQ hs h2
  rw[AG h2]at hr;by_cases h3:(AF ts).cl (j+1)=92
  .rw[AL h3]at hr;cases hr;exact dl E h (by omega) AQ hs h3
  rw[AG h3]at hr;by_cases h4:(AF ts).cl (j+1)=9024
  .rw[AL h4]at hr;cases hr;exact Zq E h (by omega) AQ hs h4
  rw[AG h4]at hr;by_cases h5:(AF ts).cl (j+1)=46
  .rw[AL h5]at hr;by_cases h6:0<Ah ((AF ts).cl (j+1+1))
   .rw[AL h6]at hr;cases hr;exact bp E h (by omega) AQ hs h5 h6
   .rw[AG h6]at hr;cases hr;exact br E h (by omega) AQ hs h5 (Dn h6)
  .rw[AG h5]at hr;cases hr;exact dk E h (by omega) AQ hs h1 h2 h3 h4 h5
 rw[AG hs]at hr;have h0:Ah ((AF ts).cl j)=0:=Dn hs;by_cases h1:(AF ts).cl j=8728
 .rw[AL h1]at hr;by_cases h2:(AF ts).cl (j+1)=46
  .rw[AL h2]at hr;by_cases h3:0<Ah ((AF ts).cl (j+2))
   .rw[AL h3]at hr;cases hr;exact X3 E h (by omega) AQ h0 h1 h2 h3
   .rw[AG h3]at hr;cases hr;exact X5 E h (by omega) AQ h0 h1 h2 (Dn h3)
  .rw[AG h2]at hr;cases hr;exact X4 E h (by omega) AQ h0 h1 h2
 rw[AG h1]at hr;by_cases h2:(AF ts).cl j=123
 .rw[AL h2]at hr;exact bu E h (by omega) AQ h0 h2 (RP E htl H h2 hr)
 rw[AG h2]at hr;by_cases h3:(AF ts).cl j=4
 .rw[AL h3]at hr;cases hr;exact eZ E h (by omega) AQ h0 h3
 rw[AG h3]at hr;by_cases h4:(AF ts).cl j=8711
 .rw[AL h4]at hr;cases hr;exact Zs E h (by omega) AQ h0 h4
 rw[AG h4]at hr;by_cases h5:0<Bd ((AF ts).cl j)
 .rw[AL h5]at hr;cases hr;exact Zp E h (by omega) AQ h0 h1 h2 h3 h4 h5
 .rw[AG h5]at hr;cases hr;exact ak E h (by omega) AQ h0 h1 h2 h3 h4 (Dn h5)
def du(E:Bk Z ta tn ts)(htl:ts.length<=4096)(hj:j<=ts.length)(hf:LN ((AF ts).cl j)≠true):BM Z p ta tn tc 146 #[.pointer (some ⟨p,0,none⟩)] j false j []:=fun w nd xs h AQ=>by obtain⟨h0,h1,h2,h3,h4,h5⟩:=dZ hf;exact ak E h (by omega) AQ h0 h1 h2 h3 h4 h5
def cT(E:Bk Z ta tn ts)(htl:ts.length<=4096)(hj:j<=ts.length)(H:∀j',j<j'->j'<=ts.length->LL Z p ta tn tc ts j')(hb:Eg ((AF ts).cl j)=true){f:Nat}{r:B1}(hr:Dj (AF ts) (Bh (AF ts) f) j=some r):BM Z p ta tn tc 147 #[.pointer (some ⟨p,0,none⟩)] j r.1 r.2.1 (r.2.2.headD []):=by
 intro w nd xs h AQ;unfold Dj at hr;by_cases c1:(AF ts).cl j=1
 .rw[AL c1]at hr;cases hr;exact fA E h hj htl AQ c1
 rw[AG c1]at hr;by_cases c40:(AF ts).cl j=40
 .rw[AL c40]at hr;have hjl:j<ts.length:=Ab ts j (by rw[c40];decide);rcases BG hr with⟨q,l,hx,hk⟩|⟨q,l,hx,rfl⟩
  .obtain⟨t,rfl,k1,k2,k3,_⟩:=C7 (by rfl) (by decide) (by decide) (q0:=j+1) hjl hx;have hX:=(H (j+1) (by omega) hjl).x f _ hx;by_cases h41:(AF ts).cl q=41
   .rw[AL h41]at hk;cases hk;have hg:gX (AF ts) (true,q,[t])=true:=by show(true&&IJ ((AF ts).cl q))=true;rw[h41];rfl
    rw[hg]at hX;exact cU E h (by omega) AQ c40 (by omega) k2 hX h41
   .rw[AG h41]at hk;cases hk;cases hg:gX (AF ts) (true,q,[t])with
    |true=>rw[hg]at hX;exact cV E h (by first|omega|(dsimp only;omega)) AQ c40 (by first|omega|(dsimp only;omega)) k2 hX h41
    |false=>rw[hg]at hX;exact Ye E h (by omega) AQ c40 k2 hX
  .have hX:=(H (j+1) (by omega) hjl).x f _ hx;exact Ye E h (by omega) AQ c40 (Cc (Ab ts) f 0 (j+1) [] hjl _ _ _ hx).1 hX
 rw[AG c40]at hr;by_cases c2:(AF ts).cl j=2
 .rw[AL c2]at hr;cases hr;exact ew E h (by omega) AQ c2
 rw[AG c2]at hr;by_cases c3:(AF ts).cl j=3
 .rw[AL c3]at hr;cases hr;exact eu E h (by omega) AQ c3
 rw[AG c3]at hr;by_cases c4:(AF ts).cl j=9082
 .rw[AL c4]at hr;cases hr;exact aL E h (by omega) AQ c4
 rw[AG c4]at hr;by_cases c5:(AF ts).cl j=9077
 .rw[AL c5]at hr;cases hr;exact aM E h (by omega) AQ c5
 rw[AG c5]at hr;by_cases c6:(AF ts).cl j=9068
 .rw[AL c6]at hr;cases hr;exact aN E h (by omega) AQ c6
 unfold Eg at hb;have hb:=AT hb;omega
def FG(E:Bk Z ta tn ts)(htl:ts.length<=4096)(hj:j<=ts.length)(H:∀j',j<j'->j'<=ts.length->LL Z p ta tn tc ts j')(hb:Eg ((AF ts).cl j)=true){f:Nat}{r:B1}(hr:(A7 (Dj (AF ts) (Bh (AF ts) f) j) fun q l=>Bh (AF ts) f 1 q (l.headD []))=some r):BM Z p ta tn tc 95 #[.pointer (some ⟨p,0,none⟩)] j r.1 r.2.1 (r.2.2.headD []):=PR E htl (F:=f) (fun j' r h1 h2 h3=>(H j' h1 h2).x f r h3) hj (fun _ hr'=>cT E htl hj H hb hr') hr
def SC(E:Bk Z ta tn ts)(htl:ts.length<=4096)(H:∀j',j<j'->j'<=ts.length->LL Z p ta tn tc ts j'){q0:Nat}(hjq:j<q0)(hq0:q0<=ts.length){f:Nat}{t0:List AM}{r:B1}(hr:Ff (AF ts) (Bh (AF ts) f) q0 t0=some r):LK Z p ta tn tc q0 t0 (gX (AF ts) r) r.2.1 (r.2.2.headD []):=by
 intro w nd xs ez h AQ ht;unfold Ff at hr;by_cases hf:LN ((AF ts).cl q0)=true
 .rw[AL hf]at hr;have he:=cA hf;rcases BG hr with⟨q,l,hx,hk⟩|⟨q,l,hx,rfl⟩
  .obtain⟨t1,rfl,k1,k2,_⟩:=C7 (by rfl) (by decide) (by decide) hq0 hx;have hG:=(H q0 hjq hq0).g f _ hx;rcases BG hk with⟨q2,l2,hx2,hk2⟩|⟨q2,l2,hx2,rfl⟩
   .obtain⟨t2,rfl,m1,m2,_⟩:=C7 (by rfl) (by decide) (by decide) k1 hx2;cases hk2;exact(TS E h (by first|omega|(dsimp only;omega)) AQ ht he (by first|omega|(dsimp only;omega)) (by first|omega|(dsimp only;omega)) hG ((H q (by first|omega|(dsimp only;omega)) k1).x f _ hx2)).mono fun _ _ h=>h.rest
   .have m1:=(Cc (Ab ts) f 0 q [] k1 _ _ _ hx2).2.1;have m1':q2<=ts.length:=m1;have hX:BM Z p ta tn tc 94 #[.pointer (some ⟨p,0,none⟩)] q false q2 []:=((H q (by omega) k1).x f _ hx2).no;exact(TS E h (by first|omega|(dsimp only;omega)) AQ ht he (by first|omega|(dsimp only;omega)) (by first|omega|(dsimp only;omega)) hG hX).mono fun _ _ h=>(Bf.no h).rest
  .exact(OR E h (by omega) AQ he ((H q0 hjq hq0).g f _ hx)).mono fun _ _ h=>Bf.rest h
 .rw[AG hf]at hr;cases hr;cases he:IJ ((AF ts).cl q0)with
  |true=>
   have hg:gX (AF ts) (true,q0,[t0])=true:=by show(true&&IJ ((AF ts).cl q0))=true;rw[he];rfl
   rw[hg];refine(Wd E h (by omega) AQ he).mono ?_;rintro e w'⟨rfl,hk⟩;exact⟨_,nd,[],rfl,by rw[A6];exact hk,AC,by show 0<=_;omega,fun _=>⟨ez,rfl,by rw[A6];exact ht⟩⟩
  |false=>
   have hg:gX (AF ts) (true,q0,[t0])=false:=by show(true&&IJ ((AF ts).cl q0))=false;rw[he];rfl
   rw[hg];exact(OR E h (by omega) AQ he (du E htl hq0 hf)).mono fun _ _ h=>(Bf.no h).rest
def NZ{f:Nat}{r:B1}(hf:LN ((AF ts).cl j)≠true)(hr:Hd (AF ts) (Bh (AF ts) f) j=some r):(∃q1 l1,(A7 (Dj (AF ts) (Bh (AF ts) f) j) fun q l=>Bh (AF ts) f 1 q (l.headD []))=some (true,q1,l1)/\Ff (AF ts) (Bh (AF ts) f) q1 (l1.headD [])=some r)\/(∃q1 l1,(A7 (Dj (AF ts) (Bh (AF ts) f) j) fun q l=>Bh (AF ts) f 1 q (l.headD []))=some (false,q1,l1)/\r=(false,q1,[])):=by
 unfold Hd at hr;rw[AG hf]at hr;rcases BG hr with⟨q,l,hx,hk⟩|⟨q,l,hx,rfl⟩
 .unfold Gu at hk;rcases BG hk with⟨q1,l1,hx1,hk1⟩|⟨q1,l1,hx1,rfl⟩
  .exact .inl ⟨q1,l1,by rw[hx];exact hx1,hk1⟩
  .exact .inr ⟨q1,l1,by rw[hx];exact hx1,rfl⟩
 .exact .inr ⟨q,[],by rw[hx];rfl,rfl⟩
def Wx(hj:j<=ts.length){f:Nat}{b:Bool}{q1:Nat}{l1:List (List AM)}(hr:(A7 (Dj (AF ts) (Bh (AF ts) f) j) fun q l=>Bh (AF ts) f 1 q (l.headD []))=some (b,q1,l1)):j<=q1/\q1<=ts.length/\(b=true->j+1<=q1):=by
 have hA:=JW (Ab ts) (Cc (Ab ts) f) (i:=j) hj;rcases BG hr with⟨q,l,hx,hk⟩|⟨q,l,hx,hk⟩
 .have h1:=hA _ _ _ hx;have h2:=Cc (Ab ts) f 1 q (l.headD []) h1.2.1 _ _ _ hk;have h3:=(h1.2.2 rfl).1;exact⟨by omega,h2.2.1,fun _=>by omega⟩
 .cases hk;have h1:=hA _ _ _ hx;exact⟨h1.1,h1.2.1,fun e=>by cases e⟩
def cF(E:Bk Z ta tn ts)(htl:ts.length<=4096)(hj:j<=ts.length)(H:∀j',j<j'->j'<=ts.length->LL Z p ta tn tc ts j'){f:Nat}{r:B1}(hr:Hd (AF ts) (Bh (AF ts) f) j=some r)(hg:∀r,Bh (AF ts) f 3 j []=some r->BM Z p ta tn tc 146 #[.pointer (some ⟨p,0,none⟩)] j r.1 r.2.1 (r.2.2.headD [])):BM Z p ta tn tc 94 #[.pointer (some ⟨p,0,none⟩)] j (gX (AF ts) r) r.2.1 (r.2.2.headD []):=by
 intro w nd xs h AQ;by_cases hf:LN ((AF ts).cl j)=true
 .unfold Hd at hr;rw[AL hf]at hr;have hb:=cB hf;rcases BG hr with⟨q,l,hx,hk⟩|⟨q,l,hx,rfl⟩
  .obtain⟨t1,rfl,k1,k2,k3,_⟩:=C7 (by rfl) (by decide) (by decide) hj hx;have hjq:j+1<=q:=((Cc (Ab ts) f 3 j [] hj).q hx).1;rcases BG hk with⟨q2,l2,hx2,hk2⟩|⟨q2,l2,hx2,rfl⟩
   .obtain⟨t2,rfl,m1,m2,_⟩:=C7 (by rfl) (by decide) (by decide) k1 hx2;cases hk2;exact YF E h (by first|omega|(dsimp only;omega)) AQ hb (by first|omega|(dsimp only;omega)) (by first|omega|(dsimp only;omega)) (hg _ hx) ((H q (by first|omega|(dsimp only;omega)) k1).x f _ hx2)
   .have m1:q2<=ts.length:=(Cc (Ab ts) f 0 q [] k1 _ _ _ hx2).2.1;have hX:BM Z p ta tn tc 94 #[.pointer (some ⟨p,0,none⟩)] q false q2 []:=((H q (by omega) k1).x f _ hx2).no;exact(YF E h (by first|omega|(dsimp only;omega)) AQ hb (by first|omega|(dsimp only;omega)) (by first|omega|(dsimp only;omega)) (hg _ hx) hX).mono fun _ _ h=>Bf.no h
  .have hR:=hg _ hx;exact Tq E h (by omega) AQ hb hR
 .cases hb:Eg ((AF ts).cl j)with
  |true=>
   rcases NZ hf hr with⟨q1,l1,hx,hk⟩|⟨q1,l1,hx,rfl⟩
   .obtain⟨_,k1,k2⟩:=Wx hj hx;have k2:=k2 rfl;exact cH E h (by first|omega|(dsimp only;omega)) AQ hb (by first|omega|(dsimp only;omega)) (FG E htl hj H hb hx) (SC E htl H (by first|omega|(dsimp only;omega)) k1 hk)
   .have hR:=FG E htl hj H hb hx;exact Z2 E h (by omega) AQ hb hR
  |false=>
   unfold Hd at hr;rw[AG hf,bZ (by rw[hb];decide)]at hr;cases hr;exact Tq E h (by omega) AQ hb (du E htl hj hf)
def be(E:Bk Z ta tn ts)(htl:ts.length<=4096)(hj:j<=ts.length)(H:∀j',j<j'->j'<=ts.length->LL Z p ta tn tc ts j'){f:Nat}{r:B1}(hr:Ix (AF ts) (Bh (AF ts) f) j=some r)(hs:∀r,Bh (AF ts) f 5 j []=some r->∃g,GI (AF ts) r g/\BM Z p ta tn tc 43 #[.pointer (some ⟨p,0,none⟩)] j g r.2.1 (r.2.2.headD [])):∃g,GI (AF ts) r g/\BM Z p ta tn tc 145 #[.pointer (some ⟨p,0,none⟩)] j g r.2.1 (r.2.2.headD []):=by
 unfold Ix at hr;rcases BG hr with⟨q,l,hx,hk⟩|⟨q,l,hx,rfl⟩
 .obtain⟨t,rfl,k1,k2,k3,k4⟩:=C7 (by rfl) (by decide) (by decide) hj hx;obtain⟨g,hG,hR⟩:=hs _ hx;have hk':(if FQ (C6 t)=true/\(AF ts).cl q=58 then F4 (Bh (AF ts) f) 24 0 E2 [t] (q+1)else C4 q [t])=some r:=hk;cases g with
  |false=>
   obtain⟨_,_,h58,_⟩:=hG.2 rfl rfl;rw[AG (fun e=>h58 e.2)]at hk';cases hk';exact⟨false,hG,fun w nd xs h AQ=>(Xq E h (by omega) AQ hR).mono fun _ _ h=>Bf.no h⟩
  |true=>
   by_cases h1:FQ (C6 t)=true
   .by_cases h2:(AF ts).cl q=58
    .rw[AL ⟨h1,h2⟩]at hk';have hql:q<ts.length:=Ab ts q (by rw[h2];decide);unfold F4 at hk';rcases BG hk' with⟨q2,l2,hx2,hk2⟩|⟨q2,l2,hx2,rfl⟩
     .obtain⟨t2,rfl,m1,m2,_⟩:=C7 (by rfl) (by decide) (by decide) (q0:=q+1) hql hx2;cases hk2;exact⟨_,VI (l':= [t2]) true,fun w nd xs h AQ=>Xp E h (by first|omega|(dsimp only;omega)) AQ (by first|omega|(dsimp only;omega)) hR h1 h2 (by first|omega|(dsimp only;omega)) ((H (q+1) (by first|omega|(dsimp only;omega)) hql).x f _ hx2)⟩
     .have m1:q2<=ts.length:=(Cc (Ab ts) f 0 (q+1) [] hql _ _ _ hx2).2.1;have hX:BM Z p ta tn tc 94 #[.pointer (some ⟨p,0,none⟩)] (q+1) false q2 []:=((H (q+1) (by omega) hql).x f _ hx2).no;exact⟨false,IH,fun w nd xs h AQ=>(Xp E h (by first|omega|(dsimp only;omega)) AQ (by first|omega|(dsimp only;omega)) hR h1 h2 (by first|omega|(dsimp only;omega)) hX).mono fun _ _ h=>Bf.no h⟩
    .rw[AG (fun e=>h2 e.2)]at hk';cases hk';exact⟨true,hG,fun w nd xs h AQ=>df E h (by first|omega|(dsimp only;omega)) AQ (by first|omega|(dsimp only;omega)) hR h1 h2⟩
   .rw[AG (fun e=>h1 e.1)]at hk';cases hk';exact⟨true,hG,fun w nd xs h AQ=>de E h (by first|omega|(dsimp only;omega)) AQ (by first|omega|(dsimp only;omega)) hR (by simpa using h1)⟩
 .obtain⟨g,hG,hR⟩:=hs _ hx;cases g with
  |false=>exact⟨false,IH,fun w nd xs h AQ=>Xq E h (by omega) AQ hR⟩
  |true=>exact absurd (hG.1 rfl) Ho
def TH(E:Bk Z ta tn ts)(htl:ts.length<=4096)(hj:j<=ts.length)(H:∀j',j<j'->j'<=ts.length->LL Z p ta tn tc ts j')(hb:Eg ((AF ts).cl j)=true){f:Nat}{r:B1}(hr:Bh (AF ts) f 0 j []=some r)(hrest:∀(f q1:Nat)(l1:List (List AM)),(A7 (Dj (AF ts) (Bh (AF ts) f) j) fun q l=>Bh (AF ts) f 1 q (l.headD []))=some (true,q1,l1)->q1<=ts.length->j+1<=q1->BM Z p ta tn tc 95 #[.pointer (some ⟨p,0,none⟩)] j true q1 (l1.headD [])->((AF ts).cl q1=8592->BM Z p ta tn tc 43 #[.pointer (some ⟨p,0,none⟩)] j false q1 [])/\((AF ts).cl q1≠8592->∀g q2 t,LK Z p ta tn tc q1 (l1.headD []) g q2 t->BM Z p ta tn tc 43 #[.pointer (some ⟨p,0,none⟩)] j g q2 t)):∃g,GI (AF ts) r g/\BM Z p ta tn tc 43 #[.pointer (some ⟨p,0,none⟩)] j g r.2.1 (r.2.2.headD []):=by
 cases f with
 |zero=>cases hr
 |succ f=>
  rw[Bh,AL rfl]at hr;have hf:LN ((AF ts).cl j)≠true:=by rw[YZ hb];decide
  rcases NZ hf hr with⟨q1,l1,hx,hk⟩|⟨q1,l1,hx,rfl⟩
  .obtain⟨_,k1,k2⟩:=Wx hj hx;have k2:=k2 rfl;obtain⟨h1,h2⟩:=hrest f q1 l1 hx k1 k2 (FG E htl hj H hb hx);by_cases ha:(AF ts).cl q1=8592
   .unfold Ff at hk;rw[AG (by rw[ha];decide)]at hk;cases hk;exact⟨false,Qx ha,(h1 ha).no⟩
   .obtain⟨b,q2,l2⟩:=r;exact⟨_,VI (l':=l2) b,h2 ha _ _ _ (SC E htl H (by omega) k1 hk)⟩
  .have hR:=FG E htl hj H hb hx;exact⟨false,IH,fun w nd xs h AQ=>MH E h (by omega) AQ hb rfl rfl hR⟩
def Tr(htl:ts.length<=4096)(H:∀j',j<j'->j'<=ts.length->LL Z p ta tn tc ts j'){f q0:Nat}(hjq:j<q0)(hq0:q0<=ts.length){k n:Int}{s:AE}{ls:List (List AM)}{r:B1}(hr:F4 (Bh (AF ts) f) k n s ls q0=some r)(hS:∀g q2 t2,q2<=ts.length->BM Z p ta tn tc 94 #[.pointer (some ⟨p,0,none⟩)] q0 g q2 t2->BM Z p ta tn tc 43 #[.pointer (some ⟨p,0,none⟩)] j g q2 (Ay k n 0 s [] (ls++ [t2]))):∃g,GI (AF ts) r g/\BM Z p ta tn tc 43 #[.pointer (some ⟨p,0,none⟩)] j g r.2.1 (r.2.2.headD []):=by
 have uu:=htl;clear uu;unfold F4 at hr;rcases BG hr with⟨q2,l2,hx2,hk2⟩|⟨q2,l2,hx2,rfl⟩
 .obtain⟨t2,rfl,m1,m2,_⟩:=C7 (by rfl) (by decide) (by decide) (q0:=q0) hq0 hx2;cases hk2;exact⟨_,VI (l':= [t2]) true,hS _ _ _ m1 ((H q0 hjq hq0).x f _ hx2)⟩
 .have m1:q2<=ts.length:=(Cc (Ab ts) f 0 q0 [] hq0 _ _ _ hx2).2.1;have hX:BM Z p ta tn tc 94 #[.pointer (some ⟨p,0,none⟩)] q0 false q2 []:=((H q0 hjq hq0).x f _ hx2).no;exact⟨false,IH,(hS _ _ _ m1 hX).no⟩
def Ww(h3:(AF ts).cl j=3)(h91:(AF ts).cl (j+1)≠91):(A7 (Dj (AF ts) (Bh (AF ts) 1) j) fun q l=>Bh (AF ts) 1 1 q (l.headD []))=some (true,j+1,[Gh 3 ((AF ts).sv j)]):=by unfold Dj;rw[AG (by rw[h3];decide),AG (by rw[h3];decide),AG (by rw[h3];decide),AL h3];show Bh (AF ts) 1 1 (j+1) (Gh 3 ((AF ts).sv j))=_;rw[Bh,AG (by decide),AL rfl];unfold Jt;rw[AG h91];rfl
def Kr{f:Nat}(h3:(AF ts).cl j=3)(h91:(AF ts).cl (j+1)=91):(A7 (Dj (AF ts) (Bh (AF ts) (f+1)) j) fun q l=>Bh (AF ts) (f+1) 1 q (l.headD []))=A7 (Bh (AF ts) f 2 (j+1+1) []) fun q l=>if(AF ts).cl q=93 then Bh (AF ts) f 1 (q+1) (Ay 7 0 0 E2 [] (Gh 3 ((AF ts).sv j)::l))else Cp q:=by unfold Dj;rw[AG (by rw[h3];decide),AG (by rw[h3];decide),AG (by rw[h3];decide),AL h3];show Bh (AF ts) (f+1) 1 (j+1) (Gh 3 ((AF ts).sv j))=_;rw[Bh,AG (by decide),AL rfl];unfold Jt;rw[AL h91]
def TV{f q1:Nat}{l1:List (List AM)}(h3:(AF ts).cl j=3)(h91:(AF ts).cl (j+1)≠91)(hx:(A7 (Dj (AF ts) (Bh (AF ts) f) j) fun q l=>Bh (AF ts) f 1 q (l.headD []))=some (true,q1,l1)):q1=j+1:=by
 unfold Dj at hx;rw[AG (by rw[h3];decide),AG (by rw[h3];decide),AG (by rw[h3];decide),AL h3]at hx;have hx':Bh (AF ts) f 1 (j+1) (Gh 3 ((AF ts).sv j))=some (true,q1,l1):=hx;rcases Jl f (j+1) _ q1 l1 hx' with⟨h,_⟩|⟨_,h,_⟩
 .exact h
 .exact absurd h h91
def SB(k:Int)(s:AE):C6 (Gh k s)=k:=LV ..
def co(E:Bk Z ta tn ts)(htl:ts.length<=4096)(hj:j<=ts.length)(H:∀j',j<j'->j'<=ts.length->LL Z p ta tn tc ts j')(h3:(AF ts).cl j=3){f:Nat}{r:B1}(hr:Hz (AF ts) (Bh (AF ts) f) j=some r):∃g,GI (AF ts) r g/\BM Z p ta tn tc 43 #[.pointer (some ⟨p,0,none⟩)] j g r.2.1 (r.2.2.headD []):=by
 have hb:Eg ((AF ts).cl j)=true:=by rw[h3];rfl
 have hjl:j<ts.length:=Ab ts j (by rw[h3];decide);unfold Hz at hr;rw[AG (fun e=>absurd e.1 (by rw[h3];decide))]at hr;by_cases h91:(AF ts).cl (j+1)=91
 .have hj1:j+1<ts.length:=Ab ts (j+1) (by rw[h91];decide);rw[AG (fun e=>absurd e.2 (by rw[h91];decide)),AG (fun e=>absurd e.2.1 (by rw[h91];decide))]at hr;cases hv:LJ (AF ts) (j+1)with
  |true=>
   rw[AL ⟨h3,h91,hv⟩]at hr;rcases BG hr with⟨q,l,hx,hk⟩|⟨q,l,hx,rfl⟩
   .have hbal:=Km (X:=AF ts) (o:=91) (c:=93) (.inr ⟨rfl,rfl⟩) f 2 (j+2) [] q l hx;by_cases h93:(AF ts).cl q=93
    .rw[AL h93]at hk;have hql:q<ts.length:=Ab ts q (by rw[h93];decide);have ha:(AF ts).cl (q+1)=8592:=by have:=T4 (X:=AF ts) hql h91 hbal h93;rw[hv]at this;exact AT this.symm
     rw[AL ha]at hk;have hql1:q+1<ts.length:=Ab ts (q+1) (by rw[ha];decide);have hjq:=hbal.1;have hp:=IS f (j+2) q l hj1 hx;have hw:=(LZ (AF ts) f 2 (j+2) [] (fun e=>by cases e) q l hx).1;have hO:BM Z p ta tn tc 95 #[.pointer (some ⟨p,0,none⟩)] j true (q+1) (Ay 7 0 0 E2 [] (Gh 3 ((AF ts).sv j)::l)):=by
      refine FG E htl hj H hb (f:=f+1) (r:=(true,q+1,[Ay 7 0 0 E2 [] (Gh 3 ((AF ts).sv j)::l)])) ?_;rw[Kr h3 h91,show Bh (AF ts) f 2 (j+1+1) []=some (true,q,l)from hx];show(if(AF ts).cl q=93 then _ else _)=_;rw[AL h93];cases f with
      |zero=>cases hx
      |succ f=>
       rw[Bh,AG (by decide),AL rfl];unfold Jt;rw[AG (by rw[ha];decide)];rfl
     exact Tr htl H (q0:=q+2) (by omega) hql1 hk fun g q2 t2 hq2 hR w nd xs h AQ=>dF E h (by omega) AQ hb (q0:=q+1) (by omega) (by omega) hO h3 (by omega) rfl (Jg hw) (by omega) ha (SB ..) (by omega) hR
    .rw[AG h93]at hk;cases hk;refine⟨false,IH,fun w nd xs h AQ=>MH E h (by omega) AQ hb rfl rfl (FG E htl hj H hb (f:=f+1) (r:=(false,q,[])) ?_)⟩;rw[Kr h3 h91,show Bh (AF ts) f 2 (j+1+1) []=some (true,q,l)from hx];show(if(AF ts).cl q=93 then _ else _)=_;rw[AG h93];rfl
   .refine⟨false,IH,fun w nd xs h AQ=>MH E h (by omega) AQ hb rfl rfl (FG E htl hj H hb (f:=f+1) (r:=(false,q,[])) ?_)⟩;rw[Kr h3 h91,show Bh (AF ts) f 2 (j+1+1) []=some (false,q,l)from hx];rfl
  |false=>
   rw[AG (by rw[hv];intro e;cases e.2.2),AG (by rw[h3];decide)]at hr;refine TH E htl hj H hb hr fun f q1 l1 hx k1 k2 hO=> ?_;cases f with
   |zero=>
    unfold Dj at hx;rw[AG (by rw[h3];decide),AG (by rw[h3];decide),AG (by rw[h3];decide),AL h3]at hx;cases hx
   |succ f=>
    rw[Kr h3 h91]at hx;rcases BG hx with⟨q,l,hx,hk⟩|⟨q,l,hx,hk⟩;case inr=>cases hk
    by_cases h93:(AF ts).cl q=93;case neg=>rw[AG h93]at hk;cases hk
    rw[AL h93]at hk;have hql:q<ts.length:=Ab ts q (by rw[h93];decide);have hbal:=Km (X:=AF ts) (o:=91) (c:=93) (.inr ⟨rfl,rfl⟩) f 2 (j+1+1) [] q l hx;have hjq:=hbal.1;have has:=T4 (X:=AF ts) hql h91 hbal h93;rw[hv]at has;have hna:(AF ts).cl (q+1)≠8592:=of_decide_eq_false has.symm;have hq1:q1≠j+1:=by rcases Jl f (q+1) _ q1 l1 hk with⟨h,_⟩|⟨h,_⟩<;>omega
    refine⟨fun ha w nd xs h AQ=> ?_,fun ha g q2 t hR w nd xs h AQ=>cw E h (by omega) AQ hb (by omega) k2 hO h3 hq1 ha hR⟩;have h2:(AF ts).cl (q+1)=91:=by
     rcases Jl f (q+1) _ q1 l1 hk with⟨rfl,_⟩|⟨_,h,_⟩
     .exact absurd ha hna
     .exact h
    obtain⟨a',l',rfl,ha',hl1,hl2⟩:=Tk f (q+1) _ q1 l1 hql (LV ..) h2 hk;exact Y6 E h (by omega) AQ hb (by omega) k2 hO h3 hq1 rfl hl1 (by omega) ha (by rw[ha'];decide)
 .have hO:=FG E htl hj H hb (Ww h3 h91);by_cases ha:(AF ts).cl (j+1)=8592
  .have hl:j+1<ts.length:=Ab ts (j+1) (by rw[ha];decide);rw[AL ⟨h3,ha⟩]at hr;exact Tr htl H (q0:=j+2) (by omega) hl hr fun g q2 t2 hq2 hR w nd xs h AQ=>bA E h (by omega) AQ hb (q0:=j+1) (by omega) (by omega) hO h3 rfl ha (by omega) hR
  rw[AG (fun e=>ha e.2)]at hr;by_cases hs:0<Ah ((AF ts).cl (j+1))
  .by_cases ha2:(AF ts).cl (j+2)=8592
   .have hl:j+2<ts.length:=Ab ts (j+2) (by rw[ha2];decide);rw[AL ⟨h3,hs,ha2⟩]at hr;exact Tr htl H (q0:=j+3) (by omega) hl hr fun g q2 t2 hq2 hR w nd xs h AQ=>bD E h (by omega) AQ hb (q0:=j+1) (by omega) (by omega) hO h3 rfl hs ha2 (by omega) hR
   rw[AG (fun e=>ha2 e.2.2),AG (fun e=>h91 e.2.1),AG (by rw[h3];decide)]at hr;refine TH E htl hj H hb hr fun f q1 l1 hx k1 k2 hO'=> ?_;have hq1:q1=j+1:=TV h3 h91 hx;subst hq1;exact⟨fun e=>absurd e ha,fun _ g q2 t hR w nd xs h AQ=>cx E h (by omega) AQ hb (by omega) k2 hO' h3 rfl hs ha2 hR⟩
  .rw[AG (fun e=>hs e.2.1),AG (fun e=>h91 e.2.1),AG (by rw[h3];decide)]at hr;refine TH E htl hj H hb hr fun f q1 l1 hx k1 k2 hO'=> ?_;have hq1:q1=j+1:=TV h3 h91 hx;subst hq1;exact⟨fun e=>absurd e ha,fun ha g q2 t hR w nd xs h AQ=>cy E h (by omega) AQ hb (by omega) k2 hO' h3 rfl (Dn hs) ha hR⟩
end
section
variable {Z w w0 w1:World}{p i j q:Nat}{nd nd0 nd1 v:Value}{zs:List Int}{xs ys:List AW}{bx:List Nat}{ns:List AM}{ta:Option Addr}{tn tc:Nat}{ts:List CO}{b b' g:Bool}{t:List AM}
def Ui{f:Nat}(h40:(AF ts).cl j=40):(A7 (Dj (AF ts) (Bh (AF ts) f) j) fun q l=>Bh (AF ts) f 1 q (l.headD []))=A7 (Bh (AF ts) f 0 (j+1) []) fun q l=>if(AF ts).cl q=41 then Bh (AF ts) f 1 (q+1) (l.headD [])else Cp q:=by
 unfold Dj;rw[AG (by rw[h40];decide),AL h40];cases Bh (AF ts) f 0 (j+1) []with
 |none=>rfl
 |some y=>
  obtain⟨b,q,l⟩:=y;cases b with
  |false=>rfl
  |true=>
   show A7 (if(AF ts).cl q=41 then C4 (q+1) l else Cp q) _=if(AF ts).cl q=41 then _ else _
   split<;>rfl
def aw(E:Bk Z ta tn ts)(htl:ts.length<=4096)(hj:j<=ts.length)(H:∀j',j<j'->j'<=ts.length->LL Z p ta tn tc ts j')(h40:(AF ts).cl j=40){f:Nat}{r:B1}(hr:(A7 (Bh (AF ts) f 0 (j+1) []) fun q l=>if(AF ts).cl q=41 then(if(AF ts).cl (q+1)=8592 then(if J8 (l.headD [])=true then F4 (Bh (AF ts) f) 23 0 E2 l (q+2)else Cp (q+1))else Gu (AF ts) (Bh (AF ts) f) (q+1) (l.headD []))else Cp q)=some r):∃g,GI (AF ts) r g/\BM Z p ta tn tc 43 #[.pointer (some ⟨p,0,none⟩)] j g r.2.1 (r.2.2.headD []):=by
 have hb:Eg ((AF ts).cl j)=true:=by rw[h40];rfl
 have h3:(AF ts).cl j≠3:=by rw[h40];decide
 have hjl:j<ts.length:=Ab ts j (by rw[h40];decide);have hO:=fun r hr=>FG E htl hj H hb (f:=f) (r:=r) hr;rw[Ui h40]at hO;have Di:∀q l,(A7 (Bh (AF ts) f 0 (j+1) []) fun q l=>if(AF ts).cl q=41 then Bh (AF ts) f 1 (q+1) (l.headD [])else Cp q)=some (false,q,l)->∃g,GI (AF ts) (false,q,[]) g/\BM Z p ta tn tc 43 #[.pointer (some ⟨p,0,none⟩)] j g q []:=fun q l hx=>by have hR:=hO _ hx;exact⟨false,IH,fun w nd xs h AQ=>MH E h (by omega) AQ hb rfl rfl hR⟩
 rcases BG hr with⟨q,l,hx,hk⟩|⟨q,l,hx,rfl⟩
 .obtain⟨t,rfl,k1,k2,k3,_⟩:=C7 (by rfl) (by decide) (by decide) (q0:=j+1) hjl hx;have hjq:j+1+1<=q:=((Cc (Ab ts) f 0 (j+1) [] hjl).q hx).1;have hbal:=Km (X:=AF ts) (o:=40) (c:=41) (.inl ⟨rfl,rfl⟩) f 0 (j+1) [] q _ hx;rw[hx]at hO Di;by_cases h41:(AF ts).cl q=41
  .rw[AL h41]at hk;have hql:q<ts.length:=Ab ts q (by rw[h41];decide);have hO':∀r,Bh (AF ts) f 1 (q+1) t=some r->BM Z p ta tn tc 95 #[.pointer (some ⟨p,0,none⟩)] j r.1 r.2.1 (r.2.2.headD []):=fun r hr=>hO r (by show(if(AF ts).cl q=41 then Bh (AF ts) f 1 (q+1) t else Cp q)=_;rw[AL h41];exact hr);by_cases ha:(AF ts).cl (q+1)=8592
   .rw[AL ha]at hk;have hql1:q+1<ts.length:=Ab ts (q+1) (by rw[ha];decide);have hR:=hO' (true,q+1,[t]) (by
     cases f with
     |zero=>cases hx
     |succ f=>
      rw[Bh,AG (by decide),AL rfl];unfold Jt;rw[AG (by rw[ha];decide)];rfl)
    obtain⟨hd,he⟩:=Ya (by decide) h40 hbal h41;have hk':(if J8 t=true then F4 (Bh (AF ts) f) 23 0 E2 [t] (q+2)else Cp (q+1))=some r:=hk;by_cases hs:J8 t=true
    .rw[AL hs]at hk';exact Tr htl H (q0:=q+2) (by omega) hql1 hk' fun g q2 t2 hq2 hR2 w nd xs h AQ=>dE E h (by omega) AQ hb (q0:=q+1) (by omega) (by omega) hR h3 h40 ha h41 hs hql htl (by omega) hd he (by omega) hR2
    .rw[AG hs]at hk';cases hk';exact⟨false,IH,fun w nd xs h AQ=>bF E h (by omega) AQ hb (q0:=q+1) (by omega) (by omega) hR h3 h40 ha h41 (by simpa using hs)⟩
   .rw[AG ha]at hk;unfold Gu at hk;rcases BG hk with⟨q1,l1,hx1,hk1⟩|⟨q1,l1,hx1,rfl⟩
    .have m1:=Cc (Ab ts) f 1 (q+1) t hql _ _ _ hx1;have m2:q1<=ts.length:=m1.2.1;have m3:=m1.1;have hR:=hO' _ hx1;by_cases ha1:(AF ts).cl q1=8592
     .have h93:(AF ts).cl (q1- 1)=93:=by
       rcases Jl f (q+1) _ q1 l1 hx1 with⟨rfl,_⟩|⟨_,_,h,_⟩
       .exact absurd ha1 ha
       .exact h
      unfold Ff at hk1;rw[AG (by rw[ha1];decide)]at hk1;cases hk1;refine⟨false,Qx ha1,fun w nd xs h AQ=> ?_⟩;exact(bE E h (by omega) AQ hb (q0:=q1) (by omega) (by omega) hR h3 h40 ha1 (by rw[h93];decide)).mono fun _ _ h=>Bf.no h
     .obtain⟨b,q2,l2⟩:=r;exact⟨_,VI (l':=l2) b,fun w nd xs h AQ=>bB E h (by omega) AQ hb (q0:=q1) (by omega) (by omega) hR h3 h40 ha1 (SC E htl H (by omega) m2 hk1)⟩
    .exact Di q1 l1 (by show(if(AF ts).cl q=41 then Bh (AF ts) f 1 (q+1) t else Cp q)=_;rw[AL h41];exact hx1)
  .rw[AG h41]at hk;cases hk;exact Di q [] (by show(if(AF ts).cl q=41 then Bh (AF ts) f 1 (q+1) t else Cp q)=_;rw[AG h41];rfl)
 .exact Di q [] (by rw[hx];rfl)
def av(E:Bk Z ta tn ts)(htl:ts.length<=4096)(hj:j<=ts.length)(H:∀j',j<j'->j'<=ts.length->LL Z p ta tn tc ts j'){f:Nat}{r:B1}(hr:Hz (AF ts) (Bh (AF ts) f) j=some r)(hX:∀r,Bh (AF ts) f 0 j []=some r->BM Z p ta tn tc 94 #[.pointer (some ⟨p,0,none⟩)] j (gX (AF ts) r) r.2.1 (r.2.2.headD [])):∃g,GI (AF ts) r g/\BM Z p ta tn tc 43 #[.pointer (some ⟨p,0,none⟩)] j g r.2.1 (r.2.2.headD []):=by
 by_cases h3:(AF ts).cl j=3
 .exact co E htl hj H h3 hr
 unfold Hz at hr;by_cases h40:(AF ts).cl j=40
 .rw[AG (fun e=>absurd e.1 (by rw[h40];decide)),AG (fun e=>h3 e.1),AG (fun e=>h3 e.1),AG (fun e=>h3 e.1),AL h40]at hr;exact aw E htl hj H h40 hr
 by_cases h4:(AF ts).cl j=4
 .have hb:Eg ((AF ts).cl j)=false:=by rw[h4];rfl
  by_cases ha:(AF ts).cl (j+1)=8592
  .rw[AL ⟨h4,ha⟩]at hr;have hj1:j+1<ts.length:=Ab ts (j+1) (by rw[ha];decide);by_cases h5:(AF ts).cl (j+2)=123
   .rw[AL h5]at hr;have hB:=fun r hr=>RP E htl (j:=j+2) (fun j' h1 h2=>H j' (by omega) h2) h5 (f:=f) (r:=r) hr;rcases BG hr with⟨q,l,hx,hk⟩|⟨q,l,hx,rfl⟩
    .obtain⟨t,rfl,k1,k2,k3⟩:=NX (H9 (Ab ts) (FF (Ab ts) f) h5) hx;have k2':q<=ts.length:=k2;cases hk;have hR:=hB _ hx;exact⟨true,di,fun w nd xs h AQ=>WA E h (by omega) AQ h4 ha h5 (q2:=q) (by omega) hR⟩
    .have hR:=hB _ hx;have k2:q<=ts.length:=(Iq (Ab ts) (Cc (Ab ts) f) h5 _ _ _ hx).2.1;exact⟨false,IH,fun w nd xs h AQ=>(WA E h (by omega) AQ h4 ha h5 (q2:=q) (by omega) hR).mono fun _ _ h=>Bf.no h⟩
   .rw[AG h5]at hr;cases hr;exact⟨false,IH,fun w nd xs h AQ=>Y5 E h (by omega) AQ h4 ha h5⟩
  .rw[AG (fun e=>ha e.2),AG (fun e=>h3 e.1),AG (fun e=>h3 e.1),AG (fun e=>h3 e.1),AG h40]at hr;obtain⟨b,q2,l2⟩:=r;exact⟨_,VI (l':=l2) b,fun w nd xs h AQ=>bC E h (by omega) AQ h4 ha hb (hX _ hr)⟩
 rw[AG (fun e=>h4 e.1),AG (fun e=>h3 e.1),AG (fun e=>h3 e.1),AG (fun e=>h3 e.1),AG h40]at hr;cases hb:Eg ((AF ts).cl j)with
 |false=>
  obtain⟨b,q2,l2⟩:=r;exact⟨_,VI (l':=l2) b,fun w nd xs h AQ=>cz E h (by omega) AQ h4 hb (hX _ hr)⟩
 |true=>
  refine TH E htl hj H hb hr fun f q1 l1 hx k1 k2 hO=> ?_;exact⟨fun ha w nd xs h AQ=>Y4 E h (by omega) AQ hb (by omega) k2 hO h3 h40 ha,fun ha g q2 t hR w nd xs h AQ=>cv E h (by omega) AQ hb (by omega) k2 hO h3 h40 ha hR⟩
def db(E:Bk Z ta tn ts)(htl:ts.length<=4096):∀(n j:Nat),j<=ts.length->ts.length- j<n->LL Z p ta tn tc ts j
 |0,_,_,h=>absurd h (Bc _)
 |n+1,j,hj,hn=>by
  have H:∀j',j<j'->j'<=ts.length->LL Z p ta tn tc ts j':=fun j' h1 h2=>db E htl n j' h2 (by omega);have G:∀f r,Bh (AF ts) f 3 j []=some r->BM Z p ta tn tc 146 #[.pointer (some ⟨p,0,none⟩)] j r.1 r.2.1 (r.2.2.headD []):=fun f r hr=>by
   cases f with
   |zero=>cases hr
   |succ f=>
    rw[Bh,AG (by decide),AG (by decide),AG (by decide),AL rfl]at hr;exact ed E htl hj H hr
  have X:∀f r,Bh (AF ts) f 0 j []=some r->BM Z p ta tn tc 94 #[.pointer (some ⟨p,0,none⟩)] j (gX (AF ts) r) r.2.1 (r.2.2.headD []):=fun f r hr=>by
   cases f with
   |zero=>cases hr
   |succ f=>
    rw[Bh,AL rfl]at hr;exact cF E htl hj H hr (G f)
  have S:∀f r,Bh (AF ts) f 5 j []=some r->∃g,GI (AF ts) r g/\BM Z p ta tn tc 43 #[.pointer (some ⟨p,0,none⟩)] j g r.2.1 (r.2.2.headD []):=fun f r hr=>by
   cases f with
   |zero=>cases hr
   |succ f=>
    rw[Bh,AG (by decide),AG (by decide),AG (by decide),AG (by decide),AG (by decide),AL rfl]at hr;exact av E htl hj H hr (X f)
  refine⟨X,G,S,fun f r hr=> ?_⟩;cases f with
  |zero=>cases hr
  |succ f=>
   rw[Bh,AG (by decide),AG (by decide),AG (by decide),AG (by decide),AG (by decide),AG (by decide),AL rfl]at hr;exact be E htl hj H hr (S f)
end
def QB{ns:List AM}{e:Nat}{t:List AM}(h:A0 ns e t):0<t.length:=by obtain⟨k,n,m,s,nums,es,ls,rfl,_⟩:=h.parts;rw[CN];omega
def WZ:∀(ls:List (List AM)),(∀l∈ls,0<l.length)->ls.length<=(Az ls).length
 | [],_=>AZ _
 |l::ls,h=>by have h1:=WZ ls fun x hx=>h x (C2 _ hx);have h2:=h l Bl;rw[Fe];show ls.length+1<=_;omega
def UC{ns:List AM}{es:List Nat}{ls:List (List AM)}(h:Av ns es ls):∀l∈ls,0<l.length:=fun l hl=>by obtain⟨j,hj⟩:=List.mem_iff_getElem?.1 hl;have hjl:j<ls.length:=(DK.1 hj).1;obtain⟨a,h1,_,_⟩:=h.get hjl;exact QB (h.2 j a l h1 hj)
structure Hu(Z w:World)(nd:Value)(xs:List AW)(v:Value)(ys:List AW):Prop where
 nodes:w.ownsRow Z.heap.size 47 6 nd xs.length (xs.flatMap AW.cells)
 lists:∀x∈xs,x.Ok w Z.heap.size
 own:w.ownsRow Z.heap.size 47 6 v ys.length (ys.flatMap AW.cells)
 outs:∀y∈ys,y.Ok w Z.heap.size
 ne:∀b,nd.ownBlock=some b->v.ownBlock≠some b
 low:Below Z.heap.size Z w
section
variable {Z w w1:World}{nd v:Value}{xs ys:List AW}
def Hu.keepI(h:Hu Z w nd xs v ys)(hb:EF (fun x=>v.ownBlock=some x) w w1){u:Value}{l:List Int}(ho:Dk w Z.heap.size u l):Dk w1 Z.heap.size u l:=by refine BP ho fun g hg=> ?_;obtain⟨cur,hh,_⟩:=Ag ho hg;refine hb.block g (lt_of_block hh) fun hn=> ?_;obtain⟨cur',hh',_⟩:=Ag h.own hn;rw[hh']at hh;have:=Ac hh;simp at this
def Hu.below(h:Hu Z w nd xs v ys)(hb:Below w.heap.size w w1):Hu Z w1 nd xs v ys:=by have hI:∀ {u:Value}{l:List Int},Dk w Z.heap.size u l->Dk w1 Z.heap.size u l:=fun {u l}ho=>BP ho fun g hg=>hb.block g ((Ag ho hg).elim fun _ hc=>lt_of_block hc.1);exact⟨BP h.nodes fun g hg=>hb.block g ((Ag h.nodes hg).elim fun _ hc=>lt_of_block hc.1),fun x hx=>⟨hI (h.lists x hx).1,hI (h.lists x hx).2⟩,BP h.own fun g hg=>hb.block g ((Ag h.own hg).elim fun _ hc=>lt_of_block hc.1),fun y hy=>⟨hI (h.outs y hy).1,hI (h.outs y hy).2⟩,h.ne,h.low.trans (hb.mono h.low.size)⟩
def Hu.push(h:Hu Z w nd xs v ys){W w7:World}(hW:Below w.heap.size w W){y:AW}(hy:y.Ok W Z.heap.size){g cap:Nat}(ET:w7.ownsRow Z.heap.size 47 6 (.slice (some ⟨g,0,none⟩) (ys.length+1) cap) (ys.length+1) (ys.flatMap AW.cells++y.cells))(hg:W.grownBy w7 v.ownBlock)(hat:v.ownBlock=some g\/g=W.heap.size):Hu Z w7 nd xs (.slice (some ⟨g,0,none⟩) (ys.length+1) cap) (ys++ [y])/\EF (fun x=>v.ownBlock=some x) w w7/\((Value.slice (some ⟨g,0,none⟩) (ys.length+1) cap).ownBlock=v.ownBlock\/∀b,(Value.slice (some ⟨g,0,none⟩) (ys.length+1) cap).ownBlock=some b->w.heap.size<=b):=by
 have hz:=hW.size;have h1:=h.below hW;have hb:EF (fun x=>v.ownBlock=some x) W w7:=⟨hg.os,hg.tape,hg.output,hg.size,fun k hk hn=>hg.block k hk (fun e=>hn e.symm)⟩
 have hz7:=hb.size;have hnl:∀b,nd.ownBlock=some b->b<W.heap.size:=fun b hb=>(Ag h1.nodes hb).elim fun _ hc=>lt_of_block hc.1;refine⟨⟨BP h1.nodes fun k hk=>hb.block k (hnl k hk) (h1.ne k hk),fun x hx=>⟨h1.keepI hb (h1.lists x hx).1,h1.keepI hb (h1.lists x hx).2⟩,?_,fun z hz=> ?_,fun b hb' e=> ?_,h1.low.trans ⟨hb.os,hb.tape,hb.output,hb.size,fun k hk=>hb.block k (by have:=h1.low.size;omega) fun e=> ?_⟩⟩,⟨hb.os.trans hW.os,hb.tape.trans hW.tape,hb.output.trans hW.output,by omega,fun k hk hn=>(hb.block k (by omega) hn).trans (hW.block k hk)⟩,?_⟩
 .rw[AH,DF];simpa using ET
 .rcases Ak.1 hz with hz|hz
  .exact⟨h1.keepI hb (h1.outs z hz).1,h1.keepI hb (h1.outs z hz).2⟩
  .rw[AY]at hz;subst hz;exact⟨h1.keepI hb hy.1,h1.keepI hb hy.2⟩
 .have e':g=b:=Ac e;subst e';rcases hat with h2|h2
  .exact h1.ne _ hb' h2
  .have:=hnl _ hb';omega
 .obtain⟨_,_,hB⟩:=Ag h1.own e;omega
 .rcases hat with e|e
  .exact .inl e.symm
  .refine .inr fun b hb'=> ?_;have e':g=b:=Ac hb';omega
def MR(h:∀x∈xs,x.Ok w Z.heap.size){b:Nat}(hb:b∈Bm xs):b<w.heap.size:=by
 unfold Bm at hb;obtain⟨x,hx,hbx⟩:=CE.1 hb;unfold AW.blks at hbx;rcases Ak.1 hbx with h'|h'
 .exact(Ag (h x hx).1 (by simpa[Option.mem_toList]using h')).elim fun _ hc=>lt_of_block hc.1
 .exact(Ag (h x hx).2 (by simpa[Option.mem_toList]using h')).elim fun _ hc=>lt_of_block hc.1
def LI{x:AW}(hx:x∈xs){b:Nat}(h:x.v4.ownBlock=some b\/x.v5.ownBlock=some b):b∈Bm xs:=by
 unfold Bm;refine CE.2 ⟨x,hx,?_⟩;unfold AW.blks;rcases h with h|h
 .exact Ak.2 (.inl (by simp[h]))
 .exact Ak.2 (.inr (by simp[h]))
def Hu.got{e:Nat}{k n m:Int}{s:AE}{nums:List Int}{ls:List (List AM)}(h:Hu Z w nd xs v ys)(ht:A0 (xs.map AW.d) e (Ay k n m s nums ls)):∃nb nc a4 c4 a5 c5 es,nd=.slice (some ⟨nb,0,none⟩) xs.length nc/\e<xs.length/\nb<w.heap.size/\w.cell? ⟨nb,e*6,none⟩=some (.int .i64 k)/\w.cell? ⟨nb,e*6+1,none⟩=some (.int .i64 n)/\w.cell? ⟨nb,e*6+2,none⟩=some (.int .i64 m)/\w.cell? ⟨nb,e*6+3,none⟩=some (.string s)/\w.cell? ⟨nb,e*6+4,none⟩=some (.slice a4 nums.length c4)/\w.cell? ⟨nb,e*6+5,none⟩=some (.slice a5 ls.length c5)/\(∀w1 v1 ys1,Hu Z w1 nd xs v1 ys1->Dk w1 Z.heap.size (.slice a4 nums.length c4) nums/\Dk w1 Z.heap.size (.slice a5 ls.length c5) (Bv es))/\(∀b,(Value.slice a4 nums.length c4).ownBlock=some b->b∈Bm xs)/\Av (xs.map AW.d) es ls/\(∀a∈es,a<e)/\I0 k ls.length:=by
 obtain⟨es,hn,hts,hlt,hc⟩:=ht.inv;have hxl:(xs.map AW.d).length=xs.length:=AS ..;have hez:e<xs.length:=by rw[<-hxl];exact ht.lt
 obtain⟨x,hx⟩:∃x,xs[e]? =some x:=⟨_,AR hez⟩
 have hxd:x.d=⟨k,n,m,s,nums,Bv es⟩:=by have h':=hn;rw[BV,hx]at h';exact Ac h'
 obtain⟨hl4,hl5⟩:=h.lists x (A1 hx);obtain⟨a4,c4,e4⟩:=EP hl4;obtain⟨a5,c5,e5⟩:=EP hl5;have hk5:(Bv es).length=ls.length:=by rw[Bv,AS];exact hts.1
 rw[hxd]at hl4 hl5 e4 e5;dsimp only at hl4 hl5 e4 e5;rw[hk5]at e5;rcases KK h.nodes with⟨_,h0⟩|⟨nb,nc,rfl,hnb,_,_,hcn⟩
 .omega
 have hk:∀q u,q<6->x.cells[q]? =some u->w.cell? ⟨nb,e*6+q,none⟩=some u:=fun q u hq hu'=>by exact hcn _ _ ((Gb xs e q x hx hq).trans hu')
 refine⟨nb,nc,a4,c4,a5,c5,es,rfl,hez,hnb,?_,?_,?_,?_,?_,?_,fun w1 v1 ys1 h1=> ?_,fun b hb=>LI (A1 hx) (.inl (by rw[e4];exact hb)),hts,hlt,hc⟩
 .exact hk 0 _ (by omega) (by unfold AW.cells;rw[hxd];rfl)
 .exact hk 1 _ (by omega) (by unfold AW.cells;rw[hxd];rfl)
 .exact hk 2 _ (by omega) (by unfold AW.cells;rw[hxd];rfl)
 .exact hk 3 _ (by omega) (by unfold AW.cells;rw[hxd];rfl)
 .exact hk 4 _ (by omega) (by unfold AW.cells;rw[e4];rfl)
 .exact hk 5 _ (by omega) (by unfold AW.cells;rw[e5];rfl)
 .have h2:=h1.lists x (A1 hx);unfold AW.Ok at h2;rw[hxd,e4,e5]at h2;exact h2
def fD(Z:World)(nd:Value)(xs:List AW)(e:Nat)(t:List AM):Prop:=∀w v ys,Hu Z w nd xs v ys->ys.length+t.length<=100000->Calls prog 46 #[nd,.int .i64 (e:Nat),v] w fun e' w'=>∃v' ys',e'=.returned v'/\Hu Z w' nd xs v' (ys++ys')/\ys'.map AW.d=B0 ys.length t/\(∀b∈Bm ys',b∈Bm xs\/w.heap.size<=b)/\EF (fun x=>v.ownBlock=some x) w w'/\(v'.ownBlock=v.ownBlock\/∀b,v'.ownBlock=some b->w.heap.size<=b)
structure It(Z w0:World)(v0 nd:Value)(xs ys:List AW)(B:Nat)(o:Obj)(w:World)(v:Value)(zs:List AW)(kv:Value)(cs:List Int):Prop where
 out:Hu Z w nd xs v (ys++zs)
 kids:Dk w Z.heap.size kv cs
 box:w.heap[B]? =some o
 vB:v.ownBlock≠some B
 nB:nd.ownBlock≠some B
 kB:kv.ownBlock≠some B
 new:w0.heap.size<=B
 zB:Z.heap.size<=B
 but:EF (fun x=>v0.ownBlock=some x) w0 w
 at_:v.ownBlock=v0.ownBlock\/∀b,v.ownBlock=some b->w0.heap.size<=b
 kap:∀b,kv.ownBlock=some b->w0.heap.size<=b/\b∉Bm xs/\b∉Bm (ys++zs)
 fresh:∀b∈Bm zs,b∈Bm xs\/w0.heap.size<=b
variable {w0:World}{v0 kv:Value}{B:Nat}{o:Obj}{cs:List Int}{zs:List AW}
def It.below(h:It Z w0 v0 nd xs ys B o w v zs kv cs)(hb:Below w.heap.size w w1):It Z w0 v0 nd xs ys B o w1 v zs kv cs:=⟨h.out.below hb,BP h.kids fun g hg=>hb.block g ((Ag h.kids hg).elim fun _ hc=>lt_of_block hc.1),(hb.block B (lt_of_block h.box)).trans h.box,h.vB,h.nB,h.kB,h.new,h.zB,⟨hb.os.trans h.but.os,hb.tape.trans h.but.tape,hb.output.trans h.but.output,Aw h.but.size hb.size,fun k hk hn=>(hb.block k (AX hk h.but.size)).trans (h.but.block k hk hn)⟩,h.at_,h.kap,h.fresh⟩
def It.kid{v':Value}{ys':List AW}{w':World}(h:It Z w0 v0 nd xs ys B o w v zs kv cs)(ho:Hu Z w' nd xs v' (ys++zs++ys'))(hf:∀b∈Bm ys',b∈Bm xs\/w.heap.size<=b)(hb:EF (fun x=>v.ownBlock=some x) w w')(hat:v'.ownBlock=v.ownBlock\/∀b,v'.ownBlock=some b->w.heap.size<=b):It Z w0 v0 nd xs ys B o w' v' (zs++ys') kv cs:=by
 have hz:=h.but.size;have hBl:=lt_of_block h.box;refine⟨by rw[<-Aj];exact ho,h.out.keepI hb h.kids,(hb.block B hBl h.vB).trans h.box,fun e=> ?_,h.nB,h.kB,h.new,h.zB,⟨hb.os.trans h.but.os,hb.tape.trans h.but.tape,hb.output.trans h.but.output,Aw hz hb.size,fun k hk hn=> ?_⟩,?_,fun b hb'=> ?_,fun b hb'=> ?_⟩
 .rcases hat with h1|h1
  .exact h.vB (h1▸e)
  .have:=h1 B e;omega
 .refine(hb.block k (by omega) fun e=> ?_).trans (h.but.block k hk hn);rcases h.at_ with h1|h1
  .exact hn (h1▸e)
  .have:=h1 k e;omega
 .rcases hat with h1|h1
  .rw[h1];exact h.at_
  .exact .inr fun b hb'=>by have:=h1 b hb';omega
 .obtain⟨k1,k2,k3⟩:=h.kap b hb';refine⟨k1,k2,fun e=> ?_⟩;rw[<-Aj,DE]at e;rcases Ak.1 e with e|e
  .exact k3 e
  .rcases hf b e with e|e
   .exact k2 e
   .have:=(Ag h.kids hb').elim fun _ hc=>lt_of_block hc.1;omega
 .rw[DE]at hb';rcases Ak.1 hb' with e|e
  .exact h.fresh b e
  .rcases hf b e with e|e
   .exact .inl e
   .exact .inr (by omega)
def It.grow{w7:World}{g cap n:Nat}{us:List Int}(h:It Z w0 v0 nd xs ys B o w v zs kv cs)(ET:Dk w7 Z.heap.size (.slice (some ⟨g,0,none⟩) n cap) us)(hg:w.grownBy w7 kv.ownBlock)(hat:kv.ownBlock=some g\/g=w.heap.size):It Z w0 v0 nd xs ys B o w7 v zs (.slice (some ⟨g,0,none⟩) n cap) us:=by
 have hz:=h.but.size;have hzl:=h.out.low.size;have hBl:=lt_of_block h.box;have hb:EF (fun x=>kv.ownBlock=some x) w w7:=⟨hg.os,hg.tape,hg.output,hg.size,fun k hk hn=>hg.block k hk (fun e=>hn e.symm)⟩
 have hN:∀ {u:Value}{n:Nat}{l:List Value},w.ownsRow Z.heap.size 47 6 u n l->w7.ownsRow Z.heap.size 47 6 u n l:=fun {u n l}ho=>BP ho fun k hk=>by obtain⟨cur,hh,_⟩:=Ag ho hk;refine hb.block k (lt_of_block hh) fun e=> ?_;obtain⟨cur',hh',_⟩:=Ag h.kids e;rw[hh']at hh;have:=Ac hh;simp at this
 have hI:∀ {u:Value}{l:List Int},(∀b,u.ownBlock=some b->kv.ownBlock≠some b)->Dk w Z.heap.size u l->Dk w7 Z.heap.size u l:=fun {u l}hd ho=>BP ho fun k hk=>hb.block k ((Ag ho hk).elim fun _ hc=>lt_of_block hc.1) (hd k hk);have hx:∀x∈xs,x.Ok w7 Z.heap.size:=fun x hx=>⟨hI (fun b hb e=>(h.kap b e).2.1 (LI hx (.inl hb))) (h.out.lists x hx).1,hI (fun b hb e=>(h.kap b e).2.1 (LI hx (.inr hb))) (h.out.lists x hx).2⟩
 have hy:∀y∈ys++zs,y.Ok w7 Z.heap.size:=fun y hy=>⟨hI (fun b hb e=>(h.kap b e).2.2 (LI hy (.inl hb))) (h.out.outs y hy).1,hI (fun b hb e=>(h.kap b e).2.2 (LI hy (.inr hb))) (h.out.outs y hy).2⟩
 refine⟨⟨hN h.out.nodes,hx,hN h.out.own,hy,h.out.ne,h.out.low.trans ⟨hb.os,hb.tape,hb.output,hb.size,fun k hk=>hb.block k (by omega) fun e=> ?_⟩⟩,ET,(hb.block B hBl h.kB).trans h.box,h.vB,h.nB,fun e=> ?_,h.new,h.zB,⟨hb.os.trans h.but.os,hb.tape.trans h.but.tape,hb.output.trans h.but.output,Aw hz hb.size,fun k hk hn=>(hb.block k (by omega) fun e=> ?_).trans (h.but.block k hk hn)⟩,h.at_,fun b hb'=> ?_,h.fresh⟩
 .obtain⟨_,_,hB⟩:=Ag h.kids e;omega
 .have e':g=B:=Ac e;rcases hat with h1|h1
  .exact h.kB (e'▸h1)
  .omega
 .have:=(h.kap k e).1;omega
 .have e':g=b:=Ac hb';subst e';rcases hat with h1|h1
  .exact h.kap _ h1
  .refine⟨by omega,fun e=> ?_,fun e=> ?_⟩
   .have:=MR h.out.lists e;omega
   .have:=MR h.out.outs e;omega
def It.start(h:Hu Z w nd xs v ys)(o:Obj):It Z w v nd xs ys w.heap.size o ((w.alloc o).alloc (.cells #[] 3)) v [] (.slice (some ⟨w.heap.size+1,0,none⟩) 0 0) []:=by
 have hb:Below w.heap.size w ((w.alloc o).alloc (.cells #[] 3)):=(AI.alloc AC _).alloc (by simp) _;have hzl:=h.low.size;have h1:(w.alloc o).heap.size=w.heap.size+1:=by simp
 have Gr:((w.alloc o).alloc (.cells #[] 3)).heap[w.heap.size+1]? =some (.cells #[] 3 (0,0)):=by rw[<-h1];exact Array.getElem?_push_size
 have hbox:((w.alloc o).alloc (.cells #[] 3)).heap[w.heap.size]? =some o:=by rw[Cm _ _ _ (by simp)];show(w.heap.push _)[w.heap.size]? =_;simp
 refine⟨by rw[A6];exact h.below hb,?_,hbox,fun e=> ?_,fun e=> ?_,fun e=> ?_,AC,hzl,EF.of_below hb,.inl rfl,fun b hb'=> ?_,fun b hb'=>by simp[Bm]at hb'⟩
 .unfold Dk;exact⟨rfl,.inr ⟨w.heap.size+1,0,_,rfl,by omega,Gr,AC,by unfold maxLen;omega,by simp,by simp⟩⟩
 .have:=(Ag h.own e).elim fun _ hc=>lt_of_block hc.1;omega
 .have:=(Ag h.nodes e).elim fun _ hc=>lt_of_block hc.1;omega
 .have e':w.heap.size+1=w.heap.size:=Ac e;omega
 .have e':w.heap.size+1=b:=Ac hb';subst e';refine⟨by omega,fun e=> ?_,fun e=> ?_⟩
  .have:=MR h.lists e;omega
  .rw[A6]at e;have:=MR h.outs e;omega
def It.setB{arr:Array Value}{fr:Nat×Nat}(h:It Z w0 v0 nd xs ys B (.cells arr 47 fr) w v zs kv cs)(u:Value):Hu Z (w.setCell ⟨B,5,none⟩ u) nd xs v (ys++zs)/\Dk (w.setCell ⟨B,5,none⟩ u) Z.heap.size kv cs/\EF (fun x=>v0.ownBlock=some x) w0 (w.setCell ⟨B,5,none⟩ u):=by
 have Gr:∀k,k≠B->(w.setCell ⟨B,5,none⟩ u).heap[k]? =w.heap[k]? :=fun k hk=>BZ w ⟨B,5,none⟩ k _ hk;have hI:∀ {x:Value}{l:List Int},Dk w Z.heap.size x l->Dk (w.setCell ⟨B,5,none⟩ u) Z.heap.size x l:=fun {x l}ho=>BP ho fun k hk=>Gr k fun e=>by obtain⟨cur,hh,_⟩:=Ag ho hk;rw[e,h.box]at hh;have:=Ac hh;simp at this
 have Io:=h.out.low;have hz:=h.but.size;have hZ:=h.zB;refine⟨⟨BP h.out.nodes fun k hk=>Gr k fun e=>h.nB (e▸hk),fun x hx=>⟨hI (h.out.lists x hx).1,hI (h.out.lists x hx).2⟩,BP h.out.own fun k hk=>Gr k fun e=>h.vB (e▸hk),fun y hy=>⟨hI (h.out.outs y hy).1,hI (h.out.outs y hy).2⟩,h.out.ne,⟨Io.os,Io.tape,Io.output,by simpa using Io.size,fun k hk=>(Gr k (by omega)).trans (Io.block k hk)⟩⟩,hI h.kids,⟨h.but.os,h.but.tape,h.but.output,by simpa using hz,fun k hk hn=>(Gr k (by have:=h.new;omega)).trans (h.but.block k hk hn)⟩⟩
def It.done{arr:Array Value}{fr:Nat×Nat}{k n m:Int}{s:AE}{nums:List Int}{v4:Value}{w7:World}{g cap:Nat}(h:It Z w0 v0 nd xs ys B (.cells arr 47 fr) w v zs kv cs)(h4:Dk w Z.heap.size v4 nums)(hk4:∀b,v4.ownBlock=some b->b∈Bm xs)(o:Obj)(ET:w7.ownsRow Z.heap.size 47 6 (.slice (some ⟨g,0,none⟩) ((ys++zs).length+1) cap) ((ys++zs).length+1) ((ys++zs).flatMap AW.cells++ [.int .i64 k,.int .i64 n,.int .i64 m,.string s,v4,kv]))(hg:((w.setCell ⟨B,5,none⟩ kv).alloc o).grownBy w7 v.ownBlock)(hat:v.ownBlock=some g\/g=w.heap.size+1):∃ys',Hu Z w7 nd xs (.slice (some ⟨g,0,none⟩) ((ys++zs).length+1) cap) (ys++ys')/\ys'.map AW.d=zs.map AW.d++ [⟨k,n,m,s,nums,cs⟩]/\(∀b∈Bm ys',b∈Bm xs\/w0.heap.size<=b)/\EF (fun x=>v0.ownBlock=some x) w0 w7/\((Value.slice (some ⟨g,0,none⟩) ((ys++zs).length+1) cap).ownBlock=v0.ownBlock\/∀b,(Value.slice (some ⟨g,0,none⟩) ((ys++zs).length+1) cap).ownBlock=some b->w0.heap.size<=b):=by
 obtain⟨h1,h2,h3⟩:=h.setB kv;have hz:(w.setCell ⟨B,5,none⟩ kv).heap.size=w.heap.size:=by simp
 have hz0:=h.but.size;have Gr:∀k,k≠B->(w.setCell ⟨B,5,none⟩ kv).heap[k]? =w.heap[k]? :=fun k hk=>BZ w ⟨B,5,none⟩ k _ hk;have h4':Dk (w.setCell ⟨B,5,none⟩ kv) Z.heap.size v4 nums:=BP h4 fun k hk=>Gr k fun e=>by obtain⟨cur,hh,_⟩:=Ag h4 hk;rw[e,h.box]at hh;have:=Ac hh;simp at this
 have hW:Below (w.setCell ⟨B,5,none⟩ kv).heap.size (w.setCell ⟨B,5,none⟩ kv) ((w.setCell ⟨B,5,none⟩ kv).alloc o):=AI.alloc AC _;have hI:∀ {x:Value}{l:List Int},Dk (w.setCell ⟨B,5,none⟩ kv) Z.heap.size x l->Dk ((w.setCell ⟨B,5,none⟩ kv).alloc o) Z.heap.size x l:=fun {x l}ho=>BP ho fun k hk=>hW.block k ((Ag ho hk).elim fun _ hc=>lt_of_block hc.1);obtain⟨ho,hb,ha⟩:=h1.push hW (y:=⟨⟨k,n,m,s,nums,cs⟩,v4,kv⟩) ⟨hI h4',hI h2⟩ ET hg (hat.imp id fun e=>by rw[e];simp);refine⟨zs++ [⟨⟨k,n,m,s,nums,cs⟩,v4,kv⟩],by rw[<-Aj];exact ho,by rw[Ao];rfl,fun b hb'=> ?_,⟨hb.os.trans h3.os,hb.tape.trans h3.tape,hb.output.trans h3.output,Aw h3.size hb.size,fun k hk hn=>(hb.block k (by omega) fun e=> ?_).trans (h3.block k hk hn)⟩,?_⟩
 .rw[DE]at hb';rcases Ak.1 hb' with e|e
  .exact h.fresh b e
  .have e':b∈v4.ownBlock.toList++kv.ownBlock.toList:=by simpa[Bm,AW.blks]using e
   rcases Ak.1 e' with e|e
   .exact .inl (hk4 b (by simpa[Option.mem_toList]using e))
   .exact .inr (h.kap b (by simpa[Option.mem_toList]using e)).1
 .rcases h.at_ with h5|h5
  .exact hn (h5▸e)
  .have:=h5 k e;omega
 .rcases ha with h5|h5
  .rw[h5];exact h.at_
  .exact .inr fun b hb'=>by have:=h5 b hb';omega
end
def dJ(Z:World)(nd:Value)(xs:List AW)(hxl:xs.length<=1048576):∀(f e:Nat)(t:List AM),e<f->A0 (xs.map AW.d) e t->fD Z nd xs e t
 |0,_,_,h,_=>absurd h (Bc _)
 |f+1,e,t,hef,ht=>by
  intro w v ys h AQ;obtain⟨i0,hi,hz0,hz1,hz2⟩:=info_parts Dt;obtain⟨j0,hj,hy0,hy1,hy2⟩:=info_parts Li;obtain⟨k,n,m,s,nums,ls,rfl⟩:∃k n m s nums ls,t=Ay k n m s nums ls:=by obtain⟨k,n,m,s,nums,_,ls,h,_⟩:=ht.parts;exact⟨k,n,m,s,nums,ls,h⟩
  obtain⟨nb,nc,a4,c4,a5,c5,es,rfl,hen,hnb,y0,y1,y2,y3,y4,y5,hks,hk4,hts,hlt,hc⟩:=h.got ht;obtain⟨a0,c0,rfl⟩:=EP h.own;have hen':((e:Nat):Int)<((xs.length:Nat):Int):=B9.2 hen;have hln:ls.length<=100000:=by have:=CN k n m s nums ls;have:=WZ ls (UC hts);omega
  have HIH:=AB (fun(a:Nat)(l:List AM)(ha:a∈es)(hta:A0 (xs.map AW.d) a l)=>dJ Z (.slice (some ⟨nb,0,none⟩) xs.length nc) xs hxl f a l (by have:=hlt a ha;omega) hta);have HST:=AB (It.start h (.cells #[.int .i64 k,.int .i64 n,.int .i64 m,.string s,.slice a4 nums.length c4,.slice a5 ls.length c5] 47));have HKS:=AB hks;have HTS:=AB hts;have HRM:=AB AQ;clear h ht hlt hks hts AQ hc hef;go_enter func46,ntmps46;go_wp2_with fail;go_loopw[2,8,9] (fun u2 u8 u9 wr=>∃(kk:Nat)(zs:List AW),kk<=ls.length/\u9=.int .i64 (kk:Nat)/\Hid (zs.map AW.d=B0 ys.length (Az (ls.take kk)))/\Hid (It Z w (.slice a0 ys.length c0) (.slice (some ⟨nb,0,none⟩) xs.length nc) xs ys w.heap.size (.cells #[.int .i64 k,.int .i64 n,.int .i64 m,.string s,.slice a4 nums.length c4,.slice a5 ls.length c5] 47) wr u2 zs u8 (BB ys.length (ls.take kk)))) (fun _ _ u9 _=>ls.length- (intOf u9).toNat);case atStart=>exact⟨0,[],AZ _,rfl,rfl,HST⟩
  case round=>
   obtain⟨kk,zs,hkk,rfl,HZ,HK⟩:=hrel;clear HST;obtain⟨cs,hcs⟩:∃cs,BB ys.length (ls.take kk)=cs:=⟨_,rfl⟩
   rw[hcs]at HK;have HCS:=AB hcs;clear hcs;obtain⟨a2,c2,rfl⟩:=EP (AA HK).out.own;obtain⟨a8,c8,rfl⟩:=EP (AA HK).kids;have hbx:=(AA HK).box;have hbl:=lt_of_block hbx;have b0:wr.cell? ⟨w.heap.size,0,none⟩=some (.int .i64 k):=by simp[World.cell?,hbx]
   have b1:wr.cell? ⟨w.heap.size,1,none⟩=some (.int .i64 n):=by simp[World.cell?,hbx]
   have b2:wr.cell? ⟨w.heap.size,2,none⟩=some (.int .i64 m):=by simp[World.cell?,hbx]
   have b3:wr.cell? ⟨w.heap.size,3,none⟩=some (.string s):=by simp[World.cell?,hbx]
   have b4:wr.cell? ⟨w.heap.size,4,none⟩=some (.slice a4 nums.length c4):=by simp[World.cell?,hbx]
   have b5:wr.cell? ⟨w.heap.size,5,none⟩=some (.slice a5 ls.length c5):=by simp[World.cell?,hbx]
   have bf:wr.frozen? ⟨w.heap.size,5,none⟩=false:=BJ wr w.heap.size 5 _ _ hbx;have hzl:=(AA HK).out.low.size;clear hbx;have hN0:(ys++zs).length+(Az (ls.drop kk)).length+1<=100000:=by have h1:=AA HRM;have h2:=AV List.length (AA HZ);rw[AS,FE]at h2;rw[CN]at h1;have h3:=EI (ls.take kk) (ls.drop kk);rw[GU]at h3;rw[AH];omega
   generalize hN:(ys++zs).length=N at HK hN0 ⊢;have HNN:=AB hN;clear hN;have hcl:cs.length<=100000:=by rw[<-AA HCS,BB,AS,LU,CF];omega
   by_cases hlk:kk<ls.length
   .have hlk':((kk:Nat):Int)<((ls.length:Nat):Int):=B9.2 hlk;obtain⟨l,hl⟩:∃l,ls[kk]? =some l:=⟨_,AR hlk⟩
    obtain⟨a,ha,_,hta⟩:=(AA HTS).get hlk;have hta':A0 (xs.map AW.d) a l:=(AA HTS).2 kk a l ha hl;have hkd:=(AA HKS _ _ _ (AA HK).out).2;rcases KK hkd with⟨_,h0⟩|⟨kb,c5',e5,hkb,_,_,hcel⟩
    .rw[Bv,AS,(AA HTS).1]at h0;omega
    have hc0:=hcel kk (.int .i64 ((a:Nat):Int)) (by rw[Bv,Do,BV,ha];rfl);have e5':a5=some ⟨kb,0,none⟩:=by injection e5
    subst e5';clear e5 hkd hcel;have hdr:(Az (ls.drop kk)).length=l.length+(Az (ls.drop (kk+1))).length:=by rw[CL hlk,Fe];rw[AR hlk]at hl;cases hl;rfl
    have hlp:=QB hta';have KC:=AB (AA HIH a l (A1 ha) hta' _ _ _ (AA HK).out (by have:=AA HNN;omega));have hlb:N+l.length+1<=100000:=by omega
    have HLK:=AB hl;clear ha hl hta hta' hdr;go_wp2_with(first|(go_at_call 46;refine(AA KC).mono ?_;clear KC;rintro e' w6⟨v',ys',rfl,ho,hd,hf,hb,hat⟩;have hk6:=(AA HK).kid ho hf hb hat;obtain⟨a6,c6,rfl⟩:=EP ho.own;have hyl:ys'.length=l.length:=(by have:=AV List.length hd;rw[AS,FE]at this;exact this);have hl6:(ys++zs++ys').length=N+l.length:=(by rw[AH,AA HNN,hyl]);generalize hN6:(ys++zs++ys').length=N6 at hk6 hl6 ⊢;have h61:1<=N6:=(by omega);have h6b:N6<=100000:=(by omega);have HL6:=AB hl6;have hw6:IntKind.i64.wrap ((N6:Int)- 1)=(N6:Int)- 1:=(by rw[IntKind.wrap_i64];omega);have HK6:=AB (hk6.below (AI.alloc AC (.cells #[.int .i64 ((N6:Int)- 1)] 3)));have HD6:=AB hd;have HN6:=AB hN6;have hzl6:=hk6.out.low.size;clear ho hd hf hb hat hk6 hyl hN6 hl6)|(at_builtin;refine wpList_append_lies _ rfl _ _ 45 rfl Z.heap.size 3 i0 (.int .i64 0) 1 8 underlying45 hi hz0 hz1 hz2 rfl (by decide) _ _ _ rfl (AA HK6).kids ⟨w6.heap.size,0,none⟩ 1 1 [.int .i64 ((N6:Int)- 1)] rfl rfl (Dy _ _) (GM _) (by omega) (by unfold maxLen;omega) (by omega) (by simp;try omega) (w6.heap.size+1) (by simp) ?_;intro g' CW w9 A2 Au hat' hlt9;have hk9:=It.grow (us:=cs++ [(N6:Int)- 1]) (AA HK6) (by unfold Dk;rw[Ao,AH];exact A2) Au (Or.imp (fun h=>h) (fun h=>h.trans (by simp)) hat');have HK9:=AB hk9;clear hk9 A2 Au hat' hlt9));go_roundw;case rel=>
     have hl:=AA HLK;have htk:ls.take (kk+1)=ls.take kk++ [l]:=by rw[List.take_add_one,hl];rfl
     have hzl:zs.length=(Az (ls.take kk)).length:=by
      have h2:=AV List.length (AA HZ)
      rwa [AS,FE]at h2
     have hyz:(ys++zs).length=ys.length+(Az (ls.take kk)).length:=by rw[AH,hzl]
     refine⟨kk+1,zs++ys',hlk,by go_num,?_,?_⟩
     .refine AB ?_;rw[Ao,AA HZ,AA HD6,htk,Ih,IN,Jd,IR,hyz]
     .refine AB ?_;have e:BB ys.length (ls.take (kk+1))=cs++ [(N6:Int)- 1]:=by rw[htk,Ij,AA HCS,Ec];have h3:=AA HL6;have h4:=AA HNN;rw[h3,<-h4,hyz]
      rw[e];exact AA HK9
    case measure=>simp[intOf];omega
   .have hke:kk=ls.length:=by omega
    have hlk':¬((kk:Nat):Int)<((ls.length:Nat):Int):=by omega
    have HOWN:Hid (∀o:Obj,((wr.setCell ⟨w.heap.size,5,none⟩ (.slice a8 cs.length c8)).alloc o).ownsRow Z.heap.size 47 6 (.slice a2 N c2) N ((ys++zs).flatMap AW.cells)):=AB fun o=>by have h1:=((AA HK).setB (.slice a8 cs.length c8)).1.below (AI.alloc AC o);have h2:=h1.own;rw[AA HNN]at h2;exact h2
    have HNEW:Hid (∀(V:World)(j:Nat)(u:Value),([.int .i64 k,.int .i64 n,.int .i64 m,.string s,.slice a4 nums.length c4,.slice a8 cs.length c8]:List Value)[j]? =some u->(V.alloc (.cells #[.int .i64 k,.int .i64 n,.int .i64 m,.string s,.slice a4 nums.length c4,.slice a8 cs.length c8] 47)).cell? ((⟨V.heap.size,0,none⟩:Addr).add j)=some u):=AB fun V=>World.news_of_block (cs:= #[.int .i64 k,.int .i64 n,.int .i64 m,.string s,.slice a4 nums.length c4,.slice a8 cs.length c8]) (t:=47) (fr:=(0,0)) (by show(V.heap.push _)[V.heap.size]? =_;simp);have H4:=AB ((AA HKS _ _ _ (AA HK).out).1);have HKE:=AB hke;have HK4:=AB hk4;have hNb:N<=100000:=by omega
    clear hke hk4 hlk hkk hN0 hen hen' y0 y1 y2 y3 y4 y5 hnb HIH HTS HRM HKS;go_wp2_with(at_builtin;refine wpList_append_lies _ rfl _ _ 27 rfl Z.heap.size 47 j0 _ 6 88 underlying27 hj hy0 hy1 hy2 rfl (by decide) _ _ _ rfl (AA HOWN _) ⟨wr.heap.size,0,none⟩ 1 1 [.int .i64 k,.int .i64 n,.int .i64 m,.string s,.slice a4 nums.length c4,.slice a8 cs.length c8] rfl rfl (by have:=AA HNEW (wr.setCell ⟨w.heap.size,5,none⟩ (.slice a8 cs.length c8));simpa using this) (M4 _ _ _ _ _ _ _ _ _ _) (by omega) (by unfold maxLen;omega) (by omega) (by simp;try omega) (wr.heap.size+1) (by simp) ?_;intro g' CW w9 A2 Au hat' hlt9;rw[<-AA HNN]at A2;have HD:=AB (It.done (AA HK) (AA H4) (AA HK4) _ A2 Au hat');clear A2 Au hat' hlt9);go_ret;obtain⟨ys',hO,hd,hf,hb,ha⟩:=AA HD;rw[AA HNN]at hO ha;refine⟨_,rfl,ys',hO,?_,hf,hb,ha⟩;have hz:=AA HZ;have hcs:=AA HCS;rw[AA HKE,List.take_length]at hz hcs;rw[hd,hz,Ma,hcs]
section
variable {Z w w0 w1:World}{p i j q:Nat}{nd nd0 nd1 v:Value}{zs:List Int}{xs ys:List AW}{ns:List AM}{ta:Option Addr}{tn tc:Nat}{ts:List CO}{b:Bool}
def Oc(X:DN)(F f j:Nat)(ls:List (List AM)):Option B1:=if X.cl j=8900 then A7 (D7 X 8900 (fun j=>Bh X F 5 j []) f (j+1)) (fun q l=>C4 q (ls++l))else C4 j ls
def Uq{X:DN}{F f j q:Nat}{t:List AM}{ls:List (List AM)}(hx:Bh X F 5 j []=some (true,q,[t])):A7 (D7 X 8900 (fun j=>Bh X F 5 j []) (f+1) j) (fun q l=>C4 q (ls++l))=Oc X F f q (ls++ [t]):=by
 rw[D7];rw[hx];unfold Oc;show A7 (if X.cl q=8900 then _ else C4 q [t]) _=_;by_cases h:X.cl q=8900
 .rw[AL h,AL h];cases D7 X 8900 (fun j=>Bh X F 5 j []) f (q+1)with
  |none=>rfl
  |some y=>
   obtain⟨b,q2,l⟩:=y;cases b with
   |false=>rfl
   |true=>show C4 q2 (ls++([t]++l))=C4 q2 (ls++ [t]++l);rw[Aj]
 .rw[AG h,AG h];rfl
def Ur{X:DN}{F f j q:Nat}{l:List (List AM)}{ls:List (List AM)}(hx:Bh X F 5 j []=some (false,q,l)):A7 (D7 X 8900 (fun j=>Bh X F 5 j []) (f+1) j) (fun q l=>C4 q (ls++l))=Cp q:=by rw[D7];rw[hx];rfl
def eI(Z:World)(p:Nat)(ta:Option Addr)(tn tc:Nat)(ts:List CO)(F:Nat)(r:B1)(w0:World)(nd0 u:Value)(wr:World):Prop:=∃(j:Nat)(ns:List AM)(n:Value)(zs:List Int)(bb:Bool),j<=ts.length/\ns.length<=4*j/\zs.length<=j+1/\KS Z p ta tn tc w0 nd0 [] [] ns j bb wr n u zs/\((bb=false/\∃(es:List Nat)(ls:List (List AM))(f:Nat),zs=Bv es/\Av ns es ls/\Oc (AF ts) F f j ls=some r)\/(bb=true/\r.2.1=j/\(r.1=false\/j<ts.length)))
def TT{G:Bool}{F f j q:Nat}{t':List (List AM)}{r:B1}{ls:List (List AM)}{es:List Nat}{ds:List AM}{n u:Value}{z:Int}{wr:World}(hv:Bh (AF ts) F 5 j []=some (b,q,t'))(hG:GI (AF ts) (b,q,t') G)(hj:j<=ts.length)(hr:A7 (D7 (AF ts) 8900 (fun j=>Bh (AF ts) F 5 j []) (f+1) j) (fun q l=>C4 q (ls++l))=some r)(hn:ns.length<=4*j)(hes:es.length<=j)(hT:Av ns es ls)(hk:KS Z p ta tn tc w0 nd0 [] [] (ns++ds) q (!G) wr n u (Bv es++ [z]))(hjq:j<=q)(hl:ds.length<=4*(q- j))(ht:G=true->ds.length+1<=4*(q- j)/\∃e':Nat,z=e'/\A0 (ns++ds) e' (t'.headD [])):eI Z p ta tn tc ts F r w0 nd0 u wr:=by
 have hadv:=Cc (Ab ts) F 5 j [] hj _ _ _ hv;have hq:q<=ts.length:=hadv.2.1;have hlz:(Bv es++ [z]).length<=q+1:=by rw[AH,Bv,AS];show _+1<=_;omega
 refine⟨q,ns++ds,n,Bv es++ [z],!G,hq,by rw[AH];omega,hlz,hk,?_⟩;cases b with
 |false=>
  rw[Ur hv]at hr;cases hr;cases G with
  |true=>exact absurd (hG.1 rfl) Ho
  |false=>exact .inr ⟨rfl,rfl,.inl rfl⟩
 |true=>
  obtain⟨t1,rfl,_⟩:=C7 (by rfl) (by decide) (by decide) hj hv;rw[Uq hv]at hr;cases G with
  |true=>
   obtain⟨_,e',rfl,h2⟩:=ht rfl;exact .inl ⟨rfl,es++ [e'],ls++ [t1],f,by rw[<-Ft],hT.mono.app (Av.one h2),hr⟩
  |false=>
   obtain⟨h1,_,_,h4⟩:=hG.2 rfl rfl;refine .inr ⟨rfl,?_⟩;unfold Oc at hr;rw[AG h1]at hr;cases hr;exact⟨rfl,.inr (Ab ts q h4)⟩
def TI:EV Z Z.heap.size ta tn tc false (Z.alloc (.cells #[.slice ta tn tc,.int .i64 0,.bool false,.slice none 0 0] 81)) 0 (.slice none 0 0) []:=by refine⟨?_,⟨rfl,.inl ⟨rfl,rfl⟩⟩,(fun x h=>by cases h),by simp[Bm],AI.alloc AC _,AC,by decide,by decide⟩;show(Z.heap.push _)[Z.heap.size]? =_;simp
def KS.outN{bx:List Nat}{i:Nat}(h:KS Z p ta tn tc w0 nd0 [] bx ns i b w nd v zs):∃xs,xs.map AW.d=ns/\Hu Z (w.alloc (.cells #[] 47)) nd xs (.slice (some ⟨w.heap.size,0,none⟩) 0 0) []:=by
 obtain⟨XS,hX,hd⟩:=h.ps;have hz:=hX.low.size;have hb:Below w.heap.size w (w.alloc (.cells #[] 47)):=AI.alloc AC _;have hX':=hX.below hb;have Gr:(w.alloc (.cells #[] 47)).heap[w.heap.size]? =some (.cells #[] 47 (0,0)):=by show(w.heap.push _)[w.heap.size]? =_;simp
 refine⟨XS,hd,hX'.own,hX'.lists,⟨rfl,.inr ⟨w.heap.size,0,_,rfl,hz,Gr,AC,by unfold maxLen;omega,by simp,by simp⟩⟩,(fun y hy=>by cases hy),fun b hb' e=> ?_,hX'.low⟩;have e':w.heap.size=b:=Ac e;have:=(Ag hX.own hb').elim fun _ hc=>lt_of_block hc.1;omega
def Hu.read{r:Nat}(h:Hu Z w nd xs v ys)(hsm:Gs ys)(hn:ys.length<=1048576)(hr:r<Z.heap.size):∃a c,v=.slice a ys.length c/\∀w',Below w.heap.size w w'->Db w' a ys.length (ys.map AW.d)/\∀u,Db (w'.setCell ⟨r,0,none⟩ u) a ys.length (ys.map AW.d):=by
 obtain⟨a,c,e,_⟩:=Kn h.own h.outs hsm hn;refine⟨a,c,e,fun w' hb=> ?_⟩;have h1:=h.below hb;have get:∀W:World,W.ownsRow Z.heap.size 47 6 v ys.length (ys.flatMap AW.cells)->(∀y∈ys,y.Ok W Z.heap.size)->Db W a ys.length (ys.map AW.d):=fun W g1 g2=>by obtain⟨a',c',e',hC⟩:=Kn g1 g2 hsm hn;rw[e]at e';cases e';exact hC.row
 refine⟨get w' h1.own h1.outs,fun u=> ?_⟩;have hk:∀k,Z.heap.size<=k->(w'.setCell ⟨r,0,none⟩ u).heap[k]? =w'.heap[k]? :=fun k hk=>BZ w' ⟨r,0,none⟩ k _ (by show k≠r;omega);exact get _ (BP h1.own fun g hg=>hk g ((Ag h1.own hg).elim fun _ hc=>hc.2)) fun y hy=>⟨BP (h1.outs y hy).1 fun g hg=>hk g ((Ag (h1.outs y hy).1 hg).elim fun _ hc=>hc.2),BP (h1.outs y hy).2 fun g hg=>hk g ((Ag (h1.outs y hy).2 hg).elim fun _ hc=>hc.2)⟩
def KS.order{bx:List Nat}{i:Nat}{es:List Nat}{ls:List (List AM)}(h:KS Z p ta tn tc w0 nd0 [] bx (ns++ [⟨25,0,0,⟨#[]⟩,[],Bv es⟩]) i b w nd v zs)(ht:Av ns es ls)(hn:ns.length<=20000)(hl:(Dc ls).length<=8003):Calls prog 46 #[nd,.int .i64 (ns.length:Nat),.slice (some ⟨w.heap.size,0,none⟩) 0 0] (w.alloc (.cells #[] 47)) fun e w'=>∃v' xs ys,e=.returned v'/\Hu Z w' nd xs v' ys/\ys.map AW.d=Dc ls:=by
 obtain⟨xs,hd,hO⟩:=h.outN;have hT:A0 (xs.map AW.d) ns.length (Dc ls):=by rw[hd];exact ht.put 25 0 0 ⟨#[]⟩ [] (Hg (by decide) (by decide) (by decide) _)
 have hx:xs.length=ns.length+1:=by
  have:=AV List.length hd
  rwa [AS,AH]at this
 refine(dJ Z nd xs (by omega) (ns.length+1) ns.length (Dc ls) (C0 _) hT _ _ _ hO (by show 0+_<=_;omega)).mono ?_;rintro e w'⟨v',ys',rfl,h1,h2,_⟩;refine⟨v',xs,ys',rfl,h1,?_⟩;rw[h2];exact J6 _
end
def Jr(r:List AM×Int×Nat)(e:Ending)(w':World):Prop:=∃a n c,e=.returned (.tuple #[.agg #[.slice a n c],.int .i64 r.2.1,.int .i64 (r.2.2:Nat)])/\Db w' a n r.1
def Db.nil(w:World):Db w none 0 []:=⟨rfl,by omega,.inl rfl⟩
structure eH(r:Nat)(w:World):Prop where
 c0:w.cell? ⟨r,0,none⟩=some (.slice none 0 0)
 f0:w.frozen? ⟨r,0,none⟩=false
 c1:w.cell? ⟨r+1,0,none⟩=some (.slice none 0 0)
 lt:r+1<w.heap.size
def eH.at{B:Nat}{w w':World}{r:Nat}(h:eH r w)(hB:r+1<B)(hb:Below B w w'):eH r w':=⟨(hb.cell (p:=⟨r,0,none⟩) (by show r<_;omega)).trans h.c0,(hb.frozen (p:=⟨r,0,none⟩) (by show r<_;omega)).trans h.f0,(hb.cell (p:=⟨r+1,0,none⟩) hB).trans h.c1,AX h.lt hb.size⟩
def ZZ(r:B1):(L0 r).1=r.1:=by obtain⟨b,q,l⟩:=r;cases b<;>rfl
def ZY(r:B1):(L0 r).2.1=r.2.1:=by obtain⟨b,q,l⟩:=r;cases b<;>rfl
def ZX{r:B1}{q:Nat}{l:List (List AM)}(h:L0 r=(true,q,l)):r=(true,q,l):=by
 obtain⟨b,q',l'⟩:=r;cases b with
 |false=>cases h
 |true=>exact h
def J5(w:World):Below w.heap.size w ((w.alloc (.cells #[.slice none 0 0] 29)).alloc (.cells #[.slice none 0 0] 29))/\eH w.heap.size ((w.alloc (.cells #[.slice none 0 0] 29)).alloc (.cells #[.slice none 0 0] 29))/\((w.alloc (.cells #[.slice none 0 0] 29)).alloc (.cells #[.slice none 0 0] 29)).heap[w.heap.size]? =some (.cells #[.slice none 0 0] 29 (0,0)):=by
 have hb:((w.alloc (.cells #[.slice none 0 0] 29)).alloc (.cells #[.slice none 0 0] 29)).heap[w.heap.size]? =some (.cells #[.slice none 0 0] 29 (0,0)):=by rw[Cm _ _ _ (by simp)];show(w.heap.push _)[w.heap.size]? =_;simp
 refine⟨(AI.alloc AC _).alloc (by simp) _,⟨by simp[World.cell?,hb],BJ _ _ 0 _ _ hb,by simp,by simp⟩,hb⟩
def MX(b off cap:Nat)(s:AE)(w:World)(h:De w (some ⟨b,off,none⟩) s.size (bz s))(hs:s.size<=17592186044416)(hc:(Br s).2.1≠0):Calls prog 18 #[.slice (some ⟨b,off,none⟩) s.size cap] w fun e w'=>Jr (DH s) e w'/\Below w.heap.size w w':=by
 obtain⟨hbA,h2,_⟩:=J5 w;have HL:=AB (H0 b off cap s _ (h.below AC hbA) hs);have HBA:=AB hbA;have H2:=AB h2;have hr:DH s=([],(Br s).2.1,(Br s).2.2):=by unfold DH;rw[AL hc]
 rw[hr];generalize Br s=L at HL hc ⊢;obtain⟨ts,c,q⟩:=L;have hc0:(c==0)=false:=by simpa using hc
 clear h hs hbA hr hc h2;go_enter func18,ntmps18;go_wp2_with(go_at_call 42;refine(AA HL).mono ?_;rintro e w2⟨g,n,cp,rfl,_,hb2⟩;obtain⟨GQ,hfz,hc1,_⟩:=(AA H2).at (AA H2).lt hb2;have HB2:=AB ((AA HBA).trans (hb2.mono (AA HBA).size));clear hb2;dsimp only);refine bodyPost_ret (v:=.tuple #[.agg #[.slice none 0 0],.int .i64 c,.int .i64 (q:Nat)]) (by simp[results,results18,go_sem,GQ]) rfl ?_;exact⟨⟨_,_,_,rfl,Db.nil _⟩,(AA HB2).setCell AC _⟩
def O8(b off cap:Nat)(s:AE)(w:World)(h:De w (some ⟨b,off,none⟩) s.size (bz s))(hs:s.size<=17592186044416)(hc:(Br s).2.1=0)(hts:(Br s).1≠ []):Calls prog 18 #[.slice (some ⟨b,off,none⟩) s.size cap] w fun e w'=>Jr (DH s) e w'/\Below w.heap.size w w':=by
 obtain⟨i0,hi,hz0,hz1,hz2⟩:=info_parts Dt;obtain⟨hbA,h2,Gr⟩:=J5 w;have HL:=AB (H0 b off cap s _ (h.below AC hbA) hs);have HBA:=AB hbA;have H2:=AB h2;have HBK:=AB Gr;have hr0:DH s=if(Ce (Br s).1).1=true/\¬(Ce (Br s).1).2.1<(Br s).1.length then(if F5 B2 (Dc (Ce (Br s).1).2.2)=true then(Dc (Ce (Br s).1).2.2,0,0)else([],7,0))else([],1,(Al (Br s).1 s.size (Ce (Br s).1).2.1).p):=by unfold DH;rw[AG (by simpa using hc)]
 generalize DH s=PT at hr0 ⊢;have HPT:=AB hr0;obtain⟨hm1,hm2⟩:=JK s;have hs2:s.size<=2000:=Jj hc;generalize Br s=L at HL hc hts hm1 hm2 HPT;obtain⟨ts,c,q⟩:=L;have hc0:c=0:=hc;subst hc0;have hm2':ts.length<=2000:=hm2;have hts':ts≠ []:=hts;have HM1:=AB hm1;generalize hN:s.size=n at HL hs2 HPT ⊢;clear h hs hbA hr0 hc hm1 hm2 hN h2 hts Gr;go_enter func18,ntmps18;go_upto_region 5 with(go_at_call 42;refine(AA HL).mono ?_;rintro e Z⟨g,tn,tc,rfl,hT,hb2⟩;have hT':Ht Z (some ⟨g,0,none⟩) tn ts:=hT;have hln:=hT'.len;have H2Z:=AB ((AA H2).at (AA H2).lt hb2);have HGR:Hid (tn≠0->g≠w.heap.size):=(AB fun h0 e=>by obtain⟨tb,tf,y,e2,_,_,_,y1,_⟩:=hT'.get (j:=0) (by omega);cases e2;have hbl:=(hb2.block w.heap.size (by simp;omega)).trans (AA HBK);rw[e]at y1;simp[World.cell?,hbl]at y1);have HBZ:=AB ((AA HBA).trans (hb2.mono (AA HBA).size));have HE:Hid (Bk Z (some ⟨g,0,none⟩) tn ts):=⟨hT',fun y hy=>((AA HM1) y hy).1.1,fun y hy=>((AA HM1) y hy).1.2.1,fun y hy=>by have:=((AA HM1) y hy).2.1;omega,by omega⟩;clear hb2 hT hT' HBK;dsimp only);have hrl:w.heap.size+1<Z.heap.size:=(AA H2Z).lt;have hpos:0<ts.length:=Dm.2 hts';have hpos':(0:Int)<(tn:Int):=by omega
 obtain⟨R,hR⟩:∃R,L0 (Ce ts)=R:=⟨_,rfl⟩
 obtain⟨f9,hf9⟩:∃f9,6*ts.length+8=f9:=⟨_,rfl⟩
 have hlp:Bh (AF ts) (f9+1) 7 0 []=some (Ce ts):=by rw[<-hf9];exact Kx hts'
 have hser:A7 (D7 (AF ts) 8900 (fun j=>Bh (AF ts) (f9+1) 5 j []) (f9+1) 0) (fun q l=>C4 q ([]++l))=some R:=by rw[Mf (AF ts) (f9+1) (f9+1) 0 AC _ hlp,Jo,hR]
 have HRR:=AB hR;have HLV:=AB (fun(j:Nat)(hj:j<=ts.length)=>db (p:=Z.heap.size) (tc:=tc) (AA HE) (by omega) (ts.length+1) j hj (by omega));obtain⟨yb,q1,l1,hv⟩:∃yb q1 l1,Bh (AF ts) (f9+1) 5 0 []=some (yb,q1,l1):=by
  cases hv:Bh (AF ts) (f9+1) 5 0 []with
  |none=>rw[D7]at hser;rw[hv]at hser;cases hser
  |some y=>exact⟨y.1,y.2.1,y.2.2,rfl⟩
 obtain⟨G1,hG1,hrd⟩:=(AA HLV 0 (AZ _)).s _ _ hv;have hq1:q1<=ts.length:=(Cc (Ab ts) (f9+1) 5 0 [] (AZ _) _ _ _ hv).2.1;obtain⟨W0,hW0⟩:∃W0,W0=Z.alloc (.cells #[.slice (some ⟨g,0,none⟩) tn tc,.int .i64 0,.bool false,.slice none 0 0] 81):=⟨_,rfl⟩
 have hW0s:W0.heap.size=Z.heap.size+1:=by rw[hW0];simp
 have HK0:Hid (KS Z Z.heap.size (some ⟨g,0,none⟩) tn tc W0 (.slice none 0 0) [] [] [] 0 false (W0.alloc (.cells #[] 3)) (.slice none 0 0) (.slice (some ⟨Z.heap.size+1,0,none⟩) 0 0) []):=by
  have h1:EV Z Z.heap.size (some ⟨g,0,none⟩) tn tc false W0 0 (.slice none 0 0) []:=by rw[hW0];exact TI
  have h2:=(KS.start h1).list [] (by show 0<=100;omega);rw[hW0s]at h2;exact h2
 have HIT:=AB (fun(V:World)(nn u:Value)(us:List Int)(hk:KS Z Z.heap.size (some ⟨g,0,none⟩) tn tc W0 (.slice none 0 0) [] [] [] 0 false V nn u us)=>hk.read hrd (by show 0+_<=_;omega));have HNX:Hid (∀(ds:List AM)(nn u:Value)(z:Int)(wr:World),KS Z Z.heap.size (some ⟨g,0,none⟩) tn tc W0 (.slice none 0 0) [] [] ([]++ds) q1 (!G1) wr nn u ([]++ [z])->0<=q1->ds.length<=4*(q1- 0)->(G1=true->ds.length+1<=4*(q1- 0)/\∃e':Nat,z=e'/\A0 ([]++ds) e' (l1.headD []))->eI Z Z.heap.size (some ⟨g,0,none⟩) tn tc ts (f9+1) R W0 (.slice none 0 0) u wr):=fun ds nn u z wr hk h3 h4 h5=>TT (es:= []) (ls:= []) hv hG1 (AZ _) hser (AZ _) (AZ _) Av.nil hk h3 h4 h5;have HW0:=AB hW0;have hzl0:Z.heap.size<=W0.heap.size:=by omega
 clear hser hv hG1 hrd hf9 hlp hW0s hR;go_wp2_with(first|(go_at_call 43;rw[<-AA HW0];refine(AA HIT _ _ _ _ (AA HK0)).mono ?_;clear HIT;rintro e w6⟨z,nd6,ds,rfl,hk,hs,hi6,hl6,ht6⟩;have HK6:=AB (hk.below (AI.alloc AC (.cells #[.int .i64 z] 3)));have HI6:=AB hi6;have HL6:=AB hl6;have HT6:=AB ht6;have hzl6:=hk.low.size;clear hk hs hi6 hl6 ht6)|(at_builtin;refine wpList_append_lies _ rfl _ _ 45 rfl Z.heap.size 3 i0 (.int .i64 0) 1 8 underlying45 hi hz0 hz1 hz2 rfl (by decide) (.slice (some ⟨Z.heap.size+1,0,none⟩) 0 0) 0 [] rfl (AA HK6).ownR ⟨w6.heap.size,0,none⟩ 1 1 [.int .i64 z] rfl rfl (Dy _ _) (GM _) (by omega) (by unfold maxLen;omega) (by omega) (by simp;try omega) (w6.heap.size+1) (by simp) ?_;intro g' CW w7 A2 Au hat Cu;obtain⟨hk7,_⟩:=KS.grew (AA HK6) A2 Au hat (by simp);have HK7:=AB hk7;clear hk7 A2 Au hat Cu));go_loopw[10] (fun u wr=>Hid (eI Z Z.heap.size (some ⟨g,0,none⟩) tn tc ts (f9+1) R W0 (.slice none 0 0) u wr)) (fun _ wr=>ts.length+1- Ym Z.heap.size wr);case atStart=>exact AA HNX _ _ _ _ _ (AA HK7) (AA HI6) (AA HL6) (AA HT6)
 case round=>
  obtain⟨j,ns,nn,cs,bb,hj,hnl,hcl,hk,hcase⟩:=AA hrel;clear HNX HK7 HK6 HK0 HI6 HL6 HT6 hrel hzl6;have HKR:=AB hk;have HPL:=AB hk.plc;obtain⟨u0,uc,rfl⟩:=hk.slice;have hzl:=hk.low.size;clear hk;have hjt:j<=tn:=by omega
  rcases hcase with⟨rfl,es,ls,f,hes,htr,hl⟩|⟨rfl,hRj,hRf⟩;case inr=>
   have HF:Hid (PT=([],1,(Al ts n j).p)):=AB (by
    rw[AA HPT];have h1:=AA HRR;have h2:(Ce ts).2.1=j:=by rw[<-ZY,h1];exact hRj
    rw[AG (fun hc=>by
     rcases hRf with h3|h3
     .rw[<-h1,ZZ,hc.1]at h3;cases h3
     .exact hc.2 (by rw[h2];exact h3)),h2])
   have HHB:=AB ((AA HKR).via fun _ hX=>Pn hX ⟨#[226,139,132]⟩);clear hRf HLV;by_cases hjl:j<ts.length
   .have hjl':(j:Int)<(tn:Int):=by omega
    have hjd:decide (j<tn)=true:=AK (by omega);obtain⟨tb,tf,y,et,hbl,hy,_,_,_,y3⟩:=(AA HE).row.get (j:=j) (by omega);cases et;have hgr:¬ g=w.heap.size:=AA HGR (by omega);have HPY:Hid ((Al ts n j).p=y.p):=AB (by rw[Gv hy]);obtain⟨yp,hyp⟩:∃yp,y.p=yp:=⟨_,rfl⟩
    rw[hyp]at y3 HPY;have hpr:¬ Z.heap.size=w.heap.size:=by omega
    clear hy hyp;go_wp2_with(go_at_call 44;refine(AA HHB).mono ?_;rintro e w5⟨rfl,hk,_⟩;obtain⟨p0,p1,p2,p3,f0,f1,f2,f3,hpl⟩:=hk.all;have Io:=hk.low;obtain⟨c50,f50,c51,_⟩:=(AA H2Z).at (AA H2Z).lt Io;have t3:w5.cell? ⟨g,0+j*4+3,none⟩=some (.int .i64 (yp:Nat)):=(Io.cell (p:=⟨g,0+j*4+3,none⟩) hbl).trans y3;rw[BY]at t3;have HB5:=AB ((AA HBZ).trans (Io.mono (AA HBZ).size));clear hk Io)
    go_region
    all_goals go_wp2_with fail
    all_goals(refine bodyPost_ret (v:=.tuple #[.agg #[.slice none 0 0],.int .i64 1,.int .i64 (yp:Nat)]) (by simp[results,results18,go_sem,c50]) rfl ?_;rw[AA HF,AA HPY];exact⟨⟨_,_,_,rfl,Db.nil _⟩,(by first|exact((AA HB5).setCell AC _).drew|exact((AA HB5).drew).setCell AC _)⟩)
   .have hje:j=ts.length:=by omega
    have hjl':¬(j:Int)<(tn:Int):=by omega
    have hjd:decide (j<tn)=false:=AD (by omega);have HPY:Hid ((Al ts n j).p=n):=AB (by rw[I8 (by omega)]);clear hje;go_wp2_with(go_at_call 44;refine(AA HHB).mono ?_;rintro e w5⟨rfl,hk,_⟩;obtain⟨p0,p1,p2,p3,f0,f1,f2,f3,hpl⟩:=hk.all;have Io:=hk.low;obtain⟨c50,f50,c51,_⟩:=(AA H2Z).at (AA H2Z).lt Io;have HB5:=AB ((AA HBZ).trans (Io.mono (AA HBZ).size));clear hk Io);refine bodyPost_ret (v:=.tuple #[.agg #[.slice none 0 0],.int .i64 1,.int .i64 (n:Nat)]) (by simp[results,results18,go_sem,c50]) rfl ?_;rw[AA HF,AA HPY];exact⟨⟨_,_,_,rfl,Db.nil _⟩,(AA HB5).setCell AC _⟩
  case inl=>
   by_cases c8:(AF ts).cl j=8900
   .have hl':=hl;unfold Oc at hl';rw[AL c8]at hl';have hjl:j<ts.length:=Ab ts j (by rw[c8];decide);cases f with
    |zero=>cases hl'
    |succ f=>
     obtain⟨yb,q2,l2,hv⟩:∃yb q2 l2,Bh (AF ts) (f9+1) 5 (j+1) []=some (yb,q2,l2):=by
      cases hv:Bh (AF ts) (f9+1) 5 (j+1) []with
      |none=>rw[D7,hv]at hl';cases hl'
      |some y=>exact⟨y.1,y.2.1,y.2.2,rfl⟩
     have hq2:q2<=ts.length:=(Cc (Ab ts) (f9+1) 5 (j+1) [] hjl _ _ _ hv).2.1;obtain⟨G2,hG2,hrd⟩:=(AA HLV (j+1) hjl).s _ _ hv;have HHY:=AB ((AA HKR).via fun _ hX=>NT (AA HE) hX (by omega) PD PE c8);have HIT:=AB (fun(V:World)(hk:KS Z Z.heap.size (some ⟨g,0,none⟩) tn tc W0 (.slice none 0 0) [] [] ns (j+1) false V nn (.slice u0 cs.length uc) cs)=>hk.read hrd (by omega));have HNX:Hid (∀(ds:List AM)(nn u:Value)(z:Int)(wr:World),KS Z Z.heap.size (some ⟨g,0,none⟩) tn tc W0 (.slice none 0 0) [] [] (ns++ds) q2 (!G2) wr nn u (cs++ [z])->j+1<=q2->ds.length<=4*(q2- (j+1))->(G2=true->ds.length+1<=4*(q2- (j+1))/\∃e':Nat,z=e'/\A0 (ns++ds) e' (l2.headD []))->eI Z Z.heap.size (some ⟨g,0,none⟩) tn tc ts (f9+1) R W0 (.slice none 0 0) u wr):=fun ds nn u z wr hk h3 h4 h5=>by subst hes;exact TT hv hG2 hjl hl' (by omega) (by have:(Bv es).length=es.length:=AS ..;omega) htr hk h3 h4 h5
     have hcs4:cs.length<=4096:=by omega
     clear hl hl' hrd hG2 hv hes htr HLV;go_wp2_with(first|(go_at_call 44;refine(AA HHY).mono ?_;clear HHY;rintro e w5⟨rfl,hk,_⟩;have HK5:=AB hk;clear hk)|(go_at_call 43;refine(AA HIT _ (AA HK5)).mono ?_;clear HIT;rintro e w6⟨z,nd6,ds,rfl,hk,hs,hi6,hl6,ht6⟩;have HK6:=AB (hk.below (AI.alloc AC (.cells #[.int .i64 z] 3)));have HI6:=AB hi6;have HL6:=AB hl6;have HT6:=AB ht6;have hzl6:=hk.low.size;clear hk hs hi6 hl6 ht6)|(at_builtin;refine wpList_append_lies _ rfl _ _ 45 rfl Z.heap.size 3 i0 (.int .i64 0) 1 8 underlying45 hi hz0 hz1 hz2 rfl (by decide) _ _ _ rfl (AA HK6).ownR ⟨w6.heap.size,0,none⟩ 1 1 [.int .i64 z] rfl rfl (Dy _ _) (GM _) (by omega) (by unfold maxLen;omega) (by omega) (by simp;try omega) (w6.heap.size+1) (by simp) ?_;intro g' CW w7 A2 Au hat Cu;obtain⟨hk7,_⟩:=KS.grew (AA HK6) A2 Au hat (by simp);have HK7:=AB hk7;clear hk7 A2 Au hat Cu));have HP7:=AB (AA HK7).plc;go_roundw;case rel=>exact AA HNX _ _ _ _ _ (AA HK7) (AA HI6) (AA HL6) (AA HT6)
     case measure=>rw[AA HPL,AA HP7];have:=AA HI6;omega
   .have hl':=hl;unfold Oc at hl';rw[AG c8]at hl';have hRt:R=(true,j,ls):=by cases hl';rfl
    have hLt:Ce ts=(true,j,ls):=ZX ((AA HRR).trans hRt);have HHN:=AB ((AA HKR).via fun _ hX=>Qw (AA HE) hX (by omega) PD PE c8);clear hl hl' HLV;by_cases hjl:j<ts.length
    .have HF:Hid (PT=([],1,(Al ts n j).p)):=AB (by rw[AA HPT,hLt,AG (fun hc=>hc.2 hjl)]);have hjl':(j:Int)<(tn:Int):=by omega
     have hjd:decide (j<tn)=true:=AK (by omega);obtain⟨tb,tf,y,et,hbl,hy,_,_,_,y3⟩:=(AA HE).row.get (j:=j) (by omega);cases et;have hgr:¬ g=w.heap.size:=AA HGR (by omega);have HPY:Hid ((Al ts n j).p=y.p):=AB (by rw[Gv hy]);obtain⟨yp,hyp⟩:∃yp,y.p=yp:=⟨_,rfl⟩
     rw[hyp]at y3 HPY;have hpr:¬ Z.heap.size=w.heap.size:=by omega
     clear hy hyp;go_wp2_with(go_at_call 44;refine(AA HHN).mono ?_;rintro e w5⟨rfl,hk,_⟩;obtain⟨p0,p1,p2,p3,f0,f1,f2,f3,hpl⟩:=hk.all;have Io:=hk.low;obtain⟨c50,f50,c51,_⟩:=(AA H2Z).at (AA H2Z).lt Io;have t3:w5.cell? ⟨g,0+j*4+3,none⟩=some (.int .i64 (yp:Nat)):=(Io.cell (p:=⟨g,0+j*4+3,none⟩) hbl).trans y3;rw[BY]at t3;have HB5:=AB ((AA HBZ).trans (Io.mono (AA HBZ).size));clear hk Io)
     go_region
     all_goals go_wp2_with fail
     all_goals(refine bodyPost_ret (v:=.tuple #[.agg #[.slice none 0 0],.int .i64 1,.int .i64 (yp:Nat)]) (by simp[results,results18,go_sem,c50]) rfl ?_;rw[AA HF,AA HPY];exact⟨⟨_,_,_,rfl,Db.nil _⟩,(by first|exact((AA HB5).setCell AC _).drew|exact((AA HB5).drew).setCell AC _)⟩)
    .have hjl':¬(j:Int)<(tn:Int):=by omega
     have hjd:decide (j<tn)=false:=AD (by omega);obtain⟨k1,k2,k3,_⟩:=G6 hm2' (fun y hy=>((AA HM1) y hy).2.1) hLt;obtain⟨k4,k5⟩:=G5 k1 k2 k3;have HSD:=AB (JJ k1 k2 k3);have HK5s:=AB k5;obtain⟨S,hS⟩:∃S,F5 B2 (Dc ls)=S:=⟨_,rfl⟩
     have HF:Hid (PT=if S=true then(Dc ls,0,0)else([],7,0)):=AB (by rw[AA HPT,hLt,AL ⟨rfl,hjl⟩,hS]);have HSS:=AB hS;have HTR:=AB htr;have HES:=AB hes;obtain⟨m,hm⟩:∃m,ns.length=m:=⟨_,rfl⟩
     have hmb:m<=20000:=by omega
     have HM:=AB hm;have hpr:¬ Z.heap.size=w.heap.size:=by omega
     clear k1 k2 k3 k5 hS hLt htr hes hm hjl;go_wp2_with(first|(go_at_call 44;refine(AA HHN).mono ?_;rintro e w5⟨rfl,hk,_⟩;obtain⟨p0,p1,p2,p3,f0,f1,f2,f3,hpl⟩:=hk.all;have HK5:=AB hk;clear hk)|(go_at_call 45;refine(KS.put (AA HK5) 25 0 0 ⟨#[]⟩ (by have:=AA HM;omega)).mono ?_;clear p0 p1 p2 p3 f0 f1 f2 f3 hpl;rintro e w7⟨rfl,nd7,hk⟩;rw[AA HM];obtain⟨p0,p1,p2,p3,f0,f1,f2,f3,hpl⟩:=hk.all;have HL7:=AB hk.low;have hzl7:=hk.low.size;rw[AA HES]at hk;have ho:=KS.order hk (AA HTR) (by have:=AA HM;omega) k4;rw[AA HM]at ho;have HORD:=AB ho;clear hk ho)|(go_at_call 46;refine(AA HORD).mono ?_;clear HORD;rintro e w8⟨v8,xs8,ys8,rfl,hO8,hd8⟩;have hsm8:Gs ys8:=(Ja hd8 fun x hx=>by obtain⟨_,a,b⟩:=AA HK5s x hx;exact⟨by omega,by omega⟩);have hl8:ys8.length=(Dc ls).length:=(by rw[<-hd8,AS]);obtain⟨a8,c8,rfl,hrd8⟩:=hO8.read hsm8 (by omega) (r:=w.heap.size) (by omega);rw[hd8]at hrd8;have hb8:=hO8.low;have h28:=(AA H2Z).at (AA H2Z).lt hb8;have hbA8:Below w8.heap.size w8 (w8.alloc (.cells #[.slice a8 ys8.length c8] 29)):=AI.alloc AC _;have hto:=Lt JM a8 ys8.length c8 (Dc ls) _ (hrd8 _ hbA8).1 (by rw[hl8];exact AA HSD);rw[AA HSS]at hto;have HB8:=AB ((AA HBZ).trans (hb8.mono (AA HBZ).size));generalize ys8.length=X8 at hrd8 hbA8 hto ⊢;have HTO:=AB hto;have HRD:=AB hrd8;have H28:=AB h28;have HA8:=AB hbA8;clear hO8 hd8 hsm8 hl8 hrd8 hb8 h28 hbA8 hto)|(go_at_call 8;refine(AA HTO).mono ?_;clear HTO;rintro e w9⟨rfl,hb9⟩;have hb89:=(AA HA8).trans (hb9.mono (AA HA8).size);have t9:w9.cell? ⟨w8.heap.size,0,none⟩=some (.slice a8 X8 c8):=(hb9.cell (p:=⟨w8.heap.size,0,none⟩) (by simp)).trans (by simp);obtain⟨c90,f90,c91,_⟩:=(AA H28).at (AA H28).lt hb89;have HR9:=AB (AA HRD _ hb89).2;have HB9:=AB ((AA HB8).trans (hb89.mono (AA HB8).size));clear hb9 hb89;cases S))
     .refine bodyPost_ret (v:=.tuple #[.agg #[.slice none 0 0],.int .i64 7,.int .i64 0]) (by simp[results,results18,go_sem,c90]) rfl ?_;rw[AA HF];exact⟨⟨_,_,_,rfl,Db.nil _⟩,(AA HB9).setCell AC _⟩
     .refine bodyPost_ret (v:=.tuple #[.agg #[.slice a8 X8 c8],.int .i64 0,.int .i64 0]) (by simp[results,results18,go_sem,c90]) rfl ?_;rw[AA HF];exact⟨⟨_,_,_,rfl,AA HR9 _⟩,(AA HB9).setCell AC _⟩
def MW(b off cap:Nat)(s:AE)(w:World)(h:De w (some ⟨b,off,none⟩) s.size (bz s))(hs:s.size<=17592186044416)(hc:(Br s).2.1=0)(hts:(Br s).1= []):Calls prog 18 #[.slice (some ⟨b,off,none⟩) s.size cap] w fun e w'=>Jr (DH s) e w'/\Below w.heap.size w w':=by
 obtain⟨i0,hi,hz0,hz1,hz2⟩:=info_parts Dt;obtain⟨hbA,h2,Gr⟩:=J5 w;have HL:=AB (H0 b off cap s _ (h.below AC hbA) hs);have HBA:=AB hbA;have H2:=AB h2;have HBK:=AB Gr;have hr0:DH s=if(Ce (Br s).1).1=true/\¬(Ce (Br s).1).2.1<(Br s).1.length then(if F5 B2 (Dc (Ce (Br s).1).2.2)=true then(Dc (Ce (Br s).1).2.2,0,0)else([],7,0))else([],1,(Al (Br s).1 s.size (Ce (Br s).1).2.1).p):=by unfold DH;rw[AG (by simpa using hc)]
 generalize DH s=PT at hr0 ⊢;have HPT:=AB hr0;obtain⟨hm1,hm2⟩:=JK s;have hs2:s.size<=2000:=Jj hc;generalize Br s=L at HL hc hts hm1 hm2 HPT;obtain⟨ts,c,q⟩:=L;have hc0:c=0:=hc;subst hc0;have hm2':ts.length<=2000:=hm2;have hts':ts= []:=hts;have HM1:=AB hm1;generalize hN:s.size=n at HL hs2 HPT ⊢;clear h hs hbA hr0 hc hm1 hm2 hN h2 hts Gr;go_enter func18,ntmps18;go_upto_region 5 with(go_at_call 42;refine(AA HL).mono ?_;rintro e Z⟨g,tn,tc,rfl,hT,hb2⟩;have hT':Ht Z (some ⟨g,0,none⟩) tn ts:=hT;have hln:=hT'.len;have H2Z:=AB ((AA H2).at (AA H2).lt hb2);have HGR:Hid (tn≠0->g≠w.heap.size):=(AB fun h0 e=>by obtain⟨tb,tf,y,e2,_,_,_,y1,_⟩:=hT'.get (j:=0) (by omega);cases e2;have hbl:=(hb2.block w.heap.size (by simp;omega)).trans (AA HBK);rw[e]at y1;simp[World.cell?,hbl]at y1);have HBZ:=AB ((AA HBA).trans (hb2.mono (AA HBA).size));have HE:Hid (Bk Z (some ⟨g,0,none⟩) tn ts):=⟨hT',fun y hy=>((AA HM1) y hy).1.1,fun y hy=>((AA HM1) y hy).1.2.1,fun y hy=>by have:=((AA HM1) y hy).2.1;omega,by omega⟩;clear hb2 hT hT' HBK;dsimp only);have hrl:w.heap.size+1<Z.heap.size:=(AA H2Z).lt;subst hts';have ht0:tn=0:=by rw[<-hln];rfl
 subst ht0;have HK5:Hid (KS Z Z.heap.size (some ⟨g,0,none⟩) 0 tc (Z.alloc (.cells #[.slice (some ⟨g,0,none⟩) 0 tc,.int .i64 0,.bool false,.slice none 0 0] 81)) (.slice none 0 0) [] [] [] 0 false ((Z.alloc (.cells #[.slice (some ⟨g,0,none⟩) 0 tc,.int .i64 0,.bool false,.slice none 0 0] 81)).alloc (.cells #[] 3)) (.slice none 0 0) (.slice (some ⟨Z.heap.size+1,0,none⟩) 0 0) []):=by
  have h2:=(KS.start (TI (Z:=Z) (ta:=some ⟨g,0,none⟩) (tn:=0) (tc:=tc))).list [] (by show 0<=100;omega);have hs0:(Z.alloc (.cells #[.slice (some ⟨g,0,none⟩) 0 tc,.int .i64 0,.bool false,.slice none 0 0] 81)).heap.size=Z.heap.size+1:=by simp
  rw[hs0]at h2;exact h2
 obtain⟨p0,p1,p2,p3,f0,f1,f2,f3,hpl⟩:=(AA HK5).all;have hLt:Ce ([]:List CO)=(true,0,[]):=rfl;obtain⟨ls,hls⟩:∃ls:List (List AM),ls= []:=⟨_,rfl⟩
 rw[<-hls]at hLt;obtain⟨es,hes⟩:∃es:List Nat,es= []:=⟨_,rfl⟩
 obtain⟨ns,hns⟩:∃ns:List AM,ns= []:=⟨_,rfl⟩
 have htr:Av ns es ls:=by rw[hes,hls];exact Av.nil
 have hnl:ns.length<=0:=by rw[hns];exact AC
 rw[<-hns]at HK5;have HE0:=AB hes;clear hls hns;have hjl:¬ 0<([]:List CO).length:=Bc _;have hjl':¬(0:Int)<((0:Nat):Int):=by omega
 obtain⟨k1,k2,k3,_⟩:=G6 hm2' (fun y hy=>((AA HM1) y hy).2.1) hLt;obtain⟨k4,k5⟩:=G5 k1 k2 k3;have HSD:=AB (JJ k1 k2 k3);have HK5s:=AB k5;obtain⟨S,hS⟩:∃S,F5 B2 (Dc ls)=S:=⟨_,rfl⟩
 have HF:Hid (PT=if S=true then(Dc ls,0,0)else([],7,0)):=AB (by rw[AA HPT,hLt,AL ⟨rfl,hjl⟩,hS]);have HSS:=AB hS;have HTR:=AB htr;obtain⟨m,hm⟩:∃m,ns.length=m:=⟨_,rfl⟩
 have hmb:m<=20000:=by omega
 have HM:=AB hm;have hpr:¬ Z.heap.size=w.heap.size:=by omega
 clear k1 k2 k3 k5 hS hLt htr hes hm hjl;go_wp2_with(first|(go_at_call 45;refine(KS.put (AA HK5) 25 0 0 ⟨#[]⟩ (by have:=AA HM;omega)).mono ?_;clear p0 p1 p2 p3 f0 f1 f2 f3 hpl;rintro e w7⟨rfl,nd7,hk⟩;rw[AA HM];obtain⟨p0,p1,p2,p3,f0,f1,f2,f3,hpl⟩:=hk.all;have HL7:=AB hk.low;have hzl7:=hk.low.size;have ho:=KS.order (es:= []) hk (by have h1:=AA HTR;rw[AA HE0]at h1;exact h1) (by have:=AA HM;omega) k4;rw[AA HM]at ho;have HORD:=AB ho;clear hk ho)|(go_at_call 46;refine(AA HORD).mono ?_;clear HORD;rintro e w8⟨v8,xs8,ys8,rfl,hO8,hd8⟩;have hsm8:Gs ys8:=(Ja hd8 fun x hx=>by obtain⟨_,a,b⟩:=AA HK5s x hx;exact⟨by omega,by omega⟩);have hl8:ys8.length=(Dc ls).length:=(by rw[<-hd8,AS]);obtain⟨a8,c8,rfl,hrd8⟩:=hO8.read hsm8 (by omega) (r:=w.heap.size) (by omega);rw[hd8]at hrd8;have hb8:=hO8.low;have h28:=(AA H2Z).at (AA H2Z).lt hb8;have hbA8:Below w8.heap.size w8 (w8.alloc (.cells #[.slice a8 ys8.length c8] 29)):=AI.alloc AC _;have hto:=Lt JM a8 ys8.length c8 (Dc ls) _ (hrd8 _ hbA8).1 (by rw[hl8];exact AA HSD);rw[AA HSS]at hto;have HB8:=AB ((AA HBZ).trans (hb8.mono (AA HBZ).size));generalize ys8.length=X8 at hrd8 hbA8 hto ⊢;have HTO:=AB hto;have HRD:=AB hrd8;have H28:=AB h28;have HA8:=AB hbA8;clear hO8 hd8 hsm8 hl8 hrd8 hb8 h28 hbA8 hto)|(go_at_call 8;refine(AA HTO).mono ?_;clear HTO;rintro e w9⟨rfl,hb9⟩;have hb89:=(AA HA8).trans (hb9.mono (AA HA8).size);have t9:w9.cell? ⟨w8.heap.size,0,none⟩=some (.slice a8 X8 c8):=(hb9.cell (p:=⟨w8.heap.size,0,none⟩) (by simp)).trans (by simp);obtain⟨c90,f90,c91,_⟩:=(AA H28).at (AA H28).lt hb89;have HR9:=AB (AA HRD _ hb89).2;have HB9:=AB ((AA HB8).trans (hb89.mono (AA HB8).size));clear hb9 hb89;cases S))
 .refine bodyPost_ret (v:=.tuple #[.agg #[.slice none 0 0],.int .i64 7,.int .i64 0]) (by simp[results,results18,go_sem,c90]) rfl ?_;rw[AA HF];exact⟨⟨_,_,_,rfl,Db.nil _⟩,(AA HB9).setCell AC _⟩
 .refine bodyPost_ret (v:=.tuple #[.agg #[.slice a8 X8 c8],.int .i64 0,.int .i64 0]) (by simp[results,results18,go_sem,c90]) rfl ?_;rw[AA HF];exact⟨⟨_,_,_,rfl,AA HR9 _⟩,(AA HB9).setCell AC _⟩
def Nu(b off cap:Nat)(s:AE)(w:World)(h:De w (some ⟨b,off,none⟩) s.size (bz s))(hs:s.size<=17592186044416):Calls prog 18 #[.slice (some ⟨b,off,none⟩) s.size cap] w fun e w'=>Jr (DH s) e w'/\Below w.heap.size w w':=by
 by_cases hc:(Br s).2.1=0
 .by_cases ht:(Br s).1= []
  .exact MW b off cap s w h hs hc ht
  .exact O8 b off cap s w h hs hc ht
 .exact MX b off cap s w h hs hc
def Is.but{S:Nat->Prop}{w w':World}{B:Nat}{nd:Value}{xs:List AW}(h:Is w B nd xs)(hb:EF S w w')(hS:∀k,S k->k<B):Is w' B nd xs:=by
 have hk:∀k,k<w.heap.size->B<=k->w'.heap[k]? =w.heap[k]? :=fun k h1 h2=>hb.block k h1 fun e=>by have:=hS k e;omega
 have kp:∀ {e size n:Nat}{v:Value}{l:List Value},w.ownsRow B e size v n l->w'.ownsRow B e size v n l:=fun {e size n v l}ho=>BP ho fun g hg=>by obtain⟨_,h1,h2⟩:=Ag ho hg;exact hk g (lt_of_block h1) h2
 exact⟨kp h.own,fun x hx=>⟨kp (h.lists x hx).1,kp (h.lists x hx).2⟩,h.apart⟩
def cS{w:World}{B:Nat}{xs:List AW}(hl:∀x∈xs,x.Ok w B){k:Nat}(hk:k∈Bm xs):k<w.heap.size:=by
 obtain⟨x,hx,hgx⟩:=CE.1 hk;unfold AW.blks at hgx;rcases Ak.1 hgx with h1|h1
 .exact(Ag (hl x hx).1 (by simpa[Option.mem_toList]using h1)).elim fun _ hc=>lt_of_block hc.1
 .exact(Ag (hl x hx).2 (by simpa[Option.mem_toList]using h1)).elim fun _ hc=>lt_of_block hc.1
structure Gk(w:World)(B H:Nat)(nd:Value)(xs:List AW)(ns:List AM):Prop where
 own:Is w B nd xs
 dat:xs.map AW.d=ns
 few:xs.length<=1048576
 small:Gs xs
 hi:∀k,nd.ownBlock=some k\/k∈Bm xs->k<H
section
variable {w w':World}{B H:Nat}{nd:Value}{xs:List AW}{ns:List AM}
def Gk.row(h:Gk w B H nd xs ns):∃a c,nd=.slice a xs.length c/\Db w a xs.length ns:=by obtain⟨a,c,e,hC⟩:=Kn h.own.own h.own.lists h.small h.few;exact⟨a,c,e,by rw[<-h.dat];exact hC.row⟩
def Gk.below(h:Gk w B H nd xs ns)(hb:Below w.heap.size w w'):Gk w' B H nd xs ns:=⟨h.own.below hb,h.dat,h.few,h.small,h.hi⟩
def Gk.but{S:Nat->Prop}(h:Gk w B H nd xs ns)(hb:EF S w w')(hS:∀k,S k->k<B):Gk w' B H nd xs ns:=⟨h.own.but hb hS,h.dat,h.few,h.small,h.hi⟩
def Gk.eq{a2:Option Addr}{c2 n:Nat}(h:Gk w B H nd xs ns)(hn:xs.length=n)(h2:Db w a2 n ns):Calls prog 11 #[.agg #[nd],.agg #[.slice a2 n c2]] w fun e w'=>e=.returned (.bool true)/\Below w.heap.size w w':=by subst hn;obtain⟨a,c,rfl,hr⟩:=h.row;exact RB a a2 xs.length c c2 ns w hr h2
def Gk.mark(h:Gk w B H nd xs ns):∃K:Nat,Calls prog 15 #[.agg #[nd],.int .i64 1] w fun e w'=>e=.returned (.int .i64 (K:Nat))/\EF (fun y=>B<=y/\y<H) w w'/\Calls prog 21 #[.agg #[nd],.int .i64 1] w' fun e w''=>e=.returned (.int .i64 (K:Nat))/\Below w'.heap.size w' w'':=by
 by_cases h0:xs= []
 .subst h0;obtain⟨a,c,rfl,_⟩:=h.row;exact⟨1,(PZ a c w).mono fun e w'⟨h1,h2⟩=>⟨h1,EF.of_below h2,Pl a c w'⟩⟩
 .obtain⟨g,cap,rfl,hN⟩:=NW.of_own h.own.own h.own.lists h.own.apart h.small h0;refine⟨KY 1 xs,(PY g cap B xs w hN h.few h.small).mono fun e w'⟨h1,h2,h3⟩=>⟨h1,h3.mono fun k hk=> ?_,Pk g cap B xs w' h2 h.few h.small⟩⟩;rcases hk with rfl|hk
  .exact⟨hN.low,h.hi _ (.inl rfl)⟩
  .exact⟨aF h.own.lists hk,h.hi _ (.inr hk)⟩
end
def PO(s:AE):(DH s).1.length<=8003/\∀x∈(DH s).1,x.s.size<=5000/\x.nums.length<=5000/\x.kids.length<=8003:=by
 have nil:(([]:List AM)).length<=8003/\∀x∈([]:List AM),x.s.size<=5000/\x.nums.length<=5000/\x.kids.length<=8003:=⟨AZ _,fun x hx=>by cases hx⟩
 obtain⟨hm1,hm2⟩:=JK s;unfold DH;split
 .exact nil
 .split
  .rename_i h1
   split
   .obtain⟨k1,k2,k3,_⟩:=G6 hm2 (fun y hy=>(hm1 y hy).2.1) (q:=(Ce (Br s).1).2.1) (l:=(Ce (Br s).1).2.2) (by rw[<-h1.1]);exact G5 k1 k2 k3
   .exact nil
  .exact nil
def Vx{w:World}{B:Nat}{nd:Value}{xs:List AW}{s:AE}(h1:xs.map AW.d=(DH s).1)(h2:Is w B nd xs):Gk w B w.heap.size nd xs (DH s).1:=by obtain⟨k1,k2⟩:=PO s;exact⟨h2,h1,by have:=AV List.length h1;rw[AS]at this;omega,Ja h1 fun x hx=>by obtain⟨_,a,b⟩:=k2 x hx;exact⟨by omega,by omega⟩,fun k hk=>hk.elim (fun e=>(Ag h2.own e).elim fun _ hc=>lt_of_block hc.1) (cS h2.lists)⟩
namespace LawParse
def ch(a:Option Addr)(c:Nat)(s:AE)(w:World)(h:De w a s.size (bz s))(hn:s.size<=1048576)(hG:Yi w):Calls prog 5 #[.slice a s.size c] w fun e w'=>e=.returned (.bool true)/\Below w.heap.size w w':=by
 have H:=AB h;have HG:Hid (∀v,Below w.heap.size w v->Yi v):=fun v hv=>hG.below hv;have hni:¬(1048576:Int)<(s.size:Int):=by omega
 obtain⟨r,hr⟩:∃r,DH s=r:=⟨_,rfl⟩
 have HR:=AB hr;have HTW:Hid (∀(v:World)(B:Nat)(nd:Value)(xs:List AW),xs.map AW.d=r.1->Is v B nd xs->Gk v B v.heap.size nd xs r.1):=by rw[<-hr];exact fun v B nd xs h1 h2=>Vx h1 h2
 clear h hG hr;obtain⟨ns,cd,pl⟩:=r;obtain⟨n,hnn⟩:∃n,ns.length=n:=⟨_,rfl⟩
 have HN:=AB hnn;clear hnn;go_enter func5,ntmps5;go_wp2_with fail;refine(Hx _ _ _ (bz s) _ (by exact AA H) (by omega)).mono ?_;rintro e w1⟨g1,rfl,hg1,hl1,hO1,hb1⟩;go_wp2_with fail;refine(Nu g1 0 _ s w1 (by exact hO1.row) (by omega)).mono ?_;rintro e w2⟨⟨a2,n2,c2,he,hS⟩,hb2⟩;rw[AA HR]at he hS;have hS':Db w2 a2 n2 ns:=hS;have hns:n2=n:=by rw[<-hS'.len];exact AA HN
 subst hns;have he':e=.returned (.tuple #[.agg #[.slice a2 n2 c2],.int .i64 cd,.int .i64 (pl:Nat)]):=he;subst he';have hK2:=AB (hb1.trans (hb2.mono hb1.size));obtain⟨W2,hW2⟩:∃W2,W2=w2.alloc (.cells #[.slice a2 n2 c2] 29):=⟨_,rfl⟩
 have hz2:W2.heap.size=w2.heap.size+1:=by rw[hW2];simp
 have HW2:Hid (Below w2.heap.size w2 W2):=by rw[hW2];exact AI.alloc AC _
 have HST:Hid (∀v,Below W2.heap.size W2 v->Below w.heap.size w v/\v.cell? ⟨w2.heap.size,0,none⟩=some (.slice a2 n2 c2)/\Db v a2 n2 ns):=fun v hv=>by have h1:=(AA HW2).trans (hv.mono (AA HW2).size);refine⟨(AA hK2).trans (h1.mono (AA hK2).size),(hv.cell (p:=⟨w2.heap.size,0,none⟩) (by show w2.heap.size<_;omega)).trans (by rw[hW2];simp),hS'.below AC h1⟩
 have HWW:=AB hW2;clear he hS hS' hb1 hb2 hO1 hg1 hl1 w1 hW2;go_wp2_with fail;rw[<-AA HWW];refine(Hx _ _ _ (bz s) _ (by exact(AA H).below AC (AA HST _ AI).1) (by omega)).mono ?_;rintro e w4⟨g4,rfl,hg4,hl4,hO4,hb4⟩;have hs4:=AA HST _ hb4;have HO4:=AB hO4;have HL4:=AB hb4;have hz4:=hb4.size;clear hb4 hO4;go_wp2_with fail;refine(J1 g4 0 _ s w4 (by exact(AA HO4).row) (by omega) (AA HG _ hs4.1)).mono ?_;rintro e w5⟨⟨nd,xs,he,hxd,hON⟩,hb5⟩;rw[AA HR]at he hxd;have he':e=.returned (.tuple #[.agg #[nd],.int .i64 cd,.int .i64 (pl:Nat)]):=he;subst he';have hT5:=AA HTW _ _ _ _ hxd hON;have hxl:xs.length=n2:=by rw[<-AA HN,<-AS (f:=AW.d),hxd]
 obtain⟨a7,c7,rfl,_⟩:=hT5.row;rw[hxl]at hT5 ⊢;have hb45:=(AA HL4).trans (hb5.mono (AA HL4).size);obtain⟨W7,hW7⟩:∃W7,W7=w5.alloc (.cells #[.slice a7 n2 c7] 29):=⟨_,rfl⟩
 have hbA7:Below w5.heap.size w5 W7:=by rw[hW7];exact AI.alloc AC _
 have HT7:=AB (hT5.below hbA7);have d7:W7.cell? ⟨w5.heap.size,0,none⟩=some (.slice a7 n2 c7):=by rw[hW7];simp
 have hd7:w5.heap.size<W7.heap.size:=by rw[hW7];simp
 have HL7:=AB (hb45.trans (hbA7.mono hb45.size));have HO7:=AB (((AA HO4).below AC hb5).below AC hbA7);have HX:=AB hxl;have HWW7:=AB hW7;have hg45:g4<w5.heap.size:=AX hl4 hb5.size;obtain⟨B5,hB5⟩:∃B5,w4.heap.size=B5:=⟨_,rfl⟩
 rw[hB5]at HT7 hl4 hz4;have e5:=(AA HST _ hb45).2.1;have hw25:w2.heap.size<w5.heap.size:=by have:=hb45.size;omega
 clear hT5 hON hxd he hs4 hb5 HL4 HO4 hb45 hbA7 hxl hW7 hB5;go_wp2_with fail;rw[<-AA HWW7];refine(Gk.eq (AA HT7) (AA HX) (AA HST _ (AA HL7)).2.2).mono ?_;rintro e w8⟨rfl,hb8⟩;clear HWW7;obtain⟨p7,hp7⟩:∃p7,p7=w5.heap.size:=⟨_,rfl⟩
 rw[<-hp7]at d7 hd7 hg45 HT7 ⊢;clear hp7 e5 hw25;have HT8:=AB ((AA HT7).below hb8);have d8:=(hb8.cell (p:=⟨p7,0,none⟩) hd7).trans d7;have hd8:p7<w8.heap.size:=AX hd7 hb8.size;have HL8:=AB ((AA HL7).trans (hb8.mono (AA HL7).size));have HO8:=AB ((AA HO7).below AC hb8);clear hb8 HT7 d7 hd7 HL7 HO7;go_wp2_with fail;refine(Hx _ _ _ (bz s) _ (by exact(AA H).below AC (AA HST _ (AA HL8)).1) (by omega)).mono ?_;rintro e w9⟨g9,rfl,hg9,hl9,hO9,hb9⟩;have HT9:=AB ((AA HT8).below hb9);have d9:=(hb9.cell (p:=⟨p7,0,none⟩) hd8).trans d8;have hd9:p7<w9.heap.size:=AX hd8 hb9.size;have HL9:=AB ((AA HL8).trans (hb9.mono (AA HL8).size));have HO9:=AB ((AA HO8).below AC hb9);have HX9:=AB hO9.row;clear hb9 HT8 d8 hd8 HL8 HO8 hg9 hl9 hO9 w8;go_wp2_with fail;refine(RD _ _ _ _ _ _ (bz s) (bz s) _ (by exact(AA HO9).row) (by exact AA HX9) (by omega)).mono ?_;rintro e wA⟨rfl,qA,rfl⟩;rw[AK rfl];have hbA:Below w9.heap.size w9 (w9.drewN qA):=Below.drewN (DP _ w9) qA;obtain⟨wA,hwA⟩:∃W,w9.drewN qA=W:=⟨_,rfl⟩
 rw[hwA]at hbA ⊢;have HTA:=AB ((AA HT9).below hbA);have dA:=(hbA.cell (p:=⟨p7,0,none⟩) hd9).trans d9;have hdA:p7<wA.heap.size:=AX hd9 hbA.size;have HLA:=AB ((AA HL9).trans (hbA.mono (AA HL9).size));have HOA:=AB ((AA HO9).below AC hbA);clear hbA hwA HT9 d9 hd9 HL9 HO9 HX9 w9;go_wp2_with fail;refine(N2 _ _ _ W2.heap.size (bz s) _ _ (by exact AA HOA) (by omega) (by omega)).mono ?_;rintro e wB⟨rfl,_,hbB⟩;have hSB:∀k,At (some ⟨g4,0,none⟩) s.size k->k=g4:=fun k hk=>(ap hk).symm;have HTB:=AB ((AA HTA).but hbB (fun k hk=>by have:=hSB k hk;omega));have dB:wB.cell? ⟨p7,0,none⟩=some (.slice a7 n2 c7):=(World.cell?_of_block (w:=wA) (a:=⟨p7,0,none⟩) (hbB.block p7 hdA (fun hk=>by have:=hSB p7 hk;omega))).trans dA;have hdB:p7<wB.heap.size:=AX hdA hbB.size;have HLB:=AB ((AA HLA).trans (hbB.below (AA HLA).size (fun k hk=>by have:=hSB k hk;omega)));have hk0:¬((1:Int)+s.size<0):=by omega
 have eB:=(AA HST _ (AA HLB)).2.1;clear hbB hSB HTA dA hdA HLA HOA wA;go_wp2_with fail;refine(Gk.eq (AA HTB) (AA HX) (AA HST _ (AA HLB)).2.2).mono ?_;rintro e wC⟨rfl,hbC⟩;have HTC:=AB ((AA HTB).below hbC);have dC:=(hbC.cell (p:=⟨p7,0,none⟩) hdB).trans dB;have hdC:p7<wC.heap.size:=AX hdB hbC.size;have HLC:=AB ((AA HLB).trans (hbC.mono (AA HLB).size));obtain⟨K,hK⟩:=(AA HTC).mark;have HK:=AB hK;clear hbC HTB dB hdB HLB hK eB;go_wp2_with fail;refine(AA HK).mono ?_;rintro e wD⟨rfl,hbD,hhD⟩;have HH:=AB hhD;have dD:wD.cell? ⟨p7,0,none⟩=some (.slice a7 n2 c7):=(World.cell?_of_block (w:=wC) (a:=⟨p7,0,none⟩) (hbD.block p7 hdC (fun hk=>by have:=hk.2;omega))).trans dC;have hdD:p7<wD.heap.size:=AX hdC hbD.size;have HLD:=AB ((AA HLC).trans (hbD.below (AA HLC).size (fun k hk=>by have:=hk.1;omega)));clear hbD hhD HTC dC hdC HLC HK wC;go_wp2_with fail;refine(AA HH).mono ?_;rintro e wE⟨rfl,hbE⟩;have HLE:=AB ((AA HLD).trans (hbE.mono (AA HLD).size));have hKn:¬(K:Int)<0:=by omega
 clear hbE HLD dD hdD HH wD;go_wp2_with fail;refine(Hx _ _ _ (bz s) _ (by exact(AA H).below AC (AA HST _ (AA HLE)).1) (by omega)).mono ?_;rintro e wF⟨gF,rfl,hgF,hlF,hOF,hbF⟩;have HLF:=AB ((AA HLE).trans (hbF.mono (AA HLE).size));have HOF:=AB hOF.row;clear hbF HLE hgF hlF hOF wE;go_wp2_with fail;refine(J1 gF 0 _ s wF (by exact AA HOF) (by omega) (AA HG _ (AA HST _ (AA HLF)).1)).mono ?_;rintro e wG⟨⟨ndG,xsG,he,hxd,hON⟩,hbG⟩;rw[AA HR]at he hxd;have he':e=.returned (.tuple #[.agg #[ndG],.int .i64 cd,.int .i64 (pl:Nat)]):=he;subst he';have hTG:=AA HTW _ _ _ _ hxd hON;have hxl:xsG.length=n2:=by rw[<-AA HN,<-AS (f:=AW.d),hxd]
 obtain⟨aG,cG,rfl,_⟩:=hTG.row;rw[hxl]at hTG ⊢;have HLG:=AB ((AA HLF).trans (hbG.mono (AA HLF).size));obtain⟨WG,hWG⟩:∃WG,WG=wG.alloc (.cells #[.slice aG n2 cG] 29):=⟨_,rfl⟩
 have hbA:Below wG.heap.size wG WG:=by rw[hWG];exact AI.alloc AC _
 have HTG:=AB (hTG.below hbA);have HXG:=AB hxl;have eG:=(AA HST _ (AA HLG)).2.1;have hwG:w2.heap.size<wG.heap.size:=by have:=(AA HLG).size;omega
 have HLW:=AB ((AA HLG).trans (hbA.mono (AA HLG).size));have HWWG:=AB hWG;clear hTG hON hxd he hbG HLF HOF hbA hxl hWG;go_wp2_with fail;rw[<-AA HWWG];refine(Gk.eq (AA HTG) (AA HXG) (AA HST _ (AA HLW)).2.2).mono ?_;rintro e wH⟨rfl,hbH⟩;have HLH:=AB ((AA HLW).trans (hbH.mono (AA HLW).size));clear hbH;go_wp2_with fail;go_ret;exact⟨rfl,(AA HST _ (AA HLH)).1⟩
def eF(a:Option Addr)(n c:Nat)(w:World)(hn:1048576<n):Calls prog 5 #[.slice a n c] w fun e w'=>e=.returned (.bool true)/\Below w.heap.size w w':=by
 have hnz:(1048576:Int)<(n:Int):=by omega
 go_enter func5,ntmps5;go_wp2_with fail;go_ret;exact⟨rfl,AI⟩
end LawParse
