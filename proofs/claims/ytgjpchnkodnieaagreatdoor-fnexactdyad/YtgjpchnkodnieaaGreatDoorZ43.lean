import Derived.Test.YtgjpchnkodnieaaGreatDoorZ23
import Derived.Test.YtgjpchnkodnieaaGreatDoorZ22
import Derived.Test.YtgjpchnkodnieaaGreatDoorZ17
import Derived.Test.YtgjpchnkodnieaaGreatDoorZ20
import Derived.Test.YtgjpchnkodnieaaGreatDoorZ34
import Derived.Test.YtgjpchnkodnieaaGreatDoorZ27
set_option maxRecDepth 100000
set_option maxHeartbeats 4000000
set_option linter.defProp false
namespace Go.Proofs.YtgjpchnkodnieaaGreatDoor
open Go.RowKit Tryz
section
open Go.Shelf
attribute [local go_sem] Oper.semAt_some
def Sb(c:Bool)(v1 v2:Value)(w:World):Calls prog 149 #[.agg #[.bool c,v1,v2]] w fun e w'=>e=.returned (.int .i64 (Ec c))/\Below w.heap.size w w':=by
 have hb:Below w.heap.size w (w.alloc (.cells #[.bool c,v1,v2] 25)):=(AN _ w).alloc AC _;cases c
 .go_enter func149,ntmps149
  go_wp2
  go_ret;exact⟨rfl,hb⟩
 .go_enter func149,ntmps149
  go_wp2
  go_ret;exact⟨rfl,hb⟩
def AO.one(w:World)(x:Int):AO (w.alloc (.cells #[.int .i64 x] 3)) (some ⟨w.heap.size,0,none⟩) 1 [x]:=BA.row (show BA _ _ [x]from World.alloc_heap_new w _) rfl (by omega)
def Qu(c:Bool)(a1 a2 sa:Option Addr)(n1 n2 c1 c2 n cap:Nat)(sh dt zs:List Int)(g:Nat)(lb:Array Value)(eg:∀args w,(callFunc g args).run prog w=.ok (.enter g args) w)(f:List Int->Nat->Int)(w:World)(N:Nat)(h1:AO w a1 n1 sh)(h2:AO w a2 n2 dt)(hz:AO w sa n zs)(hs:Aq sh)(hsz:Aq zs)(h5:n<=5)(hN:AM zs=(N:Int))(hd:AM sh=(n2:Int))(Lf:Fz g lb f zs n1 w):CallsIn Fence.wide 9 prog 59 #[.agg #[.bool c,.slice a1 n1 c1,.slice a2 n2 c2],.slice sa n cap,.func (.func g) #[] lb] w fun e w'=>∃gd,e=.returned (.agg #[.bool c,.slice sa n cap,.slice (some ⟨gd,0,none⟩) N N])/\w.heap.size<=gd/\BA w' gd (Bg (BP c sh dt f zs) N)/\Below w.heap.size w w':=by
 have hNb:N<=10000:=by have:=hsz.bd;omega
 have H1:=AD h1;have H2:=AD h2;have HZ:=AD hz;have HS:=AD hs;have HSZ:=AD hsz;have HN:=AD hN;have HD:=AD hd;have HNUM:=AD Lf;clear h1 h2 hz hs hsz hN hd Lf;refine callsIn_of_wp_marks func59 rfl trivial ?_ rfl;simp only[ntmps59,CX,Ch,Cv,Nat.reduceAdd,Nat.reduceSub,Array.replicate_succ,Array.replicate_zero,List.push_toArray,List.append_toArray,A8,Ax];obtain⟨W0,hW0⟩:∃W0,W0=((w.alloc (.cells #[.bool c,.slice a1 n1 c1,.slice a2 n2 c2] 25)).alloc (.cells #[.func (.func g) #[] lb] 89)).alloc (.cells #[.bool false,.slice none 0 0,.slice none 0 0] 25):=⟨_,rfl⟩
 have hz0:W0.heap.size=w.heap.size+3:=by rw[hW0];simp
 have HB0:Hid (Below w.heap.size w W0):=by rw[hW0];exact(((AN _ w).alloc AC _).alloc (by simp) _).alloc (by simp;omega) _
 have HX0:Hid (Ai W0 w.heap.size c (.slice a1 n1 c1) (.slice a2 n2 c2)):=by rw[hW0];exact((Ai.new w _ _ _).alloc _).alloc _
 have HX2:Hid (Ai W0 (w.heap.size+1+1) false (.slice none 0 0) (.slice none 0 0)):=by rw[hW0];show Ai _ _ _ _ _;have:=Ai.new ((w.alloc (.cells #[.bool c,.slice a1 n1 c1,.slice a2 n2 c2] 25)).alloc (.cells #[.func (.func g) #[] lb] 89)) false (.slice none 0 0) (.slice none 0 0);simpa using this
 have HX1:Hid (W0.heap[w.heap.size+1]? =some (.cells #[.func (.func g) #[] lb] 89 (0,0))):=by rw[hW0];refine(Ab _ _ _ (by simp)).trans ?_;have:=World.alloc_heap_new (w.alloc (.cells #[.bool c,.slice a1 n1 c1,.slice a2 n2 c2] 25)) (.cells #[.func (.func g) #[] lb] 89);simpa using this
 have HW0:=AD hW0;clear hW0
 gi_wp2_with (first|(refine⟨trivial,?_⟩;gi_at_call 149;rw[<-HW0.out];refine(callsIn_wide.2 (Sb _ _ _ _)).mono ?_;rintro e wA⟨rfl,hbA⟩;have HBA:=AD hbA;clear hbA)|(refine⟨trivial,?_⟩;gi_at_call 116;refine(callsIn_wide.2 (FA _ _ _ zs _ (((HZ.out.below AC HB0.out).below AC HBA.out).alloc _) HSZ.out N HN)).mono ?_;rintro e wB⟨rfl,hwB⟩;obtain rfl:=hwB.symm)|(refine⟨trivial,?_⟩;gi_at_call 148;refine(callsIn_wide.2 (Fx ⟨wA.heap.size,0,none⟩ _ N (Ec c) _ (AO.one wA _) hNb)).mono ?_;rintro e wR⟨rfl,hR1,hR2⟩;have HR1:=AD hR1;have HR2:=AD hR2;clear hR1 hR2)|(refine⟨trivial,?_⟩;gi_at_call 150;refine(callsIn_wide.2 (Ik _ _ _ _)).mono ?_;rintro e wI⟨rfl,hwI⟩;obtain rfl:=hwI.symm))
 obtain⟨p,hp⟩:∃p,p=w.heap.size:=⟨_,rfl⟩
 obtain⟨gd,hgd⟩:∃gd,gd=wA.heap.size+1:=⟨_,rfl⟩
 obtain⟨pd,hpd⟩:∃pd,pd=wR.heap.size:=⟨_,rfl⟩
 obtain⟨W,hW⟩:∃W,W=(wR.alloc (.cells #[.slice (some ⟨wA.heap.size+1,0,none⟩) N N] 23)).alloc (.cells #[.slice sa n cap] 23):=⟨_,rfl⟩
 have hzA:=HBA.out.size;have hzR:=HR2.out.size;rw[World.size_alloc]at hzR;have hBR:Below W0.heap.size W0 wR:=(HBA.out.alloc hzA _).trans (HR2.out.mono (by simp;omega));have hBW:Below W0.heap.size W0 W:=by rw[hW];exact(hBR.alloc (by omega) _).alloc (by simp;omega) _
 have HBW:Hid (Below p w W):=by rw[hp];exact HB0.out.trans (hBW.mono (by omega))
 have HY0:Hid (Ai W p c (.slice a1 n1 c1) (.slice a2 n2 c2)):=by rw[hp];exact HX0.out.low (by omega) hBW
 have HY1:Hid (W.heap[p+1]? =some (.cells #[.func (.func g) #[] lb] 89 (0,0))):=by rw[hp];exact(hBW.block _ (by omega)).trans HX1.out
 have HY2:Hid (Ai W (p+1+1) false (.slice none 0 0) (.slice none 0 0)):=by rw[hp];exact HX2.out.low (by omega) hBW
 have HY3:Hid (W.heap[pd]? =some (.cells #[.slice (some ⟨gd,0,none⟩) N N] 23 (0,0))):=by rw[hW,hpd,hgd];exact(Ab _ _ _ (by simp)).trans (World.alloc_heap_new wR _)
 have HY4:Hid (W.heap[pd+1]? =some (.cells #[.slice sa n cap] 23 (0,0))):=by rw[hW,hpd];have:=World.alloc_heap_new (wR.alloc (.cells #[.slice (some ⟨wA.heap.size+1,0,none⟩) N N] 23)) (.cells #[.slice sa n cap] 23);rwa [World.size_alloc]at this
 have HG:Hid (BA W gd (ES c sh dt f zs N 0)):=by show BA _ _ _;rw[Ul,hW,hgd];have:=HR1.out;rw[World.size_alloc]at this;exact(this.alloc _).alloc _
 have hzW:W.heap.size=pd+2:=by rw[hW,hpd];simp
 have hpg:p+3<=gd:=by omega
 have hgp:gd<pd:=by have:=HR1.out.lt;rw[World.size_alloc]at this;omega
 have H1W:=AD (H1.out.below (by omega) HBW.out);have H2W:=AD (H2.out.below (by omega) HBW.out);have HZW:=AD (HZ.out.below (by omega) HBW.out);have HPL:Hid ((∀k,At a1 n1 k->k<p)/\(∀k,At a2 n2 k->k<p)/\(∀k,At sa n k->k<p)):=⟨fun k h=>by rw[hp];exact H1.out.hi h,fun k h=>by rw[hp];exact H2.out.hi h,fun k h=>by rw[hp];exact HZ.out.hi h⟩
 rw[<-hW,<-hp,<-hgd,<-hpd];clear hzA hzR hBR hBW HX0 HX1 HX2 HBA HR1 HR2 hW hgd hpd hwB hwI HW0 HB0 hz0 H1 H2 HZ;have HP:=AD hp;clear hp;refine Kq (gf:=228) (lb:= #[.pointer (some ⟨pd+1,0,none⟩)]) rfl (enters_of func228 (by kernel_rfl) rfl) rfl (fun k=>k=gd) (by rintro k rfl;omega) (IA _ (pd+1) sa n cap zs W N _ (by simp[World.cell?,HY4.out]) (by omega) HZW.out h5 HSZ.out HN.out (by omega) (by rintro k(rfl|rfl)h<;>have:=HPL.out.2.2 _ h<;>omega)) (by rintro k v A o⟨ib,hlo,rfl,hb⟩_;exact⟨ib,hlo,rfl,(World.putObj_heap_other (by omega)).trans hb⟩) (fun k A=>BA A gd (ES c sh dt f zs N k)/\BS (fun b=>b=gd) W A) (by rintro k A B⟨h,hb⟩hbl;exact⟨(hbl.block _ (by omega)).trans h,hbl.os.trans hb.os,hbl.tape.trans hb.tape,hbl.output.trans hb.output,Dg hb.size hbl.size,fun x hx hn=>(hbl.block x hx).trans (hb.block x hx hn)⟩) ⟨HG.out,BS.refl _ _⟩ (fun k v=> {tmps:= #[.agg #[.bool c,.slice a1 n1 c1,.slice a2 n2 c2],.slice sa n cap,.func (.func g) #[] lb,.pointer (some ⟨p,0,none⟩),undef,.pointer (some ⟨p+1,0,none⟩),.pointer (some ⟨p+1+1,0,none⟩),.pointer (some ⟨pd,0,none⟩),.int .i64 (k:Nat),v,undef,undef,.agg #[.bool c,.slice a1 n1 c1,.slice a2 n2 c2],.int .i64 (Ec c),.slice (some ⟨wA.heap.size,0,none⟩) 1 1,.slice sa n cap,.int .i64 (N:Nat),.slice (some ⟨gd,0,none⟩) N N,.slice sa n cap,.func (.func 228) #[] #[.pointer (some ⟨pd+1,0,none⟩)],.int .i64 (k:Nat),v,undef,undef,undef,undef,undef,undef,undef,undef,undef,undef,undef,undef,undef,undef,undef,undef,undef,undef,undef,undef,undef,undef],defers:= []}) ?assign ?body ?done;case assign=>
  intro l k v A K hK
  gi_wp2
  exact hK
 case body=>
  rintro l k v A hk⟨hb,hbut⟩⟨ib,hlo,rfl,hix⟩hzA;have hA0:Ai A p c (.slice a1 n1 c1) (.slice a2 n2 c2):=(hbut.block p (by omega) (by omega)).trans HY0.out;have hA1:=(hbut.block (p+1) (by omega) (by omega)).trans HY1.out;have hA3:=(hbut.block pd (by omega) (by omega)).trans HY3.out;have hr1:=hbut.row H1W.out (by rintro x rfl h;have:=HPL.out.1 _ h;omega);have hr2:=hbut.row H2W.out (by rintro x rfl h;have:=HPL.out.2.1 _ h;omega);have hBA:Below p w A:=HBW.out.trans (hbut.below (by omega) (by rintro x rfl;omega));have hnA:Fz g lb f zs n1 A:=HNUM.out.low (by rw[<-HP.out];exact hBA);have hF:F0 zs:=FI HSZ.out (by rw[HN.out];omega);obtain⟨r,hr⟩:∃r,BX sh (Cc sh f (BK zs k)) sh.length=r:=⟨_,rfl⟩
  obtain⟨q,hq⟩:∃q,(if r then place sh (Cc sh f (BK zs k))else 0)=q:=⟨_,rfl⟩
  have hpl:=Ks g lb eg f zs (BK zs k) sh a1 n1 c1 ib A hr1 hnA (Ek hF _) (De _ _) hix HS.out r (AD hr) q (AD hq);rw[HZW.out.len]at hpl;obtain⟨ca0,ca1,ca2,_,_,_⟩:=hA0.all;have cn:A.cell? ⟨p+1,0,none⟩=some (.func (.func g) #[] lb):=by simp[World.cell?,hA1]
  have hzp:p+1<A.heap.size:=by omega
  have HPL2:=AD hpl;have HA0:=AD hA0;have HA3:=AD hA3;have HBT:=AD hbut;have HBK:=AD hb;have HR:=AD hr;have HQ:=AD hq;have HR2:=AD hr2;clear hpl hA0 hA1 hA3 hr1 hr2 hBA hnA hF hb hbut hr hq hix;cases r with
  |false=>
   gi_wp2_with (refine⟨trivial,?_⟩;gi_at_call 151;refine(CallsIn.inRound l (callsIn_wide.2 HPL2.out)).mono ?_;rintro e wP⟨rfl,hbP⟩)
   refine⟨?_,?_,?_⟩
   .exact BS.of_below hbP
   .have:=HBK.out.below AC hbP
    rwa [W6 c sh dt f zs N k HR.out]at this
   .exact⟨hbP.os.trans HBT.out.os,hbP.tape.trans HBT.out.tape,hbP.output.trans HBT.out.output,Dg HBT.out.size hbP.size,fun x hx hn=>(hbP.block x (AZ hx HBT.out.size)).trans (HBT.out.block x hx hn)⟩
  |true=>
   have hpb:=Fp (KO HR.out);obtain⟨j,rfl⟩:∃j:Nat,q=(j:Int):=⟨q.toNat,by have:=HQ.out;rw[AI rfl]at this;omega⟩
   have hj:(j:Int)<n2:=by have:=HQ.out;rw[AI rfl]at this;have:=HD.out;omega
   gi_wp2_with (refine⟨trivial,?_⟩;gi_at_call 151;refine(CallsIn.inRound l (callsIn_wide.2 HPL2.out)).mono ?_;rintro e wP⟨rfl,hbP⟩;obtain⟨cb0,cb1,cb2,_,_,_⟩:=(Ai.low HA0.out (by omega) hbP).all;have cd:wP.cell? ⟨pd,0,none⟩=some (.slice (some ⟨gd,0,none⟩) N N):=(by have h3:=(hbP.block pd (by omega)).trans HA3.out;simp[World.cell?,h3]);have HKP:=AD (HBK.out.below AC hbP);have cg:=HKP.out.cell (i:=k) (by rw[W7];exact hk);have cf:=HKP.out.free k;have HRP:=AD (HR2.out.below AC hbP);obtain⟨bd,od,hbd,hbd2,cdt⟩:=HRP.out.get (show j<n2 by omega);cases hbd;have HBP:=AD hbP;clear hbP)
   have hmx:prog.follows .mixedOrders=true:=by kernel_rfl
   clear HPL2 HA0 HA3 ca0 ca1 ca2 cn cb0 cb1;have HFIN:Hid (BS (fun b=>b=gd) A ((wP.setCell ⟨gd,k,none⟩ (.int .i64 (dt.getD j 0))).drew)/\(BA ((wP.setCell ⟨gd,k,none⟩ (.int .i64 (dt.getD j 0))).drew) gd (ES c sh dt f zs N (k+1))/\BS (fun b=>b=gd) W ((wP.setCell ⟨gd,k,none⟩ (.int .i64 (dt.getD j 0))).drew))):=by
    have e1:BS (fun b=>b=gd) A ((wP.setCell ⟨gd,k,none⟩ (.int .i64 (dt.getD j 0))).drew):=((BS.of_below (S:=fun b=>b=gd) HBP.out).setCell (p:=⟨gd,k,none⟩) rfl _).drew;refine⟨e1,?_,(HBT.out.trans e1).mono (by rintro x(h|h)<;>exact h)⟩;have hg:(BP c sh dt f zs k).1=dt.getD j 0:=by rw[Um HR.out];have:=HQ.out;simp only[G3]at this;rw[this];simp
    have e2:=BA.set HKP.out k (dt.getD j 0);rw[Yj c sh dt f zs N k _ hg]at e2;exact e2
   clear HKP HBP HBK HBT HR HQ HRP HR2
   gi_region_with_o (fail)
   all_goals exact HFIN.out
 case done=>
  rintro D A hD⟨hb,hbut⟩hK;have hA0:Ai A p c (.slice a1 n1 c1) (.slice a2 n2 c2):=(hbut.block p (by omega) (by omega)).trans HY0.out;have hA2:Ai A (p+1+1) false (.slice none 0 0) (.slice none 0 0):=(hbut.block (p+1+1) (by omega) (by omega)).trans HY2.out;have hA3:=(hbut.block pd (by omega) (by omega)).trans HY3.out;obtain⟨ca0,ca1,ca2,_,_,_⟩:=hA0.all;obtain⟨cc0,cc1,cc2,cf0,cf1,cf2⟩:=hA2.all;have cd:A.cell? ⟨pd,0,none⟩=some (.slice (some ⟨gd,0,none⟩) N N):=by simp[World.cell?,hA3]
  have HBT:=AD hbut;have HB:=AD hb;have HA2:=AD hA2;clear hb hbut hA0 hA2 hA3
  gi_wp2
  obtain⟨WX,hWX⟩:∃WX,WX=((A.setCell ⟨p+1+1,0,none⟩ (.bool c)).setCell ⟨p+1+1,1,none⟩ (.slice sa n cap)).setCell ⟨p+1+1,2,none⟩ (.slice (some ⟨gd,0,none⟩) N N):=⟨_,rfl⟩
  have hX:Ai WX (p+1+1) c (.slice sa n cap) (.slice (some ⟨gd,0,none⟩) N N):=by rw[hWX];exact HA2.out.sets
  have hbX:BS (fun b=>b=p+1+1) A WX:=by rw[hWX];exact(((BS.refl (fun b=>b=p+1+1) A).setCell (p:=⟨p+1+1,0,none⟩) rfl _).setCell (p:=⟨p+1+1,1,none⟩) rfl _).setCell (p:=⟨p+1+1,2,none⟩) rfl _
  have hlD:D<A.heap.size:=(BW.1 hK).1;have hKX:WX.heap[D]? =some (.deferred (some [])):=(hbX.block D hlD (by omega)).trans hK;have hbD:BS (fun b=>b=D) WX (WX.putObj D (.deferred none)):=BS.putObj (S:=fun b=>b=D) WX rfl _;have hXD:Ai (WX.putObj D (.deferred none)) (p+1+1) c (.slice sa n cap) (.slice (some ⟨gd,0,none⟩) N N):=(World.putObj_heap_other (by omega)).trans hX;obtain⟨x0,x1,x2,_,_,_⟩:=hXD.all;rw[<-hWX];refine⟨by simp,.inl ⟨_,_,rfl,run_takeDeferred hKX,?_⟩⟩;refine⟨.agg #[.bool c,.slice sa n cap,.slice (some ⟨gd,0,none⟩) N N],?_,gd,rfl,by rw[<-HP.out];omega,?_,?_⟩
  .simp[results,Tryz.f59,go_sem,x0,x1,x2]
   done
  .rw[<-XA];exact(hbD.block gd (by have:=hbX.size;have:=HB.out.lt;omega) (by omega)).trans ((hbX.block gd HB.out.lt (by omega)).trans HB.out)
  .have e:=(HBW.out.trans (HBT.out.below (B:=p) (by omega) (by rintro x rfl;omega))).trans ((hbX.trans hbD).below (B:=p) (by have:=HBT.out.size;omega) (by rintro x(rfl|rfl)<;>omega));rw[<-HP.out];exact e
def EG(c:Bool)(a1 a2 sa:Option Addr)(n1 n2 c1 c2 n cap:Nat)(sh dt zs:List Int)(g:Nat)(lb:Array Value)(eg:∀args w,(callFunc g args).run prog w=.ok (.enter g args) w)(f:List Int->Nat->Int)(w:World)(N:Nat)(h1:AO w a1 n1 sh)(h2:AO w a2 n2 dt)(hz:AO w sa n zs)(hs:Aq sh)(hsz:Aq zs)(h5:n<=5)(hN:AM zs=(N:Int))(hd:AM sh=(n2:Int))(Lf:Fz g lb f zs n1 w):Calls prog 59 #[.agg #[.bool c,.slice a1 n1 c1,.slice a2 n2 c2],.slice sa n cap,.func (.func g) #[] lb] w fun e w'=>∃gd,e=.returned (.agg #[.bool c,.slice sa n cap,.slice (some ⟨gd,0,none⟩) N N])/\w.heap.size<=gd/\BA w' gd (Bg (BP c sh dt f zs) N)/\Below w.heap.size w w':=callsIn_wide.1 (Qu c a1 a2 sa n1 n2 c1 c2 n cap sh dt zs g lb eg f w N h1 h2 hz hs hsz h5 hN hd Lf)
end
section
open Go.Shelf
def LT(c d:Bool)(a1 a2 b1 b2:Addr)(n1 n2 m1 m2 c1 c2 d1 d2:Nat)(sh dt:List Int)(fl:Bool)(w:World)(h1:AO w (some a1) n1 sh)(h2:AO w (some a2) n2 dt)(hok:AJ c sh dt=false):Calls prog 17 #[.agg #[.bool c,.slice (some a1) n1 c1,.slice (some a2) n2 c2],.agg #[.bool d,.slice (some b1) m1 d1,.slice (some b2) m2 d2],.bool fl] w (Ag w (AT 3)):=by have HR:=AD hok;have H1:=AD h1;have H2:=AD h2;clear h1 h2 hok;go_enter func17,ntmps17;go_wp2_with(first|(go_at_call_of 51 (Value.slice (some a1) n1 c1);refine(AR _ _ _ _ _ _ _ sh dt _ ((((AA H1).alloc _).alloc _).alloc _) ((((AA H2).alloc _).alloc _).alloc _) _ HR).mono ?_;rintro e w1⟨rfl,hb1⟩;obtain⟨B0,B1,B2,hB1⟩:=Az hb1;have HB0:=AD B0;have HB1:=AD B1;have HB2:=AD B2;have HB:=AD hB1;obtain⟨x0,x1,x2,x3,x4,x5,x6⟩:=B0.all;obtain⟨y0,y1,y2,y3,y4,y5,y6⟩:=B1.all;obtain⟨q0,q1,q2,q3,q4,q5,q6⟩:=B2.all;clear hb1 hB1 B0 B1 B2));refine bodyPost_ret (v:=.tuple #[.agg #[.bool false,.slice none 0 0,.slice none 0 0],.int .i64 3]) (by simp[results,results17,go_sem,q0,q1,q2]) rfl ?_;exact As ((((AA HB).setCell (by simp<;>omega) _).setCell (by simp<;>omega) _).setCell (by simp<;>omega) _)
def LR(c d:Bool)(a1 a2 b1 b2:Addr)(n1 n2 m1 m2 c1 c2 d1 d2:Nat)(sh dt sh' dt':List Int)(fl:Bool)(w:World)(h1:AO w (some a1) n1 sh)(h2:AO w (some a2) n2 dt)(k1:AO w (some b1) m1 sh')(k2:AO w (some b2) m2 dt')(hok:AJ c sh dt=true)(hok':AJ d sh' dt'=false):Calls prog 17 #[.agg #[.bool c,.slice (some a1) n1 c1,.slice (some a2) n2 c2],.agg #[.bool d,.slice (some b1) m1 d1,.slice (some b2) m2 d2],.bool fl] w (Ag w (AT 3)):=by have HR:=AD hok;have HR':=AD hok';have hs2:=h2.small;have hs4:=k2.small;have H1:=AD h1;have H2:=AD h2;have K1:=AD k1;have K2:=AD k2;clear h1 h2 k1 k2 hok hok';go_enter func17,ntmps17;go_wp2_with(first|(go_at_call_of 51 (Value.slice (some a1) n1 c1);refine(AR _ _ _ _ _ _ _ sh dt _ ((((AA H1).alloc _).alloc _).alloc _) ((((AA H2).alloc _).alloc _).alloc _) _ HR).mono ?_;rintro e w1⟨rfl,hb1⟩;obtain⟨B0,B1,B2,hB1⟩:=Az hb1;have HB0:=AD B0;have HB1:=AD B1;have HB2:=AD B2;have HB:=AD hB1;obtain⟨x0,x1,x2,x3,x4,x5,x6⟩:=B0.all;obtain⟨y0,y1,y2,y3,y4,y5,y6⟩:=B1.all;obtain⟨q0,q1,q2,q3,q4,q5,q6⟩:=B2.all;clear hb1 hB1 B0 B1 B2)|(go_at_call_of 51 (Value.slice (some b1) m1 d1);refine(AR _ _ _ _ _ _ _ sh' dt' _ ((AA K1).below AC (AA HB)) ((AA K2).below AC (AA HB)) _ HR').mono ?_;rintro e w2⟨rfl,hb2⟩;have HB0':=AD ((AA HB0).below AC hb2);have HB1':=AD ((AA HB1).below AC hb2);have HB2':=AD ((AA HB2).below AC hb2);have HC:=AD ((AA HB).trans (hb2.mono (by omega)));clear hb2 x0 x1 x2 x3 x4 x5 x6 y0 y1 y2 y3 y4 y5 y6 q0 q1 q2 q3 q4 q5 q6 HB0 HB1 HB2 HB;obtain⟨x0,x1,x2,x3,x4,x5,x6⟩:=(AA HB0').all;obtain⟨y0,y1,y2,y3,y4,y5,y6⟩:=(AA HB1').all;obtain⟨q0,q1,q2,q3,q4,q5,q6⟩:=(AA HB2').all));refine bodyPost_ret (v:=.tuple #[.agg #[.bool false,.slice none 0 0,.slice none 0 0],.int .i64 3]) (by simp[results,results17,go_sem,q0,q1,q2]) rfl ?_;exact As ((((AA HC).setCell (by simp<;>omega) _).setCell (by simp<;>omega) _).setCell (by simp<;>omega) _)
def Me(c d:Bool)(a1 a2 b1 b2:Addr)(n1 n2 m1 m2 c1 c2 d1 d2:Nat)(sh dt sh' dt':List Int)(fl:Bool)(w:World)(h1:AO w (some a1) n1 sh)(h2:AO w (some a2) n2 dt)(k1:AO w (some b1) m1 sh')(k2:AO w (some b2) m2 dt')(hok:AJ c sh dt=true)(hok':AJ d sh' dt'=true)(hne:n2≠1):Calls prog 17 #[.agg #[.bool c,.slice (some a1) n1 c1,.slice (some a2) n2 c2],.agg #[.bool d,.slice (some b1) m1 d1,.slice (some b2) m2 d2],.bool fl] w (Ag w (AT 5)):=by
 have HR:=AD hok;have HR':=AD hok';have hs2:=h2.small;have hs4:=k2.small;have H1:=AD h1;have H2:=AD h2;have K1:=AD k1;have K2:=AD k2;clear h1 h2 k1 k2 hok hok';have q:((n2:Int) !=1)=true:=by simp;omega
 go_enter func17,ntmps17;go_wp2_with(first|(go_at_call_of 51 (Value.slice (some a1) n1 c1);refine(AR _ _ _ _ _ _ _ sh dt _ ((((AA H1).alloc _).alloc _).alloc _) ((((AA H2).alloc _).alloc _).alloc _) _ HR).mono ?_;rintro e w1⟨rfl,hb1⟩;obtain⟨B0,B1,B2,hB1⟩:=Az hb1;have HB0:=AD B0;have HB1:=AD B1;have HB2:=AD B2;have HB:=AD hB1;obtain⟨x0,x1,x2,x3,x4,x5,x6⟩:=B0.all;obtain⟨y0,y1,y2,y3,y4,y5,y6⟩:=B1.all;obtain⟨q0,q1,q2,q3,q4,q5,q6⟩:=B2.all;clear hb1 hB1 B0 B1 B2)|(go_at_call_of 51 (Value.slice (some b1) m1 d1);refine(AR _ _ _ _ _ _ _ sh' dt' _ ((AA K1).below AC (AA HB)) ((AA K2).below AC (AA HB)) _ HR').mono ?_;rintro e w2⟨rfl,hb2⟩;have HB0':=AD ((AA HB0).below AC hb2);have HB1':=AD ((AA HB1).below AC hb2);have HB2':=AD ((AA HB2).below AC hb2);have HC:=AD ((AA HB).trans (hb2.mono (by omega)));clear hb2 x0 x1 x2 x3 x4 x5 x6 y0 y1 y2 y3 y4 y5 y6 q0 q1 q2 q3 q4 q5 q6 HB0 HB1 HB2 HB;obtain⟨x0,x1,x2,x3,x4,x5,x6⟩:=(AA HB0').all;obtain⟨y0,y1,y2,y3,y4,y5,y6⟩:=(AA HB1').all;obtain⟨q0,q1,q2,q3,q4,q5,q6⟩:=(AA HB2').all));refine bodyPost_ret (v:=.tuple #[.agg #[.bool false,.slice none 0 0,.slice none 0 0],.int .i64 5]) (by simp[results,results17,go_sem,q0,q1,q2]) rfl ?_;exact As ((((AA HC).setCell (by simp<;>omega) _).setCell (by simp<;>omega) _).setCell (by simp<;>omega) _)
def Mf(d:Bool)(a1 a2 b1 b2:Addr)(n1 n2 m1 m2 c1 c2 d1 d2:Nat)(sh dt sh' dt':List Int)(fl:Bool)(w:World)(h1:AO w (some a1) n1 sh)(h2:AO w (some a2) n2 dt)(k1:AO w (some b1) m1 sh')(k2:AO w (some b2) m2 dt')(hok:AJ true sh dt=true)(hok':AJ d sh' dt'=true)(hne:n2=1):Calls prog 17 #[.agg #[.bool true,.slice (some a1) n1 c1,.slice (some a2) n2 c2],.agg #[.bool d,.slice (some b1) m1 d1,.slice (some b2) m2 d2],.bool fl] w (Ag w (AT 3)):=by subst hne;have HR:=AD hok;have HR':=AD hok';have hs2:=h2.small;have hs4:=k2.small;have H1:=AD h1;have H2:=AD h2;have K1:=AD k1;have K2:=AD k2;clear h1 h2 k1 k2 hok hok';go_enter func17,ntmps17;go_wp2_with(first|(go_at_call_of 51 (Value.slice (some a1) n1 c1);refine(AR _ _ _ _ _ _ _ sh dt _ ((((AA H1).alloc _).alloc _).alloc _) ((((AA H2).alloc _).alloc _).alloc _) _ HR).mono ?_;rintro e w1⟨rfl,hb1⟩;obtain⟨B0,B1,B2,hB1⟩:=Az hb1;have HB0:=AD B0;have HB1:=AD B1;have HB2:=AD B2;have HB:=AD hB1;obtain⟨x0,x1,x2,x3,x4,x5,x6⟩:=B0.all;obtain⟨y0,y1,y2,y3,y4,y5,y6⟩:=B1.all;obtain⟨q0,q1,q2,q3,q4,q5,q6⟩:=B2.all;clear hb1 hB1 B0 B1 B2)|(go_at_call_of 51 (Value.slice (some b1) m1 d1);refine(AR _ _ _ _ _ _ _ sh' dt' _ ((AA K1).below AC (AA HB)) ((AA K2).below AC (AA HB)) _ HR').mono ?_;rintro e w2⟨rfl,hb2⟩;have HB0':=AD ((AA HB0).below AC hb2);have HB1':=AD ((AA HB1).below AC hb2);have HB2':=AD ((AA HB2).below AC hb2);have HC:=AD ((AA HB).trans (hb2.mono (by omega)));clear hb2 x0 x1 x2 x3 x4 x5 x6 y0 y1 y2 y3 y4 y5 y6 q0 q1 q2 q3 q4 q5 q6 HB0 HB1 HB2 HB;obtain⟨x0,x1,x2,x3,x4,x5,x6⟩:=(AA HB0').all;obtain⟨y0,y1,y2,y3,y4,y5,y6⟩:=(AA HB1').all;obtain⟨q0,q1,q2,q3,q4,q5,q6⟩:=(AA HB2').all));refine bodyPost_ret (v:=.tuple #[.agg #[.bool false,.slice none 0 0,.slice none 0 0],.int .i64 3]) (by simp[results,results17,go_sem,q0,q1,q2]) rfl ?_;exact As ((((AA HC).setCell (by simp<;>omega) _).setCell (by simp<;>omega) _).setCell (by simp<;>omega) _)
def LQ(d:Bool)(a1 a2 b1 b2:Addr)(n1 m1 m2 c1 c2 d1 d2:Nat)(sh dt sh' dt':List Int)(fl:Bool)(w:World)(h1:AO w (some a1) n1 sh)(h2:AO w (some a2) 1 dt)(k1:AO w (some b1) m1 sh')(k2:AO w (some b2) m2 dt')(hok:AJ false sh dt=true)(hok':AJ d sh' dt'=true)(z:Int)(hz:(if fl then 0 else(m1:Int)- 1)=z):Calls prog 17 #[.agg #[.bool false,.slice (some a1) n1 c1,.slice (some a2) 1 c2],.agg #[.bool d,.slice (some b1) m1 d1,.slice (some b2) m2 d2],.bool fl] w (Ag w ⟨d,sh',Bg (BP d sh' dt' (KD sh' z (dt.getD 0 0)) sh') m2,0⟩):=by
 obtain⟨hin,hpr,h5⟩:=AW hok';have hxb:=Bl hok (k:=0) (by rw[h2.len];omega);have hl2:=k2.len;have hl1:=k1.len;rw[hl2]at hpr;rw[hl1]at h5;have HR:=AD hok;have HR':=AD hok';have HZ:Hid ((if fl then 0 else(m1:Int)- 1)=z):=hz;have HZM:Hid (0<m1->0<=z/\z<m1):=fun h=>by rw[<-hz];split<;>omega
 have hs4:=k2.small;have H1:=AD h1;have H2:=AD h2;have K1:=AD k1;have K2:=AD k2;have HIN:=AD hin;have HPR:=AD hpr;have HXB:=AD hxb;clear h1 h2 k1 k2 hok hok' hin hpr hxb hl1 hl2 hz;go_enter func17,ntmps17;go_upto_region 8 with(first|(go_at_call_of 51 (Value.slice (some a1) n1 c1);refine(AR _ _ _ _ _ _ _ sh dt _ ((((AA H1).alloc _).alloc _).alloc _) ((((AA H2).alloc _).alloc _).alloc _) _ HR).mono ?_;rintro e w1⟨rfl,hb1⟩;obtain⟨B0,B1,B2,hB1⟩:=Az hb1;have HB0:=AD B0;have HB1:=AD B1;have HB2:=AD B2;have HB:=AD hB1;obtain⟨x0,x1,x2,x3,x4,x5,x6⟩:=B0.all;obtain⟨y0,y1,y2,y3,y4,y5,y6⟩:=B1.all;obtain⟨q0,q1,q2,q3,q4,q5,q6⟩:=B2.all;clear hb1 hB1 B0 B1 B2)|(go_at_call_of 51 (Value.slice (some b1) m1 d1);refine(AR _ _ _ _ _ _ _ sh' dt' _ ((AA K1).below AC (AA HB)) ((AA K2).below AC (AA HB)) _ HR').mono ?_;rintro e w2⟨rfl,hb2⟩;have HB0':=AD ((AA HB0).below AC hb2);have HB1':=AD ((AA HB1).below AC hb2);have HB2':=AD ((AA HB2).below AC hb2);have HC:=AD ((AA HB).trans (hb2.mono (by omega)));clear hb2 x0 x1 x2 x3 x4 x5 x6 y0 y1 y2 y3 y4 y5 y6 q0 q1 q2 q3 q4 q5 q6 HB0 HB1 HB2 HB;obtain⟨x0,x1,x2,x3,x4,x5,x6⟩:=(AA HB0').all;obtain⟨y0,y1,y2,y3,y4,y5,y6⟩:=(AA HB1').all;obtain⟨q0,q1,q2,q3,q4,q5,q6⟩:=(AA HB2').all)|(go_at_call 62;refine(S8 _ m1 d1 fl _ (by omega) z HZ).mono ?_;rintro e w'⟨rfl,hw⟩;obtain rfl:=hw.symm));obtain⟨pt,hpt⟩:∃pt,pt=w2.heap.size:=⟨_,rfl⟩
 obtain⟨bx,hbx⟩:∃bx,bx=w.heap.size+1+1:=⟨_,rfl⟩
 obtain⟨wz,hwz⟩:∃wz,wz=w2.alloc (.cells #[.int .i64 z] 3):=⟨_,rfl⟩
 have hzz:pt<wz.heap.size:=by rw[hwz,hpt];simp
 have hzb:bx<pt:=by rw[hbx,hpt];exact q6
 have HZ0:Hid (Ai wz w.heap.size false (.slice (some a1) n1 c1) (.slice (some a2) 1 c2)):=by rw[hwz];exact(AA HB0').alloc _
 have HZ1:Hid (Ai wz (w.heap.size+1) d (.slice (some b1) m1 d1) (.slice (some b2) m2 d2)):=by rw[hwz];exact(AA HB1').alloc _
 have HZ2:Hid (Ai wz bx false (.slice none 0 0) (.slice none 0 0)):=by rw[hwz,hbx];exact(AA HB2').alloc _
 have HZT:Hid (wz.cell? ⟨pt,0,none⟩=some (.int .i64 z)):=by have h3:=World.alloc_heap_new w2 (.cells #[.int .i64 z] 3);rw[<-hwz,<-hpt]at h3;show _=_;simp[World.cell?,h3]
 have HBZ:Hid (Below w.heap.size w wz):=by rw[hwz];exact(AA HC).alloc (by omega) _
 rw[<-hwz,<-hpt,<-hbx];clear hwz hpt HB0' HB1' HB2' HC x0 x1 x2 x3 x4 x5 x6 y0 y1 y2 y3 y4 y5 y6 q0 q1 q2 q3 q4 q5 q6 HR HR';have K1Z:=AD ((AA K1).below AC (AA HBZ));have K2Z:=AD ((AA K2).below AC (AA HBZ));have H2Z:=AD ((AA H2).below AC (AA HBZ));clear H1 H2 K1 K2;go_cut[7] (fun v wx=>v=.int .i64 0/\I3 w d sh' (Bg (BP d sh' dt' (KD sh' z (dt.getD 0 0)) sh') m2) m1 m2 bx wx);case first=>
  have HKEEP:∀wx,BS (fun k=>k=bx) wz wx->wx.cell? ⟨w.heap.size+1,0,none⟩=some (.bool d)/\wx.cell? ⟨w.heap.size+1,1,none⟩=some (.slice (some b1) m1 d1)/\wx.cell? ⟨w.heap.size+1,2,none⟩=some (.slice (some b2) m2 d2)/\wx.cell? ⟨pt,0,none⟩=some (.int .i64 z):=fun wx hwx=>by obtain⟨y0,y1,y2,_,_,_⟩:=(AA HZ1).all;exact⟨(hwx.cellAt (by omega) (by omega)).trans y0,(hwx.cellAt (by omega) (by omega)).trans y1,(hwx.cellAt (by omega) (by omega)).trans y2,(hwx.cellAt (by omega) (by omega)).trans (AA HZT)⟩
  obtain⟨y0,y1,y2,y3⟩:=HKEEP _ (BS.refl _ _);obtain⟨r0,r1,r2,r3,r4,r5,r6⟩:=(AA HZ2).all;have hwb:w.heap.size+1<bx:=by omega
  clear hbx
  go_region_held3 (fun wx=>wx.cell? ⟨w.heap.size+1,0,none⟩=some (.bool d)/\wx.cell? ⟨w.heap.size+1,1,none⟩=some (.slice (some b1) m1 d1)/\wx.cell? ⟨w.heap.size+1,2,none⟩=some (.slice (some b2) m2 d2)/\wx.cell? ⟨pt,0,none⟩=some (.int .i64 z)) (first|exact HKEEP _ ((((BS.of_below (S:=fun k=>k=bx) (AA HKG)).setCell (p:=⟨bx,0,none⟩) rfl _).setCell (p:=⟨bx,1,none⟩) rfl _).setCell (p:=⟨bx,2,none⟩) rfl _)|exact HKEEP _ (BS.of_below (AA HKG))|exact HKEEP _ (BS.of_below (AA HKB))|exact HKEEP _ (BS.of_below (AA HKC))|exact HKEEP _ (BS.of_below (AA HKO))|exact HKEEP _ (BS.refl _ _).drew) (first
   |(go_at_call 63;(first|(have hP:=AA HKO)|(have hP:Below wz.heap.size wz wz.drew:=(AN _ wz).drew));refine(Fo b1 m1 d1 sh' _ ((AA K1Z).below AC hP)).mono ?_;rintro e wC⟨ash,csh,rfl,hcap,hO,hbC⟩;have HKC:Hid (Below wz.heap.size wz wC):=hP.trans (hbC.mono hP.size);have HKB:=HKC;have HO:=AD (hO.mono hP.size);have HOH:Hid (∀x,At ash m1 x->x<wC.heap.size):=(fun x hx=>hO.row.hi hx);(first|(have HA2:Hid (wC.cell? ⟨wz.heap.size,0,none⟩=some (.int .i64 z)/\wC.cell? ⟨wz.heap.size+1,0,none⟩=some (.func (.func 65) #[] #[.pointer (some ⟨w.heap.size,0,none⟩),.pointer (some ⟨w.heap.size+1,0,none⟩),.pointer (some ⟨pt,0,none⟩)])):=⟨(hbC.cell (p:=⟨wz.heap.size,0,none⟩) (AU _ _ (AA HA1).1)).trans (AA HA1).1,(hbC.cell (p:=⟨wz.heap.size+1,0,none⟩) (AU _ _ (AA HA1).2)).trans (AA HA1).2⟩)|skip);clear hcap hO hbC r0 r1 r2 r3 r4 r5 r6 y0 y1 y2 y3;obtain⟨y0,y1,y2,y3⟩:=HKEEP _ (BS.of_below (AA HKC));obtain⟨r0,r1,r2,r3,r4,r5,r6⟩:=((AA HZ2).below AC (AA HKC)).all)
   |(go_at_call 64;refine(R5 z _ _ 65 #[.pointer (some ⟨w.heap.size,0,none⟩),.pointer (some ⟨w.heap.size+1,0,none⟩),.pointer (some ⟨pt,0,none⟩)] rfl).mono ?_;rintro e wO⟨rfl,hwO⟩;(first|(have HKB:Hid (Below wz.heap.size wz wO):=(by rw[hwO];exact(((AA HKC).alloc (AA HKC).size _).alloc (by have:=(AA HKC).size;simp;omega) _));have HA2:Hid (wO.cell? ⟨wC.heap.size,0,none⟩=some (.int .i64 z)/\wO.cell? ⟨wC.heap.size+1,0,none⟩=some (.func (.func 65) #[] #[.pointer (some ⟨w.heap.size,0,none⟩),.pointer (some ⟨w.heap.size+1,0,none⟩),.pointer (some ⟨pt,0,none⟩)])):=(by rw[hwO];exact Lx wC _ _);have HO:=AD (show Bt wO wz.heap.size ash m1 sh' by rw[hwO];exact((AA HO).alloc _).alloc _);have HOH:Hid (∀x,At ash m1 x->x<wO.heap.size):=(fun x hx=>by have:=AA HOH x hx;rw[hwO];simp;omega))|(have HKO:Hid (Below wz.heap.size wz wO):=(by rw[hwO];exact(((AN _ wz).drew.alloc AC _).alloc (by simp) _));have HA1:Hid (wO.cell? ⟨wz.heap.size,0,none⟩=some (.int .i64 z)/\wO.cell? ⟨wz.heap.size+1,0,none⟩=some (.func (.func 65) #[] #[.pointer (some ⟨w.heap.size,0,none⟩),.pointer (some ⟨w.heap.size+1,0,none⟩),.pointer (some ⟨pt,0,none⟩)])):=(by rw[hwO];exact Lx wz.drew _ _);have HKB:=HKO));clear hwO r0 r1 r2 r3 r4 r5 r6 y0 y1 y2 y3;obtain⟨y0,y1,y2,y3⟩:=HKEEP _ (BS.of_below (AA HKB));obtain⟨r0,r1,r2,r3,r4,r5,r6⟩:=((AA HZ2).below AC (AA HKB)).all)
   |(go_at_call 59;refine(EG d (some b1) (some b2) ash m1 m2 d1 d2 m1 csh sh' dt' sh' 152 _ OZ (KD sh' z (dt.getD 0 0)) _ m2 ((AA K1Z).below AC (AA HKB)) ((AA K2Z).below AC (AA HKB)) (AA HO).row (AA HIN) (AA HIN) h5 (AA HPR) (AA HPR) (ZU _ _ pt w.heap.size (w.heap.size+1) z _ false d _ _ (some a2) (some b1) c2 m1 d1 sh' dt _ (AA HA2).1 (AA HA2).2 (((AA HKB).cell (p:=⟨pt,0,none⟩) hzz).trans (AA HZT)) (AA HZM) ((AA HZ0).below AC (AA HKB)) ((AA HZ1).below AC (AA HKB)) ((AA H2Z).below AC (AA HKB)) rfl (AA HXB) ((AA K1Z).below AC (AA HKB)) (AA HIN))).mono ?_;rintro e wG⟨gd,rfl,hgd,hBG,hbG⟩;have HKG:Hid (Below wz.heap.size wz wG):=(AA HKB).trans (hbG.mono (AA HKB).size);have HBG:=AD hBG;have HGD:=AD hgd;have HOG:=AD ((AA HO).below AC hbG);have HKS:=AD ((AA HKB).size);clear hgd hBG hbG r0 r1 r2 r3 r4 r5 r6 y0 y1 y2 y3;obtain⟨y0,y1,y2,y3⟩:=HKEEP _ (BS.of_below (AA HKG));obtain⟨r0,r1,r2,r3,r4,r5,r6⟩:=((AA HZ2).below AC (AA HKG)).all))
  all_goals go_wp2_with fail
  all_goals(go_meet;case rel=>exact⟨rfl,I3.set ((AA HZ2).below AC (AA HKG)) ((AA HOG).mono (by have:=(AA HBZ).size;omega)) (by have:=AA HGD;have:=AA HKS;omega) (AA HBG) (fun h=>by have:=AA HOH _ h;have:=AA HGD;omega) ((AA HBZ).trans ((AA HKG).mono (AA HBZ).size)) (fun h=>by have:=(AA HO).low h;omega) (by have:=AA HGD;have:=AA HKS;omega) (by omega)⟩)
 case rest=>
  obtain⟨w3,hw3⟩:∃x,x=wc:=⟨_,rfl⟩
  subst hw3;obtain⟨rfl,ash,csh,gd,hb,hO,hgd,hB,hne,hbl⟩:=hcut;obtain⟨q0,q1,q2,q3,q4,q5,q6⟩:=hb.all;clear hb;go_wp2_with fail;refine bodyPost_ret (v:=.tuple #[.agg #[.bool d,.slice ash m1 csh,.slice (some ⟨gd,0,none⟩) m2 m2],.int .i64 0]) (by simp[results,results17,go_sem,q0,q1,q2]) rfl ?_;exact Ej (by simp[Bg]) hs4 hO hgd hB hne hbl
end
def JC(sh:List Int)(fl:Bool):Int:=if fl then 0 else(sh.length:Int)- 1
def Vk{c d:Bool}{sh dt sh' dt':List Int}{fl:Bool}(h1:AJ c sh dt=true)(h2:AJ d sh' dt'=true)(h:CQ c dt.length=0):CT c d sh dt sh' dt' fl=⟨d,sh',Bg (BP d sh' dt' (KD sh' (JC sh' fl) (dt.getD 0 0)) sh') dt'.length,0⟩:=by
 obtain⟨hin,hpr,_⟩:=AW h2;by_cases hs:sh'= []
 .subst hs;rw[GG h1 h2 h (.inl rfl)];have hl:dt'.length=1:=by simp[AM]at hpr;omega
  obtain⟨x,rfl⟩:=List.length_eq_one_iff.1 hl;simp[Bg,BP,BX,place,BO]
 .by_cases hd:dt'= []
  .subst hd;rw[GG h1 h2 h (.inr rfl)];simp[Bg]
  .have hpos:0<dt'.length:=CF.mpr hd;have hf:F0 sh':=FI hin (by rw[hpr];omega);have hl:0<sh'.length:=CF.mpr hs;have hat:CO sh' fl<sh'.length:=by unfold CO;split<;>omega
   have hz:JC sh' fl=(CO sh' fl:Nat):=by unfold JC CO;cases fl<;>simp;omega
   have hn0:=hf _ hat;have hA0:=(hin.drop (CO sh' fl+1)).bd.1;obtain⟨n,hn⟩:∃n:Nat,EP sh' fl=n:=⟨(EP sh' fl).toNat,by unfold EP;omega⟩
   obtain⟨A,hA⟩:∃A:Nat,Ev sh' fl=A:=⟨(Ev sh' fl).toNat,by unfold Ev;omega⟩
   have hnp:0<n:=by unfold EP at hn;omega
   have hm:=OR hnp (dt.getD 0 0);obtain⟨e,he⟩:∃e:Nat,Bk n (dt.getD 0 0)=e:=⟨(Bk n (dt.getD 0 0)).toNat,by omega⟩
   rw[OG h1 h2 h hs hd n A e hn hA he,hz];congr 1;exact T5 fun t ht=>by rw[Rr hf hat t (by rw[hpr];omega) n A e hn hA he]
def Mg(c d:Bool)(a1 a2 b1 b2:Addr)(n1 n2 m1 m2 c1 c2 d1 d2:Nat)(sh dt sh' dt':List Int)(fl:Bool)(w:World)(h1:AO w (some a1) n1 sh)(h2:AO w (some a2) n2 dt)(k1:AO w (some b1) m1 sh')(k2:AO w (some b2) m2 dt'):Calls prog 17 #[.agg #[.bool c,.slice (some a1) n1 c1,.slice (some a2) n2 c2],.agg #[.bool d,.slice (some b1) m1 d1,.slice (some b2) m2 d2],.bool fl] w (Ag w (CT c d sh dt sh' dt' fl)):=by
 cases hok:AJ c sh dt with
 |false=>rw[Km hok];exact LT c d a1 a2 b1 b2 n1 n2 m1 m2 c1 c2 d1 d2 sh dt fl w h1 h2 hok
 |true=>
  cases hok':AJ d sh' dt' with
  |false=>rw[Kl hok'];exact LR c d a1 a2 b1 b2 n1 n2 m1 m2 c1 c2 d1 d2 sh dt sh' dt' fl w h1 h2 k1 k2 hok hok'
  |true=>
   by_cases hn:n2=1
   .cases c with
    |true=>rw[Hq hok hok' 3 (by rw[h2.len,hn];rfl) (by omega)];exact Mf d a1 a2 b1 b2 n1 n2 m1 m2 c1 c2 d1 d2 sh dt sh' dt' fl w h1 h2 k1 k2 hok hok' hn
    |false=>
     subst hn;rw[Vk hok hok' (by rw[h2.len];rfl),k2.len];exact LQ d a1 a2 b1 b2 n1 m1 m2 c1 c2 d1 d2 sh dt sh' dt' fl w h1 h2 k1 k2 hok hok' _ (by unfold JC;rw[k1.len])
   .rw[Hq hok hok' 5 (by rw[h2.len];unfold CQ;rw[AI hn]) (by omega)];exact Me c d a1 a2 b1 b2 n1 n2 m1 m2 c1 c2 d1 d2 sh dt sh' dt' fl w h1 h2 k1 k2 hok hok' hn
section
open Go.Shelf
namespace Cuttaking
def FC(w:World)(p:Nat)(c:Bool)(v1 v2:Value)(hp:p=w.heap.size):Ai (w.alloc (.cells #[.bool c,v1,v2] 25)) p c v1 v2:=by subst hp;exact Ai.new w c v1 v2
def Vd{w:World}{p:Nat}{c:Bool}{v1 v2:Value}(h:Ai w p c v1 v2)(v:Value):Ai (w.setCell ⟨p,1,none⟩ v) p c v v2:=by unfold Ai at h ⊢;rw[Bj w p 1 _ _ _ h];simp
def code(c d:Bool)(a1 a2 b1 b2:Option Addr)(n1 n2 m1 m2 c1 c2 d1 d2:Nat)(sh dt sh' dt':List Int)(w:World)(h1:AO w a1 n1 sh)(h2:AO w a2 n2 dt)(k1:AO w b1 m1 sh')(k2:AO w b2 m2 dt')(r:Int)(hrc:Ap c d sh dt sh' dt'=r)(hr:r≠0):Calls prog 93 #[.agg #[],.agg #[.bool c,.slice a1 n1 c1,.slice a2 n2 c2],.agg #[.bool d,.slice b1 m1 d1,.slice b2 m2 d2]] w (Dm w (AT r)):=by
 have q:(r !=0)=true:=by simp[hr]
 have HCN:=AD hr;clear hr;obtain⟨W0,hW0⟩:∃W0,W0=(((w.alloc (.cells #[] 115)).alloc (.cells #[.bool c,.slice a1 n1 c1,.slice a2 n2 c2] 25)).alloc (.cells #[.bool d,.slice b1 m1 d1,.slice b2 m2 d2] 25)).alloc (.cells #[.bool false,.slice none 0 0,.slice none 0 0] 25):=⟨_,rfl⟩
 have hz0:w.heap.size+4<=W0.heap.size:=by rw[hW0];simp
 have HB0:Hid (Below w.heap.size w W0):=by rw[hW0];exact((((AN _ w).alloc AC _).alloc (by simp) _).alloc (by simp;omega) _).alloc (by simp;omega) _
 have HXH:Hid (W0.heap[w.heap.size]? =some (.cells #[] 115 (0,0))):=by rw[hW0];exact(Ab _ _ _ (by simp;omega)).trans ((Ab _ _ _ (by simp;omega)).trans ((Ab _ _ _ (by simp)).trans (World.alloc_heap_new w _)))
 have HX0:Hid (Ai W0 (w.heap.size+1) c (.slice a1 n1 c1) (.slice a2 n2 c2)):=by rw[hW0];exact((FC _ _ _ _ _ (by simp)).alloc _).alloc _
 have HX1:Hid (Ai W0 (w.heap.size+1+1) d (.slice b1 m1 d1) (.slice b2 m2 d2)):=by rw[hW0];exact(FC _ _ _ _ _ (by simp)).alloc _
 have HX2:Hid (Ai W0 (w.heap.size+1+1+1) false (.slice none 0 0) (.slice none 0 0)):=by rw[hW0];exact FC _ _ _ _ _ (by simp)
 have H1:=AD (h1.below AC HB0.out);have H2:=AD (h2.below AC HB0.out);have K1:=AD (k1.below AC HB0.out);have K2:=AD (k2.below AC HB0.out);have HP2:Hid (∀k,At a2 n2 k->k<w.heap.size):=fun k h=>h2.hi h;have HP4:Hid (∀k,At b2 m2 k->k<w.heap.size):=fun k h=>k2.hi h;have hs2:=h2.small;have hs4:=k2.small;have hs3:=k1.small;have HW0:=AD hW0;have HRC:=AD hrc;clear h1 h2 k1 k2 hrc hW0;go_enter func93,ntmps93;go_wp2_with(first|(go_at_call 57;rw[<-HW0.out];refine(Ao c d a1 a2 b1 b2 n1 n2 m1 m2 c1 c2 d1 d2 sh dt sh' dt' _ H1.out H2.out K1.out K2.out _ HRC).mono ?_;rintro e w1⟨rfl,hb1⟩;have HE1:=AD hb1;clear hb1;obtain⟨x0,x1,x2,x3,x4,x5,x6⟩:=(HX0.out.below AC HE1.out).all;obtain⟨y0,y1,y2,y3,y4,y5,y6⟩:=(HX1.out.below AC HE1.out).all;obtain⟨q0,q1,q2,q3,q4,q5,q6⟩:=(HX2.out.below AC HE1.out).all));refine bodyPost_ret (v:=.tuple #[.agg #[.bool false,.slice none 0 0,.slice none 0 0],.int .i64 r]) (by simp[results,results93,go_sem,q0,q1,q2]) rfl ?_;exact Gf HCN.out ((((HB0.out.trans (HE1.out.mono (by omega))).setCell (by simp<;>omega) _).setCell (by simp<;>omega) _).setCell (by simp<;>omega) _)
def rest(c d:Bool)(a1 a2 b1 b2:Option Addr)(n1 n2 m1 m2 c1 c2 d1 d2:Nat)(sh dt sh' dt':List Int)(w:World)(h1:AO w a1 n1 sh)(h2:AO w a2 n2 dt)(k1:AO w b1 m1 sh')(k2:AO w b2 m2 dt')(hrc:Ap c d sh dt sh' dt'=0)(hok:AJ c sh dt=true)(hok':AJ d sh' dt'=true)(bs:List Int)(hbs:bs=Al n2 sh')(R:Ic)(hR5:bs.length≠n2->R=AT 5)(hR7:bs.length=n2->Am (Cs Ce dt bs n2)=false->R=AT 7)(hRG:bs.length=n2->Am (Cs Ce dt bs n2)=true->R=⟨d,Cs Ce dt bs n2,Bg (BP d bs dt' (IG (Cs Dl dt bs n2)) (Cs Ce dt bs n2)) (Ac (Cs Ce dt bs n2)).toNat,0⟩):Calls prog 93 #[.agg #[],.agg #[.bool c,.slice a1 n1 c1,.slice a2 n2 c2],.agg #[.bool d,.slice b1 m1 d1,.slice b2 m2 d2]] w (Dm w R):=by
 have HR5:Hid (bs.length≠n2->R=AT 5):=hR5;have HR7:Hid (bs.length=n2->Am (Cs Ce dt bs n2)=false->R=AT 7):=hR7;have HRG:Hid (bs.length=n2->Am (Cs Ce dt bs n2)=true->R=⟨d,Cs Ce dt bs n2,Bg (BP d bs dt' (IG (Cs Dl dt bs n2)) (Cs Ce dt bs n2)) (Ac (Cs Ce dt bs n2)).toNat,0⟩):=hRG;clear hR5 hR7 hRG;have hl1:=k1.len;have HPB:Hid (AM bs=(m2:Int)):=by
  obtain⟨_,hpr,_⟩:=AW hok';rw[k2.len]at hpr;rw[hbs];unfold Al;split
  .rename_i e;rw[e]at hpr;rw[(IU n2).2];exact hpr
  .exact hpr
 have HSI:Hid (Aq bs):=by rw[hbs];unfold Al;split;exact(IU n2).1;exact(AW hok').1
 have hn2:n2<=10000:=by obtain⟨hin,hp,_⟩:=AW hok;have:=hin.bd;rw[hp,h2.len]at this;omega
 obtain⟨W0,hW0⟩:∃W0,W0=(((w.alloc (.cells #[] 115)).alloc (.cells #[.bool c,.slice a1 n1 c1,.slice a2 n2 c2] 25)).alloc (.cells #[.bool d,.slice b1 m1 d1,.slice b2 m2 d2] 25)).alloc (.cells #[.bool false,.slice none 0 0,.slice none 0 0] 25):=⟨_,rfl⟩
 have hz0:w.heap.size+4<=W0.heap.size:=by rw[hW0];simp
 have HB0:Hid (Below w.heap.size w W0):=by rw[hW0];exact((((AN _ w).alloc AC _).alloc (by simp) _).alloc (by simp;omega) _).alloc (by simp;omega) _
 have HXH:Hid (W0.heap[w.heap.size]? =some (.cells #[] 115 (0,0))):=by rw[hW0];exact(Ab _ _ _ (by simp;omega)).trans ((Ab _ _ _ (by simp;omega)).trans ((Ab _ _ _ (by simp)).trans (World.alloc_heap_new w _)))
 have HX0:Hid (Ai W0 (w.heap.size+1) c (.slice a1 n1 c1) (.slice a2 n2 c2)):=by rw[hW0];exact((FC _ _ _ _ _ (by simp)).alloc _).alloc _
 have HX1:Hid (Ai W0 (w.heap.size+1+1) d (.slice b1 m1 d1) (.slice b2 m2 d2)):=by rw[hW0];exact(FC _ _ _ _ _ (by simp)).alloc _
 have HX2:Hid (Ai W0 (w.heap.size+1+1+1) false (.slice none 0 0) (.slice none 0 0)):=by rw[hW0];exact FC _ _ _ _ _ (by simp)
 have H1:=AD (h1.below AC HB0.out);have H2:=AD (h2.below AC HB0.out);have K1:=AD (k1.below AC HB0.out);have K2:=AD (k2.below AC HB0.out);have HP2:Hid (∀k,At a2 n2 k->k<w.heap.size):=fun k h=>h2.hi h;have HP4:Hid (∀k,At b2 m2 k->k<w.heap.size):=fun k h=>k2.hi h;have hs2:=h2.small;have hs4:=k2.small;have hs3:=k1.small;have HW0:=AD hW0;have HRC:=AD hrc;clear h1 h2 k1 k2 hrc hW0;go_enter func93,ntmps93
 go_upto_if 21 with(first|(go_at_call 57;rw[<-HW0.out];refine(Ao c d a1 a2 b1 b2 n1 n2 m1 m2 c1 c2 d1 d2 sh dt sh' dt' _ H1.out H2.out K1.out K2.out _ HRC).mono ?_;rintro e w1⟨rfl,hb1⟩;have HE1:=AD hb1;clear hb1;obtain⟨x0,x1,x2,x3,x4,x5,x6⟩:=(HX0.out.below AC HE1.out).all;obtain⟨y0,y1,y2,y3,y4,y5,y6⟩:=(HX1.out.below AC HE1.out).all;obtain⟨q0,q1,q2,q3,q4,q5,q6⟩:=(HX2.out.below AC HE1.out).all))
 obtain⟨L,hL⟩:∃L,L=bs.length:=⟨_,rfl⟩
 go_cut[] (fun wx=>∃sa ca,Ai wx (w.heap.size+1+1) d (.slice sa L ca) (.slice b2 m2 d2)/\AO wx sa L bs/\BS (fun k=>k=w.heap.size+1+1) w1 wx);case first=>
  by_cases hm0:m1=0
  .have hb2:bs=List.replicate n2 1:=by rw[hbs];unfold Al;rw[AI (Af.1 (by rw[hl1];exact hm0))]
   have hL2:L=n2:=by rw[hL,hb2];simp
   have hq:((m1:Int)==0)=true:=by simp[hm0]
   have HB2:=AD hb2;have HL2:=AD hL2;clear hb2 hL2 hL hbs hm0;go_wp2_with(go_at_call 148;refine(Fx ⟨w1.heap.size,0,none⟩ _ n2 1 _ (AO.one w1 1) hn2).mono ?_;rintro e wR⟨rfl,hR1,hR2⟩;have HR1:=AD hR1;have HR2:=AD (((AN _ w1).alloc AC _).trans (hR2.mono (by simp)));clear hR1 hR2 y0 y1 y2 y3 y4 y5;obtain⟨y0,y1,y2,y3,y4,y5,y7⟩:=((HX1.out.below AC HE1.out).below AC HR2.out).all)
   go_meet
   case rel=>
    have hbox:=(HX1.out.below AC HE1.out).below AC HR2.out;refine⟨some ⟨w1.heap.size+1,0,none⟩,n2,?_,?_,?_⟩
    .rw[HL2.out];exact Vd hbox _
    .rw[HL2.out,HB2.out];have h3:=HR1.out;rw[World.size_alloc]at h3;exact(h3.other (p:=⟨w.heap.size+1+1,1,none⟩) (by have:=HE1.out.size;show w1.heap.size+1≠w.heap.size+1+1;omega) _).row (by simp) (by omega)
    .exact(BS.of_below (S:=fun k=>k=w.heap.size+1+1) HR2.out).setCell (p:=⟨w.heap.size+1+1,1,none⟩) rfl _
  .have hb2:bs=sh':=by rw[hbs];unfold Al;rw[AH (fun e=>hm0 (by rw[<-hl1,e];rfl))]
   have hL2:L=m1:=by rw[hL,hb2,hl1]
   have hq:((m1:Int)==0)=false:=by simp[hm0]
   have HB2:=AD hb2;have HL2:=AD hL2;clear hb2 hL2 hL hbs hm0;go_wp2_with fail
   go_meet
   case rel=>exact⟨b1,d1,by rw[HL2.out];exact HX1.out.below AC HE1.out,by rw[HL2.out,HB2.out];exact K1.out.below AC HE1.out,BS.refl _ _⟩
 case rest=>
  obtain⟨w2,hw2⟩:∃x,x=wc:=⟨_,rfl⟩
  subst hw2;obtain⟨sa,ca,hbox,E2,hbut⟩:=hcut;clear x0 x1 x2 x3 x4 x5 x6 y0 y1 y2 y3 y4 y5 y6 q0 q1 q2 q3 q4 q5 q6;have hz1:=HE1.out.size;have hz2:=hbut.size;have hb2:BS (fun k=>k=w.heap.size+1+1) W0 w2:=((BS.of_below (S:=fun k=>k=w.heap.size+1+1) HE1.out).trans hbut).mono (by rintro k(h|h)<;>exact h);have HY0:Hid (Ai w2 (w.heap.size+1) c (.slice a1 n1 c1) (.slice a2 n2 c2)):=(hb2.block _ (by omega) (by omega)).trans HX0.out;have HY2:Hid (Ai w2 (w.heap.size+1+1+1) false (.slice none 0 0) (.slice none 0 0)):=(hb2.block _ (by omega) (by omega)).trans HX2.out;have HYH:Hid (w2.heap[w.heap.size]? =some (.cells #[] 115 (0,0))):=(hb2.block _ (by omega) (by omega)).trans HXH.out;have HB2:Hid (Below w.heap.size w w2):=HB0.out.trans (hb2.below (by omega) (by rintro k rfl;omega));have H22:=AD (hb2.row H2.out (by rintro k rfl h;have:=HP2.out _ h;omega));have K22:=AD (hb2.row K2.out (by rintro k rfl h;have:=HP4.out _ h;omega));have hzz:w.heap.size+4<=w2.heap.size:=by omega
  have HY1:=AD hbox;have HROW:=AD E2;obtain⟨bx,hbx⟩:∃bx,bx=w.heap.size+1+1+1:=⟨_,rfl⟩
  rw[<-hbx]at HY2 ⊢;have hwb:w.heap.size+1+1<bx:=by omega
  have hbz:bx<w2.heap.size:=by omega
  have hbxl:bx=w.heap.size+3:=by omega
  have HBXL:=AD hbxl;obtain⟨x0,x1,x2,x3,x4,x5,x6⟩:=HY0.out.all;obtain⟨y0,y1,y2,y3,y4,y5,y6⟩:=HY1.out.all;obtain⟨q0,q1,q2,q3,q4,q5,q6⟩:=HY2.out.all;have hsL:=E2.small;have HLEN:=AD E2.len;clear hbxl hbx hbox E2 hbut hb2 HX0 HX1 HX2 HXH HB0 HE1 H1 H2 K1 K2 HW0 HP2 HP4 HRC hz0 hz1 hz2 hbs hL hl1;by_cases hne:L=n2
  .subst hne;clear HR5;have HDB:Hid (∀k,k<L→-1000000000000000<=dt.getD k 0/\dt.getD k 0<=1000000000000000):=fun k hk=>Bl hok (by rw[H22.out.len];exact hk);have HSB:Hid (∀k,0<=bs.getD k 0/\bs.getD k 0<=10000):=fun k=>HSI.out.cell k;have hyh:=HYH.out;go_upto_region 9 with(go_at_call 165;refine(Spanstaking.cy a2 sa L c2 ca dt bs _ H22.out HROW.out hn2 HDB.out HSB.out).mono ?_;rintro e wS⟨gf,gs,rfl,hf,hs,bgf,bgs,nfs,hbl⟩;have HFS:=AD hf;have HGSS:=AD hs;have HBS:=AD hbl;have HB1:=AD bgf;have HB3:=AD bgs;have HNF:=AD nfs;clear hf hs hbl bgf bgs nfs);have bgf:=HB1.out;have bgs:=HB3.out;have nfs:=HNF.out;obtain⟨pf,hpf⟩:∃p,p=wS.heap.size:=⟨_,rfl⟩
   obtain⟨w3,hw3⟩:∃W,W=wS.alloc (.cells #[.slice (some ⟨gf,0,none⟩) L L] 23):=⟨_,rfl⟩
   have HPFR:Hid (w3.heap[pf]? =some (.cells #[.slice (some ⟨gf,0,none⟩) L L] 23 (0,0))):=by rw[hw3,hpf];exact World.alloc_heap_new wS _
   have HFF:Hid (BA w3 gf (Cs Dl dt bs L)):=by rw[hw3];exact HFS.out.alloc _
   have HGG:Hid (BA w3 gs (Cs Ce dt bs L)):=by rw[hw3];exact HGSS.out.alloc _
   have HBW:Hid (Below w2.heap.size w2 w3):=by rw[hw3];exact HBS.out.alloc HBS.out.size _
   have hzr:=HBW.out.size;rw[<-hw3,<-hpf];clear hw3 hpf HFS HGSS HBS HB1 HB3 HNF hyh x0 x1 x2 x3 x4 x5 x6 y0 y1 y2 y3 y4 y5 y6 q0 q1 q2 q3 q4 q5 q6;obtain⟨zz,hzz'⟩:∃zz,zz=Cs Ce dt bs L:=⟨_,rfl⟩
   obtain⟨ss,hss⟩:∃ss,ss=Cs Dl dt bs L:=⟨_,rfl⟩
   have HG:Hid (BA w3 gs zz):=by rw[hzz'];exact HGG.out
   have HF:Hid (BA w3 gf ss):=by rw[hss];exact HFF.out
   have HZL:Hid (zz.length=L):=by rw[hzz'];exact Jd _ _ _ _
   have HSL:Hid (ss.length=L):=by rw[hss];exact Jd _ _ _ _
   have HSBD:Hid (∀i,i<L→-1000000000010000<=ss.getD i 0/\ss.getD i 0<=1000000000010000):=fun i hi=>by rw[hss,Qa _ _ _ _ _ hi];exact RV (HDB.out i hi) (HSB.out i)
   have HA1:Hid (Ai w3 (w.heap.size+1+1) d (.slice sa L ca) (.slice b2 m2 d2)):=HY1.out.below AC HBW.out;have HA2:Hid (Ai w3 bx false (.slice none 0 0) (.slice none 0 0)):=HY2.out.below AC HBW.out;have HRB:=AD (HROW.out.below AC HBW.out);have HRD:=AD (K22.out.below AC HBW.out);obtain⟨z0,z1,z2,z3,z4,z5,z6⟩:=HA1.out.all;obtain⟨q0,q1,q2,q3,q4,q5,q6⟩:=HA2.out.all;rw[<-hzz']at HR7 HRG;rw[<-hss]at HRG;clear hzz' hss HFF HGG;cases hsb:Am zz with
   |false=>
    have HR:=AD (HR7.out HLEN.out hsb);have HSBQ:=AD hsb;clear hsb HR7 HRG;go_wp2_with(go_at_call 114;refine(CR _ _ _ zz _ (HG.out.row HZL.out (by omega)) _ HSBQ).mono ?_;rintro e w5⟨rfl,hw⟩;obtain rfl:=hw.symm);refine bodyPost_ret (v:=.tuple #[.agg #[.bool false,.slice none 0 0,.slice none 0 0],.int .i64 7]) (by simp[results,results93,go_sem,q0,q1,q2]) rfl ?_;rw[HR.out];exact Gf (by decide) ((((HB2.out.trans (HBW.out.mono (by omega))).setCell (by simp<;>omega) _).setCell (by simp<;>omega) _).setCell (by simp<;>omega) _)
   |true=>
    have HR:=AD (HRG.out HLEN.out hsb);have HSBQ:=AD hsb;obtain⟨hzi,hz5⟩:=DE hsb;have hcn:=CS hsb;obtain⟨N,hN⟩:∃N:Nat,Ac zz=(N:Int):=⟨(Ac zz).toNat,by omega⟩
    have HPN:Hid (AM zz=(N:Int)):=by rw[Bs zz hsb];exact hN
    have hNb:N<=10000:=by omega
    have HTN:Hid ((Ac zz).toNat=N):=by rw[hN];exact DL N
    have HZI:=AD hzi;have h5:L<=5:=by rw[<-HZL.out];exact hz5
    clear hsb HR7 HRG hzi hz5 hcn hN;go_wp2_with(first|(go_at_call 114;refine(CR _ _ _ zz _ (HG.out.row HZL.out (by omega)) _ HSBQ).mono ?_;rintro e w5⟨rfl,hw⟩;obtain rfl:=hw.symm)|(go_at_call 59;refine(EG d sa b2 (some ⟨gs,0,none⟩) L m2 ca d2 L L bs dt' zz 166 _ PW (IG ss) _ N HRB.out HRD.out (HG.out.row HZL.out (by omega)) HSI.out HZI.out h5 HPN.out HPB.out (Pc pf L L (some ⟨gf,0,none⟩) ss zz _ (by simp[World.cell?,HPFR.out]) (HF.out.row HSL.out (by omega)) HSBD.out HZL.out (fun i=>(HZI.out.cell i).2))).mono ?_;rintro e wG⟨gd,rfl,hgd,hBG,hbG⟩;have HKG:=AD hbG;have HBG:=AD hBG;have HGD:=AD hgd;clear hgd hBG hbG z0 z1 z2 z3 z4 z5 q0 q1 q2 q3 q4 q5 q6;obtain⟨q0,q1,q2,q3,q4,q5,q6⟩:=(HA2.out.below AC HKG.out).all));have hGl:=HG.out.lt;have hzG:=HKG.out.size;have hres:=I3.setC (w:=w) (d:=d) (zs:=zz) (n:=L) (N:=N) (csh:=L) (ash:=some ⟨gs,0,none⟩) (HA2.out.below AC HKG.out) (((HG.out.below AC HKG.out).own HZL.out (by omega) (by omega))) (by have:=HGD.out;omega) HBG.out (fun h=>by have:=DT h;have:=HGD.out;omega) ((HB2.out.trans (HBW.out.mono (by omega))).trans (HKG.out.mono (by omega))) (fun h=>by have:=DT h;omega) (by have:=HGD.out;omega) (by omega) AC;obtain⟨ash',csh',gd',hb,hO',hgd',hB',hne',hbl',hcp'⟩:=hres;obtain⟨r0,r1,r2,r3,r4,r5,r6⟩:=hb.all;refine bodyPost_ret (v:=.tuple #[.agg #[.bool d,.slice ash' L csh',.slice (some ⟨gd',0,none⟩) N N],.int .i64 0]) (by simp[results,results93,go_sem,r0,r1,r2]) rfl ?_;rw[HR.out,HTN.out];exact Tv (by simp[Bg]) (by omega) hO' hgd' hB' hne' hbl' hcp'
  .have HR:=AD (HR5.out (by rw[HLEN.out];exact hne));have hq:((n2:Int) !=(L:Int))=true:=by simp;omega
   go_wp2_with fail;refine bodyPost_ret (v:=.tuple #[.agg #[.bool false,.slice none 0 0,.slice none 0 0],.int .i64 5]) (by simp[results,results93,go_sem,q0,q1,q2]) rfl ?_;rw[HR.out];exact Gf (by decide) (((HB2.out.setCell (by simp<;>omega) _).setCell (by simp<;>omega) _).setCell (by simp<;>omega) _)
end Cuttaking
end
def Sq(c d:Bool)(a1 a2 b1 b2:Option Addr)(n1 n2 m1 m2 c1 c2 d1 d2:Nat)(sh dt sh' dt':List Int)(w:World)(h1:AO w a1 n1 sh)(h2:AO w a2 n2 dt)(k1:AO w b1 m1 sh')(k2:AO w b2 m2 dt'):Calls prog 93 #[.agg #[],.agg #[.bool c,.slice a1 n1 c1,.slice a2 n2 c2],.agg #[.bool d,.slice b1 m1 d1,.slice b2 m2 d2]] w (Dm w (Ib c d sh dt sh' dt')):=by
 unfold Ib;cases hok:AJ c sh dt with
 |false=>rw[GE hok];exact Cuttaking.code c d a1 a2 b1 b2 n1 n2 m1 m2 c1 c2 d1 d2 sh dt sh' dt' w h1 h2 k1 k2 3 (II hok) (by omega)
 |true=>
  cases hok':AJ d sh' dt' with
  |false=>rw[GD hok'];exact Cuttaking.code c d a1 a2 b1 b2 n1 n2 m1 m2 c1 c2 d1 d2 sh dt sh' dt' w h1 h2 k1 k2 3 (IH hok') (by omega)
  |true=>
   have hcl:=Jv hok hok';by_cases h0:Ae c sh.length=0
   .rw[h0]at hcl;have hl:=h2.len;subst hl;refine Cuttaking.rest c d a1 a2 b1 b2 n1 dt.length m1 m2 c1 c2 d1 d2 sh dt sh' dt' w h1 h2 k1 k2 hcl hok hok' _ rfl _ (fun h=>ZM hok hok' h0 h) (fun h hz=> ?_) (fun h hz=> ?_)
    .show Dx true (fun _=>FM) Gn c d sh dt sh' dt'=_;have hz':Am (FM dt)=false:=by rw[Ri dt (Al dt.length sh')];exact hz
     by_cases h5:dt.length<=5
     .exact Lv hok hok' (Od h0 h h5) rfl hz'
     .exact RE hok hok' h0 h (by omega)
    .have hz':Am (FM dt)=true:=by rw[Ri dt (Al dt.length sh')];exact hz
     rw[Xe hok hok' h0 h hz' (N3 dt),<-Ri,<-YC]
   .rw[EA hok hok' _ (Gy rfl h0) h0];exact Cuttaking.code c d a1 a2 b1 b2 n1 n2 m1 m2 c1 c2 d1 d2 sh dt sh' dt' w h1 h2 k1 k2 _ hcl h0
def PM(c d:Bool)(a1 a2 b1 b2:Option Addr)(n1 n2 m1 m2 c1 c2 d1 d2:Nat)(sh dt sh' dt':List Int)(w:World)(h1:AO w a1 n1 sh)(h2:AO w a2 n2 dt)(k1:AO w b1 m1 sh')(k2:AO w b2 m2 dt'):Calls prog 34 #[.agg #[.bool c,.slice a1 n1 c1,.slice a2 n2 c2],.agg #[.bool d,.slice b1 m1 d1,.slice b2 m2 d2]] w (Dm w (Ib c d sh dt sh' dt')):=by
 obtain⟨R,hR⟩:∃R,Ib c d sh dt sh' dt'=R:=⟨_,rfl⟩
 have HC:Hid (∀W,Below w.heap.size w W->Calls prog 93 #[.agg #[],.agg #[.bool c,.slice a1 n1 c1,.slice a2 n2 c2],.agg #[.bool d,.slice b1 m1 d1,.slice b2 m2 d2]] W (Dm W R)):=fun W hW=>by rw[<-hR];exact Sq c d a1 a2 b1 b2 n1 n2 m1 m2 c1 c2 d1 d2 sh dt sh' dt' W (h1.below AC hW) (h2.below AC hW) (k1.below AC hW) (k2.below AC hW)
 rw[hR];clear hR h1 h2 k1 k2;obtain⟨W0,hW0⟩:∃W0,W0=((w.alloc (.cells #[.bool c,.slice a1 n1 c1,.slice a2 n2 c2] 25)).alloc (.cells #[.bool d,.slice b1 m1 d1,.slice b2 m2 d2] 25)).alloc (.cells #[.bool false,.slice none 0 0,.slice none 0 0] 25):=⟨_,rfl⟩
 have hz0:W0.heap.size=w.heap.size+1+1+1:=by rw[hW0];simp
 have HB0:Hid (Below w.heap.size w W0):=by rw[hW0];exact(((AN _ w).alloc AC _).alloc (by simp) _).alloc (by simp;omega) _
 have HX2:Hid (Ai W0 (w.heap.size+1+1) false (.slice none 0 0) (.slice none 0 0)):=by rw[hW0];exact Cuttaking.FC _ _ _ _ _ (by simp)
 have HW0:=AD hW0;have hzz:w.heap.size+1+1<W0.heap.size:=by omega
 clear hW0 hz0;obtain⟨r,rs,rd,rc⟩:=R;go_enter func34,ntmps34;go_wp2_with(go_at_call 93;rw[<-HW0.out];refine(HC.out _ HB0.out).mono ?_;rintro e w1⟨e1,l1,f1,e2,l2,f2,rfl,hO1,hO2,hap,hb1,hcp⟩;have HCP:=AD hcp;clear hcp;have HO1:=AD hO1;have HO2:=AD hO2;have HAP:Hid (Ip e1 l1 e2 l2):=hap;have HB1:=AD hb1;clear hO1 hO2 hap hb1;obtain⟨q0,q1,q2,q3,q4,q5,q6⟩:=(HX2.out.below AC HB1.out).all);have hx:=(HX2.out.below AC HB1.out).sets (c':=r) (u1:=.slice e1 l1 f1) (u2:=.slice e2 l2 f2);obtain⟨r0,r1,r2,_,_,_⟩:=hx.all;refine bodyPost_ret (v:=.tuple #[.agg #[.bool r,.slice e1 l1 f1,.slice e2 l2 f2],.int .i64 rc]) (by simp[results,results34,go_sem,r0,r1,r2]) rfl ?_;have hk1:∀k,At e1 l1 k->k≠w.heap.size+1+1:=fun k hk=>by have:=HO1.out.low hk;omega
 have hk2:∀k,At e2 l2 k->k≠w.heap.size+1+1:=fun k hk=>by have:=HO2.out.low hk;omega
 exact⟨e1,l1,f1,e2,l2,f2,rfl,(((HO1.out.mono (by omega)).other (q:=⟨w.heap.size+1+1,0,none⟩) hk1 _).other (q:=⟨w.heap.size+1+1,1,none⟩) hk1 _).other (q:=⟨w.heap.size+1+1,2,none⟩) hk1 _,(((HO2.out.mono (by omega)).other (q:=⟨w.heap.size+1+1,0,none⟩) hk2 _).other (q:=⟨w.heap.size+1+1,1,none⟩) hk2 _).other (q:=⟨w.heap.size+1+1,2,none⟩) hk2 _,HAP.out,(((HB0.out.trans (HB1.out.mono (by omega))).setCell (p:=⟨w.heap.size+1+1,0,none⟩) (by simp;omega) _).setCell (p:=⟨w.heap.size+1+1,1,none⟩) (by simp;omega) _).setCell (p:=⟨w.heap.size+1+1,2,none⟩) (by simp;omega) _,HCP.out⟩
