import Derived.Test.YtgjpchnkodnieaaGreatDoorZ23
import Derived.Test.YtgjpchnkodnieaaGreatDoorZ15
import Derived.Test.YtgjpchnkodnieaaGreatDoorZ14
import Derived.Test.YtgjpchnkodnieaaGreatDoorZ21
set_option maxRecDepth 100000
set_option maxHeartbeats 4000000
set_option linter.defProp false
namespace Go.Proofs.YtgjpchnkodnieaaGreatDoor
open Go.RowKit Tryz
section
open Go.Shelf
attribute [local go_sem] Oper.semAt_some
def Ke(g:Nat)(lb:Array Value)(f:List Int->Nat->Int)(zs:List Int)(r:Nat)(w:World)(gd:Nat):Prop:=∀D,GC zs D->D.length=zs.length->∀k,k<r->∀(ib:Nat)W,BS (fun b=>b=gd) w W->BA W ib D->Calls prog g (#[.slice (some ⟨ib,0,none⟩) zs.length zs.length,.int .i64 (k:Nat)]++lb) W fun e w'=>e=.returned (.int .i64 (f D k))/\Below W.heap.size W w'
def Ke.num{g:Nat}{lb:Array Value}{f:List Int->Nat->Int}{zs:List Int}{r gd:Nat}{w w1:World}(h:Ke g lb f zs r w gd)(hb:BS (fun b=>b=gd) w w1):Fz g lb f zs r w1:=fun D h1 h2 k hk ib W hW hB=>h D h1 h2 k hk ib W ((hb.trans (T:=fun _=>False) (BS.of_below hW)).mono (fun _ hk=>hk.elim id False.elim)) hB
def Rt(c:Bool)(a1 a2 sa:Option Addr)(n1 n2 c1 c2 n cap M gd step cnt:Nat)(sh dt zs l:List Int)(g:Nat)(lb:Array Value)(eg:∀args w,(callFunc g args).run prog w=.ok (.enter g args) w)(f:List Int->Nat->Int)(w:World)(N:Nat)(h1:AO w a1 n1 sh)(h2:AO w a2 n2 dt)(hz:AO w sa n zs)(hg:BA w gd l)(hlM:l.length=M)(hs:Aq sh)(hsz:Aq zs)(h5:n<=5)(hN:AM zs=(N:Int))(hd:AM sh=(M:Int))(hst:∀k,k<N->k*step<n2)(Lf:Ke g lb f zs n1 w gd)(ap1:¬ At a1 n1 gd)(ap2:¬ At a2 n2 gd)(ap3:¬ At sa n gd):CallsIn Fence.wide 9 prog 291 #[.agg #[.bool c,.slice a1 n1 c1,.slice (some ⟨gd,0,none⟩) M M],.slice sa n cap,.agg #[.slice a2 n2 c2,.int .i64 0,.int .i64 (step:Nat),.int .i64 (cnt:Nat)],.func (.func g) #[] lb] w fun e w'=>(∃v,e=.returned v)/\BA w' gd (Fg sh f zs (fun k=>dt.getD (k*step) 0) l N)/\BS (fun b=>b=gd) w w':=by
 have hNb:N<=10000:=by have:=hsz.bd;omega
 obtain⟨gf,hgf⟩:∃gf:Nat->Int,gf=fun k=>dt.getD (k*step) 0:=⟨_,rfl⟩
 rw[<-hgf];have HGF:=AD hgf;have H1:=AD h1;have H2:=AD h2;have HZ:=AD hz;have HS:=AD hs;have HSZ:=AD hsz;have HN:=AD hN;have HD:=AD hd;have HNUM:=AD Lf;have HG:=AD hg;have HLM:=AD hlM;have HST:=AD hst;have HAP:=AD (And.intro ap1 (And.intro ap2 ap3));have hgw:=hg.lt;clear h1 h2 hz hs hsz hN hd Lf hg hgf hlM hst ap1 ap2 ap3;refine callsIn_of_wp_marks func291 rfl trivial ?_ rfl;simp only[ntmps291,CX,Ch,Cv,Nat.reduceAdd,Nat.reduceSub,Array.replicate_succ,Array.replicate_zero,List.push_toArray,List.append_toArray,A8,Ax];obtain⟨W,hW⟩:∃W,W=(((w.alloc (.cells #[.bool c,.slice a1 n1 c1,.slice (some ⟨gd,0,none⟩) M M] 25)).alloc (.cells #[.slice a2 n2 c2,.int .i64 0,.int .i64 (step:Nat),.int .i64 (cnt:Nat)] 145)).alloc (.cells #[.func (.func g) #[] lb] 89)).alloc (.cells #[.slice sa n cap] 23):=⟨_,rfl⟩
 have hzW:W.heap.size=w.heap.size+4:=by rw[hW];simp
 gi_wp2_with (refine⟨trivial,?_⟩;gi_at_call 150;refine(callsIn_wide.2 (Ik _ _ _ _)).mono ?_;rintro e wI⟨rfl,hwI⟩;obtain rfl:=hwI.symm)
 rw[<-hW];obtain⟨p,hp⟩:∃p,p=w.heap.size:=⟨_,rfl⟩
 have HBW:Hid (Below p w W):=by rw[hp,hW];exact((((AN _ w).alloc AC _).alloc (by simp) _).alloc (by simp;omega) _).alloc (by simp;omega) _
 have HY0:Hid (Ai W p c (.slice a1 n1 c1) (.slice (some ⟨gd,0,none⟩) M M)):=by rw[hp,hW];exact(((Ai.new w _ _ _).alloc _).alloc _).alloc _
 have HY1:Hid (Dt W (p+1) a2 n2 c2 0 step cnt):=by rw[hp,hW];have:=Dt.new (w.alloc (.cells #[.bool c,.slice a1 n1 c1,.slice (some ⟨gd,0,none⟩) M M] 25)) a2 n2 c2 0 step cnt;rw[World.size_alloc]at this;exact(this.alloc _).alloc _
 have HY2:Hid (W.heap[p+2]? =some (.cells #[.func (.func g) #[] lb] 89 (0,0))):=by rw[hp,hW];refine(Ab _ _ _ (by simp)).trans ?_;have:=World.alloc_heap_new ((w.alloc (.cells #[.bool c,.slice a1 n1 c1,.slice (some ⟨gd,0,none⟩) M M] 25)).alloc (.cells #[.slice a2 n2 c2,.int .i64 0,.int .i64 (step:Nat),.int .i64 (cnt:Nat)] 145)) (.cells #[.func (.func g) #[] lb] 89);simpa using this
 have HY3:Hid (W.heap[p+3]? =some (.cells #[.slice sa n cap] 23 (0,0))):=by
  rw[hp,hW];have:=World.alloc_heap_new (((w.alloc (.cells #[.bool c,.slice a1 n1 c1,.slice (some ⟨gd,0,none⟩) M M] 25)).alloc (.cells #[.slice a2 n2 c2,.int .i64 0,.int .i64 (step:Nat),.int .i64 (cnt:Nat)] 145)).alloc (.cells #[.func (.func g) #[] lb] 89)) (.cells #[.slice sa n cap] 23)
  rwa [World.size_alloc,World.size_alloc,World.size_alloc]at this
 have HGW:Hid (BA W gd (Fg sh f zs gf l 0)):=HG.out.below (by omega) HBW.out;have H1W:=AD (H1.out.below (by omega) HBW.out);have H2W:=AD (H2.out.below (by omega) HBW.out);have HZW:=AD (HZ.out.below (by omega) HBW.out);have hgp:gd<p:=by omega
 have hzp:W.heap.size=p+4:=by omega
 have HNW:Hid (BS (fun b=>b=gd) w W):=BS.of_below (by have:=HBW.out;rwa [hp]at this);have HPL:Hid (∀k,At sa n k->k<p):=fun k h=>by rw[hp];exact HZ.out.hi h
 rw[show w.heap.size+1+1+1=w.heap.size+3 by omega,show w.heap.size+1+1=w.heap.size+2 by omega,<-hp];clear hW hzW H1 H2 HZ HG hgw hwI;have HP:=AD hp;clear hp;refine Kq (gf:=228) (lb:= #[.pointer (some ⟨p+3,0,none⟩)]) rfl (enters_of func228 (by kernel_rfl) rfl) rfl (fun k=>k=gd) (by rintro k rfl;omega) (IA _ (p+3) sa n cap zs W N _ (by simp[World.cell?,HY3.out]) (by omega) HZW.out h5 HSZ.out HN.out (by omega) (by rintro k(rfl|rfl)h;exact HAP.out.2.2 h;have:=HPL.out _ h;omega)) (by rintro k v A o⟨ib,hlo,rfl,hb⟩_;exact⟨ib,hlo,rfl,(World.putObj_heap_other (by omega)).trans hb⟩) (fun k A=>BA A gd (Fg sh f zs gf l k)/\BS (fun b=>b=gd) W A) (by rintro k A B⟨h,hb⟩hbl;exact⟨(hbl.block _ (by omega)).trans h,hbl.os.trans hb.os,hbl.tape.trans hb.tape,hbl.output.trans hb.output,Dg hb.size hbl.size,fun x hx hn=>(hbl.block x hx).trans (hb.block x hx hn)⟩) ⟨HGW.out,BS.refl _ _⟩ (fun k v=> {tmps:= #[.agg #[.bool c,.slice a1 n1 c1,.slice (some ⟨gd,0,none⟩) M M],.slice sa n cap,.agg #[.slice a2 n2 c2,.int .i64 0,.int .i64 (step:Nat),.int .i64 (cnt:Nat)],.func (.func g) #[] lb,.pointer (some ⟨p,0,none⟩),undef,.pointer (some ⟨p+1,0,none⟩),.pointer (some ⟨p+2,0,none⟩),.int .i64 (k:Nat),v,undef,undef,.slice sa n cap,.func (.func 228) #[] #[.pointer (some ⟨p+3,0,none⟩)],.int .i64 (k:Nat),v,undef,undef,undef,undef,undef,undef,undef,undef,undef,undef,undef,undef,undef,undef,undef,undef],defers:= []}) ?assign ?body ?done;case assign=>
  intro l k v A K hK
  gi_wp2
  exact hK
 case body=>
  rintro lr k v A hk⟨hb,hbut⟩⟨ib,hlo,rfl,hix⟩hzA;have hA0:Ai A p c (.slice a1 n1 c1) (.slice (some ⟨gd,0,none⟩) M M):=(hbut.block p (by omega) (by omega)).trans HY0.out;have hA1:Dt A (p+1) a2 n2 c2 0 step cnt:=(hbut.block (p+1) (by omega) (by omega)).trans HY1.out;have hA2:=(hbut.block (p+2) (by omega) (by omega)).trans HY2.out;have hr1:=hbut.row H1W.out (by rintro x rfl h;exact HAP.out.1 h);have hr2:=hbut.row H2W.out (by rintro x rfl h;exact HAP.out.2.1 h);have hnA:Fz g lb f zs n1 A:=HNUM.out.num ((HNW.out.trans hbut).mono (by rintro x(h|h)<;>exact h));have hF:F0 zs:=FI HSZ.out (by rw[HN.out];omega);obtain⟨r,hr⟩:∃r,BX sh (Cc sh f (BK zs k)) sh.length=r:=⟨_,rfl⟩
  obtain⟨q,hq⟩:∃q,(if r then place sh (Cc sh f (BK zs k))else 0)=q:=⟨_,rfl⟩
  have hpl:=Ks g lb eg f zs (BK zs k) sh a1 n1 c1 ib A hr1 hnA (Ek hF _) (De _ _) hix HS.out r (AD hr) q (AD hq);rw[HZW.out.len]at hpl;obtain⟨ca0,ca1,ca2,_,_,_⟩:=hA0.all;have cn:A.cell? ⟨p+2,0,none⟩=some (.func (.func g) #[] lb):=by simp[World.cell?,hA2]
  have hzp':p+3<A.heap.size:=by omega
  have HPL2:=AD hpl;have HA0:=AD hA0;have HA1:=AD hA1;have HBT:=AD hbut;have HBK:=AD hb;have HR:=AD hr;have HQ:=AD hq;have HR2:=AD hr2;clear hpl hA0 hA1 hA2 hr1 hr2 hnA hF hb hbut hr hq hix;cases r with
  |false=>
   gi_wp2_with (refine⟨trivial,?_⟩;gi_at_call 151;refine(CallsIn.inRound lr (callsIn_wide.2 HPL2.out)).mono ?_;rintro e wP⟨rfl,hbP⟩)
   refine⟨?_,?_,?_⟩
   .exact BS.of_below hbP
   .have:=HBK.out.below AC hbP
    rwa [YV HR.out]at this
   .exact⟨hbP.os.trans HBT.out.os,hbP.tape.trans HBT.out.tape,hbP.output.trans HBT.out.output,Dg HBT.out.size hbP.size,fun x hx hn=>(hbP.block x (AZ hx HBT.out.size)).trans (HBT.out.block x hx hn)⟩
  |true=>
   have hpb:=Fp (KO HR.out);obtain⟨j,rfl⟩:∃j:Nat,q=(j:Int):=⟨q.toNat,by have:=HQ.out;rw[AI rfl]at this;omega⟩
   have hj:(j:Int)<M:=by have:=HQ.out;rw[AI rfl]at this;have:=HD.out;omega
   have HPJ:Hid (place sh (Cc sh f (BK zs k))=(j:Int)):=by have:=HQ.out;rwa [AI rfl]at this
   have hjl:j<(Fg sh f zs gf l k).length:=by rw[Ln,HLM.out];omega
   obtain⟨x,hx⟩:∃x,x=gf k:=⟨_,rfl⟩
   have HX:=AD hx;have hcall:∀wx,Below A.heap.size A wx->Calls prog 192 #[.agg #[.slice a2 n2 c2,.int .i64 0,.int .i64 (step:Nat),.int .i64 (cnt:Nat)],.int .i64 (k:Nat)] wx fun e w'=>e=.returned (.int .i64 x)/\Below wx.heap.size wx w':=fun wx hwx=>by have:=IM a2 n2 c2 0 step cnt k dt wx (HR2.out.below AC hwx) (by have:=HST.out k hk;omega);rw[hx,HGF.out];simpa using this
   have HCALL:=AD hcall;clear hcall hx
   gi_wp2_with (refine⟨trivial,?_⟩;gi_at_call 151;refine(CallsIn.inRound lr (callsIn_wide.2 HPL2.out)).mono ?_;rintro e wP⟨rfl,hbP⟩;obtain⟨cb0,cb1,cb2,_,_,_⟩:=(Ai.low HA0.out (by omega) hbP).all;obtain⟨d0,d1,d2,d3⟩:=(HA1.out.below AC hbP).cells;have HBP:=AD hbP;clear hbP)
   have hmx:prog.follows .mixedOrders=true:=by kernel_rfl
   have hzP:=HBP.out.size;clear HPL2 ca0 ca1 ca2 cn cb0 cb1
   gi_region_with_o ((refine⟨trivial,?_⟩;gi_at_call 192;refine(CallsIn.inRound lr (callsIn_wide.2 (HCALL.out _ HBP.out.drew))).mono ?_;rintro e wT⟨rfl,hbT⟩;have HBT2:=AD (HBP.out.drew.trans (hbT.mono HBP.out.drew.size));obtain⟨e0,e1,e2,_,_,_⟩:=(Ai.low HA0.out (by omega) HBT2.out).all;have HKT:=AD (HBK.out.below AC HBT2.out);have cg:=HKT.out.cell (i:=j) hjl;have cf:=HKT.out.free j;clear hbT))
   all_goals
    have e1:BS (fun b=>b=gd) A (wT.setCell ⟨gd,j,none⟩ (.int .i64 x)):=(BS.of_below (S:=fun b=>b=gd) HBT2.out).setCell (p:=⟨gd,j,none⟩) rfl _;refine⟨e1,?_,(HBT.out.trans e1).mono (by rintro x(h|h)<;>exact h)⟩;have e2:=BA.set HKT.out j x;rw[HX.out,V0 HR.out HPJ.out,<-HX.out]at e2;exact e2
 case done=>
  rintro D A hD⟨hb,hbut⟩hK;have HBT:=AD hbut;have HB:=AD hb;clear hb hbut
  gi_wp2
  have hlD:D<A.heap.size:=(BW.1 hK).1;have hbD:BS (fun b=>b=D) A (A.putObj D (.deferred none)):=BS.putObj (S:=fun b=>b=D) A rfl _;refine⟨by simp,.inl ⟨_,_,rfl,run_takeDeferred hK,?_⟩⟩;refine⟨.tuple #[],by simp[results,Tryz.f291],⟨_,rfl⟩,?_,?_⟩
  .exact(hbD.block gd HB.out.lt (by omega)).trans HB.out
  .have e:=(HNW.out.trans HBT.out).trans hbD;have hpw:=HP.out;exact⟨e.os,e.tape,e.output,e.size,fun k hk hn=>e.block k hk (by rintro((h|h)|h);exact hn h;exact hn h;omega)⟩
def TR(c:Bool)(a1 a2 sa:Option Addr)(n1 n2 c1 c2 n cap M gd step cnt:Nat)(sh dt zs l:List Int)(g:Nat)(lb:Array Value)(eg:∀args w,(callFunc g args).run prog w=.ok (.enter g args) w)(f:List Int->Nat->Int)(w:World)(N:Nat)(h1:AO w a1 n1 sh)(h2:AO w a2 n2 dt)(hz:AO w sa n zs)(hg:BA w gd l)(hlM:l.length=M)(hs:Aq sh)(hsz:Aq zs)(h5:n<=5)(hN:AM zs=(N:Int))(hd:AM sh=(M:Int))(hst:∀k,k<N->k*step<n2)(Lf:Ke g lb f zs n1 w gd)(ap1:¬ At a1 n1 gd)(ap2:¬ At a2 n2 gd)(ap3:¬ At sa n gd):Calls prog 291 #[.agg #[.bool c,.slice a1 n1 c1,.slice (some ⟨gd,0,none⟩) M M],.slice sa n cap,.agg #[.slice a2 n2 c2,.int .i64 0,.int .i64 (step:Nat),.int .i64 (cnt:Nat)],.func (.func g) #[] lb] w fun e w'=>(∃v,e=.returned v)/\BA w' gd (Fg sh f zs (fun k=>dt.getD (k*step) 0) l N)/\BS (fun b=>b=gd) w w':=callsIn_wide.1 (Rt c a1 a2 sa n1 n2 c1 c2 n cap M gd step cnt sh dt zs l g lb eg f w N h1 h2 hz hg hlM hs hsz h5 hN hd hst Lf ap1 ap2 ap3)
end
section
open Go.Shelf
def G8(D:List Int)(k:Nat):Int:=D.getD k 0
def G9(a:Nat)(x:Int)(D:List Int)(k:Nat):Int:=if k=a then D.getD k 0+x else D.getD k 0
def Yq:∀args w,(callFunc 293 args).run prog w=.ok (.enter 293 args) w:=enters_of func293 (by kernel_rfl) rfl
def XP:∀args w,(callFunc 152 args).run prog w=.ok (.enter 152 args) w:=enters_of func152 (by kernel_rfl) rfl
def Yx(zs:List Int)(r gd:Nat)(hr:r<=zs.length)(w:World):Ke 293 #[] G8 zs r w gd:=by
 intro D hD hDl k hk ib W hW hB;have cd:=hB.cell (i:=k) (by omega);obtain⟨n,hn⟩:∃n,zs.length=n:=⟨_,rfl⟩
 obtain⟨x,hx⟩:∃x,D.getD k 0=x:=⟨_,rfl⟩
 have HF:Hid (G8 D k=x):=hx;rw[hn]at hr ⊢;rw[hx]at cd;have hkn:(k:Int)<(n:Int):=by omega
 clear hD hDl hW hB hn hx;go_enter func293,ntmps293;go_wp2_with fail;go_ret;exact⟨BM HF.out.symm,AG⟩
def Xm(pw:Nat)(v x:Int)(W:World)(hc:W.cell? ⟨pw,0,none⟩=some (.int .i64 x))(hv:0<=v/\v<=10000)(hx:0<=x/\x<=10000):Calls prog 294 #[.int .i64 v,.pointer (some ⟨pw,0,none⟩)] W fun e w'=>e=.returned (.int .i64 (v+x))/\w'=W:=by
 have h1:IntKind.i64.wrap (v+x)=v+x:=by rw[IntKind.wrap_i64];omega
 go_enter func294,ntmps294;go_wp2_with fail;go_ret;exact⟨rfl,rfl⟩
def Yw(zs:List Int)(r gd pa pf pw a:Nat)(x:Int)(hr:r<=zs.length)(w:World)(hzs:Aq zs)(hx:0<=x/\x<=10000)(h1:w.cell? ⟨pa,0,none⟩=some (.int .i64 (a:Nat)))(h2:w.cell? ⟨pf,0,none⟩=some (.func (.func 294) #[] #[.pointer (some ⟨pw,0,none⟩)]))(h3:w.cell? ⟨pw,0,none⟩=some (.int .i64 x))(n1:pa≠gd)(n2:pf≠gd)(n3:pw≠gd):Ke 152 #[.pointer (some ⟨pa,0,none⟩),.pointer (some ⟨pf,0,none⟩)] (G9 a x) zs r w gd:=by
 intro D hD hDl k hk ib W hW hB;have cd:=hB.cell (i:=k) (by omega);have hDk:=hD k (by omega);have hsk:=(hzs.cell k).2;have c1:=(hW.cellAt (AU _ _ h1) n1).trans h1;have c2:=(hW.cellAt (AU _ _ h2) n2).trans h2;have c3:=(hW.cellAt (AU _ _ h3) n3).trans h3;obtain⟨n,hn⟩:∃n,zs.length=n:=⟨_,rfl⟩
 obtain⟨v,hv⟩:∃v,D.getD k 0=v:=⟨_,rfl⟩
 have HF:Hid (G9 a x D k=if k=a then v+x else v):=by show _=_;unfold G9;rw[hv]
 rw[hn]at hr ⊢;rw[hv]at cd hDk;have hkn:(k:Int)<(n:Int):=by omega
 have hvb:0<=v/\v<=10000:=by omega
 clear hD hDl hW hB hn hv h1 h2 h3 hDk hsk;by_cases hka:k=a
 .subst hka;rw[AI rfl]at HF;go_enter func152,ntmps152;go_wp2_with fail;go_quiet((go_at_call 294;exact Calls.quiet_of_same (Xm pw v x _ (by first|exact c3|simpa using c3) hvb hx)));go_wp2_with fail;go_ret;exact⟨BM HF.out.symm,Below.drewN AG _⟩
 .rw[AH hka]at HF;have q:((k:Int)==(a:Int))=false:=by simp;omega
  clear hka;go_enter func152,ntmps152;go_wp2_with fail;go_ret;exact⟨BM HF.out.symm,AG⟩
def R6(a:Nat)(v:Value)(w:World)(g:Nat)(lb:Array Value)(hv:v=.func (.func g) #[] lb):Calls prog 64 #[.int .i64 (a:Nat),v] w fun e w'=>e=.returned (.func (.func 152) #[] #[.pointer (some ⟨w.heap.size,0,none⟩),.pointer (some ⟨w.heap.size+1,0,none⟩)])/\w'=(w.alloc (.cells #[.int .i64 (a:Nat)] 3)).alloc (.cells #[v] 92):=by
 subst hv;go_enter func64,ntmps64
 go_wp2
 go_ret;exact⟨rfl,rfl⟩
end
def Pu{X:List Int}{n t:Nat}(hX:X.length=n)(ht:t=if n=1 then 0 else 1)(k:Nat)(hk:k<X.length):X.getD (k*t) 0=X.getD k 0:=by
 by_cases h:n=1
 .rw[AI h]at ht;have:k=0:=by omega
  subst this;simp
 .rw[AH h]at ht;rw[ht,IP]
def TM{n t:Nat}(ht:t=if n=1 then 0 else 1)(k:Nat)(hk:k<n):k*t<n:=by
 by_cases h:n=1
 .rw[AI h]at ht;rw[ht];omega
 .rw[AH h]at ht;rw[ht];omega
def U8{L R X Y ZS fr:List Int}{xn yn Bn p2 q2 M tx ty p1:Nat}(hL:L=fr++ [(xn:Int)])(hR:R=fr++ [(yn:Int)])(hZ:ZS=fr++ [((xn+yn:Nat):Int)])(hfl:fr.length=p1)(hLi:Aq L)(hRi:Aq R)(hpL:AM L=(p2:Int))(hpR:AM R=(q2:Int))(hX:X.length=p2)(hY:Y.length=q2)(hB:AM fr=(Bn:Int))(hM:M=Bn*(xn+yn))(htx:tx=if p2=1 then 0 else 1)(hty:ty=if q2=1 then 0 else 1):Fg ZS (G9 p1 xn) R (fun k=>Y.getD (k*ty) 0) (Fg ZS G8 L (fun k=>X.getD (k*tx) 0) (List.replicate M 0) p2) q2=Hd X Y xn yn Bn:=by
 have e1:Bn*xn=p2:=by
  rw[hL,Bi,hB]at hpL;simp[AM]at hpL
  exact_mod_cast hpL
 have e2:Bn*yn=q2:=by
  rw[hR,Bi,hB]at hpR;simp[AM]at hpR
  exact_mod_cast hpR
 have s1:0<p2->0<xn:=fun h=>by
  rcases Nat.eq_zero_or_pos xn with h0|h0
  .rw[h0]at e1;simp at e1;omega
  .exact h0
 have s2:0<q2->0<yn:=fun h=>by
  rcases Nat.eq_zero_or_pos yn with h0|h0
  .rw[h0]at e2;simp at e2;omega
  .exact h0
 have i1:∀k:Nat,k<p2->BX ZS (Cc ZS G8 (BK L k)) ZS.length=true/\place ZS (Cc ZS G8 (BK L k))=((Di xn (xn+yn) 0 k:Nat):Int):=fun k hk=>by rw[hZ,hL];exact JW (by omega) G8 (fun D i _=>rfl) (fun D=>by simp[G8]) (by rw[<-hL];exact FI hLi (by rw[hpL];omega)) k (by rw[<-hL,hpL];omega)
 have i2:∀k:Nat,k<q2->BX ZS (Cc ZS (G9 p1 xn) (BK R k)) ZS.length=true/\place ZS (Cc ZS (G9 p1 xn) (BK R k))=((Di yn (xn+yn) xn k:Nat):Int):=fun k hk=>by rw[hZ,hR];exact JW (by omega) (G9 p1 xn) (fun D i hi=>by unfold G9;rw[AH (by omega)]) (fun D=>by unfold G9;rw[AI hfl]) (by rw[<-hR];exact FI hRi (by rw[hpR];omega)) k (by rw[<-hR,hpR];omega)
 rw[QF (M:=M) s1 (by omega) (by simp) i1 p2 AC,QF (M:=M) s2 (by omega) (by simp) i2 q2 AC,hM];have:=V1 (X:=X) (Y:=Y) (l:=List.replicate (Bn*(xn+yn)) 0) (x:=xn) (y:=yn) (B:=Bn) (g1:=fun k=>X.getD (k*tx) 0) (g2:=fun k=>Y.getD (k*ty) 0) (by rw[e1,hX]) (by rw[e2,hY]) (fun k hk=>Pu hX htx k hk) (fun k hk=>Pu hY hty k hk);rw[hX,hY]at this;exact this
