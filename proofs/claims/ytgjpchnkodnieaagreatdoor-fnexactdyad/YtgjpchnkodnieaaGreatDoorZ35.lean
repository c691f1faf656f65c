import Derived.RangeFuncRecord
import Derived.Deep.RegionHeld3
import Derived.Test.YtgjpchnkodnieaaGreatDoorZ27
import Derived.Test.YtgjpchnkodnieaaGreatDoorZ29
import Derived.Test.YtgjpchnkodnieaaGreatDoorZ30
set_option maxRecDepth 20000
set_option maxHeartbeats 8000000
set_option linter.defProp false
namespace Go.Proofs.YtgjpchnkodnieaaGreatDoor
open Go.RowKit Tryz
def RK(w:World)(p:Nat)(c:Bool)(v1 v2:Value)(hp:p=w.heap.size):Ai (w.alloc (.cells #[.bool c,v1,v2] 25)) p c v1 v2:=by subst hp;exact Ai.new w c v1 v2
def IT{w:World}{base e size n:Nat}{v:Value}{xs:List Value}(h:w.ownsRow base e size v n xs):∀k,v.ownBlock=some k->base<=k:=by
 rcases h.2 with⟨rfl,_⟩|⟨g,cap,cur,rfl,hg,_⟩
 .intro k hk;cases hk
 .intro k hk;cases hk;exact hg
def QW(W:World)(x:Int){wI:World}(h:Below (W.drew.alloc (.cells #[.int .i64 x] 3)).heap.size (W.drew.alloc (.cells #[.int .i64 x] 3)) wI):BA wI W.heap.size [x]:=(show BA (W.drew.alloc _) W.heap.size [x]from World.alloc_heap_new W.drew _).below AC h
def QV(W:World)(x:Int){wI:World}(h:Below ((W.alloc (.cells #[.int .i64 x] 3)).drew).heap.size ((W.alloc (.cells #[.int .i64 x] 3)).drew) wI):BA wI W.heap.size [x]:=(show BA ((W.alloc _).drew) W.heap.size [x]from World.alloc_heap_new W _).below AC h
def FJ{w:World}{g:Nat}{x:Int}(h:BA w g [x]):∀(j:Nat)u,([.int .i64 x]:List Value)[j]? =some u->w.cell? ((⟨g,0,none⟩:Addr).add j)=some u:=by
 intro j u hu;cases j with
 |zero=>simp at hu;subst hu;simpa[Addr.add]using h.cell (i:=0) (by simp)
 |succ j=>simp at hu
def FR(c:Bool)(a1:Addr)(a2:Option Addr)(n1 n2 c1 c2:Nat)(sh:List Int)(w:World)(h1:AO w (some a1) n1 sh)(hn:n1<=10000):Calls prog 194 #[.agg #[.bool c,.slice (some a1) n1 c1,.slice a2 n2 c2]] w fun e w'=>∃g cap,e=.returned (.agg #[.bool c,.slice (some ⟨g,0,none⟩) (n1+1) cap,.slice a2 n2 c2])/\w'.ownsRow w.heap.size 3 1 (.slice (some ⟨g,0,none⟩) (n1+1) cap) (n1+1) ((sh++ [1]).map (Value.int .i64))/\Below w.heap.size w w':=by
 obtain⟨i0,hi,hz0,hz1,hz2⟩:=info_parts A6;obtain⟨W,hW⟩:∃W,W=(w.alloc (.cells #[.bool c,.slice (some a1) n1 c1,.slice a2 n2 c2] 25)).alloc (.cells #[.bool false,.slice none 0 0,.slice none 0 0] 25):=⟨_,rfl⟩
 have hz:w.heap.size+1<W.heap.size:=by rw[hW];simp
 have HBW:Hid (Below w.heap.size w W):=by rw[hW];exact((AN _ w).alloc AC _).alloc (by simp) _
 have HX0:Hid (Ai W w.heap.size c (.slice (some a1) n1 c1) (.slice a2 n2 c2)):=by rw[hW];exact(Ai.new w _ _ _).alloc _
 have HX1:Hid (Ai W (w.heap.size+1) false (.slice none 0 0) (.slice none 0 0)):=by rw[hW];exact RK _ _ _ _ _ (by simp)
 have H1:=AD (h1.below AC HBW.out);have HW:=AD hW;clear hW h1;go_enter func194,ntmps194;go_upto_region 1 with fail;rw[<-HW.out];clear HW;have HKEEP:∀wx,BS (fun k=>k=w.heap.size+1) W wx->wx.cell? ⟨w.heap.size,0,none⟩=some (.bool c)/\wx.cell? ⟨w.heap.size,1,none⟩=some (.slice (some a1) n1 c1)/\wx.cell? ⟨w.heap.size,2,none⟩=some (.slice a2 n2 c2):=fun wx hwx=>by obtain⟨y0,y1,y2,_,_,_⟩:=HX0.out.all;exact⟨(hwx.cellAt (by omega) (by omega)).trans y0,(hwx.cellAt (by omega) (by omega)).trans y1,(hwx.cellAt (by omega) (by omega)).trans y2⟩
 obtain⟨y0,y1,y2⟩:=HKEEP _ (BS.refl _ _);obtain⟨r0,r1,r2,r3,r4,r5,r6⟩:=HX1.out.all
 go_region_held3 (fun wx=>wx.cell? ⟨w.heap.size,0,none⟩=some (.bool c)/\wx.cell? ⟨w.heap.size,1,none⟩=some (.slice (some a1) n1 c1)/\wx.cell? ⟨w.heap.size,2,none⟩=some (.slice a2 n2 c2)) (first|exact HKEEP _ (BS.refl _ _).drew|exact HKEEP _ (BS.of_below hK8)|exact HKEEP _ ((((BS.of_below (S:=fun k=>k=w.heap.size+1) hK8).setCell (p:=⟨w.heap.size+1,0,none⟩) rfl _).setCell (p:=⟨w.heap.size+1,1,none⟩) rfl _).setCell (p:=⟨w.heap.size+1,2,none⟩) rfl _)|exact HKEEP _ (BS.of_below hKI)|exact HKEEP _ ((BS.of_below (S:=fun k=>k=w.heap.size+1) hKI).alloc _)|exact HKEEP _ ((BS.refl _ _).drew.alloc _)|exact HKEEP _ ((BS.refl _ _).alloc _).drew) (first
  |(go_at_call 71;refine(FT a1 n1 c1 sh _ (by first|exact H1.out.below AC (AN _ W).drew|exact H1.out.below AC ((AN _ W).alloc AC _).drew|exact(H1.out.below AC (AN _ W).drew).alloc _)).mono ?_;rintro e wI⟨aI,cI,rfl,hoI,hbI⟩;have hKI:Below W.heap.size W wI:=(by first|exact(AN _ W).drew.trans (hbI.mono AC)|exact((AN _ W).alloc AC _).drew.trans (hbI.mono (by simp))|exact((AN _ W).drew.alloc AC _).trans (hbI.mono (by simp)));have hoI':=DG (base':=W.heap.size) hoI (by simp);(first|(have hE1:=QV W 1 hbI)|(have hE1:=QW W 1 hbI)|skip);have hzI:=hKI.size;clear y0 y1 y2 r0 r1 r2 r3 r4 r5 r6;obtain⟨y0,y1,y2⟩:=HKEEP _ (BS.of_below hKI);obtain⟨r0,r1,r2,r3,r4,r5,r6⟩:=(HX1.out.below AC hKI).all)
  |(refine step_append_lies _ (by rfl) _ _ _ (by rfl) W.heap.size 3 i0 _ 1 8 underlying23 hi hz0 hz1 hz2 rfl (by omega) (.slice aI n1 cI) n1 (sh.map (Value.int .i64)) (by rfl) (hoI'.alloc _) ⟨wI.heap.size,0,none⟩ 1 1 [.int .i64 1] (by rfl) (by rfl) (Bp wI _) (CD _) (by omega) (by unfold maxLen;omega) (by omega) (by first|omega|(simp;omega)) _ rfl ?_;intro g8 p8 w8 BL An hat hlt8;have hK8:Below W.heap.size W w8:=hKI.trans (Co _ hoI' hzI An);have HO8:=AD BL;clear BL An hat y0 y1 y2 r0 r1 r2 r3 r4 r5 r6;obtain⟨y0,y1,y2⟩:=HKEEP _ (BS.of_below hK8);obtain⟨r0,r1,r2,r3,r4,r5,r6⟩:=(HX1.out.below AC hK8).all)
  |(refine step_append_lies _ (by rfl) _ _ _ (by rfl) W.heap.size 3 i0 _ 1 8 underlying23 hi hz0 hz1 hz2 rfl (by omega) (.slice aI n1 cI) n1 (sh.map (Value.int .i64)) (by rfl) hoI' ⟨W.heap.size,0,none⟩ 1 1 [.int .i64 1] (by rfl) (by rfl) (FJ hE1) (CD _) (by omega) (by unfold maxLen;omega) (by omega) (by first|omega|(simp;omega)) _ rfl ?_;intro g8 p8 w8 BL An hat hlt8;have hK8:Below W.heap.size W w8:=hKI.grown An hzI (IT hoI');have HO8:=AD BL;clear BL An hat y0 y1 y2 r0 r1 r2 r3 r4 r5 r6;obtain⟨y0,y1,y2⟩:=HKEEP _ (BS.of_below hK8);obtain⟨r0,r1,r2,r3,r4,r5,r6⟩:=(HX1.out.below AC hK8).all))
 all_goals
  go_wp2_with fail;have hx:=(HX1.out.below AC hK8).sets (c':=c) (u1:=.slice (some ⟨g8,0,none⟩) (n1+1) p8) (u2:=.slice a2 n2 c2);obtain⟨q0,q1,q2,_,_,_⟩:=hx.all;refine bodyPost_ret (v:=.agg #[.bool c,.slice (some ⟨g8,0,none⟩) (n1+1) p8,.slice a2 n2 c2]) (by simp[results,results194,go_sem,q0,q1,q2]) rfl ?_;have e:(sh++ [1]).map (Value.int .i64)=sh.map (Value.int .i64)++ [.int .i64 1]:=by simp
  rw[e];refine⟨g8,p8,rfl,DG (CC (CC (CC HO8.out (by omega) _) (by omega) _) (by omega) _) (by omega),((((HBW.out.trans (hK8.mono (by omega))).setCell (p:=⟨w.heap.size+1,0,none⟩) (by simp) _).setCell (p:=⟨w.heap.size+1,1,none⟩) (by simp) _).setCell (p:=⟨w.heap.size+1,2,none⟩) (by simp) _)⟩
def pt(b:Bool)(d:Nat)(v:Value)(a:Act):Act:=if b then a.put (some d) v else a
def ER(b:Bool)(d e:Nat)(v u:Value)(a:Act)(h:d≠e):(pt b d v a).put (some e) u=pt b d v (a.put (some e) u):=by
 cases b with
 |false=>rfl
 |true=>exact Act.put_comm a v u (x:=some d) (y:=some e) (by simp;exact fun hy=>h hy.symm)
def DB(b:Bool)(d e:Nat)(v:Value)(a:Act)(h:d≠e):(pt b d v a).eval (.tmp e)=a.eval (.tmp e):=by
 cases b with
 |false=>rfl
 |true=>exact Act.eval_put (dst:=some d) (x:=.tmp e) (by simp;exact fun hy=>h hy.symm)
def EC(d:Nat)(v:Value)(a:Act)(h:d<a.tmps.size):(pt true d v a).eval (.tmp d)=v:=by simp[pt,Act.eval,Act.put,h]
def EQ(b:Bool)(d:Nat)(v:Value)(a:Act):(pt b d v a).tmps.size=a.tmps.size:=by cases b<;>simp[pt,Act.put]
def Ez{w:World}{base n p:Nat}{v:Value}{xs:List Value}(h:w.ownsRow base 3 1 v n xs)(hp:v.ownBlock≠some p)(o:Nat)(u:Value):(w.setCell ⟨p,o,none⟩ u).ownsRow base 3 1 v n xs:=by
 refine⟨h.1,?_⟩;rcases h.2 with h0|⟨g,cap,cur,rfl,hg,hcur,hr⟩
 .exact .inl h0
 .exact .inr ⟨g,cap,cur,rfl,hg,(Cg w ⟨p,o,none⟩ g u (fun k=>hp (Gi some k))).trans hcur,hr⟩
def T1(w2:World)(c:Bool)(m:Nat)(zs:List Int)(r:Value)(wx:World):Prop:=∃p g b csh,r=.pointer (some ⟨p,0,none⟩)/\Ai wx p c (.slice (some ⟨b,0,none⟩) m csh) (.slice (some ⟨g,0,none⟩) 0 0)/\BA wx g []/\Bt wx w2.heap.size (some ⟨b,0,none⟩) m zs/\Below w2.heap.size w2 wx/\w2.heap.size<=p/\w2.heap.size<=g/\(∀x,At (some ⟨b,0,none⟩) m x->x≠g)/\m<=csh
def Ft{w:World}{base e size n cap:Nat}{a:Addr}{xs:List Value}(h:w.ownsRow base e size (.slice (some a) n cap) n xs):n<=cap:=by
 rcases h.2 with⟨h0,_⟩|⟨g,Ak,cur,h0,_,_,h1,_⟩
 .cases h0
 .cases h0;exact h1
def n4(b:Bool):Nat:=if b then 0 else 1
structure NM(W:World)(fr:List Int)(x:Int)(nf:Nat)(dC dM dP dE dZ:Bool)(cv pv:Value)(m e z:Nat)(w:World):Prop where
 hb:Below W.heap.size W w
 hC:dC=true->dP=false->w.ownsRow W.heap.size 3 1 cv nf (fr.map (Value.int .i64))
 hM:dM=true->dP=false->BA w m [x]
 hP:dP=true->w.ownsRow W.heap.size 3 1 pv (nf+1) ((fr++ [x]).map (Value.int .i64))
 hE:dE=true->BA w e []/\W.heap.size<=e
 hZ:dZ=true->Ai w z false (.slice none 0 0) (.slice none 0 0)/\W.heap.size<=z
 hce:dC=true->dP=false->dE=true->cv.ownBlock≠some e
 hcz:dC=true->dP=false->dZ=true->cv.ownBlock≠some z
 hpe:dP=true->dE=true->pv.ownBlock≠some e
 hpz:dP=true->dZ=true->pv.ownBlock≠some z
section
variable {W:World}{fr:List Int}{x:Int}{nf:Nat}{dC dM dP dE dZ:Bool}{cv pv:Value}{m e z:Nat}{w w':World}
def NM.below(h:NM W fr x nf dC dM dP dE dZ cv pv m e z w)(hb:Below w.heap.size w w'):NM W fr x nf dC dM dP dE dZ cv pv m e z w' where
 hb:=h.hb.trans (hb.mono h.hb.size)
 hC:=fun a b=>BN (h.hC a b) AC hb
 hM:=fun a b=>(h.hM a b).below AC hb
 hP:=fun a=>BN (h.hP a) AC hb
 hE:=fun a=>⟨(h.hE a).1.below AC hb,(h.hE a).2⟩
 hZ:=fun a=>⟨(h.hZ a).1.below AC hb,(h.hZ a).2⟩
 hce:=h.hce
 hcz:=h.hcz
 hpe:=h.hpe
 hpz:=h.hpz
def NM.alloc(h:NM W fr x nf dC dM dP dE dZ cv pv m e z w)(o:Obj):NM W fr x nf dC dM dP dE dZ cv pv m e z (w.alloc o):=h.below (AG.alloc AC _)
def NM.C{v:Value}(h:NM W fr x nf false dM dP dE dZ cv pv m e z w)(hb:Below w.heap.size w w')(ho:w'.ownsRow w.heap.size 3 1 v nf (fr.map (Value.int .i64))):NM W fr x nf true dM dP dE dZ v pv m e z w':=by have h':=h.below hb;exact⟨h'.hb,fun _ _=>DG ho h.hb.size,h'.hM,h'.hP,h'.hE,h'.hZ,fun _ _ a k=>by have:=IT ho _ k;have:=(h.hE a).1.lt;omega,fun _ _ a k=>by have:=IT ho _ k;have:=(h.hZ a).1.lt;omega,h'.hpe,h'.hpz⟩
def NM.M(h:NM W fr x nf dC false dP dE dZ cv pv m e z w):NM W fr x nf dC true dP dE dZ cv pv w.heap.size e z (w.alloc (.cells #[.int .i64 x] 3)):=by have h':=h.alloc (.cells #[.int .i64 x] 3);exact⟨h'.hb,h'.hC,fun _ _=>World.alloc_heap_new w _,h'.hP,h'.hE,h'.hZ,h'.hce,h'.hcz,h'.hpe,h'.hpz⟩
def NM.E(h:NM W fr x nf dC dM dP false dZ cv pv m e z w):NM W fr x nf dC dM dP true dZ cv pv m w.heap.size z (w.alloc (.cells #[] 3)):=by have h':=h.alloc (.cells #[] 3);exact⟨h'.hb,h'.hC,h'.hM,h'.hP,fun _=>⟨BA.new w,h.hb.size⟩,h'.hZ,fun a b _ k=>by have:=GI (h.hC a b) k;omega,h'.hcz,fun a _ k=>by have:=GI (h.hP a) k;omega,h'.hpz⟩
def NM.Z(h:NM W fr x nf dC dM dP dE false cv pv m e z w):NM W fr x nf dC dM dP dE true cv pv m e w.heap.size (w.alloc (.cells #[.bool false,.slice none 0 0,.slice none 0 0] 25)):=by have h':=h.alloc (.cells #[.bool false,.slice none 0 0,.slice none 0 0] 25);exact⟨h'.hb,h'.hC,h'.hM,h'.hP,h'.hE,fun _=>⟨Ai.new w _ _ _,h.hb.size⟩,h'.hce,fun a b _ k=>by have:=GI (h.hC a b) k;omega,h'.hpe,fun a _ k=>by have:=GI (h.hP a) k;omega⟩
def NM.P{g cap:Nat}(h:NM W fr x nf true true false dE dZ cv pv m e z w)(ho:w'.ownsRow W.heap.size 3 1 (.slice (some ⟨g,0,none⟩) (nf+1) cap) (nf+1) (fr.map (Value.int .i64)++ [.int .i64 x]))(hg:w.grownBy w' cv.ownBlock)(hat:cv.ownBlock=some g\/g=w.heap.size):NM W fr x nf true true true dE dZ cv (.slice (some ⟨g,0,none⟩) (nf+1) cap) m e z w' where
 hb:=h.hb.grown hg h.hb.size (IT (h.hC rfl rfl))
 hC:=fun _ k=>by cases k
 hM:=fun _ k=>by cases k
 hP:=fun _=>by rw[Bf];exact ho
 hE:=fun a=>⟨(hg.block e (h.hE a).1.lt (fun k=>h.hce rfl rfl a (by first|exact k|exact k.symm))).trans (h.hE a).1,(h.hE a).2⟩
 hZ:=fun a=>⟨(hg.block z (h.hZ a).1.lt (fun k=>h.hcz rfl rfl a (by first|exact k|exact k.symm))).trans (h.hZ a).1,(h.hZ a).2⟩
 hce:=fun _ k=>by cases k
 hcz:=fun _ k=>by cases k
 hpe:=fun _ a k=>by
  obtain rfl:g=e:=Dn k;rcases hat with h1|h1
  .exact h.hce rfl rfl a h1
  .have:=(h.hE a).1.lt;omega
 hpz:=fun _ a k=>by
  obtain rfl:g=z:=Dn k;rcases hat with h1|h1
  .exact h.hcz rfl rfl a h1
  .have:=(h.hZ a).1.lt;omega
end
section
variable {ops:Array Oper}{Q:Exit->Act->World->Prop}{K:Act->World->Prop}{a:Act}{w:World}
def QR{i:Nat}{o:Oper}(hi:ops[i]? =some o)(hg:Region.wanted o (yielded ops a.tmps)=true)(h:o.wp prog a w K Q):wpOp prog ops Q i K a w:=by
 unfold wpOp;rw[hi];show if Region.wanted o (yielded ops a.tmps)=true then _ else _
 rw[AI hg];exact .inl h
def O7{i:Nat}{o:Oper}{v:Value}{w':World}(hi:ops[i]? =some o)(hg:Region.wanted o (yielded ops a.tmps)=true)(e:(execOp a.eval o).run prog w=.ok (.value v) w')(h:K (a.put o.dst v) w'):wpOp prog ops Q i K a w:=by refine QR hi hg ?_;unfold Oper.wp;rw[e];exact h
def MR{i:Nat}{o:Oper}(x:Operand)(v:Value){nf:Nat}{fr:List Int}(hi:ops[i]? =some o)(hg:Region.wanted o (yielded ops a.tmps)=true)(ho:o.op=.call {callee:=.value (.func 105),args:= #[x,.const (.bool false)],argTypes:= #[23,4]})(hx:a.eval x=v)(hc:Calls prog 105 #[v,.bool false] w fun e w'=>∃a' Ak,e=.returned (.slice a' nf Ak)/\w'.ownsRow w.heap.size 3 1 (.slice a' nf Ak) nf (fr.map (Value.int .i64))/\Below w.heap.size w w')(h:∀a' Ak w',w'.ownsRow w.heap.size 3 1 (.slice a' nf Ak) nf (fr.map (Value.int .i64))->Below w.heap.size w w'->K (a.put o.dst (.slice a' nf Ak)) w'):wpOp prog ops Q i K a w:=by
 refine QR hi hg ?_;have e:(execOp a.eval o).run prog w=.ok (.enter 105 #[v,.bool false]) w:=by
  unfold execOp;simp only[ho]
  go_simp
  rw[<-hx];cases x<;>simp[Act.eval]
 unfold Oper.wp;rw[e];show Calls _ _ _ _ _;refine hc.mono ?_;rintro e w'⟨a',Ak,rfl,h1,h2⟩;exact h a' Ak w' h1 h2
def V9{i:Nat}{o:Oper}(x:Operand)(n:Int)(hi:ops[i]? =some o)(hg:Region.wanted o (yielded ops a.tmps)=true)(ho:o.op=.buildSlice 23 1 #[(0,x)])(hx:a.eval x=.int .i64 n)(h:K (a.put o.dst (.slice (some ⟨w.heap.size,0,none⟩) 1 1)) (w.alloc (.cells #[.int .i64 n] 3))):wpOp prog ops Q i K a w:=by
 refine O7 hi hg ?_ h;revert hx;generalize a.eval=ev;intro hx;unfold execOp;simp only[ho]
 go_simp
def TV{i:Nat}{o:Oper}(hi:ops[i]? =some o)(hg:Region.wanted o (yielded ops a.tmps)=true)(ho:o.op=.buildSlice 23 0 #[])(h:K (a.put o.dst (.slice (some ⟨w.heap.size,0,none⟩) 0 0)) (w.alloc (.cells #[] 3))):wpOp prog ops Q i K a w:=by
 refine O7 hi hg ?_ h;unfold execOp;simp only[ho]
 go_simp
def TW{i:Nat}{o:Oper}(hi:ops[i]? =some o)(hg:Region.wanted o (yielded ops a.tmps)=true)(ho:o.op=.alloc 25)(h:K (a.put o.dst (.pointer (some ⟨w.heap.size,0,none⟩))) (w.alloc (.cells #[.bool false,.slice none 0 0,.slice none 0 0] 25))):wpOp prog ops Q i K a w:=by
 refine O7 hi hg ?_ h;unfold execOp;simp only[ho]
 go_simp
def MU{i:Nat}{o:Oper}(x y z:Operand)(c:Bool)(s1 s2:Option Addr)(n1 n2 k1 k2:Nat)(hi:ops[i]? =some o)(hg:Region.wanted o (yielded ops a.tmps)=true)(ho:o.op=.build 25 #[(0,x),(1,y),(2,z)])(hx:a.eval x=.bool c)(hy:a.eval y=.slice s1 n1 k1)(hz:a.eval z=.slice s2 n2 k2)(h:K (a.put o.dst (.agg #[.bool c,.slice s1 n1 k1,.slice s2 n2 k2])) w):wpOp prog ops Q i K a w:=by
 refine O7 hi hg ?_ h;revert hx hy hz;generalize a.eval=ev;intro hx hy hz;unfold execOp;simp only[ho]
 go_simp
def OP{i:Nat}{o:Oper}(x y:Operand)(p:Nat)(c c':Bool)(s1 s2:Option Addr)(n1 n2 k1 k2:Nat)(v1 v2:Value)(hi:ops[i]? =some o)(hg:Region.wanted o (yielded ops a.tmps)=true)(ho:o.op=.store 25 x y)(hx:a.eval x=.pointer (some ⟨p,0,none⟩))(hy:a.eval y=.agg #[.bool c,.slice s1 n1 k1,.slice s2 n2 k2])(hz:Ai w p c' v1 v2)(h:K (a.put o.dst undef) (((w.setCell ⟨p,0,none⟩ (.bool c)).setCell ⟨p,1,none⟩ (.slice s1 n1 k1)).setCell ⟨p,2,none⟩ (.slice s2 n2 k2))):wpOp prog ops Q i K a w:=by
 refine QR hi hg ?_;obtain⟨i0,i1,i2,i3,i4,i5,i6⟩:=hz.all;have e:(execOp a.eval o).run prog w=.ok .skip (((w.setCell ⟨p,0,none⟩ (.bool c)).setCell ⟨p,1,none⟩ (.slice s1 n1 k1)).setCell ⟨p,2,none⟩ (.slice s2 n2 k2)):=by
  unfold execOp;simp only[ho,hx,hy]
  go_simp
 unfold Oper.wp;rw[e];exact h
end
def Dr{a:Act}{d e:Nat}{v:Value}(h:d≠e):(a.put (some d) v).eval (.tmp e)=a.eval (.tmp e):=DB true d e v a h
def DP(d:Nat)(v:Value)(a:Act)(h:d<a.tmps.size):(a.put (some d) v).eval (.tmp d)=v:=EC d v a h
def Gp{o:Oper}{a:Act}(x:Operand)(b k:Nat)(ho:o.op=.fieldAddr 25 x k)(hx:a.eval x=.pointer (some ⟨b,0,none⟩))(hk:k=0\/k=1)(w:World):(execOp a.eval o).run prog w=.ok (.value (.pointer (some ⟨b,k,none⟩))) w:=by
 unfold execOp;rcases hk with rfl|rfl;all_goals
  simp only[ho,hx]
  go_simp
def OD{o:Oper}{a:Act}(x:Operand)(p:Addr)(c:Bool)(ho:o.op=.load 4 x)(hx:a.eval x=.pointer (some p))(w:World)(hc:w.cell? p=some (.bool c)):(execOp a.eval o).run prog w=.ok (.value (.bool c)) w:=by
 unfold execOp;simp only[ho,hx]
 go_simp
def OC{o:Oper}{a:Act}(x:Operand)(p:Addr)(s:Option Addr)(l c:Nat)(ho:o.op=.load 23 x)(hx:a.eval x=.pointer (some p))(w:World)(hc:w.cell? p=some (.slice s l c)):(execOp a.eval o).run prog w=.ok (.value (.slice s l c)) w:=by
 unfold execOp;simp only[ho,hx]
 go_simp
def OB{o:Oper}{a:Act}(x:Operand)(v:Value)(ho:o.op=.move x)(hx:a.eval x=v)(w:World):(execOp a.eval o).run prog w=.ok (.value v) w:=by
 unfold execOp;simp only[ho,hx]
 go_simp
def Ve{o:Oper}{a:Act}(x y:Operand)(m n:Int)(ho:o.op=.binOp BinOp.add 3 x y 3)(hx:a.eval x=.int .i64 m)(hy:a.eval y=.int .i64 n)(h:IntKind.i64.wrap (m+n)=m+n)(w:World):(execOp a.eval o).run prog w=.ok (.value (.int .i64 (m+n))) w:=by
 unfold execOp;simp only[ho,hx,hy]
 go_simp
def Io(c d:Bool)(a1 a2 b1 b2:Addr)(n1 n2 m1 m2 c1 c2 d1 d2:Nat)(sh dt sh' dt':List Int)(fl:Bool)(w:World)(h1:AO w (some a1) n1 sh)(h2:AO w (some a2) n2 dt)(k1:AO w (some b1) m1 sh')(k2:AO w (some b2) m2 dt'):Calls prog 130 #[.agg #[.bool c,.slice (some a1) n1 c1,.slice (some a2) n2 c2],.agg #[.bool d,.slice (some b1) m1 d1,.slice (some b2) m2 d2],.bool fl] w (CJ w (Aw c d sh dt sh' dt' fl)):=by
 have hl1:=AD h1.len;have hl2:=AD h2.len;have hl3:=AD k1.len;have hl4:=AD k2.len;have hs1:=h1.small;have hs2:=h2.small;have hs3:=k1.small;have hs4:=k2.small;have H1:=AD h1;have H2:=AD h2;have K1:=AD k1;have K2:=AD k2;clear h1 h2 k1 k2;obtain⟨r1,hr1⟩:∃r,AJ c sh dt=r:=⟨_,rfl⟩
 obtain⟨r2,hr2⟩:∃r,AJ d sh' dt'=r:=⟨_,rfl⟩
 have HR1:=AD hr1;have HR2:=AD hr2;clear hr1 hr2;go_enter func130,ntmps130;go_wp2_with fail;refine(A0 _ _ _ _ _ _ _ sh dt _ ((((AA H1).alloc _).alloc _).alloc _) ((((AA H2).alloc _).alloc _).alloc _) _ HR1).mono ?_;rintro e w1⟨rfl,hb1⟩;obtain⟨B4,B5,B6,hB1⟩:=Az hb1;have hz1:=B6.lt;clear hb1;obtain⟨x0,x1,x2,x3,x4,x5,x6⟩:=B4.all;obtain⟨y0,y1,y2,y3,y4,y5,y6⟩:=B5.all;cases r1 with
 |false=>
  have HS:Hid (Aw c d sh dt sh' dt' fl=AT 3):=Vu (AA HR1);go_wp2_with fail;refine(Aa _).mono ?_;rintro e w9⟨rfl,hb9⟩;obtain⟨q0,q1,q2,q3,q4,q5,q6⟩:=((B6).below AC hb9).all;have hB9:=AD ((hB1).trans (hb9.mono (hB1).size));clear hb9 hB1 B4 B5 B6 hz1 x0 x1 x2 x3 x4 x5 x6 y0 y1 y2 y3 y4 y5 y6
  go_wp2
  refine bodyPost_ret (v:=.tuple #[.agg #[.bool false,.slice none 0 0,.slice none 0 0],.int .i64 3]) (by simp[results,results130,go_sem,q0,q1,q2]) rfl ?_;rw[AA HS];exact⟨none,0,0,none,0,0,rfl,AP _ _,AP _ _,(((AA hB9).setCell (by simp<;>omega) _).setCell (by simp<;>omega) _).setCell (by simp<;>omega) _⟩
 |true=>
  go_wp2_with fail;refine(A0 _ _ _ _ _ _ _ sh' dt' _ ((AA K1).below AC hB1) ((AA K2).below AC hB1) _ HR2).mono ?_;rintro e w2⟨rfl,hb2⟩;have C4:=AD (B4.below AC hb2);have C5:=AD (B5.below AC hb2);have C6:=AD (B6.below AC hb2);have hB2:=AD (hB1.trans (hb2.mono hB1.size));clear hb2 hB1 B4 B5 B6 hz1 x0 x1 x2 x3 x4 x5 x6 y0 y1 y2 y3 y4 y5 y6 w1;cases r2 with
  |false=>
   have HS:Hid (Aw c d sh dt sh' dt' fl=AT 3):=Vt (AA HR2);go_wp2_with fail;refine(Aa _).mono ?_;rintro e w9⟨rfl,hb9⟩;obtain⟨q0,q1,q2,q3,q4,q5,q6⟩:=((AA C6).below AC hb9).all;have hB9:=AD ((AA hB2).trans (hb9.mono (AA hB2).size));clear hb9 C4 C5 C6 hB2
   go_wp2
   refine bodyPost_ret (v:=.tuple #[.agg #[.bool false,.slice none 0 0,.slice none 0 0],.int .i64 3]) (by simp[results,results130,go_sem,q0,q1,q2]) rfl ?_;rw[AA HS];exact⟨none,0,0,none,0,0,rfl,AP _ _,AP _ _,(((AA hB9).setCell (by simp<;>omega) _).setCell (by simp<;>omega) _).setCell (by simp<;>omega) _⟩
  |true=>
   obtain⟨x0,x1,x2,x3,x4,x5,x6⟩:=(AA C4).all;obtain⟨r,hr⟩:∃r,Ae c n1=r:=⟨_,rfl⟩
   have HLC:=AD hr;clear hr;go_wp2_with fail;refine(EX c _ _ _ _ _ hs1 r HLC).mono ?_;rintro e w3⟨rfl,hb3⟩;have D4:=AD ((AA C4).below AC hb3);have D5:=AD ((AA C5).below AC hb3);have D6:=AD ((AA C6).below AC hb3);have hB3:=AD ((AA hB2).trans (hb3.mono (AA hB2).size));clear hb3 hB2 C4 C5 C6 x0 x1 x2 x3 x4 x5 x6 w2;by_cases hcode:r=0
   .subst hcode;have HL0:Hid (Ae c sh.length=0):=by show _=_;rw[AA hl1];exact AA HLC
    obtain⟨zs,hzs⟩:∃zs,zs=EM sh':=⟨_,rfl⟩
    have HOKZ:Hid (AJ d zs dt'=true):=by rw[hzs];exact Vr (AA HR2)
    have HZN:Hid (zs≠ []):=by rw[hzs];exact QB sh'
    have HZE:Hid (zs=EM sh'):=hzs;have HZ0:Hid (m1=0->zs=sh'++ [1]):=fun h=>by have:sh'= []:=Af.mp (by rw[AA hl3];exact h);rw[hzs,this];rfl
    have HZ1:Hid (m1≠0->zs=sh'):=fun h=>by have:sh'≠ []:=fun e=>h (by rw[<-AA hl3,e];rfl);rw[hzs];unfold EM;rw[AH this]
    have hm15:m1<=5:=by have:=(AW (AA HR2)).2.2;rw[AA hl3]at this;exact this
    clear hzs;obtain⟨y0,y1,y2,y3,y4,y5,y6⟩:=(AA D5).all;have hz6:=(AA D6).lt
    go_upto_if 39 with fail
    go_cut[] (fun wx=>∃(s1:Addr)(M e1:Nat),0<M/\M<=6/\AO wx (some s1) M zs/\Ai wx w.heap.size c (.slice (some a1) n1 c1) (.slice (some a2) n2 c2)/\Ai wx (w.heap.size+1) d (.slice (some s1) M e1) (.slice (some b2) m2 d2)/\Ai wx (w.heap.size+2) false (.slice none 0 0) (.slice none 0 0)/\Below w.heap.size w wx);case first=>as_aux_lemma=>
     by_cases hm0:m1=0
     .have g0:((m1:Int)==0)=true:=by simp[hm0]
      have HZ:=AD (AA HZ0 hm0);clear hm0;go_wp2_with(go_at_call 194;refine(FR d b1 (some b2) m1 m2 d1 d2 sh' _ ((AA K1).below AC (AA hB3)) (by omega)).mono ?_;rintro e w4⟨g,cap,rfl,ho,hb4⟩;have HO:=AD ho;have HB4:=AD hb4;clear ho hb4 y0 y1 y2 y3 y4 y5 y6;obtain⟨y0,y1,y2,y3,y4,y5,y6⟩:=((AA D5).below AC (AA HB4)).all)
      go_meet
      case rel=>
       obtain⟨_,_,ev,hO⟩:=Bt.of_owns (AA HO) (by omega);cases ev;have E4:=(AA D4).below AC (AA HB4);have E5:=(AA D5).below AC (AA HB4);have E6:=(AA D6).below AC (AA HB4);have hz3:=(AA hB3).size;refine⟨⟨g,0,none⟩,m1+1,cap,by omega,by omega,?_,?_,E5.sets,?_,?_⟩
       .rw[AA HZ];exact hO.row.sets E5 _ _ _
       .exact((E4.other (q:=⟨w.heap.size+1,0,none⟩) (by simp) _).other (q:=⟨w.heap.size+1,1,none⟩) (by simp) _).other (q:=⟨w.heap.size+1,2,none⟩) (by simp) _
       .exact((E6.other (q:=⟨w.heap.size+1,0,none⟩) (by simp) _).other (q:=⟨w.heap.size+1,1,none⟩) (by simp) _).other (q:=⟨w.heap.size+1,2,none⟩) (by simp) _
       .exact((((AA hB3).trans ((AA HB4).mono hz3)).setCell (by simp) _).setCell (by simp) _).setCell (by simp) _
     .have g0:((m1:Int)==0)=false:=by simp;omega
      have HZ:=AD (AA HZ1 hm0);have hmp:0<m1:=by omega
      clear hm0;go_wp2_with fail
      go_meet
      case rel=>exact⟨b1,m1,d1,hmp,by omega,by rw[AA HZ];exact(AA K1).below AC (AA hB3),AA D4,AA D5,AA D6,AA hB3⟩
    case rest=>
     obtain⟨w4,hw4⟩:∃x,x=wc:=⟨_,rfl⟩
     subst hw4;obtain⟨s1,M,e1,hM0,hM6,E2,f4,f5,f6,hbl⟩:=hcut;have HRW:=AD E2;have E4:=AD f4;have E5:=AD f5;have E6:=AD f6;have hB4:=AD hbl;clear E2 f4 f5 f6 hbl D4 D5 D6 hB3 y0 y1 y2 y3 y4 y5 y6 hz6 HZ0 HZ1 hm15 w3;obtain⟨B,L,A,hax,hprod,hBb,hLb,hAb⟩:=Pe fl (AA HOKZ) (AA HZN);rw[AA hl4]at hprod;have hca:=Gw (some s1) M e1 zs fl w4 (AA HRW) (AW (AA HOKZ)).1 hM0;rw[hax.b,hax.l,hax.a]at hca;obtain⟨m,hm⟩:∃m,m=KE dt sh' fl:=⟨_,rfl⟩
     obtain⟨hrN,hrM⟩:=TP dt sh' fl (L:=L) (K:=n2) (by rw[<-AA HZE];exact hax.l) (AA hl2);have hME:m=if L=1 then n2 else L:=by rw[hm];exact hrM
     have HRN:=AD hrN;have HMM:=AD hm;have HAX:=AD hax;have HPR:=AD hprod;clear hax hprod hm hrM hrN;obtain⟨y0,y1,y2,y3,y4,y5,y6⟩:=(AA E5).all;go_upto_region 9 with(go_at_call 106;refine hca.mono ?_;rintro e' w5⟨rfl,hb5⟩;have HB5':=AD hb5;clear hb5);have J4:=AD ((AA E4).below AC (AA HB5'));have J5:=AD ((AA E5).below AC (AA HB5'));have J6:=AD ((AA E6).below AC (AA HB5'));have HB5:=AD ((AA hB4).trans ((AA HB5').mono (AA hB4).size));have HRS:=AD ((AA HRW).below AC (AA HB5'));clear hca y0 y1 y2 y3 y4 y5 y6 E4 E5 E6 hB4 HB5' HRW w4;have H2J:=AD ((AA H2).below AC (AA HB5));have K2J:=AD ((AA K2).below AC (AA HB5));obtain⟨x0,x1,x2,x3,x4,x5,x6⟩:=(AA J4).all;by_cases herr:L≠1/\n2≠1/\n2≠L
     .have HS:Hid (Aw c d sh dt sh' dt' fl=AT 5):=TO (AA HR1) (AA HR2) (AA HL0) (by rw[AA HRN,AA hl2];exact herr);have g1:((L:Int)==1)=false:=by simp;omega
      have g2:((n2:Int) !=1)=true:=by simp;omega
      have g3:((n2:Int) !=(L:Int))=true:=by simp;omega
      clear herr hME;go_wp2_with fail;refine(Aa _).mono ?_;rintro e w9⟨rfl,hb9⟩;obtain⟨q0,q1,q2,q3,q4,q5,q6⟩:=((AA J6).below AC hb9).all;have hB9:=AD ((AA HB5).trans (hb9.mono (AA HB5).size));clear hb9 J4 J5 J6 HB5 x0 x1 x2 x3 x4 x5 x6
      go_wp2
      refine bodyPost_ret (v:=.tuple #[.agg #[.bool false,.slice none 0 0,.slice none 0 0],.int .i64 5]) (by simp[results,results130,go_sem,q0,q1,q2]) rfl ?_;rw[AA HS];exact⟨none,0,0,none,0,0,rfl,AP _ _,AP _ _,(((AA hB9).setCell (by simp<;>omega) _).setCell (by simp<;>omega) _).setCell (by simp<;>omega) _⟩
     .have HNE:Hid (¬(GV sh' fl≠1/\dt.length≠1/\dt.length≠GV sh' fl)):=by rw[AA HRN,AA hl2];exact herr
      have hmK:0<m->0<n2:=by
       intro h;by_cases h1:L=1
       .rw[AI h1]at hME;omega
       .rw[AH h1]at hME;omega
      have hmL:0<m->0<L:=by
       intro h;by_cases h1:L=1
       .omega
       .rw[AH h1]at hME;omega
      have hm1:m<=10000:=by have h5:=(AW (AA HR1)).1.bd;rw[(AW (AA HR1)).2.1,AA hl2]at h5;rw[hME];split<;>omega
      go_upto_if 52 with fail
      go_cut[12] (fun v wx=>w5=wx/\v=.int .i64 (m:Nat));case first=>as_aux_lemma=>
       by_cases h1:L=1
       .have g1:((L:Int)==1)=true:=by simp[h1]
        have HM:Hid (m=n2):=by show _=_;rw[hME,AI h1]
        clear h1 herr hME hmK hmL;go_wp2_with fail
        go_meet
        case rel=>exact⟨rfl,by rw[AA HM]⟩
       .have g1:((L:Int)==1)=false:=by simp;omega
        have HM:Hid (m=L):=by show _=_;rw[hME,AH h1]
        by_cases h2:n2=1
        .have g2:((n2:Int) !=1)=false:=by simp;omega
         clear h1 h2 herr hME hmK hmL;go_wp2_with fail
         go_meet
         case rel=>exact⟨rfl,by rw[AA HM]⟩
        .have g2:((n2:Int) !=1)=true:=by simp;omega
         have g3:((n2:Int) !=(L:Int))=false:=by simp;omega
         clear h1 h2 herr hME hmK hmL;go_wp2_with fail
         go_meet
         case rel=>exact⟨rfl,by rw[AA HM]⟩
      case rest=>
       obtain⟨rfl,rfl⟩:=hcut;clear herr hME;go_wp2_with fail
       go_loop [14] (fun i=>∃k:Nat,k<=n2/\i=.int .i64 k/\Hid ((dt.take k).all BE=true)) (fun i=>n2- (intOf i).toNat)
       case atStart=>exact⟨0,AS _,rfl,rfl⟩
       case round=>
        obtain⟨k,hk,rfl,hall⟩:=hrel;by_cases hlt:k<n2
        .obtain⟨ba,oa,hab,hblt,hc'⟩:=(AA H2J).get hlt;cases hab;have hks:Hid (k<dt.length):=by show k<dt.length;rw[AA hl2];exact hlt
         obtain⟨x,hx⟩:∃x,x=dt.getD k 0:=⟨_,rfl⟩
         rw[<-hx]at hc';have HX:=AD hx;clear hx;by_cases hneg:x<0
         .have HS:Hid (Aw c d sh dt sh' dt' fl=AT 3):=TN (AA HR1) (AA HR2) (AA HL0) (AA HNE) (Fk dt BE k (AA hks) (by rw[<-AA HX];exact AK (by omega)));go_wp2_with fail;refine(Aa _).mono ?_;rintro e w9⟨rfl,hb9⟩;obtain⟨q0,q1,q2,q3,q4,q5,q6⟩:=((AA J6).below AC hb9).all;have hB9:=AD ((AA HB5).trans (hb9.mono (AA HB5).size));clear hb9 J4 J5 J6 HB5 x0 x1 x2 x3 x4 x5 x6 hc'
          go_wp2
          refine bodyPost_ret (v:=.tuple #[.agg #[.bool false,.slice none 0 0,.slice none 0 0],.int .i64 3]) (by simp[results,results130,go_sem,q0,q1,q2]) rfl ?_;rw[AA HS];exact⟨none,0,0,none,0,0,rfl,AP _ _,AP _ _,(((AA hB9).setCell (by simp<;>omega) _).setCell (by simp<;>omega) _).setCell (by simp<;>omega) _⟩
         .have HA:=AD (FX dt BE k (AA hks) (AA hall) (by rw[<-AA HX];exact AL (by omega)))
          go_wp2
          go_round
          case rel=>exact⟨k+1,by omega,by go_num,HA⟩
          case measure=>simp[intOf];omega
        .have HA:Hid (dt.all BE=true):=by
          have:=AA hall
          rwa [AV (by rw[AA hl2];omega)]at this
         clear hall;have hlt':¬(k:Int)<(n2:Int):=by omega
         go_wp2_with fail;clear hlt' hlt hk;go_loopw[13,15] (fun s i wr=>∃(j:Nat)(sm:Nat),j<=m/\sm<=10000/\i=.int .i64 (j:Nat)/\s=.int .i64 (sm:Nat)/\Hid (A5 dt j=(sm:Int))/\Hid (Below w5.heap.size w5 wr)) (fun _ i _=>m- (intOf i).toNat);case atStart=>exact⟨0,0,AS _,AS _,rfl,rfl,AD rfl,AD AG⟩
         case round=>
          obtain⟨j,sm,hj,hsm,rfl,rfl,hsum,hbr⟩:=hrel;obtain⟨z0,z1,z2,z3,z4,z5,z6⟩:=((AA J4).below AC (AA hbr)).all;clear x0 x1 x2 x3 x4 x5 x6;by_cases hlt:j<m
          .have hn2:0<n2:=hmK (by omega);obtain⟨u,hu⟩:∃u,u=j % n2:=⟨_,rfl⟩
           have hul:u<n2:=by rw[hu];exact Nat.mod_lt _ hn2
           have hq1:(j:Int).tmod (n2:Int)=(u:Int):=by rw[Au (by omega),hu];rfl
           have hq2:(j:Int) % (n2:Int)=(u:Int):=by rw[hu];rfl
           have hu0:(0:Int)<=(u:Int):=by omega
           have hu1:(u:Int)<(n2:Int):=by omega
           have hn2':¬ n2=0:=by omega
           obtain⟨ba,oa,hab,hblt,hc'⟩:=((AA H2J).below AC (AA hbr)).get hul;cases hab;obtain⟨x,hx⟩:∃x,x=dt.getD u 0:=⟨_,rfl⟩
           rw[<-hx]at hc';have hxt:Br dt j=x:=by unfold Br;rw[AA hl2,<-hu,hx]
           have hx0:0<=x:=by rw[<-hxt];exact En (AA HA) j
           have hxb:x<=1000000000000000:=by rw[hx];exact(Bl (AA HR1) (by rw[AA hl2];exact hul)).2
           obtain⟨y,hy⟩:∃y:Nat,y=sm+x.toNat:=⟨_,rfl⟩
           have hyx:(sm:Int)+x=(y:Int):=by omega
           have hws:IntKind.i64.wrap ((sm:Int)+x)=(y:Int):=by rw[hyx,IntKind.wrap_i64];omega
           have HNS:Hid (A5 dt (j+1)=(y:Int)):=by show A5 dt j+Br dt j=_;rw[AA hsum,hxt,hyx]
           have hwy:IntKind.i64.wrap (y:Int)=(y:Int):=by rw[IntKind.wrap_i64];omega
           clear hu hx hxt hy hx0 hxb hyx;by_cases hbig:10000<y
           .have hbz:(10000:Int)<(y:Int):=by omega
            have HS:Hid (Aw c d sh dt sh' dt' fl=AT 7):=O1 (AA HR1) (AA HR2) (AA HL0) (AA HNE) (AA HA) (.inl (by rw[<-AA HMM];have h1:=JG (AA HA) (show j+1<=m by omega);have h2:=AA HNS;omega));clear hbig;go_wp2_with fail;go_quiet(fail);obtain⟨wd,hwd⟩:∃x,x=wr.drewN nq:=⟨_,rfl⟩
            have HWD:Hid (Below wr.heap.size wr wd):=by rw[hwd];exact Below.drewN AG _
            rw[<-hwd];clear hwd;have Q6:=AD (((AA J6).below AC (AA hbr)).below AC (AA HWD));have HBD:=AD ((AA HB5).trans (((AA hbr).trans ((AA HWD).mono (AA hbr).size)).mono (AA HB5).size));clear z0 z1 z2 z3 z4 z5 z6 hc';go_wp2_with fail;refine(Aa _).mono ?_;rintro e w9⟨rfl,hb9⟩;obtain⟨q0,q1,q2,q3,q4,q5,q6⟩:=((AA Q6).below AC hb9).all;have hB9:=AD ((AA HBD).trans (hb9.mono (AA HBD).size));clear hb9 Q6 HBD
            go_wp2
            refine bodyPost_ret (v:=.tuple #[.agg #[.bool false,.slice none 0 0,.slice none 0 0],.int .i64 7]) (by simp[results,results130,go_sem,q0,q1,q2]) rfl ?_;rw[AA HS];exact⟨none,0,0,none,0,0,rfl,AP _ _,AP _ _,(((AA hB9).setCell (by simp<;>omega) _).setCell (by simp<;>omega) _).setCell (by simp<;>omega) _⟩
           .have hbz:¬(10000:Int)<(y:Int):=by omega
            go_wp2_with fail;go_quiet(fail);go_wp2_with fail;go_roundw;case rel=>exact⟨j+1,y,by omega,by omega,by go_num,rfl,HNS,AD ((AA hbr).trans ((Below.drewN AG _).mono (AA hbr).size))⟩
            case measure=>simp[intOf];omega
          .have hjm:j=m:=by omega
           subst j;clear hlt hj;obtain⟨w6,hw6⟩:∃x,x=wr:=⟨_,rfl⟩
           subst hw6;have G4:=AD ((AA J4).below AC (AA hbr));have G5:=AD ((AA J5).below AC (AA hbr));have G6:=AD ((AA J6).below AC (AA hbr));have HB6:=AD ((AA HB5).trans ((AA hbr).mono (AA HB5).size));have HRZ:=AD ((AA HRS).below AC (AA hbr));have H2G:=AD ((AA H2J).below AC (AA hbr));have K2G:=AD ((AA K2J).below AC (AA hbr));clear J4 J5 J6 HB5 HRS H2J K2J hbr z0 z1 z2 z3 z4 z5 z6;obtain⟨y0,y1,y2,y3,y4,y5,y6⟩:=(AA G5).all;obtain⟨i0,hi,hz0,hz1,hz2⟩:=info_parts A6;have hB6z:=(AA HB6).size;have hz4:=(AA G4).lt;have hz5:=(AA G5).lt;have hz6:=(AA G6).lt;go_upto_region 26 with fail;go_cut[16] (fun r wx=>TE w6 d M zs r wx);case first=>as_aux_lemma=>
            have HKEEP:∀wx,Below w6.heap.size w6 wx->Below w6.heap.size w6 wx/\wx.cell? ⟨w.heap.size+1,0,none⟩=some (.bool d)/\wx.cell? ⟨w.heap.size+1,1,none⟩=some (.slice (some s1) M e1):=fun wx hwx=>⟨hwx,((AA G5).below AC hwx).cells.1,((AA G5).below AC hwx).cells.2.1⟩
            go_region_held (fun wx=>Below w6.heap.size w6 wx/\wx.cell? ⟨w.heap.size+1,0,none⟩=some (.bool d)/\wx.cell? ⟨w.heap.size+1,1,none⟩=some (.slice (some s1) M e1)) (first|(refine HKEEP _ ?_;repeat(first|exact hKA|exact AG|refine BF ?_|refine BD ?_ (by first|omega|(simp<;>omega)) _|refine BU ?_ (by first|omega|(simp<;>omega)) _))) (first
             |(go_at_call 71;refine(D3 _ _ _ zs _ ((AA HRZ).below AC (by repeat(first|exact AG|refine BF ?_|refine BD ?_ (by simp<;>omega) _)))).mono ?_;rintro e wA⟨ash,csh,rfl,hOA,hbA⟩;(have hKA:Below w6.heap.size w6 wA:=(by refine DZ ?_ (hbA.mono (by first|omega|(simp<;>omega)));repeat(first|exact AG|refine BF ?_|refine BD ?_ (by first|omega|(simp<;>omega)) _)));have hsA:=hKA.size;(first|(have hP5:=(Ai.new _ _ _ _).drew.below AC hbA;obtain⟨t0,t1,t2,t3,t4,t5,t6⟩:=hP5.free';(try simp at t0 t1 t2 t3 t4 t5 t6))|(have hP5:=((Ai.new _ _ _ _).alloc _).drew.below AC hbA;obtain⟨t0,t1,t2,t3,t4,t5,t6⟩:=hP5.free';(try simp at t0 t1 t2 t3 t4 t5 t6))|skip);(first|have hQ5:=(BA.new _).drew.below AC hbA|have hQ5:=((BA.new _).alloc _).drew.below AC hbA|skip)))
            all_goals go_wp2_with fail
            all_goals have HOW:Bt wA w6.heap.size ash M zs:=hOA.mono (by first|exact AC|(simp<;>omega))
            all_goals(go_meet;case rel=>first
             |with_reducible exact Jg HOW hKA
             |with_reducible exact Qd HOW hKA
             |with_reducible exact Qe HOW hKA hQ5 AC (fun x hx=>by have:=hOA.low hx;simp at this;omega)
             |with_reducible exact Tj HOW hKA (by simpa using hP5) (by first|exact AC|omega) (by simpa using hQ5) (by first|exact AC|omega) (fun x hx=>by have:=hOA.low hx;simp at this;omega)
             |with_reducible exact Qc HOW hKA (by simpa using hP5) (by first|exact AC|omega))
           case rest=>
            obtain⟨w7,hw7⟩:∃x,x=wc:=⟨_,rfl⟩
            subst hw7;obtain⟨p,g0,ash,csh,rfl,hbx,DI,hO,hb7,hp,hg,hne⟩:=hcut;clear y0 y1 y2 y3 y4 y5 y6;rcases hO.at_ with h|⟨gs,os,rfl,hgs,hgl,_,_⟩
            .omega
            have hgp:gs≠p:=hO.row.notBox hbx (DK (by omega));have hgg:gs≠g0:=hne gs (DK (by omega));have hg0p:g0≠p:=DI.notBox hbx;obtain⟨ZS,hZS⟩:∃ZS,ZS=Hs dt sh' fl:=⟨_,rfl⟩
            have HZT:Hid (ZS=if fl=true then zs.set 0 (sm:Int)else zs.set (M- 1) (sm:Int)):=by show _=_;rw[hZS,Vv,<-AA HZE,<-AA HMM,AA hsum,(AA HRZ).len]
            have HZZ:=AD hZS;clear hZS;have HBX:=AD hbx;have HBG:=AD DI;have HOB:=AD hO;have HBEL:=AD hb7;clear hbx DI hO hb7 hne;obtain⟨v0,v1,v2,v3,v4,v5,v6⟩:=(AA HBX).all
            go_upto_if 108 with fail
            go_cut[] (fun wx=>Ai wx p d (.slice (some ⟨gs,os,none⟩) M csh) (.slice (some ⟨g0,0,none⟩) 0 0)/\BA wx g0 []/\Bt wx w6.heap.size (some ⟨gs,os,none⟩) M ZS/\Below w6.heap.size w6 wx);case first=>as_aux_lemma=>
             obtain⟨bs,os',hbs,hbl,cs0⟩:=(AA HOB).row.get hM0;cases hbs;rcases(AA HOB).at_ with h|⟨_,_,hcs,_,_,hce,hfr⟩
             .omega
             cases hcs;cases fl with
             |true=>
              have c0:=hce 0 hM0;have f0:=hfr 0 hM0;simp only[G7]at c0 f0;have hM0z:(0:Int)<(M:Int):=by omega
              go_wp2_with fail
              go_meet
              case rel=>
               have hz:=AA HZT;simp only[G3]at hz;rw[hz];exact⟨(AA HBX).other (by simpa using hgp.symm) _,(AA HBG).other (by simpa using hgg.symm) _,(AA HOB).set (k:=0) hM0 _,(AA HBEL).setCell (by simpa using hgs) _⟩
             |false=>
              obtain⟨Mp,hMp⟩:∃Mp,M=Mp+1:=⟨M- 1,by omega⟩
              have c0:=hce Mp (by omega);have f0:=hfr Mp (by omega);have hMz:IntKind.i64.wrap ((M:Int)- 1)=(Mp:Int):=by rw[IntKind.wrap_i64];omega
              have hMe:(M:Int)- 1=(Mp:Int):=by omega
              have hMl:(Mp:Int)<(M:Int):=by omega
              have HMP:=AD hMp;clear hMp;go_wp2_with fail
              go_meet
              case rel=>
               have hz:=AA HZT;simp only[Bool.false_eq_true,Gh]at hz;rw[show M- 1=Mp by have:=AA HMP;omega]at hz;rw[hz];exact⟨(AA HBX).other (by simpa using hgp.symm) _,(AA HBG).other (by simpa using hgg.symm) _,(AA HOB).set (k:=Mp) (by have:=AA HMP;omega) _,(AA HBEL).setCell (by simpa using hgs) _⟩
            case rest=>
             obtain⟨w8,hw8⟩:∃x,x=wc:=⟨_,rfl⟩
             subst hw8;obtain⟨hbx,DI,hO,hbl⟩:=hcut;clear HBX HBG HOB HBEL v0 v1 v2 v3 v4 v5 v6;have N4:=AD ((AA G4).low hz4 hbl);have N5:=AD ((AA G5).low hz5 hbl);have N6:=AD ((AA G6).low hz6 hbl);have HB8:=AD ((AA HB6).trans (hbl.mono hB6z));have HBX:=AD hbx;have HOB:=AD hO;have HST0:Hid (GO w6 p d (some ⟨gs,os,none⟩) M csh ZS (DD dt dt' L A m 0 0 0 0) 0 w8 g0 0):=by show GO _ _ _ _ _ _ _ _ _ _ _ _;rw[OI];exact⟨hbx,DI.owns hg,hO,fun x hx=>by have:=DT hx;omega,hbl,hp⟩
             clear hbx DI hO hbl;obtain⟨sb,hsb⟩:∃r,Am ZS=r:=⟨_,rfl⟩
             have HSB:=AD hsb;clear hsb;obtain⟨v0,v1,v2,v3,v4,v5,v6⟩:=(AA HBX).all
             go_upto_if 124 with(go_at_call 158;refine(Db _ _ _ ZS _ (AA HOB).row sb HSB).mono ?_;rintro e w9⟨rfl,hw9⟩;obtain rfl:=hw9.symm)
             clear v0 v1 v2 v3 v4 v5 v6;cases sb with
             |false=>
              have HS:Hid (Aw c d sh dt sh' dt' fl=AT 7):=O1 (AA HR1) (AA HR2) (AA HL0) (AA HNE) (AA HA) (.inr (by rw[<-AA HZZ];exact AA HSB));clear HST0 HBX HOB;go_wp2_with fail;refine(Aa _).mono ?_;rintro e w9⟨rfl,hb9⟩;obtain⟨q0,q1,q2,q3,q4,q5,q6⟩:=((AA N6).below AC hb9).all;have hB9:=AD ((AA HB8).trans (hb9.mono (AA HB8).size));clear hb9 N4 N5 N6 HB8
              go_wp2
              refine bodyPost_ret (v:=.tuple #[.agg #[.bool false,.slice none 0 0,.slice none 0 0],.int .i64 7]) (by simp[results,results130,go_sem,q0,q1,q2]) rfl ?_;rw[AA HS];exact⟨none,0,0,none,0,0,rfl,AP _ _,AP _ _,(((AA hB9).setCell (by simp<;>omega) _).setCell (by simp<;>omega) _).setCell (by simp<;>omega) _⟩
             |true=>
              have HGO:Hid (Aw c d sh dt sh' dt' fl=⟨d,ZS,Dz dt dt' L A m B,0⟩):=by show _=_;rw[Vs (AA HR1) (AA HR2) (AA HL0) (AA HNE) (AA HA) (by rw[<-AA HMM,<-AA HZZ,AA hsum,AA HSB];rintro(h|h);(· omega);cases h),<-AA HZZ,<-AA HMM,AA HRN,<-AA HZE,(AA HAX).b,(AA HAX).a];simp
              have hsmm:A5 dt m<=10000:=by rw[AA hsum];omega
              have HLEN:Hid (∀P i cc q,P<=10000->i<=m->cc<=10000->(DD dt dt' L A m P i cc q).length<=2000000000000):=fun P i cc q hP hi hc=>UN (AA HA) dt' hP hAb hsmm hi hc;have HTI:Hid (∀i,i<m->∃y:Nat,Br dt i=(y:Int)/\y<=10000):=fun i hi=>by have h1:=En (AA HA) i;have h2:=JG (AA HA) (show i+1<=m by omega);have h3:=Om (AA HA) i;simp only[A5]at h2;exact⟨(Br dt i).toNat,by omega,by omega⟩
              have HTD:Hid (∀i,Br dt i=dt.getD (i % n2) 0):=fun i=>by unfold Br;rw[AA hl2]
              clear hsmm HBX HOB N4 N5 N6 HB8 HNE HL0 HZE HZT HOKZ HZN HAX HSB HZZ HMM hsum HA HRN HRZ;go_wp2_with fail;go_loopw[17] (fun v wr=>∃(P n g cap:Nat),P<=B/\v=.int .i64 (P:Nat)/\Hid (GO w6 p d (some ⟨gs,os,none⟩) M csh ZS (DD dt dt' L A m P 0 0 0) n wr g cap)) (fun v _=>B- (intOf v).toNat);case atStart=>exact⟨0,0,g0,0,AS _,rfl,HST0⟩
              case round=>
               obtain⟨P,n,g,cap,hP,rfl,hst⟩:=hrel;clear HST0;by_cases hlt:P<B
               .obtain⟨wo,hwo⟩:∃x,x=wr:=⟨_,rfl⟩
                subst hwo;go_wp2_with fail;go_loopw[18] (fun v wr=>∃(i n g cap:Nat),i<=m/\v=.int .i64 (i:Nat)/\Hid (GO w6 p d (some ⟨gs,os,none⟩) M csh ZS (DD dt dt' L A m P i 0 0) n wr g cap)) (fun v _=>m- (intOf v).toNat);case atStart=>exact⟨0,n,g,cap,AS _,rfl,hst⟩
                case round=>
                 clear hst wo n g cap;obtain⟨i,n,g,cap,hi',rfl,hst⟩:=hrel;by_cases hli:i<m
                 .have hn2:0<n2:=hmK (by omega);have hL0:0<L:=hmL (by omega);obtain⟨T,hT,hT4⟩:=AA HTI i hli;obtain⟨u,hu⟩:∃u,u=i % n2:=⟨_,rfl⟩
                  have hul:u<n2:=by rw[hu];exact Nat.mod_lt _ hn2
                  have hq1:(i:Int).tmod (n2:Int)=(u:Int):=by rw[Au (by omega),hu];rfl
                  have hq2:(i:Int) % (n2:Int)=(u:Int):=by rw[hu];rfl
                  have hu0:(0:Int)<=(u:Int):=by omega
                  have hu1:(u:Int)<(n2:Int):=by omega
                  have hn2':¬ n2=0:=by omega
                  have HDT:Hid (dt.getD u 0=(T:Int)):=by show _=_;rw[hu,<-AA HTD i];exact hT
                  have HTN:Hid ((Br dt i).toNat=T):=by show _=_;rw[hT];simp
                  clear hT hu;obtain⟨wo,hwo⟩:∃x,x=wr:=⟨_,rfl⟩
                  subst hwo;go_wp2_with fail;go_loopw[19] (fun v wr=>∃(cc n g cap:Nat),cc<=T/\v=.int .i64 (cc:Nat)/\Hid (GO w6 p d (some ⟨gs,os,none⟩) M csh ZS (DD dt dt' L A m P i cc 0) n wr g cap)) (fun v _=>T- (intOf v).toNat);case atStart=>exact⟨0,n,g,cap,AS _,rfl,hst⟩
                  case round=>
                   clear hst wo n g cap;obtain⟨cc,n,g,cap,hcT,rfl,hst⟩:=hrel;obtain⟨z0,z1,z2,z3,z4,z5,z6⟩:=((AA G4).low hz4 (AA hst).low).all;obtain⟨ba,oa,hab,hblt,hc'⟩:=((AA H2G).below AC (AA hst).low).get hul;cases hab;rw[AA HDT]at hc';by_cases hlc:cc<T
                   .have HLC':=AD hlc;clear hlc;go_wp2_with fail;have hlcz:decide ((cc:Int)<(T:Int))=true:=AL (by have:=AA HLC';omega)
                    go_big_quiet(fail)
                    have hlc:=AA HLC';clear HLC' hlcz;obtain⟨wd,hwd⟩:∃x,x=wr.drewN nq:=⟨_,rfl⟩
                    have hst2:Hid (GO w6 p d (some ⟨gs,os,none⟩) M csh ZS (DD dt dt' L A m P i cc 0) n wd g cap):=by rw[hwd];exact(AA hst).below (Below.drewN AG _)
                    rw[<-hwd];clear hwd hst z0 z1 z2 z3 z4 z5 z6 hc' hblt;go_wp2_with fail;go_loopw[20] (fun v wr=>∃(q n g cap:Nat),q<=A/\v=.int .i64 (q:Nat)/\Hid (GO w6 p d (some ⟨gs,os,none⟩) M csh ZS (DD dt dt' L A m P i cc q) n wr g cap)) (fun v _=>A- (intOf v).toNat);case atStart=>exact⟨0,n,g,cap,AS _,rfl,hst2⟩
                    case round=>
                     clear hst2 wd n g cap;obtain⟨q,n,g,cap,hq,rfl,hst⟩:=hrel;by_cases hlq:q<A
                     .obtain⟨u1,hu1'⟩:∃v,v=P*L:=⟨_,rfl⟩
                      obtain⟨u2,hu2⟩:∃v,v=i % L:=⟨_,rfl⟩
                      obtain⟨u3,hu3⟩:∃v,v=u1+u2:=⟨_,rfl⟩
                      obtain⟨u4,hu4⟩:∃v,v=u3*A:=⟨_,rfl⟩
                      obtain⟨J,hJ⟩:∃v,v=u4+q:=⟨_,rfl⟩
                      have hu2l:u2<L:=by rw[hu2];exact Nat.mod_lt _ hL0
                      have hJe:J=(P*L+i % L)*A+q:=by rw[hJ,hu4,hu3,hu1',hu2]
                      have hJl:J<m2:=by rw[hJe,<-AA HPR];exact JE hlt (by rw[<-hu2];exact hu2l) hlq
                      have hb1:u4<=J:=by omega
                      have hb2:u3<=u4:=by rw[hu4];exact Nat.le_mul_of_pos_right _ (by omega)
                      have a1':IntKind.i64.wrap ((P:Int)*(L:Int))=(u1:Int):=by rw[<-Int.natCast_mul,<-hu1',IntKind.wrap_i64];omega
                      have a3':IntKind.i64.wrap ((u1:Int)+(u2:Int))=(u3:Int):=by rw[IntKind.wrap_i64];omega
                      have a4':IntKind.i64.wrap ((u3:Int)*(A:Int))=(u4:Int):=by rw[<-Int.natCast_mul,<-hu4,IntKind.wrap_i64];omega
                      have a5':IntKind.i64.wrap ((u4:Int)+(q:Int))=(J:Int):=by rw[IntKind.wrap_i64];omega
                      obtain⟨bd,od,hbd,hbdl,hcx⟩:=(AA K2G).get hJl;cases hbd;obtain⟨x,hx⟩:∃x,x=dt'.getD J 0:=⟨_,rfl⟩
                      rw[<-hx]at hcx;have HSTEP:Hid (DD dt dt' L A m P i cc q++ [x]=DD dt dt' L A m P i cc (q+1)):=by have h:=YL (dt:=dt) (dt':=dt') (n:=L) (A:=A) (m:=m) (p:=P) (i:=i) (c:=cc) (q:=q) (by rw[<-hJe,AA hl4];exact hJl) hlq;rw[<-hJe,<-hx]at h;exact h
                      have hnl:n<=2000000000000:=by rw[<-(AA hst).len];exact AA HLEN P i cc q (by omega) hi' (by omega)
                      have hst':=AA hst;have HSX:∀wx,Ai wx p d (.slice (some ⟨gs,os,none⟩) M csh) (.slice (some ⟨g,0,none⟩) n cap)->Below w6.heap.size w6 wx->wx.cell? ⟨p,2,none⟩=some (.slice (some ⟨g,0,none⟩) n cap)/\wx.frozen? ⟨p,2,none⟩=false/\wx.cell? ⟨w.heap.size+1,2,none⟩=some (.slice (some ⟨bd,od,none⟩) m2 d2)/\wx.cell? ⟨bd,od+J,none⟩=some (.int .i64 x):=fun wx h1 h2=>by obtain⟨q0,q1,q2,q3,q4,q5,q6⟩:=h1.all;exact⟨q2,q5,((AA G5).low hz5 h2).cells.2.2,(h2.cell (p:=⟨bd,od+J,none⟩) hbdl).trans hcx⟩
                      have HU2:Hid (i % L=u2):=hu2.symm;clear hu1' hu2 hu3 hu4 hJ hJe hx hb1 hb2;go_wp2_with fail;refine Vz _ wr (by simp) p (w.heap.size+1) P L i A q u1 u2 u3 u4 J g n cap bd od m2 d2 x rfl rfl rfl rfl rfl rfl rfl a1' ⟨hL0,AA HU2,by omega⟩ a3' a4' a5' hJl ((DD dt dt' L A m P i cc q).map (Value.int .i64)) w6.heap.size hst'.owns hst'.low.size (by omega) (fun wx=>wx.cell? ⟨p,2,none⟩=some (.slice (some ⟨g,0,none⟩) n cap)/\wx.frozen? ⟨p,2,none⟩=false/\wx.cell? ⟨w.heap.size+1,2,none⟩=some (.slice (some ⟨bd,od,none⟩) m2 d2)/\wx.cell? ⟨bd,od+J,none⟩=some (.int .i64 x)) (fun wx h=>h) (fun wx hb=>HSX wx (hst'.box.below AC hb) (hst'.low.trans (hb.mono hst'.low.size))) (fun w7 hg=>HSX w7 (hst'.grew1 hg).1 (hst'.grew1 hg).2) (fun _ _ _ _ _ h=>h) ?_;intro g' Ak w7 BL An hat;have hst6:Hid (GO w6 p d (some ⟨gs,os,none⟩) M csh ZS (DD dt dt' L A m P i cc (q+1)) (n+1) (w7.setCell ⟨p,2,none⟩ (.slice (some ⟨g',0,none⟩) (n+1) Ak)) g' Ak):=by show GO _ _ _ _ _ _ _ _ _ _ _ _;rw[<-AA HSTEP];exact hst'.push1 BL An hat
                      clear hst' hst BL An hat HSX hcx;simp only[V6,Act.put,List.setIfInBounds_toArray,List.set_cons_zero,List.set_cons_succ];go_wp2_with fail;go_roundw;case rel=>exact⟨q+1,n+1,g',Ak,by omega,by go_num,hst6⟩
                      case measure=>simp[intOf];omega
                     .obtain rfl:q=A:=by omega
                      have hst3:Hid (GO w6 p d (some ⟨gs,os,none⟩) M csh ZS (DD dt dt' L q m P i (cc+1) 0) n wr g cap):=by show GO _ _ _ _ _ _ _ _ _ _ _ _;rw[<-YO];exact AA hst
                      go_wp2_with fail;go_roundw;case rel=>exact⟨cc+1,n,g,cap,by omega,by go_num,hst3⟩
                      case measure=>simp[intOf];omega
                   .have HCC:Hid (cc=T):=by show cc=T;omega
                    have hst3:Hid (GO w6 p d (some ⟨gs,os,none⟩) M csh ZS (DD dt dt' L A m P (i+1) 0 0) n wr g cap):=by show GO _ _ _ _ _ _ _ _ _ _ _ _;rw[<-YN,AA HTN,<-AA HCC];exact AA hst
                    clear hlc;go_wp2_with fail;have hlcz:decide ((cc:Int)<(T:Int))=false:=AK (by have:=AA HCC;omega);clear hcT
                    go_big_quiet(fail)
                    have hlt':¬ cc<T:=by have:=AA HCC;omega
                    clear hlcz;go_wp2_with fail;go_roundw;case rel=>exact⟨i+1,n,g,cap,by omega,by go_num,AD ((AA hst3).below (Below.drewN AG _))⟩
                    case measure=>simp[intOf];omega
                 .obtain rfl:i=m:=by omega
                  have hst3:Hid (GO w6 p d (some ⟨gs,os,none⟩) M csh ZS (DD dt dt' L A i (P+1) 0 0 0) n wr g cap):=by show GO _ _ _ _ _ _ _ _ _ _ _ _;rw[<-YM];exact AA hst
                  go_wp2_with fail;go_roundw;case rel=>exact⟨P+1,n,g,cap,by omega,by go_num,hst3⟩
                  case measure=>simp[intOf];omega
               .obtain rfl:P=B:=by omega
                have hst':=AA hst;have hnl:n<=2000000000000:=by rw[<-hst'.len];exact AA HLEN P 0 0 0 hBb (AS _) (by omega)
                have hst2:GO w6 p d (some ⟨gs,os,none⟩) M csh ZS (Dz dt dt' L A m P) n wr g cap:=by rw[<-OI (m:=m)];exact hst'
                obtain⟨ad',cd,hv,hD⟩:=Bt.of_owns hst2.owns (by omega);cases hv;have Z6:=AD ((AA G6).low hz6 hst2.low);obtain⟨v0,v1,v2,v3,v4,v5,v6⟩:=hst2.box.all;obtain⟨q0,q1,q2,q3,q4,q5,q6⟩:=(AA Z6).all;have HW6:=AD ((AA HB6).trans (hst2.low.mono hB6z));have HO6:=AD hst2.own;have HD:=AD hD;clear hst hst' hst2 hD
                go_wp2
                have hx:=(AA Z6).sets (c':=d) (u1:=.slice (some ⟨gs,os,none⟩) M csh) (u2:=.slice (some ⟨g,0,none⟩) n cap);obtain⟨r0,r1,r2,_,_,_⟩:=hx.all;refine bodyPost_ret (v:=.tuple #[.agg #[.bool d,.slice (some ⟨gs,os,none⟩) M csh,.slice (some ⟨g,0,none⟩) n cap],.int .i64 0]) (by simp[results,results130,go_sem,r0,r1,r2]) rfl ?_;rw[AA HGO];exact⟨some ⟨gs,os,none⟩,M,csh,some ⟨g,0,none⟩,n,cap,rfl,(AA HO6).row.sets (AA Z6) _ _ _,(AA HD).row.sets (AA Z6) _ _ _,(((AA HW6).setCell (by simp<;>omega) _).setCell (by simp<;>omega) _).setCell (by simp<;>omega) _⟩
   .have HS:Hid (Aw c d sh dt sh' dt' fl=AT r):=QA (AA HR1) (AA HR2) r (by rw[AA hl1];exact AA HLC) hcode;have hcb:(r !=0)=true:=by simp[hcode]
    clear hcode;go_wp2_with fail;refine(Aa _).mono ?_;rintro e w9⟨rfl,hb9⟩;obtain⟨q0,q1,q2,q3,q4,q5,q6⟩:=((AA D6).below AC hb9).all;have hB9:=AD ((AA hB3).trans (hb9.mono (AA hB3).size));clear hb9 D4 D5 D6 hB3
    go_wp2
    refine bodyPost_ret (v:=.tuple #[.agg #[.bool false,.slice none 0 0,.slice none 0 0],.int .i64 r]) (by simp[results,results130,go_sem,q0,q1,q2]) rfl ?_;rw[AA HS];exact⟨none,0,0,none,0,0,rfl,AP _ _,AP _ _,(((AA hB9).setCell (by simp<;>omega) _).setCell (by simp<;>omega) _).setCell (by simp<;>omega) _⟩
