import Derived.Test.YtgjpchnkodnieaaGreatDoorZ44
import Derived.Test.YtgjpchnkodnieaaGreatDoorZ28
import Derived.Test.YtgjpchnkodnieaaGreatDoorZ43
set_option maxRecDepth 20000
set_option maxHeartbeats 8000000
set_option linter.defProp false
namespace Go.Proofs.YtgjpchnkodnieaaGreatDoor
open Go.RowKit Tryz
section
open Go.Shelf
structure FD where
 ba:Nat
 oa:Nat
 p1:Nat
 e1:Nat
 A2:Addr
 p2:Nat
 e2:Nat
def FD.v1(s:FD):Value:=.slice (some ⟨s.ba,s.oa,none⟩) (s.p1+1) s.e1
def FD.v2(s:FD):Value:=.slice (some s.A2) s.p2 s.e2
def FD.val(s:FD)(c:Bool):Value:=.agg #[.bool c,s.v1,s.v2]
structure C9(s:FD)(L X:List Int)(w:World):Prop where
 r1:AO w (some ⟨s.ba,s.oa,none⟩) (s.p1+1) L
 r2:AO w (some s.A2) s.p2 X
 l1:s.p1+1<=s.e1
 l2:s.p2<=s.e2
def C9.below{s:FD}{L X:List Int}{w w':World}(h:C9 s L X w)(hb:Below w.heap.size w w'):C9 s L X w':=⟨h.r1.below AC hb,h.r2.below AC hb,h.l1,h.l2⟩
def C9.sets{s:FD}{L X:List Int}{w:World}{p n1 c1 n2 c2:Nat}{c:Bool}{a1 a2:Option Addr}(h:C9 s L X w)(hb:Ai w p c (.slice a1 n1 c1) (.slice a2 n2 c2))(x y z:Value):C9 s L X (((w.setCell ⟨p,0,none⟩ x).setCell ⟨p,1,none⟩ y).setCell ⟨p,2,none⟩ z):=⟨h.r1.sets hb x y z,h.r2.sets hb x y z,h.l1,h.l2⟩
def LF(c d:Bool)(a1 a2:Addr)(n1 n2 c1 c2:Nat)(o1:Addr)(m1 d1:Nat)(sh dt sh' dt':List Int)(w:World)(h1:AO w (some a1) n1 sh)(h2:AO w (some a2) n2 dt)(k1:AO w (some o1) m1 sh')(ok1:AJ c sh dt=true)(ok2:AJ d sh' dt'=true)(hc1:n1<=c1)(hc2:n2<=c2)(hd1:m1<=d1):Calls prog 288 #[.agg #[.bool c,.slice (some a1) n1 c1,.slice (some a2) n2 c2],.slice (some o1) m1 d1] w fun e w'=>∃s:FD,e=.returned (s.val c)/\C9 s (Ar sh sh') (BR sh dt sh') w'/\Below w.heap.size w w':=by refine(S5 c d a1 a2 n1 n2 c1 c2 o1 m1 d1 sh dt sh' dt' w h1 h2 k1 ok1 ok2 hc1 hc2 hd1).mono ?_;rintro e w'⟨ba,oa,p1,e1,A2,p2,e2,rfl,r1,r2,l1,l2,hb⟩;exact⟨⟨ba,oa,p1,e1,A2,p2,e2⟩,rfl,⟨r1,r2,l1,l2⟩,hb⟩
def bE:Oper:= {dst:=some 22,op:=Op.load 25 (Operand.tmp 2),type:=25,pos:= "l5_shape.go:54",after:= #[],guard:=none}
def bD:Oper:= {dst:=some 23,op:=Op.fieldAddr 25 (Operand.tmp 3) 1,type:=0,pos:= "l5_shape.go:54",after:= #[],guard:=none}
def bC:Oper:= {dst:=some 24,op:=Op.load 23 (Operand.tmp 23),type:=23,pos:= "l5_shape.go:54",after:= #[{on:=1,ground:=Ground.data}],guard:=none}
def a8:Oper:= {dst:=some 25,op:=Op.call {callee:=Callee.value (Operand.func 288),args:= #[Operand.tmp 22,Operand.tmp 24],argTypes:= #[25,23]},type:=25,pos:= "l5_shape.go:54",after:= #[{on:=0,ground:=Ground.data},{on:=2,ground:=Ground.data}],guard:=none}
def a7:Oper:= {dst:=some 26,op:=Op.load 25 (Operand.tmp 3),type:=25,pos:= "l5_shape.go:54",after:= #[],guard:=none}
def a6:Oper:= {dst:=some 27,op:=Op.fieldAddr 25 (Operand.tmp 2) 1,type:=0,pos:= "l5_shape.go:54",after:= #[],guard:=none}
def az:Oper:= {dst:=some 28,op:=Op.load 23 (Operand.tmp 27),type:=23,pos:= "l5_shape.go:54",after:= #[{on:=5,ground:=Ground.data}],guard:=none}
def ay:Oper:= {dst:=some 29,op:=Op.call {callee:=Callee.value (Operand.func 288),args:= #[Operand.tmp 26,Operand.tmp 28],argTypes:= #[25,23]},type:=25,pos:= "l5_shape.go:54",after:= #[{on:=4,ground:=Ground.data},{on:=6,ground:=Ground.data},{on:=3,ground:=Ground.chain}],guard:=none}
def aw:Oper:= {dst:=some 6,op:=Op.alloc 25,type:=0,pos:= "l5_shape.go:54",after:= #[],guard:=none}
def au:Oper:= {dst:=some 7,op:=Op.alloc 25,type:=0,pos:= "l5_shape.go:54",after:= #[],guard:=none}
def ZJ:Oper:= {dst:=none,op:=Op.store 25 (Operand.tmp 6) (Operand.tmp 25),type:=0,pos:= "l5_shape.go:54",after:= #[{on:=8,ground:=Ground.data},{on:=3,ground:=Ground.data},{on:=7,ground:=Ground.chain},{on:=0,ground:=Ground.phase},{on:=1,ground:=Ground.phase},{on:=2,ground:=Ground.phase},{on:=3,ground:=Ground.phase},{on:=4,ground:=Ground.textOnly Departure.lateStores},{on:=5,ground:=Ground.textOnly Departure.lateStores},{on:=6,ground:=Ground.textOnly Departure.lateStores},{on:=7,ground:=Ground.textOnly Departure.lateStoresUnsure},{on:=8,ground:=Ground.phase},{on:=9,ground:=Ground.phase}],guard:=none}
def ZI:Oper:= {dst:=none,op:=Op.store 25 (Operand.tmp 7) (Operand.tmp 29),type:=0,pos:= "l5_shape.go:54",after:= #[{on:=9,ground:=Ground.data},{on:=7,ground:=Ground.data},{on:=10,ground:=Ground.chain},{on:=0,ground:=Ground.phase},{on:=1,ground:=Ground.phase},{on:=2,ground:=Ground.phase},{on:=3,ground:=Ground.phase},{on:=4,ground:=Ground.phase},{on:=5,ground:=Ground.phase},{on:=6,ground:=Ground.phase},{on:=7,ground:=Ground.phase},{on:=8,ground:=Ground.phase},{on:=9,ground:=Ground.phase},{on:=10,ground:=Ground.phase}],guard:=none}
def Zj:Array Oper:= #[bE,bD,bC,a8,a7,a6,az,ay,aw,au,ZJ,ZI]
def KG(b:Bool)(d:Nat)(v:Value)(a:Act):Act:=if b then a.put (some d) v else a
def Ht(b:Bool)(d e:Nat)(v u:Value)(a:Act)(h:d≠e):(KG b d v a).put (some e) u=KG b d v (a.put (some e) u):=by
 cases b with
 |false=>rfl
 |true=>exact Act.put_comm a v u (x:=some d) (y:=some e) (by simp;exact fun hy=>h hy.symm)
def Bm(b:Bool)(d e:Nat)(v:Value)(a:Act)(h:d≠e):(KG b d v a).eval (.tmp e)=a.eval (.tmp e):=by
 cases b with
 |false=>rfl
 |true=>exact Act.eval_put (dst:=some d) (x:=.tmp e) (by simp;exact fun hy=>h hy.symm)
def EN(d:Nat)(v:Value)(a:Act)(h:d<a.tmps.size):(KG true d v a).eval (.tmp d)=v:=by simp[KG,Act.eval,Act.put,h]
def CI(b:Bool)(d:Nat)(v:Value)(a:Act):(KG b d v a).tmps.size=a.tmps.size:=by cases b<;>simp[KG,Act.put]
def Lh(a:Act)(dA dB dP dQ:Bool)(vA vB:Value)(p q:Nat):Act:=KG dQ 7 (.pointer (some ⟨q,0,none⟩)) (KG dP 6 (.pointer (some ⟨p,0,none⟩)) (KG dB 29 vB (KG dA 25 vA a)))
def bN(a:Act)(dP dQ:Bool)(vA vB v:Value)(p q:Nat):(Lh a false false dP dQ vA vB p q).put (some 25) v=Lh a true false dP dQ v vB p q:=by unfold Lh;rw[Ht _ _ _ _ _ _ (by decide),Ht _ _ _ _ _ _ (by decide)];rfl
def bM(a:Act)(dA dP dQ:Bool)(vA vB v:Value)(p q:Nat):(Lh a dA false dP dQ vA vB p q).put (some 29) v=Lh a dA true dP dQ vA v p q:=by unfold Lh;rw[Ht _ _ _ _ _ _ (by decide),Ht _ _ _ _ _ _ (by decide)];rfl
def bL(a:Act)(dA dB dQ:Bool)(vA vB:Value)(p p' q:Nat):(Lh a dA dB false dQ vA vB p q).put (some 6) (.pointer (some ⟨p',0,none⟩))=Lh a dA dB true dQ vA vB p' q:=by unfold Lh;rw[Ht _ _ _ _ _ _ (by decide)];rfl
def bK(a:Act)(dA dB dP:Bool)(vA vB:Value)(p q q':Nat):(Lh a dA dB dP false vA vB p q).put (some 7) (.pointer (some ⟨q',0,none⟩))=Lh a dA dB dP true vA vB p q':=rfl
structure VJ(W:World)(L X R Y:List Int)(dA dB dP dQ:Bool)(s u:FD)(p q:Nat)(w:World):Prop where
 hb:Below W.heap.size W w
 ha:dA=true->C9 s L X w
 ha':dB=true->C9 u R Y w
 hp:dP=true->Ai w p false (.slice none 0 0) (.slice none 0 0)/\W.heap.size<=p
 hq:dQ=true->Ai w q false (.slice none 0 0) (.slice none 0 0)/\W.heap.size<=q
 hpq:dP=true->dQ=true->p≠q
section
variable {W:World}{L X R Y:List Int}{dA dB dP dQ:Bool}{s u:FD}{p q:Nat}{w:World}
def VJ.P(h:VJ W L X R Y dA dB false dQ s u p q w):VJ W L X R Y dA dB true dQ s u w.heap.size q (w.alloc (.cells #[.bool false,.slice none 0 0,.slice none 0 0] 25))where
 hb:=h.hb.alloc h.hb.size _
 ha:=fun e=>(h.ha e).below ((AN _ w).alloc AC _)
 ha':=fun e=>(h.ha' e).below ((AN _ w).alloc AC _)
 hp:=fun _=>⟨Ai.new w _ _ _,h.hb.size⟩
 hq:=fun e=>⟨(h.hq e).1.alloc _,(h.hq e).2⟩
 hpq:=fun _ e=>by have:=(h.hq e).1.lt;omega
def VJ.Q(h:VJ W L X R Y dA dB dP false s u p q w):VJ W L X R Y dA dB dP true s u p w.heap.size (w.alloc (.cells #[.bool false,.slice none 0 0,.slice none 0 0] 25))where
 hb:=h.hb.alloc h.hb.size _
 ha:=fun e=>(h.ha e).below ((AN _ w).alloc AC _)
 ha':=fun e=>(h.ha' e).below ((AN _ w).alloc AC _)
 hq:=fun _=>⟨Ai.new w _ _ _,h.hb.size⟩
 hp:=fun e=>⟨(h.hp e).1.alloc _,(h.hp e).2⟩
 hpq:=fun e _=>by have:=(h.hp e).1.lt;omega
def VJ.A{w':World}{s':FD}(h:VJ W L X R Y false dB dP dQ s u p q w)(hs:C9 s' L X w')(hb:Below w.heap.size w w'):VJ W L X R Y true dB dP dQ s' u p q w' where
 hb:=h.hb.trans (hb.mono h.hb.size)
 ha:=fun _=>hs
 ha':=fun e=>(h.ha' e).below hb
 hp:=fun e=>⟨(h.hp e).1.below AC hb,(h.hp e).2⟩
 hq:=fun e=>⟨(h.hq e).1.below AC hb,(h.hq e).2⟩
 hpq:=h.hpq
def VJ.B{w':World}{u':FD}(h:VJ W L X R Y dA false dP dQ s u p q w)(hs:C9 u' R Y w')(hb:Below w.heap.size w w'):VJ W L X R Y dA true dP dQ s u' p q w' where
 hb:=h.hb.trans (hb.mono h.hb.size)
 ha':=fun _=>hs
 ha:=fun e=>(h.ha e).below hb
 hp:=fun e=>⟨(h.hp e).1.below AC hb,(h.hp e).2⟩
 hq:=fun e=>⟨(h.hq e).1.below AC hb,(h.hq e).2⟩
 hpq:=h.hpq
end
section
variable {ops:Array Oper}{Q:Exit->Act->World->Prop}{K:Act->World->Prop}{a:Act}{w:World}
def Gk{o:Oper}{y:Nat->Option Bool}(h:o.guard=none):Region.wanted o y=true:=by simp[Region.wanted,h]
def R0{i:Nat}{o:Oper}(hi:ops[i]? =some o)(hg:o.guard=none)(h:o.wp prog a w K Q):wpOp prog ops Q i K a w:=by
 unfold wpOp;rw[hi];show if Region.wanted o (yielded ops a.tmps)=true then _ else _
 rw[AI (Gk hg)];exact .inl h
def QU{i:Nat}{o:Oper}(x y:Nat)(v v':Value){c:Bool}{L X:List Int}(hi:ops[i]? =some o)(hg:o.guard=none)(ho:o.op=.call {callee:=.value (.func 288),args:= #[.tmp x,.tmp y],argTypes:= #[25,23]})(hx:a.eval (.tmp x)=v)(hy:a.eval (.tmp y)=v')(hc:Calls prog 288 #[v,v'] w fun e w'=>∃s:FD,e=.returned (s.val c)/\C9 s L X w'/\Below w.heap.size w w')(h:∀(s:FD)w',C9 s L X w'->Below w.heap.size w w'->K (a.put o.dst (s.val c)) w'):wpOp prog ops Q i K a w:=by
 refine R0 hi hg ?_;have e:(execOp a.eval o).run prog w=.ok (.enter 288 #[v,v']) w:=by
  unfold execOp;simp only[ho]
  go_simp
  rw[<-hx,<-hy];exact⟨by simp[Act.eval],by simp[Act.eval]⟩
 unfold Oper.wp;rw[e];show Calls _ _ _ _ _;refine hc.mono ?_;rintro e w'⟨s,rfl,h1,h2⟩;exact h s w' h1 h2
def QS{i:Nat}{o:Oper}(hi:ops[i]? =some o)(hg:o.guard=none)(ho:o.op=.alloc 25)(h:K (a.put o.dst (.pointer (some ⟨w.heap.size,0,none⟩))) (w.alloc (.cells #[.bool false,.slice none 0 0,.slice none 0 0] 25))):wpOp prog ops Q i K a w:=by
 refine R0 hi hg ?_;have e:(execOp a.eval o).run prog w=.ok (.value (.pointer (some ⟨w.heap.size,0,none⟩))) (w.alloc (.cells #[.bool false,.slice none 0 0,.slice none 0 0] 25)):=by
  unfold execOp;simp only[ho]
  go_simp
 unfold Oper.wp;rw[e];exact h
def QT{i:Nat}{o:Oper}(x y:Operand)(p:Nat){c:Bool}{s:FD}(hi:ops[i]? =some o)(hg:o.guard=none)(ho:o.op=.store 25 x y)(hx:a.eval x=.pointer (some ⟨p,0,none⟩))(hy:a.eval y=s.val c)(hz:Ai w p false (.slice none 0 0) (.slice none 0 0))(h:K (a.put o.dst undef) (((w.setCell ⟨p,0,none⟩ (.bool c)).setCell ⟨p,1,none⟩ s.v1).setCell ⟨p,2,none⟩ s.v2)):wpOp prog ops Q i K a w:=by
 refine R0 hi hg ?_;obtain⟨i0,i1,i2,i3,i4,i5⟩:=hz.all;have hy':a.eval y=.agg #[.bool c,.slice (some ⟨s.ba,s.oa,none⟩) (s.p1+1) s.e1,.slice (some s.A2) s.p2 s.e2]:=hy;have e:(execOp a.eval o).run prog w=.ok .skip (((w.setCell ⟨p,0,none⟩ (.bool c)).setCell ⟨p,1,none⟩ (.slice (some ⟨s.ba,s.oa,none⟩) (s.p1+1) s.e1)).setCell ⟨p,2,none⟩ (.slice (some s.A2) s.p2 s.e2)):=by
  unfold execOp;simp only[ho,hx,hy']
  go_simp
 unfold Oper.wp;rw[e];exact h
end
def ae(dA dB dP dQ:Bool):List Nat:=(if dA then[]else[3])++(if dA&&!dB then[7]else[])++(if dP then[]else[8])++(if dQ then[]else[9])++(if dA&&dB&&dP&&dQ then[10]else[])
def ZY:∀dA dB dP dQ:Bool,(dB=true->dA=true)->Region.ready .any Zj #[true,true,true,dA,true,true,true,dB,dP,dQ,false,false]=ae dA dB dP dQ:=by intro dA dB dP dQ h;cases dA<;>cases dB<;>cases dP<;>cases dQ<;>first|(exact absurd (h rfl) (by decide))|kernel_rfl
def ZR{dA dB dP dQ:Bool}{i:Nat}(h:i∈ae dA dB dP dQ):(i=3/\dA=false)\/(i=7/\dA=true/\dB=false)\/(i=8/\dP=false)\/(i=9/\dQ=false)\/(i=10/\dA=true/\dB=true/\dP=true/\dQ=true):=by cases dA<;>cases dB<;>cases dP<;>cases dQ<;>simp[ae]at h ⊢<;>simpa using h
def ZQ(dA dB dP dQ:Bool)(h:dB=true->dA=true):ae dA dB dP dQ≠ []:=by cases dA<;>cases dB<;>cases dP<;>cases dQ<;>first|(exact absurd (h rfl) (by decide))|simp[ae]
def nB(b:Bool):Nat:=if b then 0 else 1
def Tn(a:Act)(dA dB dP dQ:Bool)(vA vB:Value)(p q e:Nat)(h:e≠25/\e≠29/\e≠6/\e≠7):(Lh a dA dB dP dQ vA vB p q).eval (.tmp e)=a.eval (.tmp e):=by unfold Lh;rw[Bm _ _ _ _ _ (by omega),Bm _ _ _ _ _ (by omega),Bm _ _ _ _ _ (by omega),Bm _ _ _ _ _ (by omega)]
def aL(a:Act)(vA vB:Value)(p q:Nat)(h:30<=a.tmps.size):(Lh a true true true true vA vB p q).eval (.tmp 25)=vA:=by unfold Lh;rw[Bm _ _ _ _ _ (by decide),Bm _ _ _ _ _ (by decide),Bm _ _ _ _ _ (by decide),EN _ _ _ (by omega)]
def aK(a:Act)(vA vB:Value)(p q:Nat)(h:30<=a.tmps.size):(Lh a true true true true vA vB p q).eval (.tmp 29)=vB:=by unfold Lh;rw[Bm _ _ _ _ _ (by decide),Bm _ _ _ _ _ (by decide),EN _ _ _ (by rw[CI];omega)]
def bP(a:Act)(vA vB:Value)(p q:Nat)(h:30<=a.tmps.size):(Lh a true true true true vA vB p q).eval (.tmp 6)=.pointer (some ⟨p,0,none⟩):=by unfold Lh;rw[Bm _ _ _ _ _ (by decide),EN _ _ _ (by rw[CI,CI];omega)]
def bO(a:Act)(vA vB:Value)(p q:Nat)(h:30<=a.tmps.size):(Lh a true true true true vA vB p q).eval (.tmp 7)=.pointer (some ⟨q,0,none⟩):=by unfold Lh;rw[EN _ _ _ (by rw[CI,CI,CI];omega)]
def bQ{Q:Exit->Act->World->Prop}{S:World->Prop}(a:Act)(W:World)(hsz:30<=a.tmps.size)(s1 s2 t1 t2:Value)(h22:a.eval (.tmp 22)=s1)(h24:a.eval (.tmp 24)=s2)(h26:a.eval (.tmp 26)=t1)(h28:a.eval (.tmp 28)=t2)(c d:Bool)(L X R Y:List Int)(HK:∀wx,Below W.heap.size W wx->S wx)(HCA:∀wx,Below W.heap.size W wx->Calls prog 288 #[s1,s2] wx fun e w'=>∃s:FD,e=.returned (s.val c)/\C9 s L X w'/\Below wx.heap.size wx w')(HCB:∀wx,Below W.heap.size W wx->Calls prog 288 #[t1,t2] wx fun e w'=>∃s:FD,e=.returned (s.val d)/\C9 s R Y w'/\Below wx.heap.size wx w')(hend:∀p q(s u:FD)wx,Ai wx p c s.v1 s.v2->Ai wx q d u.v1 u.v2->C9 s L X wx->C9 u R Y wx->W.heap.size<=p->W.heap.size<=q->p≠q->Below W.heap.size W wx->Q .normal (Lh a true true true true (s.val c) (u.val d) p q) wx):∀(fuel:Nat)(dA dB dP dQ:Bool)(s u:FD)(p q:Nat)(w:World),(dB=true->dA=true)->nB dA+nB dB+nB dP+nB dQ+2<=fuel->VJ W L X R Y dA dB dP dQ s u p q w->wpAnyH prog .any Zj Q S fuel #[true,true,true,dA,true,true,true,dB,dP,dQ,false,false] (Lh a dA dB dP dQ (s.val c) (u.val d) p q) w:=by
 intro fuel;induction fuel with
 |zero=>intro dA dB dP dQ s u p q w _ h;omega
 |succ fuel ih=>
  intro dA dB dP dQ s u p q w hAB hn hI;refine wpAnyH_all (ZY dA dB dP dQ hAB) (ZQ dA dB dP dQ hAB) ?_;intro i hi;obtain⟨rfl,rfl⟩|⟨rfl,rfl,rfl⟩|⟨rfl,rfl⟩|⟨rfl,rfl⟩|⟨rfl,rfl,rfl,rfl,rfl⟩:=ZR hi
  .have hB:dB=false:=by cases dB with
    |false=>rfl
    |true=>exact absurd (hAB rfl) (by decide)
   subst hB;refine QU (o:=a8) 22 24 s1 s2 (c:=c) (L:=L) (X:=X) rfl rfl rfl (by rw[Tn _ _ _ _ _ _ _ _ _ _ (by decide),h22]) (by rw[Tn _ _ _ _ _ _ _ _ _ _ (by decide),h24]) (HCA _ hI.hb) ?_;intro s' w' hs hb;have hI':=hI.A hs hb;refine⟨HK _ hI'.hb,?_⟩;have:=ih true false dP dQ s' u p q w' (fun _=>rfl) (by simp[nB]at hn ⊢;omega) hI';exact(bN a dP dQ (s.val c) (u.val d) (s'.val c) p q)▸this
  .refine QU (o:=ay) 26 28 t1 t2 (c:=d) (L:=R) (X:=Y) rfl rfl rfl (by rw[Tn _ _ _ _ _ _ _ _ _ _ (by decide),h26]) (by rw[Tn _ _ _ _ _ _ _ _ _ _ (by decide),h28]) (HCB _ hI.hb) ?_;intro u' w' hs hb;have hI':=hI.B hs hb;refine⟨HK _ hI'.hb,?_⟩;have:=ih true true dP dQ s u' p q w' (fun _=>rfl) (by simp[nB]at hn ⊢;omega) hI';exact(bM a true dP dQ (s.val c) (u.val d) (u'.val d) p q)▸this
  .refine QS (o:=aw) rfl rfl rfl ?_;have hI':=hI.P;refine⟨HK _ hI'.hb,?_⟩;have:=ih dA dB true dQ s u w.heap.size q _ hAB (by simp[nB]at hn ⊢;omega) hI';exact(bL a dA dB dQ (s.val c) (u.val d) p w.heap.size q)▸this
  .refine QS (o:=au) rfl rfl rfl ?_;have hI':=hI.Q;refine⟨HK _ hI'.hb,?_⟩;have:=ih dA dB dP true s u p w.heap.size _ hAB (by simp[nB]at hn ⊢;omega) hI';exact(bK a dA dB dP (s.val c) (u.val d) p q w.heap.size)▸this
  .obtain⟨m,rfl⟩:∃m,fuel=m+1:=⟨fuel- 1,by simp[nB]at hn;omega⟩
   obtain⟨hz,hp⟩:=hI.hp rfl;obtain⟨hz',hq⟩:=hI.hq rfl;have hpq:=hI.hpq rfl rfl;refine QT (o:=ZJ) (.tmp 6) (.tmp 25) p (c:=c) (s:=s) rfl rfl rfl (bP _ _ _ _ _ hsz) (aL _ _ _ _ _ hsz) hz ?_;have hb1:=((hI.hb.setCell (p:=⟨p,0,none⟩) hp (.bool c)).setCell (p:=⟨p,1,none⟩) hp s.v1).setCell (p:=⟨p,2,none⟩) hp s.v2;refine⟨HK _ hb1,?_⟩;refine wpAnyH_all (rs:= [11]) (by kernel_rfl) (by simp) ?_;intro i hi;obtain rfl:i=11:=by simpa using hi
   have hz2:=((hz'.other (q:=⟨p,0,none⟩) hpq.symm (.bool c)).other (q:=⟨p,1,none⟩) hpq.symm s.v1).other (q:=⟨p,2,none⟩) hpq.symm s.v2;refine QT (o:=ZI) (.tmp 7) (.tmp 29) q (c:=d) (s:=u) rfl rfl rfl (bO _ _ _ _ _ hsz) (aK _ _ _ _ _ hsz) hz2 ?_;have hb2:=((hb1.setCell (p:=⟨q,0,none⟩) hq (.bool d)).setCell (p:=⟨q,1,none⟩) hq u.v1).setCell (p:=⟨q,2,none⟩) hq u.v2;refine⟨HK _ hb2,?_⟩;refine wpAnyH_done (by kernel_rfl) ?_ _;refine hend p q s u _ ?_ hz2.sets (((hI.ha rfl).sets hz _ _ _).sets hz2 _ _ _) (((hI.ha' rfl).sets hz _ _ _).sets hz2 _ _ _) hp hq hpq hb2;exact(((hz.sets (c':=c) (u1:=s.v1) (u2:=s.v2)).other (q:=⟨q,0,none⟩) hpq _).other (q:=⟨q,1,none⟩) hpq _).other (q:=⟨q,2,none⟩) hpq _
section
variable {o:Oper}{a:Act}
def ci(x:Operand)(b:Nat)(ho:o.op=.fieldAddr 25 x 1)(hx:a.eval x=.pointer (some ⟨b,0,none⟩))(w:World):(execOp a.eval o).run prog w=.ok (.value (.pointer (some ⟨b,1,none⟩))) w:=by
 unfold execOp;simp only[ho,hx]
 go_simp
def ce(x:Operand)(p:Addr){s:Option Addr}{l c:Nat}(ho:o.op=.load 23 x)(hx:a.eval x=.pointer (some p))(w:World)(hc:w.cell? p=some (.slice s l c)):(execOp a.eval o).run prog w=.ok (.value (.slice s l c)) w:=by
 unfold execOp;simp only[ho,hx]
 go_simp
def cj(x:Operand)(b:Nat){c:Bool}{s1 s2:Option Addr}{l1 c1 l2 c2:Nat}(ho:o.op=.load 25 x)(hx:a.eval x=.pointer (some ⟨b,0,none⟩))(w:World)(hb:Ai w b c (.slice s1 l1 c1) (.slice s2 l2 c2)):(execOp a.eval o).run prog w=.ok (.value (.agg #[.bool c,.slice s1 l1 c1,.slice s2 l2 c2])) w:=by
 obtain⟨x0,x1,x2,_,_,_⟩:=hb.all;unfold execOp;simp only[ho,hx]
 go_simp
end
def ag(a:Act)(b2 b3:Nat)(vA vB s1 t1 uA uB:Value)(p q:Nat):Act:=Lh ((((((a.put (some 22) vA).put (some 23) (.pointer (some ⟨b3,1,none⟩))).put (some 24) t1).put (some 26) vB).put (some 27) (.pointer (some ⟨b2,1,none⟩))).put (some 28) s1) true true true true uA uB p q
def YS{Q:Exit->Act->World->Prop}(a:Act)(W:World)(hsz:30<=a.tmps.size)(b2 b3:Nat)(h2:a.eval (.tmp 2)=.pointer (some ⟨b2,0,none⟩))(h3:a.eval (.tmp 3)=.pointer (some ⟨b3,0,none⟩))(c d:Bool)(o1 o2 o3 o4:Option Addr)(n1 c1 n2 c2 m1 d1 m2 d2:Nat)(L X R Y:List Int)(HK:∀wx,Below W.heap.size W wx->Ai wx b2 c (.slice o1 n1 c1) (.slice o2 n2 c2)/\Ai wx b3 d (.slice o3 m1 d1) (.slice o4 m2 d2))(HCA:∀wx,Below W.heap.size W wx->Calls prog 288 #[.agg #[.bool c,.slice o1 n1 c1,.slice o2 n2 c2],.slice o3 m1 d1] wx fun e w'=>∃s:FD,e=.returned (s.val c)/\C9 s L X w'/\Below wx.heap.size wx w')(HCB:∀wx,Below W.heap.size W wx->Calls prog 288 #[.agg #[.bool d,.slice o3 m1 d1,.slice o4 m2 d2],.slice o1 n1 c1] wx fun e w'=>∃s:FD,e=.returned (s.val d)/\C9 s R Y w'/\Below wx.heap.size wx w')(hQ:∀c a(d:Nat)v w,Q (.panic c) (a.put (some d) v) w->Q (.panic c) a w)(hend:∀p q(s u:FD)wx,Ai wx p c s.v1 s.v2->Ai wx q d u.v1 u.v2->C9 s L X wx->C9 u R Y wx->W.heap.size<=p->W.heap.size<=q->p≠q->Below W.heap.size W wx->Q .normal (ag a b2 b3 (.agg #[.bool c,.slice o1 n1 c1,.slice o2 n2 c2]) (.agg #[.bool d,.slice o3 m1 d1,.slice o4 m2 d2]) (.slice o1 n1 c1) (.slice o3 m1 d1) (s.val c) (u.val d) p q) wx):(Code.region 3 Zj true).wp prog Q a W:=by
 have hb0:Below W.heap.size W {W with drawn:=W.drawn+1}:=AG.drew;have hS:=HK _ hb0;refine wp_region_held (S:=fun wx=>Ai wx b2 c (.slice o1 n1 c1) (.slice o2 n2 c2)/\Ai wx b3 d (.slice o3 m1 d1) (.slice o4 m2 d2)) (by kernel_rfl) ?_;show wpAnyH _ _ _ _ _ (11+1) _ _ _;refine wpAnyH_take (i:=0) (oi:=bE) (v:=.agg #[.bool c,.slice o1 n1 c1,.slice o2 n2 c2]) rfl (by kernel_rfl) (by kernel_rfl) (by kernel_rfl) (fun c a w h=>hQ c a _ _ w h) (Or.inl ⟨Gk rfl,fun w hw=>cj (.tmp 2) b2 rfl h2 w hw.1⟩) hS ?_;refine wpAnyH_take (i:=1) (oi:=bD) (v:=.pointer (some ⟨b3,1,none⟩)) rfl (by kernel_rfl) (by kernel_rfl) (by kernel_rfl) (fun c a w h=>hQ c a _ _ w h) (Or.inl ⟨Gk rfl,fun w hw=>ci (.tmp 3) b3 rfl ((Bm true 22 3 _ _ (by decide)).trans h3) w⟩) hS ?_;refine wpAnyH_take (i:=2) (oi:=bC) (v:=.slice o3 m1 d1) rfl (by kernel_rfl) (by kernel_rfl) (by kernel_rfl) (fun c a w h=>hQ c a _ _ w h) (Or.inl ⟨Gk rfl,fun w hw=>ce (.tmp 23) _ rfl (EN 23 _ (KG true 22 _ a) (by rw[CI];omega)) w hw.2.cells.2.1⟩) hS ?_;refine wpAnyH_take (i:=4) (oi:=a7) (v:=.agg #[.bool d,.slice o3 m1 d1,.slice o4 m2 d2]) rfl (by kernel_rfl) (by kernel_rfl) (by kernel_rfl) (fun c a w h=>hQ c a _ _ w h) (Or.inl ⟨Gk rfl,fun w hw=>cj (.tmp 3) b3 rfl ((Bm true 24 3 _ _ (by decide)).trans ((Bm true 23 3 _ _ (by decide)).trans ((Bm true 22 3 _ _ (by decide)).trans h3))) w hw.2⟩) hS ?_;refine wpAnyH_take (i:=5) (oi:=a6) (v:=.pointer (some ⟨b2,1,none⟩)) rfl (by kernel_rfl) (by kernel_rfl) (by kernel_rfl) (fun c a w h=>hQ c a _ _ w h) (Or.inl ⟨Gk rfl,fun w hw=>ci (.tmp 2) b2 rfl ((Bm true 26 2 _ _ (by decide)).trans ((Bm true 24 2 _ _ (by decide)).trans ((Bm true 23 2 _ _ (by decide)).trans ((Bm true 22 2 _ _ (by decide)).trans h2)))) w⟩) hS ?_;refine wpAnyH_take (i:=6) (oi:=az) (v:=.slice o1 n1 c1) rfl (by kernel_rfl) (by kernel_rfl) (by kernel_rfl) (fun c a w h=>hQ c a _ _ w h) (Or.inl ⟨Gk rfl,fun w hw=>ce (.tmp 27) _ rfl (EN 27 _ (KG true 26 _ (KG true 24 _ (KG true 23 _ (KG true 22 _ a)))) (by rw[CI,CI,CI,CI];omega)) w hw.1.cells.2.1⟩) hS ?_;refine bQ ((((((a.put (some 22) (.agg #[.bool c,.slice o1 n1 c1,.slice o2 n2 c2])).put (some 23) (.pointer (some ⟨b3,1,none⟩))).put (some 24) (.slice o3 m1 d1)).put (some 26) (.agg #[.bool d,.slice o3 m1 d1,.slice o4 m2 d2])).put (some 27) (.pointer (some ⟨b2,1,none⟩))).put (some 28) (.slice o1 n1 c1)) W (by simp[Act.put];omega) (.agg #[.bool c,.slice o1 n1 c1,.slice o2 n2 c2]) (.slice o3 m1 d1) (.agg #[.bool d,.slice o3 m1 d1,.slice o4 m2 d2]) (.slice o1 n1 c1) ?_ ?_ ?_ ?_ c d L X R Y HK HCA HCB hend 6 false false false false ⟨0,0,0,0,⟨0,0,none⟩,0,0⟩ ⟨0,0,0,0,⟨0,0,none⟩,0,0⟩ 0 0 _ (by simp) (by simp[nB]) ⟨hb0,by simp,by simp,by simp,by simp,by simp⟩
 .exact(Bm true 28 22 _ _ (by decide)).trans ((Bm true 27 22 _ _ (by decide)).trans ((Bm true 26 22 _ _ (by decide)).trans ((Bm true 24 22 _ _ (by decide)).trans ((Bm true 23 22 _ _ (by decide)).trans (EN 22 _ a (by omega))))))
 .exact(Bm true 28 24 _ _ (by decide)).trans ((Bm true 27 24 _ _ (by decide)).trans ((Bm true 26 24 _ _ (by decide)).trans (EN 24 _ (KG true 23 _ (KG true 22 _ a)) (by rw[CI,CI];omega))))
 .exact(Bm true 28 26 _ _ (by decide)).trans ((Bm true 27 26 _ _ (by decide)).trans (EN 26 _ (KG true 24 _ (KG true 23 _ (KG true 22 _ a))) (by rw[CI,CI,CI];omega)))
 .exact EN 28 _ (KG true 27 _ (KG true 26 _ (KG true 24 _ (KG true 23 _ (KG true 22 _ a))))) (by rw[CI,CI,CI,CI,CI];omega)
end
section
open Go.Shelf
def Xl{c d:Bool}{sh dt sh' dt':List Int}{J:Int}(h1:AJ c sh dt=true)(h2:AJ d sh' dt'=true)(hJ:Ii c d (Ar sh sh') (BR sh dt sh') (Ar sh' sh) (BR sh' dt' sh)=J)(h0:J≠0):BV c d sh dt sh' dt'=AT J:=by
 unfold Ii at hJ;by_cases hl:(Ar sh sh').length=(Ar sh' sh).length
 .rw[AH (by simp[hl])]at hJ;by_cases hf:A9 (Ar sh sh')=A9 (Ar sh' sh)
  .rw[AH (by simp[hf])]at hJ;by_cases hd:c≠d/\BR sh dt sh'≠ []/\BR sh' dt' sh≠ []
   .rw[AI hd]at hJ;rw[<-hJ];exact Tt h1 h2 rfl rfl rfl rfl hl hf hd
   .rw[AH hd]at hJ;exact absurd hJ.symm h0
  .rw[AI hf]at hJ;rw[<-hJ];exact Ts h1 h2 rfl rfl hl hf
 .rw[AI hl]at hJ;rw[<-hJ];exact RH h1 h2 hl
def Uh{c d:Bool}{L X R Y:List Int}(h:Ii c d L X R Y=0):L.length=R.length/\A9 L=A9 R/\¬(c≠d/\X≠ []/\Y≠ []):=by
 unfold Ii at h;by_cases hl:L.length=R.length
 .rw[AH (by simp[hl])]at h;by_cases hf:A9 L=A9 R
  .rw[AH (by simp[hf])]at h;by_cases hd:c≠d/\X≠ []/\Y≠ []
   .rw[AI hd]at h;omega
   .exact⟨hl,hf,hd⟩
  .rw[AI hf]at h;omega
 .rw[AI hl]at h;omega
def Vb{L:List Int}{p:Nat}(h:L.length=p+1)(v:Int):L.set p v=A9 L++ [v]:=by
 have hne:L≠ []:=by intro e;rw[e]at h;simp at h
 have hf:(A9 L).length=p:=by simp[A9];omega
 conv=>lhs;rw[Fu hne]
 rw[DC _ _ (by omega),hf];simp
def PR(c d:Bool)(a1 a2 b1 b2:Addr)(n1 n2 m1 m2 c1 c2 d1 d2:Nat)(sh dt sh' dt':List Int)(w:World)(h1:AO w (some a1) n1 sh)(h2:AO w (some a2) n2 dt)(k1:AO w (some b1) m1 sh')(k2:AO w (some b2) m2 dt')(hr1:AJ c sh dt=false):Calls prog 260 #[.agg #[.bool c,.slice (some a1) n1 c1,.slice (some a2) n2 c2],.agg #[.bool d,.slice (some b1) m1 d1,.slice (some b2) m2 d2]] w (Ag w (AT 3)):=by have HR1:=AD hr1;have H1:=AD h1;have H2:=AD h2;have K1:=AD k1;have K2:=AD k2;clear h1 h2 k1 k2 hr1;go_enter func260,ntmps260;go_wp2_with(first|(go_at_call_of 51 (Value.agg #[Value.bool c,Value.slice (some a1) n1 c1,Value.slice (some a2) n2 c2]);refine(AR c (some a1) (some a2) n1 n2 c1 c2 sh dt _ ((((AA H1).alloc _).alloc _).alloc _) ((((AA H2).alloc _).alloc _).alloc _) _ HR1).mono ?_;rintro e w1⟨rfl,hb1⟩;obtain⟨B0,B1,B2,hB1⟩:=Az hb1;have HB0:=AD B0;have HB1:=AD B1;have HB2:=AD B2;have HB:=AD hB1;obtain⟨x0,x1,x2,x3,x4,x5,x6⟩:=B0.all;obtain⟨y0,y1,y2,y3,y4,y5,y6⟩:=B1.all;obtain⟨q0,q1,q2,q3,q4,q5,q6⟩:=B2.all;clear hb1 hB1 B0 B1 B2));refine bodyPost_ret (v:=.tuple #[.agg #[.bool false,.slice none 0 0,.slice none 0 0],.int .i64 3]) (by simp[results,results260,go_sem,q0,q1,q2]) rfl ?_;exact As ((((AA HB).setCell (by simp<;>omega) _).setCell (by simp<;>omega) _).setCell (by simp<;>omega) _)
def PQ(c d:Bool)(a1 a2 b1 b2:Addr)(n1 n2 m1 m2 c1 c2 d1 d2:Nat)(sh dt sh' dt':List Int)(w:World)(h1:AO w (some a1) n1 sh)(h2:AO w (some a2) n2 dt)(k1:AO w (some b1) m1 sh')(k2:AO w (some b2) m2 dt')(hr1:AJ c sh dt=true)(hr2:AJ d sh' dt'=false):Calls prog 260 #[.agg #[.bool c,.slice (some a1) n1 c1,.slice (some a2) n2 c2],.agg #[.bool d,.slice (some b1) m1 d1,.slice (some b2) m2 d2]] w (Ag w (AT 3)):=by have HR1:=AD hr1;have HR2:=AD hr2;have H1:=AD h1;have H2:=AD h2;have K1:=AD k1;have K2:=AD k2;clear h1 h2 k1 k2 hr1 hr2;go_enter func260,ntmps260;go_wp2_with(first|(go_at_call_of 51 (Value.agg #[Value.bool c,Value.slice (some a1) n1 c1,Value.slice (some a2) n2 c2]);refine(AR c (some a1) (some a2) n1 n2 c1 c2 sh dt _ ((((AA H1).alloc _).alloc _).alloc _) ((((AA H2).alloc _).alloc _).alloc _) _ HR1).mono ?_;rintro e w1⟨rfl,hb1⟩;obtain⟨B0,B1,B2,hB1⟩:=Az hb1;have HB0:=AD B0;have HB1:=AD B1;have HB2:=AD B2;have HB:=AD hB1;obtain⟨x0,x1,x2,x3,x4,x5,x6⟩:=B0.all;obtain⟨y0,y1,y2,y3,y4,y5,y6⟩:=B1.all;obtain⟨q0,q1,q2,q3,q4,q5,q6⟩:=B2.all;clear hb1 hB1 B0 B1 B2)|(go_at_call_of 51 (Value.agg #[Value.bool d,Value.slice (some b1) m1 d1,Value.slice (some b2) m2 d2]);refine(AR d (some b1) (some b2) m1 m2 d1 d2 sh' dt' _ ((AA K1).below AC (AA HB)) ((AA K2).below AC (AA HB)) _ HR2).mono ?_;rintro e w2⟨rfl,hb2⟩;have HC0:=AD ((AA HB0).below AC hb2);have HC1:=AD ((AA HB1).below AC hb2);have HC2:=AD ((AA HB2).below AC hb2);have HC:=AD ((AA HB).trans (hb2.mono (AA HB).size));clear hb2 x0 x1 x2 x3 x4 x5 x6 y0 y1 y2 y3 y4 y5 y6 q0 q1 q2 q3 q4 q5 q6 HB0 HB1 HB2 HB;obtain⟨x0,x1,x2,x3,x4,x5,x6⟩:=(AA HC0).all;obtain⟨y0,y1,y2,y3,y4,y5,y6⟩:=(AA HC1).all;obtain⟨q0,q1,q2,q3,q4,q5,q6⟩:=(AA HC2).all));refine bodyPost_ret (v:=.tuple #[.agg #[.bool false,.slice none 0 0,.slice none 0 0],.int .i64 3]) (by simp[results,results260,go_sem,q0,q1,q2]) rfl ?_;exact As ((((AA HC).setCell (by simp<;>omega) _).setCell (by simp<;>omega) _).setCell (by simp<;>omega) _)
def SO(c d:Bool)(a1 a2 b1 b2:Addr)(n1 n2 m1 m2 c1 c2 d1 d2:Nat)(sh dt sh' dt':List Int)(w:World)(h1:AO w (some a1) n1 sh)(h2:AO w (some a2) n2 dt)(k1:AO w (some b1) m1 sh')(k2:AO w (some b2) m2 dt')(hc1:n1<=c1)(hc2:n2<=c2)(hd1:m1<=d1)(hd2:m2<=d2)(hr1:AJ c sh dt=true)(hr2:AJ d sh' dt'=true):Calls prog 260 #[.agg #[.bool c,.slice (some a1) n1 c1,.slice (some a2) n2 c2],.agg #[.bool d,.slice (some b1) m1 d1,.slice (some b2) m2 d2]] w (Ag w (BV c d sh dt sh' dt')):=by
 obtain⟨Z,hZ⟩:∃Z,BV c d sh dt sh' dt'=Z:=⟨_,rfl⟩
 rw[hZ];have HZ:=AD hZ;clear hZ;have HR1:=AD hr1;have HR2:=AD hr2;have H1:=AD h1;have H2:=AD h2;have K1:=AD k1;have K2:=AD k2;clear h1 h2 k1 k2 hr1 hr2;go_enter func260,ntmps260;go_upto_region 3 with(first|(go_at_call_of 51 (Value.agg #[Value.bool c,Value.slice (some a1) n1 c1,Value.slice (some a2) n2 c2]);refine(AR c (some a1) (some a2) n1 n2 c1 c2 sh dt _ ((((AA H1).alloc _).alloc _).alloc _) ((((AA H2).alloc _).alloc _).alloc _) _ HR1).mono ?_;rintro e w1⟨rfl,hb1⟩;obtain⟨B0,B1,B2,hB1⟩:=Az hb1;have HB0:=AD B0;have HB1:=AD B1;have HB2:=AD B2;have HB:=AD hB1;obtain⟨x0,x1,x2,x3,x4,x5,x6⟩:=B0.all;obtain⟨y0,y1,y2,y3,y4,y5,y6⟩:=B1.all;obtain⟨q0,q1,q2,q3,q4,q5,q6⟩:=B2.all;clear hb1 hB1 B0 B1 B2)|(go_at_call_of 51 (Value.agg #[Value.bool d,Value.slice (some b1) m1 d1,Value.slice (some b2) m2 d2]);refine(AR d (some b1) (some b2) m1 m2 d1 d2 sh' dt' _ ((AA K1).below AC (AA HB)) ((AA K2).below AC (AA HB)) _ HR2).mono ?_;rintro e w2⟨rfl,hb2⟩;have HC0:=AD ((AA HB0).below AC hb2);have HC1:=AD ((AA HB1).below AC hb2);have HC2:=AD ((AA HB2).below AC hb2);have HC:=AD ((AA HB).trans (hb2.mono (AA HB).size));clear hb2 x0 x1 x2 x3 x4 x5 x6 y0 y1 y2 y3 y4 y5 y6 q0 q1 q2 q3 q4 q5 q6 HB0 HB1 HB2 HB;obtain⟨x0,x1,x2,x3,x4,x5,x6⟩:=(AA HC0).all;obtain⟨y0,y1,y2,y3,y4,y5,y6⟩:=(AA HC1).all;obtain⟨q0,q1,q2,q3,q4,q5,q6⟩:=(AA HC2).all));clear x0 x1 x2 x3 x4 x5 x6 y0 y1 y2 y3 y4 y5 y6 q0 q1 q2 q3 q4 q5 q6;have hzw2:w.heap.size+2<w2.heap.size:=(AA HC2).lt;go_cut[6,7] (fun v6 v7 wx=>∃P Q,v6=.pointer (some ⟨P,0,none⟩)/\v7=.pointer (some ⟨Q,0,none⟩)/\∃s u:FD,Ai wx P c s.v1 s.v2/\Ai wx Q d u.v1 u.v2/\C9 s (Ar sh sh') (BR sh dt sh') wx/\C9 u (Ar sh' sh) (BR sh' dt' sh) wx/\w2.heap.size<=P/\w2.heap.size<=Q/\P≠Q/\Below w2.heap.size w2 wx);case first=>
  as_aux_lemma=>
  have hHC:=(AA HC)
  refine YS _ w2 (by simp) w.heap.size (w.heap.size+1) rfl rfl c d (some a1) (some a2) (some b1) (some b2) n1 c1 n2 c2 m1 d1 m2 d2 (Ar sh sh') (BR sh dt sh') (Ar sh' sh) (BR sh' dt' sh) (fun wx hwx=>⟨(AA HC0).below AC hwx,(AA HC1).below AC hwx⟩) (fun wx hwx=>LF c d a1 a2 n1 n2 c1 c2 b1 m1 d1 sh dt sh' dt' wx (((AA H1).below AC hHC).below AC hwx) (((AA H2).below AC hHC).below AC hwx) (((AA K1).below AC hHC).below AC hwx) (AA HR1) (AA HR2) hc1 hc2 hd1) (fun wx hwx=>LF d c b1 b2 m1 m2 d1 d2 a1 n1 c1 sh' dt' sh dt wx (((AA K1).below AC hHC).below AC hwx) (((AA K2).below AC hHC).below AC hwx) (((AA H1).below AC hHC).below AC hwx) (AA HR2) (AA HR1) hd1 hd2 hc1) (fun _ _ _ _ _ h=>h) ?_;intro P Q s u wx hP hQ hs hu lP lQ hPQ hb;simp only[ag,Lh,KG,G3,Act.put,List.setIfInBounds_toArray,List.set_cons_zero,List.set_cons_succ];go_wp2_with fail
  go_meet
  case rel=>exact⟨P,Q,rfl,rfl,s,u,hP,hQ,hs,hu,lP,lQ,hPQ,hb⟩
 case rest=>
  obtain⟨w3,hw3⟩:∃x,x=wc:=⟨_,rfl⟩
  subst hw3;obtain⟨P,Q,rfl,rfl,⟨ba,oa,p1,e1,A2,p2,e2⟩,⟨bb,ob,q1,f1,B2,q2,f2⟩,hP,hQ,⟨r1,r2,le1,le3⟩,⟨r3,r4,le2,le4⟩,lP,lQ,hPQ,hb3⟩:=hcut;simp only[FD.v1,FD.v2]at hP hQ;simp only at r1 r2 r3 r4 le1 le2 le3 le4;have hs1:=Lm (AA HR1) (AA HR2);have hs2:=Lm (AA HR2) (AA HR1);have hcg:∀J,Ii c d (Ar sh sh') (BR sh dt sh') (Ar sh' sh) (BR sh' dt' sh)=J->J≠0->BV c d sh dt sh' dt'=AT J:=fun J h h0=>Xl (AA HR1) (AA HR2) h h0;have hcb:(Ar sh sh').length=(Ar sh' sh).length->A9 (Ar sh sh')=A9 (Ar sh' sh)->¬(c≠d/\BR sh dt sh'≠ []/\BR sh' dt' sh≠ [])->Am (A9 (Ar sh sh')++ [El (Ar sh sh')+El (Ar sh' sh)])=false->BV c d sh dt sh' dt'=AT 7:=fun h1 h2 h3 h4=>Tu (AA HR1) (AA HR2) rfl rfl rfl rfl h1 h2 h3 h4;have hcc:(Ar sh sh').length=(Ar sh' sh).length->A9 (Ar sh sh')=A9 (Ar sh' sh)->¬(c≠d/\BR sh dt sh'≠ []/\BR sh' dt' sh≠ [])->Am (A9 (Ar sh sh')++ [El (Ar sh sh')+El (Ar sh' sh)])=true->BV c d sh dt sh' dt'=⟨if BR sh dt sh'= []/\BR sh' dt' sh≠ []then d else c,A9 (Ar sh sh')++ [El (Ar sh sh')+El (Ar sh' sh)],Hd (BR sh dt sh') (BR sh' dt' sh) (El (Ar sh sh')).toNat (El (Ar sh' sh)).toNat (AM (A9 (Ar sh sh'))).toNat,0⟩:=fun h1 h2 h3 h4=>Xk (AA HR1) (AA HR2) rfl rfl rfl rfl h1 h2 h3 h4;rw[AA HZ]at hcg hcb hcc;obtain⟨L,hL⟩:∃L,Ar sh sh'=L:=⟨_,rfl⟩
  obtain⟨R,hR⟩:∃R,Ar sh' sh=R:=⟨_,rfl⟩
  obtain⟨X,hX⟩:∃X,BR sh dt sh'=X:=⟨_,rfl⟩
  obtain⟨Y,hY⟩:∃Y,BR sh' dt' sh=Y:=⟨_,rfl⟩
  rw[hL,hX]at hs1;rw[hR,hY]at hs2;rw[hL]at r1;rw[hX]at r2;rw[hR]at r3;rw[hY]at r4;rw[hL,hR,hX,hY]at hcg hcb hcc;obtain⟨hLi,hL5,_,hLp⟩:=hs1;obtain⟨hRi,hR5,_,hRp⟩:=hs2;have lL:=r1.len;have lX:=r2.len;have lR:=r3.len;have lY:=r4.len;rw[lL]at hL5;rw[lR]at hR5;rw[lX]at hLp;rw[lY]at hRp;have hp2:p2<=10000:=by have:=hLi.bd.2;omega
  have hq2:q2<=10000:=by have:=hRi.bd.2;omega
  have HLI:=AD hLi;have HRI:=AD hRi;have HLP:=AD hLp;have HRP:=AD hRp;have HCG:=AD hcg;have HCB:=AD hcb;have HCC:=AD hcc;have HP:=AD hP;have HQ:=AD hQ;have SL:=AD r1;have SX:=AD r2;have SR:=AD r3;have SY:=AD r4;have HLL:=AD lL;have HLX:=AD lX;have HLR:=AD lR;have HLY:=AD lY;have HB3:=AD ((AA HC).trans (hb3.mono (AA HC).size));have HD2:=AD ((AA HC2).below AC hb3);have hz3:=hb3.size;clear hcg hcb hcc HZ hL hR hX hY hP hQ r1 r2 r3 r4 lL lX lR lY hLi hRi hLp hRp hb3 HC0 HC1 HC2 HC H1 H2 K1 K2 HR1 HR2;obtain⟨J,hJ⟩:∃J,Ii c d L X R Y=J:=⟨_,rfl⟩
  have HJ:=AD hJ;clear hJ;obtain⟨x0,x1,x2,x3,x4,x5,x6⟩:=(AA HP).all;obtain⟨y0,y1,y2,y3,y4,y5,y6⟩:=(AA HQ).all;go_upto_region 5 with(go_at_call 289;refine(PK c d ba oa bb ob A2 B2 p1 p2 q1 q2 e1 e2 f1 f2 L X R Y _ (AA SL) (AA HLX) (AA SR) (AA HLY) (AA HLI) (AA HRI) le1 le2 hL5 hR5 hp2 hq2).mono ?_;rw[AA HJ];rintro e w4⟨rfl,hb4⟩;have HB4:=AD hb4;clear hb4);have HP4:=AD ((AA HP).below AC (AA HB4));have HQ4:=AD ((AA HQ).below AC (AA HB4));have HD4:=AD ((AA HD2).below AC (AA HB4));have HW4:=AD ((AA HB3).trans ((AA HB4).mono (AA HB3).size));have SL4:=AD ((AA SL).below AC (AA HB4));have SX4:=AD ((AA SX).below AC (AA HB4));have SR4:=AD ((AA SR).below AC (AA HB4));have SY4:=AD ((AA SY).below AC (AA HB4));have hzP:=(AA HP4).lt;have hzQ:=(AA HQ4).lt;clear x0 x1 x2 x3 x4 x5 x6 y0 y1 y2 y3 y4 y5 y6 HP HQ HD2 HB3 SL SX SR SY HB4;by_cases hJ0:J=0
  .subst hJ0;obtain⟨Bq,hfr,hnd⟩:=Uh (AA HJ);obtain rfl:q1=p1:=by have:=AA HLL;have:=AA HLR;omega
   obtain⟨xn,hxn⟩:∃n:Nat,L.getD q1 0=(n:Int):=⟨(L.getD q1 0).toNat,by have:=(AA HLI).cell q1;omega⟩
   obtain⟨yn,hyn⟩:∃n:Nat,R.getD q1 0=(n:Int):=⟨(R.getD q1 0).toNat,by have:=(AA HRI).cell q1;omega⟩
   have hxb:xn<=10000:=by have:=(AA HLI).cell q1;omega
   have hyb:yn<=10000:=by have:=(AA HRI).cell q1;omega
   obtain⟨_,_,ea,_,cl⟩:=(AA SL4).get (show q1<q1+1 by omega);cases ea;obtain⟨_,_,ea,_,cr⟩:=(AA SR4).get (show q1<q1+1 by omega);cases ea;rw[hxn]at cl;rw[hyn]at cr;have HXN:Hid (El L=(xn:Int)):=by show _=_;rw[<-hxn];unfold El;rw[AA HLL];rfl
   have HYN:Hid (El R=(yn:Int)):=by show _=_;rw[<-hyn];unfold El;rw[AA HLR];rfl
   have HXG:=AD hxn;have HFR:=AD hfr;have HLE:=AD Bq;have HND:=AD hnd;have hq5:q1<=4:=by omega
   have hyg:=hyn;clear hxn hyn hfr Bq hnd HCG HJ;obtain⟨x0,x1,x2,x3,x4,x5,x6⟩:=(AA HP4).all;go_upto_region 10 with(go_at_call 63;refine(Fo ⟨ba,oa,none⟩ (q1+1) e1 L _ ((AA SL4).alloc _)).mono ?_;rintro e w5⟨ash,csh,rfl,hcs,hO,hb5⟩;have HO5:=AD hO;have HB5:=AD hb5;clear hO hb5);obtain⟨W4,hW4⟩:∃x,x=w4.alloc (.cells #[.int .i64 (xn:Int)] 3):=⟨_,rfl⟩
   rw[<-hW4]at HB5 HO5;have hz44:W4.heap.size=w4.heap.size+1:=by rw[hW4];simp
   have HA4:Hid (Below w4.heap.size w4 W4):=by rw[hW4];exact AG.alloc AC _
   have HGW:Hid (W4.cell? ⟨w4.heap.size,0,none⟩=some (.int .i64 (xn:Int))):=by rw[hW4];exact cell_of_row _ _ 0 _ _ (0,0) (heap_alloc_last w4 _)
   obtain⟨gw,hgw⟩:∃gw,gw=w4.heap.size:=⟨_,rfl⟩
   rw[<-hgw]at HGW hz44;have hz5:=(AA HB5).size;obtain h0|⟨gs,os,rfl,hgl,hglt,hcs5,hfs5⟩:=(AA HO5).at_
   .omega
   have cs:=hcs5 q1 (by omega);have fs:=hfs5 q1 (by omega);rw[AA HXG]at cs;obtain⟨y0,y1,y2,y3,y4,y5,y6⟩:=(((AA HQ4).below AC (AA HA4)).below AC (AA HB5)).all;obtain⟨_,_,ea,_,cr5⟩:=(((AA SR4).below AC (AA HA4)).below AC (AA HB5)).get (show q1<q1+1 by omega);cases ea;have hadd:IntKind.i64.wrap ((xn:Int)+(yn:Int))=(xn:Int)+(yn:Int):=by rw[IntKind.wrap_i64];omega
   rw[hyg]at cr5;obtain⟨ZS,hZS⟩:∃Z,A9 L++ [(xn:Int)+(yn:Int)]=Z:=⟨_,rfl⟩
   have HZS:=AD hZS;clear hcs5 hfs5 cl cr hyg x0 x1 x2 x3 x4 x5 x6 hW4;rw[<-hgw];have HG:=AD hgw;have HZ4:=AD hz44;clear hgw hz44 hZS;go_cut[] (fun wx=>Bt wx W4.heap.size (some ⟨gs,os,none⟩) (q1+1) ZS/\Below W4.heap.size W4 wx);case first=>
    as_aux_lemma=>
    go_region_with(fail);all_goals go_wp2_with fail
    all_goals go_meet
    all_goals case rel=>
     rw[<-AA HZS,<-Vb (AA HLL)];first
      |exact⟨(Bt.set (AA HO5) (by omega) _).below AC AG.drew,((AA HB5).setCell (p:=⟨gs,os+q1,none⟩) hgl _).drew⟩
      |exact⟨Bt.set ((AA HO5).below AC AG.drew) (by omega) _,((AA HB5).drew).setCell (p:=⟨gs,os+q1,none⟩) hgl _⟩
   case rest=>
    obtain⟨w6,hw6⟩:∃x,x=wc:=⟨_,rfl⟩
    subst hw6;obtain⟨hO6,hb6⟩:=hcut;have HO6:=AD hO6;have HA6:Hid (Below w4.heap.size w4 w6):=(AA HA4).trans (hb6.mono (AA HA4).size);have HP6:=AD ((AA HP4).below AC (AA HA6));have HQ6:=AD ((AA HQ4).below AC (AA HA6));have HD6:=AD ((AA HD4).below AC (AA HA6));have SL6:=AD ((AA SL4).below AC (AA HA6));have SX6:=AD ((AA SX4).below AC (AA HA6));have SR6:=AD ((AA SR4).below AC (AA HA6));have SY6:=AD ((AA SY4).below AC (AA HA6));have HW6:=AD ((AA HW4).trans ((AA HA6).mono (AA HW4).size));have HG6:Hid (w6.cell? ⟨gw,0,none⟩=some (.int .i64 (xn:Int))):=(hb6.cell (p:=⟨gw,0,none⟩) (by have:=AA HZ4;show gw<W4.heap.size;omega)).trans (AA HGW);have hgw6:gw<w6.heap.size:=by have:=hb6.size;have:=AA HZ4;omega
    have hgwP:P<gw/\Q<gw:=by have:=AA HG;omega
    have hgwS:gw<gs:=by have:=AA HZ4;omega
    have hgs6:gs<w6.heap.size:=(AA HO6).row.hi (DK (by omega));have hw2g:w2.heap.size<=gw:=by have:=AA HG;omega
    clear hO6 hb6 HP4 HQ4 HD4 SL4 SX4 SR4 SY4 HW4 HA4 HB5 HO5 HGW HA6 cs fs y0 y1 y2 y3 y4 y5 y6 cr5 hz5 hgl hglt;obtain⟨sb,hsb⟩:∃r,Am ZS=r:=⟨_,rfl⟩
    have HSB:=AD hsb;clear hsb;cases sb with
    |false=>
     have HZ7:Hid (Z=AT 7):=(AA HCB) (AA HLE) (AA HFR) (AA HND) (by rw[AA HXN,AA HYN,AA HZS];exact AA HSB)
     obtain⟨z0,z1,z2,z3,z4,z5,z6⟩:=(AA HD6).all;clear HCB HCC;go_wp2_with(go_at_call 114;refine(CR _ _ _ ZS _ (AA HO6).row _ HSB).mono ?_;rintro e wq⟨rfl,hw⟩;obtain rfl:=hw.symm);refine bodyPost_ret (v:=.tuple #[.agg #[.bool false,.slice none 0 0,.slice none 0 0],.int .i64 7]) (by simp[results,results260,go_sem,z0,z1,z2]) rfl ?_;rw[AA HZ7];exact As ((((AA HW6).setCell (by simp<;>omega) _).setCell (by simp<;>omega) _).setCell (by simp<;>omega) _)
    |true=>
     have hfl:(A9 L).length=q1:=by have:=AA HLL;simp[A9];omega
     have eL:L=A9 L++ [(xn:Int)]:=by
      have:=Fu (l:=L) (by intro e;have:=AA HLL;rw[e]at this;simp at this)
      rwa [AA HXN]at this
     have eR:R=A9 L++ [(yn:Int)]:=by
      have:=Fu (l:=R) (by intro e;have:=AA HLR;rw[e]at this;simp at this)
      rwa [AA HYN,<-AA HFR]at this
     have hFi:Aq (A9 L):=(AA HLI).take _;obtain⟨Bn,hBn⟩:∃n:Nat,AM (A9 L)=(n:Int):=⟨(AM (A9 L)).toNat,by have:=hFi.bd.1;omega⟩
     obtain⟨M,hM⟩:∃M,M=Bn*(xn+yn):=⟨_,rfl⟩
     have hMZ:AM ZS=(M:Int):=by rw[<-AA HZS,Bi,hBn,hM];simp[AM]
     have hMb:M<=10000:=by have:=CS (AA HSB);rw[<-Bs _ (AA HSB),hMZ]at this;omega
     have HMZ:=AD hMZ;have hSZ:Aq ZS:=(DE (AA HSB)).1;have HSZ:=AD hSZ;obtain⟨chr,hchr⟩:∃r,(if p2=0/\0<q2 then d else c)=r:=⟨_,rfl⟩
     obtain⟨tx,htx⟩:∃t:Nat,t=if p2=1 then 0 else 1:=⟨_,rfl⟩
     obtain⟨ty,hty⟩:∃t:Nat,t=if q2=1 then 0 else 1:=⟨_,rfl⟩
     have HFIN:=AD (U8 (X:=X) (Y:=Y) eL eR (show ZS=A9 L++ [((xn+yn:Nat):Int)] by rw[<-AA HZS];simp) hfl (AA HLI) (AA HRI) (AA HLP) (AA HRP) (AA HLX) (AA HLY) hBn hM htx hty);have HZG:Hid (Z=⟨chr,ZS,Hd X Y xn yn Bn,0⟩):=by
      show _=_;rw[(AA HCC) (AA HLE) (AA HFR) (AA HND) (by rw[AA HXN,AA HYN,AA HZS];exact AA HSB),AA HXN,AA HYN,AA HZS,hBn,<-hchr];have e1:(X= []/\Y≠ [])↔(p2=0/\0<q2):=by rw[<-AA HLX,<-AA HLY,Af,CF]
      by_cases hh:p2=0/\0<q2
      .rw[AI hh,AI (e1.2 hh)];simp
      .rw[AH hh,AH (fun h=>hh (e1.1 h))];simp
     have HJC:Hid (∀w,Calls prog 290 #[.agg #[.bool c,.slice (some ⟨ba,oa,none⟩) (q1+1) e1,.slice (some A2) p2 e2],.agg #[.bool d,.slice (some ⟨bb,ob,none⟩) (q1+1) f1,.slice (some B2) q2 f2]] w fun e w'=>e=.returned (.bool chr)/\Below w.heap.size w w'):=fun w=>by rw[<-hchr];exact Ng c d _ _ (some A2) (some B2) p2 q2 e2 f2 w hp2 hq2
     have HEX:Hid (∀w,Calls prog 292 #[.agg #[.bool c,.slice (some ⟨ba,oa,none⟩) (q1+1) e1,.slice (some A2) p2 e2],.int .i64 (p2:Nat)] w fun e w'=>e=.returned (.agg #[.slice (some A2) p2 e2,.int .i64 0,.int .i64 (tx:Nat),.int .i64 (p2:Nat)])/\Below w.heap.size w w'):=fun w=>by rw[htx];exact Dd c (some ⟨ba,oa,none⟩) A2 (q1+1) p2 e1 e2 p2 (by omega) w
     have HEY:Hid (∀w,Calls prog 292 #[.agg #[.bool d,.slice (some ⟨bb,ob,none⟩) (q1+1) f1,.slice (some B2) q2 f2],.int .i64 (q2:Nat)] w fun e w'=>e=.returned (.agg #[.slice (some B2) q2 f2,.int .i64 0,.int .i64 (ty:Nat),.int .i64 (q2:Nat)])/\Below w.heap.size w w'):=fun w=>by rw[hty];exact Dd d (some ⟨bb,ob,none⟩) B2 (q1+1) q2 f1 f2 q2 (by omega) w
     have HTX:=AD (fun k hk=>TM htx k hk);have HTY:=AD (fun k hk=>TM hty k hk);clear hfl eL eR hFi hBn hM hMZ hSZ hchr htx hty HCB HCC;have hmk:=run_make_row' (P:=prog) 23 3 (.int .i64 0) 8 underlying23 A6 rfl .i64 .i64 M (by omega) (by omega);obtain⟨x0,x1,x2,x3,x4,x5,x6⟩:=(AA HP6).all;obtain⟨y0,y1,y2,y3,y4,y5,y6⟩:=(AA HQ6).all;go_upto_region 14 with(first
      |(go_at_call 114;refine(CR _ _ _ ZS _ (AA HO6).row _ HSB).mono ?_;rintro e wq⟨rfl,hw⟩;obtain rfl:=hw.symm)
      |(go_at_call 290;refine((AA HJC) _).mono ?_;rintro e w7⟨rfl,hb7⟩;have HB7:=AD hb7;clear hb7)
      |(go_at_call 116;refine(FA _ _ _ ZS _ ((AA HO6).row.below AC (AA HB7)) (AA HSZ) M HMZ).mono ?_;rintro e wq⟨rfl,hw⟩;obtain rfl:=hw.symm))
     obtain⟨gd,hgd⟩:∃g,g=w7.heap.size:=⟨_,rfl⟩
     obtain⟨W8,hW8⟩:∃W8,W8=(w7.alloc (.cells (madeCells #[.int .i64 0] M) 3)).alloc (.cells #[.bool chr,.slice (some ⟨gs,os,none⟩) (q1+1) csh,.slice (some ⟨w7.heap.size,0,none⟩) M M] 25):=⟨_,rfl⟩
     have hz67:=(AA HB7).size;have hz8:gd+1<W8.heap.size:=by rw[hW8,hgd];simp
     have HA8:Hid (Below w6.heap.size w6 W8):=by rw[hW8];exact((AA HB7).alloc hz67 _).alloc (by simp;omega) _
     have HR8:Hid (Ai W8 (gd+1) chr (.slice (some ⟨gs,os,none⟩) (q1+1) csh) (.slice (some ⟨gd,0,none⟩) M M)):=by
      rw[hW8,hgd];have:=Ai.new (w7.alloc (.cells (madeCells #[.int .i64 0] M) 3)) chr (.slice (some ⟨gs,os,none⟩) (q1+1) csh) (.slice (some ⟨w7.heap.size,0,none⟩) M M)
      rwa [World.size_alloc]at this
     have HN8:Hid (BA W8 gd (List.replicate M 0)):=by rw[hW8];exact(BA.made _ _ _ hgd).alloc _
     have HP8:=AD ((AA HP6).below AC (AA HA8));have HQ8:=AD ((AA HQ6).below AC (AA HA8));have HD8:=AD ((AA HD6).below AC (AA HA8));have SL8:=AD ((AA SL6).below AC (AA HA8));have SX8:=AD ((AA SX6).below AC (AA HA8));have SR8:=AD ((AA SR6).below AC (AA HA8));have SY8:=AD ((AA SY6).below AC (AA HA8));have HO8:=AD ((AA HO6).below AC (AA HA8));have HG8:Hid (W8.cell? ⟨gw,0,none⟩=some (.int .i64 (xn:Int))):=((AA HA8).cell (p:=⟨gw,0,none⟩) hgw6).trans (AA HG6);have HW8:=AD ((AA HW6).trans ((AA HA8).mono (AA HW6).size));have hgd6:w6.heap.size<=gd:=by omega
     have APL:Hid (¬ At (some ⟨ba,oa,none⟩) (q1+1) gd):=fun h=>by have:=(AA SL6).hi h;omega
     have APX:Hid (¬ At (some A2) p2 gd):=fun h=>by have:=(AA SX6).hi h;omega
     have APR:Hid (¬ At (some ⟨bb,ob,none⟩) (q1+1) gd):=fun h=>by have:=(AA SR6).hi h;omega
     have APY:Hid (¬ At (some B2) q2 gd):=fun h=>by have:=(AA SY6).hi h;omega
     have APZ:Hid (¬ At (some ⟨gs,os,none⟩) (q1+1) gd):=fun h=>by have:=(AA HO6).row.hi h;omega
     have hPg:P<gd/\Q<gd/\gw<gd/\gs<gd/\w.heap.size+2<gd:=by omega
     rw[<-hW8,<-hgd];clear hW8 hgd hz67 HB7 HP6 HQ6 HD6 SL6 SX6 SR6 SY6 HO6 HG6 HW6 HA8 hmk x0 x1 x2 x3 x4 x5 x6 y0 y1 y2 y3 y4 y5 y6 HJC hgd6;have HPUT:Hid (∀wx,Below W8.heap.size W8 wx->Calls prog 291 #[.agg #[.bool chr,.slice (some ⟨gs,os,none⟩) (q1+1) csh,.slice (some ⟨gd,0,none⟩) M M],.slice (some ⟨ba,oa,none⟩) (q1+1) e1,.agg #[.slice (some A2) p2 e2,.int .i64 0,.int .i64 (tx:Nat),.int .i64 (p2:Nat)],.func (.func 293) #[] #[]] wx fun e w'=>(∃v,e=.returned v)/\BA w' gd (Fg ZS G8 L (fun k=>X.getD (k*tx) 0) (List.replicate M 0) p2)/\BS (fun b=>b=gd) wx w'):=fun wx hwx=>
      TR chr (some ⟨gs,os,none⟩) (some A2) (some ⟨ba,oa,none⟩) (q1+1) p2 csh e2 (q1+1) e1 M gd tx p2 ZS X L (List.replicate M 0) 293 #[] Yq G8 wx p2 ((AA HO8).row.below AC hwx) ((AA SX8).below AC hwx) ((AA SL8).below AC hwx) ((AA HN8).below AC hwx) (by simp) (AA HSZ) (AA HLI) (by omega) (AA HLP) (AA HMZ) (AA HTX) (Yx L (q1+1) gd (by rw[AA HLL];exact AC) wx) (AA APZ) (AA APX) (AA APL)
     go_cut[] (fun wx=>BA wx gd (Fg ZS G8 L (fun k=>X.getD (k*tx) 0) (List.replicate M 0) p2)/\BS (fun b=>b=gd) W8 wx);case first=>
      as_aux_lemma=>
      have HKEEP:∀wx,BS (fun b=>b=gd) W8 wx->wx.cell? ⟨gd+1,0,none⟩=some (.bool chr)/\wx.cell? ⟨gd+1,1,none⟩=some (.slice (some ⟨gs,os,none⟩) (q1+1) csh)/\wx.cell? ⟨gd+1,2,none⟩=some (.slice (some ⟨gd,0,none⟩) M M)/\wx.cell? ⟨P,0,none⟩=some (.bool c)/\wx.cell? ⟨P,1,none⟩=some (.slice (some ⟨ba,oa,none⟩) (q1+1) e1)/\wx.cell? ⟨P,2,none⟩=some (.slice (some A2) p2 e2):=fun wx hwx=>by obtain⟨s0,s1,s2⟩:=(AA HR8).cells;obtain⟨t0,t1,t2⟩:=(AA HP8).cells;exact⟨(hwx.cellAt (by omega) (by omega)).trans s0,(hwx.cellAt (by omega) (by omega)).trans s1,(hwx.cellAt (by omega) (by omega)).trans s2,(hwx.cellAt (by omega) (by omega)).trans t0,(hwx.cellAt (by omega) (by omega)).trans t1,(hwx.cellAt (by omega) (by omega)).trans t2⟩
      go_region_held3 (fun wx=>wx.cell? ⟨gd+1,0,none⟩=some (.bool chr)/\wx.cell? ⟨gd+1,1,none⟩=some (.slice (some ⟨gs,os,none⟩) (q1+1) csh)/\wx.cell? ⟨gd+1,2,none⟩=some (.slice (some ⟨gd,0,none⟩) M M)/\wx.cell? ⟨P,0,none⟩=some (.bool c)/\wx.cell? ⟨P,1,none⟩=some (.slice (some ⟨ba,oa,none⟩) (q1+1) e1)/\wx.cell? ⟨P,2,none⟩=some (.slice (some A2) p2 e2)) (first|exact HKEEP _ hK2|exact HKEEP _ (BS.of_below hKE)|exact HKEEP _ (BS.refl _ _).drew) (first
       |(go_at_call 292;refine((AA HEX) _).mono ?_;rintro e wE⟨rfl,hbE⟩;have hKE:Below W8.heap.size W8 wE:=(AN _ W8).drew.trans hbE)
       |(go_at_call 291;refine((AA HPUT) _ hKE).mono ?_;rintro e wP⟨⟨v,rfl⟩,hB,hbut⟩;have hK2:BS (fun b=>b=gd) W8 wP:=((BS.of_below (S:=fun b=>b=gd) hKE).trans hbut).mono (by rintro x(h|h)<;>exact h)))
      all_goals go_wp2_with fail
      all_goals go_meet
      all_goals case rel=>exact⟨hB,hK2⟩
     case rest=>
      obtain⟨W9,hW9⟩:∃x,x=wc:=⟨_,rfl⟩
      subst hW9;obtain⟨hB9,hbut9⟩:=hcut;have hz9:=hbut9.size;have HN9:=AD hB9;have HBT9:=AD hbut9;have HR9:Hid (Ai W9 (gd+1) chr (.slice (some ⟨gs,os,none⟩) (q1+1) csh) (.slice (some ⟨gd,0,none⟩) M M)):=(hbut9.block _ (by omega) (by omega)).trans (AA HR8);have HQ9:Hid (Ai W9 Q d (.slice (some ⟨bb,ob,none⟩) (q1+1) f1) (.slice (some B2) q2 f2)):=(hbut9.block _ (by omega) (by omega)).trans (AA HQ8);have HD9:Hid (Ai W9 (w.heap.size+2) false (.slice none 0 0) (.slice none 0 0)):=(hbut9.block _ (by omega) (by omega)).trans (AA HD8);have SR9:=AD (hbut9.row (AA SR8) (by rintro x rfl h;exact(AA APR) h));have SY9:=AD (hbut9.row (AA SY8) (by rintro x rfl h;exact(AA APY) h));have HO9:=AD (hbut9.own (AA HO8) (by rintro x rfl h;exact(AA APZ) h));have HG9:Hid (W9.cell? ⟨gw,0,none⟩=some (.int .i64 (xn:Int))):=(hbut9.cellAt (by omega) (by omega)).trans (AA HG8);clear hB9 hbut9 HPUT HP8 HQ8 HD8 HR8 SL8 SX8 SR8 SY8 HO8 HG8 HN8 HEX;have HPUT:Hid (∀wx pa pf,Below W9.heap.size W9 wx->W9.heap.size<=pa->W9.heap.size<=pf->wx.cell? ⟨pa,0,none⟩=some (.int .i64 (q1:Nat))->wx.cell? ⟨pf,0,none⟩=some (.func (.func 294) #[] #[.pointer (some ⟨gw,0,none⟩)])->Calls prog 291 #[.agg #[.bool chr,.slice (some ⟨gs,os,none⟩) (q1+1) csh,.slice (some ⟨gd,0,none⟩) M M],.slice (some ⟨bb,ob,none⟩) (q1+1) f1,.agg #[.slice (some B2) q2 f2,.int .i64 0,.int .i64 (ty:Nat),.int .i64 (q2:Nat)],.func (.func 152) #[] #[.pointer (some ⟨pa,0,none⟩),.pointer (some ⟨pf,0,none⟩)]] wx fun e w'=>(∃v,e=.returned v)/\BA w' gd (Fg ZS (G9 q1 xn) R (fun k=>Y.getD (k*ty) 0) (Fg ZS G8 L (fun k=>X.getD (k*tx) 0) (List.replicate M 0) p2) q2)/\BS (fun b=>b=gd) wx w'):=fun wx pa pf hwx hpa hpf c1 c2=>
       TR chr (some ⟨gs,os,none⟩) (some B2) (some ⟨bb,ob,none⟩) (q1+1) q2 csh f2 (q1+1) f1 M gd ty q2 ZS Y R _ 152 #[.pointer (some ⟨pa,0,none⟩),.pointer (some ⟨pf,0,none⟩)] XP (G9 q1 xn) wx q2 ((AA HO9).row.below AC hwx) ((AA SY9).below AC hwx) ((AA SR9).below AC hwx) ((AA HN9).below AC hwx) (by rw[Ln];simp) (AA HSZ) (AA HRI) (by omega) (AA HRP) (AA HMZ) (AA HTY) (Yw R (q1+1) gd pa pf gw q1 (xn:Int) (by rw[AA HLR];exact AC) wx (AA HRI) (by omega) c1 c2 ((hwx.cell (p:=⟨gw,0,none⟩) (by show gw<W9.heap.size;omega)).trans (AA HG9)) (by omega) (by omega) (by omega)) (AA APZ) (AA APY) (AA APR)
      go_upto_region 15 with fail;go_cut[] (fun wx=>BA wx gd (Fg ZS (G9 q1 xn) R (fun k=>Y.getD (k*ty) 0) (Fg ZS G8 L (fun k=>X.getD (k*tx) 0) (List.replicate M 0) p2) q2)/\BS (fun b=>b=gd) W9 wx);case first=>
       as_aux_lemma=>
       have HKEEP:∀wx,BS (fun b=>b=gd) W9 wx->wx.cell? ⟨gd+1,0,none⟩=some (.bool chr)/\wx.cell? ⟨gd+1,1,none⟩=some (.slice (some ⟨gs,os,none⟩) (q1+1) csh)/\wx.cell? ⟨gd+1,2,none⟩=some (.slice (some ⟨gd,0,none⟩) M M)/\wx.cell? ⟨Q,0,none⟩=some (.bool d)/\wx.cell? ⟨Q,1,none⟩=some (.slice (some ⟨bb,ob,none⟩) (q1+1) f1)/\wx.cell? ⟨Q,2,none⟩=some (.slice (some B2) q2 f2):=fun wx hwx=>by obtain⟨s0,s1,s2⟩:=(AA HR9).cells;obtain⟨t0,t1,t2⟩:=(AA HQ9).cells;exact⟨(hwx.cellAt (by omega) (by omega)).trans s0,(hwx.cellAt (by omega) (by omega)).trans s1,(hwx.cellAt (by omega) (by omega)).trans s2,(hwx.cellAt (by omega) (by omega)).trans t0,(hwx.cellAt (by omega) (by omega)).trans t1,(hwx.cellAt (by omega) (by omega)).trans t2⟩
       go_region_held3 (fun wx=>wx.cell? ⟨gd+1,0,none⟩=some (.bool chr)/\wx.cell? ⟨gd+1,1,none⟩=some (.slice (some ⟨gs,os,none⟩) (q1+1) csh)/\wx.cell? ⟨gd+1,2,none⟩=some (.slice (some ⟨gd,0,none⟩) M M)/\wx.cell? ⟨Q,0,none⟩=some (.bool d)/\wx.cell? ⟨Q,1,none⟩=some (.slice (some ⟨bb,ob,none⟩) (q1+1) f1)/\wx.cell? ⟨Q,2,none⟩=some (.slice (some B2) q2 f2)) (first|exact HKEEP _ hK2|exact HKEEP _ (BS.of_below hKO)|exact HKEEP _ (BS.of_below hKE)|exact HKEEP _ (BS.refl _ _).drew) (first
        |(go_at_call 292;refine((AA HEY) _).mono ?_;rintro e wE⟨rfl,hbE⟩;have hKE:Below W9.heap.size W9 wE:=(AN _ W9).drew.trans hbE;have hzE:=hKE.size)
        |(go_at_call 64;refine(R6 q1 _ _ 294 #[.pointer (some ⟨gw,0,none⟩)] rfl).mono ?_;rintro e wO⟨rfl,hwO⟩;have hKO:Below W9.heap.size W9 wO:=(by rw[hwO];exact(hKE.alloc hzE _).alloc (by simp;omega) _);have hpa:wO.cell? ⟨wE.heap.size,0,none⟩=some (.int .i64 (q1:Nat)):=(by rw[hwO];exact cell_of_row _ _ 0 _ _ (0,0) ((Ab _ _ _ (by simp)).trans (heap_alloc_last wE _)));have hpf:wO.cell? ⟨wE.heap.size+1,0,none⟩=some (.func (.func 294) #[] #[.pointer (some ⟨gw,0,none⟩)]):=(by rw[hwO];have h:=heap_alloc_last (wE.alloc (.cells #[.int .i64 (q1:Nat)] 3)) (.cells #[.func (.func 294) #[] #[.pointer (some ⟨gw,0,none⟩)]] 92);rw[World.size_alloc]at h;exact cell_of_row _ _ 0 _ _ (0,0) h);clear hwO)
        |(go_at_call 291;refine((AA HPUT) _ _ _ hKO hzE (by omega) hpa hpf).mono ?_;rintro e wP⟨⟨v,rfl⟩,hB,hbut⟩;have hK2:BS (fun b=>b=gd) W9 wP:=((BS.of_below (S:=fun b=>b=gd) hKO).trans hbut).mono (by rintro x(h|h)<;>exact h)))
       all_goals go_wp2_with fail
       all_goals go_meet
       all_goals case rel=>exact⟨hB,hK2⟩
      case rest=>
       obtain⟨WA,hWA⟩:∃x,x=wc:=⟨_,rfl⟩
       subst hWA;obtain⟨hBA,hbutA⟩:=hcut;rw[AA HFIN]at hBA;have hzA:=hbutA.size;have hRA:Ai WA (gd+1) chr (.slice (some ⟨gs,os,none⟩) (q1+1) csh) (.slice (some ⟨gd,0,none⟩) M M):=(hbutA.block _ (by omega) (by omega)).trans (AA HR9);have hDA:Ai WA (w.heap.size+2) false (.slice none 0 0) (.slice none 0 0):=(hbutA.block _ (by omega) (by omega)).trans (AA HD9);have hOA:=hbutA.own (AA HO9) (by rintro x rfl h;exact(AA APZ) h);have hWA:Below w.heap.size w WA:=((AA HW8).trans ((AA HBT9).below (B:=w.heap.size) (by omega) (by rintro x rfl;omega))).trans (hbutA.below (B:=w.heap.size) (by omega) (by rintro x rfl;omega));obtain⟨x0,x1,x2,x3,x4,x5,x6⟩:=hRA.all;obtain⟨z0,z1,z2,z3,z4,z5,z6⟩:=hDA.all;have HDA:=AD hDA;have HPG:=AD hPg;have HWG:=AD (show w.heap.size<=W4.heap.size by have:=AA HZ4;omega);have HOA:=AD hOA;have HNA:=AD hBA;have HWA:=AD hWA;clear hBA hbutA hRA hDA hOA hWA;go_wp2_with fail;have hx:=(AA HDA).sets (c':=chr) (u1:=.slice (some ⟨gs,os,none⟩) (q1+1) csh) (u2:=.slice (some ⟨gd,0,none⟩) M M);obtain⟨r0,r1,r2,_,_,_⟩:=hx.all;refine bodyPost_ret (v:=.tuple #[.agg #[.bool chr,.slice (some ⟨gs,os,none⟩) (q1+1) csh,.slice (some ⟨gd,0,none⟩) M M],.int .i64 0]) (by simp[results,results260,go_sem,r0,r1,r2]) rfl ?_;rw[AA HZG];have hPg:=AA HPG;have hWg:=AA HWG;have hns:∀k,At (some ⟨gs,os,none⟩) (q1+1) k->k≠w.heap.size+2:=fun k hk=>by have:=DT hk;omega
       have hlenM:(Hd X Y xn yn Bn).length=M:=by have:=Gi List.length (AA HFIN);rw[Ln,Ln,List.length_replicate]at this;exact this.symm
       have hgdn:gd≠w.heap.size+2:=by omega
       have hwz:w.heap.size<=w.heap.size+2:=by omega
       exact Ej hlenM (by omega) (((((AA HOA).mono (by omega)).other (q:=⟨w.heap.size+2,0,none⟩) hns _).other (q:=⟨w.heap.size+2,1,none⟩) hns _).other (q:=⟨w.heap.size+2,2,none⟩) hns _) (by omega) ((((AA HNA).other (p:=⟨w.heap.size+2,0,none⟩) hgdn _).other (p:=⟨w.heap.size+2,1,none⟩) hgdn _).other (p:=⟨w.heap.size+2,2,none⟩) hgdn _) (AA APZ) ((((AA HWA).setCell (p:=⟨w.heap.size+2,0,none⟩) hwz _).setCell (p:=⟨w.heap.size+2,1,none⟩) hwz _).setCell (p:=⟨w.heap.size+2,2,none⟩) hwz _)
  .have g0:(J !=0)=true:=by simp[hJ0]
   have HZ:=AD ((AA HCG) J (AA HJ) hJ0);obtain⟨z0,z1,z2,z3,z4,z5,z6⟩:=(AA HD4).all;clear hJ0 HCG HCB HCC;go_wp2_with fail;refine bodyPost_ret (v:=.tuple #[.agg #[.bool false,.slice none 0 0,.slice none 0 0],.int .i64 J]) (by simp[results,results260,go_sem,z0,z1,z2]) rfl ?_;rw[AA HZ];exact As ((((AA HW4).setCell (by simp<;>omega) _).setCell (by simp<;>omega) _).setCell (by simp<;>omega) _)
end
def KX(c d:Bool)(a1 a2 b1 b2:Addr)(n1 n2 m1 m2 c1 c2 d1 d2:Nat)(sh dt sh' dt':List Int)(w:World)(h1:AO w (some a1) n1 sh)(h2:AO w (some a2) n2 dt)(k1:AO w (some b1) m1 sh')(k2:AO w (some b2) m2 dt')(e1:n1<=c1)(e2:n2<=c2)(e3:m1<=d1)(e4:m2<=d2):Calls prog 260 #[.agg #[.bool c,.slice (some a1) n1 c1,.slice (some a2) n2 c2],.agg #[.bool d,.slice (some b1) m1 d1,.slice (some b2) m2 d2]] w (Ag w (BV c d sh dt sh' dt')):=by
 cases hok:AJ c sh dt with
 |false=>rw[RJ hok];exact PR c d a1 a2 b1 b2 n1 n2 m1 m2 c1 c2 d1 d2 sh dt sh' dt' w h1 h2 k1 k2 hok
 |true=>
  cases hok':AJ d sh' dt' with
  |false=>rw[RI hok'];exact PQ c d a1 a2 b1 b2 n1 n2 m1 m2 c1 c2 d1 d2 sh dt sh' dt' w h1 h2 k1 k2 hok hok'
  |true=>exact SO c d a1 a2 b1 b2 n1 n2 m1 m2 c1 c2 d1 d2 sh dt sh' dt' w h1 h2 k1 k2 e1 e2 e3 e4 hok hok'
section
open Go.Shelf
section
variable {P:Program}(w:World)
def LJ{ops:Array Oper}{o:Oper}{a:Act}{K:Act->World->Prop}{Q:Exit->Act->World->Prop}{E:Prop}(hgd:o.guard=none)(s x:Operand)(t:TypeId)(ho:o.op=.call {callee:=.builtin .append,args:= #[s,x],argTypes:= #[t,t]})(base:Nat)(e:TypeId)(i:TypeInfo)(z:Value)(size IJ:Nat)(ht:P.underlying t=some (.slice e))(hi:P.info? e=some i)(hz:i.zero=some z)(hsize:i.size=size)(hby:i.bytes=IJ)(hzs:z.cells.size=size)(hsz:0<size)(v:Value)(n:Nat)(xs:List Value)(hs:a.eval s=v)(BJ:w.ownsRow base e size v n xs)(ad:Addr)(m c:Nat)(news:List Value)(hx:a.eval x=.slice (some ad) m c)(hl:news.length=m*size)(hnews:∀j u,news[j]? =some u->w.cell? (ad.add j)=some u)(h1:∀u∈news,u.oneCell'=true)(h63:n+m<=maxLen)(hbytes:(n+m)*IJ<=140737488355328)(hbase:base<=w.heap.size)(h:∀v' w',w'.ownsRow base e size v' (n+m) (xs++news)->w.grownBy w' v.ownBlock->K (a.put o.dst v') w'):if Region.wanted o (yielded ops a.tmps)=true then Oper.wp P o a w K Q else E:=by
 have hw:Region.wanted o (yielded ops a.tmps)=true:=by simp[Region.wanted,hgd]
 rw[AI hw];obtain⟨v',w',hr,h2,h3,_,_⟩:=run_append_own_at (P:=P) w base t o.type e i z size IJ ht hi hz hsize hby hzs hsz v n xs BJ ad m c news hl hnews h1 h63 hbytes hbase;unfold Oper.wp execOp;simp only[ho,resolve,invoke,builtin,Sem.run_bind,Sem.run_pure,Result.andThen_ok,List.map_toArray,List.map_cons,List.map_nil,hs,hx,hr];exact h v' w' h2 h3
end
def RM{w w1:World}{base n:Nat}{v:Value}{xs:List Value}(BJ:w.ownsRow base 3 1 v n xs)(hb:base<=w.heap.size)(hg:w.grownBy w1 v.ownBlock):Below base w w1:=by
 refine(AN base w).grown hg hb ?_;intro k hk;rcases BJ.2 with⟨e,_⟩|⟨g,cap,cur,e,hge,_⟩
 .rw[e]at hk;simp[Value.ownBlock]at hk
 .rw[e]at hk;simp[Value.ownBlock]at hk;omega
def KJ(dt:List Int)(L k:Nat):List Int:=(Cr dt L k).map fun(j:Nat)=>(j:Int)+1
def UT{dt:List Int}{L k T:Nat}(h:Br dt k=(T:Int)):(KJ dt L k).map (Value.int .i64)++(List.replicate T (((k % L:Nat):Int)+1)).map (Value.int .i64)=(KJ dt L (k+1)).map (Value.int .i64):=by unfold KJ;simp only[Cr,h];simp
def NA(nb a2:Option Addr)(L cL s1 t1 n2 c2 s2 t2 m:Nat)(Zo dt:List Int)(w:World)(hN:AO w nb L Zo)(h2:AO w a2 n2 dt)(hm:m<=10000)(hn:dt.all BE=true)(hsum:A5 dt m<=10000)(Lf:∀k,k<m->s1+k*t1<L/\Zo.getD (s1+k*t1) 0=((k % L:Nat):Int)+1)(ht:∀k,k<m->s2+k*t2<n2/\dt.getD (s2+k*t2) 0=Br dt k):Calls prog 298 #[.agg #[.slice nb L cL,.int .i64 (s1:Nat),.int .i64 (t1:Nat),.int .i64 (m:Nat)],.agg #[.slice a2 n2 c2,.int .i64 (s2:Nat),.int .i64 (t2:Nat),.int .i64 (m:Nat)]] w fun e w'=>∃a' N Ak,e=.returned (.slice a' N Ak)/\Bt w' w.heap.size a' N (KJ dt L m)/\Below w.heap.size w w':=by
 have HN:=AD hN;have H2:=AD h2;have HNN:=AD hn;have HNUM:=AD Lf;have HTT:=AD ht;have HTI:Hid (∀k,k<m->∃T:Nat,Br dt k=(T:Int)/\A5 dt k+T<=10000):=fun k hk=>by have q1:=En hn k;have q2:=JG hn (show k+1<=m by omega);simp only[A5]at q2;exact⟨(Br dt k).toNat,by omega,by omega⟩
 have HLN:Hid (∀k,((KJ dt L k).length:Int)=A5 dt k):=fun k=>by unfold KJ;rw[Fc];exact MF k (En hn)
 clear hN h2 Lf ht hn;obtain⟨i0,hi,hz0,hz1,hz2⟩:=info_parts A6;obtain⟨W,hW⟩:∃W,W=(w.alloc (.cells #[.slice nb L cL,.int .i64 (s1:Nat),.int .i64 (t1:Nat),.int .i64 (m:Nat)] 145)).alloc (.cells #[.slice a2 n2 c2,.int .i64 (s2:Nat),.int .i64 (t2:Nat),.int .i64 (m:Nat)] 145):=⟨_,rfl⟩
 have HX0:Hid (Dt W w.heap.size nb L cL s1 t1 m):=by rw[hW];exact(Dt.new w _ _ _ _ _ _).alloc _
 have HX1:Hid (Dt W (w.heap.size+1) a2 n2 c2 s2 t2 m):=by rw[hW];have:=Dt.new (w.alloc (.cells #[.slice nb L cL,.int .i64 (s1:Nat),.int .i64 (t1:Nat),.int .i64 (m:Nat)] 145)) a2 n2 c2 s2 t2 m;rw[World.size_alloc]at this;exact this
 have HB0:Hid (Below w.heap.size w W):=by rw[hW];exact((AN _ w).alloc AC _).alloc (by simp) _
 have hWz:W.heap.size=w.heap.size+2:=by rw[hW];simp
 have HWZ:=AD hWz;clear hWz;go_enter func298,ntmps298;go_wp2_with fail;rw[<-hW];clear hW;go_loopw[5,9] (fun v i wr=>∃k N:Nat,k<=m/\i=.int .i64 (k:Nat)/\Hid (wr.ownsRow W.heap.size 3 1 v N ((KJ dt L k).map (Value.int .i64)))/\Hid (Below W.heap.size W wr)) (fun _ i _=>m- (intOf i).toNat);case atStart=>exact⟨0,0,AS _,rfl,AD ⟨rfl,.inl ⟨rfl,rfl⟩⟩,AD AG⟩
 case round=>
  obtain⟨k,N,hk,rfl,BJ,hbr⟩:=hrel;by_cases hlt:k<m
  .have hkz:(k:Int)<(m:Int):=by omega
   obtain⟨T,hT,hTs⟩:=AA HTI k hlt;obtain⟨q1,q2⟩:=AA HNUM k hlt;obtain⟨q3,q4⟩:=AA HTT k hlt;have hNl:N<=10000/\N+T<=10000:=by have e1:=(AA BJ).1;have e2:=AA HLN k;simp at e1;have e3:=Om (AA HNN) k;omega
   obtain⟨hN1,hN2⟩:=hNl;obtain⟨x,hx⟩:∃x,x=((k % L:Nat):Int)+1:=⟨_,rfl⟩
   have HSTEP:Hid ((KJ dt L k).map (Value.int .i64)++(List.replicate T x).map (Value.int .i64)=(KJ dt L (k+1)).map (Value.int .i64)):=by rw[hx];exact UT hT
   have HC1:Hid (∀wx,Below W.heap.size W wx->Calls prog 192 #[.agg #[.slice nb L cL,.int .i64 s1,.int .i64 t1,.int .i64 m],.int .i64 (k:Nat)] wx fun e w'=>e=.returned (.int .i64 x)/\Below wx.heap.size wx w'):=fun wx hwx=>by have:=IM nb L cL s1 t1 m k Zo wx ((AA HN).below AC ((AA HB0).trans (hwx.mono (AA HB0).size))) q1;rw[q2,<-hx]at this;exact this
   have HC2:Hid (∀wx,Below W.heap.size W wx->Calls prog 192 #[.agg #[.slice a2 n2 c2,.int .i64 s2,.int .i64 t2,.int .i64 m],.int .i64 (k:Nat)] wx fun e w'=>e=.returned (.int .i64 (T:Nat))/\Below wx.heap.size wx w'):=fun wx hwx=>by have:=IM a2 n2 c2 s2 t2 m k dt wx ((AA H2).below AC ((AA HB0).trans (hwx.mono (AA HB0).size))) q3;rw[q4,hT]at this;exact this
   have KW:∀wx,Below wr.heap.size wr wx->Below W.heap.size W wx:=fun wx h=>(AA hbr).trans (h.mono (AA hbr).size);have HKEEP:∀wx,Below W.heap.size W wx->wx.cell? ⟨w.heap.size,0,none⟩=some (.slice nb L cL)/\wx.cell? ⟨w.heap.size,1,none⟩=some (.int .i64 (s1:Nat))/\wx.cell? ⟨w.heap.size,2,none⟩=some (.int .i64 (t1:Nat))/\wx.cell? ⟨w.heap.size,3,none⟩=some (.int .i64 (m:Nat))/\wx.cell? ⟨w.heap.size+1,0,none⟩=some (.slice a2 n2 c2)/\wx.cell? ⟨w.heap.size+1,1,none⟩=some (.int .i64 (s2:Nat))/\wx.cell? ⟨w.heap.size+1,2,none⟩=some (.int .i64 (t2:Nat))/\wx.cell? ⟨w.heap.size+1,3,none⟩=some (.int .i64 (m:Nat)):=fun wx hwx=>by obtain⟨x0,x1,x2,x3⟩:=((AA HX0).below AC hwx).cells;obtain⟨y0,y1,y2,y3⟩:=((AA HX1).below AC hwx).cells;exact⟨x0,x1,x2,x3,y0,y1,y2,y3⟩
   obtain⟨x0,x1,x2,x3,y0,y1,y2,y3⟩:=HKEEP _ (AA hbr);have hz0':=((AA HX1).below AC (AA hbr)).lt;have hWr:=(AA hbr).size;clear hx q1 q2 q3 q4;go_wp2_with fail
   go_region_held3 (fun wx=>wx.cell? ⟨w.heap.size,0,none⟩=some (.slice nb L cL)/\wx.cell? ⟨w.heap.size,1,none⟩=some (.int .i64 (s1:Nat))/\wx.cell? ⟨w.heap.size,2,none⟩=some (.int .i64 (t1:Nat))/\wx.cell? ⟨w.heap.size,3,none⟩=some (.int .i64 (m:Nat))/\wx.cell? ⟨w.heap.size+1,0,none⟩=some (.slice a2 n2 c2)/\wx.cell? ⟨w.heap.size+1,1,none⟩=some (.int .i64 (s2:Nat))/\wx.cell? ⟨w.heap.size+1,2,none⟩=some (.int .i64 (t2:Nat))/\wx.cell? ⟨w.heap.size+1,3,none⟩=some (.int .i64 (m:Nat))) (first|exact HKEEP _ hB7|exact HKEEP _ (KW _ hK3)|exact HKEEP _ (KW _ (hK1.alloc hK1.size _))|exact HKEEP _ (KW _ (hK2.alloc hK2.size _))|exact HKEEP _ (KW _ hK2)|exact HKEEP _ (KW _ hK1)|exact HKEEP _ (KW _ (AN _ wr).drew)) (first
    |(go_at_call_of 192 (Value.slice nb L cL);refine(AA HC1 _ (KW _ (by first|exact hK2|exact(AN _ wr).drew))).mono ?_;rintro e wA⟨rfl,hbA⟩;have hK1:Below wr.heap.size wr wA:=(by first|exact hK2.trans (hbA.mono hK2.size)|exact(AN _ wr).drew.trans hbA))
    |(go_at_call_of 192 (Value.slice a2 n2 c2);refine(AA HC2 _ (KW _ (by first|exact hK1.alloc hK1.size _|exact hK1|exact(AN _ wr).drew))).mono ?_;rintro e wB⟨rfl,hbB⟩;have hK2:Below wr.heap.size wr wB:=(by first|exact(hK1.alloc hK1.size _).trans (hbB.mono (by have:=hK1.size;simp;omega))|exact hK1.trans (hbB.mono hK1.size)|exact(AN _ wr).drew.trans hbB))
    |(go_at_call 148;refine(VH _ 1 T x _ (by first|exact AO.one _ _|exact(AO.one _ _).below AC hbB) (by omega)).mono ?_;rintro e wC⟨gC,rfl,hRC,hbC⟩;have hK3:Below wr.heap.size wr wC:=(by first|exact(hK2.alloc hK2.size _).trans (hbC.mono (by have:=hK2.size;simp;omega))|exact(hK1.alloc hK1.size _).trans (hbC.mono (by have:=hK1.size;simp;omega))|exact hK2.trans (hbC.mono hK2.size));have hKO:=BN (AA BJ) AC hK3)
    |(refine LJ _ (by rfl) _ _ _ (by rfl) W.heap.size 3 i0 _ 1 8 underlying23 hi hz0 hz1 hz2 rfl (by omega) _ N ((KJ dt L k).map (Value.int .i64)) (by rfl) hKO ⟨gC,0,none⟩ T T ((List.replicate T x).map (Value.int .i64)) (by rfl) (by simp) (Ct hRC) (DQ _) (by unfold maxLen;omega) (by omega) (by have:=hK3.size;omega) ?_;intro v7 w7 hown7 An;have hB7:Below W.heap.size W w7:=(KW _ hK3).trans (RM hKO (by have:=hK3.size;omega) An)))
   all_goals go_wp2_with fail
   all_goals(go_roundw;(case rel=>exact⟨k+1,N+T,by omega,by go_num,by show World.ownsRow _ _ _ _ _ _ _;rw[<-AA HSTEP];exact hown7,AD hB7⟩);(case measure=>simp[intOf];omega))
  .have e:k=m:=by omega
   subst k;clear hlt;have hNl:N<=10000:=by have e1:=(AA BJ).1;have e2:=AA HLN m;simp at e1;omega
   obtain⟨a',Ak,hv,hO⟩:=Bt.of_owns (AA BJ) (by omega);subst hv;have HO:=AD hO;clear hO;go_wp2_with fail;go_ret;exact⟨a',N,Ak,rfl,(AA HO).mono (by have:=AA HWZ;omega),(AA HB0).trans ((AA hbr).mono (AA HB0).size)⟩
end
section
open Go.Shelf
def Fy(w:World)(p:Nat)(v:Value):Prop:=w.heap[p]? =some (.cells #[v] 23 (0,0))
def Fy.lt{w:World}{p:Nat}{v:Value}(h:Fy w p v):p<w.heap.size:=lt_of_block h
def Fy.new(w:World)(v:Value):Fy (w.alloc (.cells #[v] 23)) w.heap.size v:=World.alloc_heap_new w _
def Fy.below{w w':World}{p B:Nat}{v:Value}(h:Fy w p v)(hB:w.heap.size<=B)(hb:Below B w w'):Fy w' p v:=(hb.block p (AZ h.lt hB)).trans h
def Fy.drew{w:World}{p:Nat}{v:Value}(h:Fy w p v):Fy w.drew p v:=h
def Fy.cell{w:World}{p:Nat}{v:Value}(h:Fy w p v):w.cell? ⟨p,0,none⟩=some v:=by unfold Fy at h;simp[World.cell?,h]
def Fy.free{w:World}{p:Nat}{v:Value}(h:Fy w p v):w.frozen? ⟨p,0,none⟩=false:=CB w p 0 _ _ h
def Fy.set{w:World}{p:Nat}{v:Value}(h:Fy w p v)(u:Value):(w.setCell ⟨p,0,none⟩ u).cell? ⟨p,0,none⟩=some u:=by have hc:=h.cell;exact DN _ _ _ (by rw[hc])
def T0(w W:World)(xs:List Int)(r:Value)(wx:World):Prop:=∃pt a' N Ak,r=.pointer (some ⟨pt,0,none⟩)/\wx.cell? ⟨pt,0,none⟩=some (.slice a' N Ak)/\Bt wx w.heap.size a' N xs/\Below W.heap.size W wx
def VX{w W wB:World}{xs:List Int}{pt N Ak:Nat}{a':Option Addr}{v:Value}(hP:Fy wB pt v)(hO:Bt wB w.heap.size a' N xs)(hne:∀x,At a' N x->x≠pt)(hB:Below W.heap.size W wB)(hp:W.heap.size<=pt):T0 w W xs (.pointer (some ⟨pt,0,none⟩)) (wB.setCell ⟨pt,0,none⟩ (.slice a' N Ak)):=⟨pt,a',N,Ak,rfl,hP.set _,hO.other (q:=⟨pt,0,none⟩) hne _,hB.setCell (p:=⟨pt,0,none⟩) hp _⟩
def UB(w:World)(u v:Value):((w.alloc (.cells #[u] 3)).alloc (.cells #[v] 92)).cell? ⟨w.heap.size,0,none⟩=some u/\((w.alloc (.cells #[u] 3)).alloc (.cells #[v] 92)).cell? ⟨w.heap.size+1,0,none⟩=some v:=by have h1:(w.alloc (.cells #[u] 3)).heap[w.heap.size]? =some (.cells #[u] 3 (0,0)):=World.alloc_heap_new w _;have h2:=World.alloc_heap_new (w.alloc (.cells #[u] 3)) (.cells #[v] 92);rw[World.size_alloc]at h2;have h3:=Ab (w.alloc (.cells #[u] 3)) (.cells #[v] 92) w.heap.size (by simp);rw[h1]at h3;exact⟨by simp[World.cell?,h3],by simp only[World.cell?];rw[h2];rfl⟩
def O0{c d:Bool}{sh dt sh' dt':List Int}{fl:Bool}{r:Int}(h:Ap c d sh dt sh' dt'=r)(hr:r≠0):Aw c d sh dt sh' dt' fl=AT r:=by
 unfold Ap at h;split at h
 .rename_i hh;exact QA hh.1 hh.2 r h hr
 .rename_i hh
  subst h;unfold Aw;rw[AH hh]
def aO:∀args w,(callFunc 299 args).run prog w=.ok (.enter 299 args) w:=enters_of func299 (by kernel_rfl) rfl
def Vw(pt:Nat)(ta:Option Addr)(N cap:Nat)(I:List Nat)(v:Int)(W:World)(hc:W.cell? ⟨pt,0,none⟩=some (.slice ta N cap))(hr:AO W ta N (I.map fun(n:Nat)=>(n:Int)+1))(hv:0<=v/\v<N)(hI:∀j,j<I.length->I.getD j 0<=10000):Calls prog 299 #[.int .i64 v,.pointer (some ⟨pt,0,none⟩)] W fun e w'=>e=.returned (.int .i64 ((I.getD v.toNat 0:Nat):Int))/\∃q,w'=W.drewN q:=by
 obtain⟨j,rfl⟩:∃j:Nat,v=j:=⟨v.toNat,by omega⟩
 have hjN:j<N:=by omega
 have Bq:=hr.len;rw[Fc]at Bq;obtain⟨b,off,rfl,_,hcx⟩:=hr.get hjN;have hx:=PS I j (by omega);have hb:=hI j (by omega);obtain⟨x,hxx⟩:∃x,(I.map fun(n:Nat)=>(n:Int)+1).getD j 0=x:=⟨_,rfl⟩
 rw[hxx]at hcx hx;have h1:IntKind.i64.wrap (x- 1)=x- 1:=by rw[IntKind.wrap_i64];omega
 have HX:=AD hx;have hjz:(j:Int)<(N:Int):=by omega
 clear hr hI Bq hx hxx hv hb;rw[DL];go_enter func299,ntmps299;go_wp2_with fail;go_ret;exact⟨BM (AA HX),0,rfl⟩
def Jq(c d:Bool)(a1 a2 b1 b2:Option Addr)(n1 n2 m1 m2 c1 c2 d1 d2:Nat)(sh dt sh' dt':List Int)(fl:Bool)(w:World)(h1:AO w a1 n1 sh)(h2:AO w a2 n2 dt)(k1:AO w b1 m1 sh')(k2:AO w b2 m2 dt'):Calls prog 262 #[.agg #[.bool c,.slice a1 n1 c1,.slice a2 n2 c2],.agg #[.bool d,.slice b1 m1 d1,.slice b2 m2 d2],.bool fl] w (Ag w (Aw c d sh dt sh' dt' fl)):=by
 have hl1:=AD h1.len;have hl2:=AD h2.len;have hl3:=AD k1.len;have hl4:=AD k2.len;have hs1:=h1.small;have hs2:=h2.small;have hs4:=k2.small;have H1:=AD h1;have H2:=AD h2;have K1:=AD k1;have K2:=AD k2;clear h1 h2 k1 k2;obtain⟨r,hr⟩:∃r,Ap c d sh dt sh' dt'=r:=⟨_,rfl⟩
 have HRC:=AD hr;clear hr;go_enter func262,ntmps262
 go_upto_if 20 with(go_at_call 57;refine(Ao c d a1 a2 b1 b2 n1 n2 m1 m2 c1 c2 d1 d2 sh dt sh' dt' _ ((((AA H1).alloc _).alloc _).alloc _) ((((AA H2).alloc _).alloc _).alloc _) ((((AA K1).alloc _).alloc _).alloc _) ((((AA K2).alloc _).alloc _).alloc _) _ HRC).mono ?_;rintro e w1⟨rfl,hb1⟩;obtain⟨B0,B1,B2,hB1⟩:=Az hb1;have D4:=AD B0;have D5:=AD B1;have D6:=AD B2;have hB3:=AD hB1;clear hb1 hB1 B0 B1 B2)
 by_cases hcode:r=0
 .subst hcode;have HOK:Hid ((AJ c sh dt=true/\AJ d sh' dt'=true)/\Ae c sh.length=0):=by
   have h:=AA HRC;unfold Ap at h;split at h
   .rename_i hh;exact⟨hh,h⟩
   .omega
  have HR1:Hid (AJ c sh dt=true):=(AA HOK).1.1;have HR2:Hid (AJ d sh' dt'=true):=(AA HOK).1.2;have HL0:Hid (Ae c sh.length=0):=(AA HOK).2;have hn1:n1<=1:=by
   have h:=AA HL0;rw[AA hl1]at h;unfold Ae at h;split at h
   .omega
   .omega
  clear HOK HRC;obtain⟨zs,hzs⟩:∃zs,zs=EM sh':=⟨_,rfl⟩
  have HOKZ:Hid (AJ d zs dt'=true):=by rw[hzs];exact Vr (AA HR2)
  have HZN:Hid (zs≠ []):=by rw[hzs];exact QB sh'
  have HZE:Hid (zs=EM sh'):=hzs;have HZ0:Hid (m1=0->zs= [(m2:Int)]):=fun h=>by have e:sh'= []:=Af.mp (by rw[AA hl3];exact h);have hp:=(AW (AA HR2)).2.1;rw[AA hl4,e]at hp;simp[AM]at hp;rw[hzs,e,<-hp];rfl
  have HZ1:Hid (m1≠0->zs=sh'):=fun h=>by have:sh'≠ []:=fun e=>h (by rw[<-AA hl3,e];rfl);rw[hzs];unfold EM;rw[AH this]
  have hm15:m1<=5:=by have:=(AW (AA HR2)).2.2;rw[AA hl3]at this;exact this
  clear hzs;obtain⟨y0,y1,y2,y3,y4,y5,y6⟩:=(AA D5).all;have hz6:=(AA D6).lt
  go_upto_if 26 with fail
  go_cut[] (fun wx=>∃(s1:Addr)(M e1:Nat),0<M/\M<=5/\AO wx (some s1) M zs/\Ai wx w.heap.size c (.slice a1 n1 c1) (.slice a2 n2 c2)/\Ai wx (w.heap.size+1) d (.slice (some s1) M e1) (.slice b2 m2 d2)/\Ai wx (w.heap.size+2) false (.slice none 0 0) (.slice none 0 0)/\Below w.heap.size w wx);case first=>as_aux_lemma=>
   by_cases hm0:m1=0
   .have g0:((m1:Int)==0)=true:=by simp[hm0]
    have HZ:=AD (AA HZ0 hm0);clear hm0;go_wp2_with(go_at_call 170;refine(MY d _ b2 m2 d2 _).mono ?_;rintro e w4⟨s,rfl,hs,hBk,hb4⟩;have HBK:=AD hBk;have HS:=AD hs;have HB4:=AD hb4;clear hBk hs hb4 y0 y1 y2 y3 y4 y5 y6;obtain⟨y0,y1,y2,y3,y4,y5,y6⟩:=((AA D5).below AC (AA HB4)).all)
    go_meet
    case rel=>
     have E4:=(AA D4).below AC (AA HB4);have E5:=(AA D5).below AC (AA HB4);have E6:=(AA D6).below AC (AA HB4);have hz3:=(AA hB3).size;have hR:AO w4 (some ⟨s,0,none⟩) 1 zs:=by rw[AA HZ];exact(AA HBK).row rfl (by omega)
     refine⟨⟨s,0,none⟩,1,1,by omega,by omega,?_,?_,E5.sets,?_,?_⟩
     .exact hR.sets E5 _ _ _
     .exact((E4.other (q:=⟨w.heap.size+1,0,none⟩) (by simp) _).other (q:=⟨w.heap.size+1,1,none⟩) (by simp) _).other (q:=⟨w.heap.size+1,2,none⟩) (by simp) _
     .exact((E6.other (q:=⟨w.heap.size+1,0,none⟩) (by simp) _).other (q:=⟨w.heap.size+1,1,none⟩) (by simp) _).other (q:=⟨w.heap.size+1,2,none⟩) (by simp) _
     .exact((((AA hB3).trans ((AA HB4).mono hz3)).setCell (by simp) _).setCell (by simp) _).setCell (by simp) _
   .have g0:((m1:Int)==0)=false:=by simp;omega
    have HZ:=AD (AA HZ1 hm0);have hmp:0<m1:=by omega
    clear hm0;go_wp2_with fail
    go_meet
    case rel=>
     obtain⟨bq,oq,ebq,_⟩:=(AA K1).get hmp;subst ebq;exact⟨⟨bq,oq,none⟩,m1,d1,hmp,by omega,by rw[AA HZ];exact(AA K1).below AC (AA hB3),AA D4,AA D5,AA D6,AA hB3⟩
  case rest=>
   obtain⟨w2,hw2⟩:∃x,x=wc:=⟨_,rfl⟩
   subst hw2;obtain⟨s1,M,e1,hM0,hM5,E2,f4,f5,f6,hbl⟩:=hcut;have hZL:zs.length=M:=E2.len;have HRW:=AD E2;have E4:=AD f4;have E5:=AD f5;have E6:=AD f6;have hB4:=AD hbl;clear E2 f4 f5 f6 hbl D4 D5 D6 hB3 y0 y1 y2 y3 y4 y5 y6 hz6 HZ0 HZ1 hm15;obtain⟨B,L,A,hax,hprod,hBb,hLb,hAb⟩:=Pe fl (AA HOKZ) (AA HZN);obtain⟨m,hm⟩:∃m,m=KE dt sh' fl:=⟨_,rfl⟩
   obtain⟨hrN,hrM⟩:=TP dt sh' fl (L:=L) (K:=n2) (by rw[<-AA HZE];exact hax.l) (AA hl2);have hME:m=if L=1 then n2 else L:=by rw[hm];exact hrM
   obtain⟨ax,haxx⟩:∃ax,(if fl then 0 else M- 1)=ax:=⟨_,rfl⟩
   have HAXI:=AD haxx;have haxl:ax<M:=by rw[<-haxx];split<;>omega
   have haxr:C2 zs fl=ax:=by unfold C2;rw[hZL,haxx]
   have haxe:CO zs fl=ax:=by unfold CO;rw[hZL,haxx]
   have hcL:zs.getD ax 0=(L:Int):=by rw[<-haxe];exact hax.l
   have HRN:=AD hrN;have HMM:=AD hm;have HAX:=AD hax;have HPR:=AD hprod;have HAR:=AD haxr;have hm1:m<=10000:=by have h5:=(AW (AA HR1)).1.bd;rw[(AW (AA HR1)).2.1,AA hl2]at h5;rw[hME];split<;>omega
   have HME:=AD hME;have HZL:=AD hZL;clear hax hprod hm hrM hrN haxx haxr haxe hME hZL;obtain⟨y0,y1,y2,y3,y4,y5,y6⟩:=(AA E5).all;obtain⟨bs,os,hbs,hbsl,hcs⟩:=(AA HRW).get haxl;cases hbs;rw[hcL]at hcs;have haxz:(ax:Int)<(M:Int):=by omega
   go_upto_region 7 with(go_at_call 62;refine(S9 _ M e1 fl _ hM0 (by omega) ax HAXI).mono ?_;rintro e w'⟨rfl,hw⟩;obtain rfl:=hw.symm);go_upto_region 8 with(go_at_call 218;refine(LO L hLb _).mono ?_;rintro e w3⟨sN,gN,rfl,hsN,hgN,hne,hbs,hbg,hb3⟩;have HSN:=AD hsN;have HGN:=AD hgN;have HBS:=AD hbs;have HBG:=AD hbg;have HB3:=AD hb3;clear hsN hgN hne hbs hbg hb3);obtain⟨p10,hp10⟩:∃p,p=w3.heap.size:=⟨_,rfl⟩
   obtain⟨W5,hW5⟩:∃W,W=w3.alloc (.cells #[.bool false,.slice (some ⟨sN,0,none⟩) 1 1,.slice (some ⟨gN,0,none⟩) L L] 25):=⟨_,rfl⟩
   have F4:Hid (Ai W5 w.heap.size c (.slice a1 n1 c1) (.slice a2 n2 c2)):=by rw[hW5];exact((AA E4).below AC (AA HB3)).alloc _
   have F5:Hid (Ai W5 (w.heap.size+1) d (.slice (some ⟨bs,os,none⟩) M e1) (.slice b2 m2 d2)):=by rw[hW5];exact((AA E5).below AC (AA HB3)).alloc _
   have F6:Hid (Ai W5 (w.heap.size+2) false (.slice none 0 0) (.slice none 0 0)):=by rw[hW5];exact((AA E6).below AC (AA HB3)).alloc _
   have FN:Hid (Ai W5 p10 false (.slice (some ⟨sN,0,none⟩) 1 1) (.slice (some ⟨gN,0,none⟩) L L)):=by rw[hW5,hp10];exact Ai.new w3 _ _ _
   have HSL:Hid (AO W5 (some ⟨sN,0,none⟩) 1 [(L:Int)]):=by rw[hW5];exact((AA HBS).alloc _).row rfl (by omega)
   have HGL:Hid (AO W5 (some ⟨gN,0,none⟩) L (Lw L)):=by rw[hW5];exact((AA HBG).alloc _).row (VU L) (by omega)
   have HRS:Hid (AO W5 (some ⟨bs,os,none⟩) M zs):=by rw[hW5];exact((AA HRW).below AC (AA HB3)).alloc _
   have HB5:Hid (Below w.heap.size w W5):=by rw[hW5];exact((AA hB4).trans ((AA HB3).mono (AA hB4).size)).alloc (by have:=(AA hB4).size;have:=(AA HB3).size;omega) _
   have hp2:w.heap.size+2<p10:=by rw[hp10];exact((AA E6).below AC (AA HB3)).lt
   rw[<-hW5,<-hp10];clear hW5 hp10 E4 E5 E6 HRW hB4 HB3 HBS HBG HSN HGN y0 y1 y2 y3 y4 y5 y6 hcs hbsl;have H1J:=AD ((AA H1).below AC (AA HB5));have H2J:=AD ((AA H2).below AC (AA HB5));have K2J:=AD ((AA K2).below AC (AA HB5));obtain⟨cd,hcd⟩:∃cd:Int,(if L≠1/\n2≠1/\n2≠L then 5 else 0)=cd:=⟨_,rfl⟩
   have HCD:=AD hcd;clear hcd;obtain⟨x0,x1,x2,x3,x4,x5,x6⟩:=(AA F4).all;obtain⟨v0,v1,v2,v3,v4,v5,v6⟩:=(AA FN).all
   go_upto_if 46 with(go_at_call 296;refine(Mc c a1 a2 (some ⟨sN,0,none⟩) (some ⟨gN,0,none⟩) n1 n2 c1 c2 L 1 L sh dt _ (AA H1J) (AA HSL) (AA HR1) (AA hl2) hn1 hLb cd HCD).mono ?_;rintro e w6⟨cnt,rfl,hcnt,hb6⟩;have HCN:=AD hcnt;have HB6':=AD hb6;clear hcnt hb6)
   clear x0 x1 x2 x3 x4 x5 x6 v0 v1 v2 v3 v4 v5 v6;have J4:=AD ((AA F4).below AC (AA HB6'));have J5:=AD ((AA F5).below AC (AA HB6'));have J6:=AD ((AA F6).below AC (AA HB6'));have JN:=AD ((AA FN).below AC (AA HB6'));have HG6:=AD ((AA HGL).below AC (AA HB6'));have HR6:=AD ((AA HRS).below AC (AA HB6'));have HB6:=AD ((AA HB5).trans ((AA HB6').mono (AA HB5).size));have H2K:=AD ((AA H2J).below AC (AA HB6'));have K2K:=AD ((AA K2J).below AC (AA HB6'));clear F4 F5 F6 FN HSL HGL HRS HB5 HB6' H1J H2J K2J;by_cases herr:L≠1/\n2≠1/\n2≠L
   .have HS:Hid (Aw c d sh dt sh' dt' fl=AT 5):=TO (AA HR1) (AA HR2) (AA HL0) (by rw[AA HRN,AA hl2];exact herr);obtain rfl:cd=5:=by have:=AA HCD;rw[AI herr]at this;exact this.symm
    clear herr HCN;obtain⟨q0,q1,q2,q3,q4,q5,q6⟩:=(AA J6).all;go_wp2_with fail;refine bodyPost_ret (v:=.tuple #[.agg #[.bool false,.slice none 0 0,.slice none 0 0],.int .i64 5]) (by simp[results,results262,go_sem,q0,q1,q2]) rfl ?_;rw[AA HS];exact As ((((AA HB6).setCell (by simp<;>omega) _).setCell (by simp<;>omega) _).setCell (by simp<;>omega) _)
   .have HNE:Hid (¬(GV sh' fl≠1/\dt.length≠1/\dt.length≠GV sh' fl)):=by rw[AA HRN,AA hl2];exact herr
    obtain rfl:cd=0:=by have:=AA HCD;rw[AH herr]at this;exact this.symm
    have hcm:cnt=m:=by rw[AA HCN rfl,AA HME];rfl
    subst cnt;have hmL:0<m->0<L:=by
     intro h;have:=AA HME;by_cases h1:L=1
     .omega
     .rw[AH h1]at this;omega
    have HKM:Hid (∀k,k<m->k*(if n2=1 then 0 else 1)<n2/\k*(if n2=1 then 0 else 1)=k % n2/\k*(if L=1 then 0 else 1)<L/\k*(if L=1 then 0 else 1)=k % L):=fun k hk=>by
     have h:=AA HME;have e1:k*(if n2=1 then 0 else 1)<n2/\k*(if n2=1 then 0 else 1)=k % n2:=by
      by_cases h1:n2=1
      .rw[AI h1,h1];simp[Nat.mod_one]
      .rw[AH h1];have hkn:k<n2:=by
        by_cases h2:L=1
        .rw[AI h2]at h;omega
        .rw[AH h2]at h;omega
       rw[IP,Nat.mod_eq_of_lt hkn];exact⟨hkn,rfl⟩
     have e2:k*(if L=1 then 0 else 1)<L/\k*(if L=1 then 0 else 1)=k % L:=by
      by_cases h2:L=1
      .rw[AI h2,h2];simp[Nat.mod_one]
      .rw[AH h2];rw[AH h2]at h;rw[IP,Nat.mod_eq_of_lt (by omega)];exact⟨by omega,rfl⟩
     exact⟨e1.1,e1.2,e2.1,e2.2⟩
    obtain⟨ng,hng⟩:∃ng,(!dt.all BE)=ng:=⟨_,rfl⟩
    have HNG:=AD hng;clear hng herr HCN HCD;obtain⟨x0,x1,x2,x3,x4,x5,x6⟩:=(AA J4).all
    go_upto_if 51 with(go_at_call 169;refine(DJ _ _ _ dt _ (AA H2K) _ HNG).mono ?_;rintro e w'⟨rfl,hw⟩;obtain rfl:=hw.symm)
    cases ng with
    |true=>
     have HS:Hid (Aw c d sh dt sh' dt' fl=AT 3):=TN (AA HR1) (AA HR2) (AA HL0) (AA HNE) (by have:=AA HNG;simpa using this);clear x0 x1 x2 x3 x4 x5 x6;obtain⟨q0,q1,q2,q3,q4,q5,q6⟩:=(AA J6).all;go_wp2_with fail;refine bodyPost_ret (v:=.tuple #[.agg #[.bool false,.slice none 0 0,.slice none 0 0],.int .i64 3]) (by simp[results,results262,go_sem,q0,q1,q2]) rfl ?_;rw[AA HS];exact As ((((AA HB6).setCell (by simp<;>omega) _).setCell (by simp<;>omega) _).setCell (by simp<;>omega) _)
    |false=>
     have HA:Hid (dt.all BE=true):=by
      have h:=AA HNG;show dt.all BE=true;cases hh:dt.all BE with
      |true=>rfl
      |false=>rw[hh]at h;cases h
     obtain⟨z,hz⟩:∃z:Nat,z=0:=⟨_,rfl⟩
     obtain⟨t1,ht1⟩:∃t:Nat,t=if n2=1 then 0 else 1:=⟨_,rfl⟩
     obtain⟨t2,ht2⟩:∃t:Nat,t=if L=1 then 0 else 1:=⟨_,rfl⟩
     have HX1:Hid (∀wx,Calls prog 292 #[.agg #[.bool c,.slice a1 n1 c1,.slice a2 n2 c2],.int .i64 (m:Nat)] wx fun e w'=>e=.returned (.agg #[.slice a2 n2 c2,.int .i64 (z:Nat),.int .i64 (t1:Nat),.int .i64 (m:Nat)])/\Below wx.heap.size wx w'):=fun wx=>by
      have:=Dd c a1 a2 n1 n2 c1 c2 m hs2 wx
      rwa [<-ht1,<-hz]at this
     have HX2:Hid (∀wx,Calls prog 292 #[.agg #[.bool false,.slice (some ⟨sN,0,none⟩) 1 1,.slice (some ⟨gN,0,none⟩) L L],.int .i64 (m:Nat)] wx fun e w'=>e=.returned (.agg #[.slice (some ⟨gN,0,none⟩) L L,.int .i64 (z:Nat),.int .i64 (t2:Nat),.int .i64 (m:Nat)])/\Below wx.heap.size wx w'):=fun wx=>by
      have key:∀aS aG:Addr,Calls prog 292 #[.agg #[.bool false,.slice (some aS) 1 1,.slice (some aG) L L],.int .i64 (m:Nat)] wx fun e w'=>e=.returned (.agg #[.slice (some aG) L L,.int .i64 (z:Nat),.int .i64 (t2:Nat),.int .i64 (m:Nat)])/\Below wx.heap.size wx w':=fun aS aG=>by
       have:=Dd false aS aG 1 L 1 L m (by omega) wx
       rwa [<-ht2,<-hz]at this
      exact key _ _
     have HT1:Hid (∀k,k<m->z+k*t1<n2/\dt.getD (z+k*t1) 0=Br dt k):=fun k hk=>by obtain⟨q1,q2,_,_⟩:=AA HKM k hk;rw[hz,ht1,Cq];refine⟨q1,?_⟩;unfold Br;rw[q2,AA hl2]
     have HT2:Hid (∀k,k<m->z+k*t2<L/\(Lw L).getD (z+k*t2) 0=((k % L:Nat):Int)+1):=fun k hk=>by obtain⟨_,_,q3,q4⟩:=AA HKM k hk;rw[hz,ht2,Cq];refine⟨q3,?_⟩;rw[VV q3,q4]
     have HT3:Hid (∀k,k<m->z+k*t1<n2/\dt.getD (z+k*t1) 0=Br dt k/\0<=Br dt k/\Br dt k<=1000000000000000):=fun k hk=>by obtain⟨q1,q2⟩:=AA HT1 k hk;exact⟨q1,q2,En (AA HA) k,by rw[<-q2];exact(Bl (AA HR1) (by rw[AA hl2];exact q1)).2⟩
     clear hz ht1 ht2 HKM HNG;go_upto_region 14 with(go_at_call 292;refine(AA HX1 _).mono ?_;rintro e w7⟨rfl,hb7⟩;have HB7':=AD hb7;clear hb7);clear x0 x1 x2 x3 x4 x5 x6;obtain⟨p13,hp13⟩:∃p,p=w7.heap.size:=⟨_,rfl⟩
     obtain⟨W8,hW8⟩:∃W,W=w7.alloc (.cells #[.slice a2 n2 c2,.int .i64 (z:Nat),.int .i64 (t1:Nat),.int .i64 (m:Nat)] 145):=⟨_,rfl⟩
     have G5:Hid (Ai W8 (w.heap.size+1) d (.slice (some ⟨bs,os,none⟩) M e1) (.slice b2 m2 d2)):=by rw[hW8];exact((AA J5).below AC (AA HB7')).alloc _
     have G6:Hid (Ai W8 (w.heap.size+2) false (.slice none 0 0) (.slice none 0 0)):=by rw[hW8];exact((AA J6).below AC (AA HB7')).alloc _
     have GN:Hid (Ai W8 p10 false (.slice (some ⟨sN,0,none⟩) 1 1) (.slice (some ⟨gN,0,none⟩) L L)):=by rw[hW8];exact((AA JN).below AC (AA HB7')).alloc _
     have GS:Hid (Dt W8 p13 a2 n2 c2 z t1 m):=by rw[hW8,hp13];exact Dt.new w7 _ _ _ _ _ _
     have HG8:Hid (AO W8 (some ⟨gN,0,none⟩) L (Lw L)):=by rw[hW8];exact((AA HG6).below AC (AA HB7')).alloc _
     have HR8:Hid (AO W8 (some ⟨bs,os,none⟩) M zs):=by rw[hW8];exact((AA HR6).below AC (AA HB7')).alloc _
     have HB8:Hid (Below w.heap.size w W8):=by rw[hW8];exact((AA HB6).trans ((AA HB7').mono (AA HB6).size)).alloc (by have:=(AA HB6).size;have:=(AA HB7').size;omega) _
     have hp13l:p10<p13:=by rw[hp13];exact((AA JN).below AC (AA HB7')).lt
     rw[<-hW8,<-hp13];clear hW8 hp13 J4 J5 J6 JN HG6 HR6 HB6 H2K K2K HB7' HX1;obtain⟨y0,y1,y2,y3,y4,y5,y6⟩:=(AA G5).all;go_upto_region 15 with(go_at_call 63;refine(Fo ⟨bs,os,none⟩ M e1 zs _ (AA HR8)).mono ?_;rintro e w9⟨ash,csh,rfl,hcap,hO,hb9⟩;have HO9:=AD hO;have HB9':=AD hb9;clear hcap hO hb9);clear y0 y1 y2 y3 y4 y5 y6;have L5:=AD ((AA G5).below AC (AA HB9'));have L6:=AD ((AA G6).below AC (AA HB9'));have LN:=AD ((AA GN).below AC (AA HB9'));have LS:=AD ((AA GS).below AC (AA HB9'));have HG9:=AD ((AA HG8).below AC (AA HB9'));have HR9:=AD ((AA HR8).below AC (AA HB9'));have HB9:=AD ((AA HB8).trans ((AA HB9').mono (AA HB8).size));have hp13w:p13<W8.heap.size:=(AA GS).lt;have HG8':=HG8;have HBW':Hid (bs<W8.heap.size):=(AA HR8).hi (DK (by omega));have HW8W':Hid (w.heap.size<=W8.heap.size):=(AA HB8).size;clear G5 G6 GN GS HG8 HR8 HB8;have HGW:Hid (L≠0->gN<W8.heap.size):=fun h=>by have:=(AA HG8').hi (DK h);exact this
     have HBW:Hid (bs<W8.heap.size):=AA HBW';have HW8W:Hid (w.heap.size<=W8.heap.size):=AA HW8W';have HLO:Hid (∀x,At ash M x->W8.heap.size<=x):=fun x hx=>(AA HO9).low hx;have H2N:=AD ((AA H2).below AC (AA HB9));obtain⟨lm,hlm⟩:∃lm,lm=KM (A5 dt m):=⟨_,rfl⟩
     have hcall:=Ma a2 n2 c2 z t1 m dt w9 (AA H2N) hm1 (AA HT3) (AA HA);rw[<-hlm]at hcall;have HLM:=AD hlm;clear hlm;rcases(AA HO9).at_ with h|⟨gs,os',rfl,hgs,hgsl,hce,hfr⟩
     .omega
     obtain⟨s0,s1',s2,s3⟩:=(AA LS).cells;have hLSl:=(AA LS).lt;go_upto_region 16 with(go_at_call 297;refine hcall.mono ?_;rintro e wA⟨rfl,hbA⟩;have HBA':=AD hbA;have hca:=(hbA.cell (p:=⟨gs,os'+ax,none⟩) hgsl).trans (hce ax haxl);have hfa:=(hbA.frozen (p:=⟨gs,os'+ax,none⟩) hgsl).trans (hfr ax haxl);clear hbA);clear hcall s0 s1' s2 s3 hce hfr;obtain⟨WB,hWB⟩:∃W,W=wA.setCell ⟨gs,os'+ax,none⟩ (.int .i64 lm):=⟨_,rfl⟩
     have hng2:gs≠w.heap.size+1/\gs≠w.heap.size+2/\gs≠p10/\gs≠p13:=by have:=AA HLO gs (DK (by omega));omega
     have M5:Hid (Ai WB (w.heap.size+1) d (.slice (some ⟨bs,os,none⟩) M e1) (.slice b2 m2 d2)):=by rw[hWB];exact((AA L5).below AC (AA HBA')).other (by simpa using hng2.1.symm) _
     have M6:Hid (Ai WB (w.heap.size+2) false (.slice none 0 0) (.slice none 0 0)):=by rw[hWB];exact((AA L6).below AC (AA HBA')).other (by simpa using hng2.2.1.symm) _
     have MN:Hid (Ai WB p10 false (.slice (some ⟨sN,0,none⟩) 1 1) (.slice (some ⟨gN,0,none⟩) L L)):=by rw[hWB];exact((AA LN).below AC (AA HBA')).other (by simpa using hng2.2.2.1.symm) _
     have MS:Hid (Dt WB p13 a2 n2 c2 z t1 m):=by rw[hWB];exact(Cg _ ⟨gs,os'+ax,none⟩ p13 _ (by simpa using hng2.2.2.2.symm)).trans ((AA LS).below AC (AA HBA'))
     have hgNl:gN<W8.heap.size\/L=0:=by
      by_cases hL0:L=0
      .exact .inr hL0
      .exact .inl ((AA HGW) hL0)
     have hNgs:∀x,At (some ⟨gN,0,none⟩) L x->x≠gs:=fun x hx=>by
      have e:=DT hx;have:=AA HLO gs (DK (by omega));rcases hgNl with h|h
      .omega
      .exact absurd h hx.1
     have HGB:Hid (AO WB (some ⟨gN,0,none⟩) L (Lw L)):=by rw[hWB];exact((AA HG9).below AC (AA HBA')).otherB hNgs _
     have hbsl':∀x,At (some ⟨bs,os,none⟩) M x->x≠gs:=fun x hx=>by have e:=DT hx;have h1:=AA HLO gs (DK (by omega));have h2:=AA HBW;omega
     have HRB:Hid (AO WB (some ⟨bs,os,none⟩) M zs):=by rw[hWB];exact((AA HR9).below AC (AA HBA')).otherB hbsl' _
     obtain⟨ZL,hZL⟩:∃ZL,ZL=zs.set ax lm:=⟨_,rfl⟩
     have HOB:Hid (Bt WB W8.heap.size (some ⟨gs,os',none⟩) M ZL):=by rw[hWB,hZL];exact((AA HO9).below AC (AA HBA')).set haxl _
     have HBB:Hid (Below w.heap.size w WB):=by rw[hWB];exact((AA HB9).trans ((AA HBA').mono (AA HB9).size)).setCell (by have:=AA HLO gs (DK (by omega));have:=AA HW8W;show w.heap.size<=gs;omega) _
     have HZLE:=AD hZL;rw[<-hWB];clear hWB hZL L5 L6 LN LS HG9 HR9 HB9 HBA' HO9 H2N hca hfa hgNl hng2 hNgs hbsl' hLSl;obtain⟨sb,hsb⟩:∃r,Am ZL=r:=⟨_,rfl⟩
     have HSB:=AD hsb;clear hsb
     go_upto_if 66 with(go_at_call 114;refine(CR _ _ _ ZL _ (AA HOB).row _ HSB).mono ?_;rintro e w'⟨rfl,hw⟩;obtain rfl:=hw.symm)
     cases sb with
     |false=>
      have HS:Hid (Aw c d sh dt sh' dt' fl=AT 7):=by
       refine O1 (AA HR1) (AA HR2) (AA HL0) (AA HNE) (AA HA) ?_;by_cases hbig:10000<A5 dt (KE dt sh' fl)
       .exact .inl hbig
       .right;unfold Hs;rw[<-AA HZE,AA HAR];have h:=AA HSB;rw[AA HZLE,AA HLM]at h;rw[<-AA HMM]at hbig ⊢
        rwa [show KM (A5 dt m)=A5 dt m by unfold KM;omega]at h
      obtain⟨q0,q1,q2,q3,q4,q5,q6⟩:=(AA M6).all;go_wp2_with fail;refine bodyPost_ret (v:=.tuple #[.agg #[.bool false,.slice none 0 0,.slice none 0 0],.int .i64 7]) (by simp[results,results262,go_sem,q0,q1,q2]) rfl ?_;rw[AA HS];exact As ((((AA HBB).setCell (by simp<;>omega) _).setCell (by simp<;>omega) _).setCell (by simp<;>omega) _)
     |true=>
      obtain⟨I,hI⟩:∃I,I=Cr dt L m:=⟨_,rfl⟩
      have hle:A5 dt m<=10000/\lm=A5 dt m:=by
       have h:=(DE (AA HSB)).1.cell ax;have hg:ZL.getD ax 0=lm:=by rw[AA HZLE];simp[List.getD,show ax<zs.length by rw[AA HZL];exact haxl]
       rw[hg]at h;have h2:=AA HLM;unfold KM at h2;omega
      have HIL:Hid ((I.length:Int)=A5 dt m):=by rw[hI];exact MF m (En (AA HA))
      have HZI:Hid (ZL=zs.set (C2 zs fl) (I.length:Int)):=by show _=_;rw[AA HZLE,AA HAR,hle.2,AA HIL]
      have hPb:=(DE (AA HSB)).1.bd;obtain⟨N,hN⟩:∃N:Nat,AM ZL=(N:Int):=⟨(AM ZL).toNat,by omega⟩
      have HN:=AD hN;have HGO:Hid (Aw c d sh dt sh' dt' fl=⟨d,ZL,Bg (BP d zs dt' (Nl ax I) ZL) N,0⟩):=by
       show _=_;have hz:Hs dt sh' fl=ZL:=by unfold Hs;rw[<-AA HZE,AA HAR,<-AA HMM,AA HZLE,hle.2]
       rw[Vs (AA HR1) (AA HR2) (AA HL0) (AA HNE) (AA HA) (by rw[hz,<-AA HMM,AA HSB];rintro(h|h);(· omega);cases h),hz,<-AA HMM,AA HRN,<-AA HZE,(AA HAX).b,(AA HAX).a];have hv:=Vq (d:=d) (dt:=dt) (dt':=dt') (N:=N) (AA HZN) (AA HAX) (by rw[AA HPR]) hmL (by rw[<-hI,<-AA HZI];exact AA HSB) (by rw[<-hI,<-AA HZI];exact hN);rw[<-hI,<-AA HZI,AA HAR]at hv;simpa using hv
      have HIB:Hid (∀j,j<I.length->I.getD j 0<=10000):=fun j hj=>by
       rw[hI]at hj ⊢;by_cases hm0:0<m
       .have:=KF (dt:=dt) (hmL hm0) m ((Cr dt L m).getD j 0) (by simp only[List.getD,CK hj,EH];exact DV hj);omega
       .have e:m=0:=by omega
        rw[e]at hj;simp[Cr]at hj
      have HOUT:Hid (KJ dt L m=I.map fun(n:Nat)=>(n:Int)+1):=by show _=_;rw[hI];rfl
      have HZA:Hid (ZL.getD ax 0=(I.length:Int)):=by show _=_;rw[AA HZI,AA HAR];simp[List.getD,show ax<zs.length by rw[AA HZL];exact haxl]
      have HZX:Hid (Aq ZL/\ZL.length=M):=⟨(DE (AA HSB)).1,(AA HOB).row.len⟩
      have HZS:Hid (Aq zs/\AM zs=(m2:Int)):=by obtain⟨q1,q2,_⟩:=AW (AA HOKZ);exact⟨q1,by rw[q2,AA hl4]⟩
      have hts:A5 dt m<=10000:=hle.1;clear hI hle hPb hN HLM HZLE HZI HIL HNE HL0 HR1 HR2 HZN HAX HPR HME HMM HRN HT3 hmL HZE;have H2B:=AD ((AA H2).below AC (AA HBB));have K2B:=AD ((AA K2).below AC (AA HBB));have hWBz:=(AA HBB).size;obtain⟨v0,v1,v2,v3,v4,v5,v6⟩:=(AA MN).all;obtain⟨s0,s1',s2,s3⟩:=(AA MS).cells;have hMSl:=(AA MS).lt;have hM6l:=(AA M6).lt;go_upto_region 18 with fail;go_cut[15] (fun r wx=>T0 w WB (KJ dt L m) r wx);case first=>as_aux_lemma=>
       have HKEEP:∀wx,Below WB.heap.size WB wx->wx.cell? ⟨p10,0,none⟩=some (.bool false)/\wx.cell? ⟨p10,1,none⟩=some (.slice (some ⟨sN,0,none⟩) 1 1)/\wx.cell? ⟨p10,2,none⟩=some (.slice (some ⟨gN,0,none⟩) L L)/\wx.cell? ⟨p13,0,none⟩=some (.slice a2 n2 c2)/\wx.cell? ⟨p13,1,none⟩=some (.int .i64 (z:Nat))/\wx.cell? ⟨p13,2,none⟩=some (.int .i64 (t1:Nat))/\wx.cell? ⟨p13,3,none⟩=some (.int .i64 (m:Nat)):=fun wx hwx=>by obtain⟨q0,q1,q2⟩:=((AA MN).below AC hwx).cells;obtain⟨q3,q4,q5,q6⟩:=((AA MS).below AC hwx).cells;exact⟨q0,q1,q2,q3,q4,q5,q6⟩
       have HCO:∀wx,Below WB.heap.size WB wx->Calls prog 298 #[.agg #[.slice (some ⟨gN,0,none⟩) L L,.int .i64 (z:Nat),.int .i64 (t2:Nat),.int .i64 (m:Nat)],.agg #[.slice a2 n2 c2,.int .i64 (z:Nat),.int .i64 (t1:Nat),.int .i64 (m:Nat)]] wx fun e w'=>∃a' N Ak,e=.returned (.slice a' N Ak)/\Bt w' wx.heap.size a' N (KJ dt L m)/\Below wx.heap.size wx w':=fun wx hwx=>NA _ _ L L z t2 n2 c2 z t1 m (Lw L) dt wx ((AA HGB).below AC hwx) ((AA H2B).below AC hwx) hm1 (AA HA) hts (AA HT2) (AA HT1)
       go_region_held (fun wx=>wx.cell? ⟨p10,0,none⟩=some (.bool false)/\wx.cell? ⟨p10,1,none⟩=some (.slice (some ⟨sN,0,none⟩) 1 1)/\wx.cell? ⟨p10,2,none⟩=some (.slice (some ⟨gN,0,none⟩) L L)/\wx.cell? ⟨p13,0,none⟩=some (.slice a2 n2 c2)/\wx.cell? ⟨p13,1,none⟩=some (.int .i64 (z:Nat))/\wx.cell? ⟨p13,2,none⟩=some (.int .i64 (t1:Nat))/\wx.cell? ⟨p13,3,none⟩=some (.int .i64 (m:Nat))) (first|(refine HKEEP _ ?_;repeat(first|exact hK2|exact hK1|exact AG|refine BF ?_|refine BD ?_ (by first|omega|(simp<;>omega)) _|refine BU ?_ (by first|omega|(simp<;>omega)) _))) (first
        |(go_at_call 292;refine(AA HX2 _).mono ?_;rintro e wE⟨rfl,hbE⟩;have hK1:Below WB.heap.size WB wE:=(by first|exact((AN _ WB).drew.alloc AC _).trans (hbE.mono (by simp))|exact((AN _ WB).alloc AC _).drew.trans (hbE.mono (by simp))|exact(AN _ WB).drew.trans hbE);have hs1:=hK1.size;(first|(have hP1:=(Fy.new _ _).below AC hbE)|(have hP1:=(Fy.new _ _).drew.below AC hbE)|skip))
        |(go_at_call 298;refine(HCO _ (by first|exact hK1.alloc hK1.size _|exact hK1)).mono ?_;rintro e wF⟨a',N',Ak,rfl,hOF,hbF⟩;have hK2:Below WB.heap.size WB wF:=(by first|exact(hK1.alloc hK1.size _).trans (hbF.mono (by have:=hK1.size;simp;omega))|exact hK1.trans (hbF.mono hK1.size));have hs2:=hK2.size;(first|(have hP2:=hP1.below AC hbF;have hP2c:=hP2.cell;have hP2f:=hP2.free;have hP2l:=hP2.lt;have hP1l:=hP1.lt;(try simp at hP2c hP2f hP2l hP1l))|(have hP2:=(Fy.new _ _).below AC hbF;have hP2c:=hP2.cell;have hP2f:=hP2.free;have hP2l:=hP2.lt;(try simp at hP2c hP2f hP2l))|(have hP2:=(Fy.new _ _).drew.below AC hbF;have hP2c:=hP2.cell;have hP2f:=hP2.free;have hP2l:=hP2.lt;(try simp at hP2c hP2f hP2l))|skip)))
       all_goals go_wp2_with fail
       all_goals(go_meet;case rel=>first
        |(refine VX hP2 ?_ ?_ hK2 ?_;(refine hOF.mono ?_;first|omega|(simp;omega));(intro x hx;have h:=hOF.low hx;(try simp at h);omega);(first|omega|exact AC|(simp;omega)))
        |(refine⟨_,a',N',Ak,rfl,(Fy.new _ _).cell,(hOF.mono ?_).alloc _,hK2.alloc hK2.size _⟩;first|omega|(simp;omega)))
      case rest=>
       obtain⟨wT,hwT⟩:∃x,x=wc:=⟨_,rfl⟩
       subst hwT;obtain⟨pt,ta,NT,capT,rfl,hptc,hOT,hbT⟩:=hcut;have hptl:pt<wT.heap.size:=AU _ _ hptc;have P5:=AD ((AA M5).below AC hbT);have P6:=AD ((AA M6).below AC hbT);have HRT:=AD ((AA HRB).below AC hbT);have K2T:=AD ((AA K2B).below AC hbT);have HOS:=AD (((AA HOB).below AC hbT).mono (show w.heap.size<=W8.heap.size by have:=AA HW8W;omega));have HSX:Hid (∀x,At (some ⟨gs,os',none⟩) M x->x≠w.heap.size+2/\x<wT.heap.size):=fun x hx=>by have e:=DT hx;have h1:=AA HLO gs (DK (by omega));have h2:=AA HW8W;have h3:=(AA HOS).row.hi hx;omega
       have HBT:=AD ((AA HBB).trans (hbT.mono (AA HBB).size));have HPT:=AD hptc;have HOT:=AD hOT;have hIN:NT=I.length:=by have h:=(AA HOT).row.len;rw[AA HOUT,Fc]at h;exact h.symm
       have hTz:=(AA HBT).size;obtain⟨bx,hbx⟩:∃bx,bx=w.heap.size+1+1:=⟨_,rfl⟩
       have hbx2:w.heap.size+2=bx:=by omega
       rw[hbx2]at P6 HSX;have hbxl:bx<wT.heap.size:=(AA P6).lt;clear hptc hOT hbT M5 M6 MN MS HRB K2B HOB HBB H2B v0 v1 v2 v3 v4 v5 v6 s0 s1' s2 s3 hMSl hM6l hWBz HGB;go_upto_region 19 with fail;rw[<-hbx];go_cut[7] (fun v wx=>v=.int .i64 0/\I3 w d ZL (Bg (BP d zs dt' (Nl ax I) ZL) N) M N bx wx);case first=>as_aux_lemma=>
        have HKEEP:∀wx,BS (fun k=>k=bx) wT wx->wx.cell? ⟨w.heap.size+1,0,none⟩=some (.bool d)/\wx.cell? ⟨w.heap.size+1,1,none⟩=some (.slice (some ⟨bs,os,none⟩) M e1)/\wx.cell? ⟨w.heap.size+1,2,none⟩=some (.slice b2 m2 d2):=fun wx hwx=>by obtain⟨y0,y1,y2,_,_,_⟩:=(AA P5).all;exact⟨(hwx.cellAt (by omega) (by omega)).trans y0,(hwx.cellAt (by omega) (by omega)).trans y1,(hwx.cellAt (by omega) (by omega)).trans y2⟩
        obtain⟨y0,y1,y2⟩:=HKEEP _ (BS.refl _ _);obtain⟨r0,r1,r2,r3,r4,r5,r6⟩:=(AA P6).all;have hwb:w.heap.size+1<bx:=by omega
        clear hbx hbx2
        go_region_held3 (fun wx=>wx.cell? ⟨w.heap.size+1,0,none⟩=some (.bool d)/\wx.cell? ⟨w.heap.size+1,1,none⟩=some (.slice (some ⟨bs,os,none⟩) M e1)/\wx.cell? ⟨w.heap.size+1,2,none⟩=some (.slice b2 m2 d2)) (first|exact HKEEP _ (BS.refl _ _).drew|exact HKEEP _ (BS.of_below (AA HKO))|exact HKEEP _ (BS.of_below (AA HKG))|exact HKEEP _ ((((BS.of_below (S:=fun k=>k=bx) (AA HKG)).setCell (p:=⟨bx,0,none⟩) rfl _).setCell (p:=⟨bx,1,none⟩) rfl _).setCell (p:=⟨bx,2,none⟩) rfl _)) (first
         |(go_at_call 64;refine(O8 ax _ _ 299 #[.pointer (some ⟨pt,0,none⟩)] rfl).mono ?_;rintro e wO⟨rfl,hwO⟩;(have HKO:Hid (Below wT.heap.size wT wO):=(by rw[hwO];exact(((AN _ wT).drew.alloc AC _).alloc (by simp) _)));(have HA1:Hid (wO.cell? ⟨wT.heap.size,0,none⟩=some (.int .i64 (ax:Nat))/\wO.cell? ⟨wT.heap.size+1,0,none⟩=some (.func (.func 299) #[] #[.pointer (some ⟨pt,0,none⟩)])):=(by rw[hwO];exact UB wT.drew _ _));clear hwO r0 r1 r2 r3 r4 r5 r6 y0 y1 y2;obtain⟨y0,y1,y2⟩:=HKEEP _ (BS.of_below (AA HKO));obtain⟨r0,r1,r2,r3,r4,r5,r6⟩:=((AA P6).below AC (AA HKO)).all)
         |(go_at_call 59;refine(EG d (some ⟨bs,os,none⟩) b2 (some ⟨gs,os',none⟩) M m2 e1 d2 M csh zs dt' ZL 152 _ OZ (Nl ax I) _ N ((AA HRT).below AC (AA HKO)) ((AA K2T).below AC (AA HKO)) ((AA HOS).row.below AC (AA HKO)) (AA HZS).1 (AA HZX).1 hM5 (AA HN) (AA HZS).2 (Ty ZL M wT.heap.size (wT.heap.size+1) ax 299 #[.pointer (some ⟨pt,0,none⟩)] aO (fun v=>((I.getD v.toNat 0:Nat):Int)) _ (by rw[(AA HZX).2];omega) (by rw[(AA HZX).2];exact haxl) (AA HA1).1 (AA HA1).2 (fun v hv0 hv1 W hW=>Vw pt ta NT capT I v W ((((AA HKO).trans (hW.mono (AA HKO).size)).cell (p:=⟨pt,0,none⟩) hptl).trans (AA HPT)) (by rw[<-AA HOUT];exact(AA HOT).row.below AC ((AA HKO).trans (hW.mono (AA HKO).size))) ⟨hv0,by rw[AA HZA]at hv1;rw[hIN];exact hv1⟩ (AA HIB)))).mono ?_;rintro e wG⟨gd,rfl,hgd,hBG,hbG⟩;have HKG:Hid (Below wT.heap.size wT wG):=(AA HKO).trans (hbG.mono (AA HKO).size);have HBG:=AD hBG;have HGD:=AD hgd;have HOG:=AD ((AA HOS).below AC (AA HKG));clear hgd hBG hbG r0 r1 r2 r3 r4 r5 r6 y0 y1 y2;obtain⟨y0,y1,y2⟩:=HKEEP _ (BS.of_below (AA HKG));obtain⟨r0,r1,r2,r3,r4,r5,r6⟩:=((AA P6).below AC (AA HKG)).all))
        all_goals go_wp2_with fail
        all_goals(go_meet;case rel=>exact⟨rfl,I3.set ((AA P6).below AC (AA HKG)) (AA HOG) (by have:=AA HGD;have:=(AA HKO).size;omega) (AA HBG) (fun h=>by have:=(AA HSX _ h).2;have:=AA HGD;have:=(AA HKO).size;omega) ((AA HBT).trans ((AA HKG).mono hTz)) (fun h=>(AA HSX _ h).1 rfl) (by have:=AA HGD;have:=(AA HKO).size;omega) (by omega)⟩)
       case rest=>
        obtain⟨wz,hwz⟩:∃x,x=wc:=⟨_,rfl⟩
        subst hwz;obtain⟨rfl,ash2,csh2,gd,hb,hO,hgd,hB,hne,hbl⟩:=hcut;obtain⟨q0,q1,q2,q3,q4,q5,q6⟩:=hb.all;have HNb:N<=10000:=by have:=(AA HZX).1.bd;have:=AA HN;omega
        clear hb;go_wp2_with fail;refine bodyPost_ret (v:=.tuple #[.agg #[.bool d,.slice ash2 M csh2,.slice (some ⟨gd,0,none⟩) N N],.int .i64 0]) (by simp[results,results262,go_sem,q0,q1,q2]) rfl ?_;rw[AA HGO];exact Ej (by simp[Bg]) (by omega) hO hgd hB hne hbl
 .have HS:Hid (Aw c d sh dt sh' dt' fl=AT r):=O0 (AA HRC) hcode;have hcb:(r !=0)=true:=by simp[hcode]
  clear hcode;obtain⟨q0,q1,q2,q3,q4,q5,q6⟩:=(AA D6).all;go_wp2_with fail;refine bodyPost_ret (v:=.tuple #[.agg #[.bool false,.slice none 0 0,.slice none 0 0],.int .i64 r]) (by simp[results,results262,go_sem,q0,q1,q2]) rfl ?_;rw[AA HS];exact As ((((AA hB3).setCell (by simp<;>omega) _).setCell (by simp<;>omega) _).setCell (by simp<;>omega) _)
end
