import Derived.Test.YtgjpchnkodnieaaGreatDoorZ35
import Derived.Laws.EntriesVeiled
import Derived.Test.YtgjpchnkodnieaaGreatDoorZ47
import Derived.Test.YtgjpchnkodnieaaGreatDoorZ42
set_option maxRecDepth 20000
set_option maxHeartbeats 8000000
set_option linter.defProp false
namespace Go.Proofs.YtgjpchnkodnieaaGreatDoor
open Go.RowKit Tryz
def V8:Array Oper:= #[{dst:=some 8,op:=Op.fieldAddr 25 (Operand.tmp 2) 0,type:=0,pos:= "l5_shape.go:47",after:= #[],guard:=none},{dst:=some 9,op:=Op.load 4 (Operand.tmp 8),type:=4,pos:= "l5_shape.go:47",after:= #[{on:=0,ground:=Ground.data}],guard:=none},{dst:=some 10,op:=Op.fieldAddr 25 (Operand.tmp 3) 1,type:=0,pos:= "l5_shape.go:47",after:= #[],guard:=none},{dst:=some 11,op:=Op.load 23 (Operand.tmp 10),type:=23,pos:= "l5_shape.go:47",after:= #[{on:=2,ground:=Ground.data}],guard:=none},{dst:=some 12,op:=Op.call {callee:=Callee.value (Operand.func 105),args:= #[Operand.tmp 11,Operand.const (Value.bool false)],argTypes:= #[23,4]},type:=23,pos:= "l5_shape.go:47",after:= #[{on:=3,ground:=Ground.data}],guard:=none},{dst:=some 13,op:=Op.buildSlice 23 1 #[(0,Operand.const (Value.int IntKind.i64 1))],type:=23,pos:= "l5_shape.go:47",after:= #[],guard:=none},{dst:=some 14,op:=Op.call {callee:=Callee.builtin Builtin.append,args:= #[Operand.tmp 12,Operand.tmp 13],argTypes:= #[23,23]},type:=23,pos:= "l5_shape.go:47",after:= #[{on:=4,ground:=Ground.data},{on:=5,ground:=Ground.data},{on:=4,ground:=Ground.chain}],guard:=none},{dst:=some 15,op:=Op.buildSlice 23 0 #[],type:=23,pos:= "l5_shape.go:47",after:= #[],guard:=none},{dst:=some 16,op:=Op.build 25 #[(0,Operand.tmp 9),(1,Operand.tmp 14),(2,Operand.tmp 15)],type:=25,pos:= "l5_shape.go:47",after:= #[{on:=1,ground:=Ground.data},{on:=6,ground:=Ground.data},{on:=7,ground:=Ground.data}],guard:=none},{dst:=some 5,op:=Op.alloc 25,type:=0,pos:= "l5_shape.go:47",after:= #[],guard:=none},{dst:=none,op:=Op.store 25 (Operand.tmp 5) (Operand.tmp 16),type:=0,pos:= "l5_shape.go:47",after:= #[{on:=9,ground:=Ground.data},{on:=8,ground:=Ground.data},{on:=6,ground:=Ground.chain},{on:=0,ground:=Ground.phase},{on:=1,ground:=Ground.phase},{on:=2,ground:=Ground.phase},{on:=3,ground:=Ground.phase},{on:=4,ground:=Ground.phase},{on:=5,ground:=Ground.phase},{on:=6,ground:=Ground.phase},{on:=7,ground:=Ground.phase},{on:=8,ground:=Ground.phase},{on:=9,ground:=Ground.phase}],guard:=none}]
def Dk(a:Act)(c:Bool)(nf:Nat)(dC dM dP dE dB dZ:Bool)(cv:Value)(m pg pc e z:Nat):Act:=pt dZ 5 (.pointer (some ⟨z,0,none⟩)) (pt dB 16 (.agg #[.bool c,.slice (some ⟨pg,0,none⟩) (nf+1) pc,.slice (some ⟨e,0,none⟩) 0 0]) (pt dE 15 (.slice (some ⟨e,0,none⟩) 0 0) (pt dP 14 (.slice (some ⟨pg,0,none⟩) (nf+1) pc) (pt dM 13 (.slice (some ⟨m,0,none⟩) 1 1) (pt dC 12 cv a)))))
section
variable (a:Act)(c:Bool)(nf:Nat)(dC dM dP dE dB dZ:Bool)(cv:Value)(m pg pc e z:Nat)
def aH(v:Value):(Dk a c nf false dM false dE false dZ cv m pg pc e z).put (some 12) v=Dk a c nf true dM false dE false dZ v m pg pc e z:=by
 unfold Dk;repeat rw[ER _ _ _ _ _ _ (by decide)]
 all_goals rfl
def aE(m':Nat):(Dk a c nf dC false false dE false dZ cv m pg pc e z).put (some 13) (.slice (some ⟨m',0,none⟩) 1 1)=Dk a c nf dC true false dE false dZ cv m' pg pc e z:=by
 unfold Dk;repeat rw[ER _ _ _ _ _ _ (by decide)]
 all_goals rfl
def aD(g k:Nat):(Dk a c nf true true false dE false dZ cv m pg pc e z).put (some 14) (.slice (some ⟨g,0,none⟩) (nf+1) k)=Dk a c nf true true true dE false dZ cv m g k e z:=by
 unfold Dk;repeat rw[ER _ _ _ _ _ _ (by decide)]
 all_goals rfl
def aF(e':Nat):(Dk a c nf dC dM dP false false dZ cv m pg pc e z).put (some 15) (.slice (some ⟨e',0,none⟩) 0 0)=Dk a c nf dC dM dP true false dZ cv m pg pc e' z:=by
 unfold Dk;repeat rw[ER _ _ _ _ _ _ (by decide)]
 all_goals rfl
def aJ:(Dk a c nf dC dM true true false dZ cv m pg pc e z).put (some 16) (.agg #[.bool c,.slice (some ⟨pg,0,none⟩) (nf+1) pc,.slice (some ⟨e,0,none⟩) 0 0])=Dk a c nf dC dM true true true dZ cv m pg pc e z:=by
 unfold Dk;repeat rw[ER _ _ _ _ _ _ (by decide)]
 all_goals rfl
def aC(z':Nat):(Dk a c nf dC dM dP dE dB false cv m pg pc e z).put (some 5) (.pointer (some ⟨z',0,none⟩))=Dk a c nf dC dM dP dE dB true cv m pg pc e z':=by
 unfold Dk;repeat rw[ER _ _ _ _ _ _ (by decide)]
 all_goals rfl
def Yk:(Dk a c nf dC dM dP dE dB dZ cv m pg pc e z).eval (.tmp 9)=a.eval (.tmp 9):=by unfold Dk;repeat rw[DB _ _ _ _ _ (by decide)]
def XH:(Dk a c nf dC dM dP dE dB dZ cv m pg pc e z).eval (.tmp 11)=a.eval (.tmp 11):=by unfold Dk;repeat rw[DB _ _ _ _ _ (by decide)]
def XG(h:17<=a.tmps.size):(Dk a c nf true dM dP dE dB dZ cv m pg pc e z).eval (.tmp 12)=cv:=by
 unfold Dk;repeat rw[DB _ _ _ _ _ (by decide)]
 exact EC _ _ _ (by first|omega|(simp only[EQ];omega))
def XF(h:17<=a.tmps.size):(Dk a c nf dC true dP dE dB dZ cv m pg pc e z).eval (.tmp 13)=.slice (some ⟨m,0,none⟩) 1 1:=by
 unfold Dk;repeat rw[DB _ _ _ _ _ (by decide)]
 exact EC _ _ _ (by first|omega|(simp only[EQ];omega))
def XE(h:17<=a.tmps.size):(Dk a c nf dC dM true dE dB dZ cv m pg pc e z).eval (.tmp 14)=.slice (some ⟨pg,0,none⟩) (nf+1) pc:=by
 unfold Dk;repeat rw[DB _ _ _ _ _ (by decide)]
 exact EC _ _ _ (by first|omega|(simp only[EQ];omega))
def XD(h:17<=a.tmps.size):(Dk a c nf dC dM dP true dB dZ cv m pg pc e z).eval (.tmp 15)=.slice (some ⟨e,0,none⟩) 0 0:=by
 unfold Dk;repeat rw[DB _ _ _ _ _ (by decide)]
 exact EC _ _ _ (by first|omega|(simp only[EQ];omega))
def XC(h:17<=a.tmps.size):(Dk a c nf dC dM dP dE true dZ cv m pg pc e z).eval (.tmp 16)=.agg #[.bool c,.slice (some ⟨pg,0,none⟩) (nf+1) pc,.slice (some ⟨e,0,none⟩) 0 0]:=by
 unfold Dk;repeat rw[DB _ _ _ _ _ (by decide)]
 exact EC _ _ _ (by first|omega|(simp only[EQ];omega))
def Yl(h:17<=a.tmps.size):(Dk a c nf dC dM dP dE dB true cv m pg pc e z).eval (.tmp 5)=.pointer (some ⟨z,0,none⟩):=by
 unfold Dk;repeat rw[DB _ _ _ _ _ (by decide)]
 exact EC _ _ _ (by first|omega|(simp only[EQ];omega))
end
def Vg(dC dM dP dE dB dZ:Bool):List Nat:=(if dC then[]else[4])++(if dM then[]else[5])++(if dC&&dM&&!dP then[6]else[])++(if dE then[]else[7])++(if dP&&dE&&!dB then[8]else[])++(if dZ then[]else[9])++(if dC&&dM&&dP&&dE&&dB&&dZ then[10]else[])
def YU:∀dC dM dP dE dB dZ:Bool,Region.ready .any V8 #[true,true,true,true,dC,dM,dP,dE,dB,dZ,false]=Vg dC dM dP dE dB dZ:=by intro dC dM dP dE dB dZ;cases dC<;>cases dM<;>cases dP<;>cases dE<;>cases dB<;>cases dZ<;>kernel_rfl
def YI{dC dM dP dE dB dZ:Bool}{i:Nat}(h:i∈Vg dC dM dP dE dB dZ):(i=4/\dC=false)\/(i=5/\dM=false)\/(i=6/\dC=true/\dM=true/\dP=false)\/(i=7/\dE=false)\/(i=8/\dP=true/\dE=true/\dB=false)\/(i=9/\dZ=false)\/(i=10/\dC=true/\dM=true/\dP=true/\dE=true/\dB=true/\dZ=true):=by cases dC<;>cases dM<;>cases dP<;>cases dE<;>cases dB<;>cases dZ<;>simp[Vg]at h ⊢<;>first|exact h|omega
def YH(dC dM dP dE dB dZ:Bool)(h1:dP=true->dC=true/\dM=true)(h2:dB=true->dP=true/\dE=true):Vg dC dM dP dE dB dZ≠ []:=by cases dC<;>cases dM<;>cases dP<;>cases dE<;>cases dB<;>cases dZ<;>first|simp[Vg]|simp at h1 h2
def aT{Q:Exit->Act->World->Prop}{S:World->Prop}(a:Act)(W:World)(hsz:17<=a.tmps.size)(c:Bool)(sv:Value)(hc:a.eval (.tmp 9)=.bool c)(hs:a.eval (.tmp 11)=sv)(nf:Nat)(hnf:nf<=10000)(fr:List Int)(HK:∀wx,Below W.heap.size W wx->S wx)(HC:∀wx,Below W.heap.size W wx->Calls prog 105 #[sv,.bool false] wx fun e w'=>∃a' Ak,e=.returned (.slice a' nf Ak)/\w'.ownsRow wx.heap.size 3 1 (.slice a' nf Ak) nf (fr.map (Value.int .i64))/\Below wx.heap.size wx w')(hend:∀z e pg pc m cv wx,Ai wx z c (.slice (some ⟨pg,0,none⟩) (nf+1) pc) (.slice (some ⟨e,0,none⟩) 0 0)->BA wx e []->wx.ownsRow W.heap.size 3 1 (.slice (some ⟨pg,0,none⟩) (nf+1) pc) (nf+1) ((fr++ [(1:Int)]).map (Value.int .i64))->Below W.heap.size W wx->W.heap.size<=z->W.heap.size<=e->pg≠e->pg≠z->Q .normal (Dk a c nf true true true true true true cv m pg pc e z) wx):∀(fuel:Nat)(dC dM dP dE dB dZ:Bool)(cv:Value)(m pg pc e z:Nat)(w:World),(dP=true->dC=true/\dM=true)->(dB=true->dP=true/\dE=true)->n4 dC+n4 dM+n4 dP+n4 dE+n4 dB+n4 dZ+1<=fuel->NM W fr (1:Int) nf dC dM dP dE dZ cv (.slice (some ⟨pg,0,none⟩) (nf+1) pc) m e z w->wpAnyH prog .any V8 Q S fuel #[true,true,true,true,dC,dM,dP,dE,dB,dZ,false] (Dk a c nf dC dM dP dE dB dZ cv m pg pc e z) w:=by
 obtain⟨i0,hi0,hz0,hz1,hz2⟩:=info_parts A6;intro fuel;induction fuel with
 |zero=>intro dC dM dP dE dB dZ cv m pg pc e z w _ _ h;omega
 |succ fuel ih=>
  intro dC dM dP dE dB dZ cv m pg pc e z w hv1 hv2 hn hI;refine wpAnyH_all (YU dC dM dP dE dB dZ) (YH dC dM dP dE dB dZ hv1 hv2) ?_;intro i hi;obtain⟨rfl,rfl⟩|⟨rfl,rfl⟩|⟨rfl,rfl,rfl,rfl⟩|⟨rfl,rfl⟩|⟨rfl,rfl,rfl,rfl⟩|⟨rfl,rfl⟩|⟨rfl,rfl,rfl,rfl,rfl,rfl,rfl⟩:=YI hi
  .obtain rfl:dP=false:=by cases dP with
    |false=>rfl
    |true=>exact absurd (hv1 rfl).1 (by decide)
   obtain rfl:dB=false:=by cases dB with
    |false=>rfl
    |true=>exact absurd (hv2 rfl).1 (by decide)
   refine MR (.tmp 11) sv (nf:=nf) (fr:=fr) rfl rfl rfl (by rw[XH,hs]) (HC _ hI.hb) ?_;intro a' Ak w' ho hb;have hI':=hI.C hb ho;refine⟨HK _ hI'.hb,?_⟩;have:=ih true dM false dE false dZ (.slice a' nf Ak) m pg pc e z w' (by simp) (by simp) (by simp[n4]at hn ⊢;omega) hI';exact(aH a c nf dM dE dZ cv m pg pc e z (.slice a' nf Ak))▸this
  .obtain rfl:dP=false:=by cases dP with
    |false=>rfl
    |true=>exact absurd (hv1 rfl).2 (by decide)
   obtain rfl:dB=false:=by cases dB with
    |false=>rfl
    |true=>exact absurd (hv2 rfl).1 (by decide)
   refine V9 (.const (.int .i64 1)) (1:Int) rfl rfl rfl (rfl) ?_;have hI':=hI.M;refine⟨HK _ hI'.hb,?_⟩;have:=ih dC true false dE false dZ cv w.heap.size pg pc e z _ (by simp) (by simp) (by simp[n4]at hn ⊢;omega) hI';exact(aE a c nf dC dE dZ cv m pg pc e z w.heap.size)▸this
  .obtain rfl:dB=false:=by cases dB with
    |false=>rfl
    |true=>exact absurd (hv2 rfl).1 (by decide)
   refine QR rfl rfl ?_;refine wp_append_lies _ (.tmp 12) (.tmp 13) 23 rfl W.heap.size 3 i0 _ 1 8 underlying23 hi0 hz0 hz1 hz2 rfl (by omega) cv nf (fr.map (Value.int .i64)) (XG a c nf true false dE false dZ cv m pg pc e z hsz) (hI.hC rfl rfl) ⟨m,0,none⟩ 1 1 [.int .i64 (1:Int)] (XF a c nf true false dE false dZ cv m pg pc e z hsz) (by rfl) (FJ (hI.hM rfl rfl)) (CD _) (by omega) (by unfold maxLen;omega) (by omega) hI.hb.size _ rfl ?_;intro g cap w' ho hg hat _;have hI':=hI.P ho hg hat;refine⟨HK _ hI'.hb,?_⟩;have:=ih true true true dE false dZ cv m g cap e z w' (by simp) (by simp) (by simp[n4]at hn ⊢;omega) hI';exact(aD a c nf dE dZ cv m pg pc e z g cap)▸this
  .obtain rfl:dB=false:=by cases dB with
    |false=>rfl
    |true=>exact absurd (hv2 rfl).2 (by decide)
   refine TV rfl rfl rfl ?_;have hI':=hI.E;refine⟨HK _ hI'.hb,?_⟩;have:=ih dC dM dP true false dZ cv m pg pc w.heap.size z _ hv1 (by simp) (by simp[n4]at hn ⊢;omega) hI';exact(aF a c nf dC dM dP dZ cv m pg pc e z w.heap.size)▸this
  .refine MU (.tmp 9) (.tmp 14) (.tmp 15) c (some ⟨pg,0,none⟩) (some ⟨e,0,none⟩) (nf+1) 0 pc 0 rfl rfl rfl (by rw[Yk,hc]) (XE a c nf dC dM true false dZ cv m pg pc e z hsz) (XD a c nf dC dM true false dZ cv m pg pc e z hsz) ?_;refine⟨HK _ hI.hb,?_⟩;have:=ih dC dM true true true dZ cv m pg pc e z _ hv1 (by simp) (by simp[n4]at hn ⊢;omega) hI;exact(aJ a c nf dC dM dZ cv m pg pc e z)▸this
  .refine TW rfl rfl rfl ?_;have hI':=hI.Z;refine⟨HK _ hI'.hb,?_⟩;have:=ih dC dM dP dE dB true cv m pg pc e w.heap.size _ hv1 hv2 (by simp[n4]at hn ⊢;omega) hI';exact(aC a c nf dC dM dP dE dB cv m pg pc e z w.heap.size)▸this
  .obtain⟨hz,hzl⟩:=hI.hZ rfl;obtain⟨he,hel⟩:=hI.hE rfl;have hP:=hI.hP rfl;have hez:=he.notBox hz;refine OP (.tmp 5) (.tmp 16) z c false (some ⟨pg,0,none⟩) (some ⟨e,0,none⟩) (nf+1) 0 pc 0 _ _ rfl rfl rfl (Yl a c nf true true true true true cv m pg pc e z hsz) (XC a c nf true true true true true cv m pg pc e z hsz) hz ?_;have hb1:=((hI.hb.setCell (p:=⟨z,0,none⟩) hzl (.bool c)).setCell (p:=⟨z,1,none⟩) hzl (.slice (some ⟨pg,0,none⟩) (nf+1) pc)).setCell (p:=⟨z,2,none⟩) hzl (.slice (some ⟨e,0,none⟩) 0 0);refine⟨HK _ hb1,?_⟩;refine wpAnyH_done (by kernel_rfl) ?_ _;refine hend z e pg pc m cv _ hz.sets (((he.other hez _).other hez _).other hez _) ?_ hb1 hzl hel (fun k=>hI.hpe rfl rfl (by rw[k];rfl)) (fun k=>hI.hpz rfl rfl (by rw[k];rfl));exact Ez (Ez (Ez hP (hI.hpz rfl rfl) 0 _) (hI.hpz rfl rfl) 1 _) (hI.hpz rfl rfl) 2 _
def Y6(a:Act)(c:Bool)(o1:Option Addr)(l1 c1 b2 b3:Nat)(nf:Nat)(cv:Value)(m pg pc e z:Nat):Act:=Dk ((((a.put (some 8) (.pointer (some ⟨b2,0,none⟩))).put (some 9) (.bool c)).put (some 10) (.pointer (some ⟨b3,1,none⟩))).put (some 11) (.slice o1 l1 c1)) c nf true true true true true true cv m pg pc e z
def Vy{Q:Exit->Act->World->Prop}(a:Act)(W:World)(hsz:17<=a.tmps.size)(b2 b3:Nat)(h2:a.eval (.tmp 2)=.pointer (some ⟨b2,0,none⟩))(h3:a.eval (.tmp 3)=.pointer (some ⟨b3,0,none⟩))(c:Bool)(o1:Option Addr)(l1 c1:Nat)(nf:Nat)(hnf:nf<=10000)(fr:List Int)(HK:∀wx,Below W.heap.size W wx->wx.cell? ⟨b2,0,none⟩=some (.bool c)/\wx.cell? ⟨b3,1,none⟩=some (.slice o1 l1 c1))(HC:∀wx,Below W.heap.size W wx->Calls prog 105 #[.slice o1 l1 c1,.bool false] wx fun e w'=>∃a' Ak,e=.returned (.slice a' nf Ak)/\w'.ownsRow wx.heap.size 3 1 (.slice a' nf Ak) nf (fr.map (Value.int .i64))/\Below wx.heap.size wx w')(hQ:∀c a(d:Nat)v w,Q (.panic c) (a.put (some d) v) w->Q (.panic c) a w)(hend:∀z e pg pc m cv wx,T1 W c (nf+1) (fr++ [(1:Int)]) (.pointer (some ⟨z,0,none⟩)) wx->Q .normal (Y6 a c o1 l1 c1 b2 b3 nf cv m pg pc e z) wx):(Code.region 1 V8 true).wp prog Q a W:=by
 have hb0:Below W.heap.size W {W with drawn:=W.drawn+1}:=AG.drew;have hS:=HK _ hb0;refine wp_region_held (S:=fun wx=>wx.cell? ⟨b2,0,none⟩=some (.bool c)/\wx.cell? ⟨b3,1,none⟩=some (.slice o1 l1 c1)) (by kernel_rfl) ?_;show wpAnyH _ _ _ _ _ (10+1) _ _ _;refine wpAnyH_take (i:=0) (v:=(.pointer (some ⟨b2,0,none⟩))) rfl (by kernel_rfl) (by kernel_rfl) (by kernel_rfl) (fun c a w h=>hQ c a _ _ w h) (Or.inl ⟨rfl,?_⟩) hS ?_
 .intro w hSw;obtain⟨e1,e2⟩:=hSw;have q:a.eval (.tmp 2)=.pointer (some ⟨b2,0,none⟩):=by
   repeat rw[Dr (by decide)]
   exact h2
  exact Gp (.tmp 2) b2 0 rfl q (by decide) w
 refine wpAnyH_take (i:=1) (v:=(.bool c)) rfl (by kernel_rfl) (by kernel_rfl) (by kernel_rfl) (fun c a w h=>hQ c a _ _ w h) (Or.inl ⟨rfl,?_⟩) hS ?_
 .intro w hSw;obtain⟨e1,e2⟩:=hSw;have q:(a.put (some 8) (.pointer (some ⟨b2,0,none⟩))).eval (.tmp 8)=.pointer (some ⟨b2,0,none⟩):=DP _ _ _ (by first|omega|(simp[Act.put];omega));exact OD (.tmp 8) ⟨b2,0,none⟩ c rfl q w e1
 refine wpAnyH_take (i:=2) (v:=(.pointer (some ⟨b3,1,none⟩))) rfl (by kernel_rfl) (by kernel_rfl) (by kernel_rfl) (fun c a w h=>hQ c a _ _ w h) (Or.inl ⟨rfl,?_⟩) hS ?_
 .intro w hSw;obtain⟨e1,e2⟩:=hSw;have q:((a.put (some 8) (.pointer (some ⟨b2,0,none⟩))).put (some 9) (.bool c)).eval (.tmp 3)=.pointer (some ⟨b3,0,none⟩):=by
   repeat rw[Dr (by decide)]
   exact h3
  exact Gp (.tmp 3) b3 1 rfl q (by decide) w
 refine wpAnyH_take (i:=3) (v:=(.slice o1 l1 c1)) rfl (by kernel_rfl) (by kernel_rfl) (by kernel_rfl) (fun c a w h=>hQ c a _ _ w h) (Or.inl ⟨rfl,?_⟩) hS ?_
 .intro w hSw;obtain⟨e1,e2⟩:=hSw;have q:(((a.put (some 8) (.pointer (some ⟨b2,0,none⟩))).put (some 9) (.bool c)).put (some 10) (.pointer (some ⟨b3,1,none⟩))).eval (.tmp 10)=.pointer (some ⟨b3,1,none⟩):=DP _ _ _ (by first|omega|(simp[Act.put];omega));exact OC (.tmp 10) ⟨b3,1,none⟩ o1 l1 c1 rfl q w e2
 refine aT ((((a.put (some 8) (.pointer (some ⟨b2,0,none⟩))).put (some 9) (.bool c)).put (some 10) (.pointer (some ⟨b3,1,none⟩))).put (some 11) (.slice o1 l1 c1)) W (by first|omega|(simp[Act.put];omega)) c (.slice o1 l1 c1) (by(repeat rw[Dr (by decide)]);exact DP _ _ _ (by first|omega|(simp[Act.put];omega))) (DP _ _ _ (by first|omega|(simp[Act.put];omega))) nf hnf fr HK HC ?_ 7 false false false false false false undef 0 0 0 0 0 _ (by simp) (by simp) (by simp[n4]) ⟨hb0,by simp,by simp,by simp,by simp,by simp,by simp,by simp,by simp,by simp⟩;intro z e pg pc m cv wx h1 h2' h3' h4 h5 h6 h7 _;refine hend z e pg pc m cv wx ?_;obtain⟨a',Ak,hv,ho⟩:=Bt.of_owns h3' (by omega);cases hv;refine⟨z,e,_,_,rfl,h1,h2',ho,h4,h5,h6,?_,Ft h3'⟩;intro y hy;obtain⟨_,hy'⟩:=hy;simp at hy';omega
def Re(x:Int):∀n,Bg (fun _=>(x,0)) n=List.replicate n x:=fun n=>by
 induction n with
 |zero=>rfl
 |succ n ih=>
  unfold Bg at ih ⊢;rw[List.range_succ,Bf,ih,List.replicate_succ'];rfl
def PH(c d:Bool)(s1 s2:Option Addr)(l1 l2 q1' q2' bd od n2 c2 b1 o1 nf k1:Nat)(x:Int)(sh:List Int)(N:Nat)(w:World)(hx:w.cell? ⟨bd,od,none⟩=some (.int .i64 x))(hbd:bd<w.heap.size)(hn2:0<n2)(h1:AO w (some ⟨b1,o1,none⟩) (nf+1) sh)(hk1:nf+1<=k1)(hnf:nf<=10000)(hN:Ac (Cx sh false++ [1])=(N:Int))(hNs:N<=10000):Calls prog 195 #[.agg #[.bool c,.slice s1 l1 q1',.slice (some ⟨bd,od,none⟩) n2 c2],.agg #[.bool d,.slice (some ⟨b1,o1,none⟩) (nf+1) k1,.slice s2 l2 q2']] w fun e w'=>∃g1 csh g2 cd,(nf+1<=csh/\N<=cd)/\e=.returned (.agg #[.bool c,.slice (some ⟨g1,0,none⟩) (nf+1) csh,.slice (some ⟨g2,0,none⟩) N cd])/\Bt w' w.heap.size (some ⟨g1,0,none⟩) (nf+1) (Cx sh false++ [1])/\Bt w' w.heap.size (some ⟨g2,0,none⟩) N (List.replicate N x)/\Below w.heap.size w w':=by
 obtain⟨i0,hi,hz0,hz1,hz2⟩:=info_parts A6;obtain⟨fr,hfr⟩:∃fr,fr=Cx sh false:=⟨_,rfl⟩
 obtain⟨f,hf⟩:∃f:Nat->Int×Int,f=fun _=>(x,0):=⟨_,rfl⟩
 have HFP:Hid (∀k,f k=(x,0)):=by intro k;rw[hf]
 have HV:Hid (∀k,Bg f k=List.replicate k x):=by intro k;rw[hf];exact Re x k
 rw[<-hfr]at hN ⊢;have HN:=AD hN;obtain⟨W,hW⟩:∃W,W=((w.alloc (.cells #[.bool c,.slice s1 l1 q1',.slice (some ⟨bd,od,none⟩) n2 c2] 25)).alloc (.cells #[.bool d,.slice (some ⟨b1,o1,none⟩) (nf+1) k1,.slice s2 l2 q2'] 25)).alloc (.cells #[.bool false,.slice none 0 0,.slice none 0 0] 25):=⟨_,rfl⟩
 have hz:w.heap.size+2<W.heap.size:=by rw[hW];simp
 have HBW:Hid (Below w.heap.size w W):=by rw[hW];exact(((AN _ w).alloc AC _).alloc (by simp) _).alloc (by simp<;>omega) _
 have HX0:Hid (Ai W w.heap.size c (.slice s1 l1 q1') (.slice (some ⟨bd,od,none⟩) n2 c2)):=by rw[hW];exact((Ai.new w _ _ _).alloc _).alloc _
 have HX1:Hid (Ai W (w.heap.size+1) d (.slice (some ⟨b1,o1,none⟩) (nf+1) k1) (.slice s2 l2 q2')):=by rw[hW];exact(RK _ _ _ _ _ (by simp)).alloc _
 have HX2:Hid (Ai W (w.heap.size+2) false (.slice none 0 0) (.slice none 0 0)):=by rw[hW];exact RK _ _ _ _ _ (by simp)
 have HC:Hid (∀wx,Below W.heap.size W wx->Calls prog 105 #[.slice (some ⟨b1,o1,none⟩) (nf+1) k1,.bool false] wx fun e w'=>∃a' Ak,e=.returned (.slice a' nf Ak)/\w'.ownsRow wx.heap.size 3 1 (.slice a' nf Ak) nf (fr.map (Value.int .i64))/\Below wx.heap.size wx w'):=by intro wx hwx;rw[hfr];exact H6 b1 o1 (nf+1) k1 sh wx (h1.below AC ((HBW.out).trans (hwx.mono HBW.out.size))) (by omega) hk1
 have HXC:Hid (∀wx,Below W.heap.size W wx->wx.cell? ⟨bd,od,none⟩=some (.int .i64 x)):=fun wx hwx=>((HBW.out.trans (hwx.mono HBW.out.size)).cell (p:=⟨bd,od,none⟩) hbd).trans hx;have HW:=AD hW;clear hW h1 hf hfr hN hx;go_enter func195,ntmps195;go_upto_region 1 with fail;rw[<-HW.out];clear HW;go_cut[5] (fun r wx=>T1 W c (nf+1) (fr++ [1]) r wx);case first=>
  refine Vy _ W (by simp) w.heap.size (w.heap.size+1) rfl rfl c (some ⟨b1,o1,none⟩) (nf+1) k1 nf hnf fr (fun wx hwx=>⟨(HX0.out.below AC hwx).cells.1,(HX1.out.below AC hwx).cells.2.1⟩) HC.out (fun _ _ _ _ _ h=>h) ?_;intro z e pg pc m cv wx hL;simp only[Y6,Dk,pt,G3,Act.put,List.setIfInBounds_toArray,List.set_cons_zero,List.set_cons_succ];go_wp2_with fail
  go_meet
  case rel=>exact hL
 case rest=>
  obtain⟨w4,hw4⟩:∃y,y=wc:=⟨_,rfl⟩
  subst hw4;obtain⟨p,g0,b5,csh,rfl,hbx,DI,hO,hb4,hp,hg,hne,hcs⟩:=hcut;have hst0:=AD (Es.start f hbx DI hO hb4 hp hg hne);obtain⟨v0,v1,v2,v3,v4,v5,v6⟩:=hbx.all;have HO4:=AD hO;have hbw:=HBW.out.size;clear hbx DI hO hb4 hg hne HC;go_wp2_with(go_at_call 48;refine(EY _ _ _ (fr++ [1]) _ HO4.out.row _ HN).mono ?_;rintro e wq⟨rfl,rfl⟩);go_loopw[7] (fun i wr=>∃P g cap,P<=N/\i=.int .i64 (P:Nat)/\Hid (Es W p c (some ⟨b5,0,none⟩) (nf+1) csh (fr++ [1]) f P wr g cap)) (fun i _=>N- (intOf i).toNat);case atStart=>exact⟨0,g0,0,AS _,rfl,hst0⟩
  case round=>
   obtain⟨P,g,cap,hP,rfl,hst⟩:=hrel;clear hst0 v0 v1 v2 v3 v4 v5 v6;have hst':=AA hst;obtain⟨z0,z1,z2,z3,z4,z5,z6⟩:=hst'.box.all;by_cases hlt:P<N
   .obtain⟨y0,y1,y2,y3,y4,y5,y6⟩:=(HX0.out.below AC hst'.low).all;have hc':=HXC.out _ hst'.low;have hn0:(0:Int)<(n2:Int):=by omega
    go_wp2_with fail
    go_region_law (first
      |(refine step_append_lies _ (by rfl) _ _ _ (by rfl) W.heap.size 3 i0 _ 1 8 underlying23 hi hz0 hz1 hz2 rfl (by omega) (.slice (some ⟨g,0,none⟩) P cap) P ((Bg f P).map (Value.int .i64)) (by rfl) (by first|exact(hst'.owns.alloc _).drew|exact hst'.drew.owns.alloc _) ⟨wr.heap.size,0,none⟩ 1 1 [.int .i64 x] (by rfl) (by rfl) (by exact Bp wr _) (CD _) (by omega) (by unfold maxLen;omega) (by omega) (by have:=hst'.low.size;simp;omega) (wr.heap.size+1) (by simp) ?_;intro g' Ak w7 BL An hat GB;obtain⟨hb7,hst7⟩:=hst'.drew.push _ (HFP.out P) BL (by exact An) hat;obtain⟨t0,t1,t2,t3,t4,t5,t6⟩:=hb7.all))
    all_goals
     go_wp2_with fail;go_roundw;case rel=>exact⟨P+1,g',Ak,by omega,by go_num,hst7⟩
     case measure=>simp[intOf];omega
   .have hPB:P=N:=by omega
    subst hPB;obtain⟨ad',cd,hv,hD⟩:=Bt.of_owns hst'.owns (by omega);cases hv;have G6:=AD (HX2.out.below AC hst'.low);obtain⟨q0,q1,q2,q3,q4,q5,q6⟩:=(AA G6).all;have HW6:=AD (HBW.out.trans (hst'.low.mono hbw));have HO6:=AD hst'.own;have hPc:=Ft hst'.owns;rw[HV.out]at hD;have HD:=AD hD;clear hst hst' hD
    go_wp2
    refine bodyPost_ret (v:=.agg #[.bool c,.slice (some ⟨b5,0,none⟩) (nf+1) csh,.slice (some ⟨g,0,none⟩) P cap]) (by simp[results,results195,go_sem,q0,q1,q2]) rfl ?_;have n1:∀k,At (some ⟨b5,0,none⟩) (nf+1) k->k≠w.heap.size+2:=fun k hk=>(AA HO6).row.notBox (AA G6) hk;have n2:∀k,At (some ⟨g,0,none⟩) P k->k≠w.heap.size+2:=fun k hk=>(AA HD).row.notBox (AA G6) hk;refine⟨b5,csh,g,cap,⟨hcs,hPc⟩,rfl,?_,?_,(((AA HW6).setCell (by simp<;>omega) _).setCell (by simp<;>omega) _).setCell (by simp<;>omega) _⟩
    .exact(((((AA HO6).mono hbw).other (q:=⟨w.heap.size+2,0,none⟩) n1 _).other (q:=⟨w.heap.size+2,1,none⟩) n1 _).other (q:=⟨w.heap.size+2,2,none⟩) n1 _)
    .exact(((((AA HD).mono hbw).other (q:=⟨w.heap.size+2,0,none⟩) n2 _).other (q:=⟨w.heap.size+2,1,none⟩) n2 _).other (q:=⟨w.heap.size+2,2,none⟩) n2 _)
def V7:Array Oper:= #[{dst:=some 108,op:=Op.fieldAddr 25 (Operand.tmp 2) 0,type:=0,pos:= "l5_shape.go:89",after:= #[],guard:=none},{dst:=some 109,op:=Op.load 4 (Operand.tmp 108),type:=4,pos:= "l5_shape.go:89",after:= #[{on:=0,ground:=Ground.data}],guard:=none},{dst:=some 110,op:=Op.fieldAddr 25 (Operand.tmp 2) 1,type:=0,pos:= "l5_shape.go:89",after:= #[],guard:=none},{dst:=some 111,op:=Op.load 23 (Operand.tmp 110),type:=23,pos:= "l5_shape.go:89",after:= #[{on:=2,ground:=Ground.data}],guard:=none},{dst:=some 112,op:=Op.call {callee:=Callee.value (Operand.func 105),args:= #[Operand.tmp 111,Operand.const (Value.bool false)],argTypes:= #[23,4]},type:=23,pos:= "l5_shape.go:89",after:= #[{on:=3,ground:=Ground.data}],guard:=none},{dst:=some 113,op:=Op.move (Operand.tmp 9),type:=3,pos:= "l5_shape.go:89",after:= #[],guard:=none},{dst:=some 114,op:=Op.move (Operand.tmp 12),type:=3,pos:= "l5_shape.go:89",after:= #[],guard:=none},{dst:=some 115,op:=Op.binOp BinOp.add 3 (Operand.tmp 113) (Operand.tmp 114) 3,type:=3,pos:= "l5_shape.go:89",after:= #[{on:=5,ground:=Ground.data},{on:=6,ground:=Ground.data}],guard:=none},{dst:=some 116,op:=Op.buildSlice 23 1 #[(0,Operand.tmp 115)],type:=23,pos:= "l5_shape.go:89",after:= #[{on:=7,ground:=Ground.data}],guard:=none},{dst:=some 117,op:=Op.call {callee:=Callee.builtin Builtin.append,args:= #[Operand.tmp 112,Operand.tmp 116],argTypes:= #[23,23]},type:=23,pos:= "l5_shape.go:89",after:= #[{on:=4,ground:=Ground.data},{on:=8,ground:=Ground.data},{on:=4,ground:=Ground.chain}],guard:=none},{dst:=some 118,op:=Op.buildSlice 23 0 #[],type:=23,pos:= "l5_shape.go:89",after:= #[],guard:=none},{dst:=some 119,op:=Op.build 25 #[(0,Operand.tmp 109),(1,Operand.tmp 117),(2,Operand.tmp 118)],type:=25,pos:= "l5_shape.go:89",after:= #[{on:=1,ground:=Ground.data},{on:=9,ground:=Ground.data},{on:=10,ground:=Ground.data}],guard:=none},{dst:=some 14,op:=Op.alloc 25,type:=0,pos:= "l5_shape.go:89",after:= #[],guard:=none},{dst:=none,op:=Op.store 25 (Operand.tmp 14) (Operand.tmp 119),type:=0,pos:= "l5_shape.go:89",after:= #[{on:=12,ground:=Ground.data},{on:=11,ground:=Ground.data},{on:=9,ground:=Ground.chain},{on:=0,ground:=Ground.phase},{on:=1,ground:=Ground.phase},{on:=2,ground:=Ground.phase},{on:=3,ground:=Ground.phase},{on:=4,ground:=Ground.phase},{on:=5,ground:=Ground.phase},{on:=6,ground:=Ground.phase},{on:=7,ground:=Ground.phase},{on:=8,ground:=Ground.phase},{on:=9,ground:=Ground.phase},{on:=10,ground:=Ground.phase},{on:=11,ground:=Ground.phase},{on:=12,ground:=Ground.phase}],guard:=none}]
def DW(a:Act)(c:Bool)(nf:Nat)(dC dM dP dE dB dZ:Bool)(cv:Value)(m pg pc e z:Nat):Act:=pt dZ 14 (.pointer (some ⟨z,0,none⟩)) (pt dB 119 (.agg #[.bool c,.slice (some ⟨pg,0,none⟩) (nf+1) pc,.slice (some ⟨e,0,none⟩) 0 0]) (pt dE 118 (.slice (some ⟨e,0,none⟩) 0 0) (pt dP 117 (.slice (some ⟨pg,0,none⟩) (nf+1) pc) (pt dM 116 (.slice (some ⟨m,0,none⟩) 1 1) (pt dC 112 cv a)))))
section
variable (a:Act)(c:Bool)(nf:Nat)(dC dM dP dE dB dZ:Bool)(cv:Value)(m pg pc e z:Nat)
def aA(v:Value):(DW a c nf false dM false dE false dZ cv m pg pc e z).put (some 112) v=DW a c nf true dM false dE false dZ v m pg pc e z:=by
 unfold DW;repeat rw[ER _ _ _ _ _ _ (by decide)]
 all_goals rfl
def Z8(m':Nat):(DW a c nf dC false false dE false dZ cv m pg pc e z).put (some 116) (.slice (some ⟨m',0,none⟩) 1 1)=DW a c nf dC true false dE false dZ cv m' pg pc e z:=by
 unfold DW;repeat rw[ER _ _ _ _ _ _ (by decide)]
 all_goals rfl
def Z7(g k:Nat):(DW a c nf true true false dE false dZ cv m pg pc e z).put (some 117) (.slice (some ⟨g,0,none⟩) (nf+1) k)=DW a c nf true true true dE false dZ cv m g k e z:=by
 unfold DW;repeat rw[ER _ _ _ _ _ _ (by decide)]
 all_goals rfl
def Z9(e':Nat):(DW a c nf dC dM dP false false dZ cv m pg pc e z).put (some 118) (.slice (some ⟨e',0,none⟩) 0 0)=DW a c nf dC dM dP true false dZ cv m pg pc e' z:=by
 unfold DW;repeat rw[ER _ _ _ _ _ _ (by decide)]
 all_goals rfl
def aB:(DW a c nf dC dM true true false dZ cv m pg pc e z).put (some 119) (.agg #[.bool c,.slice (some ⟨pg,0,none⟩) (nf+1) pc,.slice (some ⟨e,0,none⟩) 0 0])=DW a c nf dC dM true true true dZ cv m pg pc e z:=by
 unfold DW;repeat rw[ER _ _ _ _ _ _ (by decide)]
 all_goals rfl
def Z5(z':Nat):(DW a c nf dC dM dP dE dB false cv m pg pc e z).put (some 14) (.pointer (some ⟨z',0,none⟩))=DW a c nf dC dM dP dE dB true cv m pg pc e z':=by
 unfold DW;repeat rw[ER _ _ _ _ _ _ (by decide)]
 all_goals rfl
def Uu:(DW a c nf dC dM dP dE dB dZ cv m pg pc e z).eval (.tmp 109)=a.eval (.tmp 109):=by unfold DW;repeat rw[DB _ _ _ _ _ (by decide)]
def Ut:(DW a c nf dC dM dP dE dB dZ cv m pg pc e z).eval (.tmp 111)=a.eval (.tmp 111):=by unfold DW;repeat rw[DB _ _ _ _ _ (by decide)]
def Ur:(DW a c nf dC dM dP dE dB dZ cv m pg pc e z).eval (.tmp 115)=a.eval (.tmp 115):=by unfold DW;repeat rw[DB _ _ _ _ _ (by decide)]
def Us(h:120<=a.tmps.size):(DW a c nf true dM dP dE dB dZ cv m pg pc e z).eval (.tmp 112)=cv:=by
 unfold DW;repeat rw[DB _ _ _ _ _ (by decide)]
 exact EC _ _ _ (by first|omega|(simp only[EQ];omega))
def Uq(h:120<=a.tmps.size):(DW a c nf dC true dP dE dB dZ cv m pg pc e z).eval (.tmp 116)=.slice (some ⟨m,0,none⟩) 1 1:=by
 unfold DW;repeat rw[DB _ _ _ _ _ (by decide)]
 exact EC _ _ _ (by first|omega|(simp only[EQ];omega))
def Up(h:120<=a.tmps.size):(DW a c nf dC dM true dE dB dZ cv m pg pc e z).eval (.tmp 117)=.slice (some ⟨pg,0,none⟩) (nf+1) pc:=by
 unfold DW;repeat rw[DB _ _ _ _ _ (by decide)]
 exact EC _ _ _ (by first|omega|(simp only[EQ];omega))
def Uo(h:120<=a.tmps.size):(DW a c nf dC dM dP true dB dZ cv m pg pc e z).eval (.tmp 118)=.slice (some ⟨e,0,none⟩) 0 0:=by
 unfold DW;repeat rw[DB _ _ _ _ _ (by decide)]
 exact EC _ _ _ (by first|omega|(simp only[EQ];omega))
def Un(h:120<=a.tmps.size):(DW a c nf dC dM dP dE true dZ cv m pg pc e z).eval (.tmp 119)=.agg #[.bool c,.slice (some ⟨pg,0,none⟩) (nf+1) pc,.slice (some ⟨e,0,none⟩) 0 0]:=by
 unfold DW;repeat rw[DB _ _ _ _ _ (by decide)]
 exact EC _ _ _ (by first|omega|(simp only[EQ];omega))
def XB(h:120<=a.tmps.size):(DW a c nf dC dM dP dE dB true cv m pg pc e z).eval (.tmp 14)=.pointer (some ⟨z,0,none⟩):=by
 unfold DW;repeat rw[DB _ _ _ _ _ (by decide)]
 exact EC _ _ _ (by first|omega|(simp only[EQ];omega))
end
def Vf(dC dM dP dE dB dZ:Bool):List Nat:=(if dC then[]else[4])++(if dM then[]else[8])++(if dC&&dM&&!dP then[9]else[])++(if dE then[]else[10])++(if dP&&dE&&!dB then[11]else[])++(if dZ then[]else[12])++(if dC&&dM&&dP&&dE&&dB&&dZ then[13]else[])
def YT:∀dC dM dP dE dB dZ:Bool,Region.ready .any V7 #[true,true,true,true,dC,true,true,true,dM,dP,dE,dB,dZ,false]=Vf dC dM dP dE dB dZ:=by intro dC dM dP dE dB dZ;cases dC<;>cases dM<;>cases dP<;>cases dE<;>cases dB<;>cases dZ<;>kernel_rfl
def YG{dC dM dP dE dB dZ:Bool}{i:Nat}(h:i∈Vf dC dM dP dE dB dZ):(i=4/\dC=false)\/(i=8/\dM=false)\/(i=9/\dC=true/\dM=true/\dP=false)\/(i=10/\dE=false)\/(i=11/\dP=true/\dE=true/\dB=false)\/(i=12/\dZ=false)\/(i=13/\dC=true/\dM=true/\dP=true/\dE=true/\dB=true/\dZ=true):=by cases dC<;>cases dM<;>cases dP<;>cases dE<;>cases dB<;>cases dZ<;>simp[Vf]at h ⊢<;>first|exact h|omega
def YF(dC dM dP dE dB dZ:Bool)(h1:dP=true->dC=true/\dM=true)(h2:dB=true->dP=true/\dE=true):Vf dC dM dP dE dB dZ≠ []:=by cases dC<;>cases dM<;>cases dP<;>cases dE<;>cases dB<;>cases dZ<;>first|simp[Vf]|simp at h1 h2
def aR{Q:Exit->Act->World->Prop}{S:World->Prop}(a:Act)(W:World)(hsz:120<=a.tmps.size)(c:Bool)(sv:Value)(hc:a.eval (.tmp 109)=.bool c)(hs:a.eval (.tmp 111)=sv)(x:Int)(hx:a.eval (.tmp 115)=.int .i64 x)(nf:Nat)(hnf:nf<=10000)(fr:List Int)(HK:∀wx,Below W.heap.size W wx->S wx)(HC:∀wx,Below W.heap.size W wx->Calls prog 105 #[sv,.bool false] wx fun e w'=>∃a' Ak,e=.returned (.slice a' nf Ak)/\w'.ownsRow wx.heap.size 3 1 (.slice a' nf Ak) nf (fr.map (Value.int .i64))/\Below wx.heap.size wx w')(hend:∀z e pg pc m cv wx,Ai wx z c (.slice (some ⟨pg,0,none⟩) (nf+1) pc) (.slice (some ⟨e,0,none⟩) 0 0)->BA wx e []->wx.ownsRow W.heap.size 3 1 (.slice (some ⟨pg,0,none⟩) (nf+1) pc) (nf+1) ((fr++ [x]).map (Value.int .i64))->Below W.heap.size W wx->W.heap.size<=z->W.heap.size<=e->pg≠e->pg≠z->Q .normal (DW a c nf true true true true true true cv m pg pc e z) wx):∀(fuel:Nat)(dC dM dP dE dB dZ:Bool)(cv:Value)(m pg pc e z:Nat)(w:World),(dP=true->dC=true/\dM=true)->(dB=true->dP=true/\dE=true)->n4 dC+n4 dM+n4 dP+n4 dE+n4 dB+n4 dZ+1<=fuel->NM W fr x nf dC dM dP dE dZ cv (.slice (some ⟨pg,0,none⟩) (nf+1) pc) m e z w->wpAnyH prog .any V7 Q S fuel #[true,true,true,true,dC,true,true,true,dM,dP,dE,dB,dZ,false] (DW a c nf dC dM dP dE dB dZ cv m pg pc e z) w:=by
 obtain⟨i0,hi0,hz0,hz1,hz2⟩:=info_parts A6;intro fuel;induction fuel with
 |zero=>intro dC dM dP dE dB dZ cv m pg pc e z w _ _ h;omega
 |succ fuel ih=>
  intro dC dM dP dE dB dZ cv m pg pc e z w hv1 hv2 hn hI;refine wpAnyH_all (YT dC dM dP dE dB dZ) (YF dC dM dP dE dB dZ hv1 hv2) ?_;intro i hi;obtain⟨rfl,rfl⟩|⟨rfl,rfl⟩|⟨rfl,rfl,rfl,rfl⟩|⟨rfl,rfl⟩|⟨rfl,rfl,rfl,rfl⟩|⟨rfl,rfl⟩|⟨rfl,rfl,rfl,rfl,rfl,rfl,rfl⟩:=YG hi
  .obtain rfl:dP=false:=by cases dP with
    |false=>rfl
    |true=>exact absurd (hv1 rfl).1 (by decide)
   obtain rfl:dB=false:=by cases dB with
    |false=>rfl
    |true=>exact absurd (hv2 rfl).1 (by decide)
   refine MR (.tmp 111) sv (nf:=nf) (fr:=fr) rfl rfl rfl (by rw[Ut,hs]) (HC _ hI.hb) ?_;intro a' Ak w' ho hb;have hI':=hI.C hb ho;refine⟨HK _ hI'.hb,?_⟩;have:=ih true dM false dE false dZ (.slice a' nf Ak) m pg pc e z w' (by simp) (by simp) (by simp[n4]at hn ⊢;omega) hI';exact(aA a c nf dM dE dZ cv m pg pc e z (.slice a' nf Ak))▸this
  .obtain rfl:dP=false:=by cases dP with
    |false=>rfl
    |true=>exact absurd (hv1 rfl).2 (by decide)
   obtain rfl:dB=false:=by cases dB with
    |false=>rfl
    |true=>exact absurd (hv2 rfl).1 (by decide)
   refine V9 (.tmp 115) x rfl rfl rfl (by rw[Ur,hx]) ?_;have hI':=hI.M;refine⟨HK _ hI'.hb,?_⟩;have:=ih dC true false dE false dZ cv w.heap.size pg pc e z _ (by simp) (by simp) (by simp[n4]at hn ⊢;omega) hI';exact(Z8 a c nf dC dE dZ cv m pg pc e z w.heap.size)▸this
  .obtain rfl:dB=false:=by cases dB with
    |false=>rfl
    |true=>exact absurd (hv2 rfl).1 (by decide)
   refine QR rfl rfl ?_;refine wp_append_lies _ (.tmp 112) (.tmp 116) 23 rfl W.heap.size 3 i0 _ 1 8 underlying23 hi0 hz0 hz1 hz2 rfl (by omega) cv nf (fr.map (Value.int .i64)) (Us a c nf true false dE false dZ cv m pg pc e z hsz) (hI.hC rfl rfl) ⟨m,0,none⟩ 1 1 [.int .i64 x] (Uq a c nf true false dE false dZ cv m pg pc e z hsz) (by rfl) (FJ (hI.hM rfl rfl)) (CD _) (by omega) (by unfold maxLen;omega) (by omega) hI.hb.size _ rfl ?_;intro g cap w' ho hg hat _;have hI':=hI.P ho hg hat;refine⟨HK _ hI'.hb,?_⟩;have:=ih true true true dE false dZ cv m g cap e z w' (by simp) (by simp) (by simp[n4]at hn ⊢;omega) hI';exact(Z7 a c nf dE dZ cv m pg pc e z g cap)▸this
  .obtain rfl:dB=false:=by cases dB with
    |false=>rfl
    |true=>exact absurd (hv2 rfl).2 (by decide)
   refine TV rfl rfl rfl ?_;have hI':=hI.E;refine⟨HK _ hI'.hb,?_⟩;have:=ih dC dM dP true false dZ cv m pg pc w.heap.size z _ hv1 (by simp) (by simp[n4]at hn ⊢;omega) hI';exact(Z9 a c nf dC dM dP dZ cv m pg pc e z w.heap.size)▸this
  .refine MU (.tmp 109) (.tmp 117) (.tmp 118) c (some ⟨pg,0,none⟩) (some ⟨e,0,none⟩) (nf+1) 0 pc 0 rfl rfl rfl (by rw[Uu,hc]) (Up a c nf dC dM true false dZ cv m pg pc e z hsz) (Uo a c nf dC dM true false dZ cv m pg pc e z hsz) ?_;refine⟨HK _ hI.hb,?_⟩;have:=ih dC dM true true true dZ cv m pg pc e z _ hv1 (by simp) (by simp[n4]at hn ⊢;omega) hI;exact(aB a c nf dC dM dZ cv m pg pc e z)▸this
  .refine TW rfl rfl rfl ?_;have hI':=hI.Z;refine⟨HK _ hI'.hb,?_⟩;have:=ih dC dM dP dE dB true cv m pg pc e w.heap.size _ hv1 hv2 (by simp[n4]at hn ⊢;omega) hI';exact(Z5 a c nf dC dM dP dE dB cv m pg pc e z w.heap.size)▸this
  .obtain⟨hz,hzl⟩:=hI.hZ rfl;obtain⟨he,hel⟩:=hI.hE rfl;have hP:=hI.hP rfl;have hez:=he.notBox hz;refine OP (.tmp 14) (.tmp 119) z c false (some ⟨pg,0,none⟩) (some ⟨e,0,none⟩) (nf+1) 0 pc 0 _ _ rfl rfl rfl (XB a c nf true true true true true cv m pg pc e z hsz) (Un a c nf true true true true true cv m pg pc e z hsz) hz ?_;have hb1:=((hI.hb.setCell (p:=⟨z,0,none⟩) hzl (.bool c)).setCell (p:=⟨z,1,none⟩) hzl (.slice (some ⟨pg,0,none⟩) (nf+1) pc)).setCell (p:=⟨z,2,none⟩) hzl (.slice (some ⟨e,0,none⟩) 0 0);refine⟨HK _ hb1,?_⟩;refine wpAnyH_done (by kernel_rfl) ?_ _;refine hend z e pg pc m cv _ hz.sets (((he.other hez _).other hez _).other hez _) ?_ hb1 hzl hel (fun k=>hI.hpe rfl rfl (by rw[k];rfl)) (fun k=>hI.hpz rfl rfl (by rw[k];rfl));exact Ez (Ez (Ez hP (hI.hpz rfl rfl) 0 _) (hI.hpz rfl rfl) 1 _) (hI.hpz rfl rfl) 2 _
def Y5(a:Act)(c:Bool)(o1:Option Addr)(l1 c1 b2 b3:Nat)(x1 x2:Int)(nf:Nat)(cv:Value)(m pg pc e z:Nat):Act:=DW (((((((a.put (some 108) (.pointer (some ⟨b2,0,none⟩))).put (some 109) (.bool c)).put (some 110) (.pointer (some ⟨b3,1,none⟩))).put (some 111) (.slice o1 l1 c1)).put (some 113) (.int .i64 x1)).put (some 114) (.int .i64 x2)).put (some 115) (.int .i64 (x1+x2))) c nf true true true true true true cv m pg pc e z
def Vx{Q:Exit->Act->World->Prop}(a:Act)(W:World)(hsz:120<=a.tmps.size)(b2 b3:Nat)(h2:a.eval (.tmp 2)=.pointer (some ⟨b2,0,none⟩))(h3:a.eval (.tmp 2)=.pointer (some ⟨b3,0,none⟩))(c:Bool)(o1:Option Addr)(l1 c1:Nat)(x1 x2:Int)(hm1:a.eval (.tmp 9)=.int .i64 x1)(hm2:a.eval (.tmp 12)=.int .i64 x2)(hadd:IntKind.i64.wrap (x1+x2)=x1+x2)(nf:Nat)(hnf:nf<=10000)(fr:List Int)(HK:∀wx,Below W.heap.size W wx->wx.cell? ⟨b2,0,none⟩=some (.bool c)/\wx.cell? ⟨b3,1,none⟩=some (.slice o1 l1 c1))(HC:∀wx,Below W.heap.size W wx->Calls prog 105 #[.slice o1 l1 c1,.bool false] wx fun e w'=>∃a' Ak,e=.returned (.slice a' nf Ak)/\w'.ownsRow wx.heap.size 3 1 (.slice a' nf Ak) nf (fr.map (Value.int .i64))/\Below wx.heap.size wx w')(hQ:∀c a(d:Nat)v w,Q (.panic c) (a.put (some d) v) w->Q (.panic c) a w)(hend:∀z e pg pc m cv wx,T1 W c (nf+1) (fr++ [(x1+x2)]) (.pointer (some ⟨z,0,none⟩)) wx->Q .normal (Y5 a c o1 l1 c1 b2 b3 x1 x2 nf cv m pg pc e z) wx):(Code.region 24 V7 true).wp prog Q a W:=by
 have hb0:Below W.heap.size W {W with drawn:=W.drawn+1}:=AG.drew;have hS:=HK _ hb0;refine wp_region_held (S:=fun wx=>wx.cell? ⟨b2,0,none⟩=some (.bool c)/\wx.cell? ⟨b3,1,none⟩=some (.slice o1 l1 c1)) (by kernel_rfl) ?_;show wpAnyH _ _ _ _ _ (13+1) _ _ _;refine wpAnyH_take (i:=0) (v:=(.pointer (some ⟨b2,0,none⟩))) rfl (by kernel_rfl) (by kernel_rfl) (by kernel_rfl) (fun c a w h=>hQ c a _ _ w h) (Or.inl ⟨rfl,?_⟩) hS ?_
 .intro w hSw;obtain⟨e1,e2⟩:=hSw;have q:a.eval (.tmp 2)=.pointer (some ⟨b2,0,none⟩):=by
   repeat rw[Dr (by decide)]
   exact h2
  exact Gp (.tmp 2) b2 0 rfl q (by decide) w
 refine wpAnyH_take (i:=1) (v:=(.bool c)) rfl (by kernel_rfl) (by kernel_rfl) (by kernel_rfl) (fun c a w h=>hQ c a _ _ w h) (Or.inl ⟨rfl,?_⟩) hS ?_
 .intro w hSw;obtain⟨e1,e2⟩:=hSw;have q:(a.put (some 108) (.pointer (some ⟨b2,0,none⟩))).eval (.tmp 108)=.pointer (some ⟨b2,0,none⟩):=DP _ _ _ (by first|omega|(simp[Act.put];omega));exact OD (.tmp 108) ⟨b2,0,none⟩ c rfl q w e1
 refine wpAnyH_take (i:=2) (v:=(.pointer (some ⟨b3,1,none⟩))) rfl (by kernel_rfl) (by kernel_rfl) (by kernel_rfl) (fun c a w h=>hQ c a _ _ w h) (Or.inl ⟨rfl,?_⟩) hS ?_
 .intro w hSw;obtain⟨e1,e2⟩:=hSw;have q:((a.put (some 108) (.pointer (some ⟨b2,0,none⟩))).put (some 109) (.bool c)).eval (.tmp 2)=.pointer (some ⟨b3,0,none⟩):=by
   repeat rw[Dr (by decide)]
   exact h3
  exact Gp (.tmp 2) b3 1 rfl q (by decide) w
 refine wpAnyH_take (i:=3) (v:=(.slice o1 l1 c1)) rfl (by kernel_rfl) (by kernel_rfl) (by kernel_rfl) (fun c a w h=>hQ c a _ _ w h) (Or.inl ⟨rfl,?_⟩) hS ?_
 .intro w hSw;obtain⟨e1,e2⟩:=hSw;have q:(((a.put (some 108) (.pointer (some ⟨b2,0,none⟩))).put (some 109) (.bool c)).put (some 110) (.pointer (some ⟨b3,1,none⟩))).eval (.tmp 110)=.pointer (some ⟨b3,1,none⟩):=DP _ _ _ (by first|omega|(simp[Act.put];omega));exact OC (.tmp 110) ⟨b3,1,none⟩ o1 l1 c1 rfl q w e2
 refine wpAnyH_take (i:=5) (v:=(.int .i64 x1)) rfl (by kernel_rfl) (by kernel_rfl) (by kernel_rfl) (fun c a w h=>hQ c a _ _ w h) (Or.inl ⟨rfl,?_⟩) hS ?_
 .intro w hSw;obtain⟨e1,e2⟩:=hSw;have q:((((a.put (some 108) (.pointer (some ⟨b2,0,none⟩))).put (some 109) (.bool c)).put (some 110) (.pointer (some ⟨b3,1,none⟩))).put (some 111) (.slice o1 l1 c1)).eval (.tmp 9)=.int .i64 x1:=by
   repeat rw[Dr (by decide)]
   exact hm1
  exact OB (.tmp 9) _ rfl q w
 refine wpAnyH_take (i:=6) (v:=(.int .i64 x2)) rfl (by kernel_rfl) (by kernel_rfl) (by kernel_rfl) (fun c a w h=>hQ c a _ _ w h) (Or.inl ⟨rfl,?_⟩) hS ?_
 .intro w hSw;obtain⟨e1,e2⟩:=hSw;have q:(((((a.put (some 108) (.pointer (some ⟨b2,0,none⟩))).put (some 109) (.bool c)).put (some 110) (.pointer (some ⟨b3,1,none⟩))).put (some 111) (.slice o1 l1 c1)).put (some 113) (.int .i64 x1)).eval (.tmp 12)=.int .i64 x2:=by
   repeat rw[Dr (by decide)]
   exact hm2
  exact OB (.tmp 12) _ rfl q w
 refine wpAnyH_take (i:=7) (v:=(.int .i64 (x1+x2))) rfl (by kernel_rfl) (by kernel_rfl) (by kernel_rfl) (fun c a w h=>hQ c a _ _ w h) (Or.inl ⟨rfl,?_⟩) hS ?_
 .intro w hSw;obtain⟨e1,e2⟩:=hSw;have q1:((((((a.put (some 108) (.pointer (some ⟨b2,0,none⟩))).put (some 109) (.bool c)).put (some 110) (.pointer (some ⟨b3,1,none⟩))).put (some 111) (.slice o1 l1 c1)).put (some 113) (.int .i64 x1)).put (some 114) (.int .i64 x2)).eval (.tmp 113)=.int .i64 x1:=by
   repeat rw[Dr (by decide)]
   exact DP _ _ _ (by first|omega|(simp[Act.put];omega))
  have q2:((((((a.put (some 108) (.pointer (some ⟨b2,0,none⟩))).put (some 109) (.bool c)).put (some 110) (.pointer (some ⟨b3,1,none⟩))).put (some 111) (.slice o1 l1 c1)).put (some 113) (.int .i64 x1)).put (some 114) (.int .i64 x2)).eval (.tmp 114)=.int .i64 x2:=DP _ _ _ (by first|omega|(simp[Act.put];omega));exact Ve (.tmp 113) (.tmp 114) x1 x2 rfl q1 q2 hadd w
 refine aR (((((((a.put (some 108) (.pointer (some ⟨b2,0,none⟩))).put (some 109) (.bool c)).put (some 110) (.pointer (some ⟨b3,1,none⟩))).put (some 111) (.slice o1 l1 c1)).put (some 113) (.int .i64 x1)).put (some 114) (.int .i64 x2)).put (some 115) (.int .i64 (x1+x2))) W (by first|omega|(simp[Act.put];omega)) c (.slice o1 l1 c1) (by(repeat rw[Dr (by decide)]);exact DP _ _ _ (by first|omega|(simp[Act.put];omega))) (by(repeat rw[Dr (by decide)]);exact DP _ _ _ (by first|omega|(simp[Act.put];omega))) (x1+x2) (DP _ _ _ (by first|omega|(simp[Act.put];omega))) nf hnf fr HK HC ?_ 7 false false false false false false undef 0 0 0 0 0 _ (by simp) (by simp) (by simp[n4]) ⟨hb0,by simp,by simp,by simp,by simp,by simp,by simp,by simp,by simp,by simp⟩;intro z e pg pc m cv wx h1 h2' h3' h4 h5 h6 h7 _;refine hend z e pg pc m cv wx ?_;obtain⟨a',Ak,hv,ho⟩:=Bt.of_owns h3' (by omega);cases hv;refine⟨z,e,_,_,rfl,h1,h2',ho,h4,h5,h6,?_,Ft h3'⟩;intro y hy;obtain⟨_,hy'⟩:=hy;simp at hy';omega
def Xn{w:World}{p:Nat}{c c':Bool}{v1 v2:Value}(h:Ai w p c v1 v2):Ai (w.setCell ⟨p,0,none⟩ (.bool c')) p c' v1 v2:=by unfold Ai at h ⊢;rw[Bj w p 0 _ _ _ h];simp
def S0{w:World}{g p:Nat}{zs:List Int}{c:Bool}{v1 v2:Value}(h:BA w g zs)(hb:Ai w p c v1 v2):g≠p:=by intro e;subst e;unfold BA at h;unfold Ai at hb;rw[h]at hb;have:=Gi (fun o=>match o with|some (.cells _ t _)=>t|_=>0) hb;simp at this
def JL{w:World}{base n cap:Nat}{a:Option Addr}{zs:List Int}(h:w.ownsRow base 3 1 (.slice a n cap) n (zs.map (Value.int .i64)))(hs:n<=17592186044416):AO w a n zs:=by obtain⟨a',Ak,hv,ho⟩:=Bt.of_owns h hs;cases hv;exact ho.row
def Cl(sh:List Int):A9 sh=Cx sh false:=by simp[A9,Cx]
def Pw(sh':List Int):Ar [] sh'=A9 sh'++ [1]:=by unfold Ar;rw[AI rfl]
def N7{sh sh':List Int}(h0:sh≠ [])(h:sh.length+1=sh'.length):Ar sh sh'=sh++ [1]:=by unfold Ar;rw[AH h0,AI h]
def IR{sh sh':List Int}(h0:sh≠ [])(h:sh.length+1≠sh'.length):Ar sh sh'=sh:=by unfold Ar;rw[AH h0,AH h]
def Lr{sh dt sh':List Int}(h0:sh≠ []):BR sh dt sh'=dt:=by unfold BR;rw[AH h0]
def RD(dt sh':List Int):BR [] dt sh'=List.replicate (Ac (A9 sh'++ [1])).toNat (dt.getD 0 0):=by unfold BR;rw[AI rfl,Pw]
def Ky(c d:Bool)(s1 s2:Option Addr)(l1 l2 q1' q2' bd od n2 c2 b1 o1 m1 k1:Nat)(dt sh:List Int)(w:World)(hx:w.cell? ⟨bd,od,none⟩=some (.int .i64 (dt.getD 0 0)))(hbd:bd<w.heap.size)(hn2:0<n2)(h1:AO w (some ⟨b1,o1,none⟩) m1 sh)(hm:0<m1)(hk1:m1<=k1)(hm5:m1<=5)(hN:0<=Ac (A9 sh++ [1])/\Ac (A9 sh++ [1])<=10000):Calls prog 195 #[.agg #[.bool c,.slice s1 l1 q1',.slice (some ⟨bd,od,none⟩) n2 c2],.agg #[.bool d,.slice (some ⟨b1,o1,none⟩) m1 k1,.slice s2 l2 q2']] w fun e w'=>∃g1 csh g2 N cd,(m1<=csh/\N<=cd)/\e=.returned (.agg #[.bool c,.slice (some ⟨g1,0,none⟩) m1 csh,.slice (some ⟨g2,0,none⟩) N cd])/\AO w' (some ⟨g1,0,none⟩) m1 (Ar [] sh)/\AO w' (some ⟨g2,0,none⟩) N (BR [] dt sh)/\Below w.heap.size w w':=by
 obtain⟨nf,rfl⟩:∃nf,m1=nf+1:=⟨m1- 1,by omega⟩
 refine(PH c d s1 s2 l1 l2 q1' q2' bd od n2 c2 b1 o1 nf k1 (dt.getD 0 0) sh (Ac (A9 sh++ [1])).toNat w hx hbd hn2 h1 hk1 (by omega) (by rw[<-Cl];omega) (by omega)).mono ?_;rintro e w'⟨g1,csh,g2,cd,h1,rfl,h2,h3,h4⟩;refine⟨g1,csh,g2,_,cd,h1,rfl,?_,?_,h4⟩
 .rw[Pw,Cl];exact h2.row
 .rw[RD];exact h3.row
def L9{d:Bool}{sh' dt':List Int}(h2:AJ d sh' dt'=true):0<=Ac (A9 sh'++ [1])/\Ac (A9 sh'++ [1])<=10000:=by obtain⟨i2,_,l2⟩:=AW h2;obtain⟨ha,m,hm⟩:=FG (i2.take (sh'.length- 1));have hb:Am (A9 sh'++ [1])=true:=Ex (n:=(A9 sh'++ [1]).length) rfl (by simp[A9];omega) m ha hm;have:=CS hb;omega
def RC{dt:List Int}(h:dt.length=1):BR [] dt []=dt:=by
 rw[RD]
 match dt,h with
 | [x],_=>rfl
def bU(w:World)(c d:Bool)(L X R Y:List Int)(wx:World):Prop:=∃a1 p1 e1 a2 p2 e2 b1 q1 f1 b2 q2 f2,Ai wx w.heap.size c (.slice (some a1) p1 e1) (.slice (some a2) p2 e2)/\Ai wx (w.heap.size+1) d (.slice (some b1) q1 f1) (.slice (some b2) q2 f2)/\Ai wx (w.heap.size+2) false (.slice none 0 0) (.slice none 0 0)/\AO wx (some a1) p1 L/\AO wx (some a2) p2 X/\AO wx (some b1) q1 R/\AO wx (some b2) q2 Y/\p1<=e1/\q1<=f1/\Below w.heap.size w wx/\p1=q1/\p2<=e2/\q2<=f2
def Pk(c d:Bool)(a1 a2 b1 b2:Addr)(n1 n2 m1 m2 c1 c2 d1 d2:Nat)(sh dt sh' dt':List Int)(hc1:n1<=c1)(hd1:m1<=d1)(hc2:n2<=c2)(hd2:m2<=d2)(w:World)(h1:AO w (some a1) n1 sh)(h2:AO w (some a2) n2 dt)(k1:AO w (some b1) m1 sh')(k2:AO w (some b2) m2 dt'):Calls prog 125 #[.agg #[.bool c,.slice (some a1) n1 c1,.slice (some a2) n2 c2],.agg #[.bool d,.slice (some b1) m1 d1,.slice (some b2) m2 d2]] w (CJ w (BV c d sh dt sh' dt')):=by
 have hl1:=AD h1.len;have hl2:=AD h2.len;have hl3:=AD k1.len;have hl4:=AD k2.len;have hs1:=h1.small;have hs2:=h2.small;have hs3:=k1.small;have hs4:=k2.small;have H1:=AD h1;have H2:=AD h2;have K1:=AD k1;have K2:=AD k2;clear h1 h2 k1 k2;obtain⟨r1,hr1⟩:∃r,AJ c sh dt=r:=⟨_,rfl⟩
 obtain⟨r2,hr2⟩:∃r,AJ d sh' dt'=r:=⟨_,rfl⟩
 have HR1:=AD hr1;have HR2:=AD hr2;clear hr1 hr2;go_enter func125,ntmps125;go_wp2_with fail;refine(A0 _ _ _ _ _ _ _ sh dt _ ((((AA H1).alloc _).alloc _).alloc _) ((((AA H2).alloc _).alloc _).alloc _) _ HR1).mono ?_;rintro e w1⟨rfl,hb1⟩;obtain⟨B4,B5,B6,hB1⟩:=Az hb1;have hz1:=B6.lt;clear hb1;obtain⟨x0,x1,x2,x3,x4,x5,x6⟩:=B4.all;obtain⟨y0,y1,y2,y3,y4,y5,y6⟩:=B5.all;cases r1 with
 |false=>
  have HS:Hid (BV c d sh dt sh' dt'=AT 3):=RJ (AA HR1);go_wp2_with fail;refine(Aa _).mono ?_;rintro e w9⟨rfl,hb9⟩;obtain⟨q0,q1,q2,q3,q4,q5,q6⟩:=((B6).below AC hb9).all;have hB9:=AD ((hB1).trans (hb9.mono (hB1).size));clear hb9 hB1 B4 B5 B6 hz1 x0 x1 x2 x3 x4 x5 x6 y0 y1 y2 y3 y4 y5 y6
  go_wp2
  refine bodyPost_ret (v:=.tuple #[.agg #[.bool false,.slice none 0 0,.slice none 0 0],.int .i64 3]) (by simp[results,results125,go_sem,q0,q1,q2]) rfl ?_;rw[AA HS];exact⟨none,0,0,none,0,0,rfl,AP _ _,AP _ _,(((AA hB9).setCell (by simp<;>omega) _).setCell (by simp<;>omega) _).setCell (by simp<;>omega) _⟩
 |true=>
  go_wp2_with fail;refine(A0 _ _ _ _ _ _ _ sh' dt' _ ((AA K1).below AC hB1) ((AA K2).below AC hB1) _ HR2).mono ?_;rintro e w2⟨rfl,hb2⟩;have C4:=AD (B4.below AC hb2);have C5:=AD (B5.below AC hb2);have C6:=AD (B6.below AC hb2);have hB2:=AD (hB1.trans (hb2.mono hB1.size));clear hb2 hB1 B4 B5 B6 hz1 x0 x1 x2 x3 x4 x5 x6 y0 y1 y2 y3 y4 y5 y6 w1;cases r2 with
  |false=>
   have HS:Hid (BV c d sh dt sh' dt'=AT 3):=RI (AA HR2);go_wp2_with fail;refine(Aa _).mono ?_;rintro e w9⟨rfl,hb9⟩;obtain⟨q0,q1,q2,q3,q4,q5,q6⟩:=((AA C6).below AC hb9).all;have hB9:=AD ((AA hB2).trans (hb9.mono (AA hB2).size));clear hb9 C4 C5 C6 hB2
   go_wp2
   refine bodyPost_ret (v:=.tuple #[.agg #[.bool false,.slice none 0 0,.slice none 0 0],.int .i64 3]) (by simp[results,results125,go_sem,q0,q1,q2]) rfl ?_;rw[AA HS];exact⟨none,0,0,none,0,0,rfl,AP _ _,AP _ _,(((AA hB9).setCell (by simp<;>omega) _).setCell (by simp<;>omega) _).setCell (by simp<;>omega) _⟩
  |true=>
   obtain⟨hIN1,hP1,hn5⟩:=AW (AA HR1);obtain⟨hIN2,hP2,hm5⟩:=AW (AA HR2);rw[AA hl1]at hn5;rw[AA hl3]at hm5;rw[AA hl2]at hP1;rw[AA hl4]at hP2;have HI1:=AD hIN1;have HI2:=AD hIN2;clear hIN1 hIN2;obtain⟨x0,x1,x2,x3,x4,x5,x6⟩:=(AA C4).all;obtain⟨y0,y1,y2,y3,y4,y5,y6⟩:=(AA C5).all;obtain⟨bz,hbz⟩:∃b,b=decide (n1=0/\m1=0):=⟨_,rfl⟩
   go_upto_region 5 with fail;go_cut[36] (fun v wx=>w2=wx/\v=.bool bz);case first=>as_aux_lemma=>
    by_cases hn0:n1=0
    .have g1:((n1:Int)==0)=true:=by simp[hn0]
     by_cases hm0:m1=0
     .have g2:((m1:Int)==0)=true:=by simp[hm0]
      have HZ:Hid (bz=true):=by show _=_;rw[hbz];simp[hn0,hm0]
      clear hn0 hm0 hbz
      go_wp2
      go_meet
      case rel=>exact⟨rfl,by rw[AA HZ]⟩
     .have g2:((m1:Int)==0)=false:=by simp;omega
      have HZ:Hid (bz=false):=by show _=_;rw[hbz];simp[hm0]
      clear hn0 hm0 hbz
      go_wp2
      go_meet
      case rel=>exact⟨rfl,by rw[AA HZ]⟩
    .have g1:((n1:Int)==0)=false:=by simp;omega
     have HZ:Hid (bz=false):=by show _=_;rw[hbz];simp[hn0]
     clear hn0 hbz
     go_wp2
     go_meet
     case rel=>exact⟨rfl,by rw[AA HZ]⟩
   case rest=>
    obtain⟨rfl,rfl⟩:=hcut
    go_upto_if 36 with fail
    go_cut[] (fun wx=>bU w c d (Ar sh sh') (BR sh dt sh') (Ar sh' sh) (BR sh' dt' sh) wx);case first=>as_aux_lemma=>
     by_cases hn0:n1=0
     .have e1:sh= []:=Af.mp ((AA hl1).trans hn0);have hn2:n2=1:=by rw[e1]at hP1;simp[AM]at hP1;omega
      have g1:((n1:Int)==0)=true:=by simp[hn0]
      by_cases hm0:m1=0
      .have e2:sh'= []:=Af.mp ((AA hl3).trans hm0);have hm2:m2=1:=by rw[e2]at hP2;simp[AM]at hP2;omega
       obtain rfl:bz=true:=by rw[hbz];simp[hn0,hm0]
       have ED1:Hid (BR sh dt sh'=dt):=by show _=_;rw[e1,e2];exact RC ((AA hl2).trans hn2)
       have ED2:Hid (BR sh' dt' sh=dt'):=by show _=_;rw[e1,e2];exact RC ((AA hl4).trans hm2)
       have ES1:Hid (Ar sh sh'=sh++ [1]):=by show _=_;rw[e1,e2];rfl
       have ES2:Hid (Ar sh' sh=sh'++ [1]):=by show _=_;rw[e1,e2];rfl
       have HPQ:Hid (n1+1=m1+1):=by show _=_;omega
       clear hn0 hm0 e1 e2 hbz hP1 hP2 hn2 hm2;go_wp2_with fail;refine(FR c a1 (some a2) n1 n2 c1 c2 sh _ ((AA H1).below AC (AA hB2)) (by omega)).mono ?_;rintro e w3⟨g,cap,rfl,ho3,hb3⟩;have D4:=AD ((AA C4).below AC hb3);have D5:=AD ((AA C5).below AC hb3);have D6:=AD ((AA C6).below AC hb3);have HB3:=AD ((AA hB2).trans (hb3.mono (AA hB2).size));have HO:=AD (JL ho3 (by omega));have hcap:=Ft ho3;clear hb3 ho3 x0 x1 x2 x3 x4 x5 x6 y0 y1 y2 y3 y4 y5 y6;obtain⟨x0,x1,x2,x3,x4,x5,x6⟩:=(AA D4).all;obtain⟨y0,y1,y2,y3,y4,y5,y6⟩:=(AA D5).all;go_wp2_with fail;have F4:=AD ((AA D4).sets (c':=c) (u1:=.slice (some ⟨g,0,none⟩) (n1+1) cap) (u2:=.slice (some a2) n2 c2));have F5:=AD ((((AA D5).other (q:=⟨w.heap.size,0,none⟩) (by simp) (.bool c)).other (q:=⟨w.heap.size,1,none⟩) (by simp) (.slice (some ⟨g,0,none⟩) (n1+1) cap)).other (q:=⟨w.heap.size,2,none⟩) (by simp) (.slice (some a2) n2 c2));have F6:=AD ((((AA D6).other (q:=⟨w.heap.size,0,none⟩) (by simp) (.bool c)).other (q:=⟨w.heap.size,1,none⟩) (by simp) (.slice (some ⟨g,0,none⟩) (n1+1) cap)).other (q:=⟨w.heap.size,2,none⟩) (by simp) (.slice (some a2) n2 c2));have FB:=AD ((((AA HB3).setCell (p:=⟨w.heap.size,0,none⟩) (by simp) (.bool c)).setCell (p:=⟨w.heap.size,1,none⟩) (by simp) (.slice (some ⟨g,0,none⟩) (n1+1) cap)).setCell (p:=⟨w.heap.size,2,none⟩) (by simp) (.slice (some a2) n2 c2));have FO:=AD ((AA HO).sets (AA D4) (.bool c) (.slice (some ⟨g,0,none⟩) (n1+1) cap) (.slice (some a2) n2 c2));obtain⟨w4,hw4⟩:∃x,x=((w3.setCell ⟨w.heap.size,0,none⟩ (.bool c)).setCell ⟨w.heap.size,1,none⟩ (.slice (some ⟨g,0,none⟩) (n1+1) cap)).setCell ⟨w.heap.size,2,none⟩ (.slice (some a2) n2 c2):=⟨_,rfl⟩
       rw[<-hw4]at F4 F5 F6 FB FO ⊢;clear hw4 D4 D5 D6 HB3 HO x0 x1 x2 x3 x4 x5 x6 y0 y1 y2 y3 y4 y5 y6;refine(FR d b1 (some b2) m1 m2 d1 d2 sh' _ ((AA K1).below AC (AA FB)) (by omega)).mono ?_;rintro e w5⟨g',Ak,rfl,ho5,hb5⟩;have D4:=AD ((AA F4).below AC hb5);have D5:=AD ((AA F5).below AC hb5);have D6:=AD ((AA F6).below AC hb5);have HB5:=AD ((AA FB).trans (hb5.mono (AA FB).size));have HO:=AD ((AA FO).below AC hb5);have HP:=AD (JL ho5 (by omega));have hcap':=Ft ho5;clear hb5 ho5 F4 F5 F6 FB FO;obtain⟨x0,x1,x2,x3,x4,x5,x6⟩:=(AA D5).all;go_wp2_with fail
       go_meet
       case rel=>
        rw[AA ED1,AA ED2,AA ES1,AA ES2];exact⟨⟨g,0,none⟩,n1+1,cap,a2,n2,c2,⟨g',0,none⟩,m1+1,Ak,b2,m2,d2,(((AA D4).other (by simp) _).other (by simp) _).other (by simp) _,(AA D5).sets,(((AA D6).other (by simp) _).other (by simp) _).other (by simp) _,(AA HO).sets (AA D5) _ _ _,((AA H2).below AC (AA HB5)).sets (AA D5) _ _ _,(AA HP).sets (AA D5) _ _ _,((AA K2).below AC (AA HB5)).sets (AA D5) _ _ _,hcap,hcap',(((AA HB5).setCell (by simp) _).setCell (by simp) _).setCell (by simp) _,AA HPQ,hc2,hd2⟩
      .have e2:sh'≠ []:=fun e=>hm0 (by rw[<-AA hl3,e];rfl);have g2:((m1:Int)==0)=false:=by simp;omega
       obtain rfl:bz=false:=by rw[hbz];simp[hm0]
       have ED2:=AD (Lr (dt:=dt') (sh':=sh) e2);have ES2:=AD (IR e2 (sh':=sh) (by rw[e1,AA hl3];simp));have ES1:Hid (Ar sh sh'=Ar [] sh'):=by show _=_;rw[e1]
       have ED1:Hid (BR sh dt sh'=BR [] dt sh'):=by show _=_;rw[e1]
       obtain⟨bd,od,hab,hblt,hcc⟩:=(AA H2).get (show 0<n2 by omega);cases hab;rw[G7]at hcc;obtain⟨bs,os,hab,_,_⟩:=(AA K1).get (show 0<m1 by omega);cases hab;have HX:=AD (((AA hB2).cell (p:=⟨bd,od,none⟩) hblt).trans hcc);have hm1:0<m1:=by omega
       have hn2':0<n2:=by omega
       clear hn0 hm0 e1 e2 hbz hP1 hP2 hcc hn2;go_wp2_with fail;refine(Ky c d (some a1) (some b2) n1 m2 c1 d2 bd od n2 c2 bs os m1 d1 dt sh' _ (AA HX) (AZ hblt (AA hB2).size) (by omega) ((AA K1).below AC (AA hB2)) hm1 hd1 hm5 (L9 (AA HR2))).mono ?_;rintro e w3⟨g,cap,g2',N,cd,⟨hcap,hcd⟩,rfl,ho3,hp3,hb3⟩;have D4:=AD ((AA C4).below AC hb3);have D5:=AD ((AA C5).below AC hb3);have D6:=AD ((AA C6).below AC hb3);have HB3:=AD ((AA hB2).trans (hb3.mono (AA hB2).size));have HO:=AD ho3;have HP:=AD hp3;clear hb3 ho3 hp3 x0 x1 x2 x3 x4 x5 x6 y0 y1 y2 y3 y4 y5 y6;obtain⟨x0,x1,x2,x3,x4,x5,x6⟩:=(AA D4).all;go_wp2_with fail
       go_meet
       case rel=>
        rw[AA ED1,AA ED2,AA ES1,AA ES2];exact⟨⟨g,0,none⟩,m1,cap,⟨g2',0,none⟩,N,cd,⟨bs,os,none⟩,m1,d1,b2,m2,d2,(AA D4).sets,(((AA D5).other (by simp) _).other (by simp) _).other (by simp) _,(((AA D6).other (by simp) _).other (by simp) _).other (by simp) _,(AA HO).sets (AA D4) _ _ _,(AA HP).sets (AA D4) _ _ _,((AA K1).below AC (AA HB3)).sets (AA D4) _ _ _,((AA K2).below AC (AA HB3)).sets (AA D4) _ _ _,hcap,hd1,(((AA HB3).setCell (by simp) _).setCell (by simp) _).setCell (by simp) _,rfl,hcd,hd2⟩
     .have e1:sh≠ []:=fun e=>hn0 (by rw[<-AA hl1,e];rfl);by_cases hm0:m1=0
      .have e2:sh'= []:=Af.mp ((AA hl3).trans hm0);have hm2:m2=1:=by rw[e2]at hP2;simp[AM]at hP2;omega
       have g1:((n1:Int)==0)=false:=by simp;omega
       have g2:((m1:Int)==0)=true:=by simp[hm0]
       obtain rfl:bz=false:=by rw[hbz];simp[hn0]
       have ED1:=AD (Lr (dt:=dt) (sh':=sh') e1);have ES1:=AD (IR e1 (sh':=sh') (by rw[e2,AA hl1];simp));have ES2:Hid (Ar sh' sh=Ar [] sh):=by show _=_;rw[e2]
       have ED2:Hid (BR sh' dt' sh=BR [] dt' sh):=by show _=_;rw[e2]
       obtain⟨bd,od,hab,hblt,hcc⟩:=(AA K2).get (show 0<m2 by omega);cases hab;rw[G7]at hcc;obtain⟨bs,os,hab,_,_⟩:=(AA H1).get (show 0<n1 by omega);cases hab;have HX:=AD (((AA hB2).cell (p:=⟨bd,od,none⟩) hblt).trans hcc);have hn1:0<n1:=by omega
       have hm2':0<m2:=by omega
       clear hn0 hm0 e1 e2 hbz hP1 hP2 hcc hm2;go_wp2_with fail;refine(Ky d c (some b1) (some a2) m1 n2 d1 c2 bd od m2 d2 bs os n1 c1 dt' sh _ (AA HX) (AZ hblt (AA hB2).size) (by omega) ((AA H1).below AC (AA hB2)) hn1 hc1 hn5 (L9 (AA HR1))).mono ?_;rintro e w3⟨g,cap,g2',N,cd,⟨hcap,hcd⟩,rfl,ho3,hp3,hb3⟩;have D4:=AD ((AA C4).below AC hb3);have D5:=AD ((AA C5).below AC hb3);have D6:=AD ((AA C6).below AC hb3);have HB3:=AD ((AA hB2).trans (hb3.mono (AA hB2).size));have HO:=AD ho3;have HP:=AD hp3;clear hb3 ho3 hp3 x0 x1 x2 x3 x4 x5 x6 y0 y1 y2 y3 y4 y5 y6;obtain⟨x0,x1,x2,x3,x4,x5,x6⟩:=(AA D5).all;go_wp2_with fail
       go_meet
       case rel=>
        rw[AA ED1,AA ED2,AA ES1,AA ES2];exact⟨⟨bs,os,none⟩,n1,c1,a2,n2,c2,⟨g,0,none⟩,n1,cap,⟨g2',0,none⟩,N,cd,(((AA D4).other (by simp) _).other (by simp) _).other (by simp) _,(AA D5).sets,(((AA D6).other (by simp) _).other (by simp) _).other (by simp) _,((AA H1).below AC (AA HB3)).sets (AA D5) _ _ _,((AA H2).below AC (AA HB3)).sets (AA D5) _ _ _,(AA HO).sets (AA D5) _ _ _,(AA HP).sets (AA D5) _ _ _,hc1,hcap,(((AA HB3).setCell (by simp) _).setCell (by simp) _).setCell (by simp) _,rfl,hc2,hcd⟩
      .have e2:sh'≠ []:=fun e=>hm0 (by rw[<-AA hl3,e];rfl);have g1:((n1:Int)==0)=false:=by simp;omega
       have g2:((m1:Int)==0)=false:=by simp;omega
       obtain rfl:bz=false:=by rw[hbz];simp[hn0]
       have ED1:=AD (Lr (dt:=dt) (sh':=sh') e1);have ED2:=AD (Lr (dt:=dt') (sh':=sh) e2);by_cases hA:n1+1=m1
       .have ES1:=AD (N7 e1 (sh':=sh') (by rw[AA hl1,AA hl3];exact hA));have ES2:=AD (IR e2 (sh':=sh) (by rw[AA hl1,AA hl3];omega));have g3:((n1:Int)+1==(m1:Int))=true:=by simp;omega
        have HPQ:Hid (n1+1=m1):=by show _=_;omega
        clear hn0 hm0 hA e1 e2 hbz;go_wp2_with fail;refine(FR c a1 (some a2) n1 n2 c1 c2 sh _ ((AA H1).below AC (AA hB2)) (by omega)).mono ?_;rintro e w3⟨g,cap,rfl,ho3,hb3⟩;have D4:=AD ((AA C4).below AC hb3);have D5:=AD ((AA C5).below AC hb3);have D6:=AD ((AA C6).below AC hb3);have HB3:=AD ((AA hB2).trans (hb3.mono (AA hB2).size));have HO:=AD (JL ho3 (by omega));have hcap:=Ft ho3;clear hb3 ho3 x0 x1 x2 x3 x4 x5 x6 y0 y1 y2 y3 y4 y5 y6;obtain⟨x0,x1,x2,x3,x4,x5,x6⟩:=(AA D4).all;go_wp2_with fail
        go_meet
        case rel=>
         rw[AA ED1,AA ED2,AA ES1,AA ES2];exact⟨⟨g,0,none⟩,n1+1,cap,a2,n2,c2,b1,m1,d1,b2,m2,d2,(AA D4).sets,(((AA D5).other (by simp) _).other (by simp) _).other (by simp) _,(((AA D6).other (by simp) _).other (by simp) _).other (by simp) _,(AA HO).sets (AA D4) _ _ _,((AA H2).below AC (AA HB3)).sets (AA D4) _ _ _,((AA K1).below AC (AA HB3)).sets (AA D4) _ _ _,((AA K2).below AC (AA HB3)).sets (AA D4) _ _ _,hcap,hd1,(((AA HB3).setCell (by simp) _).setCell (by simp) _).setCell (by simp) _,AA HPQ,hc2,hd2⟩
       .by_cases hB:m1+1=n1
        .have ES1:=AD (IR e1 (sh':=sh') (by rw[AA hl1,AA hl3];omega));have ES2:=AD (N7 e2 (sh':=sh) (by rw[AA hl1,AA hl3];exact hB));have g3:((n1:Int)+1==(m1:Int))=false:=by simp;omega
         have g4:((m1:Int)+1==(n1:Int))=true:=by simp;omega
         have HPQ:Hid (n1=m1+1):=by show _=_;omega
         clear hn0 hm0 hA hB e1 e2 hbz;go_wp2_with fail;refine(FR d b1 (some b2) m1 m2 d1 d2 sh' _ ((AA K1).below AC (AA hB2)) (by omega)).mono ?_;rintro e w3⟨g,cap,rfl,ho3,hb3⟩;have D4:=AD ((AA C4).below AC hb3);have D5:=AD ((AA C5).below AC hb3);have D6:=AD ((AA C6).below AC hb3);have HB3:=AD ((AA hB2).trans (hb3.mono (AA hB2).size));have HO:=AD (JL ho3 (by omega));have hcap:=Ft ho3;clear hb3 ho3 x0 x1 x2 x3 x4 x5 x6 y0 y1 y2 y3 y4 y5 y6;obtain⟨x0,x1,x2,x3,x4,x5,x6⟩:=(AA D5).all;go_wp2_with fail
         go_meet
         case rel=>
          rw[AA ED1,AA ED2,AA ES1,AA ES2];exact⟨a1,n1,c1,a2,n2,c2,⟨g,0,none⟩,m1+1,cap,b2,m2,d2,(((AA D4).other (by simp) _).other (by simp) _).other (by simp) _,(AA D5).sets,(((AA D6).other (by simp) _).other (by simp) _).other (by simp) _,((AA H1).below AC (AA HB3)).sets (AA D5) _ _ _,((AA H2).below AC (AA HB3)).sets (AA D5) _ _ _,(AA HO).sets (AA D5) _ _ _,((AA K2).below AC (AA HB3)).sets (AA D5) _ _ _,hc1,hcap,(((AA HB3).setCell (by simp) _).setCell (by simp) _).setCell (by simp) _,AA HPQ,hc2,hd2⟩
        .have ES1:=AD (IR e1 (sh':=sh') (by rw[AA hl1,AA hl3];omega));have ES2:=AD (IR e2 (sh':=sh) (by rw[AA hl1,AA hl3];omega));have g3:((n1:Int)+1==(m1:Int))=false:=by simp;omega
         have g4:((m1:Int)+1==(n1:Int))=false:=by simp;omega
         by_cases hE:n1=m1
         .have g5:((n1:Int) !=(m1:Int))=false:=by simp;omega
          have HPQ:Hid (n1=m1):=by show _=_;omega
          clear hn0 hm0 hA hB hE e1 e2 hbz;go_wp2_with fail
          go_meet
          case rel=>
           rw[AA ED1,AA ED2,AA ES1,AA ES2];exact⟨a1,n1,c1,a2,n2,c2,b1,m1,d1,b2,m2,d2,AA C4,AA C5,AA C6,(AA H1).below AC (AA hB2),(AA H2).below AC (AA hB2),(AA K1).below AC (AA hB2),(AA K2).below AC (AA hB2),hc1,hd1,AA hB2,AA HPQ,hc2,hd2⟩
         .have g5:((n1:Int) !=(m1:Int))=true:=by simp;omega
          have HS:Hid (BV c d sh dt sh' dt'=AT 4):=RH (AA HR1) (AA HR2) (by rw[AA ES1,AA ES2,AA hl1,AA hl3];exact hE);clear hn0 hm0 hA hB hE e1 e2 hbz x0 x1 x2 x3 x4 x5 x6 y0 y1 y2 y3 y4 y5 y6;go_wp2_with fail;refine(Aa _).mono ?_;rintro e w9⟨rfl,hb9⟩;obtain⟨q0,q1,q2,q3,q4,q5,q6⟩:=((AA C6).below AC hb9).all;have hB9:=AD ((AA hB2).trans (hb9.mono (AA hB2).size));clear hb9 C4 C5 C6 hB2
          go_wp2
          refine bodyPost_ret (v:=.tuple #[.agg #[.bool false,.slice none 0 0,.slice none 0 0],.int .i64 4]) (by simp[results,results125,go_sem,q0,q1,q2]) rfl ?_;rw[AA HS];exact⟨none,0,0,none,0,0,rfl,AP _ _,AP _ _,(((AA hB9).setCell (by simp<;>omega) _).setCell (by simp<;>omega) _).setCell (by simp<;>omega) _⟩
    case rest=>
     obtain⟨w4,hw4⟩:∃x,x=wc:=⟨_,rfl⟩
     subst hw4;obtain⟨A1,p1,e1,A2,p2,e2,B1,q1,f1,B2,q2,f2,hba,hbb,hbr,r1,r2,r3,r4,le1,le2,hB4,hpq,le3,le4⟩:=hcut;have HPQ:=AD hpq;clear hpq;have hs1:=Lm (AA HR1) (AA HR2);have hs2:=Lm (AA HR2) (AA HR1);obtain⟨L,hL⟩:∃L,Ar sh sh'=L:=⟨_,rfl⟩
     obtain⟨R,hR⟩:∃R,Ar sh' sh=R:=⟨_,rfl⟩
     obtain⟨X,hX⟩:∃X,BR sh dt sh'=X:=⟨_,rfl⟩
     obtain⟨Y,hY⟩:∃Y,BR sh' dt' sh=Y:=⟨_,rfl⟩
     rw[hL,hX]at hs1;rw[hR,hY]at hs2;rw[hL]at r1;rw[hX]at r2;rw[hR]at r3;rw[hY]at r4;obtain⟨hLi,hL5,hL0,hLp⟩:=hs1;obtain⟨hRi,hR5,hR0,hRp⟩:=hs2;have lL:=r1.len;have lX:=r2.len;have lR:=r3.len;have lY:=r4.len;have hL0':=hL0;have hR0':=hR0;rw[lL]at hL5 hL0;rw[lR]at hR5 hR0;rw[lX]at hLp;rw[lY]at hRp;obtain⟨ba,oa,hab,_,_⟩:=r1.get hL0;cases hab;obtain⟨bb,ob,hab,_,_⟩:=r3.get hR0;cases hab;have HLI:=AD hLi;have HRI:=AD hRi;have HLP:=AD hLp;have HRP:=AD hRp;have HEL:=AD hL;have HER:=AD hR;have HEX:=AD hX;have HEY:=AD hY;have E4:=AD hba;have E5:=AD hbb;have E6:=AD hbr;have F1:=AD r1;have F2:=AD r2;have F3:=AD r3;have F4:=AD r4;have HLL:=AD lL;have HLX:=AD lX;have HLR:=AD lR;have HLY:=AD lY;have HB4:=AD hB4;clear hLi hRi hLp hRp hL hR hX hY hba hbb hbr r1 r2 r3 r4 lL lX lR lY hB4 hs1 hs2 HI1 HI2 C4 C5 C6 hB2 x0 x1 x2 x3 x4 x5 x6 y0 y1 y2 y3 y4 y5 y6 hP1 hP2 hbz;obtain⟨rf,hrf⟩:∃r,decide (Cx L false=Cx R false)=r:=⟨_,rfl⟩
     have HRF:=AD hrf;clear hrf;go_upto_region 18 with fail;go_cut[74] (fun v wx=>v=.bool (!rf)/\Below w4.heap.size w4 wx);case first=>as_aux_lemma=>
      have HKEEP:∀wx,Below w4.heap.size w4 wx->Below w4.heap.size w4 wx/\wx.cell? ⟨w.heap.size,1,none⟩=some (.slice (some ⟨ba,oa,none⟩) p1 e1)/\wx.cell? ⟨w.heap.size+1,1,none⟩=some (.slice (some ⟨bb,ob,none⟩) q1 f1):=fun wx hwx=>⟨hwx,((AA E4).below AC hwx).cells.2.1,((AA E5).below AC hwx).cells.2.1⟩
      go_region_held3 (fun wx=>Below w4.heap.size w4 wx/\wx.cell? ⟨w.heap.size,1,none⟩=some (.slice (some ⟨ba,oa,none⟩) p1 e1)/\wx.cell? ⟨w.heap.size+1,1,none⟩=some (.slice (some ⟨bb,ob,none⟩) q1 f1)) (first|(refine HKEEP _ ?_;first|exact hKC|exact hKB|exact hKA|exact AG.drew)) (first
       |(go_at_call_of 105 (Value.slice (some ⟨ba,oa,none⟩) p1 e1);refine(Ih ba oa p1 e1 L false _ ((AA F1).below AC AG.drew) hL0 le1).mono ?_;rintro e wA⟨ga,ca,rfl,hOA,hbA⟩;have hKA:Below w4.heap.size w4 wA:=AG.drew.trans (hbA.mono (by first|exact AC|(simp<;>omega))))
       |(go_at_call_of 105 (Value.slice (some ⟨bb,ob,none⟩) q1 f1);refine(Ih bb ob q1 f1 R false _ ((AA F3).below AC hKA) hR0 le2).mono ?_;rintro e wB⟨gb,cb,rfl,hOB,hbB⟩;have hKB:Below w4.heap.size w4 wB:=hKA.trans (hbB.mono hKA.size);have hOA':=hOA.below AC hbB)
       |(go_at_call 179;refine(OV _ _ _ _ _ _ (Cx L false) (Cx R false) _ hOA'.row hOB.row rf HRF).mono ?_;rintro e wC⟨rfl,qq,rfl⟩;have hKC:Below w4.heap.size w4 (wB.drewN qq):=Below.drewN hKB qq))
      all_goals go_wp2_with fail
      all_goals go_meet
      all_goals case rel=>exact⟨rfl,hKC⟩
     case rest=>
      obtain⟨w5,hw5⟩:∃x,x=wc:=⟨_,rfl⟩
      subst hw5;obtain⟨rfl,hb5⟩:=hcut;have G4:=AD ((AA E4).below AC hb5);have G5:=AD ((AA E5).below AC hb5);have G6:=AD ((AA E6).below AC hb5);have R1:=AD ((AA F1).below AC hb5);have R2:=AD ((AA F2).below AC hb5);have R3:=AD ((AA F3).below AC hb5);have R4:=AD ((AA F4).below AC hb5);have HB5:=AD ((AA HB4).trans (hb5.mono (AA HB4).size));clear hb5 E4 E5 E6 F1 F2 F3 F4 HB4;have HLE:Hid (L.length=R.length):=by show _=_;rw[AA HLL,AA HLR];exact AA HPQ
      cases rf with
      |false=>
       have HS:Hid (BV c d sh dt sh' dt'=AT 5):=Ts (AA HR1) (AA HR2) (AA HEL) (AA HER) (AA HLE) (by rw[Cl,Cl];exact of_decide_eq_false (AA HRF));go_wp2_with fail;refine(Aa _).mono ?_;rintro e w9⟨rfl,hb9⟩;obtain⟨q0,q1,q2,q3,q4,q5,q6⟩:=((AA G6).below AC hb9).all;have hB9:=AD ((AA HB5).trans (hb9.mono (AA HB5).size));clear hb9 G4 G5 G6 HB5
       go_wp2
       refine bodyPost_ret (v:=.tuple #[.agg #[.bool false,.slice none 0 0,.slice none 0 0],.int .i64 5]) (by simp[results,results125,go_sem,q0,q1,q2]) rfl ?_;rw[AA HS];exact⟨none,0,0,none,0,0,rfl,AP _ _,AP _ _,(((AA hB9).setCell (by simp<;>omega) _).setCell (by simp<;>omega) _).setCell (by simp<;>omega) _⟩
      |true=>
       have HFR:Hid (A9 L=A9 R):=by show _=_;rw[Cl,Cl];exact BB (AA HRF)
       obtain⟨bd,hbd⟩:∃b,b=decide (c≠d/\0<p2/\0<q2):=⟨_,rfl⟩
       obtain⟨x0,x1,x2,x3,x4,x5,x6⟩:=(AA G4).all;obtain⟨y0,y1,y2,y3,y4,y5,y6⟩:=(AA G5).all;go_upto_region 20 with fail;go_cut[92] (fun v wx=>w5=wx/\v=.bool bd);case first=>as_aux_lemma=>
        by_cases hcd:c=d
        .have HZ:Hid (bd=false):=by show _=_;rw[hbd];simp[hcd]
         have g1:(c==d)=true:=by simp[hcd]
         clear hcd hbd
         go_wp2
         go_meet
         case rel=>exact⟨rfl,by rw[AA HZ]⟩
        .have g1:(c==d)=false:=by simp[hcd]
         by_cases h2:0<p2
         .by_cases h3:0<q2
          .have HZ:Hid (bd=true):=by show _=_;rw[hbd];simp[hcd,h2,h3]
           clear hcd hbd
           go_wp2
           go_meet
           case rel=>exact⟨rfl,by rw[AA HZ]⟩
          .have HZ:Hid (bd=false):=by show _=_;rw[hbd];simp[h3]
           obtain rfl:q2=0:=by omega
           clear hcd hbd h3
           go_wp2
           go_meet
           case rel=>exact⟨rfl,by rw[AA HZ]⟩
         .have HZ:Hid (bd=false):=by show _=_;rw[hbd];simp[h2]
          obtain rfl:p2=0:=by omega
          clear hcd hbd h2
          go_wp2
          go_meet
          case rel=>exact⟨rfl,by rw[AA HZ]⟩
       case rest=>
        obtain⟨rfl,rfl⟩:=hcut;have hXe:X= []↔¬ 0<p2:=by
         have:=AA HLX;constructor
         .intro h;rw[h]at this;simp at this;omega
         .intro h;exact List.eq_nil_of_length_eq_zero (by omega)
        have hYe:Y= []↔¬ 0<q2:=by
         have:=AA HLY;constructor
         .intro h;rw[h]at this;simp at this;omega
         .intro h;exact List.eq_nil_of_length_eq_zero (by omega)
        have HXE:=AD hXe;have HYE:=AD hYe;have HBD:=AD hbd;clear hXe hYe hbd x0 x1 x2 x3 x4 x5 x6 y0 y1 y2 y3 y4 y5 y6;cases bd with
        |true=>
         have HS:Hid (BV c d sh dt sh' dt'=AT 3):=Tt (AA HR1) (AA HR2) (AA HEL) (AA HER) (AA HEX) (AA HEY) (AA HLE) (AA HFR) (by have h:=BB (AA HBD).symm;exact⟨h.1,fun e=>((AA HXE).1 e) h.2.1,fun e=>((AA HYE).1 e) h.2.2⟩);go_wp2_with fail;refine(Aa _).mono ?_;rintro e w9⟨rfl,hb9⟩;obtain⟨q0,q1,q2,q3,q4,q5,q6⟩:=((AA G6).below AC hb9).all;have hB9:=AD ((AA HB5).trans (hb9.mono (AA HB5).size));clear hb9 G4 G5 G6 HB5
         go_wp2
         refine bodyPost_ret (v:=.tuple #[.agg #[.bool false,.slice none 0 0,.slice none 0 0],.int .i64 3]) (by simp[results,results125,go_sem,q0,q1,q2]) rfl ?_;rw[AA HS];exact⟨none,0,0,none,0,0,rfl,AP _ _,AP _ _,(((AA hB9).setCell (by simp<;>omega) _).setCell (by simp<;>omega) _).setCell (by simp<;>omega) _⟩
        |false=>
         have HND:Hid (¬(c≠d/\X≠ []/\Y≠ [])):=fun h=>(of_decide_eq_false (AA HBD).symm) ⟨h.1,by
          have:=h.2.1;rw[ne_eq,AA HXE]at this;omega,by
          have:=h.2.2;rw[ne_eq,AA HYE]at this;omega⟩
         obtain⟨B,hB⟩:∃B,GL L false=B:=⟨_,rfl⟩
         obtain⟨x,hx⟩:∃x,EP L false=x:=⟨_,rfl⟩
         obtain⟨y,hy⟩:∃y,EP R false=y:=⟨_,rfl⟩
         have hxb:0<=x/\x<=10000:=by rw[<-hx];exact(AA HLI).cell _
         have hyb:0<=y/\y<=10000:=by rw[<-hy];exact(AA HRI).cell _
         have hAX1:=Gw (some ⟨ba,oa,none⟩) p1 e1 L false;have hAX2:=Gw (some ⟨bb,ob,none⟩) q1 f1 R false;rw[hB,hx]at hAX1;rw[hy]at hAX2;have HAX1:=AD hAX1;have HAX2:=AD hAX2;have HEB:Hid (AM (A9 L)=B):=by rw[<-hB];rfl
         have HEx:Hid (El L=x):=by rw[<-hx];rfl
         have HEy:Hid (El R=y):=by rw[<-hy];rfl
         have hadd:IntKind.i64.wrap (x+y)=x+y:=by rw[IntKind.wrap_i64];omega
         obtain⟨x0,x1,x2,x3,x4,x5,x6⟩:=(AA G4).all;clear hB hx hy hAX1 hAX2;go_upto_region 24 with(first
          |(go_at_call_of 106 (Value.slice (some ⟨ba,oa,none⟩) p1 e1);refine(AA HAX1 _ (AA R1) (AA HLI) hL0).mono ?_;rintro e w6⟨rfl,hb6⟩;have I4:=AD ((AA G4).below AC hb6);have I5:=AD ((AA G5).below AC hb6);have HBW6:=AD hb6;obtain⟨y0,y1,y2,y3,y4,y5,y6⟩:=(AA I5).all;clear hb6)
          |(go_at_call_of 106 (Value.slice (some ⟨bb,ob,none⟩) q1 f1);refine(AA HAX2 _ ((AA R3).below AC (AA HBW6)) (AA HRI) hR0).mono ?_;rintro e w7⟨rfl,hb7⟩;have HBW7:=AD ((AA HBW6).trans (hb7.mono (AA HBW6).size));clear hb7))
         have J4:=AD ((AA G4).below AC (AA HBW7));have J5:=AD ((AA G5).below AC (AA HBW7));have J6:=AD ((AA G6).below AC (AA HBW7));have S1:=AD ((AA R1).below AC (AA HBW7));have S2:=AD ((AA R2).below AC (AA HBW7));have S4:=AD ((AA R4).below AC (AA HBW7));have HB7:=AD ((AA HB5).trans ((AA HBW7).mono (AA HB5).size));clear x0 x1 x2 x3 x4 x5 x6 G4 G5 G6 R1 R2 R3 R4 HB5 I4 I5 HBW6 HBW7 HAX1 HAX2;obtain⟨nf,hnf⟩:∃nf,p1=nf+1:=⟨p1- 1,by omega⟩
         subst hnf;go_cut[14] (fun r wx=>T1 w7 c (nf+1) (Cx L false++ [x+y]) r wx);case first=>as_aux_lemma=>
          have HC:∀wx,Below w7.heap.size w7 wx->Calls prog 105 #[.slice (some ⟨ba,oa,none⟩) (nf+1) e1,.bool false] wx fun e w'=>∃a' Ak,e=.returned (.slice a' nf Ak)/\w'.ownsRow wx.heap.size 3 1 (.slice a' nf Ak) nf ((Cx L false).map (Value.int .i64))/\Below wx.heap.size wx w':=fun wx hwx=>H6 ba oa (nf+1) e1 L wx ((AA S1).below AC hwx) hL0 le1;refine Vx _ w7 (by simp) w.heap.size w.heap.size rfl rfl c (some ⟨ba,oa,none⟩) (nf+1) e1 x y rfl rfl hadd nf (by omega) (Cx L false) (fun wx hwx=>⟨((AA J4).below AC hwx).cells.1,((AA J4).below AC hwx).cells.2.1⟩) HC (fun _ _ _ _ _ h=>h) ?_;intro z e pg pc m cv wx hLd;simp only[Y5,DW,pt,G3,Act.put,List.setIfInBounds_toArray,List.set_cons_zero,List.set_cons_succ];go_wp2_with fail
          go_meet
          case rel=>exact hLd
         case rest=>
          clear y0 y1 y2 y3 y4 y5 y6;obtain⟨w8,hw8⟩:∃x,x=wc:=⟨_,rfl⟩
          subst hw8;obtain⟨P,G,b8,csh,rfl,hbx,hbg,hOb,hBel,hPl,hGl,hbG,hcs⟩:=hcut;obtain⟨chr,hchr⟩:∃r,(if X= []/\Y≠ []then d else c)=r:=⟨_,rfl⟩
          obtain⟨ZS,hZS⟩:∃z,Cx L false++ [x+y]=z:=⟨_,rfl⟩
          rw[hZS]at hOb;have HZS:=AD hZS;have HCHR:=AD hchr;have hnP:∀k,At (some ⟨b8,0,none⟩) (nf+1) k->k≠P:=fun k hk=>hOb.row.notBox hbx hk;have hGP:G≠P:=S0 hbg hbx;have M4:=AD ((AA J4).below AC hBel);have M5:=AD ((AA J5).below AC hBel);obtain⟨x0,x1,x2,x3,x4,x5,x6⟩:=(AA M4).all;obtain⟨y0,y1,y2,y3,y4,y5,y6⟩:=(AA M5).all;obtain⟨z0,z1,z2,z3,z4,z5,z6⟩:=hbx.all;have HBX:=AD hbx;have HBG:=AD hbg;have HOB:=AD hOb;have HBEL:=AD hBel;clear hZS hchr hbx hbg hOb hBel;obtain⟨bc,hbc⟩:∃b,b=decide (p2=0/\0<q2):=⟨_,rfl⟩
          go_upto_region 25 with fail;go_cut[129] (fun v wx=>w8=wx/\v=.bool bc);case first=>as_aux_lemma=>
           by_cases h2:p2=0
           .by_cases h3:0<q2
            .have HZ:Hid (bc=true):=by show _=_;rw[hbc];simp[h2,h3]
             subst h2;clear hbc
             go_wp2
             go_meet
             case rel=>exact⟨rfl,by rw[AA HZ]⟩
            .have HZ:Hid (bc=false):=by show _=_;rw[hbc];simp[h3]
             obtain rfl:q2=0:=by omega
             subst h2;clear h3 hbc
             go_wp2
             go_meet
             case rel=>exact⟨rfl,by rw[AA HZ]⟩
           .have HZ:Hid (bc=false):=by show _=_;rw[hbc];simp[h2]
            have g1:((p2:Int)==0)=false:=by simp;omega
            clear hbc
            go_wp2
            go_meet
            case rel=>exact⟨rfl,by rw[AA HZ]⟩
          case rest=>
           obtain⟨rfl,rfl⟩:=hcut;have HBC:=AD hbc;clear hbc
           go_upto_if 129 with fail
           go_cut[] (fun wx=>Ai wx P chr (.slice (some ⟨b8,0,none⟩) (nf+1) csh) (.slice (some ⟨G,0,none⟩) 0 0)/\BA wx G []/\Bt wx w7.heap.size (some ⟨b8,0,none⟩) (nf+1) ZS/\Below w7.heap.size w7 wx);case first=>as_aux_lemma=>
            cases bc with
            |true=>
             have hb:=BB (AA HBC).symm;have HZ:Hid (d=chr):=by show _=_;rw[<-AA HCHR,AI ⟨(AA HXE).2 (by omega),fun e=>(AA HYE).1 e hb.2⟩]
             clear hb
             go_wp2
             go_meet
             case rel=>rw[<-AA HZ];exact⟨Xn (AA HBX),(AA HBG).other hGP _,(AA HOB).other (fun k hk=>hnP k hk) _,(AA HBEL).setCell (by simp<;>omega) _⟩
            |false=>
             have hb:=of_decide_eq_false (AA HBC).symm;have HZ:Hid (c=chr):=by show _=_;rw[<-AA HCHR,AH (fun h=>hb ⟨by have:=(AA HXE).1 h.1;omega,Nat.pos_of_ne_zero (fun e=>h.2 ((AA HYE).2 (by omega)))⟩)]
             clear hb
             go_wp2
             go_meet
             case rel=>rw[<-AA HZ];exact⟨AA HBX,AA HBG,AA HOB,AA HBEL⟩
           case rest=>
            clear x0 x1 x2 x3 x4 x5 x6 y0 y1 y2 y3 y4 y5 y6 z0 z1 z2 z3 z4 z5 z6 M4 M5 HBX HBG HOB HBEL;obtain⟨wk,hwk⟩:∃x,x=wc:=⟨_,rfl⟩
            subst hwk;obtain⟨hbx,hbg,hOb,hbk⟩:=hcut;have N4:=AD ((AA J4).below AC hbk);have N5:=AD ((AA J5).below AC hbk);have N6:=AD ((AA J6).below AC hbk);have HBK:=AD ((AA HB7).trans (hbk.mono (AA HB7).size));obtain⟨z0,z1,z2,z3,z4,z5,z6⟩:=hbx.all;have HBX:=AD hbx;have HBG:=AD hbg;have HOB:=AD hOb;have HLOW:=AD hbk;obtain⟨sb,hsb⟩:∃r,Am ZS=r:=⟨_,rfl⟩
            have HSB:=AD hsb;clear hsb hbx hbg hOb hbk;cases sb with
            |false=>
             have HS:Hid (BV c d sh dt sh' dt'=AT 7):=Tu (AA HR1) (AA HR2) (AA HEL) (AA HER) (AA HEX) (AA HEY) (AA HLE) (AA HFR) (AA HND) (by rw[AA HEx,AA HEy,Cl,AA HZS];exact AA HSB);go_upto_region 28 with(go_at_call 158;refine(Db _ _ _ ZS _ (AA HOB).row _ HSB).mono ?_;rintro e wq⟨rfl,hw⟩;obtain rfl:=hw.symm);go_wp2_with fail;refine(Aa _).mono ?_;rintro e w9⟨rfl,hb9⟩;obtain⟨q0,q1,q2,q3,q4,q5,q6⟩:=((AA N6).below AC hb9).all;have hB9:=AD ((AA HBK).trans (hb9.mono (AA HBK).size));clear hb9 N4 N5 N6 HBK
             go_wp2
             refine bodyPost_ret (v:=.tuple #[.agg #[.bool false,.slice none 0 0,.slice none 0 0],.int .i64 7]) (by simp[results,results125,go_sem,q0,q1,q2]) rfl ?_;rw[AA HS];exact⟨none,0,0,none,0,0,rfl,AP _ _,AP _ _,(((AA hB9).setCell (by simp<;>omega) _).setCell (by simp<;>omega) _).setCell (by simp<;>omega) _⟩
            |true=>
             obtain⟨Bn,hBn⟩:∃n:Nat,B=(n:Int):=⟨B.toNat,by have:=((AA HLI).take (L.length- 1)).bd.1;have e:AM (L.take (L.length- 1))=B:=AA HEB;omega⟩
             obtain⟨xn,hxn⟩:∃n:Nat,x=(n:Int):=⟨x.toNat,by omega⟩
             obtain⟨yn,hyn⟩:∃n:Nat,y=(n:Int):=⟨y.toNat,by omega⟩
             subst hBn;subst hxn;subst hyn;have HPX:Hid (Bn*xn=p2):=by
              show _=_;have h:=AA HLP;rw[Fu (l:=L) (by intro e;rw[e]at hL0';simp at hL0'),Bi,AA HEB,AA HEx]at h;simp[AM]at h;have:((Bn*xn:Nat):Int)=(p2:Int):=by rw[<-h];simp
              omega
             have HPY:Hid (Bn*yn=q2):=by
              show _=_;have h:=AA HRP;rw[Fu (l:=R) (by intro e;rw[e]at hR0';simp at hR0'),Bi,<-AA HFR,AA HEB,AA HEy]at h;simp[AM]at h;have:((Bn*yn:Nat):Int)=(q2:Int):=by rw[<-h];simp
              omega
             have hBb:Bn<=10000:=by have:=((AA HLI).take (L.length- 1)).bd.2;have e:AM (L.take (L.length- 1))=(Bn:Int):=AA HEB;omega
             have hp2:p2<=10000:=by have:=(AA HLI).bd.2;have:=AA HLP;omega
             have hq2:q2<=10000:=by have:=(AA HRI).bd.2;have:=AA HRP;omega
             have HS:Hid (BV c d sh dt sh' dt'=⟨chr,ZS,Hd X Y xn yn Bn,0⟩):=by show _=_;rw[Xk (AA HR1) (AA HR2) (AA HEL) (AA HER) (AA HEX) (AA HEY) (AA HLE) (AA HFR) (AA HND) (by rw[AA HEx,AA HEy,Cl,AA HZS];exact AA HSB),AA HEx,AA HEy,AA HEB,Cl,AA HZS,AA HCHR];simp
             have hGA:GO w7 P chr (some ⟨b8,0,none⟩) (nf+1) csh ZS [] 0 wk G 0:=⟨AA HBX,(AA HBG).owns hGl,AA HOB,hbG,AA HLOW,hPl⟩
             have HGA:=AD hGA;clear hGA;have hz7:=(AA HLOW).size;have hB7z:=(AA HB7).size;go_wp2_with(go_at_call 158;refine(Db _ _ _ ZS _ (AA HOB).row _ HSB).mono ?_;rintro e wq⟨rfl,hw⟩;obtain rfl:=hw.symm);clear z0 z1 z2 z3 z4 z5 z6 HBX HBG HOB N4 N5 N6 HBK;go_loopw[15] (fun i wr=>∃k g cap n,k<=Bn/\i=.int .i64 (k:Nat)/\Hid (GO w7 P chr (some ⟨b8,0,none⟩) (nf+1) csh ZS (Hd X Y xn yn k) n wr g cap)/\Hid (n<=k*(xn+yn))) (fun i _=>Bn- (intOf i).toNat);case atStart=>exact⟨0,G,0,0,AS _,rfl,HGA,AS _⟩
             case round=>
              obtain⟨k,g,cap,n,hk,rfl,hst,HN⟩:=hrel;have hst':=AA hst;by_cases hlt:k<Bn
              .obtain⟨hu1,hu2,hu3⟩:=Sv hlt (AA HPX) (AA HPY) (AA HN);have HNX:=AD (Xj (x:=xn) (y:=yn) (AA HN));have HK1:Hid (k+1<=Bn):=hlt;obtain⟨u,hu⟩:∃u,k*xn=u:=⟨_,rfl⟩
               obtain⟨t,ht⟩:∃t,k*yn=t:=⟨_,rfl⟩
               rw[hu]at hu1;rw[ht]at hu2;have HU:=AD hu;have HT:=AD ht;have hm1:IntKind.i64.wrap ((k:Int)*(xn:Int))=(u:Int):=by
                have:((k:Int)*(xn:Int))=(u:Int):=by rw[<-hu];simp
                rw[this,IntKind.wrap_i64];omega
               have hm2:IntKind.i64.wrap ((k:Int)*(yn:Int))=(t:Int):=by
                have:((k:Int)*(yn:Int))=(t:Int):=by rw[<-ht];simp
                rw[this,IntKind.wrap_i64];omega
               obtain⟨v,hv⟩:∃v,u+xn=v:=⟨_,rfl⟩
               obtain⟨r,hr⟩:∃r,t+yn=r:=⟨_,rfl⟩
               have ha1:IntKind.i64.wrap ((u:Int)+(xn:Int))=(v:Int):=by rw[IntKind.wrap_i64];omega
               have hb1:v<=e2:=by omega
               have hc1':u<=v:=by omega
               have hd1':v- u=xn:=by omega
               obtain⟨AX,hAX⟩:∃A,(if e2=u then some A2 else some (A2.add u))=some A:=by by_cases h:e2=u<;>simp[h]
               have ha2:IntKind.i64.wrap ((t:Int)+(yn:Int))=(r:Int):=by rw[IntKind.wrap_i64];omega
               have hb2:r<=f2:=by omega
               have hc2':t<=r:=by omega
               have hd2':r- t=yn:=by omega
               obtain⟨AY,hAY⟩:∃A,(if f2=t then some B2 else some (B2.add t))=some A:=by by_cases h:f2=t<;>simp[h]
               clear hu ht hv hr;have RX:=AD ((AA S2).below AC hst'.low);go_upto_region 32 with fail;go_cut[] (fun wx=>∃g' Ak,GO w7 P chr (some ⟨b8,0,none⟩) (nf+1) csh ZS (Hd X Y xn yn k++(X.drop u).take xn) (n+xn) wx g' Ak);case first=>as_aux_lemma=>
                refine UQ _ wr (by simp) P w.heap.size rfl rfl k xn u v rfl rfl hm1 ha1 g n cap ((Hd X Y xn yn k).map (Value.int .i64)) (((X.drop u).take xn).map (Value.int .i64)) A2 AX p2 e2 hb1 hc1' hd1' hAX (TL (AA HLX) hu1) (DQ _) (L3 hAX ((AA RX).below AC AG.drew) hu1 le3) w7.heap.size hst'.drew.owns (by omega) hst'.low.size (fun wx=>wx.cell? ⟨P,2,none⟩=some (.slice (some ⟨g,0,none⟩) n cap)/\wx.cell? ⟨w.heap.size,2,none⟩=some (.slice (some A2) p2 e2)/\wx.frozen? ⟨P,2,none⟩=false) (fun wx h=>h) (hst'.drew.holds ((AA J4).below AC hst'.drew.low)) (fun wx hg=>Mn (hst'.drew.grew hg).1 ((AA J4).below AC (hst'.drew.grew hg).2)) (fun _ _ _ _ _ h=>h) ?_;intro g' Ak w6 BL An hat;obtain⟨_,hst6⟩:=hst'.drew.push BL An hat;simp only[Rx,Act.put,List.setIfInBounds_toArray,List.set_cons_zero,List.set_cons_succ];go_wp2_with fail
                go_meet
                case rel=>exact⟨g',Ak,hst6⟩
               case rest=>
                obtain⟨wp,hwp⟩:∃x,x=wc:=⟨_,rfl⟩
                subst hwp;obtain⟨g1,cap1,hst1⟩:=hcut;clear RX hst hst';have RY:=AD ((AA S4).below AC hst1.low);go_wp2_with fail;refine UP _ wp (by simp) P (w.heap.size+1) rfl rfl k yn t r rfl rfl hm2 ha2 g1 (n+xn) cap1 ((Hd X Y xn yn k++(X.drop u).take xn).map (Value.int .i64)) (((Y.drop t).take yn).map (Value.int .i64)) B2 AY q2 f2 hb2 hc2' hd2' hAY (TL (AA HLY) hu2) (DQ _) (L3 hAY ((AA RY).below AC AG.drew) hu2 le4) w7.heap.size hst1.drew.owns (by omega) hst1.low.size (fun wx=>wx.cell? ⟨P,2,none⟩=some (.slice (some ⟨g1,0,none⟩) (n+xn) cap1)/\wx.cell? ⟨w.heap.size+1,2,none⟩=some (.slice (some B2) q2 f2)/\wx.frozen? ⟨P,2,none⟩=false) (fun wx h=>h) (hst1.drew.holds ((AA J5).below AC hst1.drew.low)) (fun wx hg=>Mn (hst1.drew.grew hg).1 ((AA J5).below AC (hst1.drew.grew hg).2)) (fun _ _ _ _ _ h=>h) ?_;intro g' Ak w6 BL An hat;obtain⟨_,hst6⟩:=hst1.drew.push BL An hat;have HST:Hid (GO w7 P chr (some ⟨b8,0,none⟩) (nf+1) csh ZS (Hd X Y xn yn (k+1)) (n+xn+yn) (w6.setCell ⟨P,2,none⟩ (.slice (some ⟨g',0,none⟩) (n+xn+yn) Ak)) g' Ak):=by show GO _ _ _ _ _ _ _ (Hd X Y xn yn k++(X.drop (k*xn)).take xn++(Y.drop (k*yn)).take yn) _ _ _ _;rw[AA HU,AA HT];exact hst6
                clear hst1 hst6 RY BL An hat;simp only[Rw,Act.put,List.setIfInBounds_toArray,List.set_cons_zero,List.set_cons_succ];go_wp2_with fail;go_roundw;case rel=>exact⟨k+1,g',Ak,n+xn+yn,AA HK1,by go_num,HST,HNX⟩
                case measure=>have hk1:=AA HK1;simp[intOf];omega
              .have hkB:k=Bn:=by omega
               subst hkB;have Bq:=hst'.len;have hn2:n<=20000:=by have h1:=AA HN;rw[Nat.mul_add,AA HPX,AA HPY]at h1;omega
               obtain⟨ad',cd,hv,hD⟩:=Bt.of_owns hst'.owns (by omega);cases hv;have G6:=AD ((AA J6).below AC hst'.low);obtain⟨q0,q1',q2',q3,q4,q5,q6⟩:=(AA G6).all;obtain⟨z0,z1,z2,z3,z4,z5,z6⟩:=hst'.box.all;have HW6:=AD ((AA HB7).trans (hst'.low.mono hB7z));have HO6:=AD hst'.own;have HD:=AD hD;clear hst hst' hD
               go_wp2
               have hx:=(AA G6).sets (c':=chr) (u1:=.slice (some ⟨b8,0,none⟩) (nf+1) csh) (u2:=.slice (some ⟨g,0,none⟩) n cap);obtain⟨r0,r1,r2,_,_,_⟩:=hx.all;refine bodyPost_ret (v:=.tuple #[.agg #[.bool chr,.slice (some ⟨b8,0,none⟩) (nf+1) csh,.slice (some ⟨g,0,none⟩) n cap],.int .i64 0]) (by simp[results,results125,go_sem,r0,r1,r2]) rfl ?_;rw[AA HS];exact⟨some ⟨b8,0,none⟩,nf+1,csh,some ⟨g,0,none⟩,n,cap,rfl,(AA HO6).row.sets (AA G6) _ _ _,(AA HD).row.sets (AA G6) _ _ _,(((AA HW6).setCell (by simp<;>omega) _).setCell (by simp<;>omega) _).setCell (by simp<;>omega) _⟩
def X4(op:Int)(ho:1<=op/\op<=16)(c d:Bool)(a1 a2 b1 b2:Addr)(n1 n2 m1 m2 c1 c2 d1 d2:Nat)(sh dt sh' dt':List Int)(w:World)(h1:AO w (some a1) n1 sh)(h2:AO w (some a2) n2 dt)(k1:AO w (some b1) m1 sh')(k2:AO w (some b2) m2 dt')(hok:AJ c sh dt=true)(hok':AJ d sh' dt'=true):Calls prog 42 #[.int .i64 op,.agg #[.bool c,.slice (some a1) n1 c1,.slice (some a2) n2 c2],.agg #[.bool d,.slice (some b1) m1 d1,.slice (some b2) m2 d2]] w (CJ w (By op c d sh dt sh' dt')):=by
 have HM:=AD (XT hok hok' ho.1 ho.2);have g1:¬ op<1:=by omega
 have g2:¬ 33<op:=by omega
 have g3:decide (op<=16)=true:=by simp;omega
 clear ho;have H1:=AD h1;have H2:=AD h2;have J1:=AD k1;have J2:=AD k2;have HR:Hid (AJ c sh dt=true):=hok;have HR':Hid (AJ d sh' dt'=true):=hok';clear h1 h2 k1 k2 hok hok';obtain⟨W0,hW0⟩:∃W0,W0=((w.alloc (.cells #[.bool c,.slice (some a1) n1 c1,.slice (some a2) n2 c2] 25)).alloc (.cells #[.bool d,.slice (some b1) m1 d1,.slice (some b2) m2 d2] 25)).alloc (.cells #[.bool false,.slice none 0 0,.slice none 0 0] 25):=⟨_,rfl⟩
 obtain⟨B4,B5,B6,hB0⟩:=Az (w:=w) (c:=c) (v1:=.slice (some a1) n1 c1) (v2:=.slice (some a2) n2 c2) (d:=d) (u1:=.slice (some b1) m1 d1) (u2:=.slice (some b2) m2 d2) AG;rw[<-hW0]at B4 B5 B6 hB0;have D4:=AD B4;have D5:=AD B5;have D6:=AD B6;have HB0:=AD hB0;obtain⟨x0,x1,x2,x3,x4,x5,x6⟩:=B4.all;obtain⟨y0,y1,y2,y3,y4,y5,y6⟩:=B5.all;have hz6:=(AA D6).lt;have hca:=A0 c (some a1) (some a2) n1 n2 c1 c2 sh dt W0 ((AA H1).below AC hB0) ((AA H2).below AC hB0) true HR;rw[hW0]at hca x0 x1 x2 x3 x4 x5 x6 y0 y1 y2 y3 y4 y5 y6;clear B4 B5 B6 hB0;go_enter func42,ntmps42;go_upto_region 4 with(first|(have hz:=HB2;go_at_call_of 10 (Value.slice (some b1) m1 d1);refine(A0 d (some b1) (some b2) m1 m2 d1 d2 sh' dt' _ ((AA J1).below AC (AA HBa)) ((AA J2).below AC (AA HBa)) true HR').mono ?_;rintro e w3⟨rfl,hb3⟩;have HB3:=AD ((AA HB2).trans (hb3.mono (AA HB2).size));have E4:=AD ((AA D4).below AC (AA HB3));have E5:=AD ((AA D5).below AC (AA HB3));clear x0 x1 x2 x3 x4 x5 x6 y0 y1 y2 y3 y4 y5 y6;obtain⟨x0,x1,x2,x3,x4,x5,x6⟩:=(AA E4).all;obtain⟨y0,y1,y2,y3,y4,y5,y6⟩:=(AA E5).all;clear hb3 hz)|(go_at_call_of 10 (Value.slice (some a1) n1 c1);refine hca.mono ?_;rintro e w2⟨rfl,hb2⟩;rw[<-hW0]at hb2;have HB2:=AD hb2;have C5:=AD ((AA D5).below AC hb2);have HBa:=AD ((AA HB0).trans (hb2.mono (AA HB0).size));clear y0 y1 y2 y3 y4 y5 y6;obtain⟨y0,y1,y2,y3,y4,y5,y6⟩:=(AA C5).all;clear hb2));have E6:=AD ((AA D6).below AC (AA HB3));have HB:=AD ((AA HB0).trans ((AA HB3).mono (AA HB0).size));clear D4 D5 D6 HB0 HB2 HB3 C5 HBa hW0 hz6 W0 hca;have hz6:=(AA E6).lt;have L1:=AD ((AA H1).below AC (AA HB));have L2:=AD ((AA H2).below AC (AA HB));have P1:=AD ((AA J1).below AC (AA HB));have P2:=AD ((AA J2).below AC (AA HB));obtain⟨rc,rsh,rdt,rp,hr⟩:∃rc rsh rdt rp,B8 op c d sh dt sh' dt'=⟨rc,rsh,rdt,rp⟩:=⟨_,_,_,_,rfl⟩
 have hcl:=RU op c d (some a1) (some a2) (some b1) (some b2) n1 n2 m1 m2 c1 c2 d1 d2 sh dt sh' dt' w3 (AA L1) (AA L2) (AA P1) (AA P2);rw[hr]at hcl;have HS:Hid (By op c d sh dt sh' dt'=⟨rc,rsh,rdt,rp⟩):=by rw[<-hr];exact AA HM
 clear hr HM;go_wp2_with(go_at_call 108;refine hcl.mono ?_;rintro e w4⟨e1,k1,f1,e2,k2,f2,rfl,r1,r2,hb4⟩;have R1:=AD r1;have R2:=AD r2;have HX:=AD ((AA E6).below AC hb4);have HBX:=AD ((AA HB).trans (hb4.mono (AA HB).size));simp only;obtain⟨q0,q1,q2,q3,q4,q5,q6⟩:=(AA HX).all;clear r1 r2 hb4);have hx:=(AA HX).sets (c':=rc) (u1:=.slice e1 k1 f1) (u2:=.slice e2 k2 f2);obtain⟨s0,s1,s2,_,_,_⟩:=hx.all;refine bodyPost_ret (v:=.tuple #[.agg #[.bool rc,.slice e1 k1 f1,.slice e2 k2 f2],.int .i64 rp]) (by simp[results,results42,go_sem,s0,s1,s2]) rfl ?_;rw[AA HS];exact⟨_,_,_,_,_,_,rfl,(AA R1).sets (AA HX) _ _ _,(AA R2).sets (AA HX) _ _ _,(((AA HBX).setCell (by simp<;>omega) _).setCell (by simp<;>omega) _).setCell (by simp<;>omega) _⟩
def Y3(op:Int)(ho:op=17\/op=26\/op=27\/op=33)(c d:Bool)(a1 a2 b1 b2:Addr)(n1 n2 m1 m2 c1 c2 d1 d2:Nat)(sh dt sh' dt':List Int)(w:World)(h1:AO w (some a1) n1 sh)(h2:AO w (some a2) n2 dt)(k1:AO w (some b1) m1 sh')(k2:AO w (some b2) m2 dt')(hok:AJ c sh dt=true)(hok':AJ d sh' dt'=true):Calls prog 42 #[.int .i64 op,.agg #[.bool c,.slice (some a1) n1 c1,.slice (some a2) n2 c2],.agg #[.bool d,.slice (some b1) m1 d1,.slice (some b2) m2 d2]] w (CJ w (By op c d sh dt sh' dt')):=by
 have HS:Hid (By op c d sh dt sh' dt'=AT 1):=by show _=_;rw[DO hok hok' (by omega)];simp only[show ¬ op=18 by omega,show ¬ op=19 by omega,show ¬ op=20 by omega,show ¬ op=21 by omega,show ¬ op=22 by omega,show ¬ op=23 by omega,show ¬ op=24 by omega,show ¬ op=25 by omega,show ¬ op=28 by omega,show ¬ op=29 by omega,show ¬ op=30 by omega,show ¬ op=31 by omega,show ¬ op=32 by omega,Gh]
 have g1:¬ op<1:=by omega
 have g2:¬ 33<op:=by omega
 have g3:¬ op<=16:=by omega
 have e18:(op==18)=false:=by simp;omega
 have e19:(op==19)=false:=by simp;omega
 have e20:(op==20)=false:=by simp;omega
 have e21:(op==21)=false:=by simp;omega
 have e22:(op==22)=false:=by simp;omega
 have e23:(op==23)=false:=by simp;omega
 have e24:(op==24)=false:=by simp;omega
 have e25:(op==25)=false:=by simp;omega
 have e28:(op==28)=false:=by simp;omega
 have e29:(op==29)=false:=by simp;omega
 have e30:(op==30)=false:=by simp;omega
 have e31:(op==31)=false:=by simp;omega
 have e32:(op==32)=false:=by simp;omega
 clear ho;have H1:=AD h1;have H2:=AD h2;have J1:=AD k1;have J2:=AD k2;have HR:Hid (AJ c sh dt=true):=hok;have HR':Hid (AJ d sh' dt'=true):=hok';clear h1 h2 k1 k2 hok hok';obtain⟨W0,hW0⟩:∃W0,W0=((w.alloc (.cells #[.bool c,.slice (some a1) n1 c1,.slice (some a2) n2 c2] 25)).alloc (.cells #[.bool d,.slice (some b1) m1 d1,.slice (some b2) m2 d2] 25)).alloc (.cells #[.bool false,.slice none 0 0,.slice none 0 0] 25):=⟨_,rfl⟩
 obtain⟨B4,B5,B6,hB0⟩:=Az (w:=w) (c:=c) (v1:=.slice (some a1) n1 c1) (v2:=.slice (some a2) n2 c2) (d:=d) (u1:=.slice (some b1) m1 d1) (u2:=.slice (some b2) m2 d2) AG;rw[<-hW0]at B4 B5 B6 hB0;have D4:=AD B4;have D5:=AD B5;have D6:=AD B6;have HB0:=AD hB0;obtain⟨x0,x1,x2,x3,x4,x5,x6⟩:=B4.all;obtain⟨y0,y1,y2,y3,y4,y5,y6⟩:=B5.all;have hz6:=(AA D6).lt;have hca:=A0 c (some a1) (some a2) n1 n2 c1 c2 sh dt W0 ((AA H1).below AC hB0) ((AA H2).below AC hB0) true HR;rw[hW0]at hca x0 x1 x2 x3 x4 x5 x6 y0 y1 y2 y3 y4 y5 y6;clear B4 B5 B6 hB0;go_enter func42,ntmps42;go_upto_region 27 with(first|(have hz:=HB2;go_at_call_of 10 (Value.slice (some b1) m1 d1);refine(A0 d (some b1) (some b2) m1 m2 d1 d2 sh' dt' _ ((AA J1).below AC (AA HBa)) ((AA J2).below AC (AA HBa)) true HR').mono ?_;rintro e w3⟨rfl,hb3⟩;have HB3:=AD ((AA HB2).trans (hb3.mono (AA HB2).size));have E4:=AD ((AA D4).below AC (AA HB3));have E5:=AD ((AA D5).below AC (AA HB3));clear x0 x1 x2 x3 x4 x5 x6 y0 y1 y2 y3 y4 y5 y6;obtain⟨x0,x1,x2,x3,x4,x5,x6⟩:=(AA E4).all;obtain⟨y0,y1,y2,y3,y4,y5,y6⟩:=(AA E5).all;clear hb3 hz)|(go_at_call_of 10 (Value.slice (some a1) n1 c1);refine hca.mono ?_;rintro e w2⟨rfl,hb2⟩;rw[<-hW0]at hb2;have HB2:=AD hb2;have C5:=AD ((AA D5).below AC hb2);have HBa:=AD ((AA HB0).trans (hb2.mono (AA HB0).size));clear y0 y1 y2 y3 y4 y5 y6;obtain⟨y0,y1,y2,y3,y4,y5,y6⟩:=(AA C5).all;clear hb2));have E6:=AD ((AA D6).below AC (AA HB3));have HB:=AD ((AA HB0).trans ((AA HB3).mono (AA HB0).size));clear D4 D5 D6 HB0 HB2 HB3 C5 HBa hW0 hz6 W0 hca;have hz6:=(AA E6).lt;have L1:=AD ((AA H1).below AC (AA HB));have L2:=AD ((AA H2).below AC (AA HB));have P1:=AD ((AA J1).below AC (AA HB));have P2:=AD ((AA J2).below AC (AA HB));go_wp2_with fail;refine(Aa _).mono ?_;rintro e w9⟨rfl,hb9⟩;obtain⟨q0,q1,q2,q3,q4,q5,q6⟩:=((AA E6).below AC hb9).all;have hB9:=AD ((AA HB).trans (hb9.mono (AA HB).size));clear hb9 E4 E5 E6 HB x0 x1 x2 x3 x4 x5 x6 y0 y1 y2 y3 y4 y5 y6
 go_wp2
 refine bodyPost_ret (v:=.tuple #[.agg #[.bool false,.slice none 0 0,.slice none 0 0],.int .i64 1]) (by simp[results,results42,go_sem,q0,q1,q2]) rfl ?_;rw[AA HS];exact⟨none,0,0,none,0,0,rfl,AP _ _,AP _ _,(((AA hB9).setCell (by simp<;>omega) _).setCell (by simp<;>omega) _).setCell (by simp<;>omega) _⟩
def VO(op:Int)(c d:Bool)(a1 a2 b1 b2:Addr)(n1 n2 m1 m2 c1 c2 d1 d2:Nat)(sh dt sh' dt':List Int)(w:World)(h1:AO w (some a1) n1 sh)(h2:AO w (some a2) n2 dt)(k1:AO w (some b1) m1 sh')(k2:AO w (some b2) m2 dt')(hok:AJ c sh dt=false):Calls prog 42 #[.int .i64 op,.agg #[.bool c,.slice (some a1) n1 c1,.slice (some a2) n2 c2],.agg #[.bool d,.slice (some b1) m1 d1,.slice (some b2) m2 d2]] w (CJ w (By op c d sh dt sh' dt')):=by
 have HS:Hid (By op c d sh dt sh' dt'=AT 3):=Iz (by rw[hok];simp);have H1:=AD h1;have H2:=AD h2;have J1:=AD k1;have J2:=AD k2;have HR:Hid (AJ c sh dt=false):=hok;clear h1 h2 k1 k2 hok;obtain⟨W0,hW0⟩:∃W0,W0=((w.alloc (.cells #[.bool c,.slice (some a1) n1 c1,.slice (some a2) n2 c2] 25)).alloc (.cells #[.bool d,.slice (some b1) m1 d1,.slice (some b2) m2 d2] 25)).alloc (.cells #[.bool false,.slice none 0 0,.slice none 0 0] 25):=⟨_,rfl⟩
 obtain⟨B4,B5,B6,hB0⟩:=Az (w:=w) (c:=c) (v1:=.slice (some a1) n1 c1) (v2:=.slice (some a2) n2 c2) (d:=d) (u1:=.slice (some b1) m1 d1) (u2:=.slice (some b2) m2 d2) AG;rw[<-hW0]at B4 B5 B6 hB0;have D4:=AD B4;have D5:=AD B5;have D6:=AD B6;have HB0:=AD hB0;obtain⟨x0,x1,x2,x3,x4,x5,x6⟩:=B4.all;obtain⟨y0,y1,y2,y3,y4,y5,y6⟩:=B5.all;have hz6:=(AA D6).lt;have hca:=A0 c (some a1) (some a2) n1 n2 c1 c2 sh dt W0 ((AA H1).below AC hB0) ((AA H2).below AC hB0) false HR;rw[hW0]at hca x0 x1 x2 x3 x4 x5 x6 y0 y1 y2 y3 y4 y5 y6;clear B4 B5 B6 hB0;go_enter func42,ntmps42;go_upto_region 2 with(first|(go_at_call_of 10 (Value.slice (some a1) n1 c1);refine hca.mono ?_;rintro e w2⟨rfl,hb2⟩;rw[<-hW0]at hb2;have HB2:=AD hb2;have C5:=AD ((AA D5).below AC hb2);have HBa:=AD ((AA HB0).trans (hb2.mono (AA HB0).size));clear y0 y1 y2 y3 y4 y5 y6;obtain⟨y0,y1,y2,y3,y4,y5,y6⟩:=(AA C5).all;clear hb2));obtain⟨w3,hw3⟩:∃x,x=w2:=⟨_,rfl⟩
 subst hw3;have HB:=HBa;have E6:=AD ((AA D6).below AC (AA HB2));clear D4 D5 D6 HB0 HB2 C5 x0 x1 x2 x3 x4 x5 x6 y0 y1 y2 y3 y4 y5 y6 hW0 hz6 W0 hca HBa;have hz6:=(AA E6).lt;go_wp2_with fail;refine(Aa _).mono ?_;rintro e w9⟨rfl,hb9⟩;obtain⟨q0,q1,q2,q3,q4,q5,q6⟩:=((AA E6).below AC hb9).all;have hB9:=AD ((AA HB).trans (hb9.mono (AA HB).size));clear hb9 E6 HB
 go_wp2
 refine bodyPost_ret (v:=.tuple #[.agg #[.bool false,.slice none 0 0,.slice none 0 0],.int .i64 3]) (by simp[results,results42,go_sem,q0,q1,q2]) rfl ?_;rw[AA HS];exact⟨none,0,0,none,0,0,rfl,AP _ _,AP _ _,(((AA hB9).setCell (by simp<;>omega) _).setCell (by simp<;>omega) _).setCell (by simp<;>omega) _⟩
def VN(op:Int)(c d:Bool)(a1 a2 b1 b2:Addr)(n1 n2 m1 m2 c1 c2 d1 d2:Nat)(sh dt sh' dt':List Int)(w:World)(h1:AO w (some a1) n1 sh)(h2:AO w (some a2) n2 dt)(k1:AO w (some b1) m1 sh')(k2:AO w (some b2) m2 dt')(hok:AJ c sh dt=true)(hok':AJ d sh' dt'=false):Calls prog 42 #[.int .i64 op,.agg #[.bool c,.slice (some a1) n1 c1,.slice (some a2) n2 c2],.agg #[.bool d,.slice (some b1) m1 d1,.slice (some b2) m2 d2]] w (CJ w (By op c d sh dt sh' dt')):=by
 have HS:Hid (By op c d sh dt sh' dt'=AT 3):=Iz (by rw[hok'];simp);have H1:=AD h1;have H2:=AD h2;have J1:=AD k1;have J2:=AD k2;have HR:Hid (AJ c sh dt=true):=hok;have HR':Hid (AJ d sh' dt'=false):=hok';clear h1 h2 k1 k2 hok hok';obtain⟨W0,hW0⟩:∃W0,W0=((w.alloc (.cells #[.bool c,.slice (some a1) n1 c1,.slice (some a2) n2 c2] 25)).alloc (.cells #[.bool d,.slice (some b1) m1 d1,.slice (some b2) m2 d2] 25)).alloc (.cells #[.bool false,.slice none 0 0,.slice none 0 0] 25):=⟨_,rfl⟩
 obtain⟨B4,B5,B6,hB0⟩:=Az (w:=w) (c:=c) (v1:=.slice (some a1) n1 c1) (v2:=.slice (some a2) n2 c2) (d:=d) (u1:=.slice (some b1) m1 d1) (u2:=.slice (some b2) m2 d2) AG;rw[<-hW0]at B4 B5 B6 hB0;have D4:=AD B4;have D5:=AD B5;have D6:=AD B6;have HB0:=AD hB0;obtain⟨x0,x1,x2,x3,x4,x5,x6⟩:=B4.all;obtain⟨y0,y1,y2,y3,y4,y5,y6⟩:=B5.all;have hz6:=(AA D6).lt;have hca:=A0 c (some a1) (some a2) n1 n2 c1 c2 sh dt W0 ((AA H1).below AC hB0) ((AA H2).below AC hB0) true HR;rw[hW0]at hca x0 x1 x2 x3 x4 x5 x6 y0 y1 y2 y3 y4 y5 y6;clear B4 B5 B6 hB0;go_enter func42,ntmps42;go_upto_region 2 with(first|(have hz:=HB2;go_at_call_of 10 (Value.slice (some b1) m1 d1);refine(A0 d (some b1) (some b2) m1 m2 d1 d2 sh' dt' _ ((AA J1).below AC (AA HBa)) ((AA J2).below AC (AA HBa)) false HR').mono ?_;rintro e w3⟨rfl,hb3⟩;have HB3:=AD ((AA HB2).trans (hb3.mono (AA HB2).size));have E4:=AD ((AA D4).below AC (AA HB3));have E5:=AD ((AA D5).below AC (AA HB3));clear x0 x1 x2 x3 x4 x5 x6 y0 y1 y2 y3 y4 y5 y6;obtain⟨x0,x1,x2,x3,x4,x5,x6⟩:=(AA E4).all;obtain⟨y0,y1,y2,y3,y4,y5,y6⟩:=(AA E5).all;clear hb3 hz)|(go_at_call_of 10 (Value.slice (some a1) n1 c1);refine hca.mono ?_;rintro e w2⟨rfl,hb2⟩;rw[<-hW0]at hb2;have HB2:=AD hb2;have C5:=AD ((AA D5).below AC hb2);have HBa:=AD ((AA HB0).trans (hb2.mono (AA HB0).size));clear y0 y1 y2 y3 y4 y5 y6;obtain⟨y0,y1,y2,y3,y4,y5,y6⟩:=(AA C5).all;clear hb2));have E6:=AD ((AA D6).below AC (AA HB3));have HB:=AD ((AA HB0).trans ((AA HB3).mono (AA HB0).size));clear D4 D5 D6 HB0 HB2 HB3 C5 HBa hW0 hz6 W0 hca;have hz6:=(AA E6).lt;have L1:=AD ((AA H1).below AC (AA HB));have L2:=AD ((AA H2).below AC (AA HB));have P1:=AD ((AA J1).below AC (AA HB));have P2:=AD ((AA J2).below AC (AA HB));go_wp2_with fail;refine(Aa _).mono ?_;rintro e w9⟨rfl,hb9⟩;obtain⟨q0,q1,q2,q3,q4,q5,q6⟩:=((AA E6).below AC hb9).all;have hB9:=AD ((AA HB).trans (hb9.mono (AA HB).size));clear hb9 E4 E5 E6 HB x0 x1 x2 x3 x4 x5 x6 y0 y1 y2 y3 y4 y5 y6
 go_wp2
 refine bodyPost_ret (v:=.tuple #[.agg #[.bool false,.slice none 0 0,.slice none 0 0],.int .i64 3]) (by simp[results,results42,go_sem,q0,q1,q2]) rfl ?_;rw[AA HS];exact⟨none,0,0,none,0,0,rfl,AP _ _,AP _ _,(((AA hB9).setCell (by simp<;>omega) _).setCell (by simp<;>omega) _).setCell (by simp<;>omega) _⟩
def X5(op:Int)(ho:op<1)(c d:Bool)(a1 a2 b1 b2:Addr)(n1 n2 m1 m2 c1 c2 d1 d2:Nat)(sh dt sh' dt':List Int)(w:World)(h1:AO w (some a1) n1 sh)(h2:AO w (some a2) n2 dt)(k1:AO w (some b1) m1 sh')(k2:AO w (some b2) m2 dt')(hok:AJ c sh dt=true)(hok':AJ d sh' dt'=true):Calls prog 42 #[.int .i64 op,.agg #[.bool c,.slice (some a1) n1 c1,.slice (some a2) n2 c2],.agg #[.bool d,.slice (some b1) m1 d1,.slice (some b2) m2 d2]] w (CJ w (By op c d sh dt sh' dt')):=by
 have HS:Hid (By op c d sh dt sh' dt'=AT 3):=Iz (by omega);have g1:decide (op<1)=true:=by simpa using ho
 clear ho;have H1:=AD h1;have H2:=AD h2;have J1:=AD k1;have J2:=AD k2;have HR:Hid (AJ c sh dt=true):=hok;have HR':Hid (AJ d sh' dt'=true):=hok';clear h1 h2 k1 k2 hok hok';obtain⟨W0,hW0⟩:∃W0,W0=((w.alloc (.cells #[.bool c,.slice (some a1) n1 c1,.slice (some a2) n2 c2] 25)).alloc (.cells #[.bool d,.slice (some b1) m1 d1,.slice (some b2) m2 d2] 25)).alloc (.cells #[.bool false,.slice none 0 0,.slice none 0 0] 25):=⟨_,rfl⟩
 obtain⟨B4,B5,B6,hB0⟩:=Az (w:=w) (c:=c) (v1:=.slice (some a1) n1 c1) (v2:=.slice (some a2) n2 c2) (d:=d) (u1:=.slice (some b1) m1 d1) (u2:=.slice (some b2) m2 d2) AG;rw[<-hW0]at B4 B5 B6 hB0;have D4:=AD B4;have D5:=AD B5;have D6:=AD B6;have HB0:=AD hB0;obtain⟨x0,x1,x2,x3,x4,x5,x6⟩:=B4.all;obtain⟨y0,y1,y2,y3,y4,y5,y6⟩:=B5.all;have hz6:=(AA D6).lt;have hca:=A0 c (some a1) (some a2) n1 n2 c1 c2 sh dt W0 ((AA H1).below AC hB0) ((AA H2).below AC hB0) true HR;rw[hW0]at hca x0 x1 x2 x3 x4 x5 x6 y0 y1 y2 y3 y4 y5 y6;clear B4 B5 B6 hB0;go_enter func42,ntmps42;go_upto_region 2 with(first|(have hz:=HB2;go_at_call_of 10 (Value.slice (some b1) m1 d1);refine(A0 d (some b1) (some b2) m1 m2 d1 d2 sh' dt' _ ((AA J1).below AC (AA HBa)) ((AA J2).below AC (AA HBa)) true HR').mono ?_;rintro e w3⟨rfl,hb3⟩;have HB3:=AD ((AA HB2).trans (hb3.mono (AA HB2).size));have E4:=AD ((AA D4).below AC (AA HB3));have E5:=AD ((AA D5).below AC (AA HB3));clear x0 x1 x2 x3 x4 x5 x6 y0 y1 y2 y3 y4 y5 y6;obtain⟨x0,x1,x2,x3,x4,x5,x6⟩:=(AA E4).all;obtain⟨y0,y1,y2,y3,y4,y5,y6⟩:=(AA E5).all;clear hb3 hz)|(go_at_call_of 10 (Value.slice (some a1) n1 c1);refine hca.mono ?_;rintro e w2⟨rfl,hb2⟩;rw[<-hW0]at hb2;have HB2:=AD hb2;have C5:=AD ((AA D5).below AC hb2);have HBa:=AD ((AA HB0).trans (hb2.mono (AA HB0).size));clear y0 y1 y2 y3 y4 y5 y6;obtain⟨y0,y1,y2,y3,y4,y5,y6⟩:=(AA C5).all;clear hb2));have E6:=AD ((AA D6).below AC (AA HB3));have HB:=AD ((AA HB0).trans ((AA HB3).mono (AA HB0).size));clear D4 D5 D6 HB0 HB2 HB3 C5 HBa hW0 hz6 W0 hca;have hz6:=(AA E6).lt;have L1:=AD ((AA H1).below AC (AA HB));have L2:=AD ((AA H2).below AC (AA HB));have P1:=AD ((AA J1).below AC (AA HB));have P2:=AD ((AA J2).below AC (AA HB));go_wp2_with fail;refine(Aa _).mono ?_;rintro e w9⟨rfl,hb9⟩;obtain⟨q0,q1,q2,q3,q4,q5,q6⟩:=((AA E6).below AC hb9).all;have hB9:=AD ((AA HB).trans (hb9.mono (AA HB).size));clear hb9 E4 E5 E6 HB x0 x1 x2 x3 x4 x5 x6 y0 y1 y2 y3 y4 y5 y6
 go_wp2
 refine bodyPost_ret (v:=.tuple #[.agg #[.bool false,.slice none 0 0,.slice none 0 0],.int .i64 3]) (by simp[results,results42,go_sem,q0,q1,q2]) rfl ?_;rw[AA HS];exact⟨none,0,0,none,0,0,rfl,AP _ _,AP _ _,(((AA hB9).setCell (by simp<;>omega) _).setCell (by simp<;>omega) _).setCell (by simp<;>omega) _⟩
def VM(op:Int)(ho:33<op)(c d:Bool)(a1 a2 b1 b2:Addr)(n1 n2 m1 m2 c1 c2 d1 d2:Nat)(sh dt sh' dt':List Int)(w:World)(h1:AO w (some a1) n1 sh)(h2:AO w (some a2) n2 dt)(k1:AO w (some b1) m1 sh')(k2:AO w (some b2) m2 dt')(hok:AJ c sh dt=true)(hok':AJ d sh' dt'=true):Calls prog 42 #[.int .i64 op,.agg #[.bool c,.slice (some a1) n1 c1,.slice (some a2) n2 c2],.agg #[.bool d,.slice (some b1) m1 d1,.slice (some b2) m2 d2]] w (CJ w (By op c d sh dt sh' dt')):=by
 have HS:Hid (By op c d sh dt sh' dt'=AT 3):=Iz (by omega);have g1:¬ op<1:=by omega
 have g2:decide (33<op)=true:=by simpa using ho
 clear ho;have H1:=AD h1;have H2:=AD h2;have J1:=AD k1;have J2:=AD k2;have HR:Hid (AJ c sh dt=true):=hok;have HR':Hid (AJ d sh' dt'=true):=hok';clear h1 h2 k1 k2 hok hok';obtain⟨W0,hW0⟩:∃W0,W0=((w.alloc (.cells #[.bool c,.slice (some a1) n1 c1,.slice (some a2) n2 c2] 25)).alloc (.cells #[.bool d,.slice (some b1) m1 d1,.slice (some b2) m2 d2] 25)).alloc (.cells #[.bool false,.slice none 0 0,.slice none 0 0] 25):=⟨_,rfl⟩
 obtain⟨B4,B5,B6,hB0⟩:=Az (w:=w) (c:=c) (v1:=.slice (some a1) n1 c1) (v2:=.slice (some a2) n2 c2) (d:=d) (u1:=.slice (some b1) m1 d1) (u2:=.slice (some b2) m2 d2) AG;rw[<-hW0]at B4 B5 B6 hB0;have D4:=AD B4;have D5:=AD B5;have D6:=AD B6;have HB0:=AD hB0;obtain⟨x0,x1,x2,x3,x4,x5,x6⟩:=B4.all;obtain⟨y0,y1,y2,y3,y4,y5,y6⟩:=B5.all;have hz6:=(AA D6).lt;have hca:=A0 c (some a1) (some a2) n1 n2 c1 c2 sh dt W0 ((AA H1).below AC hB0) ((AA H2).below AC hB0) true HR;rw[hW0]at hca x0 x1 x2 x3 x4 x5 x6 y0 y1 y2 y3 y4 y5 y6;clear B4 B5 B6 hB0;go_enter func42,ntmps42;go_upto_region 2 with(first|(have hz:=HB2;go_at_call_of 10 (Value.slice (some b1) m1 d1);refine(A0 d (some b1) (some b2) m1 m2 d1 d2 sh' dt' _ ((AA J1).below AC (AA HBa)) ((AA J2).below AC (AA HBa)) true HR').mono ?_;rintro e w3⟨rfl,hb3⟩;have HB3:=AD ((AA HB2).trans (hb3.mono (AA HB2).size));have E4:=AD ((AA D4).below AC (AA HB3));have E5:=AD ((AA D5).below AC (AA HB3));clear x0 x1 x2 x3 x4 x5 x6 y0 y1 y2 y3 y4 y5 y6;obtain⟨x0,x1,x2,x3,x4,x5,x6⟩:=(AA E4).all;obtain⟨y0,y1,y2,y3,y4,y5,y6⟩:=(AA E5).all;clear hb3 hz)|(go_at_call_of 10 (Value.slice (some a1) n1 c1);refine hca.mono ?_;rintro e w2⟨rfl,hb2⟩;rw[<-hW0]at hb2;have HB2:=AD hb2;have C5:=AD ((AA D5).below AC hb2);have HBa:=AD ((AA HB0).trans (hb2.mono (AA HB0).size));clear y0 y1 y2 y3 y4 y5 y6;obtain⟨y0,y1,y2,y3,y4,y5,y6⟩:=(AA C5).all;clear hb2));have E6:=AD ((AA D6).below AC (AA HB3));have HB:=AD ((AA HB0).trans ((AA HB3).mono (AA HB0).size));clear D4 D5 D6 HB0 HB2 HB3 C5 HBa hW0 hz6 W0 hca;have hz6:=(AA E6).lt;have L1:=AD ((AA H1).below AC (AA HB));have L2:=AD ((AA H2).below AC (AA HB));have P1:=AD ((AA J1).below AC (AA HB));have P2:=AD ((AA J2).below AC (AA HB));go_wp2_with fail;refine(Aa _).mono ?_;rintro e w9⟨rfl,hb9⟩;obtain⟨q0,q1,q2,q3,q4,q5,q6⟩:=((AA E6).below AC hb9).all;have hB9:=AD ((AA HB).trans (hb9.mono (AA HB).size));clear hb9 E4 E5 E6 HB x0 x1 x2 x3 x4 x5 x6 y0 y1 y2 y3 y4 y5 y6
 go_wp2
 refine bodyPost_ret (v:=.tuple #[.agg #[.bool false,.slice none 0 0,.slice none 0 0],.int .i64 3]) (by simp[results,results42,go_sem,q0,q1,q2]) rfl ?_;rw[AA HS];exact⟨none,0,0,none,0,0,rfl,AP _ _,AP _ _,(((AA hB9).setCell (by simp<;>omega) _).setCell (by simp<;>omega) _).setCell (by simp<;>omega) _⟩
def Oo(op:Int)(c d:Bool)(a1 a2 b1 b2:Addr)(n1 n2 m1 m2 c1 c2 d1 d2:Nat)(sh dt sh' dt':List Int)(w:World)(h1:AO w (some a1) n1 sh)(h2:AO w (some a2) n2 dt)(k1:AO w (some b1) m1 sh')(k2:AO w (some b2) m2 dt')(hc1:n1<=c1)(hc2:n2<=c2)(hd1:m1<=d1)(hd2:m2<=d2):Calls prog 42 #[.int .i64 op,.agg #[.bool c,.slice (some a1) n1 c1,.slice (some a2) n2 c2],.agg #[.bool d,.slice (some b1) m1 d1,.slice (some b2) m2 d2]] w (CJ w (By op c d sh dt sh' dt')):=by
 cases hok:AJ c sh dt with
 |false=>exact VO op c d a1 a2 b1 b2 n1 n2 m1 m2 c1 c2 d1 d2 sh dt sh' dt' w h1 h2 k1 k2 hok
 |true=>
  cases hok':AJ d sh' dt' with
  |false=>exact VN op c d a1 a2 b1 b2 n1 n2 m1 m2 c1 c2 d1 d2 sh dt sh' dt' w h1 h2 k1 k2 hok hok'
  |true=>
   by_cases h3:op<1
   .exact X5 op h3 c d a1 a2 b1 b2 n1 n2 m1 m2 c1 c2 d1 d2 sh dt sh' dt' w h1 h2 k1 k2 hok hok'
   by_cases h4:33<op
   .exact VM op h4 c d a1 a2 b1 b2 n1 n2 m1 m2 c1 c2 d1 d2 sh dt sh' dt' w h1 h2 k1 k2 hok hok'
   by_cases h5:op<=16
   .exact X4 op ⟨by omega,h5⟩ c d a1 a2 b1 b2 n1 n2 m1 m2 c1 c2 d1 d2 sh dt sh' dt' w h1 h2 k1 k2 hok hok'
   by_cases hn:op=17\/op=26\/op=27\/op=33
   .exact Y3 op hn c d a1 a2 b1 b2 n1 n2 m1 m2 c1 c2 d1 d2 sh dt sh' dt' w h1 h2 k1 k2 hok hok'
   have:op=18\/op=19\/op=20\/op=21\/op=22\/op=23\/op=24\/op=25\/op=28\/op=29\/op=30\/op=31\/op=32:=by omega
   rcases this with rfl|rfl|rfl|rfl|rfl|rfl|rfl|rfl|rfl|rfl|rfl|rfl|rfl
   .exact DU 18 c d a1 a2 b1 b2 n1 n2 m1 m2 c1 c2 d1 d2 sh dt sh' dt' w h1 h2 k1 k2 hok hok' _ _ _ _ (show By 18 c d sh dt sh' dt'=Ca c d sh dt sh' dt' from(DO hok hok' (by decide)).trans (by simp)) (.inl ⟨rfl,fun W hb=>RW c d a1 a2 b1 b2 n1 n2 m1 m2 c1 c2 d1 d2 sh dt sh' dt' W (h1.below AC hb) (h2.below AC hb) (k1.below AC hb) (k2.below AC hb)⟩)
   .exact DU 19 c d a1 a2 b1 b2 n1 n2 m1 m2 c1 c2 d1 d2 sh dt sh' dt' w h1 h2 k1 k2 hok hok' _ _ _ _ (show By 19 c d sh dt sh' dt'=FU c d sh dt sh' dt' from(DO hok hok' (by decide)).trans (by simp)) (.inr (.inl ⟨rfl,fun W hb=>X2 c d a1 a2 b1 b2 n1 n2 m1 m2 c1 c2 d1 d2 sh dt sh' dt' W (h1.below AC hb) (h2.below AC hb) (k1.below AC hb) (k2.below AC hb)⟩))
   .exact DU 20 c d a1 a2 b1 b2 n1 n2 m1 m2 c1 c2 d1 d2 sh dt sh' dt' w h1 h2 k1 k2 hok hok' _ _ _ _ (show By 20 c d sh dt sh' dt'=BV c d sh dt sh' dt' from(DO hok hok' (by decide)).trans (by simp)) (.inr (.inr (.inl ⟨rfl,fun W hb=>Pk c d a1 a2 b1 b2 n1 n2 m1 m2 c1 c2 d1 d2 sh dt sh' dt' hc1 hd1 hc2 hd2 W (h1.below AC hb) (h2.below AC hb) (k1.below AC hb) (k2.below AC hb)⟩)))
   .exact DU 21 c d a1 a2 b1 b2 n1 n2 m1 m2 c1 c2 d1 d2 sh dt sh' dt' w h1 h2 k1 k2 hok hok' _ _ _ _ (show By 21 c d sh dt sh' dt'=CT c d sh dt sh' dt' false from(DO hok hok' (by decide)).trans (by simp)) (.inr (.inr (.inr (.inl ⟨rfl,fun W hb=>NL c d a1 a2 b1 b2 n1 n2 m1 m2 c1 c2 d1 d2 sh dt sh' dt' false W (h1.below AC hb) (h2.below AC hb) (k1.below AC hb) (k2.below AC hb)⟩))))
   .exact DU 22 c d a1 a2 b1 b2 n1 n2 m1 m2 c1 c2 d1 d2 sh dt sh' dt' w h1 h2 k1 k2 hok hok' _ _ _ _ (show By 22 c d sh dt sh' dt'=CT c d sh dt sh' dt' true from(DO hok hok' (by decide)).trans (by simp)) (.inr (.inr (.inr (.inr (.inl ⟨rfl,fun W hb=>NL c d a1 a2 b1 b2 n1 n2 m1 m2 c1 c2 d1 d2 sh dt sh' dt' true W (h1.below AC hb) (h2.below AC hb) (k1.below AC hb) (k2.below AC hb)⟩)))))
   .exact DU 23 c d a1 a2 b1 b2 n1 n2 m1 m2 c1 c2 d1 d2 sh dt sh' dt' w h1 h2 k1 k2 hok hok' _ _ _ _ (show By 23 c d sh dt sh' dt'=BZ c d sh dt sh' dt' from(DO hok hok' (by decide)).trans (by simp)) (.inr (.inr (.inr (.inr (.inr (.inl ⟨rfl,fun W hb=>Nv c d a1 a2 b1 b2 n1 n2 m1 m2 c1 c2 d1 d2 sh dt sh' dt' W (h1.below AC hb) (h2.below AC hb) (k1.below AC hb) (k2.below AC hb)⟩))))))
   .exact DU 24 c d a1 a2 b1 b2 n1 n2 m1 m2 c1 c2 d1 d2 sh dt sh' dt' w h1 h2 k1 k2 hok hok' _ _ _ _ (show By 24 c d sh dt sh' dt'=Ib c d sh dt sh' dt' from(DO hok hok' (by decide)).trans (by simp)) (.inr (.inr (.inr (.inr (.inr (.inr (.inl ⟨rfl,fun W hb=>Xy c d a1 a2 b1 b2 n1 n2 m1 m2 c1 c2 d1 d2 sh dt sh' dt' W (h1.below AC hb) (h2.below AC hb) (k1.below AC hb) (k2.below AC hb)⟩)))))))
   .exact DU 25 c d a1 a2 b1 b2 n1 n2 m1 m2 c1 c2 d1 d2 sh dt sh' dt' w h1 h2 k1 k2 hok hok' _ _ _ _ (show By 25 c d sh dt sh' dt'=I0 c d sh dt sh' dt' from(DO hok hok' (by decide)).trans (by simp)) (.inr (.inr (.inr (.inr (.inr (.inr (.inr (.inl ⟨rfl,fun W hb=>X6 c d a1 a2 b1 b2 n1 n2 m1 m2 c1 c2 d1 d2 sh dt sh' dt' W (h1.below AC hb) (h2.below AC hb) (k1.below AC hb) (k2.below AC hb)⟩))))))))
   .exact DU 28 c d a1 a2 b1 b2 n1 n2 m1 m2 c1 c2 d1 d2 sh dt sh' dt' w h1 h2 k1 k2 hok hok' _ _ _ _ (show By 28 c d sh dt sh' dt'=Cz c d sh dt sh' dt' from(DO hok hok' (by decide)).trans (by simp)) (.inr (.inr (.inr (.inr (.inr (.inr (.inr (.inr (.inl ⟨rfl,fun W hb=>TD c d a1 a2 b1 b2 n1 n2 m1 m2 c1 c2 d1 d2 sh dt sh' dt' W (h1.below AC hb) (h2.below AC hb) (k1.below AC hb) (k2.below AC hb)⟩)))))))))
   .exact DU 29 c d a1 a2 b1 b2 n1 n2 m1 m2 c1 c2 d1 d2 sh dt sh' dt' w h1 h2 k1 k2 hok hok' _ _ _ _ (show By 29 c d sh dt sh' dt'=Aw c d sh dt sh' dt' false from(DO hok hok' (by decide)).trans (by simp)) (.inr (.inr (.inr (.inr (.inr (.inr (.inr (.inr (.inr (.inl ⟨rfl,fun W hb=>Io c d a1 a2 b1 b2 n1 n2 m1 m2 c1 c2 d1 d2 sh dt sh' dt' false W (h1.below AC hb) (h2.below AC hb) (k1.below AC hb) (k2.below AC hb)⟩))))))))))
   .exact DU 30 c d a1 a2 b1 b2 n1 n2 m1 m2 c1 c2 d1 d2 sh dt sh' dt' w h1 h2 k1 k2 hok hok' _ _ _ _ (show By 30 c d sh dt sh' dt'=Aw c d sh dt sh' dt' true from(DO hok hok' (by decide)).trans (by simp)) (.inr (.inr (.inr (.inr (.inr (.inr (.inr (.inr (.inr (.inr (.inl ⟨rfl,fun W hb=>Io c d a1 a2 b1 b2 n1 n2 m1 m2 c1 c2 d1 d2 sh dt sh' dt' true W (h1.below AC hb) (h2.below AC hb) (k1.below AC hb) (k2.below AC hb)⟩)))))))))))
   .exact DU 31 c d a1 a2 b1 b2 n1 n2 m1 m2 c1 c2 d1 d2 sh dt sh' dt' w h1 h2 k1 k2 hok hok' _ _ _ _ (show By 31 c d sh dt sh' dt'=C8 c d sh dt sh' dt' from(DO hok hok' (by decide)).trans (by simp)) (.inr (.inr (.inr (.inr (.inr (.inr (.inr (.inr (.inr (.inr (.inr (.inl ⟨rfl,fun W hb=>TG c d a1 a2 b1 b2 n1 n2 m1 m2 c1 c2 d1 d2 sh dt sh' dt' W (h1.below AC hb) (h2.below AC hb) (k1.below AC hb) (k2.below AC hb)⟩))))))))))))
   .exact DU 32 c d a1 a2 b1 b2 n1 n2 m1 m2 c1 c2 d1 d2 sh dt sh' dt' w h1 h2 k1 k2 hok hok' _ _ _ _ (show By 32 c d sh dt sh' dt'=CW c d sh dt sh' dt' from(DO hok hok' (by decide)).trans (by simp)) (.inr (.inr (.inr (.inr (.inr (.inr (.inr (.inr (.inr (.inr (.inr (.inr (⟨rfl,fun W hb=>TF c d a1 a2 b1 b2 n1 n2 m1 m2 c1 c2 d1 d2 sh dt sh' dt' W (h1.below AC hb) (h2.below AC hb) (k1.below AC hb) (k2.below AC hb)⟩)))))))))))))
