import Derived.Test.YtgjpchnkodnieaaGreatDoorZ03
import Derived.OrdersIn
import Derived.RangeFuncCalls
set_option linter.defProp false
namespace Go.Proofs.YtgjpchnkodnieaaGreatDoor
open Tryz
section
variable {P:Program}{ops:Array Oper}{Q:Exit->Act->World->Prop}{md:Region.Mode}{S:World->Prop}{st:Nat}
def Ja(ops:Array Oper):Bool:=ops.all fun o=>match o.op with|.defer _=>false|_=>true
def R8{i:Nat}{o:Oper}(h:Ja ops=true)(hi:ops[i]? =some o):∀c,o.op≠ .defer c:=by intro c hc;unfold Ja at h;rw[Array.all_eq_true']at h;have:=h o (Array.mem_of_getElem? hi);rw[hc]at this;cases this
def Rz{i n l:Nat}{K:Act->World->Prop}{a:Act}{w:World}(hnd:Ja ops=true)(hno:¬ LetsOut Q)(h:wpOp P ops Q i K a w):wpOpIn (Fence.wide.inRound l) n P ops Q i K a w:=by
 unfold wpOp at h;unfold wpOpIn;cases ho:ops[i]? with
 |none=>rw[ho]at h;exact h
 |some o=>
  rw[ho]at h;simp only at h ⊢;split
  .rename_i hw
   rw[AI hw]at h;rcases h with h|h
   .refine⟨fun _ _=>trivial,?_⟩;rw[Fence.inRound_round,Oper.semAt_some l _ o (R8 hnd ho)];unfold Oper.wp at h;generalize (execOp a.eval o).run P w=r at h ⊢;cases r with
    |ok x w'=>
     cases x with
     |value v=>exact h
     |skip=>exact h
     |defer d=>exact h
     |enter f args=>exact⟨fun hd=>(by cases hd),CallsIn.inRound l (callsIn_wide.2 h)⟩
     |row row args=>exact⟨fun hd=>(by cases hd),fun c cs _=>let⟨v,w',r,s⟩:=h c cs;⟨v,w',r,stepsIn_wide.2 s⟩⟩
     |round l f tmps assign body=>exact h.elim
     |_=>exact h.elim
    |halt x w'=>cases x<;>exact h
   .exact absurd h.2 hno
  .rename_i hw
   rw[AH hw]at h;exact⟨fun _ _=>trivial,h⟩
def I7{n l:Nat}(hnd:Ja ops=true)(hno:¬ LetsOut Q):∀(fuel:Nat)(listed:Array Bool)(a:Act)(w:World),CN P md ops Q S st fuel listed a w->wpAnyIn (Fence.wide.inRound l) n P md ops Q fuel listed a w
 |0,_,_,_,h=>h
 |fuel+1,_,_,_,h=>⟨h.1,fun i hi=>Rz hnd hno (wpOp_mono (fun a' w' h'=>I7 hnd hno fuel _ a' w' h'.2) (h.2 i hi))⟩
def NP{id n l:Nat}{a:Act}{w:World}(S:World->Prop)(st:Nat)(hm:P.follows .mixedOrders=true)(hnd:Ja ops=true)(hno:¬ LetsOut Q)(h:CN P .any ops Q S st ops.size (Array.replicate ops.size false) a w.drew):(Code.region id ops true).wpIn (Fence.wide.inRound l) n P Q a w:=wpIn_region_any hm (I7 hnd hno _ _ _ _ h)
end
