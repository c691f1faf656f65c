import Derived.Test.YtadbhidpmihghaaImplLays
import Derived.Deep.RegionLaw
namespace Go.Proofs.Ytadbhidpmihghaa
open Go.RowKit

theorem run_store_lay {w : World} {p : Nat} {z : Nat → Int} (hz : LBox w p z) (g : Nat → Int) : (Instr.storeAt 47 (.pointer (some ⟨p, 0, none⟩)) (lay g)).run Try.prog w = .ok () (sets12 w p g) := by
  obtain ⟨r0, r1, r2, r3, r4, r5, r6, r7, r8, r9, r10, r11, s0, s1, s2, s3, s4, s5, s6, s7, s8, s9, s10, s11, rl⟩ := hz.all
  unfold sets12
  go_simp

/-- A layout stored into a box, as one step of a region that draws its order. -/
theorem step_store_lay {ops : Array Oper} {o : Oper} {a : Act} {w : World} {K : Act → World → Prop} {Q : Exit → Act → World → Prop} {E : Prop} (hgd : o.guard = none) (x y : Operand) (ho : o.op = .store 47 x y)
    (p : Nat) (g z : Nat → Int) (hx : a.eval x = .pointer (some ⟨p, 0, none⟩)) (hy : a.eval y = lay g) (hz : LBox w p z) (h : ∀ w', w' = sets12 w p g → K (a.put o.dst undef) w') :
    if Region.wanted o (yielded ops a.tmps) = true then Oper.wp Try.prog o a w K Q else E := by
  have hw : Region.wanted o (yielded ops a.tmps) = true := by simp [Region.wanted, hgd]
  rw [if_pos hw]
  have e : (execOp a.eval o).run Try.prog w = .ok .skip (sets12 w p g) := by
    unfold execOp
    simp only [ho, hx, hy]
    have := run_store_lay hz g
    simp only [Sem.run_bind, this]
    rfl
  unfold Oper.wp
  rw [e]
  exact h _ rfl

end Go.Proofs.Ytadbhidpmihghaa
