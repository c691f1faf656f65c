import Derived.Test.YtadbhidpmihghaaTransMath
import Derived.Test.YtadbhidpmihghaaViewMath
import Derived.Test.YtadbhidpmihghaaVAnsMath
namespace Go.Proofs.Ytadbhidpmihghaa

/-- A list whose numbers are laid where an order says, by its first i numbers. -/
def turnV (p l : List Int) : Nat → List Int
  | 0 => l
  | i + 1 => (turnV p l i).set (axNo p i) (l.getD i 0)
theorem turnV_len (p l : List Int) (i : Nat) : (turnV p l i).length = l.length := by
  induction i with
  | zero => rfl
  | succ i ih => simp [turnV, ih]

theorem order_no {p : List Int} {r m i : Nat} (hi : i < m) (h : stepOk p r i = false) : orderOk p r m = false := by
  cases e : orderOk p r m with
  | false => rfl
  | true => rw [order_step e hi] at h; cases h

theorem step_out {p : List Int} {r i : Nat} (h : ¬ (1 ≤ p.getD i 0 ∧ p.getD i 0 ≤ (r : Int))) : stepOk p r i = false := by unfold stepOk; rw [decide_eq_false h]; rfl
theorem step_seen {p : List Int} {r i j : Nat} (hj : axNo p i = j) (h : (seenN p r i).getD j false = true) : stepOk p r i = false := by unfold stepOk; rw [hj, h]; simp
theorem step_in {p : List Int} {r i j : Nat} (hj : axNo p i = j) (h1 : 1 ≤ p.getD i 0 ∧ p.getD i 0 ≤ (r : Int)) (h : (seenN p r i).getD j false = false) : stepOk p r i = true := by unfold stepOk; rw [hj, h, decide_eq_true h1]; rfl

def turnVw (c : Int) (sh st p : List Int) : VAns := if formed c sh st = true ∧ p.length = sh.length ∧ orderOk p sh.length sh.length = true then ⟨c, turnV p sh sh.length, turnV p st sh.length, true⟩ else ⟨0, [], [], false⟩

end Go.Proofs.Ytadbhidpmihghaa
