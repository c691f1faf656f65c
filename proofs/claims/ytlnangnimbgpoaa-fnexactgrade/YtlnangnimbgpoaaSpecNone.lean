import Derived.Test.YtlnangnimbgpoaaLawArrBase
namespace Go.Proofs.Ytlnangnimbgpoaa
open Go.RowKit

set_option maxHeartbeats 400000 in
theorem l4None_any (w : World) : Calls Try.prog 30 #[] w fun e w' => e = .returned (.agg #[.bool false, .slice none 0 0, .slice none 0 0]) ∧ Below w.heap.size w w' := by
  go_enter Try.func30, Try.ntmps30
  go_wp2
  exact bodyPost_ret (v := .agg #[.bool false, .slice none 0 0, .slice none 0 0]) (by simp [results, Try.results30, go_sem]) rfl ⟨rfl, (Below.refl _ _).alloc (Nat.le_refl _) _⟩

end Go.Proofs.Ytlnangnimbgpoaa
