import Derived.Test.YtadbhidpmihghabImplLays
namespace Go.Proofs.Ytadbhidpmihghab
open Go.RowKit

set_option maxHeartbeats 1000000 in
theorem hasAxis_eq (f : Nat → Int) (ax : Int) (h0 : 0 ≤ f 1) (h1 : f 1 ≤ 5) (r : Bool) (hr : Hid (withinB ax 0 (f 1 - 1) = r)) (w : World) :
    Calls Try.prog 30 #[lay f, .int .i64 ax] w fun e w' => e = .returned (.bool r) ∧ Below w.heap.size w w' := by
  have hw1 : IntKind.i64.wrap (f 1 - 1) = f 1 - 1 := by rw [IntKind.wrap_i64]; omega
  go_enter Try.func30, Try.ntmps30
  go_wp2_with (go_at_call 32; refine (isWithin_eq _ _ _ _ r hr).mono ?_; rintro e w' ⟨rfl, rfl⟩)
  go_ret
  exact ⟨rfl, (Below.refl _ _).alloc (Nat.le_refl _) _⟩

end Go.Proofs.Ytadbhidpmihghab
