import Derived.Test.YtgjpchnkodnieaaGreatDoorImplReck
import Derived.Test.YtgjpchnkodnieaaGreatDoorMFit0
namespace Go.Proofs.YtgjpchnkodnieaaGreatDoor
open Go.RowKit Go.Shelf

set_option maxHeartbeats 400000 in
theorem isScalarFn_any (op : Int) (w : World) (r : Bool) (hr : Hid (opIn op = r)) : Calls Tryz.prog 110 #[.int .i64 op] w fun e w' => e = .returned (.bool r) ∧ w' = w := by
  have HW : Hid (withinB op 1 16 = r) := hr
  go_enter Tryz.func110, Tryz.ntmps110
  go_wp2_with (go_at_call 50; refine (isWithin_eq _ _ _ _ _ HW).mono ?_; rintro e w' ⟨rfl, rfl⟩)
  go_ret
  exact ⟨rfl, rfl⟩

end Go.Proofs.YtgjpchnkodnieaaGreatDoor
