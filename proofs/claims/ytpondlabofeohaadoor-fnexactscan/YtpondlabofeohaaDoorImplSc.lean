import Derived.Test.YtpondlabofeohaaDoorMFirst
import Derived.Test.YtpondlabofeohaaDoorMFirst
namespace Go.Proofs.YtpondlabofeohaaDoor
open Go.RowKit Go.Shelf

set_option maxHeartbeats 400000 in
theorem isScalarFn_any (op : Int) (w : World) (r : Bool) (hr : Hid (opIn op = r)) : Calls Tryd.prog 41 #[.int .i64 op] w fun e w' => e = .returned (.bool r) ∧ w' = w := by
  have HW : Hid (withinB op 1 16 = r) := hr
  go_enter Tryd.func41, Tryd.ntmps41
  go_wp2_with (go_at_call 70; refine (isWithin_eq _ _ _ _ _ HW).mono ?_; rintro e w' ⟨rfl, rfl⟩)
  go_ret
  exact ⟨rfl, rfl⟩

end Go.Proofs.YtpondlabofeohaaDoor
