import Derived.Test.YtgjpchnkodnieaaGreatDoorImplReck
import Derived.Test.YtgjpchnkodnieaaGreatDoorMFit0
import Derived.BigQuiet
namespace Go.Proofs.YtgjpchnkodnieaaGreatDoor
open Go.RowKit Go.Shelf

set_option maxHeartbeats 400000 in
theorem isTruth_eq (v : Int) (w : World) (r : Bool) (h : Hid (withinB v 0 1 = r)) : Calls Tryz.prog 283 #[.int .i64 v] w fun e w' => e = .returned (.bool r) ∧ w' = w := by
  go_enter Tryz.func283, Tryz.ntmps283
  go_wp2_with (go_at_call 50; refine (isWithin_eq _ _ _ _ r h).mono ?_; rintro e w' ⟨rfl, rfl⟩)
  go_ret
  exact ⟨rfl, rfl⟩

set_option maxHeartbeats 400000 in
theorem magnitude_any (v : Int) (w : World) (hv : -1000000000000000 ≤ v ∧ v ≤ 1000000000000000) : Calls Tryz.prog 281 #[.int .i64 v] w fun e w' => e = .returned (.int .i64 (if v < 0 then -v else v)) ∧ w' = w := by
  obtain ⟨h1, h2⟩ := hv
  by_cases h : v < 0
  · rw [if_pos h]
    go_enter Tryz.func281, Tryz.ntmps281
    go_wp2
    go_ret
    exact ⟨by first | rfl | (simp; omega), rfl⟩
  · rw [if_neg h]
    go_enter Tryz.func281, Tryz.ntmps281
    go_wp2
    go_ret
    exact ⟨by first | rfl | (simp; omega), rfl⟩

theorem ret_el {a b : Addr} {r : Int × Int} {x c : Int} (h : r = (x, c)) : Ending.returned (.tuple #[.int .i64 x, errV a b c]) = Ending.returned (.tuple #[.int .i64 r.1, errV a b r.2]) := by rw [h]

end Go.Proofs.YtgjpchnkodnieaaGreatDoor
