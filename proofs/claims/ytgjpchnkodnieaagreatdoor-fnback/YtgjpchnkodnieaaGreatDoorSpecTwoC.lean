import Derived.Test.YtgjpchnkodnieaaGreatDoorSpecTwoB
namespace Go.Proofs.YtgjpchnkodnieaaGreatDoor
open Go.RowKit

theorem truth_eq (b : Bool) (w : World) (r : Int) (hr : Hid (truth b = r)) : Calls Tryz.prog 200 #[.bool b] w fun e w' => e = .returned (.int .i64 r) ∧ w' = w := by
  rw [← unhide hr]; exact truth_call b w

set_option maxHeartbeats 2000000 in
theorem l4Order_any (op a b : Int) (w : World) (hop : op = 5 ∨ op = 6 ∨ op = 9 ∨ op = 10 ∨ op = 11 ∨ op = 12 ∨ op = 13 ∨ op = 14) : Calls Tryz.prog 237 #[.int .i64 op, .int .i64 a, .int .i64 b] w fun e w' => e = .returned (.int .i64 (orderOf op a b)) ∧ w' = w := by
  have hcmp : a < b ∨ a = b ∨ b < a := by omega
  rcases hcmp with h | h | h
  · have k1 : (a == b) = false := by simp; omega
    have k2 : ¬ b < a := by omega
    have k3 : a ≤ b := by omega
    rcases hop with rfl | rfl | rfl | rfl | rfl | rfl | rfl | rfl
    all_goals
      go_enter Tryz.func237, Tryz.ntmps237
      go_wp2_with (go_at_call 200; refine (truth_call _ _).mono ?_; rintro e w1 ⟨rfl, rfl⟩)
      go_ret
      exact ⟨ret_int (by simp [orderOf, truth] <;> omega), rfl⟩
  · subst h
    rcases hop with rfl | rfl | rfl | rfl | rfl | rfl | rfl | rfl
    all_goals
      go_enter Tryz.func237, Tryz.ntmps237
      go_wp2_with (go_at_call 200; refine (truth_call _ _).mono ?_; rintro e w1 ⟨rfl, rfl⟩)
      go_ret
      exact ⟨ret_int (by simp [orderOf, truth]), rfl⟩
  · have k1 : (a == b) = false := by simp; omega
    have k2 : ¬ a < b := by omega
    have k3 : b ≤ a := by omega
    have k5 : ¬ a ≤ b := by omega
    rcases hop with rfl | rfl | rfl | rfl | rfl | rfl | rfl | rfl
    all_goals
      go_enter Tryz.func237, Tryz.ntmps237
      go_wp2_with (go_at_call 200; refine (truth_call _ _).mono ?_; rintro e w1 ⟨rfl, rfl⟩)
      go_ret
      exact ⟨ret_int (by simp [orderOf, truth] <;> omega), rfl⟩

end Go.Proofs.YtgjpchnkodnieaaGreatDoor
