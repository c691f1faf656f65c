import Derived.Test.YtgjpchnkodnieaaGreatDoorMFit0
namespace Go.Proofs.YtgjpchnkodnieaaGreatDoor
open Go.RowKit

theorem withinM_any (n lo hi : Int) (w : World) : Calls Tryz.prog 50 #[.int .i64 n, .int .i64 lo, .int .i64 hi] w fun e w' => e = .returned (.bool (decide (lo ≤ n ∧ n ≤ hi))) ∧ w' = w := by
  obtain ⟨r, hr⟩ : ∃ r, decide (lo ≤ n ∧ n ≤ hi) = r := ⟨_, rfl⟩
  rw [hr]
  have HR := hide hr
  clear hr
  by_cases h1 : lo ≤ n
  · by_cases h2 : n ≤ hi
    · have HE : Hid (true = r) := by show _ = _; rw [← unhide HR, decide_eq_true ⟨h1, h2⟩]
      go_enter Tryz.func50, Tryz.ntmps50
      go_wp2
      go_ret
      refine ⟨ret_bool ?_, rfl⟩
      first | exact unhide HE | (rw [← unhide HE]; simp; omega)
    · have HE : Hid (false = r) := by show _ = _; rw [← unhide HR, decide_eq_false (fun h => h2 h.2)]
      go_enter Tryz.func50, Tryz.ntmps50
      go_wp2
      go_ret
      refine ⟨ret_bool ?_, rfl⟩
      first | exact unhide HE | (rw [← unhide HE]; simp; omega)
  · have HE : Hid (false = r) := by show _ = _; rw [← unhide HR, decide_eq_false (fun h => h1 h.1)]
    go_enter Tryz.func50, Tryz.ntmps50
    go_wp2
    go_ret
    refine ⟨ret_bool ?_, rfl⟩
    first | exact unhide HE | (rw [← unhide HE]; simp; omega)

theorem withinM (n lo hi : Int) (r : Bool) (h : decide (lo ≤ n ∧ n ≤ hi) = r) (w : World) : Calls Tryz.prog 50 #[.int .i64 n, .int .i64 lo, .int .i64 hi] w fun e w' => e = .returned (.bool r) ∧ w' = w := by
  rw [← h]; exact withinM_any n lo hi w

end Go.Proofs.YtgjpchnkodnieaaGreatDoor
