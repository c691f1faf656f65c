import Derived.Test.YtmgjicgojlkpcaaGreatDoorTreeMath
import Derived.Test.YtmgjicgojlkpcaaGreatDoorIntsB
namespace Go.Proofs.YtmgjicgojlkpcaaGreatDoor
open Go.RowKit

theorem kind_cases (k : Int) : k < 1 ∨ 25 < k ∨ k = 1 ∨ k = 2 ∨ k = 3 ∨ k = 4 ∨ k = 5 ∨ k = 6 ∨ k = 7 ∨ k = 8 ∨ k = 9 ∨ k = 10 ∨ k = 11 ∨ k = 12 ∨ k = 13 ∨ k = 14 ∨ k = 15 ∨ k = 16 ∨ k = 17 ∨ k = 18 ∨ k = 19 ∨ k = 20 ∨ k = 21 ∨ k = 22 ∨ k = 23 ∨ k = 24 ∨ k = 25 := by omega

theorem ne_false {a b : Int} (h : a ≠ b) : (a == b) = false := by simpa using h

set_option maxHeartbeats 2000000 in
theorem l2Sort_any (k : Int) (w : World) : Calls Tryz.prog 24 #[.int .i64 k] w fun e w' => e = .returned (.int .i64 (sortK k)) ∧ w' = w := by
  rcases kind_cases k with h | h | h | h | h | h | h | h | h | h | h | h | h | h | h | h | h | h | h | h | h | h | h | h | h | h | h
  · have hs : sortK k = 0 := by unfold sortK; rw [if_neg (by omega), if_neg (by omega), if_neg (by omega), if_neg (by omega), if_neg (by omega), if_neg (by omega)]
    rw [hs]
    have a1 : ¬ (1 : Int) ≤ k := by omega
    have a2 : ¬ (11 : Int) ≤ k := by omega
    have a3 : ¬ (19 : Int) ≤ k := by omega
    have e8 := ne_false (show k ≠ 8 by omega)
    have e9 := ne_false (show k ≠ 9 by omega)
    have e10 := ne_false (show k ≠ 10 by omega)
    have e24 := ne_false (show k ≠ 24 by omega)
    have e25 := ne_false (show k ≠ 25 by omega)
    clear h hs
    go_enter Tryz.func24, Tryz.ntmps24
    go_wp2
    go_ret
    exact ⟨rfl, rfl⟩
  · have hs : sortK k = 0 := by unfold sortK; rw [if_neg (by omega), if_neg (by omega), if_neg (by omega), if_neg (by omega), if_neg (by omega), if_neg (by omega)]
    rw [hs]
    have a1 : (1 : Int) ≤ k := by omega
    have a2 : (11 : Int) ≤ k := by omega
    have a3 : (19 : Int) ≤ k := by omega
    have b1 : ¬ k ≤ 7 := by omega
    have b2 : ¬ k ≤ 18 := by omega
    have b3 : ¬ k ≤ 23 := by omega
    have e8 := ne_false (show k ≠ 8 by omega)
    have e9 := ne_false (show k ≠ 9 by omega)
    have e10 := ne_false (show k ≠ 10 by omega)
    have e24 := ne_false (show k ≠ 24 by omega)
    have e25 := ne_false (show k ≠ 25 by omega)
    clear h hs
    go_enter Tryz.func24, Tryz.ntmps24
    go_wp2
    go_ret
    exact ⟨rfl, rfl⟩
  all_goals
    subst h
    go_enter Tryz.func24, Tryz.ntmps24
    go_wp2
    go_ret
    exact ⟨rfl, rfl⟩

end Go.Proofs.YtmgjicgojlkpcaaGreatDoor
