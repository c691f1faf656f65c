import Derived.Test.YtngbmcljhcckmaaCutGath
import Derived.Test.YtngbmcljhcckmaaImplPlaceIn
import Derived.BigQuiet
namespace Go.Proofs.Ytngbmcljhcckmaa
open Go.RowKit Go.Shelf

abbrev S1taking := takeS1
abbrev Z1taking := takeZ1
abbrev S1dropping := dropS1
abbrev Z1dropping := dropZ1

theorem S1taking_bd {k len : Int} (hk : -1000000000000000 ≤ k ∧ k ≤ 1000000000000000) (hl : 0 ≤ len ∧ len ≤ 10000) : -1000000000010000 ≤ S1taking k len ∧ S1taking k len ≤ 1000000000010000 := by
  show -1000000000010000 ≤ takeS1 k len ∧ takeS1 k len ≤ 1000000000010000
  unfold takeS1; split <;> omega
theorem S1dropping_bd {k len : Int} (hk : -1000000000000000 ≤ k ∧ k ≤ 1000000000000000) (_hl : 0 ≤ len ∧ len ≤ 10000) : -1000000000010000 ≤ S1dropping k len ∧ S1dropping k len ≤ 1000000000010000 := by
  show -1000000000010000 ≤ dropS1 k len ∧ dropS1 k len ≤ 1000000000010000
  unfold dropS1; split <;> omega

set_option maxHeartbeats 1000000 in
theorem span_taking (k len : Int) (w : World) (hk : -1000000000000000 ≤ k ∧ k ≤ 1000000000000000) (hl : 0 ≤ len ∧ len ≤ 10000) : Calls Try.prog 144 #[.agg #[], .int .i64 k, .int .i64 len] w fun e w' => e = .returned (.tuple #[.int .i64 (takeS1 k len), .int .i64 (takeZ1 k len)]) ∧ Below w.heap.size w w' := by
  by_cases h : k < 0
  · have HS : Hid (takeS1 k len = len + k) := if_pos h
    have HZ : Hid (takeZ1 k len = -k) := if_pos h
    have w1 : IntKind.i64.wrap (len + k) = len + k := by rw [IntKind.wrap_i64]; omega
    have w2 : IntKind.i64.wrap (-k) = -k := by rw [IntKind.wrap_i64]; omega
    go_enter Try.func144, Try.ntmps144
    go_wp2
    go_ret2
    exact ⟨ret_two HS.out.symm HZ.out.symm, by first | exact Below.refl _ _ | exact (Below.refl _ w).alloc (Nat.le_refl _) _⟩
  · have HS : Hid (takeS1 k len = 0) := if_neg h
    have HZ : Hid (takeZ1 k len = k) := if_neg h
    go_enter Try.func144, Try.ntmps144
    go_wp2
    go_ret2
    exact ⟨ret_two HS.out.symm HZ.out.symm, by first | exact Below.refl _ _ | exact (Below.refl _ w).alloc (Nat.le_refl _) _⟩

set_option maxHeartbeats 1000000 in
theorem magnitude_any (k : Int) (w : World) (hk : -1000000000000000 ≤ k ∧ k ≤ 1000000000000000) : Calls Try.prog 146 #[.int .i64 k] w fun e w' => e = .returned (.int .i64 (absI k)) ∧ w' = w := by
  have w2 : IntKind.i64.wrap (-k) = -k := by rw [IntKind.wrap_i64]; omega
  go_enter Try.func146, Try.ntmps146
  go_wp2
  all_goals go_ret
  all_goals (refine ⟨ret_int ?_, rfl⟩; unfold absI; split <;> omega)

set_option maxHeartbeats 1000000 in
theorem span_dropping (k len : Int) (w : World) (hk : -1000000000000000 ≤ k ∧ k ≤ 1000000000000000) (hl : 0 ≤ len ∧ len ≤ 10000) : Calls Try.prog 145 #[.agg #[], .int .i64 k, .int .i64 len] w fun e w' => e = .returned (.tuple #[.int .i64 (dropS1 k len), .int .i64 (dropZ1 k len)]) ∧ Below w.heap.size w w' := by
  have hab : 0 ≤ absI k ∧ absI k ≤ 1000000000000000 := by unfold absI; split <;> omega
  have w2 : IntKind.i64.wrap (len - absI k) = len - absI k := by rw [IntKind.wrap_i64]; omega
  obtain ⟨m, hm⟩ : ∃ m, absI k = m := ⟨_, rfl⟩
  have HM := hide hm
  rw [hm] at w2 hab
  clear hm
  go_enter Try.func145, Try.ntmps145
  go_wp2_with (go_at_call 146; refine (magnitude_any _ _ hk).mono ?_; rintro e w1 ⟨rfl, hw1⟩; obtain rfl := hw1.symm; rw [HM.out])
  all_goals go_ret2
  all_goals (refine ⟨ret_two ?_ ?_, by first | exact Below.refl _ _ | exact (Below.refl _ w).alloc (Nat.le_refl _) _⟩)
  all_goals first | (unfold dropS1; split <;> omega) | (unfold dropZ1; rw [HM.out]; split <;> omega)

end Go.Proofs.Ytngbmcljhcckmaa
