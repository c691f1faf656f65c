import Derived.Test.YtinndpnilmmmjaaGreatDoorSpecFields
namespace Go.Proofs.YtinndpnilmmmjaaGreatDoor
open Go.RowKit

set_option maxRecDepth 20000 in
set_option maxHeartbeats 4000000 in
theorem fieldsOk_C (k n m : Int) (s : ByteArray) (a1 a2 : Option Addr) (n1 c1 n2 c2 : Nat) (nums kids : List Int) (w : World) (hk : 23 ≤ k ∧ k ≤ 25) (hs : s.size ≤ 1048576) (hnum : nums.length = n1) :
    Calls Tryz.prog 26 #[.agg #[.int .i64 k, .int .i64 n, .int .i64 m, .string s, .slice a1 n1 c1, .slice a2 n2 c2]] w fun e w' => e = .returned (.bool (fieldsS txtB ⟨k, n, m, s, nums, kids⟩)) ∧ Below w.heap.size w w' := by
  obtain ⟨r, hr⟩ : ∃ r, fieldsS txtB ⟨k, n, m, s, nums, kids⟩ = r := ⟨_, rfl⟩
  rw [hr]
  have HR := hide hr
  clear hr
  have e1 := ne_false (show k ≠ 1 by omega)
  have e2 := ne_false (show k ≠ 2 by omega)
  have e3 := ne_false (show k ≠ 3 by omega)
  have e17 := ne_false (show k ≠ 17 by omega)
  have e20 := ne_false (show k ≠ 20 by omega)
  have e11 := ne_false (show k ≠ 11 by omega)
  have e22 := ne_false (show k ≠ 22 by omega)
  have e12 := ne_false (show k ≠ 12 by omega)
  have e13 := ne_false (show k ≠ 13 by omega)
  have e15 := ne_false (show k ≠ 15 by omega)
  have g19 : (19 : Int) ≤ k := by omega
  have l22 : ¬ k ≤ 22 := by omega
  have g12 : (12 : Int) ≤ k := by omega
  have l15 : ¬ k ≤ 15 := by omega
  by_cases hN : 0 < n1
  · have hg : (0 : Int) < (n1 : Int) := by omega
    have HE : Hid (false = r) := by show _ = _; rw [← unhide HR]; exact (fields_nums (by omega) (by omega)).symm
    clear HR hnum hk
    go_enter Tryz.func26, Tryz.ntmps26
    go_wp2_with (fail)
    go_ret
    refine ⟨ret_bool ?_, (Below.refl _ _).alloc (Nat.le_refl _) _⟩
    first | exact unhide HE | (rw [← unhide HE]; simp; omega)
  have hg : ¬ (0 : Int) < (n1 : Int) := by omega
  have h0 : nums.length = 0 := by omega
  by_cases hZ : s.size = 0
  case neg =>
    have hne := str_ne hZ
    have HE : Hid (false = r) := by show _ = _; rw [← unhide HR]; exact (fields_text (by omega) (by omega) h0 (by omega) hZ).symm
    clear HR hnum hk
    go_enter Tryz.func26, Tryz.ntmps26
    go_wp2_with (fail)
    go_ret
    refine ⟨ret_bool ?_, (Below.refl _ _).alloc (Nat.le_refl _) _⟩
    first | exact unhide HE | (rw [← unhide HE]; simp; omega)
  have HF := hide (fields_fin (T := txtB) (k := k) (n := n) (m := m) (s := s) (nums := nums) (kids := kids) (by omega) (by omega) (by omega) h0 (.inr ⟨by omega, hZ⟩))
  have hse := empty_of hZ
  subst hse
  clear hZ
  clear h0 hs hN
  rw [unhide HF] at HR
  clear HF
  have hM : mostK k = 0 := by unfold mostK; repeat' split <;> first | rfl | omega
  have hMk : marksK k = 0 := by unfold marksK; repeat' split <;> first | rfl | omega
  rw [hM, hMk] at HR
  clear hM hMk
  by_cases hA : 0 < n
  · have hq : ¬ n ≤ 0 := by omega
    have HE : Hid (false = r) := by show _ = _; rw [← unhide HR]; exact (decide_eq_false (by omega)).symm
    clear HR hnum hk
    go_enter Tryz.func26, Tryz.ntmps26
    go_wp2_with (fail)
    go_ret
    refine ⟨ret_bool ?_, (Below.refl _ _).alloc (Nat.le_refl _) _⟩
    first | exact unhide HE | (rw [← unhide HE]; simp; omega)
  by_cases hC : n < 0
  · have hq : n ≤ 0 := by omega
    have hq1 : ¬ (1 : Int) ≤ n := by omega
    have hq2 := ne_false (show n ≠ 0 by omega)
    have HE : Hid (false = r) := by show _ = _; rw [← unhide HR]; exact (decide_eq_false (by omega)).symm
    clear HR hnum hk
    go_enter Tryz.func26, Tryz.ntmps26
    go_wp2_with (fail)
    go_ret
    refine ⟨ret_bool ?_, (Below.refl _ _).alloc (Nat.le_refl _) _⟩
    first | exact unhide HE | (rw [← unhide HE]; simp; omega)
  have hn0 : n = 0 := by omega
  subst hn0
  clear hA hC
  by_cases hm0 : m < 0
  · have hp : ¬ (0 : Int) ≤ m := by omega
    have HE : Hid (false = r) := by show _ = _; rw [← unhide HR]; exact (decide_eq_false (by omega)).symm
    clear HR hnum hk
    go_enter Tryz.func26, Tryz.ntmps26
    go_wp2_with (fail)
    go_ret
    refine ⟨ret_bool ?_, (Below.refl _ _).alloc (Nat.le_refl _) _⟩
    first | exact unhide HE | (rw [← unhide HE]; simp; omega)
  have hp : (0 : Int) ≤ m := by omega
  by_cases hm1 : 0 < m
  · have hp1 : ¬ m ≤ 0 := by omega
    have HE : Hid (false = r) := by show _ = _; rw [← unhide HR]; exact (decide_eq_false (by omega)).symm
    clear HR hnum hk
    go_enter Tryz.func26, Tryz.ntmps26
    go_wp2_with (fail)
    go_ret
    refine ⟨ret_bool ?_, (Below.refl _ _).alloc (Nat.le_refl _) _⟩
    first | exact unhide HE | (rw [← unhide HE]; simp; omega)
  have hp1 : m ≤ 0 := by omega
  have HE : Hid (true = r) := by show _ = _; rw [← unhide HR]; exact (decide_eq_true (by omega)).symm
  clear HR hnum hk
  go_enter Tryz.func26, Tryz.ntmps26
  go_wp2_with (fail)
  go_ret
  refine ⟨ret_bool ?_, (Below.refl _ _).alloc (Nat.le_refl _) _⟩
  first | exact unhide HE | (rw [← unhide HE]; simp; omega)

end Go.Proofs.YtinndpnilmmmjaaGreatDoor
