import Derived.Test.YtinndpnilmmmjaaGreatDoorSpecFields
namespace Go.Proofs.YtinndpnilmmmjaaGreatDoor
open Go.RowKit

set_option maxRecDepth 20000 in
set_option maxHeartbeats 4000000 in
theorem fieldsOk_14 (n m : Int) (s : ByteArray) (a1 a2 : Option Addr) (n1 c1 n2 c2 : Nat) (nums kids : List Int) (w : World) (hs : s.size ≤ 1048576) (hnum : nums.length = n1) :
    Calls Tryz.prog 26 #[.agg #[.int .i64 14, .int .i64 n, .int .i64 m, .string s, .slice a1 n1 c1, .slice a2 n2 c2]] w fun e w' => e = .returned (.bool (fieldsS txtB ⟨14, n, m, s, nums, kids⟩)) ∧ Below w.heap.size w w' := by
  obtain ⟨r, hr⟩ : ∃ r, fieldsS txtB ⟨14, n, m, s, nums, kids⟩ = r := ⟨_, rfl⟩
  rw [hr]
  have HR := hide hr
  clear hr
  by_cases hN : 0 < n1
  · have hg : (0 : Int) < (n1 : Int) := by omega
    have HE : Hid (false = r) := by show _ = _; rw [← unhide HR]; exact (fields_nums (by omega) (by omega)).symm
    clear HR hnum
    go_enter Tryz.func26, Tryz.ntmps26
    go_wp2_with (fail)
    go_ret
    refine ⟨ret_bool ?_, (Below.refl _ _).alloc (Nat.le_refl _) _⟩
    first | exact unhide HE | (rw [← unhide HE]; simp; omega)
  have hg : ¬ (0 : Int) < (n1 : Int) := by omega
  have h0 : nums.length = 0 := by omega
  by_cases hZ : s.size = 0
  case neg =>
    have hne := str_ne hZ
    have HE : Hid (false = r) := by show _ = _; rw [← unhide HR]; exact (fields_text (by omega) (by omega) h0 (by omega) hZ).symm
    clear HR hnum
    go_enter Tryz.func26, Tryz.ntmps26
    go_wp2_with (fail)
    go_ret
    refine ⟨ret_bool ?_, (Below.refl _ _).alloc (Nat.le_refl _) _⟩
    first | exact unhide HE | (rw [← unhide HE]; simp; omega)
  have HF := hide (fields_fin (T := txtB) (k := 14) (n := n) (m := m) (s := s) (nums := nums) (kids := kids) (by omega) (by omega) (by omega) h0 (.inr ⟨by omega, hZ⟩))
  have hse := empty_of hZ
  subst hse
  clear hZ
  clear h0 hs hN
  rw [unhide HF] at HR
  clear HF
  have hM : mostK (14 : Int) = 16 := by unfold mostK; repeat' split <;> first | rfl | omega
  have hMk : marksK (14 : Int) = 0 := by unfold marksK; repeat' split <;> first | rfl | omega
  rw [hM, hMk] at HR
  clear hM hMk
  by_cases hA : 16 < n
  · have hq : ¬ n ≤ 16 := by omega
    have HE : Hid (false = r) := by show _ = _; rw [← unhide HR]; exact (decide_eq_false (by omega)).symm
    clear HR hnum
    go_enter Tryz.func26, Tryz.ntmps26
    go_wp2_with (fail)
    go_ret
    refine ⟨ret_bool ?_, (Below.refl _ _).alloc (Nat.le_refl _) _⟩
    first | exact unhide HE | (rw [← unhide HE]; simp; omega)
  by_cases hC : n < 1
  · have hq : n ≤ 16 := by omega
    have hq1 : ¬ (1 : Int) ≤ n := by omega
    have HE : Hid (false = r) := by show _ = _; rw [← unhide HR]; exact (decide_eq_false (by omega)).symm
    clear HR hnum
    go_enter Tryz.func26, Tryz.ntmps26
    go_wp2_with (fail)
    go_ret
    refine ⟨ret_bool ?_, (Below.refl _ _).alloc (Nat.le_refl _) _⟩
    first | exact unhide HE | (rw [← unhide HE]; simp; omega)
  have hq : n ≤ 16 := by omega
  have hq1 : (1 : Int) ≤ n := by omega
  by_cases hm0 : m < 0
  · have hp : ¬ (0 : Int) ≤ m := by omega
    have HE : Hid (false = r) := by show _ = _; rw [← unhide HR]; exact (decide_eq_false (by omega)).symm
    clear HR hnum
    go_enter Tryz.func26, Tryz.ntmps26
    go_wp2_with (fail)
    go_ret
    refine ⟨ret_bool ?_, (Below.refl _ _).alloc (Nat.le_refl _) _⟩
    first | exact unhide HE | (rw [← unhide HE]; simp; omega)
  have hp : (0 : Int) ≤ m := by omega
  by_cases hm1 : 0 < m
  · have hp1 : ¬ m ≤ 0 := by omega
    have HE : Hid (false = r) := by show _ = _; rw [← unhide HR]; exact (decide_eq_false (by omega)).symm
    clear HR hnum
    go_enter Tryz.func26, Tryz.ntmps26
    go_wp2_with (fail)
    go_ret
    refine ⟨ret_bool ?_, (Below.refl _ _).alloc (Nat.le_refl _) _⟩
    first | exact unhide HE | (rw [← unhide HE]; simp; omega)
  have hp1 : m ≤ 0 := by omega
  have HE : Hid (true = r) := by show _ = _; rw [← unhide HR]; exact (decide_eq_true (by omega)).symm
  clear HR hnum
  go_enter Tryz.func26, Tryz.ntmps26
  go_wp2_with (fail)
  go_ret
  refine ⟨ret_bool ?_, (Below.refl _ _).alloc (Nat.le_refl _) _⟩
  first | exact unhide HE | (rw [← unhide HE]; simp; omega)

set_option maxRecDepth 20000 in
set_option maxHeartbeats 4000000 in
theorem fieldsOk_15 (n m : Int) (s : ByteArray) (a1 a2 : Option Addr) (n1 c1 n2 c2 : Nat) (nums kids : List Int) (w : World) (hs : s.size ≤ 1048576) (hnum : nums.length = n1) :
    Calls Tryz.prog 26 #[.agg #[.int .i64 15, .int .i64 n, .int .i64 m, .string s, .slice a1 n1 c1, .slice a2 n2 c2]] w fun e w' => e = .returned (.bool (fieldsS txtB ⟨15, n, m, s, nums, kids⟩)) ∧ Below w.heap.size w w' := by
  obtain ⟨r, hr⟩ : ∃ r, fieldsS txtB ⟨15, n, m, s, nums, kids⟩ = r := ⟨_, rfl⟩
  rw [hr]
  have HR := hide hr
  clear hr
  by_cases hN : 0 < n1
  · have hg : (0 : Int) < (n1 : Int) := by omega
    have HE : Hid (false = r) := by show _ = _; rw [← unhide HR]; exact (fields_nums (by omega) (by omega)).symm
    clear HR hnum
    go_enter Tryz.func26, Tryz.ntmps26
    go_wp2_with (fail)
    go_ret
    refine ⟨ret_bool ?_, (Below.refl _ _).alloc (Nat.le_refl _) _⟩
    first | exact unhide HE | (rw [← unhide HE]; simp; omega)
  have hg : ¬ (0 : Int) < (n1 : Int) := by omega
  have h0 : nums.length = 0 := by omega
  by_cases hZ : s.size = 0
  case neg =>
    have hne := str_ne hZ
    have HE : Hid (false = r) := by show _ = _; rw [← unhide HR]; exact (fields_text (by omega) (by omega) h0 (by omega) hZ).symm
    clear HR hnum
    go_enter Tryz.func26, Tryz.ntmps26
    go_wp2_with (fail)
    go_ret
    refine ⟨ret_bool ?_, (Below.refl _ _).alloc (Nat.le_refl _) _⟩
    first | exact unhide HE | (rw [← unhide HE]; simp; omega)
  have HF := hide (fields_fin15 (T := txtB) (n := n) (m := m) (s := s) (nums := nums) (kids := kids) h0 hZ)
  have hse := empty_of hZ
  subst hse
  clear hZ
  clear h0 hs hN
  rw [unhide HF] at HR
  clear HF
  by_cases hqnl1 : n < 1
  · have gqnl1 : ¬ (1 : Int) ≤ n := by omega
    have HE : Hid (false = r) := by show _ = _; rw [← unhide HR]; exact (decide_eq_false (by omega)).symm
    clear HR hnum
    go_enter Tryz.func26, Tryz.ntmps26
    go_wp2_with (fail)
    go_ret
    refine ⟨ret_bool ?_, (Below.refl _ _).alloc (Nat.le_refl _) _⟩
    first | exact unhide HE | (rw [← unhide HE]; simp; omega)
  have gqnl1 : (1 : Int) ≤ n := by omega
  by_cases hq16ln : 16 < n
  · have gq16ln : ¬ n ≤ 16 := by omega
    have HE : Hid (false = r) := by show _ = _; rw [← unhide HR]; exact (decide_eq_false (by omega)).symm
    clear HR hnum
    go_enter Tryz.func26, Tryz.ntmps26
    go_wp2_with (fail)
    go_ret
    refine ⟨ret_bool ?_, (Below.refl _ _).alloc (Nat.le_refl _) _⟩
    first | exact unhide HE | (rw [← unhide HE]; simp; omega)
  have gq16ln : n ≤ 16 := by omega
  by_cases hqml1 : m < 1
  · have gqml1 : ¬ (1 : Int) ≤ m := by omega
    have HE : Hid (false = r) := by show _ = _; rw [← unhide HR]; exact (decide_eq_false (by omega)).symm
    clear HR hnum
    go_enter Tryz.func26, Tryz.ntmps26
    go_wp2_with (fail)
    go_ret
    refine ⟨ret_bool ?_, (Below.refl _ _).alloc (Nat.le_refl _) _⟩
    first | exact unhide HE | (rw [← unhide HE]; simp; omega)
  have gqml1 : (1 : Int) ≤ m := by omega
  by_cases hq16lm : 16 < m
  · have gq16lm : ¬ m ≤ 16 := by omega
    have HE : Hid (false = r) := by show _ = _; rw [← unhide HR]; exact (decide_eq_false (by omega)).symm
    clear HR hnum
    go_enter Tryz.func26, Tryz.ntmps26
    go_wp2_with (fail)
    go_ret
    refine ⟨ret_bool ?_, (Below.refl _ _).alloc (Nat.le_refl _) _⟩
    first | exact unhide HE | (rw [← unhide HE]; simp; omega)
  have gq16lm : m ≤ 16 := by omega
  have HE : Hid (true = r) := by show _ = _; rw [← unhide HR]; exact (decide_eq_true (by omega)).symm
  clear HR hnum
  go_enter Tryz.func26, Tryz.ntmps26
  go_wp2_with (fail)
  go_ret
  refine ⟨ret_bool ?_, (Below.refl _ _).alloc (Nat.le_refl _) _⟩
  first | exact unhide HE | (rw [← unhide HE]; simp; omega)
end Go.Proofs.YtinndpnilmmmjaaGreatDoor
