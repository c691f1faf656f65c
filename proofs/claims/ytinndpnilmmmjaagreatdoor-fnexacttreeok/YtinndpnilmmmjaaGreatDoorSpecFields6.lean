import Derived.Test.YtinndpnilmmmjaaGreatDoorSpecFields
namespace Go.Proofs.YtinndpnilmmmjaaGreatDoor
open Go.RowKit

set_option maxRecDepth 20000 in
set_option maxHeartbeats 4000000 in
theorem fieldsOk_22 (n m : Int) (s : ByteArray) (a1 a2 : Option Addr) (n1 c1 n2 c2 : Nat) (nums kids : List Int) (w : World) (hs : s.size ≤ 1048576) (hnum : nums.length = n1) :
    Calls Tryz.prog 26 #[.agg #[.int .i64 22, .int .i64 n, .int .i64 m, .string s, .slice a1 n1 c1, .slice a2 n2 c2]] w fun e w' => e = .returned (.bool (fieldsS txtB ⟨22, n, m, s, nums, kids⟩)) ∧ Below w.heap.size w w' := by
  obtain ⟨r, hr⟩ : ∃ r, fieldsS txtB ⟨22, n, m, s, nums, kids⟩ = r := ⟨_, rfl⟩
  rw [hr]
  have HR := hide hr
  clear hr
  by_cases hN : 0 < n1
  · have hg : (0 : Int) < (n1 : Int) := by omega
    have HE : Hid (false = r) := by show _ = _; rw [← unhide HR]; exact (fields_nums (by omega) (by omega)).symm
    clear HR hnum
    go_enter Tryz.func26, Tryz.ntmps26
    go_wp2_with (fail)
    go_ret
    refine ⟨ret_bool ?_, (Below.refl _ _).alloc (Nat.le_refl _) _⟩
    first | exact unhide HE | (rw [← unhide HE]; simp; omega)
  have hg : ¬ (0 : Int) < (n1 : Int) := by omega
  have h0 : nums.length = 0 := by omega
  have hd : decide ((22 : Int) = 17 ∨ (22 : Int) = 20) = false := by simp <;> omega
  cases hB : nameB s false with
  | false =>
    have HC := hide (fun W => nameOk s false false hs hB W)
    have HE : Hid (false = r) := by show _ = _; rw [← unhide HR]; exact (fields_noname (by omega) (by omega) h0 (by omega) (by rw [hd]; exact hB)).symm
    clear HR hnum hB hd
    go_enter Tryz.func26, Tryz.ntmps26
    go_wp2_with (first | (go_at_call 56; refine (unhide HC _).mono ?_; rintro e w1 ⟨rfl, rfl⟩))
    go_ret
    exact ⟨ret_bool (unhide HE), (Below.refl _ _).alloc (Nat.le_refl _) _⟩
  | true =>
    have HC := hide (fun W => nameOk s false true hs hB W)
    have HF := hide (fields_fin (T := txtB) (k := 22) (n := n) (m := m) (s := s) (nums := nums) (kids := kids) (by omega) (by omega) (by omega) h0 (.inl ⟨by omega, by rw [hd]; exact hB⟩))
    clear hd hB
    clear h0 hs hN
    rw [unhide HF] at HR
    clear HF
    have hM : mostK (22 : Int) = 16 := by unfold mostK; repeat' split <;> first | rfl | omega
    have hMk : marksK (22 : Int) = 0 := by unfold marksK; repeat' split <;> first | rfl | omega
    rw [hM, hMk] at HR
    clear hM hMk
    by_cases hA : 16 < n
    · have hq : ¬ n ≤ 16 := by omega
      have HE : Hid (false = r) := by show _ = _; rw [← unhide HR]; exact (decide_eq_false (by omega)).symm
      clear HR hnum
      go_enter Tryz.func26, Tryz.ntmps26
      go_wp2_with (first | (go_at_call 56; refine (unhide HC _).mono ?_; rintro e w1 ⟨rfl, rfl⟩))
      go_ret
      refine ⟨ret_bool ?_, (Below.refl _ _).alloc (Nat.le_refl _) _⟩
      first | exact unhide HE | (rw [← unhide HE]; simp; omega)
    by_cases hC : n < 1
    · have hq : n ≤ 16 := by omega
      have hq1 : ¬ (1 : Int) ≤ n := by omega
      have HE : Hid (false = r) := by show _ = _; rw [← unhide HR]; exact (decide_eq_false (by omega)).symm
      clear HR hnum
      go_enter Tryz.func26, Tryz.ntmps26
      go_wp2_with (first | (go_at_call 56; refine (unhide HC _).mono ?_; rintro e w1 ⟨rfl, rfl⟩))
      go_ret
      refine ⟨ret_bool ?_, (Below.refl _ _).alloc (Nat.le_refl _) _⟩
      first | exact unhide HE | (rw [← unhide HE]; simp; omega)
    have hq : n ≤ 16 := by omega
    have hq1 : (1 : Int) ≤ n := by omega
    by_cases hm0 : m < 0
    · have hp : ¬ (0 : Int) ≤ m := by omega
      have HE : Hid (false = r) := by show _ = _; rw [← unhide HR]; exact (decide_eq_false (by omega)).symm
      clear HR hnum
      go_enter Tryz.func26, Tryz.ntmps26
      go_wp2_with (first | (go_at_call 56; refine (unhide HC _).mono ?_; rintro e w1 ⟨rfl, rfl⟩))
      go_ret
      refine ⟨ret_bool ?_, (Below.refl _ _).alloc (Nat.le_refl _) _⟩
      first | exact unhide HE | (rw [← unhide HE]; simp; omega)
    have hp : (0 : Int) ≤ m := by omega
    by_cases hm1 : 0 < m
    · have hp1 : ¬ m ≤ 0 := by omega
      have HE : Hid (false = r) := by show _ = _; rw [← unhide HR]; exact (decide_eq_false (by omega)).symm
      clear HR hnum
      go_enter Tryz.func26, Tryz.ntmps26
      go_wp2_with (first | (go_at_call 56; refine (unhide HC _).mono ?_; rintro e w1 ⟨rfl, rfl⟩))
      go_ret
      refine ⟨ret_bool ?_, (Below.refl _ _).alloc (Nat.le_refl _) _⟩
      first | exact unhide HE | (rw [← unhide HE]; simp; omega)
    have hp1 : m ≤ 0 := by omega
    have HE : Hid (true = r) := by show _ = _; rw [← unhide HR]; exact (decide_eq_true (by omega)).symm
    clear HR hnum
    go_enter Tryz.func26, Tryz.ntmps26
    go_wp2_with (first | (go_at_call 56; refine (unhide HC _).mono ?_; rintro e w1 ⟨rfl, rfl⟩))
    go_ret
    refine ⟨ret_bool ?_, (Below.refl _ _).alloc (Nat.le_refl _) _⟩
    first | exact unhide HE | (rw [← unhide HE]; simp; omega)

set_option maxRecDepth 20000 in
set_option maxHeartbeats 4000000 in
theorem fieldsOk_11 (n m : Int) (s : ByteArray) (a1 a2 : Option Addr) (n1 c1 n2 c2 : Nat) (nums kids : List Int) (w : World) (hs : s.size ≤ 1048576) (hnum : nums.length = n1) :
    Calls Tryz.prog 26 #[.agg #[.int .i64 11, .int .i64 n, .int .i64 m, .string s, .slice a1 n1 c1, .slice a2 n2 c2]] w fun e w' => e = .returned (.bool (fieldsS txtB ⟨11, n, m, s, nums, kids⟩)) ∧ Below w.heap.size w w' := by
  obtain ⟨r, hr⟩ : ∃ r, fieldsS txtB ⟨11, n, m, s, nums, kids⟩ = r := ⟨_, rfl⟩
  rw [hr]
  have HR := hide hr
  clear hr
  by_cases hN : 0 < n1
  · have hg : (0 : Int) < (n1 : Int) := by omega
    have HE : Hid (false = r) := by show _ = _; rw [← unhide HR]; exact (fields_nums (by omega) (by omega)).symm
    clear HR hnum
    go_enter Tryz.func26, Tryz.ntmps26
    go_wp2_with (fail)
    go_ret
    refine ⟨ret_bool ?_, (Below.refl _ _).alloc (Nat.le_refl _) _⟩
    first | exact unhide HE | (rw [← unhide HE]; simp; omega)
  have hg : ¬ (0 : Int) < (n1 : Int) := by omega
  have h0 : nums.length = 0 := by omega
  by_cases hZ : s.size = 0
  case neg =>
    have hne := str_ne hZ
    have HE : Hid (false = r) := by show _ = _; rw [← unhide HR]; exact (fields_text (by omega) (by omega) h0 (by omega) hZ).symm
    clear HR hnum
    go_enter Tryz.func26, Tryz.ntmps26
    go_wp2_with (fail)
    go_ret
    refine ⟨ret_bool ?_, (Below.refl _ _).alloc (Nat.le_refl _) _⟩
    first | exact unhide HE | (rw [← unhide HE]; simp; omega)
  have HF := hide (fields_fin (T := txtB) (k := 11) (n := n) (m := m) (s := s) (nums := nums) (kids := kids) (by omega) (by omega) (by omega) h0 (.inr ⟨by omega, hZ⟩))
  have hse := empty_of hZ
  subst hse
  clear hZ
  clear h0 hs hN
  rw [unhide HF] at HR
  clear HF
  have hM : mostK (11 : Int) = 33 := by unfold mostK; repeat' split <;> first | rfl | omega
  have hMk : marksK (11 : Int) = 0 := by unfold marksK; repeat' split <;> first | rfl | omega
  rw [hM, hMk] at HR
  clear hM hMk
  by_cases hA : 33 < n
  · have hq : ¬ n ≤ 33 := by omega
    have HE : Hid (false = r) := by show _ = _; rw [← unhide HR]; exact (decide_eq_false (by omega)).symm
    clear HR hnum
    go_enter Tryz.func26, Tryz.ntmps26
    go_wp2_with (fail)
    go_ret
    refine ⟨ret_bool ?_, (Below.refl _ _).alloc (Nat.le_refl _) _⟩
    first | exact unhide HE | (rw [← unhide HE]; simp; omega)
  by_cases hC : n < 1
  · have hq : n ≤ 33 := by omega
    have hq1 : ¬ (1 : Int) ≤ n := by omega
    have HE : Hid (false = r) := by show _ = _; rw [← unhide HR]; exact (decide_eq_false (by omega)).symm
    clear HR hnum
    go_enter Tryz.func26, Tryz.ntmps26
    go_wp2_with (fail)
    go_ret
    refine ⟨ret_bool ?_, (Below.refl _ _).alloc (Nat.le_refl _) _⟩
    first | exact unhide HE | (rw [← unhide HE]; simp; omega)
  have hq : n ≤ 33 := by omega
  have hq1 : (1 : Int) ≤ n := by omega
  by_cases hm0 : m < 0
  · have hp : ¬ (0 : Int) ≤ m := by omega
    have HE : Hid (false = r) := by show _ = _; rw [← unhide HR]; exact (decide_eq_false (by omega)).symm
    clear HR hnum
    go_enter Tryz.func26, Tryz.ntmps26
    go_wp2_with (fail)
    go_ret
    refine ⟨ret_bool ?_, (Below.refl _ _).alloc (Nat.le_refl _) _⟩
    first | exact unhide HE | (rw [← unhide HE]; simp; omega)
  have hp : (0 : Int) ≤ m := by omega
  by_cases hm1 : 0 < m
  · have hp1 : ¬ m ≤ 0 := by omega
    have HE : Hid (false = r) := by show _ = _; rw [← unhide HR]; exact (decide_eq_false (by omega)).symm
    clear HR hnum
    go_enter Tryz.func26, Tryz.ntmps26
    go_wp2_with (fail)
    go_ret
    refine ⟨ret_bool ?_, (Below.refl _ _).alloc (Nat.le_refl _) _⟩
    first | exact unhide HE | (rw [← unhide HE]; simp; omega)
  have hp1 : m ≤ 0 := by omega
  have HE : Hid (true = r) := by show _ = _; rw [← unhide HR]; exact (decide_eq_true (by omega)).symm
  clear HR hnum
  go_enter Tryz.func26, Tryz.ntmps26
  go_wp2_with (fail)
  go_ret
  refine ⟨ret_bool ?_, (Below.refl _ _).alloc (Nat.le_refl _) _⟩
  first | exact unhide HE | (rw [← unhide HE]; simp; omega)

end Go.Proofs.YtinndpnilmmmjaaGreatDoor
