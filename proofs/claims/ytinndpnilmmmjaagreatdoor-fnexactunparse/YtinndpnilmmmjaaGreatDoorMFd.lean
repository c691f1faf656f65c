import Derived.Test.YtinndpnilmmmjaaGreatDoorMFa
import Derived.Test.YtinndpnilmmmjaaGreatDoorMFb
import Derived.Test.YtinndpnilmmmjaaGreatDoorMFb
import Derived.Test.YtinndpnilmmmjaaGreatDoorMFc
import Derived.Test.YtinndpnilmmmjaaGreatDoorMFc
namespace Go.Proofs.YtinndpnilmmmjaaGreatDoor
open Go.RowKit

set_option maxRecDepth 20000 in
set_option maxHeartbeats 4000000 in
theorem fieldsOk_14 (n m : Int) (s : ByteArray) (a1 a2 : Option Addr) (n1 c1 n2 c2 : Nat) (nums kids : List Int) (w : World) (hs : s.size ≤ 1048576) (hnum : nums.length = n1) :
    Calls Tryz.prog 26 #[.agg #[.int .i64 14, .int .i64 n, .int .i64 m, .string s, .slice a1 n1 c1, .slice a2 n2 c2]] w fun e w' => e = .returned (.bool (fieldsS txtB ⟨14, n, m, s, nums, kids⟩)) ∧ Below w.heap.size w w' := by
  obtain ⟨r, hr⟩ : ∃ r, fieldsS txtB ⟨14, n, m, s, nums, kids⟩ = r := ⟨_, rfl⟩
  rw [hr]
  have HR := hide hr
  clear hr
  by_cases hN : 0 < n1
  · have hg : (0 : Int) < (n1 : Int) := by omega
    have HE : Hid (false = r) := by show _ = _; rw [← unhide HR]; exact (fields_nums (by omega) (by omega)).symm
    clear HR hnum
    go_enter Tryz.func26, Tryz.ntmps26
    go_wp2_with (fail)
    go_ret
    refine ⟨ret_bool ?_, (Below.refl _ _).alloc (Nat.le_refl _) _⟩
    first | exact unhide HE | (rw [← unhide HE]; simp; omega)
  have hg : ¬ (0 : Int) < (n1 : Int) := by omega
  have h0 : nums.length = 0 := by omega
  by_cases hZ : s.size = 0
  case neg =>
    have hne := str_ne hZ
    have HE : Hid (false = r) := by show _ = _; rw [← unhide HR]; exact (fields_text (by omega) (by omega) h0 (by omega) hZ).symm
    clear HR hnum
    go_enter Tryz.func26, Tryz.ntmps26
    go_wp2_with (fail)
    go_ret
    refine ⟨ret_bool ?_, (Below.refl _ _).alloc (Nat.le_refl _) _⟩
    first | exact unhide HE | (rw [← unhide HE]; simp; omega)
  have HF := hide (fields_fin (T := txtB) (k := 14) (n := n) (m := m) (s := s) (nums := nums) (kids := kids) (by omega) (by omega) (by omega) h0 (.inr ⟨by omega, hZ⟩))
  have hse := empty_of hZ
  subst hse
  clear hZ
  clear h0 hs hN
  rw [unhide HF] at HR
  clear HF
  have hM : mostK (14 : Int) = 16 := by unfold mostK; repeat' split <;> first | rfl | omega
  have hMk : marksK (14 : Int) = 0 := by unfold marksK; repeat' split <;> first | rfl | omega
  rw [hM, hMk] at HR
  clear hM hMk
  by_cases hA : 16 < n
  · have hq : ¬ n ≤ 16 := by omega
    have HE : Hid (false = r) := by show _ = _; rw [← unhide HR]; exact (decide_eq_false (by omega)).symm
    clear HR hnum
    go_enter Tryz.func26, Tryz.ntmps26
    go_wp2_with (fail)
    go_ret
    refine ⟨ret_bool ?_, (Below.refl _ _).alloc (Nat.le_refl _) _⟩
    first | exact unhide HE | (rw [← unhide HE]; simp; omega)
  by_cases hC : n < 1
  · have hq : n ≤ 16 := by omega
    have hq1 : ¬ (1 : Int) ≤ n := by omega
    have HE : Hid (false = r) := by show _ = _; rw [← unhide HR]; exact (decide_eq_false (by omega)).symm
    clear HR hnum
    go_enter Tryz.func26, Tryz.ntmps26
    go_wp2_with (fail)
    go_ret
    refine ⟨ret_bool ?_, (Below.refl _ _).alloc (Nat.le_refl _) _⟩
    first | exact unhide HE | (rw [← unhide HE]; simp; omega)
  have hq : n ≤ 16 := by omega
  have hq1 : (1 : Int) ≤ n := by omega
  by_cases hm0 : m < 0
  · have hp : ¬ (0 : Int) ≤ m := by omega
    have HE : Hid (false = r) := by show _ = _; rw [← unhide HR]; exact (decide_eq_false (by omega)).symm
    clear HR hnum
    go_enter Tryz.func26, Tryz.ntmps26
    go_wp2_with (fail)
    go_ret
    refine ⟨ret_bool ?_, (Below.refl _ _).alloc (Nat.le_refl _) _⟩
    first | exact unhide HE | (rw [← unhide HE]; simp; omega)
  have hp : (0 : Int) ≤ m := by omega
  by_cases hm1 : 0 < m
  · have hp1 : ¬ m ≤ 0 := by omega
    have HE : Hid (false = r) := by show _ = _; rw [← unhide HR]; exact (decide_eq_false (by omega)).symm
    clear HR hnum
    go_enter Tryz.func26, Tryz.ntmps26
    go_wp2_with (fail)
    go_ret
    refine ⟨ret_bool ?_, (Below.refl _ _).alloc (Nat.le_refl _) _⟩
    first | exact unhide HE | (rw [← unhide HE]; simp; omega)
  have hp1 : m ≤ 0 := by omega
  have HE : Hid (true = r) := by show _ = _; rw [← unhide HR]; exact (decide_eq_true (by omega)).symm
  clear HR hnum
  go_enter Tryz.func26, Tryz.ntmps26
  go_wp2_with (fail)
  go_ret
  refine ⟨ret_bool ?_, (Below.refl _ _).alloc (Nat.le_refl _) _⟩
  first | exact unhide HE | (rw [← unhide HE]; simp; omega)

set_option maxRecDepth 20000 in
set_option maxHeartbeats 4000000 in
theorem fieldsOk_15 (n m : Int) (s : ByteArray) (a1 a2 : Option Addr) (n1 c1 n2 c2 : Nat) (nums kids : List Int) (w : World) (hs : s.size ≤ 1048576) (hnum : nums.length = n1) :
    Calls Tryz.prog 26 #[.agg #[.int .i64 15, .int .i64 n, .int .i64 m, .string s, .slice a1 n1 c1, .slice a2 n2 c2]] w fun e w' => e = .returned (.bool (fieldsS txtB ⟨15, n, m, s, nums, kids⟩)) ∧ Below w.heap.size w w' := by
  obtain ⟨r, hr⟩ : ∃ r, fieldsS txtB ⟨15, n, m, s, nums, kids⟩ = r := ⟨_, rfl⟩
  rw [hr]
  have HR := hide hr
  clear hr
  by_cases hN : 0 < n1
  · have hg : (0 : Int) < (n1 : Int) := by omega
    have HE : Hid (false = r) := by show _ = _; rw [← unhide HR]; exact (fields_nums (by omega) (by omega)).symm
    clear HR hnum
    go_enter Tryz.func26, Tryz.ntmps26
    go_wp2_with (fail)
    go_ret
    refine ⟨ret_bool ?_, (Below.refl _ _).alloc (Nat.le_refl _) _⟩
    first | exact unhide HE | (rw [← unhide HE]; simp; omega)
  have hg : ¬ (0 : Int) < (n1 : Int) := by omega
  have h0 : nums.length = 0 := by omega
  by_cases hZ : s.size = 0
  case neg =>
    have hne := str_ne hZ
    have HE : Hid (false = r) := by show _ = _; rw [← unhide HR]; exact (fields_text (by omega) (by omega) h0 (by omega) hZ).symm
    clear HR hnum
    go_enter Tryz.func26, Tryz.ntmps26
    go_wp2_with (fail)
    go_ret
    refine ⟨ret_bool ?_, (Below.refl _ _).alloc (Nat.le_refl _) _⟩
    first | exact unhide HE | (rw [← unhide HE]; simp; omega)
  have HF := hide (fields_fin15 (T := txtB) (n := n) (m := m) (s := s) (nums := nums) (kids := kids) h0 hZ)
  have hse := empty_of hZ
  subst hse
  clear hZ
  clear h0 hs hN
  rw [unhide HF] at HR
  clear HF
  by_cases hqnl1 : n < 1
  · have gqnl1 : ¬ (1 : Int) ≤ n := by omega
    have HE : Hid (false = r) := by show _ = _; rw [← unhide HR]; exact (decide_eq_false (by omega)).symm
    clear HR hnum
    go_enter Tryz.func26, Tryz.ntmps26
    go_wp2_with (fail)
    go_ret
    refine ⟨ret_bool ?_, (Below.refl _ _).alloc (Nat.le_refl _) _⟩
    first | exact unhide HE | (rw [← unhide HE]; simp; omega)
  have gqnl1 : (1 : Int) ≤ n := by omega
  by_cases hq16ln : 16 < n
  · have gq16ln : ¬ n ≤ 16 := by omega
    have HE : Hid (false = r) := by show _ = _; rw [← unhide HR]; exact (decide_eq_false (by omega)).symm
    clear HR hnum
    go_enter Tryz.func26, Tryz.ntmps26
    go_wp2_with (fail)
    go_ret
    refine ⟨ret_bool ?_, (Below.refl _ _).alloc (Nat.le_refl _) _⟩
    first | exact unhide HE | (rw [← unhide HE]; simp; omega)
  have gq16ln : n ≤ 16 := by omega
  by_cases hqml1 : m < 1
  · have gqml1 : ¬ (1 : Int) ≤ m := by omega
    have HE : Hid (false = r) := by show _ = _; rw [← unhide HR]; exact (decide_eq_false (by omega)).symm
    clear HR hnum
    go_enter Tryz.func26, Tryz.ntmps26
    go_wp2_with (fail)
    go_ret
    refine ⟨ret_bool ?_, (Below.refl _ _).alloc (Nat.le_refl _) _⟩
    first | exact unhide HE | (rw [← unhide HE]; simp; omega)
  have gqml1 : (1 : Int) ≤ m := by omega
  by_cases hq16lm : 16 < m
  · have gq16lm : ¬ m ≤ 16 := by omega
    have HE : Hid (false = r) := by show _ = _; rw [← unhide HR]; exact (decide_eq_false (by omega)).symm
    clear HR hnum
    go_enter Tryz.func26, Tryz.ntmps26
    go_wp2_with (fail)
    go_ret
    refine ⟨ret_bool ?_, (Below.refl _ _).alloc (Nat.le_refl _) _⟩
    first | exact unhide HE | (rw [← unhide HE]; simp; omega)
  have gq16lm : m ≤ 16 := by omega
  have HE : Hid (true = r) := by show _ = _; rw [← unhide HR]; exact (decide_eq_true (by omega)).symm
  clear HR hnum
  go_enter Tryz.func26, Tryz.ntmps26
  go_wp2_with (fail)
  go_ret
  refine ⟨ret_bool ?_, (Below.refl _ _).alloc (Nat.le_refl _) _⟩
  first | exact unhide HE | (rw [← unhide HE]; simp; omega)
end Go.Proofs.YtinndpnilmmmjaaGreatDoor
namespace Go.Proofs.YtinndpnilmmmjaaGreatDoor
open Go.RowKit

theorem num_take {zs : List Int} {k : Nat} (hk : k < zs.length) (h : (zs.take k).all isNum = true) (hp : isNum (zs.getD k 0) = true) : (zs.take (k + 1)).all isNum = true := by
  rw [List.take_succ_eq_append_getElem hk, List.all_append, h]
  have : zs.getD k 0 = zs[k] := by simp [hk]
  rw [this] at hp
  simp [hp]

theorem num_false {zs : List Int} {k : Nat} (hk : k < zs.length) (hp : isNum (zs.getD k 0) = false) : zs.all isNum = false := by
  have : zs.getD k 0 = zs[k] := by simp [hk]
  rw [this] at hp
  exact List.all_eq_false.2 ⟨zs[k], List.getElem_mem hk, by simp [hp]⟩

theorem fields_1 {T : ByteArray → Bool} {n m : Int} {s : ByteArray} {nums kids : List Int} : fieldsS T ⟨1, n, m, s, nums, kids⟩ = (nums.all isNum && decide (0 < nums.length ∧ n = 0 ∧ m = 0 ∧ s.size = 0)) := by
  unfold fieldsS
  dsimp only
  rw [if_pos rfl]

theorem fields_2 {T : ByteArray → Bool} {n m : Int} {s : ByteArray} {nums kids : List Int} (hn : nums.length = 0) : fieldsS T ⟨2, n, m, s, nums, kids⟩ = (decide (n = 0 ∧ m = 0) && T s) := by
  unfold fieldsS
  dsimp only
  rw [if_neg (show ¬ (2 : Int) = 1 by decide), if_neg (show ¬ 0 < nums.length by omega), if_pos rfl]

set_option maxRecDepth 20000 in
set_option maxHeartbeats 4000000 in
theorem fieldsOk_1 (n m : Int) (s : ByteArray) (a1 a2 : Option Addr) (n1 c1 n2 c2 : Nat) (nums kids : List Int) (w : World) (h1 : Row w a1 n1 nums) :
    Calls Tryz.prog 26 #[.agg #[.int .i64 1, .int .i64 n, .int .i64 m, .string s, .slice a1 n1 c1, .slice a2 n2 c2]] w fun e w' => e = .returned (.bool (fieldsS txtB ⟨1, n, m, s, nums, kids⟩)) ∧ Below w.heap.size w w' := by
  obtain ⟨r, hr⟩ : ∃ r, fieldsS txtB ⟨1, n, m, s, nums, kids⟩ = r := ⟨_, rfl⟩
  rw [hr]
  rw [fields_1] at hr
  have HR := hide hr
  have hlen := h1.len
  have hsm := h1.small
  have H1 := hide (h1.alloc (.cells #[.int .i64 1, .int .i64 n, .int .i64 m, .string s, .slice a1 n1 c1, .slice a2 n2 c2] 47))
  clear hr h1
  go_enter Tryz.func26, Tryz.ntmps26
  go_wp2_with fail
  go_loopw [3] (fun i wr => ∃ k : Nat, k ≤ n1 ∧ i = .int .i64 k ∧ Hid ((nums.take k).all isNum = true) ∧ wr = w.alloc (.cells #[.int .i64 1, .int .i64 n, .int .i64 m, .string s, .slice a1 n1 c1, .slice a2 n2 c2] 47)) (fun i _ => n1 - (intOf i).toNat)
  case atStart => exact ⟨0, Nat.zero_le _, rfl, rfl, rfl⟩
  case round =>
    obtain ⟨k, hk, rfl, HA, rfl⟩ := hrel
    by_cases hlt : k < n1
    · have hlti : (k : Int) < (n1 : Int) := by omega
      obtain ⟨b, off, rfl, hbl, hc⟩ := (unhide H1).get hlt
      have HT : Hid (isNum (nums.getD k 0) = true → (nums.take (k + 1)).all isNum = true) := fun h => num_take (by omega) (unhide HA) h
      have HF : Hid (isNum (nums.getD k 0) = false → false = r) := fun h => by rw [← unhide HR, num_false (k := k) (by omega) h]; rfl
      obtain ⟨x, hx⟩ : ∃ x, nums.getD k 0 = x := ⟨_, rfl⟩
      rw [hx] at hc HT HF
      clear hx HR HA
      by_cases g1 : 1000000000000000 < x
      · have HE : Hid (false = r) := unhide HF (decide_eq_false (by omega))
        clear HT HF
        go_wp2_with fail
        go_ret
        exact ⟨ret_bool (unhide HE), (Below.refl _ _).alloc (Nat.le_refl _) _⟩
      by_cases g2 : x < -1000000000000000
      · have HE : Hid (false = r) := unhide HF (decide_eq_false (by omega))
        clear HT HF
        go_wp2_with fail
        go_ret
        exact ⟨ret_bool (unhide HE), (Below.refl _ _).alloc (Nat.le_refl _) _⟩
      have HE := hide (unhide HT (decide_eq_true (by omega)))
      clear HT HF
      go_wp2_with fail
      go_roundw
      case rel => exact ⟨k + 1, by omega, by go_num, HE, trivial⟩
      case measure => simp [intOf]; omega
    · have hkn : k = n1 := by omega
      have hlti : ¬ (k : Int) < (n1 : Int) := by omega
      have HF : Hid (decide (0 < n1 ∧ n = 0 ∧ m = 0 ∧ s.size = 0) = r) := by
        show _ = r
        have := unhide HA
        rw [List.take_of_length_le (by omega)] at this
        rw [← unhide HR, this, hlen]
        rfl
      subst hkn
      clear HR HA
      by_cases g0 : 0 < k
      case neg =>
        have gi : ¬ (0 : Int) < (k : Int) := by omega
        have HE : Hid (false = r) := by show _ = _; rw [← unhide HF, decide_eq_false (by omega)]
        clear HF
        go_wp2_with fail
        go_ret
        exact ⟨ret_bool (unhide HE), (Below.refl _ _).alloc (Nat.le_refl _) _⟩
      have gi : (0 : Int) < (k : Int) := by omega
      by_cases g1 : n = 0
      case neg =>
        have gi1 := ne_false g1
        have HE : Hid (false = r) := by show _ = _; rw [← unhide HF, decide_eq_false (by omega)]
        clear HF g1
        go_wp2_with fail
        go_ret
        exact ⟨ret_bool (unhide HE), (Below.refl _ _).alloc (Nat.le_refl _) _⟩
      by_cases g2 : m = 0
      case neg =>
        have gi1 : (n == 0) = true := by simpa using g1
        have gi2 := ne_false g2
        have HE : Hid (false = r) := by show _ = _; rw [← unhide HF, decide_eq_false (by omega)]
        clear HF g1 g2
        go_wp2_with fail
        go_ret
        exact ⟨ret_bool (unhide HE), (Below.refl _ _).alloc (Nat.le_refl _) _⟩
      have gi1 : (n == 0) = true := by simpa using g1
      have gi2 : (m == 0) = true := by simpa using g2
      by_cases g3 : s.size = 0
      case neg =>
        have gi3 := str_ne g3
        have HE : Hid (false = r) := by show _ = _; rw [← unhide HF, decide_eq_false (by omega)]
        clear HF g1 g2 g3
        go_wp2_with fail
        go_ret
        exact ⟨ret_bool (unhide HE), (Below.refl _ _).alloc (Nat.le_refl _) _⟩
      have gi3 : s.toList.isEmpty = true := by rw [Lib.toList_data, empty_of g3]; rfl
      have HE : Hid (true = r) := by show _ = _; rw [← unhide HF, decide_eq_true (by omega)]
      clear HF g1 g2 g3
      go_wp2_with fail
      go_ret
      exact ⟨ret_bool (unhide HE), (Below.refl _ _).alloc (Nat.le_refl _) _⟩

set_option maxRecDepth 20000 in
set_option maxHeartbeats 4000000 in
theorem fieldsOk_2 (n m : Int) (s : ByteArray) (a1 a2 : Option Addr) (n1 c1 n2 c2 : Nat) (nums kids : List Int) (w : World) (hs : s.size ≤ 1048576) (hnum : nums.length = n1) :
    Calls Tryz.prog 26 #[.agg #[.int .i64 2, .int .i64 n, .int .i64 m, .string s, .slice a1 n1 c1, .slice a2 n2 c2]] w fun e w' => e = .returned (.bool (fieldsS txtB ⟨2, n, m, s, nums, kids⟩)) ∧ Below w.heap.size w w' := by
  obtain ⟨r, hr⟩ : ∃ r, fieldsS txtB ⟨2, n, m, s, nums, kids⟩ = r := ⟨_, rfl⟩
  rw [hr]
  have HR := hide hr
  clear hr
  by_cases hN : 0 < n1
  · have hg : (0 : Int) < (n1 : Int) := by omega
    have HE : Hid (false = r) := by show _ = _; rw [← unhide HR]; exact (fields_nums (by decide) (by omega)).symm
    clear HR hnum
    go_enter Tryz.func26, Tryz.ntmps26
    go_wp2_with fail
    go_ret
    exact ⟨ret_bool (unhide HE), (Below.refl _ _).alloc (Nat.le_refl _) _⟩
  have hg : ¬ (0 : Int) < (n1 : Int) := by omega
  rw [fields_2 (by omega)] at HR
  by_cases g1 : n = 0
  case neg =>
    have gi1 := ne_false g1
    have HE : Hid (false = r) := by show _ = _; rw [← unhide HR, decide_eq_false (by omega)]; rfl
    clear HR hnum g1
    go_enter Tryz.func26, Tryz.ntmps26
    go_wp2_with fail
    go_ret
    exact ⟨ret_bool (unhide HE), (Below.refl _ _).alloc (Nat.le_refl _) _⟩
  subst g1
  by_cases g2 : m = 0
  case neg =>
    have gi1 := ne_false g2
    have HE : Hid (false = r) := by show _ = _; rw [← unhide HR, decide_eq_false (by omega)]; rfl
    clear HR hnum g2
    go_enter Tryz.func26, Tryz.ntmps26
    go_wp2_with fail
    go_ret
    exact ⟨ret_bool (unhide HE), (Below.refl _ _).alloc (Nat.le_refl _) _⟩
  subst g2
  rw [decide_eq_true (by omega), Bool.true_and] at HR
  by_cases g3 : 2000 < s.size
  · have gi1 : ¬ (s.size : Int) ≤ 2000 := by omega
    have HE : Hid (false = r) := by show _ = _; rw [← unhide HR, txt_small g3]
    clear HR hnum g3
    go_enter Tryz.func26, Tryz.ntmps26
    go_wp2_with fail
    go_ret
    exact ⟨ret_bool (unhide HE), (Below.refl _ _).alloc (Nat.le_refl _) _⟩
  have gi1 : (s.size : Int) ≤ 2000 := by omega
  have HC : Hid (∀ W, Calls Tryz.prog 55 #[.agg #[.int .i64 2, .int .i64 0, .string s, .int .i64 0]] W fun e w' => e = .returned (.string (tokText 2 0 s)) ∧ Below W.heap.size W w') := fun W => specTok_text 0 0 s W (by omega)
  have HR2 : Hid (decide ((tokText 2 0 s).size ≠ 0) = r) := unhide HR
  obtain ⟨y, hy⟩ : ∃ y, tokText 2 0 s = y := ⟨_, rfl⟩
  rw [hy] at HC HR2
  clear hy HR hnum g3
  by_cases g4 : y.size = 0
  · have hye := empty_of g4
    have HE : Hid (false = r) := by show _ = _; rw [← unhide HR2, decide_eq_false (by omega)]
    subst hye
    clear HR2 g4
    go_enter Tryz.func26, Tryz.ntmps26
    go_wp2_with (first | (go_at_call 55; refine (unhide HC _).mono ?_; rintro e w1 ⟨rfl, hb1⟩; have HB := hide (((Below.refl w.heap.size w).alloc (Nat.le_refl _) _).trans (hb1.mono (by simp))); clear hb1))
    go_ret
    exact ⟨ret_bool (unhide HE), unhide HB⟩
  · have gy := str_ne g4
    have HE : Hid (true = r) := by show _ = _; rw [← unhide HR2, decide_eq_true g4]
    clear HR2 g4
    go_enter Tryz.func26, Tryz.ntmps26
    go_wp2_with (first | (go_at_call 55; refine (unhide HC _).mono ?_; rintro e w1 ⟨rfl, hb1⟩; have HB := hide (((Below.refl w.heap.size w).alloc (Nat.le_refl _) _).trans (hb1.mono (by simp))); clear hb1))
    go_ret
    exact ⟨ret_bool (unhide HE), unhide HB⟩

theorem l2FieldsOk_any (k n m : Int) (s : ByteArray) (a1 a2 : Option Addr) (n1 c1 n2 c2 : Nat) (nums kids : List Int) (w : World) (hk : 1 ≤ k ∧ k ≤ 25) (hs : s.size ≤ 1048576) (h1 : Row w a1 n1 nums) :
    Calls Tryz.prog 26 #[.agg #[.int .i64 k, .int .i64 n, .int .i64 m, .string s, .slice a1 n1 c1, .slice a2 n2 c2]] w fun e w' => e = .returned (.bool (fieldsS txtB ⟨k, n, m, s, nums, kids⟩)) ∧ Below w.heap.size w w' := by
  rcases (show k = 1 ∨ k = 2 ∨ k = 3 ∨ (4 ≤ k ∧ k ≤ 10) ∨ k = 11 ∨ k = 12 ∨ k = 13 ∨ k = 14 ∨ k = 15 ∨ (k = 16 ∨ k = 18) ∨ k = 17 ∨ k = 19 ∨ k = 20 ∨ k = 21 ∨ k = 22 ∨ (23 ≤ k ∧ k ≤ 25) by omega) with e | e | e | e | e | e | e | e | e | e | e | e | e | e | e | e
  · subst e; exact fieldsOk_1 n m s a1 a2 n1 c1 n2 c2 nums kids w h1
  · subst e; exact fieldsOk_2 n m s a1 a2 n1 c1 n2 c2 nums kids w hs h1.len
  · subst e; exact fieldsOk_3 3 n m s a1 a2 n1 c1 n2 c2 nums kids w (.inl rfl) hs h1.len
  · exact fieldsOk_A k n m s a1 a2 n1 c1 n2 c2 nums kids w e hs h1.len
  · subst e; exact fieldsOk_11 n m s a1 a2 n1 c1 n2 c2 nums kids w hs h1.len
  · subst e; exact fieldsOk_12 12 n m s a1 a2 n1 c1 n2 c2 nums kids w (.inl rfl) hs h1.len
  · subst e; exact fieldsOk_12 13 n m s a1 a2 n1 c1 n2 c2 nums kids w (.inr rfl) hs h1.len
  · subst e; exact fieldsOk_14 n m s a1 a2 n1 c1 n2 c2 nums kids w hs h1.len
  · subst e; exact fieldsOk_15 n m s a1 a2 n1 c1 n2 c2 nums kids w hs h1.len
  · exact fieldsOk_B k n m s a1 a2 n1 c1 n2 c2 nums kids w e hs h1.len
  · subst e; exact fieldsOk_17 17 n m s a1 a2 n1 c1 n2 c2 nums kids w (.inl rfl) hs h1.len
  · subst e; exact fieldsOk_3 19 n m s a1 a2 n1 c1 n2 c2 nums kids w (.inr (.inl rfl)) hs h1.len
  · subst e; exact fieldsOk_17 20 n m s a1 a2 n1 c1 n2 c2 nums kids w (.inr rfl) hs h1.len
  · subst e; exact fieldsOk_3 21 n m s a1 a2 n1 c1 n2 c2 nums kids w (.inr (.inr rfl)) hs h1.len
  · subst e; exact fieldsOk_22 n m s a1 a2 n1 c1 n2 c2 nums kids w hs h1.len
  · exact fieldsOk_C k n m s a1 a2 n1 c1 n2 c2 nums kids w e hs h1.len

end Go.Proofs.YtinndpnilmmmjaaGreatDoor
