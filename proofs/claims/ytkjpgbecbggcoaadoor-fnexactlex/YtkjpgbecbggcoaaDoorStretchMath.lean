import Derived.Test.YtkjpgbecbggcoaaDoorImplLexA
import Derived.Test.YtkjpgbecbggcoaaDoorMFit0
namespace Go.Proofs.YtkjpgbecbggcoaaDoor
open Go

/-- The end of a text from place i on. -/
theorem tail_size (s : ByteArray) (i : Nat) : (s.extract i s.size).size = s.size - i := by
  rw [Lib.size_eq, sub_list, List.length_take, List.length_drop, ← Lib.size_eq]; omega

theorem tail_bt {s : ByteArray} {i j : Nat} (h : i + j < s.size) : bt (s.extract i s.size) j = bt s (i + j) := by
  have h1 : j < (s.extract i s.size).size := by rw [tail_size]; omega
  rw [bt_data h1, bt_data h, sub_list]
  simp only [List.getD_eq_getElem?_getD, List.getElem?_take, List.getElem?_drop]
  rw [if_pos (by omega)]

theorem tail_tl (s : ByteArray) (i j : Nat) : tl (s.extract i s.size) j = tl s (i + j) := by
  unfold tl
  by_cases h : i + j < s.size
  · rw [tail_bt h, tail_size]
    congr 1
    exact propext ⟨fun ⟨a, b⟩ => ⟨by omega, b⟩, fun ⟨a, b⟩ => ⟨by omega, b⟩⟩
  · rw [decide_eq_false (by rw [tail_size]; omega), decide_eq_false (by omega)]

/-- A character is read in the rest of a text as in the text. -/
theorem tail_decode {s : ByteArray} {i j : Nat} (h : i + j < s.size) : Utf8.decode (s.extract i s.size) j = Utf8.decode s (i + j) := by
  rw [decode_is, decode_is]
  have t1 : tl (s.extract i s.size) (j + 1) = tl s (i + j + 1) := by rw [tail_tl]; rfl
  have t2 : tl (s.extract i s.size) (j + 2) = tl s (i + j + 2) := by rw [tail_tl]; rfl
  have t3 : tl (s.extract i s.size) (j + 3) = tl s (i + j + 3) := by rw [tail_tl]; rfl
  have b : ∀ {k}, tl s (i + j + k) = true → bt (s.extract i s.size) (j + k) = bt s (i + j + k) := fun {k} hk => by
    have := (tl_bd hk).1
    rw [tail_bt (by omega), ← Nat.add_assoc]
  rw [tail_bt h, t1, t2, t3]
  by_cases c0 : bt s (i + j) < 128
  · rw [if_pos c0, if_pos c0]
  · rw [if_neg c0, if_neg c0]
    by_cases c1 : bt s (i + j) / 32 = 6 ∧ tl s (i + j + 1) = true
    · rw [if_pos c1, if_pos c1]
      have : v2 (s.extract i s.size) j = v2 s (i + j) := by unfold v2; rw [tail_bt h, b c1.2]
      rw [this]
    · rw [if_neg c1, if_neg c1]
      by_cases c2 : bt s (i + j) / 16 = 14 ∧ tl s (i + j + 1) = true ∧ tl s (i + j + 2) = true
      · rw [if_pos c2, if_pos c2]
        have : v3 (s.extract i s.size) j = v3 s (i + j) := by unfold v3; rw [tail_bt h, b c2.2.1, b c2.2.2]
        rw [this]
      · rw [if_neg c2, if_neg c2]
        by_cases c3 : bt s (i + j) / 8 = 30 ∧ tl s (i + j + 1) = true ∧ tl s (i + j + 2) = true ∧ tl s (i + j + 3) = true
        · rw [if_pos c3, if_pos c3]
          have : v4 (s.extract i s.size) j = v4 s (i + j) := by unfold v4; rw [tail_bt h, b c3.2.1, b c3.2.2.1, b c3.2.2.2]
          rw [this]
        · rw [if_neg c3, if_neg c3]

theorem decode_ge {s : ByteArray} {i : Nat} (h : ¬ bt s i < 128) : 128 ≤ (Utf8.decode s i).1 := by
  rw [decode_is, if_neg h]
  split
  · split
    · assumption
    · decide
  · split
    · split
      · rename_i h'; show 128 ≤ v3 s i; have := h'.1; omega
      · decide
    · split
      · split
        · rename_i h'; show 128 ≤ v4 s i; have := h'.1; omega
        · decide
      · decide

/-- Where only small characters belong, a stretch ends as the bytes say. -/
theorem strTo_end {p : Nat → Bool} (hp : ∀ v, p v = true → v < 128) {s : ByteArray} : ∀ (F i : Nat), s.size - i < F → i ≤ s.size → strTo p s F i = endOf p s i
  | 0, i, h, _ => by omega
  | F + 1, i, h, hi => by
    rw [strTo]
    by_cases h1 : i < s.size
    · rw [if_pos h1]
      by_cases h2 : bt s i < 128
      · have hd : Utf8.decode s i = (bt s i, 1) := by rw [decode_is, if_pos h2]
        rw [hd]
        by_cases h3 : p (bt s i) = true
        · rw [if_pos h3, endOf_go h1 h3]
          exact strTo_end hp F (i + 1) (by omega) (by omega)
        · rw [if_neg h3, endOf_stop (fun h => h3 h.2)]
      · have hge := decode_ge (s := s) (i := i) h2
        have h3 : ¬ p (Utf8.decode s i).1 = true := fun e => by have := hp _ e; omega
        have h4 : ¬ p (bt s i) = true := fun e => h2 (hp _ e)
        rw [if_neg h3, endOf_stop (fun h => h4 h.2)]
    · rw [if_neg h1, endOf_stop (fun h => h1 h.1)]
      omega

theorem isD_small (v : Nat) (h : isD v = true) : v < 128 := by unfold isD at h; have := of_decide_eq_true h; omega
theorem isL_small (v : Nat) (h : isL v = true) : v < 128 := by
  unfold isL at h
  rcases Bool.or_eq_true _ _ ▸ h with h | h <;> have := of_decide_eq_true h <;> omega
theorem isLD_small (v : Nat) (h : isLD v = true) : v < 128 := by
  unfold isLD at h
  rcases Bool.or_eq_true _ _ ▸ h with h | h
  · exact isL_small v h
  · exact isD_small v h

theorem endOf_tail {p : Nat → Bool} {s : ByteArray} {i : Nat} (hi : i ≤ s.size) : ∀ (d j : Nat), s.size - (i + j) = d → i + j ≤ s.size → endOf p (s.extract i s.size) j + i = endOf p s (i + j)
  | d, j, hd, hj => by
    by_cases h : i + j < s.size ∧ p (bt s (i + j)) = true
    · rw [endOf_go h.1 h.2, endOf_go (s := s.extract i s.size) (i := j) (by rw [tail_size]; omega) (by rw [tail_bt h.1]; exact h.2)]
      match d, hd with
      | 0, hd => omega
      | d + 1, hd => exact endOf_tail hi d (j + 1) (by omega) (by omega)
    · rw [endOf_stop h, endOf_stop (s := s.extract i s.size) (i := j) (fun h' => h (by
        have h1 : i + j < s.size := by have := h'.1; rw [tail_size] at this; omega
        exact ⟨h1, by rw [← tail_bt h1]; exact h'.2⟩))]
      omega

/-- A stretch of small characters at the rest of a text. -/
theorem stretch_tail {p : Nat → Bool} (hp : ∀ v, p v = true → v < 128) {s : ByteArray} {i : Nat} (hi : i ≤ s.size) : stretchN p (s.extract i s.size) + i = endOf p s i := by
  unfold stretchN
  rw [strTo_end hp _ 0 (by omega) (by omega)]
  exact endOf_tail hi _ 0 rfl hi

end Go.Proofs.YtkjpgbecbggcoaaDoor
