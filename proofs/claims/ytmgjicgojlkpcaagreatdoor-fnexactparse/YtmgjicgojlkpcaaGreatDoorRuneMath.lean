import Derived.Test.YtmgjicgojlkpcaaGreatDoorLexMath
namespace Go.Proofs.YtmgjicgojlkpcaaGreatDoor
open Go

/-- A byte goes on in a character. -/
def tl (s : ByteArray) (j : Nat) : Bool := decide (j < s.size ∧ 128 ≤ bt s j ∧ bt s j < 192)

def v2 (s : ByteArray) (i : Nat) : Nat := bt s i % 32 * 64 + bt s (i + 1) % 64
def v3 (s : ByteArray) (i : Nat) : Nat := bt s i % 16 * 4096 + bt s (i + 1) % 64 * 64 + bt s (i + 2) % 64
def v4 (s : ByteArray) (i : Nat) : Nat := bt s i % 8 * 262144 + bt s (i + 1) % 64 * 4096 + bt s (i + 2) % 64 * 64 + bt s (i + 3) % 64

theorem decode_is (s : ByteArray) (i : Nat) : Utf8.decode s i =
    if bt s i < 128 then (bt s i, 1)
    else if bt s i / 32 = 6 ∧ tl s (i + 1) = true then (if 128 ≤ v2 s i then (v2 s i, 2) else (65533, 1))
    else if bt s i / 16 = 14 ∧ tl s (i + 1) = true ∧ tl s (i + 2) = true then (if 2048 ≤ v3 s i ∧ Utf8.valid (v3 s i : Nat) = true then (v3 s i, 3) else (65533, 1))
    else if bt s i / 8 = 30 ∧ tl s (i + 1) = true ∧ tl s (i + 2) = true ∧ tl s (i + 3) = true then (if 65536 ≤ v4 s i ∧ Utf8.valid (v4 s i : Nat) = true then (v4 s i, 4) else (65533, 1))
    else (65533, 1) := by
  have ht : ∀ k, (decide (i + k < s.size) && (bt s (i + k) / 64 == 2)) = tl s (i + k) := fun k => by
    unfold tl
    have := bt_lt s (i + k)
    by_cases h : i + k < s.size
    · by_cases h2 : bt s (i + k) / 64 = 2
      · rw [decide_eq_true h, decide_eq_true (by omega)]; simp [h2]
      · rw [decide_eq_true h, decide_eq_false (by omega)]; simp [h2]
    · rw [decide_eq_false h, decide_eq_false (by omega)]; rfl
  unfold Utf8.decode
  have h1 := ht 1
  have h2 := ht 2
  have h3 := ht 3
  simp only [show ∀ k, (s.get! k).toNat = bt s k from fun _ => rfl, Nat.add_zero, h1, h2, h3, beq_iff_eq, Bool.and_eq_true, decide_eq_true_eq, and_assoc, ge_iff_le, Utf8.runeError]
  rfl

theorem rune_ascii {s : ByteArray} {i : Nat} (h : bt s i < 128) : runeAt s i = (bt s i, 1) := by
  have hd : Utf8.decode s i = (bt s i, 1) := by rw [decode_is, if_pos h]
  unfold runeAt
  rw [hd, if_neg (fun e => by have := congrArg Prod.fst e; simp at this; omega)]

theorem rune_none {s : ByteArray} {i : Nat} (h : Utf8.decode s i = (65533, 1)) : runeAt s i = (0, 0) := by
  unfold runeAt
  rw [if_pos h]

theorem rune_some {s : ByteArray} {i v n : Nat} (h : Utf8.decode s i = (v, n)) (hn : 1 < n) : runeAt s i = (v, n) := by
  unfold runeAt
  rw [h, if_neg (fun e => by have := congrArg Prod.snd e; simp at this; omega)]

theorem rune_0 {s : ByteArray} {i : Nat} (h0 : 128 ≤ bt s i) (h : bt s i < 192 ∨ 248 ≤ bt s i) : runeAt s i = (0, 0) := by
  have := bt_lt s i
  refine rune_none ?_
  rw [decode_is, if_neg (by omega), if_neg (by omega), if_neg (by omega), if_neg (by omega)]

theorem rune_2 {s : ByteArray} {i : Nat} (h0 : 192 ≤ bt s i) (h1 : bt s i < 224) : runeAt s i = if tl s (i + 1) = true ∧ 128 ≤ v2 s i then (v2 s i, 2) else (0, 0) := by
  have hd := decode_is s i
  rw [if_neg (by omega)] at hd
  by_cases ht : tl s (i + 1) = true
  · rw [if_pos ⟨by omega, ht⟩] at hd
    by_cases hv : 128 ≤ v2 s i
    · rw [if_pos hv] at hd
      rw [if_pos ⟨ht, hv⟩]
      exact rune_some hd (by omega)
    · rw [if_neg hv] at hd
      rw [if_neg (fun h => hv h.2)]
      exact rune_none hd
  · rw [if_neg (fun h => ht h.2), if_neg (by omega), if_neg (by omega)] at hd
    rw [if_neg (fun h => ht h.1)]
    exact rune_none hd

theorem rune_3 {s : ByteArray} {i : Nat} (h0 : 224 ≤ bt s i) (h1 : bt s i < 240) : runeAt s i = if tl s (i + 1) = true ∧ tl s (i + 2) = true ∧ 2048 ≤ v3 s i ∧ Utf8.valid (v3 s i : Nat) = true then (v3 s i, 3) else (0, 0) := by
  have hd := decode_is s i
  rw [if_neg (by omega), if_neg (by omega)] at hd
  by_cases ht : tl s (i + 1) = true ∧ tl s (i + 2) = true
  · rw [if_pos ⟨by omega, ht⟩] at hd
    by_cases hv : 2048 ≤ v3 s i ∧ Utf8.valid (v3 s i : Nat) = true
    · rw [if_pos hv] at hd
      rw [if_pos ⟨ht.1, ht.2, hv⟩]
      exact rune_some hd (by omega)
    · rw [if_neg hv] at hd
      rw [if_neg (fun h => hv h.2.2)]
      exact rune_none hd
  · rw [if_neg (fun h => ht h.2), if_neg (by omega)] at hd
    rw [if_neg (fun h => ht ⟨h.1, h.2.1⟩)]
    exact rune_none hd

theorem rune_4 {s : ByteArray} {i : Nat} (h0 : 240 ≤ bt s i) (h1 : bt s i < 248) : runeAt s i = if tl s (i + 1) = true ∧ tl s (i + 2) = true ∧ tl s (i + 3) = true ∧ 65536 ≤ v4 s i ∧ Utf8.valid (v4 s i : Nat) = true then (v4 s i, 4) else (0, 0) := by
  have hd := decode_is s i
  rw [if_neg (by omega), if_neg (by omega), if_neg (by omega)] at hd
  by_cases ht : tl s (i + 1) = true ∧ tl s (i + 2) = true ∧ tl s (i + 3) = true
  · rw [if_pos ⟨by omega, ht⟩] at hd
    by_cases hv : 65536 ≤ v4 s i ∧ Utf8.valid (v4 s i : Nat) = true
    · rw [if_pos hv] at hd
      rw [if_pos ⟨ht.1, ht.2.1, ht.2.2, hv⟩]
      exact rune_some hd (by omega)
    · rw [if_neg hv] at hd
      rw [if_neg (fun h => hv h.2.2.2)]
      exact rune_none hd
  · rw [if_neg (fun h => ht h.2)] at hd
    rw [if_neg (fun h => ht ⟨h.1, h.2.1, h.2.2.1⟩)]
    exact rune_none hd

end Go.Proofs.YtmgjicgojlkpcaaGreatDoor
