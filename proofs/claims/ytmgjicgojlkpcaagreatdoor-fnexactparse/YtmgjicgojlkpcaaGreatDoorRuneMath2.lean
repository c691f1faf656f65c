import Derived.Test.YtmgjicgojlkpcaaGreatDoorRuneMath
import Derived.Test.YtmgjicgojlkpcaaGreatDoorShowMath
namespace Go.Proofs.YtmgjicgojlkpcaaGreatDoor
open Go

/-- The number behind k bytes that go on. -/
def vP (s : ByteArray) (i b : Nat) : Nat → Nat
  | 0 => b
  | k + 1 => vP s i b k * 64 + (bt s (i + (k + 1)) - 128)

theorem valid_ok (v : Nat) : Utf8.valid (v : Nat) = runeOk (v : Int) := by
  unfold Utf8.valid runeOk
  by_cases h : 0 ≤ (v : Int) ∧ (v : Int) ≤ 1114111 ∧ ((v : Int) < 55296 ∨ 57343 < (v : Int))
  · rw [decide_eq_true h]
    simp
    omega
  · rw [decide_eq_false h]
    simp
    omega

theorem encZ_cnt (v : Nat) : (encZ (v : Int)).length = if v < 128 then 1 else if v < 2048 then 2 else if v < 65536 then 3 else 4 := by
  unfold encZ
  by_cases a : v < 128
  · rw [if_pos a, if_pos (by omega)]; rfl
  · rw [if_neg a, if_neg (by omega)]
    by_cases b : v < 2048
    · rw [if_pos b, if_pos (by omega)]; rfl
    · rw [if_neg b, if_neg (by omega)]
      by_cases d : v < 65536
      · rw [if_pos d, if_pos (by omega)]; rfl
      · rw [if_neg d, if_neg (by omega)]; rfl

theorem tl_bd {s : ByteArray} {j : Nat} (h : tl s j = true) : j < s.size ∧ 128 ≤ bt s j ∧ bt s j < 192 := by
  unfold tl at h
  simpa using h

theorem vP_2 {s : ByteArray} {i : Nat} (h0 : 192 ≤ bt s i) (h1 : bt s i < 224) (t1 : tl s (i + 1) = true) : vP s i (bt s i - 192) 1 = v2 s i := by
  have := tl_bd t1
  show (bt s i - 192) * 64 + (bt s (i + 1) - 128) = _
  unfold v2
  omega

theorem vP_3 {s : ByteArray} {i : Nat} (h0 : 224 ≤ bt s i) (h1 : bt s i < 240) (t1 : tl s (i + 1) = true) (t2 : tl s (i + 2) = true) : vP s i (bt s i - 224) 2 = v3 s i := by
  have := tl_bd t1
  have := tl_bd t2
  show ((bt s i - 224) * 64 + (bt s (i + 1) - 128)) * 64 + (bt s (i + 2) - 128) = _
  unfold v3
  omega

theorem vP_4 {s : ByteArray} {i : Nat} (h0 : 240 ≤ bt s i) (h1 : bt s i < 248) (t1 : tl s (i + 1) = true) (t2 : tl s (i + 2) = true) (t3 : tl s (i + 3) = true) : vP s i (bt s i - 240) 3 = v4 s i := by
  have := tl_bd t1
  have := tl_bd t2
  have := tl_bd t3
  show (((bt s i - 240) * 64 + (bt s (i + 1) - 128)) * 64 + (bt s (i + 2) - 128)) * 64 + (bt s (i + 3) - 128) = _
  unfold v4
  omega

/-- A lead byte of n bytes: its class, and the number in it. -/
def cls (c n b : Nat) : Prop := (n = 2 ∧ 192 ≤ c ∧ c < 224 ∧ b = c - 192) ∨ (n = 3 ∧ 224 ≤ c ∧ c < 240 ∧ b = c - 224) ∨ (n = 4 ∧ 240 ≤ c ∧ c < 248 ∧ b = c - 240)

theorem rune_cut {s : ByteArray} {i n b k : Nat} (h : cls (bt s i) n b) (hk : 1 ≤ k) (hn : k < n) (ht : tl s (i + k) = false) : runeAt s i = (0, 0) := by
  rcases h with ⟨rfl, h0, h1, _⟩ | ⟨rfl, h0, h1, _⟩ | ⟨rfl, h0, h1, _⟩
  · obtain rfl : k = 1 := by omega
    rw [rune_2 h0 h1, if_neg (fun h => by rw [ht] at h; cases h.1)]
  · rw [rune_3 h0 h1, if_neg]
    rintro ⟨t1, t2, _⟩
    rcases (show k = 1 ∨ k = 2 by omega) with rfl | rfl
    · rw [ht] at t1; cases t1
    · rw [ht] at t2; cases t2
  · rw [rune_4 h0 h1, if_neg]
    rintro ⟨t1, t2, t3, _⟩
    rcases (show k = 1 ∨ k = 2 ∨ k = 3 by omega) with rfl | rfl | rfl
    · rw [ht] at t1; cases t1
    · rw [ht] at t2; cases t2
    · rw [ht] at t3; cases t3

set_option maxRecDepth 20000 in
theorem rune_fin {s : ByteArray} {i n b : Nat} (h : cls (bt s i) n b) (ht : ∀ k, 1 ≤ k → k < n → tl s (i + k) = true) :
    vP s i b (n - 1) ≤ 2097151 ∧ runeAt s i = if (encZ (vP s i b (n - 1) : Nat)).length = n ∧ runeOk (vP s i b (n - 1) : Nat) = true then (vP s i b (n - 1), n) else (0, 0) := by
  obtain ⟨Z, hZ⟩ : ∃ Z, Z = 2097151 := ⟨_, rfl⟩
  rw [← hZ]
  rcases h with ⟨hn, h0, h1, hb0⟩ | ⟨hn, h0, h1, hb0⟩ | ⟨hn, h0, h1, hb0⟩ <;> subst hn <;> subst hb0
  · have t1 := ht 1 (by omega) (by omega)
    have hv := vP_2 h0 h1 t1
    have hb := tl_bd t1
    have hlt : v2 s i < 2048 := by unfold v2; omega
    rw [show 2 - 1 = 1 from rfl, hv]
    refine ⟨by omega, ?_⟩
    rw [rune_2 h0 h1, encZ_cnt]
    by_cases hc : 128 ≤ v2 s i
    · rw [if_pos ⟨t1, hc⟩, if_neg (show ¬ v2 s i < 128 by omega), if_pos hlt, if_pos ⟨rfl, decide_eq_true (by omega)⟩]
    · rw [if_neg (fun h => hc h.2), if_pos (show v2 s i < 128 by omega), if_neg (fun h => by have := h.1; omega)]
  · have t1 := ht 1 (by omega) (by omega)
    have t2 := ht 2 (by omega) (by omega)
    have hv := vP_3 h0 h1 t1 t2
    have hlt : v3 s i < 65536 := by unfold v3; omega
    rw [show 3 - 1 = 2 from rfl, hv]
    refine ⟨by omega, ?_⟩
    rw [rune_3 h0 h1, encZ_cnt, valid_ok]
    by_cases hc : 2048 ≤ v3 s i
    · rw [if_neg (show ¬ v3 s i < 128 by omega), if_neg (show ¬ v3 s i < 2048 by omega), if_pos hlt]
      by_cases ho : runeOk (v3 s i : Nat) = true
      · rw [if_pos ⟨t1, t2, hc, ho⟩, if_pos ⟨rfl, ho⟩]
      · rw [if_neg (fun h => ho h.2.2.2), if_neg (fun h => ho h.2)]
    · rw [if_neg (fun h => hc h.2.2.1), if_neg]
      rintro ⟨h, _⟩
      split at h
      · omega
      · rw [if_pos (by omega)] at h; omega
  · have t1 := ht 1 (by omega) (by omega)
    have t2 := ht 2 (by omega) (by omega)
    have t3 := ht 3 (by omega) (by omega)
    have hv := vP_4 h0 h1 t1 t2 t3
    have hlt : v4 s i < 2097152 := by unfold v4; omega
    rw [show 4 - 1 = 3 from rfl, hv]
    refine ⟨by omega, ?_⟩
    rw [rune_4 h0 h1, encZ_cnt, valid_ok]
    by_cases hc : 65536 ≤ v4 s i
    · rw [if_neg (show ¬ v4 s i < 128 by omega), if_neg (show ¬ v4 s i < 2048 by omega), if_neg (show ¬ v4 s i < 65536 by omega)]
      by_cases ho : runeOk (v4 s i : Nat) = true
      · rw [if_pos ⟨t1, t2, t3, hc, ho⟩, if_pos ⟨rfl, ho⟩]
      · rw [if_neg (fun h => ho h.2.2.2.2), if_neg (fun h => ho h.2)]
    · rw [if_neg (fun h => hc h.2.2.2.1), if_neg]
      rintro ⟨h, _⟩
      split at h
      · omega
      · split at h
        · omega
        · rw [if_pos (by omega)] at h; omega

end Go.Proofs.YtmgjicgojlkpcaaGreatDoor
