import Derived.Test.YtmgjicgojlkpcaaGreatDoorSpecConv
import Derived.Test.YtmgjicgojlkpcaaGreatDoorBstrMath
namespace Go.Proofs.YtmgjicgojlkpcaaGreatDoor
open Go

theorem bstr_uz (l : List UInt8) : bstr (uz l) = ⟨l.toArray⟩ := by
  unfold bstr uz
  congr 2
  rw [List.map_map]
  conv => rhs; rw [← List.map_id l]
  refine List.map_congr_left fun b _ => ?_
  show Nat.toUInt8 (Int.toNat (b.toNat : Int)) = b
  rw [Int.toNat_natCast]
  exact UInt8.ofNat_toNat

theorem bstr_inj {l m : List Int} (hl : ∀ x ∈ l, 0 ≤ x ∧ x < 256) (hm : ∀ x ∈ m, 0 ≤ x ∧ x < 256) (h : bstr l = bstr m) : l = m := by
  have back : ∀ {l : List Int}, (∀ x ∈ l, 0 ≤ x ∧ x < 256) → uz (bstr l).data.toList = l := fun {l} hl => by
    unfold uz bstr
    rw [List.map_map]
    conv => rhs; rw [← List.map_id l]
    refine List.map_congr_left fun x hx => ?_
    have := hl x hx
    show (((x.toNat.toUInt8).toNat : Nat) : Int) = x
    rw [show x.toNat.toUInt8 = UInt8.ofNat x.toNat from rfl, UInt8.toNat_ofNat_of_lt' (by simp [UInt8.size]; omega)]
    omega
  rw [← back hl, ← back hm, h]

/-- The bytes of a character are those of its number. -/
theorem rune_bytes {s : ByteArray} {i : Nat} (h : i < s.size) (hn : 0 < (runeAt s i).2) : uz (s.extract i (i + (runeAt s i).2)).data.toList = encZ ((runeAt s i).1 : Nat) := by
  have hb := bt_lt s i
  have hl : i < s.data.toList.length := by rw [← Lib.size_eq]; exact h
  have e0 := bt_data h
  rw [sub_list]
  by_cases h1 : bt s i < 128
  · rw [rune_ascii h1]
    simp only
    rw [show i + 1 - i = 0 + 1 by omega, take_cons hl]
    simp only [uz, List.take_zero, List.map_cons, List.map_nil, ← e0]
    unfold encZ
    rw [if_pos (by omega)]
  · by_cases h2 : bt s i < 192 ∨ 248 ≤ bt s i
    · rw [rune_0 (by omega) h2] at hn; simp at hn
    · by_cases h3 : bt s i < 224
      · have hr := rune_2 (by omega) h3
        by_cases hc : tl s (i + 1) = true ∧ 128 ≤ v2 s i
        · rw [if_pos hc] at hr
          have t1 := tl_bd hc.1
          have hl1 : i + 1 < s.data.toList.length := by rw [← Lib.size_eq]; exact t1.1
          have e1 := bt_data t1.1
          rw [hr]
          simp only
          rw [show i + 2 - i = 0 + 1 + 1 by omega, take_cons hl, take_cons hl1]
          simp only [uz, List.take_zero, List.map_cons, List.map_nil, ← e0, ← e1]
          have hv : v2 s i = bt s i % 32 * 64 + bt s (i + 1) % 64 := rfl
          have hlt : v2 s i < 2048 := by omega
          unfold encZ
          rw [if_neg (by omega), if_pos (by omega)]
          congr 1
          · omega
          · congr 1; omega
        · rw [if_neg hc] at hr; rw [hr] at hn; simp at hn
      · by_cases h4 : bt s i < 240
        · have hr := rune_3 (by omega) h4
          by_cases hc : tl s (i + 1) = true ∧ tl s (i + 2) = true ∧ 2048 ≤ v3 s i ∧ Utf8.valid (v3 s i : Nat) = true
          · rw [if_pos hc] at hr
            have t1 := tl_bd hc.1
            have t2 := tl_bd hc.2.1
            have hl1 : i + 1 < s.data.toList.length := by rw [← Lib.size_eq]; exact t1.1
            have hl2 : i + 1 + 1 < s.data.toList.length := by rw [← Lib.size_eq]; exact t2.1
            have e1 := bt_data t1.1
            have e2 := bt_data t2.1
            rw [hr]
            simp only
            rw [show i + 3 - i = 0 + 1 + 1 + 1 by omega, take_cons hl, take_cons hl1, take_cons hl2]
            simp only [uz, List.take_zero, List.map_cons, List.map_nil, ← e0, ← e1, show i + 1 + 1 = i + 2 from rfl, ← e2]
            have hv : v3 s i = bt s i % 16 * 4096 + bt s (i + 1) % 64 * 64 + bt s (i + 2) % 64 := rfl
            have hlt : v3 s i < 65536 := by omega
            have hge := hc.2.2.1
            unfold encZ
            rw [if_neg (by omega), if_neg (by omega), if_pos (by omega)]
            congr 1
            · omega
            · congr 1
              · omega
              · congr 1; omega
          · rw [if_neg hc] at hr; rw [hr] at hn; simp at hn
        · have hr := rune_4 (by omega) (show bt s i < 248 by omega)
          by_cases hc : tl s (i + 1) = true ∧ tl s (i + 2) = true ∧ tl s (i + 3) = true ∧ 65536 ≤ v4 s i ∧ Utf8.valid (v4 s i : Nat) = true
          · rw [if_pos hc] at hr
            have t1 := tl_bd hc.1
            have t2 := tl_bd hc.2.1
            have t3 := tl_bd hc.2.2.1
            have hl1 : i + 1 < s.data.toList.length := by rw [← Lib.size_eq]; exact t1.1
            have hl2 : i + 1 + 1 < s.data.toList.length := by rw [← Lib.size_eq]; exact t2.1
            have hl3 : i + 1 + 1 + 1 < s.data.toList.length := by rw [← Lib.size_eq]; exact t3.1
            have e1 := bt_data t1.1
            have e2 := bt_data t2.1
            have e3 := bt_data t3.1
            rw [hr]
            simp only
            rw [show i + 4 - i = 0 + 1 + 1 + 1 + 1 by omega, take_cons hl, take_cons hl1, take_cons hl2, take_cons hl3]
            simp only [uz, List.take_zero, List.map_cons, List.map_nil, ← e0, ← e1, show i + 1 + 1 = i + 2 from rfl, ← e2, show i + 2 + 1 = i + 3 from rfl, ← e3]
            have hv : v4 s i = bt s i % 8 * 262144 + bt s (i + 1) % 64 * 4096 + bt s (i + 2) % 64 * 64 + bt s (i + 3) % 64 := rfl
            have hge := hc.2.2.2.1
            unfold encZ
            rw [if_neg (by omega), if_neg (by omega), if_neg (by omega)]
            congr 1
            · omega
            · congr 1
              · omega
              · congr 1
                · omega
                · congr 1; omega
          · rw [if_neg hc] at hr; rw [hr] at hn; simp at hn

theorem encZ_byte {v : Nat} (h : v ≤ 2097151) : ∀ x ∈ encZ (v : Int), 0 ≤ x ∧ x < 256 := by
  unfold encZ
  intro x hx
  repeat' split at hx
  all_goals simp at hx
  all_goals omega

theorem encZ_inj {v u : Nat} (hv : v ≤ 2097151) (hu : u ≤ 2097151) (h : encZ (v : Int) = encZ (u : Int)) : v = u := by
  unfold encZ at h
  repeat' split at h
  all_goals simp at h
  all_goals omega

end Go.Proofs.YtmgjicgojlkpcaaGreatDoor
