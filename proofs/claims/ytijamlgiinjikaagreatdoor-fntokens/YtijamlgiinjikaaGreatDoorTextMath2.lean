import Derived.Lib.ValidLaws
import Derived.Test.YtijamlgiinjikaaGreatDoorTextDefs
namespace Go.Proofs.YtijamlgiinjikaaGreatDoor
open Go

theorem decode_width_le {s : ByteArray} {i : Nat} (h : i < s.size) : i + (Utf8.decode s i).2 ≤ s.size := by
  rw [decode_is]
  split
  · exact h
  · split
    · rename_i c
      have := (tl_bd c.2).1
      split <;> simp <;> omega
    · split
      · rename_i c
        have := (tl_bd c.2.2).1
        split <;> simp <;> omega
      · split
        · rename_i c
          have := (tl_bd c.2.2.2).1
          split <;> simp <;> omega
        · simp; omega

/-- A stretch at the rest of a text. -/
theorem strTo_tail {q : Nat → Bool} {s : ByteArray} {i : Nat} (hi : i ≤ s.size) : ∀ (F j : Nat), i + j ≤ s.size → strTo q (s.extract i s.size) F j + i = strTo q s F (i + j)
  | 0, j, _ => by rw [strTo, strTo, tail_size]; omega
  | F + 1, j, hj => by
    rw [strTo, strTo, tail_size]
    by_cases h : i + j < s.size
    · rw [if_pos h, if_pos (by omega), tail_decode h]
      by_cases hq : q (Utf8.decode s (i + j)).1 = true
      · rw [if_pos hq, if_pos hq]
        have := decode_width_le h
        rw [strTo_tail hi F _ (by omega), Nat.add_assoc]
      · rw [if_neg hq, if_neg hq]; omega
    · rw [if_neg h, if_neg (by omega)]; omega

theorem strTo_fuel {q : Nat → Bool} {s : ByteArray} : ∀ (F G i : Nat), s.size - i < F → s.size - i < G → strTo q s F i = strTo q s G i
  | 0, _, _, h, _ => by omega
  | _ + 1, 0, _, _, h => by omega
  | F + 1, G + 1, i, h1, h2 => by
    rw [strTo, strTo]
    by_cases h : i < s.size
    · rw [if_pos h, if_pos h]
      have := Lib.decode_width_pos s i h
      rw [strTo_fuel F G (i + (Utf8.decode s i).2) (by omega) (by omega)]
    · rw [if_neg h, if_neg h]

theorem inEnd_is {s : ByteArray} {p : Nat} (h : p ≤ s.size) : inEnd s p = strTo isIn s (s.size + 1) p := by
  unfold inEnd stretchN
  have := strTo_tail (q := isIn) h ((s.extract p s.size).size + 1) 0 (by omega)
  rw [Nat.add_zero] at this
  rw [Nat.add_comm, this]
  exact strTo_fuel _ _ _ (by rw [tail_size]; omega) (by omega)

theorem inEnd_go {s : ByteArray} {p : Nat} (h : p < s.size) (hq : isIn (Utf8.decode s p).1 = true) : inEnd s p = inEnd s (p + (Utf8.decode s p).2) := by
  have h1 := decode_width_le h
  have h2 := Lib.decode_width_pos s p h
  rw [inEnd_is (by omega), inEnd_is h1, strTo, if_pos h, if_pos hq]
  exact strTo_fuel _ _ _ (by omega) (by omega)

theorem inEnd_stop {s : ByteArray} {p : Nat} (h : p < s.size) (hq : ¬ isIn (Utf8.decode s p).1 = true) : inEnd s p = p := by
  rw [inEnd_is (by omega), strTo, if_pos h, if_neg hq]

theorem inEnd_end {s : ByteArray} : inEnd s s.size = s.size := by
  rw [inEnd_is (Nat.le_refl _), strTo, if_neg (by omega)]

/-- How a text is read, character by character. -/
def devT (s : ByteArray) : Nat → Nat → List UInt8 → Option (Nat × List UInt8)
  | 0, _, _ => none
  | f + 1, p, out =>
    if p < s.size then
      if isIn (Utf8.decode s p).1 = true then devT s f (p + (Utf8.decode s p).2) (out ++ (s.extract p (p + (Utf8.decode s p).2)).data.toList)
      else if quote1 s p = true then (if quote1 s (p + 1) = true then devT s f (p + 2) (out ++ [39]) else some (p + 1, out))
      else none
    else none

theorem inEnd_upTo {s : ByteArray} : ∀ (d p : Nat), s.size - p ≤ d → p ≤ s.size → p ≤ inEnd s p ∧ inEnd s p ≤ s.size
  | 0, p, hd, hp => by
    have : p = s.size := by omega
    subst this
    rw [inEnd_end]; omega
  | d + 1, p, hd, hp => by
    by_cases h : p < s.size
    · by_cases hq : isIn (Utf8.decode s p).1 = true
      · have h1 := decode_width_le h
        have h2 := Lib.decode_width_pos s p h
        rw [inEnd_go h hq]
        have := inEnd_upTo d (p + (Utf8.decode s p).2) (by omega) h1
        omega
      · rw [inEnd_stop h hq]; omega
    · have : p = s.size := by omega
      subst this
      rw [inEnd_end]; omega

theorem textR_go {s : ByteArray} {F p : Nat} {out : List UInt8} (h : p < s.size) (hq : isIn (Utf8.decode s p).1 = true) :
    textR s (F + 1) p out = textR s (F + 1) (p + (Utf8.decode s p).2) (out ++ (s.extract p (p + (Utf8.decode s p).2)).data.toList) := by
  have h1 := decode_width_le h
  have h3 := (inEnd_upTo _ (p + (Utf8.decode s p).2) (Nat.le_refl _) h1)
  have e := inEnd_go h hq
  rw [textR, textR, ← e]
  rw [← e] at h3
  have hx : (s.extract p (inEnd s p)).data.toList = (s.extract p (p + (Utf8.decode s p).2)).data.toList ++ (s.extract (p + (Utf8.decode s p).2) (inEnd s p)).data.toList := by
    rw [sub_list, sub_list, sub_list, ← List.drop_drop, show inEnd s p - p = (Utf8.decode s p).2 + (inEnd s p - (p + (Utf8.decode s p).2)) by omega, List.take_add, show p + (Utf8.decode s p).2 - p = (Utf8.decode s p).2 by omega]
  rw [hx]
  simp only [List.append_assoc]

theorem textR_dev {s : ByteArray} : ∀ (f F p : Nat) (out : List UInt8), s.size - p < F → s.size - p < f → p ≤ s.size → textR s F p out = devT s f p out
  | 0, _, _, _, _, h, _ => by omega
  | _ + 1, 0, _, _, h, _, _ => by omega
  | f + 1, F + 1, p, out, h1, h2, hp => by
    by_cases h : p < s.size
    · by_cases hq : isIn (Utf8.decode s p).1 = true
      · have a := decode_width_le h
        have b := Lib.decode_width_pos s p h
        rw [textR_go h hq, devT, if_pos h, if_pos hq]
        exact textR_dev f (F + 1) _ _ (by omega) (by omega) a
      · have hx : (s.extract p p).data.toList = [] := by rw [sub_list, Nat.sub_self]; rfl
        rw [textR, devT, if_pos h, if_neg hq, inEnd_stop h hq, hx, List.append_nil]
        by_cases c : quote1 s p = true
        · rw [if_pos c, if_pos c]
          by_cases c2 : quote1 s (p + 1) = true
          · rw [if_pos c2, if_pos c2]
            have : p + 2 ≤ s.size := by unfold quote1 at c2; have := of_decide_eq_true c2; omega
            exact textR_dev f F _ _ (by omega) (by omega) this
          · rw [if_neg c2, if_neg c2]
        · rw [if_neg c, if_neg c]
    · have : p = s.size := by omega
      subst this
      rw [textR, devT, if_neg h, inEnd_end, if_neg (fun c => by unfold quote1 at c; have := of_decide_eq_true c; omega)]

end Go.Proofs.YtijamlgiinjikaaGreatDoor
