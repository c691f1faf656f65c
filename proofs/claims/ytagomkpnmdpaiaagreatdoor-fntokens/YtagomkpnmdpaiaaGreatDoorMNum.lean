import Derived.Test.YtagomkpnmdpaiaaGreatDoorMBase
import Derived.Lib.ItoaNum
import Derived.Lib.Replace
import Derived.Lib.RuneCount
import Derived.Lib.CountLaws
namespace Go.Proofs.YtagomkpnmdpaiaaGreatDoor

/-- Numbers as bytes. -/
def zb (l : List Int) : List UInt8 := l.map fun x => x.toNat.toUInt8

theorem zb_app (l m : List Int) : zb (l ++ m) = zb l ++ zb m := by simp [zb]

theorem dec_digits (u : Nat) : Lib.decDigits u = zb (decZ u) := by
  induction u using Nat.strongRecOn with
  | _ u ih =>
    by_cases h : u < 10
    · rw [Lib.decDigits, dif_pos h, decZ_small h]
      simp only [zb, List.map_cons, List.map_nil]
      rw [show (48 + (u : Int)).toNat = 48 + u by omega]
    · rw [Lib.decDigits, dif_neg h, decZ_big h, zb_app, ih (u / 10) (by omega)]
      simp only [zb, List.map_cons, List.map_nil]
      rw [show (48 + ((u % 10 : Nat) : Int)).toNat = 48 + u % 10 by omega]

theorem zb_digit {l : List Int} (h : ∀ x ∈ l, 48 ≤ x ∧ x ≤ 57) : ∀ b ∈ zb l, 48 ≤ b.toNat ∧ b.toNat ≤ 57 := by
  intro b hb
  obtain ⟨x, hx, rfl⟩ := List.mem_map.1 hb
  have := h x hx
  show 48 ≤ (UInt8.ofNat x.toNat).toNat ∧ _
  rw [UInt8.toNat_ofNat_of_lt' (by simp [UInt8.size]; omega)]
  omega

theorem index_none {l : List UInt8} (h : ∀ b ∈ l, 48 ≤ b.toNat ∧ b.toNat ≤ 57) : Lib.index l [45] = -1 := by
  induction l with
  | nil => rfl
  | cons b l ih =>
    have hb := h b (by simp)
    have hne : ¬ (45 : UInt8) = b := fun e => by rw [← e] at hb; exact absurd hb (by decide)
    rw [Lib.index, ih (fun x hx => h x (by simp [hx]))]
    simp [List.isPrefixOf, hne]

end Go.Proofs.YtagomkpnmdpaiaaGreatDoor
namespace Go.Proofs.YtagomkpnmdpaiaaGreatDoor

theorem index_head (l : List UInt8) : Lib.index (45 :: l) [45] = ((0 : Nat) : Int) := by
  rw [Lib.index]
  simp [List.isPrefixOf]

theorem count_some (l : List UInt8) : 1 ≤ Lib.count (45 :: l) [45] := by
  rw [Lib.count_hit (by simp) (index_head l)]
  omega

/-- strings.Replace(strconv.Itoa(n), "-", mark, 1) is the number's text. -/
theorem itoa_text (n : Int) : Lib.replace (Lib.itoa n) [45] [194, 175] 1 = zb (numT n) := by
  unfold Lib.replace
  rw [if_neg (by decide)]
  by_cases h : n < 0
  · have hc := count_some (Lib.decDigits n.natAbs)
    have e : Lib.itoa n = 45 :: Lib.decDigits n.natAbs := by rw [Lib.itoa, if_pos h]
    have hnum : Lib.replaceNum (45 :: Lib.decDigits n.natAbs) [45] 1 = 0 + 1 := by
      unfold Lib.replaceNum
      rw [if_neg (by omega)]
      rfl
    rw [e, hnum, Lib.replaceK_hit _ _ _ _ _ (index_head _)]
    unfold numT
    rw [if_pos h, zb_app, ← dec_digits]
    simp [Lib.replaceK, zb]
  · have e : Lib.itoa n = Lib.decDigits n.natAbs := by
      rw [Lib.itoa, if_neg h]
      congr 1
      omega
    have hi : Lib.index (Lib.decDigits n.natAbs) [45] = -1 := by
      rw [dec_digits]
      exact index_none (zb_digit (decZ_byte _))
    have hnum : Lib.replaceNum (Lib.decDigits n.natAbs) [45] 1 = 0 := by
      unfold Lib.replaceNum
      rw [Lib.count_miss hi, if_pos (by omega)]
    rw [e, hnum]
    unfold numT
    rw [if_neg h]
    simp [Lib.replaceK, dec_digits]

end Go.Proofs.YtagomkpnmdpaiaaGreatDoor
