import Derived.Test.YtinndpnilmmmjaaGreatDoorNumMath
import Derived.Lib.CountLaws
namespace Go.Proofs.YtinndpnilmmmjaaGreatDoor

theorem index_head (l : List UInt8) : Lib.index (45 :: l) [45] = ((0 : Nat) : Int) := by
  rw [Lib.index]
  simp [List.isPrefixOf]

theorem count_some (l : List UInt8) : 1 ≤ Lib.count (45 :: l) [45] := by
  rw [Lib.count_hit (by simp) (index_head l)]
  omega

/-- strings.Replace(strconv.Itoa(n), "-", mark, 1) is the number's text. -/
theorem itoa_text (n : Int) : Lib.replace (Lib.itoa n) [45] [194, 175] 1 = zb (numT n) := by
  unfold Lib.replace
  rw [if_neg (by decide)]
  by_cases h : n < 0
  · have hc := count_some (Lib.decDigits n.natAbs)
    have e : Lib.itoa n = 45 :: Lib.decDigits n.natAbs := by rw [Lib.itoa, if_pos h]
    have hnum : Lib.replaceNum (45 :: Lib.decDigits n.natAbs) [45] 1 = 0 + 1 := by
      unfold Lib.replaceNum
      rw [if_neg (by omega)]
      rfl
    rw [e, hnum, Lib.replaceK_hit _ _ _ _ _ (index_head _)]
    unfold numT
    rw [if_pos h, zb_app, ← dec_digits]
    simp [Lib.replaceK, zb]
  · have e : Lib.itoa n = Lib.decDigits n.natAbs := by
      rw [Lib.itoa, if_neg h]
      congr 1
      omega
    have hi : Lib.index (Lib.decDigits n.natAbs) [45] = -1 := by
      rw [dec_digits]
      exact index_none (zb_digit (decZ_byte _))
    have hnum : Lib.replaceNum (Lib.decDigits n.natAbs) [45] 1 = 0 := by
      unfold Lib.replaceNum
      rw [Lib.count_miss hi, if_pos (by omega)]
    rw [e, hnum]
    unfold numT
    rw [if_neg h]
    simp [Lib.replaceK, dec_digits]

end Go.Proofs.YtinndpnilmmmjaaGreatDoor
