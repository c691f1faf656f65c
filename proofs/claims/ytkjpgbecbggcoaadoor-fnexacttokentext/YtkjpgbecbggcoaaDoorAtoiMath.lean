import Derived.Test.YtkjpgbecbggcoaaDoorMFit1
import Derived.Lib.AtoiAllCases
namespace Go.Proofs.YtkjpgbecbggcoaaDoor
open Go.RowKit

/-- The number that digits spell. -/
def dv (acc : Nat) (l : List UInt8) : Nat := l.foldl (fun a c => a * 10 + (c.toNat - 48)) acc

theorem dv_ge : ∀ (l : List UInt8) (acc : Nat), acc ≤ dv acc l
  | [], _ => Nat.le_refl _
  | c :: r, acc => Nat.le_trans (by omega) (dv_ge r (acc * 10 + (c.toNat - 48)))

theorem uint_digits : ∀ (l : List UInt8) (acc : Nat), (∀ c ∈ l, isD c.toNat = true) → Lib.parseUint10 acc l = .ok (dv acc l) ∨ (Lib.parseUint10 acc l = .range ∧ 18446744073709551616 ≤ dv acc l)
  | [], _, _ => Or.inl rfl
  | c :: r, acc, h => by
    have hc : 48 ≤ c.toNat ∧ c.toNat ≤ 57 := of_decide_eq_true (h c List.mem_cons_self)
    have hge := dv_ge r (acc * 10 + (c.toNat - 48))
    have e : dv acc (c :: r) = dv (acc * 10 + (c.toNat - 48)) r := rfl
    rw [Lib.parseUint10, if_pos hc, e]
    split
    · exact Or.inr ⟨rfl, by omega⟩
    · split
      · exact Or.inr ⟨rfl, by omega⟩
      · exact uint_digits r _ fun x hx => h x (List.mem_cons_of_mem _ hx)

theorem atoi_digits (l : List UInt8) (h0 : l ≠ []) (h : ∀ c ∈ l, isD c.toNat = true) : Lib.atoiAll l = .ok ((dv 0 l : Nat) : Int) ∨ (Lib.atoiAll l = .range ∧ 9223372036854775808 ≤ dv 0 l) := by
  cases l with
  | nil => exact absurd rfl h0
  | cons c r =>
    have hc : 48 ≤ c.toNat ∧ c.toNat ≤ 57 := of_decide_eq_true (h c List.mem_cons_self)
    rw [Lib.atoiAll_plain c r (by omega) (by omega)]
    have hm : Lib.parseMag (c :: r) = Lib.parseUint10 0 (c :: r) := by unfold Lib.parseMag; rw [if_neg (by simp)]
    rw [hm]
    rcases uint_digits (c :: r) 0 h with e | ⟨e, hb⟩
    · rw [e]
      unfold Lib.signless
      by_cases hb : 9223372036854775808 ≤ dv 0 (c :: r)
      · exact Or.inr ⟨by simp [hb], hb⟩
      · exact Or.inl (by simp [hb])
    · rw [e]
      exact Or.inr ⟨rfl, by omega⟩

theorem take_data (t : ByteArray) (k : Nat) : (t.extract 0 k).data.toList = t.data.toList.take k := by
  rw [ByteArray.data_extract, Array.toList_extract]
  simp

theorem dv_take (t : ByteArray) : ∀ k, k ≤ t.size → dv 0 (t.data.toList.take k) = decV t 0 k
  | 0, _ => rfl
  | k + 1, h => by
    have hl : k < t.data.toList.length := by rw [← Lib.size_eq]; exact h
    rw [List.take_succ_eq_append_getElem hl, dv, List.foldl_append]
    show dv 0 (t.data.toList.take k) * 10 + ((t.data.toList[k]).toNat - 48) = _
    have eb : bt t k = (t.data.toList[k]).toNat := by
      rw [bt_data h, List.getD_eq_getElem?_getD, List.getElem?_eq_getElem hl]
      rfl
    rw [dv_take t k (by omega), decV, Nat.zero_add, eb]

end Go.Proofs.YtkjpgbecbggcoaaDoor
