import Derived.Lib.IndexLaws
import Derived.Lib.IndexBytes
import Derived.Test.YtijamlgiinjikaaGreatDoorTextMath3
namespace Go.Proofs.YtijamlgiinjikaaGreatDoor
open Go

/-- The text rs stands in s, its last byte at place k. -/
def Mt (s rs : ByteArray) (L k : Nat) : Prop := L ≤ k ∧ k < s.size ∧ ∀ j, j ≤ L → bt s (k - j) = bt rs (L - j)

/-- How often a byte stands ahead of a place. -/
def cnt (s : ByteArray) (c : Nat) : Nat → Nat
  | 0 => 0
  | k + 1 => cnt s c k + (if bt s k = c then 1 else 0)

theorem cnt_mono (s : ByteArray) (c k : Nat) : ∀ d, cnt s c k ≤ cnt s c (k + d)
  | 0 => Nat.le_refl _
  | d + 1 => by
    have := cnt_mono s c k d
    rw [← Nat.add_assoc, cnt]
    omega

theorem cnt_hit {s : ByteArray} {c k m : Nat} (h : k ≤ m) (hm : bt s m = c) {f : Nat} (hf : f ≤ cnt s c k) : f + 1 ≤ cnt s c (m + 1) := by
  have := cnt_mono s c k (m - k)
  rw [show k + (m - k) = m by omega] at this
  rw [cnt, if_pos hm]
  omega

theorem tail_at {s : ByteArray} {k j : Nat} (h : k + j < s.size) : (s.extract k s.size).data.toList[j]? = some (UInt8.ofNat (bt s (k + j))) := by
  rw [tail_list, List.getElem?_drop]
  have hl : k + j < s.data.toList.length := by rw [← Lib.size_eq]; exact h
  rw [List.getElem?_eq_getElem hl, bt_data h, List.getD_eq_getElem?_getD, List.getElem?_eq_getElem hl, Option.getD_some]
  simp

theorem idx_none {s : ByteArray} {k c : Nat} (h : Lib.indexByte (s.extract (k + 1) s.size).data.toList (((c : Nat) : Int).toNat.toUInt8) = -1) (m : Nat) (h1 : k < m) (h2 : m < s.size) : bt s m ≠ c := by
  intro e
  have := Lib.indexByte_none h (m - (k + 1))
  rw [tail_at (by omega), show k + 1 + (m - (k + 1)) = m by omega, e] at this
  exact this (by simp)

theorem idx_some {s : ByteArray} {k c o : Nat} (hc : c < 256) (ho : k + 1 + o < s.size) (h : Lib.indexByte (s.extract (k + 1) s.size).data.toList (((c : Nat) : Int).toNat.toUInt8) = o) : bt s (k + 1 + o) = c ∧ ∀ m, k < m → m < k + 1 + o → bt s m ≠ c := by
  obtain ⟨h1, h2⟩ := Lib.indexByte_some h
  constructor
  · rw [tail_at ho] at h1
    have h3 := congrArg UInt8.toNat (Option.some.inj h1)
    have := bt_lt s (k + 1 + o)
    rw [UInt8.toNat_ofNat', Int.toNat_natCast] at h3
    simp at h3
    omega
  · intro m m1 m2 e
    have := h2 (m - (k + 1)) (by omega)
    rw [tail_at (by omega), show k + 1 + (m - (k + 1)) = m by omega, e] at this
    exact this (by simp)

end Go.Proofs.YtijamlgiinjikaaGreatDoor
