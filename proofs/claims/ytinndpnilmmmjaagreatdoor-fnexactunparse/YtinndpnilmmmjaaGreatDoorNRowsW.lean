import Derived.Test.YtinndpnilmmmjaaGreatDoorMNode
namespace Go.Proofs.YtinndpnilmmmjaaGreatDoor
open Go.RowKit

/-- A slice reads as a list of ints, however long. -/
structure RowW (w : World) (a : Option Addr) (n : Nat) (zs : List Int) : Prop where
  len : zs.length = n
  at_ : n = 0 ∨ ∃ b off, a = some ⟨b, off, none⟩ ∧ b < w.heap.size ∧ ∀ i, i < n → w.cell? ⟨b, off + i, none⟩ = some (.int .i64 (zs.getD i 0))

/-- Nodes whose lists may be of any length. -/
structure NRowW (w : World) (a : Option Addr) (n : Nat) (ns : List NodeD) : Prop where
  len : ns.length = n
  small : n ≤ 1048576
  at_ : n = 0 ∨ ∃ b off, a = some ⟨b, off, none⟩ ∧ b < w.heap.size ∧ ∀ i, i < n → NAt RowW w b (off + i * 6) (node ns i)

section
variable {w w' : World} {a : Option Addr} {n : Nat} {zs : List Int} {ns : List NodeD}

theorem Row.weak (h : Row w a n zs) : RowW w a n zs := ⟨h.len, h.at_⟩
theorem RowW.below {B : Nat} (h : RowW w a n zs) (hB : w.heap.size ≤ B) (hb : Below B w w') : RowW w' a n zs := by
  refine ⟨h.len, ?_⟩
  rcases h.at_ with h0 | ⟨b, off, rfl, hlt, hc⟩
  · exact .inl h0
  · exact .inr ⟨b, off, rfl, Nat.lt_of_lt_of_le hlt hb.size, fun i hi => (hb.cell (p := ⟨b, off + i, none⟩) (Nat.lt_of_lt_of_le hlt hB)).trans (hc i hi)⟩
theorem RowW.get (h : RowW w a n zs) {k : Nat} (hk : k < n) : ∃ b off, a = some ⟨b, off, none⟩ ∧ b < w.heap.size ∧ w.cell? ⟨b, off + k, none⟩ = some (.int .i64 (zs.getD k 0)) := by
  rcases h.at_ with h0 | ⟨b, off, rfl, hlt, hc⟩
  · omega
  · exact ⟨b, off, rfl, hlt, hc k hk⟩
theorem NRow.weak (h : NRow w a n ns) : NRowW w a n ns := by
  refine ⟨h.len, h.small, ?_⟩
  rcases h.at_ with h0 | ⟨b, off, rfl, hlt, hc⟩
  · exact .inl h0
  · refine .inr ⟨b, off, rfl, hlt, fun i hi => ?_⟩
    obtain ⟨s1, n1, c1, s2, n2, c2, e0, e1, e2, e3, e4, e5, r1, r2⟩ := hc i hi
    exact ⟨s1, n1, c1, s2, n2, c2, e0, e1, e2, e3, e4, e5, r1.weak, r2.weak⟩
theorem NRowW.below {B : Nat} (h : NRowW w a n ns) (hB : w.heap.size ≤ B) (hb : Below B w w') : NRowW w' a n ns := by
  refine ⟨h.len, h.small, ?_⟩
  rcases h.at_ with h0 | ⟨b, off, rfl, hlt, hc⟩
  · exact .inl h0
  · exact .inr ⟨b, off, rfl, Nat.lt_of_lt_of_le hlt hb.size, fun i hi => (hc i hi).below (fun _ _ _ r => r.below hB hb) (Nat.lt_of_lt_of_le hlt hB) hb⟩
theorem NRowW.get (h : NRowW w a n ns) {k : Nat} (hk : k < n) : ∃ b off, a = some ⟨b, off, none⟩ ∧ b < w.heap.size ∧ NAt RowW w b (off + k * 6) (node ns k) := by
  rcases h.at_ with h0 | ⟨b, off, rfl, hlt, hc⟩
  · omega
  · exact ⟨b, off, rfl, hlt, hc k hk⟩

end
end Go.Proofs.YtinndpnilmmmjaaGreatDoor
