import Derived.Test.YtmgjicgojlkpcaaGreatDoorTreeMath
import Derived.Test.YtmgjicgojlkpcaaGreatDoorLawBox
namespace Go.Proofs.YtmgjicgojlkpcaaGreatDoor
open Go.RowKit

/-- At cell off of block b lies the node x, its lists read by R. -/
def NAt (R : World → Option Addr → Nat → List Int → Prop) (w : World) (b off : Nat) (x : NodeD) : Prop :=
  ∃ s1 n1 c1 s2 n2 c2, w.cell? ⟨b, off, none⟩ = some (.int .i64 x.k) ∧ w.cell? ⟨b, off + 1, none⟩ = some (.int .i64 x.n) ∧ w.cell? ⟨b, off + 2, none⟩ = some (.int .i64 x.m) ∧ w.cell? ⟨b, off + 3, none⟩ = some (.string x.s) ∧ w.cell? ⟨b, off + 4, none⟩ = some (.slice s1 n1 c1) ∧ w.cell? ⟨b, off + 5, none⟩ = some (.slice s2 n2 c2) ∧ R w s1 n1 x.nums ∧ R w s2 n2 x.kids

/-- The slice (a, n, _) reads as the nodes ns. -/
structure NRow (w : World) (a : Option Addr) (n : Nat) (ns : List NodeD) : Prop where
  len : ns.length = n
  small : n ≤ 1048576
  at_ : n = 0 ∨ ∃ b off, a = some ⟨b, off, none⟩ ∧ b < w.heap.size ∧ ∀ i, i < n → NAt Row w b (off + i * 6) (node ns i)

structure NRaw (w : World) (a : Option Addr) (n : Nat) (ns : List NodeD) : Prop where
  len : ns.length = n
  max : n ≤ 9223372036854775807
  smax : ∀ i, i < n → (node ns i).s.size ≤ 9223372036854775807
  at_ : n = 0 ∨ ∃ b off, a = some ⟨b, off, none⟩ ∧ b < w.heap.size ∧ ∀ i, i < n → NAt Raw w b (off + i * 6) (node ns i)

theorem Raw.below {w w' : World} {a : Option Addr} {n : Nat} {zs : List Int} {B : Nat} (h : Raw w a n zs) (hB : w.heap.size ≤ B) (hb : Below B w w') : Raw w' a n zs := by
  refine ⟨h.len, h.max, ?_⟩
  rcases h.at_ with h0 | ⟨b, off, rfl, hlt, hc⟩
  · exact .inl h0
  · exact .inr ⟨b, off, rfl, Nat.lt_of_lt_of_le hlt hb.size, fun i hi => (hb.cell (p := ⟨b, off + i, none⟩) (Nat.lt_of_lt_of_le hlt hB)).trans (hc i hi)⟩

theorem NAt.below {R : World → Option Addr → Nat → List Int → Prop} {w w' : World} {b off B : Nat} {x : NodeD} (h : NAt R w b off x) (hR : ∀ a n zs, R w a n zs → R w' a n zs) (hlt : b < B) (hb : Below B w w') : NAt R w' b off x := by
  obtain ⟨s1, n1, c1, s2, n2, c2, e0, e1, e2, e3, e4, e5, r1, r2⟩ := h
  exact ⟨s1, n1, c1, s2, n2, c2, (hb.cell (p := ⟨b, off, none⟩) hlt).trans e0, (hb.cell (p := ⟨b, off + 1, none⟩) hlt).trans e1, (hb.cell (p := ⟨b, off + 2, none⟩) hlt).trans e2, (hb.cell (p := ⟨b, off + 3, none⟩) hlt).trans e3, (hb.cell (p := ⟨b, off + 4, none⟩) hlt).trans e4, (hb.cell (p := ⟨b, off + 5, none⟩) hlt).trans e5, hR _ _ _ r1, hR _ _ _ r2⟩

theorem NRow.below {w w' : World} {a : Option Addr} {n : Nat} {ns : List NodeD} {B : Nat} (h : NRow w a n ns) (hB : w.heap.size ≤ B) (hb : Below B w w') : NRow w' a n ns := by
  refine ⟨h.len, h.small, ?_⟩
  rcases h.at_ with h0 | ⟨b, off, rfl, hlt, hc⟩
  · exact .inl h0
  · exact .inr ⟨b, off, rfl, Nat.lt_of_lt_of_le hlt hb.size, fun i hi => (hc i hi).below (fun _ _ _ hr => hr.below hB hb) (Nat.lt_of_lt_of_le hlt hB) hb⟩

theorem NRaw.below {w w' : World} {a : Option Addr} {n : Nat} {ns : List NodeD} {B : Nat} (h : NRaw w a n ns) (hB : w.heap.size ≤ B) (hb : Below B w w') : NRaw w' a n ns := by
  refine ⟨h.len, h.max, h.smax, ?_⟩
  rcases h.at_ with h0 | ⟨b, off, rfl, hlt, hc⟩
  · exact .inl h0
  · exact .inr ⟨b, off, rfl, Nat.lt_of_lt_of_le hlt hb.size, fun i hi => (hc i hi).below (fun _ _ _ hr => hr.below hB hb) (Nat.lt_of_lt_of_le hlt hB) hb⟩

theorem NRow.alloc {w : World} {a : Option Addr} {n : Nat} {ns : List NodeD} (h : NRow w a n ns) (o : Obj) : NRow (w.alloc o) a n ns := h.below (Nat.le_refl _) ((Below.refl _ _).alloc (Nat.le_refl _) _)
theorem NRow.drew {w : World} {a : Option Addr} {n : Nat} {ns : List NodeD} (h : NRow w a n ns) : NRow w.drew a n ns := h.below (Nat.le_refl _) (Below.refl _ _).drew

theorem NRow.get {w : World} {a : Option Addr} {n : Nat} {ns : List NodeD} (h : NRow w a n ns) {k : Nat} (hk : k < n) : ∃ b off, a = some ⟨b, off, none⟩ ∧ b < w.heap.size ∧ NAt Row w b (off + k * 6) (node ns k) := by
  rcases h.at_ with h0 | ⟨b, off, rfl, hlt, hc⟩
  · omega
  · exact ⟨b, off, rfl, hlt, hc k hk⟩

theorem NRaw.get {w : World} {a : Option Addr} {n : Nat} {ns : List NodeD} (h : NRaw w a n ns) {k : Nat} (hk : k < n) : ∃ b off, a = some ⟨b, off, none⟩ ∧ b < w.heap.size ∧ NAt Raw w b (off + k * 6) (node ns k) := by
  rcases h.at_ with h0 | ⟨b, off, rfl, hlt, hc⟩
  · omega
  · exact ⟨b, off, rfl, hlt, hc k hk⟩

/-- How long the texts and lists of the first k nodes may be. -/
def SmallD (ns : List NodeD) (k : Nat) : Prop := ∀ i, i < k → (node ns i).s.size ≤ 1048576 ∧ (node ns i).nums.length ≤ 1048576 ∧ (node ns i).kids.length ≤ 1048576

theorem SmallD.step {ns : List NodeD} {k : Nat} (h : SmallD ns k) (h1 : (node ns k).s.size ≤ 1048576) (h2 : (node ns k).nums.length ≤ 1048576) (h3 : (node ns k).kids.length ≤ 1048576) : SmallD ns (k + 1) := fun i hi => by
  by_cases e : i = k
  · subst e; exact ⟨h1, h2, h3⟩
  · exact h i (by omega)

theorem NRaw.row {w : World} {a : Option Addr} {n : Nat} {ns : List NodeD} (h : NRaw w a n ns) (hn : n ≤ 1048576) (hs : SmallD ns n) : NRow w a n ns := by
  refine ⟨h.len, hn, ?_⟩
  rcases h.at_ with h0 | ⟨b, off, rfl, hlt, hc⟩
  · exact .inl h0
  · refine .inr ⟨b, off, rfl, hlt, fun i hi => ?_⟩
    obtain ⟨s1, n1, c1, s2, n2, c2, e0, e1, e2, e3, e4, e5, r1, r2⟩ := hc i hi
    have := hs i hi
    exact ⟨s1, n1, c1, s2, n2, c2, e0, e1, e2, e3, e4, e5, r1.row (by have := r1.len; omega), r2.row (by have := r2.len; omega)⟩

end Go.Proofs.YtmgjicgojlkpcaaGreatDoor
