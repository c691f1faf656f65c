import Derived.Test.YtlnangnimbgpoaaMMath
import Derived.Test.YtlnangnimbgpoaaMBase
import Derived.Test.YtlnangnimbgpoaaMBase
namespace Go.Proofs.Ytlnangnimbgpoaa
open Go.RowKit

/-- At cell off of block b lies the part p, its lists read by R. -/
def PAt (R : World → Option Addr → Nat → List Int → Prop) (w : World) (b off : Nat) (p : PartD) : Prop :=
  ∃ s1 n1 c1 s2 n2 c2, w.cell? ⟨b, off, none⟩ = some (.bool p.all) ∧ w.cell? ⟨b, off + 1, none⟩ = some (.bool p.c) ∧ w.cell? ⟨b, off + 2, none⟩ = some (.slice s1 n1 c1) ∧ w.cell? ⟨b, off + 3, none⟩ = some (.slice s2 n2 c2) ∧ R w s1 n1 p.sh ∧ R w s2 n2 p.dt

/-- The slice (a, n, _) reads as the parts ps. -/
structure PRow (w : World) (a : Option Addr) (n : Nat) (ps : List PartD) : Prop where
  len : ps.length = n
  small : n ≤ 1048576
  at_ : n = 0 ∨ ∃ b off, a = some ⟨b, off, none⟩ ∧ b < w.heap.size ∧ ∀ i, i < n → PAt Row w b (off + i * 4) (part ps i)

structure PRaw (w : World) (a : Option Addr) (n : Nat) (ps : List PartD) : Prop where
  len : ps.length = n
  max : n ≤ 9223372036854775807
  at_ : n = 0 ∨ ∃ b off, a = some ⟨b, off, none⟩ ∧ b < w.heap.size ∧ ∀ i, i < n → PAt Raw w b (off + i * 4) (part ps i)

theorem Raw.below {w w' : World} {a : Option Addr} {n : Nat} {zs : List Int} {B : Nat} (h : Raw w a n zs) (hB : w.heap.size ≤ B) (hb : Below B w w') : Raw w' a n zs := by
  refine ⟨h.len, h.max, ?_⟩
  rcases h.at_ with h0 | ⟨b, off, rfl, hlt, hc⟩
  · exact .inl h0
  · exact .inr ⟨b, off, rfl, Nat.lt_of_lt_of_le hlt hb.size, fun i hi => (hb.cell (p := ⟨b, off + i, none⟩) (Nat.lt_of_lt_of_le hlt hB)).trans (hc i hi)⟩

theorem PAt.below {R : World → Option Addr → Nat → List Int → Prop} {w w' : World} {b off B : Nat} {p : PartD} (h : PAt R w b off p) (hR : ∀ a n zs, R w a n zs → R w' a n zs) (hlt : b < B) (hb : Below B w w') : PAt R w' b off p := by
  obtain ⟨s1, n1, c1, s2, n2, c2, e1, e2, e3, e4, e5, e6⟩ := h
  exact ⟨s1, n1, c1, s2, n2, c2, (hb.cell (p := ⟨b, off, none⟩) hlt).trans e1, (hb.cell (p := ⟨b, off + 1, none⟩) hlt).trans e2, (hb.cell (p := ⟨b, off + 2, none⟩) hlt).trans e3, (hb.cell (p := ⟨b, off + 3, none⟩) hlt).trans e4, hR _ _ _ e5, hR _ _ _ e6⟩

theorem PRow.below {w w' : World} {a : Option Addr} {n : Nat} {ps : List PartD} {B : Nat} (h : PRow w a n ps) (hB : w.heap.size ≤ B) (hb : Below B w w') : PRow w' a n ps := by
  refine ⟨h.len, h.small, ?_⟩
  rcases h.at_ with h0 | ⟨b, off, rfl, hlt, hc⟩
  · exact .inl h0
  · exact .inr ⟨b, off, rfl, Nat.lt_of_lt_of_le hlt hb.size, fun i hi => (hc i hi).below (fun _ _ _ hr => hr.below hB hb) (Nat.lt_of_lt_of_le hlt hB) hb⟩

theorem PRaw.below {w w' : World} {a : Option Addr} {n : Nat} {ps : List PartD} {B : Nat} (h : PRaw w a n ps) (hB : w.heap.size ≤ B) (hb : Below B w w') : PRaw w' a n ps := by
  refine ⟨h.len, h.max, ?_⟩
  rcases h.at_ with h0 | ⟨b, off, rfl, hlt, hc⟩
  · exact .inl h0
  · exact .inr ⟨b, off, rfl, Nat.lt_of_lt_of_le hlt hb.size, fun i hi => (hc i hi).below (fun _ _ _ hr => hr.below hB hb) (Nat.lt_of_lt_of_le hlt hB) hb⟩

theorem PRow.alloc {w : World} {a : Option Addr} {n : Nat} {ps : List PartD} (h : PRow w a n ps) (o : Obj) : PRow (w.alloc o) a n ps := h.below (Nat.le_refl _) ((Below.refl _ _).alloc (Nat.le_refl _) _)
theorem PRow.drew {w : World} {a : Option Addr} {n : Nat} {ps : List PartD} (h : PRow w a n ps) : PRow w.drew a n ps := h.below (Nat.le_refl _) (Below.refl _ _).drew

theorem PRow.get {w : World} {a : Option Addr} {n : Nat} {ps : List PartD} (h : PRow w a n ps) {k : Nat} (hk : k < n) : ∃ b off, a = some ⟨b, off, none⟩ ∧ b < w.heap.size ∧ PAt Row w b (off + k * 4) (part ps k) := by
  rcases h.at_ with h0 | ⟨b, off, rfl, hlt, hc⟩
  · omega
  · exact ⟨b, off, rfl, hlt, hc k hk⟩

theorem PRaw.get {w : World} {a : Option Addr} {n : Nat} {ps : List PartD} (h : PRaw w a n ps) {k : Nat} (hk : k < n) : ∃ b off, a = some ⟨b, off, none⟩ ∧ b < w.heap.size ∧ PAt Raw w b (off + k * 4) (part ps k) := by
  rcases h.at_ with h0 | ⟨b, off, rfl, hlt, hc⟩
  · omega
  · exact ⟨b, off, rfl, hlt, hc k hk⟩

/-- .. and no shape that is read is nil. -/
structure PRowN (w : World) (a : Option Addr) (n : Nat) (ps : List PartD) : Prop where
  row : PRow w a n ps
  nn : ∀ b off, a = some ⟨b, off, none⟩ → b < w.heap.size → ∀ i, i < n → (part ps i).all = false → ∃ ad m c, w.cell? ⟨b, off + i * 4 + 2, none⟩ = some (.slice (some ad) m c)

theorem PRowN.below {w w' : World} {a : Option Addr} {n : Nat} {ps : List PartD} {B : Nat} (h : PRowN w a n ps) (hB : w.heap.size ≤ B) (hb : Below B w w') : PRowN w' a n ps := by
  refine ⟨h.row.below hB hb, fun b off e hlt i hi hall => ?_⟩
  obtain ⟨b', off', e', hlt', _⟩ := h.row.get hi
  rw [e] at e'
  cases e'
  obtain ⟨ad, m, c, hc⟩ := h.nn b off e hlt' i hi hall
  exact ⟨ad, m, c, (hb.cell (p := ⟨b, off + i * 4 + 2, none⟩) (Nat.lt_of_lt_of_le hlt' hB)).trans hc⟩

theorem PRowN.alloc {w : World} {a : Option Addr} {n : Nat} {ps : List PartD} (h : PRowN w a n ps) (o : Obj) : PRowN (w.alloc o) a n ps := h.below (Nat.le_refl _) ((Below.refl _ _).alloc (Nat.le_refl _) _)

/-- How long the lists of the first k parts may be. -/
def SmallN (ps : List PartD) (k : Nat) : Prop := ∀ i, i < k → (part ps i).sh.length ≤ 1048576 ∧ (part ps i).dt.length ≤ 1048576

theorem SmallN.step {ps : List PartD} {k : Nat} (h : SmallN ps k) (h1 : (part ps k).sh.length ≤ 1048576) (h2 : (part ps k).dt.length ≤ 1048576) : SmallN ps (k + 1) := fun i hi => by
  by_cases e : i = k
  · subst e; exact ⟨h1, h2⟩
  · exact h i (by omega)

theorem PRaw.row {w : World} {a : Option Addr} {n : Nat} {ps : List PartD} (h : PRaw w a n ps) (hn : n ≤ 1048576) (hs : SmallN ps n) : PRow w a n ps := by
  refine ⟨h.len, hn, ?_⟩
  rcases h.at_ with h0 | ⟨b, off, rfl, hlt, hc⟩
  · exact .inl h0
  · refine .inr ⟨b, off, rfl, hlt, fun i hi => ?_⟩
    obtain ⟨s1, n1, c1, s2, n2, c2, e1, e2, e3, e4, e5, e6⟩ := hc i hi
    have := hs i hi
    exact ⟨s1, n1, c1, s2, n2, c2, e1, e2, e3, e4, e5.row (by have := e5.len; omega), e6.row (by have := e6.len; omega)⟩

end Go.Proofs.Ytlnangnimbgpoaa
