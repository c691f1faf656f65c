import Derived.Test.YtmgjicgojlkpcaaGreatDoorNRows
import Derived.Test.YtmgjicgojlkpcaaGreatDoorMarksB
namespace Go.Proofs.YtmgjicgojlkpcaaGreatDoor
open Go.RowKit

/-- Block p holds a node. -/
def NBox (w : World) (p : Nat) (v0 v1 v2 v3 v4 v5 : Value) : Prop := w.heap[p]? = some (.cells #[v0, v1, v2, v3, v4, v5] 47 (0, 0))

theorem NBox.all {w : World} {p : Nat} {v0 v1 v2 v3 v4 v5 : Value} (h : NBox w p v0 v1 v2 v3 v4 v5) : w.cell? ⟨p, 0, none⟩ = some v0 ∧ w.cell? ⟨p, 1, none⟩ = some v1 ∧ w.cell? ⟨p, 2, none⟩ = some v2 ∧ w.cell? ⟨p, 3, none⟩ = some v3 ∧ w.cell? ⟨p, 4, none⟩ = some v4 ∧ w.cell? ⟨p, 5, none⟩ = some v5 := by
  unfold NBox at h
  refine ⟨?_, ?_, ?_, ?_, ?_, ?_⟩ <;> simp [World.cell?, h]

theorem NBox.lt {w : World} {p : Nat} {v0 v1 v2 v3 v4 v5 : Value} (h : NBox w p v0 v1 v2 v3 v4 v5) : p < w.heap.size := lt_of_block h
theorem NBox.below {w w' : World} {p B : Nat} {v0 v1 v2 v3 v4 v5 : Value} (h : NBox w p v0 v1 v2 v3 v4 v5) (hp : p < B) (hb : Below B w w') : NBox w' p v0 v1 v2 v3 v4 v5 := (hb.block p hp).trans h
theorem NBox.but {S : Nat → Prop} {w w' : World} {p : Nat} {v0 v1 v2 v3 v4 v5 : Value} (h : NBox w p v0 v1 v2 v3 v4 v5) (hb : But S w w') (hp : ¬ S p) : NBox w' p v0 v1 v2 v3 v4 v5 := (hb.block p h.lt hp).trans h
theorem NBox.new (w : World) (v0 v1 v2 v3 v4 v5 : Value) : NBox (w.alloc (.cells #[v0, v1, v2, v3, v4, v5] 47)) w.heap.size v0 v1 v2 v3 v4 v5 := by
  show (w.heap.push _)[w.heap.size]? = _
  simp

theorem NRow.butN {S : Nat → Prop} {w w1 w' : World} {a : Option Addr} {n : Nat} {ns : List NodeD} (h : NRow w a n ns) (hb1 : Below w.heap.size w w1) (hb : But S w1 w') (hS : ∀ k, k < w.heap.size → ¬ S k) : NRow w' a n ns := by
  refine ⟨h.len, h.small, ?_⟩
  rcases h.at_ with h0 | ⟨b, off, e, hlt, hc⟩
  · exact .inl h0
  · refine .inr ⟨b, off, e, by have := hb1.size; have := hb.size; omega, fun i hi => ?_⟩
    obtain ⟨s1, n1, c1, s2, n2, c2, e0, e1, e2, e3, e4, e5, r1, r2⟩ := hc i hi
    have hcc : ∀ o, w'.cell? ⟨b, o, none⟩ = w.cell? ⟨b, o, none⟩ := fun o => (World.cell?_of_block (hb.block b (by have := hb1.size; omega) (hS b hlt))).trans (hb1.cell (p := ⟨b, o, none⟩) hlt)
    exact ⟨s1, n1, c1, s2, n2, c2, (hcc _).trans e0, (hcc _).trans e1, (hcc _).trans e2, (hcc _).trans e3, (hcc _).trans e4, (hcc _).trans e5, hb.row (r1.below (Nat.le_refl _) hb1) (fun k hk hk' => hS k (r1.hi hk') hk), hb.row (r2.below (Nat.le_refl _) hb1) (fun k hk hk' => hS k (r2.hi hk') hk)⟩

end Go.Proofs.YtmgjicgojlkpcaaGreatDoor
