import Derived.Test.YtadbhidpmihghaaGrowMore
namespace Go.Proofs.Ytadbhidpmihghaa
open Go.RowKit

/-- Block p holds a view. -/
def VBox (w : World) (p : Nat) (c : Int) (v1 v2 : Value) : Prop := w.heap[p]? = some (.cells #[.int .i64 c, v1, v2] 24 (0, 0))

theorem VBox.lt {w : World} {p : Nat} {c : Int} {v1 v2 : Value} (h : VBox w p c v1 v2) : p < w.heap.size := lt_of_block h

theorem VBox.cells {w : World} {p : Nat} {c : Int} {v1 v2 : Value} (h : VBox w p c v1 v2) : w.cell? ⟨p, 0, none⟩ = some (.int .i64 c) ∧ w.cell? ⟨p, 1, none⟩ = some v1 ∧ w.cell? ⟨p, 2, none⟩ = some v2 := by
  unfold VBox at h
  simp [World.cell?, h]

theorem VBox.below {w w' : World} {p B : Nat} {c : Int} {v1 v2 : Value} (h : VBox w p c v1 v2) (hB : w.heap.size ≤ B) (hb : Below B w w') : VBox w' p c v1 v2 := (hb.block p (Nat.lt_of_lt_of_le h.lt hB)).trans h

theorem VBox.but {S : Nat → Prop} {w w' : World} {p : Nat} {c : Int} {v1 v2 : Value} (h : VBox w p c v1 v2) (hb : But S w w') (hn : ¬ S p) : VBox w' p c v1 v2 := (hb.block p h.lt hn).trans h

theorem VBox.alloc {w : World} {p : Nat} {c : Int} {v1 v2 : Value} (h : VBox w p c v1 v2) (o : Obj) : VBox (w.alloc o) p c v1 v2 := (Below.heap_alloc w o p h.lt).trans h

theorem VBox.drew {w : World} {p : Nat} {c : Int} {v1 v2 : Value} (h : VBox w p c v1 v2) : VBox w.drew p c v1 v2 := h

theorem VBox.new (w : World) (c : Int) (v1 v2 : Value) : VBox (w.alloc (.cells #[.int .i64 c, v1, v2] 24 (0, 0))) w.heap.size c v1 v2 := by
  show (w.heap.push _)[w.heap.size]? = _
  simp

theorem VBox.free {w : World} {p : Nat} {c : Int} {v1 v2 : Value} (h : VBox w p c v1 v2) (o : Nat) : w.frozen? ⟨p, o, none⟩ = false := frozen_of_row w p o _ _ h

theorem VBox.all {w : World} {p : Nat} {c : Int} {v1 v2 : Value} (h : VBox w p c v1 v2) : w.cell? ⟨p, 0, none⟩ = some (.int .i64 c) ∧ w.cell? ⟨p, 1, none⟩ = some v1 ∧ w.cell? ⟨p, 2, none⟩ = some v2 ∧ w.frozen? ⟨p, 0, none⟩ = false ∧ w.frozen? ⟨p, 1, none⟩ = false ∧ w.frozen? ⟨p, 2, none⟩ = false ∧ p < w.heap.size :=
  ⟨h.cells.1, h.cells.2.1, h.cells.2.2, h.free _, h.free _, h.free _, h.lt⟩

theorem VBox.set2 {w : World} {p : Nat} {c : Int} {v1 v2 : Value} (h : VBox w p c v1 v2) (v : Value) : VBox (w.setCell ⟨p, 2, none⟩ v) p c v1 v := by
  unfold VBox at h ⊢
  rw [heap_setCell_same w p 2 _ _ _ h]
  simp

theorem VBox.other {w : World} {p : Nat} {c : Int} {v1 v2 : Value} (h : VBox w p c v1 v2) {q : Addr} (hq : p ≠ q.block) (v : Value) : VBox (w.setCell q v) p c v1 v2 := (heap_setCell_other w q p v hq).trans h

theorem VBox.low {w w' : World} {p B : Nat} {c : Int} {v1 v2 : Value} (h : VBox w p c v1 v2) (hp : p < B) (hb : Below B w w') : VBox w' p c v1 v2 := (hb.block p hp).trans h

theorem VBox.grown {w w1 : World} {p base n : Nat} {c : Int} {v1 v2 v : Value} {xs : List Value} (h : VBox w p c v1 v2) (hown : w.ownsRow base 3 1 v n xs) (o : Obj) (hg : (w.alloc o).grownBy w1 v.ownBlock) : VBox w1 p c v1 v2 := by
  refine (hg.block p (by have := h.lt; simp; omega) ?_).trans (h.alloc o)
  rcases hown.2 with ⟨rfl, _⟩ | ⟨g, cap, cur, rfl, _, hh, _⟩
  · exact fun e => by cases e
  · intro e
    have e' : p = g := by simpa [Value.ownBlock] using e
    subst e'
    unfold VBox at h
    rw [hh] at h
    simp at h

theorem owns_vbox_set {w : World} {base n p : Nat} {v : Value} {xs : List Value} {c : Int} {v1 v2 : Value} (h : w.ownsRow base 3 1 v n xs) (hb : VBox w p c v1 v2) (o : Nat) (u : Value) : (w.setCell ⟨p, o, none⟩ u).ownsRow base 3 1 v n xs := by
  obtain ⟨h1, h2⟩ := h
  refine ⟨h1, ?_⟩
  rcases h2 with h2 | ⟨g, cap, cur, hv, hg, hh, r⟩
  · exact Or.inl h2
  · refine Or.inr ⟨g, cap, cur, hv, hg, ?_, r⟩
    rw [Below.heap_setCell _ _ _ _ (by
      intro e
      have e' : g = p := e
      subst e'
      unfold VBox at hb
      rw [hh] at hb
      simp at hb)]
    exact hh



theorem VBox.free' {w : World} {p : Nat} {c : Int} {v1 v2 : Value} (h : VBox w p c v1 v2) : w.cell? ⟨p, 0, none⟩ = some (.int .i64 c) ∧ w.cell? ⟨p, 1, none⟩ = some v1 ∧ w.cell? ⟨p, 2, none⟩ = some v2 ∧ w.frozen? ⟨p, 0, none⟩ = false ∧ w.frozen? ⟨p, 1, none⟩ = false ∧ w.frozen? ⟨p, 2, none⟩ = false ∧ p < w.heap.size :=
  ⟨h.cells.1, h.cells.2.1, h.cells.2.2, frozen_of_row w p _ _ _ h, frozen_of_row w p _ _ _ h, frozen_of_row w p _ _ _ h, h.lt⟩

theorem VBox.sets {w : World} {p : Nat} {c c' : Int} {v1 v2 u1 u2 : Value} (h : VBox w p c v1 v2) : VBox (((w.setCell ⟨p, 0, none⟩ (.int .i64 c')).setCell ⟨p, 1, none⟩ u1).setCell ⟨p, 2, none⟩ u2) p c' u1 u2 := by
  unfold VBox at h ⊢
  have h1 := heap_setCell_same w p 0 _ _ (.int .i64 c') h
  have h2 := heap_setCell_same _ p 1 _ _ u1 h1
  have h3 := heap_setCell_same _ p 2 _ _ u2 h2
  simpa using h3

theorem Row.otherV {w : World} {a : Option Addr} {n : Nat} {zs : List Int} (h : Row w a n zs) {q : Addr} (ha : ∀ k, At a n k → k ≠ q.block) (v : Value) : Row (w.setCell q v) a n zs :=
  ((But.refl (fun k => k = q.block) w).setCell rfl v).row h (fun k hk hk' => ha k hk' hk)

theorem Row.setsV {w : World} {a : Option Addr} {n p : Nat} {zs : List Int} (h : Row w a n zs) (hne : ∀ k, At a n k → k ≠ p) (u0 u1 u2 : Value) : Row (((w.setCell ⟨p, 0, none⟩ u0).setCell ⟨p, 1, none⟩ u1).setCell ⟨p, 2, none⟩ u2) a n zs :=
  ((h.otherV (fun _ hk => hne _ hk) _).otherV (fun _ hk => hne _ hk) _).otherV (fun _ hk => hne _ hk) _

theorem VBox.set0 {w : World} {p : Nat} {c : Int} {v1 v2 : Value} (h : VBox w p c v1 v2) (x : Int) : VBox (w.setCell ⟨p, 0, none⟩ (.int .i64 x)) p x v1 v2 := by
  unfold VBox at h ⊢
  rw [heap_setCell_same w p 0 _ _ _ h]
  simp

end Go.Proofs.Ytadbhidpmihghaa
