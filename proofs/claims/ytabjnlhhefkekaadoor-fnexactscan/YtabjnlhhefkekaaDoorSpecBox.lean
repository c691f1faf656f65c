import Derived.Test.YtabjnlhhefkekaaDoorSpecInts
namespace Go.Proofs.YtabjnlhhefkekaaDoor
open Go.RowKit

theorem Box.free {w : World} {p : Nat} {c : Bool} {v1 v2 : Value} (h : Box w p c v1 v2) (o : Nat) : w.frozen? ⟨p, o, none⟩ = false := frozen_of_row w p o _ _ h

theorem Box.all {w : World} {p : Nat} {c : Bool} {v1 v2 : Value} (h : Box w p c v1 v2) : w.cell? ⟨p, 0, none⟩ = some (.bool c) ∧ w.cell? ⟨p, 1, none⟩ = some v1 ∧ w.cell? ⟨p, 2, none⟩ = some v2 ∧ w.frozen? ⟨p, 0, none⟩ = false ∧ w.frozen? ⟨p, 1, none⟩ = false ∧ w.frozen? ⟨p, 2, none⟩ = false ∧ p < w.heap.size :=
  ⟨h.cells.1, h.cells.2.1, h.cells.2.2, h.free _, h.free _, h.free _, h.lt⟩

theorem Box.set2 {w : World} {p : Nat} {c : Bool} {v1 v2 : Value} (h : Box w p c v1 v2) (v : Value) : Box (w.setCell ⟨p, 2, none⟩ v) p c v1 v := by
  unfold Box at h ⊢
  rw [heap_setCell_same w p 2 _ _ _ h]
  simp

theorem Box.other {w : World} {p : Nat} {c : Bool} {v1 v2 : Value} (h : Box w p c v1 v2) {q : Addr} (hq : p ≠ q.block) (v : Value) : Box (w.setCell q v) p c v1 v2 := (heap_setCell_other w q p v hq).trans h

theorem Box.low {w w' : World} {p B : Nat} {c : Bool} {v1 v2 : Value} (h : Box w p c v1 v2) (hp : p < B) (hb : Below B w w') : Box w' p c v1 v2 := (hb.block p hp).trans h

theorem Own.low' {w w' : World} {a : Option Addr} {n : Nat} {zs : List Int} {B C : Nat} (h : Own w C a n zs) (ha : ∀ k, At a n k → k < B) (hb : Below B w w') : Own w' C a n zs := by
  refine ⟨h.len, h.small, ?_⟩
  rcases h.at_ with h0 | ⟨g, off, rfl, hg, hlt, hc, hf⟩
  · exact .inl h0
  · by_cases h0 : n = 0
    · exact .inl h0
    have hgB := ha g (at_self h0)
    exact .inr ⟨g, off, rfl, hg, Nat.lt_of_lt_of_le hlt hb.size, fun i hi => (hb.cell (p := ⟨g, off + i, none⟩) hgB).trans (hc i hi), fun i hi => (hb.frozen (p := ⟨g, off + i, none⟩) hgB).trans (hf i hi)⟩

theorem Own.other {w : World} {a : Option Addr} {n C : Nat} {zs : List Int} (h : Own w C a n zs) {q : Addr} (ha : ∀ k, At a n k → k ≠ q.block) (v : Value) : Own (w.setCell q v) C a n zs :=
  ((But.refl (fun k => k = q.block) w).setCell rfl v).own h (fun k hk hk' => ha k hk' hk)

/-- An append to a slice of the call's own leaves all blocks below its base. -/
theorem below_append {w w1 : World} {base n : Nat} {v : Value} {xs : List Value} (o : Obj) (hown : w.ownsRow base 3 1 v n xs) (hb : base ≤ w.heap.size) (hg : (w.alloc o).grownBy w1 v.ownBlock) : Below base w w1 :=
  ((Below.refl _ _).alloc hb _).grown hg (by simp; omega) (by
    intro k hk
    rcases hown.2 with ⟨rfl, _⟩ | ⟨g, cap, cur, rfl, hbg, _⟩
    · cases hk
    · cases hk; exact hbg)

theorem Box.grown {w w1 : World} {p base n : Nat} {c : Bool} {v1 v2 v : Value} {xs : List Value} (h : Box w p c v1 v2) (hown : w.ownsRow base 3 1 v n xs) (o : Obj) (hg : (w.alloc o).grownBy w1 v.ownBlock) : Box w1 p c v1 v2 := by
  refine (hg.block p (by have := h.lt; simp; omega) ?_).trans (h.alloc o)
  rcases hown.2 with ⟨rfl, _⟩ | ⟨g, cap, cur, rfl, _, hh, _⟩
  · exact fun e => by cases e
  · intro e
    have e' : p = g := by simpa [Value.ownBlock] using e
    subst e'
    unfold Box at h
    rw [hh] at h
    simp at h

theorem owns_box_set {w : World} {base n p : Nat} {v : Value} {xs : List Value} {c : Bool} {v1 v2 : Value} (h : w.ownsRow base 3 1 v n xs) (hb : Box w p c v1 v2) (o : Nat) (u : Value) : (w.setCell ⟨p, o, none⟩ u).ownsRow base 3 1 v n xs := by
  obtain ⟨h1, h2⟩ := h
  refine ⟨h1, ?_⟩
  rcases h2 with h2 | ⟨g, cap, cur, hv, hg, hh, r⟩
  · exact Or.inl h2
  · refine Or.inr ⟨g, cap, cur, hv, hg, ?_, r⟩
    rw [Below.heap_setCell _ _ _ _ (by
      intro e
      have e' : g = p := e
      subst e'
      unfold Box at hb
      rw [hh] at hb
      simp at hb)]
    exact hh

theorem owns_slice {w : World} {base e size n : Nat} {v : Value} {xs : List Value} (h : w.ownsRow base e size v n xs) : ∃ a cap, v = .slice a n cap := by
  rcases h.2 with ⟨rfl, h0⟩ | ⟨g, cap, cur, rfl, _⟩
  · exact ⟨none, 0, by rw [h0]⟩
  · exact ⟨_, _, rfl⟩

theorem take_map_snoc (f : Int → Int) (xs : List Int) (k : Nat) (h : k < xs.length) : ((xs.take (k + 1)).map f).map (Value.int .i64) = ((xs.take k).map f).map (Value.int .i64) ++ [.int .i64 (f (xs.getD k 0))] := by
  rw [take_snoc xs k h]; simp

end Go.Proofs.YtabjnlhhefkekaaDoor
