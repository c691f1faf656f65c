import Derived.Test.YtkgcmpmgaghdhaaDoorLawArrBase
namespace Go.Proofs.YtkgcmpmgaghdhaaDoor
open Go.RowKit

theorem Box.free' {w : World} {p : Nat} {c : Bool} {v1 v2 : Value} (h : Box w p c v1 v2) : w.cell? ⟨p, 0, none⟩ = some (.bool c) ∧ w.cell? ⟨p, 1, none⟩ = some v1 ∧ w.cell? ⟨p, 2, none⟩ = some v2 ∧ w.frozen? ⟨p, 0, none⟩ = false ∧ w.frozen? ⟨p, 1, none⟩ = false ∧ w.frozen? ⟨p, 2, none⟩ = false ∧ p < w.heap.size :=
  ⟨h.cells.1, h.cells.2.1, h.cells.2.2, frozen_of_row w p _ _ _ h, frozen_of_row w p _ _ _ h, frozen_of_row w p _ _ _ h, h.lt⟩

theorem Box.sets {w : World} {p : Nat} {c c' : Bool} {v1 v2 u1 u2 : Value} (h : Box w p c v1 v2) : Box (((w.setCell ⟨p, 0, none⟩ (.bool c')).setCell ⟨p, 1, none⟩ u1).setCell ⟨p, 2, none⟩ u2) p c' u1 u2 := by
  unfold Box at h ⊢
  have h1 := heap_setCell_same w p 0 _ _ (.bool c') h
  have h2 := heap_setCell_same _ p 1 _ _ u1 h1
  have h3 := heap_setCell_same _ p 2 _ _ u2 h2
  simpa using h3

theorem Row.notBox {w : World} {a : Option Addr} {n p : Nat} {zs : List Int} {c : Bool} {a1 a2 : Option Addr} {l1 l2 c1 c2 : Nat} (h : Row w a n zs) (hb : Box w p c (.slice a1 l1 c1) (.slice a2 l2 c2)) {k : Nat} (hk : At a n k) : k ≠ p := by
  rcases h.at_ with h0 | ⟨g, off, rfl, hg, hc⟩
  · exact absurd h0 hk.1
  · have e := at_eq hk
    subst e
    rintro rfl
    have h1 := hc 0 (by have := hk.1; omega)
    unfold Box at hb
    simp only [World.cell?, hb] at h1
    simp at h1
    match off, h1 with
    | 0, h1 => simp at h1
    | 1, h1 => simp at h1
    | 2, h1 => simp at h1

theorem Row.otherB {w : World} {a : Option Addr} {n : Nat} {zs : List Int} (h : Row w a n zs) {q : Addr} (ha : ∀ k, At a n k → k ≠ q.block) (v : Value) : Row (w.setCell q v) a n zs :=
  ((But.refl (fun k => k = q.block) w).setCell rfl v).row h (fun k hk hk' => ha k hk' hk)

theorem Row.sets {w : World} {a : Option Addr} {n p : Nat} {zs : List Int} {c : Bool} {a1 a2 : Option Addr} {l1 l2 c1 c2 : Nat} (h : Row w a n zs) (hb : Box w p c (.slice a1 l1 c1) (.slice a2 l2 c2)) (u0 u1 u2 : Value) : Row (((w.setCell ⟨p, 0, none⟩ u0).setCell ⟨p, 1, none⟩ u1).setCell ⟨p, 2, none⟩ u2) a n zs :=
  ((h.otherB (fun _ hk => h.notBox hb hk) _).otherB (fun _ hk => h.notBox hb hk) _).otherB (fun _ hk => h.notBox hb hk) _

end Go.Proofs.YtkgcmpmgaghdhaaDoor
