import Derived.Test.YtadbhidpmihghabImplLays
import Derived.Test.YtadbhidpmihghabSpecVCopy
namespace Go.Proofs.Ytadbhidpmihghab
open Go.RowKit

theorem vhead {w w1 : World} {c : Int} {v1 v2 : Value} (hb : Below ((w.alloc (.cells #[.int .i64 c, v1, v2] 26)).alloc (.cells #[.int .i64 0, .slice none 0 0, .slice none 0 0] 26)).heap.size ((w.alloc (.cells #[.int .i64 c, v1, v2] 26)).alloc (.cells #[.int .i64 0, .slice none 0 0, .slice none 0 0] 26)) w1) :
    VBox w1 (w.heap.size + 1) 0 (.slice none 0 0) (.slice none 0 0) ∧ Below w.heap.size w w1 := (vboxes2 hb).2

/-- The last lines of a function that hands view's answer on. -/
theorem gives_on {w w1 w2 : World} {r : VAns} {b1 b2 : Option Addr} {m1 d1 m2 d2 p : Nat} (h1 : Own w2 w1.heap.size b1 m1 r.sh) (h2 : Own w2 w1.heap.size b2 m2 r.dt) (ha : Apart b1 m1 b2 m2) (hb : Below w.heap.size w w1) (hb2 : Below w1.heap.size w1 w2) (hp : w.heap.size ≤ p) (hp1 : p < w1.heap.size) (u0 u1 u2 : Value) :
    GivesVO w r (.returned (.tuple #[.agg #[.int .i64 r.c, .slice b1 m1 d1, .slice b2 m2 d2], .bool r.code])) (((w2.setCell ⟨p, 0, none⟩ u0).setCell ⟨p, 1, none⟩ u1).setCell ⟨p, 2, none⟩ u2) := by
  have k1 : ∀ x, At b1 m1 x → x ≠ p := fun x hx => by have := h1.low hx; omega
  have k2 : ∀ x, At b2 m2 x → x ≠ p := fun x hx => by have := h2.low hx; omega
  have hs := hb.size
  exact ⟨b1, m1, d1, b2, m2, d2, rfl, (((h1.mono hs).other (q := ⟨p, 0, none⟩) k1 _).other (q := ⟨p, 1, none⟩) k1 _).other (q := ⟨p, 2, none⟩) k1 _, (((h2.mono hs).other (q := ⟨p, 0, none⟩) k2 _).other (q := ⟨p, 1, none⟩) k2 _).other (q := ⟨p, 2, none⟩) k2 _, ha, (((hb.trans (hb2.mono hs)).setCell (p := ⟨p, 0, none⟩) hp _).setCell (p := ⟨p, 1, none⟩) hp _).setCell (p := ⟨p, 2, none⟩) hp _⟩

end Go.Proofs.Ytadbhidpmihghab
