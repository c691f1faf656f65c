import Derived.Test.YtkgcmpmgaghdhaaGreatDoorMFit1
import Derived.Test.YtkgcmpmgaghdhaaGreatDoorMFit0
import Derived.Test.YtkgcmpmgaghdhaaGreatDoorMFit0
namespace Go.Proofs.YtkgcmpmgaghdhaaGreatDoor
open Go.RowKit

/-- The box of the answer holds an array of the call's own. -/
def Res5 (w : World) (d : Bool) (zs ys : List Int) (n N box : Nat) (wx : World) : Prop :=
  ∃ ash csh gd, Box wx box d (.slice ash n csh) (.slice (some ⟨gd, 0, none⟩) N N) ∧ Own wx w.heap.size ash n zs ∧ w.heap.size ≤ gd ∧ Blk wx gd ys ∧ ¬ At ash n gd ∧ Below w.heap.size w wx

theorem Res5.set {w W : World} {d : Bool} {zs ys : List Int} {n N box gd csh : Nat} {ash : Option Addr} {v1 v2 : Value} {c : Bool} (hb : Box W box c v1 v2) (hO : Own W w.heap.size ash n zs) (hg : w.heap.size ≤ gd) (hB : Blk W gd ys) (hne : ¬ At ash n gd) (hbl : Below w.heap.size w W) (hb1 : ¬ At ash n box) (hb2 : gd ≠ box) (hw : w.heap.size ≤ box) :
    Res5 w d zs ys n N box (((W.setCell ⟨box, 0, none⟩ (.bool d)).setCell ⟨box, 1, none⟩ (.slice ash n csh)).setCell ⟨box, 2, none⟩ (.slice (some ⟨gd, 0, none⟩) N N)) := by
  have hk : ∀ k, At ash n k → k ≠ box := fun k hk e => hb1 (e ▸ hk)
  exact ⟨ash, csh, gd, hb.sets, ((hO.other (q := ⟨box, 0, none⟩) hk _).other (q := ⟨box, 1, none⟩) hk _).other (q := ⟨box, 2, none⟩) hk _, hg, ((hB.other (p := ⟨box, 0, none⟩) hb2 _).other (p := ⟨box, 1, none⟩) hb2 _).other (p := ⟨box, 2, none⟩) hb2 _, hne, ((hbl.setCell (p := ⟨box, 0, none⟩) hw _).setCell (p := ⟨box, 1, none⟩) hw _).setCell (p := ⟨box, 2, none⟩) hw _⟩

theorem gives_res {w wx : World} {d : Bool} {zs ys : List Int} {n N gd csh : Nat} {ash : Option Addr} (hl : ys.length = N) (hN : N ≤ 17592186044416) (hO : Own wx w.heap.size ash n zs) (hg : w.heap.size ≤ gd) (hB : Blk wx gd ys) (hne : ¬ At ash n gd) (hbl : Below w.heap.size w wx) :
    GivesOwn w ⟨d, zs, ys, 0⟩ (.returned (.tuple #[.agg #[.bool d, .slice ash n csh, .slice (some ⟨gd, 0, none⟩) N N], .int .i64 0])) wx :=
  ⟨ash, n, csh, some ⟨gd, 0, none⟩, N, N, rfl, hO, hB.own hl hN hg, fun k h1 h2 => by have := at_eq h2; subst this; exact hne h1, hbl⟩

end Go.Proofs.YtkgcmpmgaghdhaaGreatDoor
