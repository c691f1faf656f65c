import Derived.Test.YtlnangnimbgpoaaGives
import Derived.Test.YtlnangnimbgpoaaMBase
import Derived.Test.YtlnangnimbgpoaaMBase
namespace Go.Proofs.Ytlnangnimbgpoaa
open Go.RowKit

/-- The box of the answer holds an array of the call's own. -/
def Res5 (w : World) (d : Bool) (zs ys : List Int) (n N box : Nat) (wx : World) : Prop :=
  ∃ ash csh gd, Box wx box d (.slice ash n csh) (.slice (some ⟨gd, 0, none⟩) N N) ∧ Own wx w.heap.size ash n zs ∧ w.heap.size ≤ gd ∧ Blk wx gd ys ∧ ¬ At ash n gd ∧ Below w.heap.size w wx

theorem Res5.set {w W : World} {d : Bool} {zs ys : List Int} {n N box gd csh : Nat} {ash : Option Addr} {v1 v2 : Value} {c : Bool} (hb : Box W box c v1 v2) (hO : Own W w.heap.size ash n zs) (hg : w.heap.size ≤ gd) (hB : Blk W gd ys) (hne : ¬ At ash n gd) (hbl : Below w.heap.size w W) (hb1 : ¬ At ash n box) (hb2 : gd ≠ box) (hw : w.heap.size ≤ box) :
    Res5 w d zs ys n N box (((W.setCell ⟨box, 0, none⟩ (.bool d)).setCell ⟨box, 1, none⟩ (.slice ash n csh)).setCell ⟨box, 2, none⟩ (.slice (some ⟨gd, 0, none⟩) N N)) := by
  have hk : ∀ k, At ash n k → k ≠ box := fun k hk e => hb1 (e ▸ hk)
  exact ⟨ash, csh, gd, hb.sets, ((hO.other (q := ⟨box, 0, none⟩) hk _).other (q := ⟨box, 1, none⟩) hk _).other (q := ⟨box, 2, none⟩) hk _, hg, ((hB.other (p := ⟨box, 0, none⟩) hb2 _).other (p := ⟨box, 1, none⟩) hb2 _).other (p := ⟨box, 2, none⟩) hb2 _, hne, ((hbl.setCell (p := ⟨box, 0, none⟩) hw _).setCell (p := ⟨box, 1, none⟩) hw _).setCell (p := ⟨box, 2, none⟩) hw _⟩

theorem gives_res {w wx : World} {d : Bool} {zs ys : List Int} {n N gd csh : Nat} {ash : Option Addr} (hl : ys.length = N) (hN : N ≤ 17592186044416) (hO : Own wx w.heap.size ash n zs) (hg : w.heap.size ≤ gd) (hB : Blk wx gd ys) (hne : ¬ At ash n gd) (hbl : Below w.heap.size w wx) :
    GivesOwn w ⟨d, zs, ys, 0⟩ (.returned (.tuple #[.agg #[.bool d, .slice ash n csh, .slice (some ⟨gd, 0, none⟩) N N], .int .i64 0])) wx :=
  ⟨ash, n, csh, some ⟨gd, 0, none⟩, N, N, rfl, hO, hB.own hl hN hg, fun k h1 h2 => by have := at_eq h2; subst this; exact hne h1, hbl⟩

end Go.Proofs.Ytlnangnimbgpoaa
namespace Go.Proofs.Ytlnangnimbgpoaa
open Go.RowKit

/-- As GivesOwn, and the slices' room is said. -/
def GivesCap (w : World) (r : Ans) (e : Ending) (w' : World) : Prop := ∃ b1 m1 d1 b2 m2 d2, e = .returned (.tuple #[.agg #[.bool r.c, .slice b1 m1 d1, .slice b2 m2 d2], .int .i64 r.code]) ∧ Own w' w.heap.size b1 m1 r.sh ∧ Own w' w.heap.size b2 m2 r.dt ∧ Apart b1 m1 b2 m2 ∧ Below w.heap.size w w' ∧ (m1 ≤ d1 ∧ m2 ≤ d2 ∧ (r.code = 0 → ∃ ad, b2 = some ad))

theorem GivesCap.own {w w' : World} {r : Ans} {e : Ending} (h : GivesCap w r e w') : GivesOwn w r e w' := by
  obtain ⟨b1, m1, d1, b2, m2, d2, he, h1, h2, h3, h4, _⟩ := h
  exact ⟨b1, m1, d1, b2, m2, d2, he, h1, h2, h3, h4⟩

theorem cap_none {w w' : World} {code : Int} (hc : code ≠ 0) (h : Below w.heap.size w w') : GivesCap w (noAns code) (.returned (.tuple #[.agg #[.bool false, .slice none 0 0, .slice none 0 0], .int .i64 code])) w' :=
  ⟨none, 0, 0, none, 0, 0, rfl, own_none _ _ _, own_none _ _ _, fun _ h => absurd rfl h.1, h, Nat.le_refl _, Nat.le_refl _, fun e => absurd e hc⟩

theorem Res5.setC {w W : World} {d : Bool} {zs ys : List Int} {n N box gd csh : Nat} {ash : Option Addr} {v1 v2 : Value} {c : Bool} (hb : Box W box c v1 v2) (hO : Own W w.heap.size ash n zs) (hg : w.heap.size ≤ gd) (hB : Blk W gd ys) (hne : ¬ At ash n gd) (hbl : Below w.heap.size w W) (hb1 : ¬ At ash n box) (hb2 : gd ≠ box) (hw : w.heap.size ≤ box) (hc : n ≤ csh) :
    ∃ ash' csh' gd', Box (((W.setCell ⟨box, 0, none⟩ (.bool d)).setCell ⟨box, 1, none⟩ (.slice ash n csh)).setCell ⟨box, 2, none⟩ (.slice (some ⟨gd, 0, none⟩) N N)) box d (.slice ash' n csh') (.slice (some ⟨gd', 0, none⟩) N N) ∧ Own (((W.setCell ⟨box, 0, none⟩ (.bool d)).setCell ⟨box, 1, none⟩ (.slice ash n csh)).setCell ⟨box, 2, none⟩ (.slice (some ⟨gd, 0, none⟩) N N)) w.heap.size ash' n zs ∧ w.heap.size ≤ gd' ∧ Blk (((W.setCell ⟨box, 0, none⟩ (.bool d)).setCell ⟨box, 1, none⟩ (.slice ash n csh)).setCell ⟨box, 2, none⟩ (.slice (some ⟨gd, 0, none⟩) N N)) gd' ys ∧ ¬ At ash' n gd' ∧ Below w.heap.size w (((W.setCell ⟨box, 0, none⟩ (.bool d)).setCell ⟨box, 1, none⟩ (.slice ash n csh)).setCell ⟨box, 2, none⟩ (.slice (some ⟨gd, 0, none⟩) N N)) ∧ n ≤ csh' := by
  have hk : ∀ k, At ash n k → k ≠ box := fun k hk e => hb1 (e ▸ hk)
  exact ⟨ash, csh, gd, hb.sets, ((hO.other (q := ⟨box, 0, none⟩) hk _).other (q := ⟨box, 1, none⟩) hk _).other (q := ⟨box, 2, none⟩) hk _, hg, ((hB.other (p := ⟨box, 0, none⟩) hb2 _).other (p := ⟨box, 1, none⟩) hb2 _).other (p := ⟨box, 2, none⟩) hb2 _, hne, ((hbl.setCell (p := ⟨box, 0, none⟩) hw _).setCell (p := ⟨box, 1, none⟩) hw _).setCell (p := ⟨box, 2, none⟩) hw _, hc⟩

theorem cap_res {w wx : World} {d : Bool} {zs ys : List Int} {n N gd csh : Nat} {ash : Option Addr} (hl : ys.length = N) (hN : N ≤ 17592186044416) (hO : Own wx w.heap.size ash n zs) (hg : w.heap.size ≤ gd) (hB : Blk wx gd ys) (hne : ¬ At ash n gd) (hbl : Below w.heap.size w wx) (hc : n ≤ csh) :
    GivesCap w ⟨d, zs, ys, 0⟩ (.returned (.tuple #[.agg #[.bool d, .slice ash n csh, .slice (some ⟨gd, 0, none⟩) N N], .int .i64 0])) wx :=
  ⟨ash, n, csh, some ⟨gd, 0, none⟩, N, N, rfl, hO, hB.own hl hN hg, fun k h1 h2 => by have := at_eq h2; subst this; exact hne h1, hbl, hc, Nat.le_refl _, fun _ => ⟨_, rfl⟩⟩

end Go.Proofs.Ytlnangnimbgpoaa
