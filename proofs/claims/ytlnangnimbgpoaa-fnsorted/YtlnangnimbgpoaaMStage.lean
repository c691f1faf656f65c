import Derived.Test.YtlnangnimbgpoaaMBase
import Derived.Test.YtlnangnimbgpoaaMMath
import Derived.Deep.AppendLies
namespace Go.Proofs.Ytlnangnimbgpoaa
open Go.RowKit

/-- What a spec function's answer of an array and a code is. -/
def GivesRow (w : World) (r : Ans) (e : Ending) (w' : World) : Prop :=
  ∃ b1 m1 d1 b2 m2 d2, e = .returned (.tuple #[.agg #[.bool r.c, .slice b1 m1 d1, .slice b2 m2 d2], .int .i64 r.code]) ∧ Row w' b1 m1 r.sh ∧ Row w' b2 m2 r.dt ∧ Below w.heap.size w w'

theorem dataOk_bd {c : Bool} {sh dt : List Int} (h : arrOk c sh dt = true) {k : Nat} (hk : k < dt.length) : -1000000000000000 ≤ dt.getD k 0 ∧ dt.getD k 0 ≤ 1000000000000000 := by
  have h1 : dt.all (dataOk c) = true := by simp [arrOk] at h; simpa using h.2.2
  have h2 := List.all_eq_true.mp h1 (dt.getD k 0) (by simp [hk])
  simp [dataOk] at h2
  simpa using h2.2

theorem boxes2 {w w1 : World} {c : Bool} {v1 v2 : Value} (hb : Below ((w.alloc (.cells #[.bool c, v1, v2] 26)).alloc (.cells #[.bool false, .slice none 0 0, .slice none 0 0] 26)).heap.size ((w.alloc (.cells #[.bool c, v1, v2] 26)).alloc (.cells #[.bool false, .slice none 0 0, .slice none 0 0] 26)) w1) :
    Box w1 w.heap.size c v1 v2 ∧ Box w1 (w.heap.size + 1) false (.slice none 0 0) (.slice none 0 0) ∧ Below w.heap.size w w1 := by
  have e : (w.alloc (.cells #[.bool c, v1, v2] 26)).heap.size = w.heap.size + 1 := by simp
  refine ⟨((Box.new w c v1 v2).alloc _).below (Nat.le_refl _) hb, ?_, (((Below.refl _ _).alloc (Nat.le_refl _) _).alloc (by simp) _).trans (hb.mono (by simp; omega))⟩
  have := (Box.new (w.alloc (.cells #[.bool c, v1, v2] 26)) false (.slice none 0 0) (.slice none 0 0)).below (Nat.le_refl _) hb
  rwa [e] at this

theorem boxes3 {w w1 : World} {c d : Bool} {v1 v2 u1 u2 : Value} (hb : Below (((w.alloc (.cells #[.bool c, v1, v2] 26)).alloc (.cells #[.bool d, u1, u2] 26)).alloc (.cells #[.bool false, .slice none 0 0, .slice none 0 0] 26)).heap.size (((w.alloc (.cells #[.bool c, v1, v2] 26)).alloc (.cells #[.bool d, u1, u2] 26)).alloc (.cells #[.bool false, .slice none 0 0, .slice none 0 0] 26)) w1) :
    Box w1 w.heap.size c v1 v2 ∧ Box w1 (w.heap.size + 1) d u1 u2 ∧ Box w1 (w.heap.size + 2) false (.slice none 0 0) (.slice none 0 0) ∧ Below w.heap.size w w1 := by
  have e1 : (w.alloc (.cells #[.bool c, v1, v2] 26)).heap.size = w.heap.size + 1 := by simp
  have e2 : ((w.alloc (.cells #[.bool c, v1, v2] 26)).alloc (.cells #[.bool d, u1, u2] 26)).heap.size = w.heap.size + 2 := by simp
  refine ⟨(((Box.new w c v1 v2).alloc _).alloc _).below (Nat.le_refl _) hb, ?_, ?_, ((((Below.refl _ _).alloc (Nat.le_refl _) _).alloc (by simp) _).alloc (by simp <;> omega) _).trans (hb.mono (by simp; omega))⟩
  · have := ((Box.new (w.alloc (.cells #[.bool c, v1, v2] 26)) d u1 u2).alloc _).below (Nat.le_refl _) hb
    rwa [e1] at this
  · have := (Box.new ((w.alloc (.cells #[.bool c, v1, v2] 26)).alloc (.cells #[.bool d, u1, u2] 26)) false (.slice none 0 0) (.slice none 0 0)).below (Nat.le_refl _) hb
    rwa [e2] at this

end Go.Proofs.Ytlnangnimbgpoaa
namespace Go.Proofs.Ytlnangnimbgpoaa
open Go.RowKit

theorem Blk.new (w : World) : Blk (w.alloc (.cells #[] 3)) w.heap.size [] := by
  show (w.heap.push _)[w.heap.size]? = _
  simp

theorem Blk.owns {w : World} {g base : Nat} (h : Blk w g []) (hb : base ≤ g) : w.ownsRow base 3 1 (.slice (some ⟨g, 0, none⟩) 0 0) 0 [] :=
  ⟨by simp, .inr ⟨g, 0, #[], rfl, hb, h, by simp, by unfold maxLen; omega, by simp, by simp⟩⟩

theorem Own.grown {w w1 : World} {B g n : Nat} {a : Option Addr} {zs : List Int} (h : Own w B a n zs) (o : Obj) (hg : (w.alloc o).grownBy w1 (some g)) (hne : ∀ x, At a n x → x ≠ g) : Own w1 B a n zs := by
  refine ⟨h.len, h.small, ?_⟩
  rcases h.at_ with h0 | ⟨b, off, rfl, hb, hlt, hc, hf⟩
  · exact .inl h0
  · by_cases hn : n = 0
    · exact .inl hn
    have hk : w1.heap[b]? = w.heap[b]? := (hg.block b (by simp; omega) (fun e => hne b (at_self hn) (by simpa using e))).trans (Below.heap_alloc w o b hlt)
    refine .inr ⟨b, off, rfl, hb, ?_, fun i hi => (World.cell?_of_block (w := w) (a := ⟨b, off + i, none⟩) hk).trans (hc i hi), fun i hi => (World.frozen?_of_block (w := w) (a := ⟨b, off + i, none⟩) hk).trans (hf i hi)⟩
    rcases Nat.lt_or_ge b w1.heap.size with h1 | h1
    · exact h1
    · rw [Array.getElem?_eq_none h1, Array.getElem?_eq_getElem hlt] at hk; cases hk

/-- A struct of an array is laid whose shape reads as zs and whose numbers are none yet; all of it is new. -/
def Laid (w2 : World) (c : Bool) (m : Nat) (zs : List Int) (r : Value) (wx : World) : Prop :=
  ∃ p g ash csh, r = .pointer (some ⟨p, 0, none⟩) ∧ Box wx p c (.slice ash m csh) (.slice (some ⟨g, 0, none⟩) 0 0) ∧ Blk wx g [] ∧ Own wx w2.heap.size ash m zs ∧ Below w2.heap.size w2 wx ∧ w2.heap.size ≤ p ∧ w2.heap.size ≤ g ∧ ∀ x, At ash m x → x ≠ g

theorem laid_cbz {w2 wA : World} {c : Bool} {m csh : Nat} {zs : List Int} {ash : Option Addr} (hO : Own wA w2.heap.size ash m zs) (hK : Below w2.heap.size w2 wA) : Laid w2 c m zs (.pointer (some ⟨wA.heap.size + 1, 0, none⟩)) ((wA.alloc (.cells #[] 3)).alloc (.cells #[.bool c, .slice ash m csh, .slice (some ⟨wA.heap.size, 0, none⟩) 0 0] 26)) := by
  have hs := hK.size
  refine ⟨wA.heap.size + 1, wA.heap.size, ash, csh, rfl, ?_, (Blk.new wA).alloc _, (hO.alloc _).alloc _, (hK.alloc hs _).alloc (by simp; omega) _, by omega, by omega, fun x hx => by have := hO.row.hi hx; omega⟩
  have := Box.new (wA.alloc (.cells #[] 3)) c (.slice ash m csh) (.slice (some ⟨wA.heap.size, 0, none⟩) 0 0)
  simpa using this

theorem laid_czb {w2 wA : World} {c : Bool} {m csh : Nat} {zs : List Int} {ash : Option Addr} (hO : Own wA w2.heap.size ash m zs) (hK : Below w2.heap.size w2 wA) : Laid w2 c m zs (.pointer (some ⟨wA.heap.size, 0, none⟩)) ((wA.alloc (.cells #[.bool c, .slice ash m csh, .slice (some ⟨wA.heap.size + 1, 0, none⟩) 0 0] 26)).alloc (.cells #[] 3)) := by
  have hs := hK.size
  refine ⟨wA.heap.size, wA.heap.size + 1, ash, csh, rfl, (Box.new _ _ _ _).alloc _, ?_, (hO.alloc _).alloc _, (hK.alloc hs _).alloc (by simp; omega) _, by omega, by omega, fun x hx => by have := hO.row.hi hx; omega⟩
  have := Blk.new (wA.alloc (.cells #[.bool c, .slice ash m csh, .slice (some ⟨wA.heap.size + 1, 0, none⟩) 0 0] 26))
  simpa using this

theorem laid_bcz {w2 wA : World} {c : Bool} {m csh : Nat} {zs : List Int} {ash : Option Addr} {g : Nat} (hO : Own wA w2.heap.size ash m zs) (hK : Below w2.heap.size w2 wA) (hQ : Blk wA g []) (hg : w2.heap.size ≤ g) (hne : ∀ x, At ash m x → x ≠ g) : Laid w2 c m zs (.pointer (some ⟨wA.heap.size, 0, none⟩)) (wA.alloc (.cells #[.bool c, .slice ash m csh, .slice (some ⟨g, 0, none⟩) 0 0] 26)) :=
  ⟨wA.heap.size, g, ash, csh, rfl, Box.new _ _ _ _, hQ.alloc _, hO.alloc _, hK.alloc hK.size _, hK.size, hg, hne⟩

theorem Blk.notBox {w : World} {g p : Nat} {c : Bool} {v1 v2 : Value} (h : Blk w g []) (hb : Box w p c v1 v2) : g ≠ p := by
  rintro rfl
  unfold Blk at h
  unfold Box at hb
  rw [h] at hb
  simp at hb

theorem laid_zc {w2 wA : World} {c : Bool} {m csh : Nat} {zs : List Int} {ash : Option Addr} {g p : Nat} {c' : Bool} {a1 a2 : Option Addr} {l1 l2 k1 k2 : Nat} (hO : Own wA w2.heap.size ash m zs) (hK : Below w2.heap.size w2 wA) (hP : Box wA p c' (.slice a1 l1 k1) (.slice a2 l2 k2)) (hp : w2.heap.size ≤ p) (hQ : Blk wA g []) (hg : w2.heap.size ≤ g) (hne : ∀ x, At ash m x → x ≠ g) :
    Laid w2 c m zs (.pointer (some ⟨p, 0, none⟩)) (((wA.setCell ⟨p, 0, none⟩ (.bool c)).setCell ⟨p, 1, none⟩ (.slice ash m csh)).setCell ⟨p, 2, none⟩ (.slice (some ⟨g, 0, none⟩) 0 0)) := by
  have hn : ∀ x, At ash m x → x ≠ p := fun x hx => hO.row.notBox hP hx
  have hgp := hQ.notBox hP
  exact ⟨p, g, ash, csh, rfl, hP.sets, ((hQ.other hgp _).other hgp _).other hgp _, ((hO.other hn _).other hn _).other hn _, ((hK.setCell hp _).setCell hp _).setCell hp _, hp, hg, hne⟩

theorem laid_zcb {w2 wA : World} {c : Bool} {m csh : Nat} {zs : List Int} {ash : Option Addr} {p : Nat} {c' : Bool} {a1 a2 : Option Addr} {l1 l2 k1 k2 : Nat} (hO : Own wA w2.heap.size ash m zs) (hK : Below w2.heap.size w2 wA) (hP : Box wA p c' (.slice a1 l1 k1) (.slice a2 l2 k2)) (hp : w2.heap.size ≤ p) :
    Laid w2 c m zs (.pointer (some ⟨p, 0, none⟩)) ((((wA.setCell ⟨p, 0, none⟩ (.bool c)).setCell ⟨p, 1, none⟩ (.slice ash m csh)).setCell ⟨p, 2, none⟩ (.slice (some ⟨wA.heap.size, 0, none⟩) 0 0)).alloc (.cells #[] 3)) := by
  have hn : ∀ x, At ash m x → x ≠ p := fun x hx => hO.row.notBox hP hx
  refine ⟨p, wA.heap.size, ash, csh, rfl, hP.sets.alloc _, ?_, (((hO.other hn _).other hn _).other hn _).alloc _, (((hK.setCell hp _).setCell hp _).setCell hp _).alloc (by simpa using hK.size) _, hp, hK.size, fun x hx => by have := hO.row.hi hx; omega⟩
  have := Blk.new (((wA.setCell ⟨p, 0, none⟩ (.bool c)).setCell ⟨p, 1, none⟩ (.slice ash m csh)).setCell ⟨p, 2, none⟩ (.slice (some ⟨wA.heap.size, 0, none⟩) 0 0))
  simpa using this

end Go.Proofs.Ytlnangnimbgpoaa
namespace Go.Proofs.Ytlnangnimbgpoaa
open Go.RowKit

/-- k elements have been gathered into the array in box p. -/
structure Stage (w2 : World) (p : Nat) (c : Bool) (ash : Option Addr) (m csh : Nat) (zs : List Int) (f : Nat → Int × Int) (k : Nat) (wr : World) (g cap : Nat) : Prop where
  box : Box wr p c (.slice ash m csh) (.slice (some ⟨g, 0, none⟩) k cap)
  owns : wr.ownsRow w2.heap.size 3 1 (.slice (some ⟨g, 0, none⟩) k cap) k ((vals f k).map (Value.int .i64))
  own : Own wr w2.heap.size ash m zs
  ne : ∀ x, At ash m x → x ≠ g
  low : Below w2.heap.size w2 wr
  code : firstCode f k = 0
  place : w2.heap.size ≤ p

theorem Stage.start {w2 wx : World} {p g : Nat} {c : Bool} {ash : Option Addr} {m csh : Nat} {zs : List Int} (f : Nat → Int × Int) (h1 : Box wx p c (.slice ash m csh) (.slice (some ⟨g, 0, none⟩) 0 0)) (h2 : Blk wx g []) (h3 : Own wx w2.heap.size ash m zs) (h4 : Below w2.heap.size w2 wx) (h7 : w2.heap.size ≤ p) (h5 : w2.heap.size ≤ g) (h6 : ∀ x, At ash m x → x ≠ g) : Stage w2 p c ash m csh zs f 0 wx g 0 :=
  ⟨h1, h2.owns h5, h3, h6, h4, rfl, h7⟩

theorem Stage.below {w2 wr w5 : World} {p g cap k : Nat} {c : Bool} {ash : Option Addr} {m csh : Nat} {zs : List Int} {f : Nat → Int × Int} (h : Stage w2 p c ash m csh zs f k wr g cap) (hb : Below wr.heap.size wr w5) : Stage w2 p c ash m csh zs f k w5 g cap :=
  ⟨h.box.below (Nat.le_refl _) hb, owns_below h.owns (Nat.le_refl _) hb, h.own.below (Nat.le_refl _) hb, h.ne, h.low.trans (hb.mono h.low.size), h.code, h.place⟩

theorem Stage.drew {w2 wr : World} {p g cap k : Nat} {c : Bool} {ash : Option Addr} {m csh : Nat} {zs : List Int} {f : Nat → Int × Int} (h : Stage w2 p c ash m csh zs f k wr g cap) : Stage w2 p c ash m csh zs f k wr.drew g cap := h.below (Below.refl _ _).drew

theorem Stage.push {w2 w5 w6 : World} {p g g' cap cap' k : Nat} {c : Bool} {ash : Option Addr} {m csh : Nat} {zs : List Int} {f : Nat → Int × Int} {r1 : Int} (o : Obj) (h : Stage w2 p c ash m csh zs f k w5 g cap) (hf : f k = (r1, 0))
    (hown : w6.ownsRow w2.heap.size 3 1 (.slice (some ⟨g', 0, none⟩) (k + 1) cap') (k + 1) ((vals f k).map (Value.int .i64) ++ [.int .i64 r1])) (hg : (w5.alloc o).grownBy w6 (Value.ownBlock (.slice (some ⟨g, 0, none⟩) k cap))) (hat : Value.ownBlock (.slice (some ⟨g, 0, none⟩) k cap) = some g' ∨ g' = w5.heap.size + 1) :
    Box w6 p c (.slice ash m csh) (.slice (some ⟨g, 0, none⟩) k cap) ∧ Stage w2 p c ash m csh zs f (k + 1) (w6.setCell ⟨p, 2, none⟩ (.slice (some ⟨g', 0, none⟩) (k + 1) cap')) g' cap' := by
  have hb6 := h.box.grown h.owns o hg
  have hg' : (w5.alloc o).grownBy w6 (some g) := hg
  have ho6 := h.own.grown o hg' h.ne
  have hlow := h.low.trans (below_append o h.owns h.low.size hg)
  have hne' : ∀ x, At ash m x → x ≠ g' := by
    intro x hx
    rcases hat with e | e
    · have e' : g = g' := by simpa [Value.ownBlock] using e
      rw [← e']; exact h.ne x hx
    · have := h.own.row.hi hx; omega
  refine ⟨hb6, hb6.set2 _, ?_, ho6.other (fun x hx => ho6.row.notBox hb6 hx) _, hne', hlow.setCell h.place _, code_step h.code (by rw [hf]), h.place⟩
  · rw [vals_snoc, hf]
    exact owns_box_set hown hb6 _ _

end Go.Proofs.Ytlnangnimbgpoaa
