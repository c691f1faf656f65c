import Derived.Test.YtgjpchnkodnieaaGreatDoorMergeMath
import Derived.Test.YtgjpchnkodnieaaGreatDoorMFit2
import Derived.Test.YtgjpchnkodnieaaGreatDoorBoolRow
namespace Go.Proofs.YtgjpchnkodnieaaGreatDoor
open Go.RowKit

/-- Places have been chosen into the array in box p; the truths lie in block gs. -/
structure SelS (w2 : World) (p : Nat) (ash : Option Addr) (m csh : Nat) (zs : List Int) (gs : Nat) (bs : List Bool) (O : List Int) (k : Nat) (wr : World) (g cap : Nat) : Prop where
  box : Box wr p false (.slice ash m csh) (.slice (some ⟨g, 0, none⟩) k cap)
  owns : wr.ownsRow w2.heap.size 3 1 (.slice (some ⟨g, 0, none⟩) k cap) k (O.map (Value.int .i64))
  own : Own wr w2.heap.size ash m zs
  ne : ∀ x, At ash m x → x ≠ g
  nes : ∀ x, At ash m x → x ≠ gs
  bb : BBlk wr gs bs
  low : Below w2.heap.size w2 wr
  place : w2.heap.size ≤ p
  placeS : w2.heap.size ≤ gs

section
variable {w2 wr w5 w6 : World} {p m csh gs g g' k cap cap' b : Nat} {ash : Option Addr} {zs O : List Int} {bs : List Bool}

theorem SelS.gne (h : SelS w2 p ash m csh zs gs bs O k wr g cap) : gs ≠ g := by
  rintro rfl
  rcases h.owns.2 with ⟨e, _⟩ | ⟨g', cap', cur, e, _, hh, _⟩
  · simp at e
  · cases e
    have hb := h.bb
    unfold BBlk at hb
    rw [hh] at hb
    simp at hb

theorem SelS.pne (h : SelS w2 p ash m csh zs gs bs O k wr g cap) : gs ≠ p := by
  rintro rfl
  have hb := h.bb
  have hx := h.box
  unfold BBlk at hb
  unfold Box at hx
  rw [hx] at hb
  simp at hb

theorem SelS.len (h : SelS w2 p ash m csh zs gs bs O k wr g cap) : O.length = k := by simpa using h.owns.1

theorem SelS.below (h : SelS w2 p ash m csh zs gs bs O k wr g cap) (hb : Below wr.heap.size wr w5) : SelS w2 p ash m csh zs gs bs O k w5 g cap :=
  ⟨h.box.below (Nat.le_refl _) hb, owns_below h.owns (Nat.le_refl _) hb, h.own.below (Nat.le_refl _) hb, h.ne, h.nes, (hb.block gs h.bb.lt).trans h.bb, h.low.trans (hb.mono h.low.size), h.place, h.placeS⟩

theorem SelS.drewN (h : SelS w2 p ash m csh zs gs bs O k wr g cap) (q : Nat) : SelS w2 p ash m csh zs gs bs O k (wr.drewN q) g cap := h.below ⟨rfl, rfl, rfl, Nat.le_refl _, fun _ _ => rfl⟩

theorem owns_other {w : World} {base n g cap : Nat} {xs : List Value} (h : w.ownsRow base 3 1 (.slice (some ⟨g, 0, none⟩) n cap) n xs) {q : Addr} (hq : g ≠ q.block) (u : Value) : (w.setCell q u).ownsRow base 3 1 (.slice (some ⟨g, 0, none⟩) n cap) n xs := by
  refine ⟨h.1, ?_⟩
  rcases h.2 with h' | ⟨g', cap', cur, e, h3, h4, h5⟩
  · exact .inl h'
  · cases e
    exact .inr ⟨g, cap, cur, rfl, h3, (heap_setCell_other w q g u hq).trans h4, h5⟩

theorem SelS.mark (h : SelS w2 p ash m csh zs gs bs O k wr g cap) (b : Nat) : SelS w2 p ash m csh zs gs (bs.set b true) O k (wr.setCell ⟨gs, b, none⟩ (.bool true)) g cap :=
  ⟨h.box.other (q := ⟨gs, b, none⟩) (fun e => h.pne e.symm) _, owns_other h.owns (q := ⟨gs, b, none⟩) (fun e => h.gne e.symm) _, h.own.other (q := ⟨gs, b, none⟩) (fun x hx => h.nes x hx) _, h.ne, h.nes, h.bb.set b true, h.low.setCell (p := ⟨gs, b, none⟩) h.placeS _, h.place, h.placeS⟩

theorem SelS.push {x : Int} (o : Obj) (h : SelS w2 p ash m csh zs gs bs O k w5 g cap)
    (hown : w6.ownsRow w2.heap.size 3 1 (.slice (some ⟨g', 0, none⟩) (k + 1) cap') (k + 1) (O.map (Value.int .i64) ++ [.int .i64 x])) (hg : (w5.alloc o).grownBy w6 (Value.ownBlock (.slice (some ⟨g, 0, none⟩) k cap))) (hat : Value.ownBlock (.slice (some ⟨g, 0, none⟩) k cap) = some g' ∨ g' = w5.heap.size + 1) :
    Box w6 p false (.slice ash m csh) (.slice (some ⟨g, 0, none⟩) k cap) ∧ SelS w2 p ash m csh zs gs bs (O ++ [x]) (k + 1) (w6.setCell ⟨p, 2, none⟩ (.slice (some ⟨g', 0, none⟩) (k + 1) cap')) g' cap' := by
  have hb6 := h.box.grown h.owns o hg
  have hg' : (w5.alloc o).grownBy w6 (some g) := hg
  have ho6 := h.own.grown o hg' h.ne
  have hlow := h.low.trans (below_append o h.owns h.low.size hg)
  have hbb : BBlk w6 gs bs := (hg'.block gs (by simp; have := h.bb.lt; omega) (fun e => h.gne (by simpa using e))).trans ((Below.heap_alloc w5 o gs h.bb.lt).trans h.bb)
  have hne' : ∀ x, At ash m x → x ≠ g' := by
    intro x hx
    rcases hat with e | e
    · have e' : g = g' := by simpa [Value.ownBlock] using e
      rw [← e']; exact h.ne x hx
    · have := h.own.row.hi hx; omega
  refine ⟨hb6, hb6.set2 _, ?_, ho6.other (fun x hx => ho6.row.notBox hb6 hx) _, hne', h.nes, hbb.other (p := ⟨p, 2, none⟩) h.pne _, hlow.setCell h.place _, h.place, h.placeS⟩
  rw [List.map_append, List.map_cons, List.map_nil]
  exact owns_box_set hown hb6 _ _
end

/-- Whether place i is taken in the place of best. -/
def selR (dn : Bool) (best x y : Int) (down : Bool) : Bool := !dn && (decide (best < 0) || (decide (x < y) && !down) || (decide (y < x) && down))

theorem sel_step {dt : List Int} {down : Bool} {R : List Int} {i n : Nat} {best : Int} {bs : List Bool} (h : Best6 (gradeK down dt) R i best) (hd : Done6 R n bs) (hi : i < n) :
    (selR (bs.getD i false) best (dt.getD i 0) (dt.getD best.toNat 0) down = true → Best6 (gradeK down dt) R (i + 1) (i : Int)) ∧ (selR (bs.getD i false) best (dt.getD i 0) (dt.getD best.toNat 0) down = false → Best6 (gradeK down dt) R (i + 1) best) := by
  have hk : ∀ j : Nat, gradeK down dt ((j : Int) + 1) = if down then - dt.getD j 0 else dt.getD j 0 := fun j => by
    unfold gradeK
    rw [show ((j : Int) + 1 - 1) = (j : Int) by omega, Int.toNat_natCast]
  have hm := hd.2 i hi
  have hb : best = -1 ∨ ∃ b : Nat, best = (b : Int) := by
    rcases h with ⟨h1, _⟩ | ⟨b, h1, _⟩
    · exact .inl h1
    · exact .inr ⟨b, h1⟩
  unfold selR
  constructor
  · intro hr
    simp only [Bool.and_eq_true, Bool.or_eq_true, Bool.not_eq_true', decide_eq_true_eq] at hr
    obtain ⟨h1, h2⟩ := hr
    rcases hb with hb | ⟨b, hb⟩
    · exact h.take (b := 0) (hm.1 h1) (fun e => by omega) (.inl (by omega))
    · refine h.take (b := b) (hm.1 h1) (fun _ => ?_) (.inr hb)
      rw [hk, hk]
      rw [hb, Int.toNat_natCast] at h2
      rcases h2 with (h2 | ⟨h2, h3⟩) | ⟨h2, h3⟩
      · omega
      · rw [h3]; simp only [Bool.false_eq_true, if_false]; exact h2
      · rw [h3]; simp only [if_true]; omega
  · intro hr
    by_cases hmm : ((i : Int) + 1) ∈ R
    · have hdn := hm.2 hmm
      rw [hdn] at hr
      rcases hb with hb | ⟨b, hb⟩
      · rw [hb] at hr; simp at hr
      · refine h.stay hb ?_
        rw [hk, hk]
        rw [hb, Int.toNat_natCast] at hr
        cases down <;> simp at hr ⊢ <;> omega
    · exact h.skip hmm

end Go.Proofs.YtgjpchnkodnieaaGreatDoor
