import Derived.Test.YtmgjicgojlkpcaaGreatDoorGrowB
import Derived.Test.YtmgjicgojlkpcaaGreatDoorMarksB
import Derived.Test.YtmgjicgojlkpcaaGreatDoorTreeMath3
import Derived.Deep.AppendLies
namespace Go.Proofs.YtmgjicgojlkpcaaGreatDoor
open Go.RowKit

theorem appBelow {w w1 : World} {base n : Nat} {v : Value} {xs : List Value} (o : Obj) (hown : w.ownsRow base 3 1 v n xs) (hb : base ≤ w.heap.size) (hg : (w.alloc o).grownBy w1 v.ownBlock) : Below base w w1 :=
  ((Below.refl _ _).alloc hb _).grown hg (by simp; omega) (by
    intro k hk
    rcases hown.2 with ⟨rfl, _⟩ | ⟨g, cap, cur, rfl, hbg, _⟩
    · cases hk
    · cases hk; exact hbg)

theorem newCells (w : World) (x : Int) : ∀ (j : Nat) u, ([.int .i64 x] : List Value)[j]? = some u → (w.alloc (.cells #[.int .i64 x] 3)).cell? ((⟨w.heap.size, 0, none⟩ : Addr).add j) = some u := by
  intro j u hj
  match j, hj with
  | 0, hj => simp at hj; subst hj; simp [Addr.add]

theorem oneOne (x : Int) : ∀ u ∈ ([.int .i64 x] : List Value), u.oneCell' = true := by intro u hu; simp at hu; subst hu; rfl

theorem ownLt {w : World} {base e size n g : Nat} {v : Value} {xs : List Value} (h : w.ownsRow base e size v n xs) (hg : v.ownBlock = some g) : g < w.heap.size := by
  rcases h.2 with ⟨rfl, _⟩ | ⟨g', cap, cur, rfl, _, hh, _⟩
  · cases hg
  · cases hg; exact lt_of_block hh

theorem ownGrown {w w1 : World} {base base' n g g2 cap : Nat} {xs : List Value} (h : w.ownsRow base 3 1 (.slice (some ⟨g, 0, none⟩) n cap) n xs) (o : Obj) (hg : (w.alloc o).grownBy w1 (some g2)) (hne : g ≠ g2) (hb : base' ≤ base) : w1.ownsRow base' 3 1 (.slice (some ⟨g, 0, none⟩) n cap) n xs := by
  obtain ⟨h1, h2⟩ := h
  refine ⟨h1, ?_⟩
  rcases h2 with ⟨h2, _⟩ | ⟨g', cap', cur, hv, hg', hh, r⟩
  · simp at h2
  · have e : g = g' := by simp at hv; exact hv.1
    subst e
    refine Or.inr ⟨g, cap', cur, hv, by omega, ?_, r⟩
    have hlt := lt_of_block hh
    exact (hg.block g (by simp; omega) (fun e => hne (by simpa using e))).trans ((Below.heap_alloc w o g hlt).trans hh)

/-- Two slices of the call's own hold these lists. -/
structure Two2 (W wr : World) (k1 : Nat) (xs : List Int) (k2 : Nat) (ys : List Int) (g1 p1 g2 p2 : Nat) : Prop where
  o1 : wr.ownsRow W.heap.size 3 1 (.slice (some ⟨g1, 0, none⟩) k1 p1) k1 (xs.map (Value.int .i64))
  o2 : wr.ownsRow W.heap.size 3 1 (.slice (some ⟨g2, 0, none⟩) k2 p2) k2 (ys.map (Value.int .i64))
  ne : g1 ≠ g2
  low : Below W.heap.size W wr

theorem Two2.below {W wr w' : World} {k1 k2 : Nat} {xs ys : List Int} {g1 p1 g2 p2 : Nat} (h : Two2 W wr k1 xs k2 ys g1 p1 g2 p2) (hb : Below wr.heap.size wr w') : Two2 W w' k1 xs k2 ys g1 p1 g2 p2 :=
  ⟨ownsB_below h.o1 (Nat.le_refl _) hb, ownsB_below h.o2 (Nat.le_refl _) hb, h.ne, h.low.trans (hb.mono h.low.size)⟩

theorem ownBut {S : Nat → Prop} {w w' : World} {base e size n g cap : Nat} {xs : List Value} (h : w.ownsRow base e size (.slice (some ⟨g, 0, none⟩) n cap) n xs) (hb : But S w w') (hg : ¬ S g) : w'.ownsRow base e size (.slice (some ⟨g, 0, none⟩) n cap) n xs := by
  obtain ⟨h1, h2⟩ := h
  refine ⟨h1, ?_⟩
  rcases h2 with h2 | ⟨g', cap', cur, hv, hg', hh, r⟩
  · exact Or.inl h2
  · have e : g = g' := by simp at hv; exact hv.1
    subst e
    exact Or.inr ⟨g, cap', cur, hv, hg', (hb.block g (lt_of_block hh) hg).trans hh, r⟩

theorem Two2.but {S : Nat → Prop} {W wr w' : World} {k1 k2 : Nat} {xs ys : List Int} {g1 p1 g2 p2 : Nat} (h : Two2 W wr k1 xs k2 ys g1 p1 g2 p2) (hb : But S wr w') (h1 : ¬ S g1) (h2 : ¬ S g2) (hS : ∀ k, S k → W.heap.size ≤ k) : Two2 W w' k1 xs k2 ys g1 p1 g2 p2 :=
  ⟨ownBut h.o1 hb h1, ownBut h.o2 hb h2, h.ne, h.low.trans (hb.below h.low.size hS)⟩

theorem Two2.start (W : World) : Two2 W ((W.alloc (.cells #[] 3)).alloc (.cells #[] 3)) 0 [] 0 [] W.heap.size 0 (W.heap.size + 1) 0 := by
  refine ⟨⟨by simp, .inr ⟨W.heap.size, 0, #[], rfl, Nat.le_refl _, ?_, by simp, by unfold maxLen; omega, by simp, by simp⟩⟩, ⟨by simp, .inr ⟨W.heap.size + 1, 0, #[], rfl, by omega, ?_, by simp, by unfold maxLen; omega, by simp, by simp⟩⟩, by omega, ((Below.refl _ _).alloc (Nat.le_refl _) _).alloc (by simp) _⟩
  · refine (Below.heap_alloc _ _ _ (by simp)).trans ?_
    show (W.heap.push _)[W.heap.size]? = _
    simp
  · have h2 : ((W.alloc (.cells #[] 3)).heap.push (.cells #[] 3))[(W.alloc (.cells #[] 3)).heap.size]? = some (.cells #[] 3) := Array.getElem?_push_size
    rw [World.size_alloc] at h2
    exact h2

theorem Two2.push1 {W wr w7 : World} {k1 k2 : Nat} {xs ys : List Int} {g1 p1 g2 p2 g' p' : Nat} {x : Int} (o : Obj) (h : Two2 W wr k1 xs k2 ys g1 p1 g2 p2)
    (hown : w7.ownsRow W.heap.size 3 1 (.slice (some ⟨g', 0, none⟩) (k1 + 1) p') (k1 + 1) (xs.map (Value.int .i64) ++ [.int .i64 x])) (hg : (wr.alloc o).grownBy w7 (Value.ownBlock (.slice (some ⟨g1, 0, none⟩) k1 p1))) (hat : Value.ownBlock (.slice (some ⟨g1, 0, none⟩) k1 p1) = some g' ∨ g' = wr.heap.size + 1) :
    Two2 W w7 (k1 + 1) (xs ++ [x]) k2 ys g' p' g2 p2 := by
  have hg1 : (wr.alloc o).grownBy w7 (some g1) := hg
  refine ⟨?_, ownGrown h.o2 o hg1 (fun e => h.ne e.symm) (Nat.le_refl _), ?_, h.low.trans (appBelow o h.o1 h.low.size hg)⟩
  · rw [List.map_append]; simpa using hown
  · rcases hat with e | e
    · have e' : g1 = g' := by simpa [Value.ownBlock] using e
      rw [← e']; exact h.ne
    · have := ownLt h.o2 (g := g2) rfl; omega

theorem Two2.push2 {W wr w7 : World} {k1 k2 : Nat} {xs ys : List Int} {g1 p1 g2 p2 g' p' : Nat} {x : Int} (o : Obj) (h : Two2 W wr k1 xs k2 ys g1 p1 g2 p2)
    (hown : w7.ownsRow W.heap.size 3 1 (.slice (some ⟨g', 0, none⟩) (k2 + 1) p') (k2 + 1) (ys.map (Value.int .i64) ++ [.int .i64 x])) (hg : (wr.alloc o).grownBy w7 (Value.ownBlock (.slice (some ⟨g2, 0, none⟩) k2 p2))) (hat : Value.ownBlock (.slice (some ⟨g2, 0, none⟩) k2 p2) = some g' ∨ g' = wr.heap.size + 1) :
    Two2 W w7 k1 xs (k2 + 1) (ys ++ [x]) g1 p1 g' p' := by
  have hg1 : (wr.alloc o).grownBy w7 (some g2) := hg
  refine ⟨ownGrown h.o1 o hg1 h.ne (Nat.le_refl _), ?_, ?_, h.low.trans (appBelow o h.o2 h.low.size hg)⟩
  · rw [List.map_append]; simpa using hown
  · rcases hat with e | e
    · have e' : g2 = g' := by simpa [Value.ownBlock] using e
      rw [← e']; exact h.ne
    · have := ownLt h.o1 (g := g1) rfl; omega

/-- Where stretches begin, and how tall they are. -/
def bgL (st : List (Nat × Nat)) : List Int := st.map fun p => ((p.1 : Nat) : Int)
def tlL (st : List (Nat × Nat)) : List Int := st.map fun p => ((p.2 : Nat) : Int)

theorem bgL_get {st : List (Nat × Nat)} {y : Nat} (h : y < st.length) : (bgL st).getD y 0 = (((st.getD y (0, 0)).1 : Nat) : Int) := by unfold bgL; simp [List.getD_eq_getElem?_getD, h]
theorem tlL_get {st : List (Nat × Nat)} {y : Nat} (h : y < st.length) : (tlL st).getD y 0 = (((st.getD y (0, 0)).2 : Nat) : Int) := by unfold tlL; simp [List.getD_eq_getElem?_getD, h]
theorem bgL_push (st : List (Nat × Nat)) (p : Nat × Nat) : bgL (st ++ [p]) = bgL st ++ [((p.1 : Nat) : Int)] := by unfold bgL; simp
theorem tlL_push (st : List (Nat × Nat)) (p : Nat × Nat) : tlL (st ++ [p]) = tlL st ++ [((p.2 : Nat) : Int)] := by unfold tlL; simp

theorem own_cell {w : World} {B n g cap : Nat} {xs : List Int} (h : w.ownsRow B 3 1 (.slice (some ⟨g, 0, none⟩) n cap) n (xs.map (Value.int .i64))) {i : Nat} (hi : i < n) : w.cell? ⟨g, i, none⟩ = some (.int .i64 (xs.getD i 0)) ∧ g < w.heap.size ∧ B ≤ g := by
  have hl : xs.length = n := by simpa using h.1
  rcases h.2 with ⟨h', _⟩ | ⟨g', cap', cur, h', hb, hg, _, _, hcs, ht⟩
  · simp at h'
  · cases h'
    refine ⟨?_, lt_of_block hg, hb⟩
    have e : cur.toList[i]? = (xs.map (Value.int .i64))[i]? := by rw [← ht, List.getElem?_take, if_pos (by omega)]
    have e2 : (xs.map (Value.int .i64))[i]? = some (.int .i64 (xs.getD i 0)) := by
      rw [List.getElem?_map, List.getElem?_eq_getElem (by omega)]
      simp [List.getD_eq_getElem?_getD, show i < xs.length by omega]
    rw [e2] at e
    simpa [World.cell?, hg] using e

end Go.Proofs.YtmgjicgojlkpcaaGreatDoor
