import Derived.Test.YtmgjicgojlkpcaaGreatDoorTreeTwo
import Derived.Test.YtmgjicgojlkpcaaGreatDoorNNodes
import Derived.Test.YtmgjicgojlkpcaaGreatDoorParseMath3
namespace Go.Proofs.YtmgjicgojlkpcaaGreatDoor
open Go.RowKit

/-- A node, and its two lists as values. -/
structure NodeC where
  d : NodeD
  v4 : Value
  v5 : Value

def NodeC.cells (x : NodeC) : List Value := [.int .i64 x.d.k, .int .i64 x.d.n, .int .i64 x.d.m, .string x.d.s, x.v4, x.v5]

/-- A list of the run's own. -/
def OwnI (w : World) (B : Nat) (v : Value) (zs : List Int) : Prop := w.ownsRow B 3 1 v zs.length (zs.map (Value.int .i64))

def NodeC.Ok (w : World) (B : Nat) (x : NodeC) : Prop := OwnI w B x.v4 x.d.nums ∧ OwnI w B x.v5 x.d.kids

/-- The blocks of the nodes' lists. -/
def NodeC.blks (x : NodeC) : List Nat := x.v4.ownBlock.toList ++ x.v5.ownBlock.toList
def blksC (xs : List NodeC) : List Nat := xs.flatMap NodeC.blks

theorem blksC_app (xs ys : List NodeC) : blksC (xs ++ ys) = blksC xs ++ blksC ys := by unfold blksC; rw [List.flatMap_append]

/-- A parser in block p, in a run that began in the world Z: its tokens v0, its place, its third cell, its nodes. -/
structure PS (T : TypeId) (Z : World) (p : Nat) (v0 v2 : Value) (w : World) (i : Nat) (nd : Value) (xs : List NodeC) : Prop where
  box : w.heap[p]? = some (.cells #[v0, .int .i64 (i : Nat), v2, nd] T (0, 0))
  own : w.ownsRow Z.heap.size 47 6 nd xs.length (xs.flatMap NodeC.cells)
  lists : ∀ x ∈ xs, x.Ok w Z.heap.size
  apart : (blksC xs).Nodup
  low : Below Z.heap.size Z w
  hp : Z.heap.size ≤ p
  ty : T ≠ 47 ∧ T ≠ 3

/-- What stands while a parser goes on: all but its block and its nodes'. -/
def PBut (p : Nat) (nd : Value) (w w' : World) : Prop := But (fun x => x = p ∨ nd.ownBlock = some x) w w'

/-- A parser's going on: ys more nodes, to place i. -/
def PGo (T : TypeId) (Z : World) (p : Nat) (v0 v2 : Value) (w : World) (nd : Value) (xs ys : List NodeC) (i : Nat) (w' : World) : Prop :=
  ∃ nd', PS T Z p v0 v2 w' i nd' (xs ++ ys) ∧ PBut p nd w w' ∧ (nd'.ownBlock = nd.ownBlock ∨ ∀ b, nd'.ownBlock = some b → w.heap.size ≤ b) ∧ (∀ b ∈ blksC ys, w.heap.size ≤ b)

section
variable {T : TypeId} {Z w w1 w2 : World} {p i i1 : Nat} {v0 v2 v2' nd nd1 : Value} {xs ys zs : List NodeC}

theorem ownBlk_of {B e size n : Nat} {v : Value} {l : List Value} (h : w.ownsRow B e size v n l) {g : Nat} (hg : v.ownBlock = some g) : ∃ cur, w.heap[g]? = some (.cells cur e (0, 0)) ∧ B ≤ g := by
  rcases h.2 with ⟨rfl, _⟩ | ⟨g', cap, cur, rfl, hB, hh, _⟩
  · cases hg
  · cases hg; exact ⟨cur, hh, hB⟩

theorem own_keep {B e size n : Nat} {v : Value} {l : List Value} (h : w.ownsRow B e size v n l) (hb : ∀ g, v.ownBlock = some g → w1.heap[g]? = w.heap[g]?) : w1.ownsRow B e size v n l := by
  refine ⟨h.1, ?_⟩
  rcases h.2 with h2 | ⟨g, cap, cur, rfl, hB, hh, r⟩
  · exact .inl h2
  · exact .inr ⟨g, cap, cur, rfl, hB, (hb g rfl).trans hh, r⟩

/-- A list of ints of the run's own stands. -/
theorem PS.keepI (h : PS T Z p v0 v2 w i nd xs) (hb : PBut p nd w w1) {B : Nat} {v : Value} {l : List Int} (ho : OwnI w B v l) : OwnI w1 B v l := by
  refine own_keep ho fun g hg => ?_
  obtain ⟨cur, hh, _⟩ := ownBlk_of ho hg
  refine hb.block g (lt_of_block hh) ?_
  rintro (rfl | hn)
  · rw [h.box] at hh
    have := Option.some.inj hh
    simp at this
    exact h.ty.2 this.2
  · obtain ⟨cur', hh', _⟩ := ownBlk_of h.own hn
    rw [hh'] at hh
    have := Option.some.inj hh
    simp at this

theorem PS.below (h : PS T Z p v0 v2 w i nd xs) (hb : Below w.heap.size w w1) : PS T Z p v0 v2 w1 i nd xs := by
  have hk : ∀ g, g < w.heap.size → w1.heap[g]? = w.heap[g]? := fun g hg => hb.block g hg
  refine ⟨(hk p (lt_of_block h.box)).trans h.box, own_keep h.own fun g hg => ?_, fun x hx => ⟨own_keep (h.lists x hx).1 fun g hg => ?_, own_keep (h.lists x hx).2 fun g hg => ?_⟩, h.apart, h.low.trans (hb.mono h.low.size), h.hp, h.ty⟩
  · obtain ⟨cur, hh, _⟩ := ownBlk_of h.own hg; exact hk g (lt_of_block hh)
  · obtain ⟨cur, hh, _⟩ := ownBlk_of (h.lists x hx).1 hg; exact hk g (lt_of_block hh)
  · obtain ⟨cur, hh, _⟩ := ownBlk_of (h.lists x hx).2 hg; exact hk g (lt_of_block hh)

theorem PBut.refl (p : Nat) (nd : Value) (w : World) : PBut p nd w w := But.refl _ w
theorem PBut.of_below (hb : Below w.heap.size w w1) : PBut p nd w w1 := But.of_below hb

theorem PGo.here (h : PS T Z p v0 v2 w i nd xs) : PGo T Z p v0 v2 w nd xs [] i w := ⟨nd, by rw [List.append_nil]; exact h, PBut.refl _ _ _, .inl rfl, fun b hb => by simp [blksC] at hb⟩

theorem PBut.trans (h1 : PBut p nd w w1) (hn : nd1.ownBlock = nd.ownBlock ∨ ∀ b, nd1.ownBlock = some b → w.heap.size ≤ b) (h2 : PBut p nd1 w1 w2) : PBut p nd w w2 := by
  have hz := h1.size
  refine ⟨h2.os.trans h1.os, h2.tape.trans h1.tape, h2.output.trans h1.output, Nat.le_trans hz h2.size, fun k hk hn' => ?_⟩
  refine (h2.block k (by omega) ?_).trans (h1.block k hk hn')
  rintro (rfl | e)
  · exact hn' (.inl rfl)
  · rcases hn with hn | hn
    · exact hn' (.inr (hn ▸ e))
    · have := hn k e; omega

/-- Two goings on. -/
theorem PGo.trans {nd1 : Value} (h1 : PBut p nd w w1) (hn : nd1.ownBlock = nd.ownBlock ∨ ∀ b, nd1.ownBlock = some b → w.heap.size ≤ b) (hy : ∀ b ∈ blksC ys, w.heap.size ≤ b) (h : PGo T Z p v0 v2 w1 nd1 (xs ++ ys) zs i w2) : PGo T Z p v0 v2 w nd xs (ys ++ zs) i w2 := by
  obtain ⟨nd2, hs, hb, hn2, hz⟩ := h
  have hsz := h1.size
  refine ⟨nd2, by rw [← List.append_assoc]; exact hs, h1.trans hn hb, ?_, fun b hb' => ?_⟩
  · rcases hn2 with hn2 | hn2
    · rcases hn with hn | hn
      · exact .inl (hn2.trans hn)
      · exact .inr fun b e => hn b (hn2 ▸ e)
    · exact .inr fun b e => by have := hn2 b e; omega
  · rw [blksC_app] at hb'
    rcases List.mem_append.1 hb' with h' | h'
    · exact hy b h'
    · have := hz b h'; omega

/-- The place set. -/
theorem PS.setAt (h : PS T Z p v0 v2 w i nd xs) (j : Nat) : PS T Z p v0 v2 (w.setCell ⟨p, 1, none⟩ (.int .i64 (j : Nat))) j nd xs ∧ PBut p nd w (w.setCell ⟨p, 1, none⟩ (.int .i64 (j : Nat))) := by
  have hb : PBut p nd w (w.setCell ⟨p, 1, none⟩ (.int .i64 (j : Nat))) := (But.refl _ w).setCell (.inl rfl) _
  refine ⟨⟨?_, own_keep h.own fun g hg => ?_, fun x hx => ⟨h.keepI hb (h.lists x hx).1, h.keepI hb (h.lists x hx).2⟩, h.apart, h.low.setCell h.hp _, h.hp, h.ty⟩, hb⟩
  · rw [heap_setCell_same w p 1 _ _ _ h.box]
    simp
  · refine heap_setCell_other w ⟨p, 1, none⟩ g _ fun e => ?_
    obtain ⟨cur, hh, _⟩ := ownBlk_of h.own hg
    have e' : g = p := e
    rw [e', h.box] at hh
    have := Option.some.inj hh
    simp at this
    exact h.ty.1 this.2

theorem PS.all (h : PS T Z p v0 v2 w i nd xs) : w.cell? ⟨p, 0, none⟩ = some v0 ∧ w.cell? ⟨p, 1, none⟩ = some (.int .i64 (i : Nat)) ∧ w.cell? ⟨p, 2, none⟩ = some v2 ∧ w.cell? ⟨p, 3, none⟩ = some nd ∧ w.frozen? ⟨p, 0, none⟩ = false ∧ w.frozen? ⟨p, 1, none⟩ = false ∧ w.frozen? ⟨p, 2, none⟩ = false ∧ w.frozen? ⟨p, 3, none⟩ = false ∧ p < w.heap.size := by
  have hb := h.box
  refine ⟨?_, ?_, ?_, ?_, frozen_of_row w p 0 _ _ hb, frozen_of_row w p 1 _ _ hb, frozen_of_row w p 2 _ _ hb, frozen_of_row w p 3 _ _ hb, lt_of_block hb⟩ <;> simp [World.cell?, hb]

/-- A node put behind the others. -/
theorem PS.put (h : PS T Z p v0 v2 w i nd xs) {W : World} (hW : Below w.heap.size w W) {x : NodeC} (hx : x.Ok W Z.heap.size) (hd : ∀ b ∈ x.blks, b ∉ blksC xs) (hnd : x.blks.Nodup) {g cap : Nat} {w7 : World}
    (hown : w7.ownsRow Z.heap.size 47 6 (.slice (some ⟨g, 0, none⟩) (xs.length + 1) cap) (xs.length + 1) (xs.flatMap NodeC.cells ++ x.cells)) (hg : W.grownBy w7 nd.ownBlock) (hat : nd.ownBlock = some g ∨ g = W.heap.size) (hnew : ∀ b ∈ x.blks, b < W.heap.size) :
    PS T Z p v0 v2 (w7.setCell ⟨p, 3, none⟩ (.slice (some ⟨g, 0, none⟩) (xs.length + 1) cap)) i (.slice (some ⟨g, 0, none⟩) (xs.length + 1) cap) (xs ++ [x]) ∧ PBut p nd w (w7.setCell ⟨p, 3, none⟩ (.slice (some ⟨g, 0, none⟩) (xs.length + 1) cap)) ∧ ((Value.slice (some ⟨g, 0, none⟩) (xs.length + 1) cap).ownBlock = nd.ownBlock ∨ ∀ b, (Value.slice (some ⟨g, 0, none⟩) (xs.length + 1) cap).ownBlock = some b → w.heap.size ≤ b) := by
  have hz := hW.size
  have hpl := lt_of_block h.box
  have hW' := h.below hW
  have hgp : g ≠ p := by
    rcases hat with e | e
    · obtain ⟨cur, hh, _⟩ := ownBlk_of h.own e
      intro e'
      rw [e', h.box] at hh
      have := Option.some.inj hh
      simp at this
      exact h.ty.1 this.2
    · omega
  have hnp : some p ≠ nd.ownBlock := fun e => by
    obtain ⟨cur, hh, _⟩ := ownBlk_of h.own e.symm
    rw [h.box] at hh
    have := Option.some.inj hh
    simp at this
    exact h.ty.1 this.2
  have hb7 : w7.heap[p]? = some (.cells #[v0, .int .i64 (i : Nat), v2, nd] T (0, 0)) := (hg.block p (by omega) hnp).trans ((hW.block p hpl).trans h.box)
  have hI : ∀ {v : Value} {l : List Int}, OwnI W Z.heap.size v l → OwnI (w7.setCell ⟨p, 3, none⟩ (.slice (some ⟨g, 0, none⟩) (xs.length + 1) cap)) Z.heap.size v l := fun {v l} ho => by
    refine own_keep ho fun k hk => ?_
    obtain ⟨cur, hh, _⟩ := ownBlk_of ho hk
    have hkp : k ≠ p := fun e => by
      rw [e, hW'.box] at hh
      have := Option.some.inj hh
      simp at this
      exact h.ty.2 this.2
    have hkn : some k ≠ nd.ownBlock := fun e => by
      obtain ⟨cur', hh', _⟩ := ownBlk_of hW'.own e.symm
      rw [hh'] at hh
      have := Option.some.inj hh
      simp at this
    rw [heap_setCell_other w7 ⟨p, 3, none⟩ k _ hkp]
    exact hg.block k (lt_of_block hh) hkn
  refine ⟨⟨?_, ?_, fun y hy => ?_, ?_, ?_, h.hp, h.ty⟩, ⟨?_, ?_, ?_, ?_, fun k hk hn => ?_⟩, ?_⟩
  · rw [heap_setCell_same w7 p 3 _ _ _ hb7]
    simp
  · rw [List.length_append, List.flatMap_append]
    have e : [x].flatMap NodeC.cells = x.cells := by simp
    rw [e]
    exact own_keep hown fun k hk => heap_setCell_other w7 ⟨p, 3, none⟩ k _ (fun e => by simp [Value.ownBlock] at hk; exact hgp (hk.trans e))
  · rcases List.mem_append.1 hy with h' | h'
    · exact ⟨hI (hW'.lists y h').1, hI (hW'.lists y h').2⟩
    · rw [List.mem_singleton] at h'
      subst h'
      exact ⟨hI hx.1, hI hx.2⟩
  · rw [blksC_app, List.nodup_append]
    refine ⟨h.apart, by simpa [blksC] using hnd, fun b hb c hc e => ?_⟩
    subst e
    exact hd b (by simpa [blksC] using hc) hb
  · have : Below Z.heap.size Z w7 := (h.low.trans (hW.mono h.low.size)).grown hg (Nat.le_trans h.low.size hz) (fun k hk => (ownBlk_of h.own hk).elim fun _ hc => hc.2)
    exact this.setCell h.hp _
  · exact hg.os.trans hW.os
  · exact hg.tape.trans hW.tape
  · exact hg.output.trans hW.output
  · show w.heap.size ≤ (w7.setCell _ _).heap.size
    have := hg.size
    simp
    omega
  · rw [heap_setCell_other w7 ⟨p, 3, none⟩ k _ (fun e => hn (.inl e))]
    exact (hg.block k (by omega) (fun e => hn (.inr e.symm))).trans (hW.block k hk)
  · rcases hat with e | e
    · exact .inl (by rw [e]; rfl)
    · exact .inr fun b hb => by simp [Value.ownBlock] at hb; omega

end
end Go.Proofs.YtmgjicgojlkpcaaGreatDoor
