import Derived.Test.YtijamlgiinjikaaGreatDoorDrawLexA
import Derived.Test.YtijamlgiinjikaaGreatDoorMFit0
namespace Go.Proofs.YtijamlgiinjikaaGreatDoor
open Go.RowKit

/-- How DrawLex stands: the bytes so far in a slice of the call's own behind the reader. -/
structure DrS (w : World) (pr : Nat) (wr : World) (g cap n : Nat) (out : List UInt8) : Prop where
  own : wr.ownsRow (pr + 1) 5 1 (.slice (some ⟨g, 0, none⟩) n cap) n ((uz out).map (Value.int .u8))
  low : Below w.heap.size w wr
  rd : RdOk wr pr

theorem DrS.len {w wr : World} {pr g cap n : Nat} {out : List UInt8} (h : DrS w pr wr g cap n out) : out.length = n := by
  have := h.own.1
  rw [List.length_map, uz_len] at this
  omega

theorem DrS.ge {w wr : World} {pr g cap n : Nat} {out : List UInt8} (h : DrS w pr wr g cap n out) : pr + 1 ≤ g := by
  rcases h.own.2 with ⟨h', _⟩ | ⟨g', cap', cur, h', hb, _⟩
  · simp at h'
  · cases h'; exact hb

theorem DrS.below {w wr w' : World} {pr g cap n : Nat} {out : List UInt8} (h : DrS w pr wr g cap n out) (hw : w.heap.size ≤ wr.heap.size) (hb : Below wr.heap.size wr w') : DrS w pr w' g cap n out :=
  ⟨ownsB_below h.own (Nat.le_refl _) hb, h.low.trans (hb.mono hw), h.rd.below hb⟩

theorem DrS.next {w wr w' : World} {pr g cap n : Nat} {out : List UInt8} (h : DrS w pr wr g cap n out) (hp : w.heap.size ≤ pr) (hw : w.heap.size ≤ wr.heap.size) (hb : But (fun x => x = pr) wr w') (hr : RdOk w' pr) : DrS w pr w' g cap n out := by
  have hge := h.ge
  refine ⟨⟨h.own.1, h.own.2.imp id ?_⟩, h.low.trans (hb.below hw (fun k hk => by omega)), hr⟩
  rintro ⟨g', cap', cur, hv, hg, hh, r⟩
  cases hv
  exact ⟨g, cap, cur, rfl, hg, (hb.block g (lt_of_block hh) (by omega)).trans hh, r⟩

theorem DrS.push {w wr w1 : World} {pr g cap n m g' cap' : Nat} {out xs : List UInt8} (h : DrS w pr wr g cap n out) (hp : w.heap.size ≤ pr) (hpw : pr < wr.heap.size)
    (hown : w1.ownsRow (pr + 1) 5 1 (.slice (some ⟨g', 0, none⟩) (n + m) cap') (n + m) ((uz out).map (Value.int .u8) ++ (uz xs).map (Value.int .u8))) (hg : wr.grownBy w1 (Value.ownBlock (.slice (some ⟨g, 0, none⟩) n cap))) :
    DrS w pr w1 g' cap' (n + m) (out ++ xs) := by
  have hge := h.ge
  have hob : ∀ k, Value.ownBlock (.slice (some ⟨g, 0, none⟩) n cap) = some k → pr + 1 ≤ k := fun k hk => by simp [Value.ownBlock] at hk; omega
  refine ⟨by rw [uz_app, List.map_append]; exact hown, h.low.grown hg (by omega) (fun k hk => by have := hob k hk; omega), ?_⟩
  have hb : But (fun x => x = g) wr w1 := ⟨hg.os, hg.tape, hg.output, hg.size, fun k hk hn => hg.block k hk (fun e => hn (by simp [Value.ownBlock] at e; exact e))⟩
  exact h.rd.but hb (fun k hk => by omega)

/-- Some bytes in a slice. -/
def GivesBytes (w : World) (e : Ending) (w' : World) : Prop := ∃ (g cap : Nat) (l : List UInt8), e = .returned (.slice (some ⟨g, 0, none⟩) l.length cap) ∧ RowB w' (some ⟨g, 0, none⟩) l.length (uz l) ∧ l.length ≤ 4000 ∧ Below w.heap.size w w'

theorem rowB_of {w : World} {B g cap n : Nat} {zs : List Int} (h : w.ownsRow B 5 1 (.slice (some ⟨g, 0, none⟩) n cap) n (zs.map (Value.int .u8))) : RowB w (some ⟨g, 0, none⟩) n zs := by
  have hl : zs.length = n := by simpa using h.1
  refine ⟨hl, ?_⟩
  rcases h.2 with ⟨h', _⟩ | ⟨g', cap', cur, h', _, hg, _, _, hcs, ht⟩
  · simp at h'
  · cases h'
    refine .inr ⟨g, 0, rfl, lt_of_block hg, fun i hi => ?_⟩
    have e : cur.toList[i]? = some (.int .u8 (zs.getD i 0)) := by
      have : (cur.toList.take (n * 1))[i]? = (zs.map (Value.int .u8))[i]? := by rw [ht]
      rw [List.getElem?_take, if_pos (by omega)] at this
      rw [this]
      simp [hl, hi]
    simpa [World.cell?, hg] using e

theorem DrS.gives {w wr : World} {pr g cap n : Nat} {out : List UInt8} (h : DrS w pr wr g cap n out) (hn : n ≤ 4000) : GivesBytes w (.returned (.slice (some ⟨g, 0, none⟩) n cap)) wr := by
  have hl := h.len
  exact ⟨g, cap, out, by rw [hl], by rw [hl]; exact rowB_of h.own, by omega, h.low⟩

theorem news_of {W : World} {g n : Nat} {l : List UInt8} (h : RowB W (some ⟨g, 0, none⟩) n (uz l)) : ∀ (j : Nat) u, ((uz l).map (Value.int .u8))[j]? = some u → W.cell? ((⟨g, 0, none⟩ : Addr).add j) = some u := by
  intro j u hj
  have hl := h.len
  have h2 : (⟨g, 0, none⟩ : Addr).add j = ⟨g, j, none⟩ := by by_cases h : j = 0 <;> simp [Addr.add, h]
  have hjl : j < (uz l).length := by
    by_cases hh : j < (uz l).length
    · exact hh
    · rw [List.getElem?_eq_none (by rw [List.length_map]; omega)] at hj; cases hj
  rcases h.at_ with h0 | ⟨b, off, e, _, hc⟩
  · omega
  · cases e
    rw [h2]
    have := hc j (by omega)
    rw [Nat.zero_add] at this
    rw [this]
    rw [List.getElem?_map, List.getElem?_eq_getElem hjl] at hj
    rw [List.getD_eq_getElem?_getD, List.getElem?_eq_getElem hjl]
    simpa using hj

end Go.Proofs.YtijamlgiinjikaaGreatDoor
