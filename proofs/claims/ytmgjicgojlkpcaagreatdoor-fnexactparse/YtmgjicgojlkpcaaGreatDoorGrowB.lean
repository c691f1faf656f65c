import Derived.Test.YtmgjicgojlkpcaaGreatDoorBase
import Derived.Test.YtmgjicgojlkpcaaGreatDoorRowMoreB
import Derived.Test.YtmgjicgojlkpcaaGreatDoorShowMath
import Derived.Deep.AppendLies
namespace Go.Proofs.YtmgjicgojlkpcaaGreatDoor
open Go.RowKit

theorem ownsB_below {w w' : World} {base e size n B : Nat} {v : Value} {xs : List Value} (h : w.ownsRow base e size v n xs) (hB : w.heap.size ≤ B) (hb : Below B w w') : w'.ownsRow base e size v n xs := by
  obtain ⟨h1, h2⟩ := h
  refine ⟨h1, ?_⟩
  rcases h2 with h2 | ⟨g, cap, cur, hv, hg, hh, r⟩
  · exact Or.inl h2
  · exact Or.inr ⟨g, cap, cur, hv, hg, (hb.block g (Nat.lt_of_lt_of_le (lt_of_block hh) hB)).trans hh, r⟩

theorem info_byte : (Tryz.prog.info? 5).map (fun i => (i.zero, i.size, i.bytes)) = some (some (.int .u8 0), 1, 1) := by kernel_rfl

/-- The slice (a, n, _) reads as these bytes. -/
structure RowB (w : World) (a : Option Addr) (n : Nat) (zs : List Int) : Prop where
  len : zs.length = n
  at_ : n = 0 ∨ ∃ b off, a = some ⟨b, off, none⟩ ∧ b < w.heap.size ∧ ∀ i, i < n → w.cell? ⟨b, off + i, none⟩ = some (.int .u8 (zs.getD i 0))

theorem RowB.below {w w' : World} {a : Option Addr} {n B : Nat} {zs : List Int} (h : RowB w a n zs) (hB : w.heap.size ≤ B) (hb : Below B w w') : RowB w' a n zs := by
  refine ⟨h.len, ?_⟩
  rcases h.at_ with h0 | ⟨b, off, rfl, hlt, hc⟩
  · exact .inl h0
  · exact .inr ⟨b, off, rfl, by have := hb.size; omega, fun i hi => (hb.cell (p := ⟨b, off + i, none⟩) (by show b < B; omega)).trans (hc i hi)⟩

theorem RowB.news {w : World} {b off n : Nat} {zs : List Int} (h : RowB w (some ⟨b, off, none⟩) n zs) : ∀ (j : Nat) u, (zs.map (Value.int .u8))[j]? = some u → w.cell? ((⟨b, off, none⟩ : Addr).add j) = some u := by
  intro j u hj
  have hl := h.len
  have hj' : j < n := by
    rcases Nat.lt_or_ge j n with h' | h'
    · exact h'
    · rw [List.getElem?_eq_none (by simp; omega)] at hj; cases hj
  rcases h.at_ with h0 | ⟨b', off', e, _, hc⟩
  · omega
  · cases e
    have hadd : (⟨b, off, none⟩ : Addr).add j = ⟨b, off + j, none⟩ := by by_cases h : j = 0 <;> simp [Addr.add, h]
    rw [hadd, hc j hj']
    simpa [hl, hj'] using hj

theorem RowB.new (w : World) (zs : List Int) : RowB (w.alloc (.cells (zs.map (Value.int .u8)).toArray 5)) (some ⟨w.heap.size, 0, none⟩) zs.length zs := by
  refine ⟨rfl, .inr ⟨w.heap.size, 0, rfl, by simp, fun i hi => ?_⟩⟩
  have hh : (w.alloc (.cells (zs.map (Value.int .u8)).toArray 5)).heap[w.heap.size]? = some (.cells (zs.map (Value.int .u8)).toArray 5 (0, 0)) := by
    show (w.heap.push _)[w.heap.size]? = _
    simp
  obtain ⟨W, hW⟩ : ∃ W, w.alloc (.cells (zs.map (Value.int .u8)).toArray 5) = W := ⟨_, rfl⟩
  rw [hW] at hh ⊢
  simp [World.cell?, hh, hi]

theorem one_bytes (zs : List Int) : ∀ u ∈ zs.map (Value.int .u8), u.oneCell' = true := by
  intro u hu
  obtain ⟨x, _, rfl⟩ := List.mem_map.mp hu
  rfl

/-- An own list of bytes that grows, made in the world Q. -/
structure GrowB (Q w : World) (g cap j : Nat) (zs : List Int) : Prop where
  own : w.ownsRow Q.heap.size 5 1 (.slice (some ⟨g, 0, none⟩) j cap) j (zs.map (Value.int .u8))
  low : Below Q.heap.size Q w

theorem GrowB.start (Q : World) : GrowB Q (Q.alloc (.cells #[] 5)) Q.heap.size 0 0 [] := by
  refine ⟨⟨by simp, .inr ⟨Q.heap.size, 0, #[], rfl, Nat.le_refl _, ?_, by simp, by unfold maxLen; omega, by simp, by simp⟩⟩, (Below.refl _ _).alloc (Nat.le_refl _) _⟩
  show (Q.heap.push _)[Q.heap.size]? = _
  simp

theorem GrowB.len {Q w : World} {g cap j : Nat} {zs : List Int} (h : GrowB Q w g cap j zs) : zs.length = j := by simpa using h.own.1

theorem GrowB.ge {Q w : World} {g cap j : Nat} {zs : List Int} (h : GrowB Q w g cap j zs) : Q.heap.size ≤ g := by
  rcases h.own.2 with ⟨h', _⟩ | ⟨g', cap', cur, h', hb, _⟩
  · simp at h'
  · cases h'; exact hb

theorem GrowB.row {Q w : World} {g cap j : Nat} {zs : List Int} (h : GrowB Q w g cap j zs) : RowB w (some ⟨g, 0, none⟩) j zs := by
  refine ⟨h.len, ?_⟩
  rcases h.own.2 with ⟨h', _⟩ | ⟨g', cap', cur, h', _, hg, _, _, hcs, ht⟩
  · simp at h'
  · cases h'
    refine .inr ⟨g, 0, rfl, lt_of_block hg, fun i hi => ?_⟩
    have hl := h.len
    have e : cur.toList[i]? = some (.int .u8 (zs.getD i 0)) := by
      have : (cur.toList.take (j * 1))[i]? = (zs.map (Value.int .u8))[i]? := by rw [ht]
      rw [List.getElem?_take, if_pos (by omega)] at this
      rw [this]
      simp [hl, hi]
    simpa [World.cell?, hg] using e

theorem GrowB.below {Q w w' : World} {g cap j : Nat} {zs : List Int} (h : GrowB Q w g cap j zs) (hb : Below w.heap.size w w') : GrowB Q w' g cap j zs := ⟨ownsB_below h.own (Nat.le_refl _) hb, h.low.trans (hb.mono h.low.size)⟩

theorem GrowB.push {Q w w1 : World} {g cap j m g' cap' : Nat} {zs xs : List Int} (h : GrowB Q w g cap j zs)
    (hown : w1.ownsRow Q.heap.size 5 1 (.slice (some ⟨g', 0, none⟩) (j + m) cap') (j + m) (zs.map (Value.int .u8) ++ xs.map (Value.int .u8))) (hg : w.grownBy w1 (Value.ownBlock (.slice (some ⟨g, 0, none⟩) j cap))) :
    GrowB Q w1 g' cap' (j + m) (zs ++ xs) := by
  have hge := h.ge
  refine ⟨by rw [List.map_append]; exact hown, ⟨hg.os.trans h.low.os, hg.tape.trans h.low.tape, hg.output.trans h.low.output, Nat.le_trans h.low.size hg.size, fun k hk => (hg.block k (by have := h.low.size; omega) (fun e => by have := (Option.some.inj e : k = g); omega)).trans (h.low.block k hk)⟩⟩

end Go.Proofs.YtmgjicgojlkpcaaGreatDoor
