import Derived.Test.YtkgcmpmgaghdhaaDoorMFit0
import Derived.Test.YtkgcmpmgaghdhaaDoorOwnMore
import Derived.Test.YtkgcmpmgaghdhaaDoorSpecCount
namespace Go.Proofs.YtkgcmpmgaghdhaaDoor
open Go.RowKit

theorem Own.of_owns {w : World} {base n : Nat} {v : Value} {zs : List Int} (h : w.ownsRow base 3 1 v n (zs.map (Value.int .i64))) (hs : n ≤ 17592186044416) : ∃ a cap, v = .slice a n cap ∧ Own w base a n zs := by
  have hl : zs.length = n := by simpa using h.1
  rcases h.2 with ⟨rfl, h0⟩ | ⟨g, cap, cur, rfl, hb, hg, _, _, hcs, ht⟩
  · exact ⟨none, 0, by rw [h0], hl, hs, .inl h0⟩
  · refine ⟨some ⟨g, 0, none⟩, cap, rfl, hl, hs, .inr ⟨g, 0, rfl, hb, lt_of_block hg, fun i hi => ?_, fun i hi => frozen_of_row w g _ _ _ hg⟩⟩
    have e : cur.toList[i]? = some (.int .i64 (zs.getD i 0)) := by
      have : (cur.toList.take (n * 1))[i]? = (zs.map (Value.int .i64))[i]? := by rw [ht]
      rw [List.getElem?_take, if_pos (by omega)] at this
      rw [this]
      simp [hl, hi]
    simpa [World.cell?, hg] using e

theorem cells_ints {w : World} {ad : Addr} {n : Nat} {zs : List Int} (h : Row w (some ad) n zs) : ∀ (j : Nat) u, (zs.map (Value.int .i64))[j]? = some u → w.cell? (ad.add j) = some u := by
  intro j u hj
  have hl := h.len
  have hj' : j < n := by
    rcases Nat.lt_or_ge j n with h' | h'
    · exact h'
    · rw [List.getElem?_eq_none (by simp; omega)] at hj; cases hj
  obtain ⟨b, off, hab, hblt, hc⟩ := h.get hj'
  cases hab
  have hadd : (⟨b, off, none⟩ : Addr).add j = ⟨b, off + j, none⟩ := by by_cases h : j = 0 <;> simp [Addr.add, h]
  rw [hadd, hc]
  simpa [hl, hj'] using hj

theorem one_ints (zs : List Int) : ∀ u ∈ zs.map (Value.int .i64), u.oneCell' = true := by
  intro u hu
  obtain ⟨x, _, rfl⟩ := List.mem_map.mp hu
  rfl

theorem owns_empty (w : World) : (w.alloc (.cells #[] 3)).ownsRow w.heap.size 3 1 (.slice (some ⟨w.heap.size, 0, none⟩) 0 0) 0 [] := by
  refine ⟨by simp, .inr ⟨w.heap.size, 0, #[], rfl, Nat.le_refl _, ?_, by simp, by unfold maxLen; omega, by simp, by simp⟩⟩
  show (w.heap.push _)[w.heap.size]? = _
  simp

end Go.Proofs.YtkgcmpmgaghdhaaDoor
