import Derived.Test.YtinndpnilmmmjaaGreatDoorTokRow
import Derived.Test.YtinndpnilmmmjaaGreatDoorMFit0
namespace Go.Proofs.YtinndpnilmmmjaaGreatDoor
open Go.RowKit

/-- The slice (a, n, _) reads as these tokens, lies in a block from B on, and may be written. -/
structure OwnT (w : World) (B : Nat) (a : Option Addr) (n : Nat) (ts : List Tok) : Prop where
  len : ts.length = n
  at_ : n = 0 ∨ ∃ g off, a = some ⟨g, off, none⟩ ∧ B ≤ g ∧ g < w.heap.size ∧ (∀ i, i < 4 * n → w.cell? ⟨g, off + i, none⟩ = (ts.flatMap tokCells)[i]?) ∧ (∀ i, i < 4 * n → w.frozen? ⟨g, off + i, none⟩ = false)

theorem OwnT.row {w : World} {B : Nat} {a : Option Addr} {n : Nat} {ts : List Tok} (h : OwnT w B a n ts) : RowT w a n ts := by
  refine ⟨h.len, ?_⟩
  rcases h.at_ with h0 | ⟨g, off, rfl, _, hlt, hc, _⟩
  · exact .inl h0
  · exact .inr ⟨g, off, rfl, hlt, hc⟩

theorem OwnT.low {w : World} {B : Nat} {a : Option Addr} {n : Nat} {ts : List Tok} (h : OwnT w B a n ts) {k : Nat} (hk : At a n k) : B ≤ k := by
  rcases h.at_ with h0 | ⟨g, off, rfl, hg, _⟩
  · exact absurd h0 hk.1
  · have := at_eq hk; omega

theorem OwnT.below {w w' : World} {a : Option Addr} {n : Nat} {ts : List Tok} {B C : Nat} (h : OwnT w C a n ts) (hB : w.heap.size ≤ B) (hb : Below B w w') : OwnT w' C a n ts := by
  refine ⟨h.len, ?_⟩
  rcases h.at_ with h0 | ⟨g, off, rfl, hg, hlt, hc, hf⟩
  · exact .inl h0
  · exact .inr ⟨g, off, rfl, hg, Nat.lt_of_lt_of_le hlt hb.size, fun i hi => (hb.cell (p := ⟨g, off + i, none⟩) (Nat.lt_of_lt_of_le hlt hB)).trans (hc i hi), fun i hi => (hb.frozen (p := ⟨g, off + i, none⟩) (Nat.lt_of_lt_of_le hlt hB)).trans (hf i hi)⟩

theorem But.ownT {S : Nat → Prop} {b : Option Addr} {m B : Nat} {w w' : World} {ts : List Tok} (h : But S w w') (ho : OwnT w B b m ts) (hap : ∀ k, S k → ¬ At b m k) : OwnT w' B b m ts := by
  refine ⟨ho.len, ?_⟩
  rcases ho.at_ with h0 | ⟨g, off, rfl, hg, hlt, hc, hf⟩
  · exact .inl h0
  · by_cases hm : m = 0
    · exact .inl hm
    have hb := h.block g hlt (fun e => hap g e ⟨hm, _, rfl, rfl⟩)
    exact .inr ⟨g, off, rfl, hg, Nat.lt_of_lt_of_le hlt h.size, fun i hi => (World.cell?_of_block (w := w) (a := ⟨g, off + i, none⟩) hb).trans (hc i hi), fun i hi => (World.frozen?_of_block (w := w) (a := ⟨g, off + i, none⟩) hb).trans (hf i hi)⟩

theorem But.rowT {S : Nat → Prop} {b : Option Addr} {m : Nat} {w w' : World} {ts : List Tok} (h : But S w w') (ho : RowT w b m ts) (hap : ∀ k, S k → ¬ At b m k) : RowT w' b m ts := by
  refine ⟨ho.len, ?_⟩
  rcases ho.at_ with h0 | ⟨g, off, rfl, hlt, hc⟩
  · exact .inl h0
  · by_cases hm : m = 0
    · exact .inl hm
    have hb := h.block g hlt (fun e => hap g e ⟨hm, _, rfl, rfl⟩)
    exact .inr ⟨g, off, rfl, Nat.lt_of_lt_of_le hlt h.size, fun i hi => (World.cell?_of_block (w := w) (a := ⟨g, off + i, none⟩) hb).trans (hc i hi)⟩

theorem RowT.hi {w : World} {a : Option Addr} {n : Nat} {ts : List Tok} (h : RowT w a n ts) {k : Nat} (hk : At a n k) : k < w.heap.size := by
  rcases h.at_ with h0 | ⟨g, off, rfl, hg, _⟩
  · exact absurd h0 hk.1
  · have := at_eq hk; omega

theorem ownT_of {w : World} {B n : Nat} {v : Value} {ts : List Tok} (h : w.ownsRow B 64 4 v n (ts.flatMap tokCells)) : ∃ a cap, v = .slice a n cap ∧ OwnT w B a n ts := by
  have hl : ts.length = n := by have := h.1; rw [cells_len] at this; omega
  rcases h.2 with ⟨h', h0⟩ | ⟨g, cap, cur, h', hb, hg, _, _, hcs, ht⟩
  · subst h0
    exact ⟨none, 0, h', hl, .inl rfl⟩
  · refine ⟨some ⟨g, 0, none⟩, cap, h', hl, .inr ⟨g, 0, rfl, hb, lt_of_block hg, fun i hi => ?_, fun i _ => ?_⟩⟩
    · rw [Nat.zero_add]
      have e : cur.toList[i]? = (ts.flatMap tokCells)[i]? := by rw [← ht, List.getElem?_take, if_pos (by omega)]
      simpa [World.cell?, hg] using e
    · exact frozen_of_row w g _ _ _ hg

end Go.Proofs.YtinndpnilmmmjaaGreatDoor
