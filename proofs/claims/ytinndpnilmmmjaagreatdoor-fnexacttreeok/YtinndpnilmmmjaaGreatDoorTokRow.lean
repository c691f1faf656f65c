import Derived.Test.YtinndpnilmmmjaaGreatDoorMFit1
import Derived.Deep.RegionHeld
import Derived.BigQuiet
namespace Go.Proofs.YtinndpnilmmmjaaGreatDoor
open Go.RowKit

/-- A token's value. -/
def tokV (t : Tok) : Value := .agg #[.int .i64 t.k, .int .i64 t.n, .string t.t, .int .i64 (t.p : Nat)]

theorem flat_get : ∀ (ts : List Tok) (j f : Nat) (hj : j < ts.length), f < 4 → (ts.flatMap tokCells)[4 * j + f]? = (tokCells ts[j])[f]?
  | [], j, f, hj, _ => absurd hj (Nat.not_lt_zero _)
  | t :: r, 0, f, _, hf => by
    rw [List.flatMap_cons, List.getElem?_append_left (by simp [tokCells]; omega)]
    simp
  | t :: r, j + 1, f, hj, hf => by
    have hl : (tokCells t).length = 4 := rfl
    rw [List.flatMap_cons, List.getElem?_append_right (by rw [hl]; omega), hl, show 4 * (j + 1) + f - 4 = 4 * j + f by omega]
    exact flat_get r j f (by simpa using hj) hf

/-- The token that stands at a place. -/
theorem RowT.get {w : World} {a : Option Addr} {n : Nat} {ts : List Tok} (h : RowT w a n ts) {j : Nat} (hj : j < n) : ∃ b off t, a = some ⟨b, off, none⟩ ∧ b < w.heap.size ∧ ts[j]? = some t ∧ w.cell? ⟨b, off + j * 4, none⟩ = some (.int .i64 t.k) ∧ w.cell? ⟨b, off + j * 4 + 1, none⟩ = some (.int .i64 t.n) ∧ w.cell? ⟨b, off + j * 4 + 2, none⟩ = some (.string t.t) ∧ w.cell? ⟨b, off + j * 4 + 3, none⟩ = some (.int .i64 (t.p : Nat)) := by
  have hl := h.len
  rcases h.at_ with h0 | ⟨b, off, rfl, hb, hc⟩
  · omega
  · have hj' : j < ts.length := by omega
    refine ⟨b, off, ts[j], rfl, hb, List.getElem?_eq_getElem hj', ?_, ?_, ?_, ?_⟩
    · rw [show off + j * 4 = off + (4 * j + 0) by omega, hc (4 * j + 0) (by omega)]; exact flat_get ts j 0 hj' (by omega)
    · rw [show off + j * 4 + 1 = off + (4 * j + 1) by omega, hc (4 * j + 1) (by omega)]; exact flat_get ts j 1 hj' (by omega)
    · rw [show off + j * 4 + 2 = off + (4 * j + 2) by omega, hc (4 * j + 2) (by omega)]; exact flat_get ts j 2 hj' (by omega)
    · rw [show off + j * 4 + 3 = off + (4 * j + 3) by omega, hc (4 * j + 3) (by omega)]; exact flat_get ts j 3 hj' (by omega)

theorem RowT.below {w w' : World} {a : Option Addr} {n B : Nat} {ts : List Tok} (h : RowT w a n ts) (hB : w.heap.size ≤ B) (hb : Below B w w') : RowT w' a n ts := by
  refine ⟨h.len, ?_⟩
  rcases h.at_ with h0 | ⟨b, off, rfl, hlt, hc⟩
  · exact .inl h0
  · exact .inr ⟨b, off, rfl, Nat.lt_of_lt_of_le hlt hb.size, fun i hi => (hb.cell (p := ⟨b, off + i, none⟩) (Nat.lt_of_lt_of_le hlt hB)).trans (hc i hi)⟩

end Go.Proofs.YtinndpnilmmmjaaGreatDoor
