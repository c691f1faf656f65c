import Derived.Test.YtmgjicgojlkpcaaGreatDoorSpecLexA
namespace Go.Proofs.YtmgjicgojlkpcaaGreatDoor
open Go.RowKit

theorem run_idx {s : ByteArray} {k : Nat} (h : k < s.size) (W : World) : (Instr.index 9 (.string s) (.int .i64 (k : Nat))).run Tryz.prog W = .ok (.int .u8 (bt s k : Nat)) W := by
  have h1 : (k : Int) < (s.size : Int) := by omega
  have h2 := bt_get h
  rw [h2]
  go_simp

/-- What is read at a place, as a value. -/
def gotV (g : Got) : Value := .agg #[.int .i64 g.k, .int .i64 g.n, .string g.t, .int .i64 0, .int .i64 (g.e : Nat), .int .i64 g.c]

/-- Block p holds a struct of what is read. -/
def GBox (w : World) (p : Nat) (v0 v1 v2 v3 v4 v5 : Value) : Prop := w.heap[p]? = some (.cells #[v0, v1, v2, v3, v4, v5] 119 (0, 0))

theorem GBox.all {w : World} {p : Nat} {v0 v1 v2 v3 v4 v5 : Value} (h : GBox w p v0 v1 v2 v3 v4 v5) : w.cell? ⟨p, 0, none⟩ = some v0 ∧ w.cell? ⟨p, 1, none⟩ = some v1 ∧ w.cell? ⟨p, 2, none⟩ = some v2 ∧ w.cell? ⟨p, 3, none⟩ = some v3 ∧ w.cell? ⟨p, 4, none⟩ = some v4 ∧ w.cell? ⟨p, 5, none⟩ = some v5 ∧ (∀ i, w.frozen? ⟨p, i, none⟩ = false) := by
  unfold GBox at h
  refine ⟨?_, ?_, ?_, ?_, ?_, ?_, fun i => frozen_of_row w p i _ _ h⟩ <;> simp [World.cell?, h]

theorem GBox.lt {w : World} {p : Nat} {v0 v1 v2 v3 v4 v5 : Value} (h : GBox w p v0 v1 v2 v3 v4 v5) : p < w.heap.size := lt_of_block h

theorem GBox.below {w w' : World} {p B : Nat} {v0 v1 v2 v3 v4 v5 : Value} (h : GBox w p v0 v1 v2 v3 v4 v5) (hB : w.heap.size ≤ B) (hb : Below B w w') : GBox w' p v0 v1 v2 v3 v4 v5 := (hb.block p (Nat.lt_of_lt_of_le h.lt hB)).trans h

theorem GBox.new (w : World) (v0 v1 v2 v3 v4 v5 : Value) : GBox (w.alloc (.cells #[v0, v1, v2, v3, v4, v5] 119 (0, 0))) w.heap.size v0 v1 v2 v3 v4 v5 := by
  show (w.heap.push _)[w.heap.size]? = _
  simp

/-- What a function gives that reads a token at a place. -/
def GivesGot (w : World) (g : Got) (e : Ending) (w' : World) : Prop := e = .returned (gotV g) ∧ Below w.heap.size w w'

theorem endOf_is {p : Nat → Bool} {s : ByteArray} : ∀ (k f : Nat), (∀ j, j < k → f + j < s.size ∧ p (bt s (f + j)) = true) → ¬ (f + k < s.size ∧ p (bt s (f + k)) = true) → endOf p s f = f + k
  | 0, f, _, h => endOf_stop h
  | k + 1, f, hk, h => by
    have h0 : f < s.size ∧ p (bt s f) = true := hk 0 (by omega)
    rw [endOf_go h0.1 h0.2, endOf_is k (f + 1) (fun j hj => by have := hk (j + 1) (by omega); rwa [show f + 1 + j = f + (j + 1) by omega]) (by rwa [show f + 1 + k = f + (k + 1) by omega])]
    omega

end Go.Proofs.YtmgjicgojlkpcaaGreatDoor
