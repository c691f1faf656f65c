import Derived.Lib.OthersKept
import Derived.Test.YtinndpnilmmmjaaGreatDoorMFit2
import Derived.Test.YtinndpnilmmmjaaGreatDoorSpecLex
namespace Go.Proofs.YtinndpnilmmmjaaGreatDoor
open Go.RowKit

theorem iterPos_of {w : World} {k : Nat} {s : ByteArray} {pos : Nat} (h : w.heap[k]? = some (.stringIter s pos)) : w.iterPos k = pos := by
  unfold World.iterPos
  rw [h]

theorem owns_base {w : World} {B B' e size n : Nat} {v : Value} {xs : List Value} (h : w.ownsRow B e size v n xs) (hB : B' ≤ B) : w.ownsRow B' e size v n xs := by
  refine ⟨h.1, h.2.imp id ?_⟩
  rintro ⟨g, cap, cur, hv, hg, r⟩
  exact ⟨g, cap, cur, hv, Nat.le_trans hB hg, r⟩

/-- How Lex stands: the iterator of the line at a place, the tokens so far in a slice of the call's own. -/
structure LexS (w : World) (s : ByteArray) (wr : World) (pos : Nat) (v : Value) (n : Nat) (acc : List Tok) : Prop where
  iter : wr.heap[w.heap.size]? = some (.stringIter s pos)
  own : wr.ownsRow (w.heap.size + 1) 64 4 v n (acc.flatMap tokCells)
  low : Below w.heap.size w wr

theorem LexS.start (w : World) (s : ByteArray) : LexS w s (w.iter s 0) 0 (.slice none 0 0) 0 [] := by
  refine ⟨?_, ⟨rfl, .inl ⟨rfl, rfl⟩⟩, (Below.refl _ _).alloc (Nat.le_refl _) _⟩
  show (w.heap.push _)[w.heap.size]? = _
  simp

theorem LexS.lt {w wr : World} {s : ByteArray} {pos n : Nat} {v : Value} {acc : List Tok} (h : LexS w s wr pos v n acc) : w.heap.size < wr.heap.size := lt_of_block h.iter

theorem LexS.len {w wr : World} {s : ByteArray} {pos n : Nat} {v : Value} {acc : List Tok} (h : LexS w s wr pos v n acc) : acc.length = n := by
  have := h.own.1
  rw [cells_len] at this
  omega

theorem LexS.move {w wr : World} {s : ByteArray} {pos n : Nat} {v : Value} {acc : List Tok} (h : LexS w s wr pos v n acc) (pos' : Nat) : LexS w s (wr.iterAt w.heap.size s pos') pos' v n acc := by
  refine ⟨Lib.iterAt_heap _ _ _ _ _ h.iter, ⟨h.own.1, h.own.2.imp id ?_⟩, Lib.below_iterAt h.low (Nat.le_refl _) _ _⟩
  rintro ⟨g, cap, cur, hv, hg, hh, r⟩
  exact ⟨g, cap, cur, hv, hg, (Lib.iterAt_other _ _ _ _ _ (by omega)).trans hh, r⟩

theorem LexS.below {w wr w' : World} {s : ByteArray} {pos n : Nat} {v : Value} {acc : List Tok} (h : LexS w s wr pos v n acc) (hb : Below wr.heap.size wr w') : LexS w s w' pos v n acc :=
  ⟨(hb.block _ h.lt).trans h.iter, ownsB_below h.own (Nat.le_refl _) hb, h.low.trans (hb.mono (Nat.le_of_lt h.lt))⟩

theorem LexS.push {w wr w1 : World} {s : ByteArray} {pos n g' cap' : Nat} {v : Value} {acc : List Tok} {t : Tok} (h : LexS w s wr pos v n acc)
    (hown : w1.ownsRow (w.heap.size + 1) 64 4 (.slice (some ⟨g', 0, none⟩) (n + 1) cap') (n + 1) (acc.flatMap tokCells ++ tokCells t)) (hg : wr.grownBy w1 v.ownBlock) :
    LexS w s w1 pos (.slice (some ⟨g', 0, none⟩) (n + 1) cap') (n + 1) (acc ++ [t]) := by
  have hob := own_block h.own
  refine ⟨(hg.block _ h.lt (fun e => by have := hob _ e.symm; omega)).trans h.iter, by rw [List.flatMap_append]; simpa using hown, h.low.grown hg (Nat.le_of_lt h.lt) (fun k hk => by have := hob k hk; omega)⟩

/-- What Lex gives: the tokens in a slice of the call's own. -/
def GivesLexI (w : World) (r : List Tok × Int × Nat) (e : Ending) (w' : World) : Prop := ∃ v, e = .returned (.tuple #[v, .int .i64 r.2.1, .int .i64 (r.2.2 : Nat)]) ∧ w'.ownsRow w.heap.size 64 4 v r.1.length (r.1.flatMap tokCells) ∧ Below w.heap.size w w'

theorem LexS.gives {w wr : World} {s : ByteArray} {pos n : Nat} {v : Value} {acc : List Tok} (h : LexS w s wr pos v n acc) : GivesLexI w (acc, 0, 0) (.returned (.tuple #[v, .int .i64 0, .int .i64 0])) wr := by
  refine ⟨v, rfl, ?_, h.low⟩
  have := owns_base h.own (Nat.le_succ _)
  rw [← h.len] at this
  exact this

theorem gives_none {w w' : World} (c : Int) (p : Nat) (h : Below w.heap.size w w') : GivesLexI w ([], c, p) (.returned (.tuple #[.slice none 0 0, .int .i64 c, .int .i64 (p : Nat)])) w' := ⟨_, rfl, ⟨rfl, .inl ⟨rfl, rfl⟩⟩, h⟩

theorem eg_reader (v : Nat) : ∀ args w, (callFunc (readerN v) args).run Tryz.prog w = .ok (.enter (readerN v) args) w := by
  unfold readerN
  split
  · exact enters_of Tryz.func152 (by kernel_rfl) rfl
  · split
    · exact enters_of Tryz.func153 (by kernel_rfl) rfl
    · split
      · exact enters_of Tryz.func155 (by kernel_rfl) rfl
      · exact enters_of Tryz.func156 (by kernel_rfl) rfl

end Go.Proofs.YtinndpnilmmmjaaGreatDoor
