import Derived.Test.YtmgjicgojlkpcaaGreatDoorImplNameI
import Derived.Test.YtmgjicgojlkpcaaGreatDoorImplText
import Derived.Test.YtmgjicgojlkpcaaGreatDoorPrintTok
import Derived.Test.YtmgjicgojlkpcaaGreatDoorShelfWByte
import Derived.Test.YtmgjicgojlkpcaaGreatDoorNBox
import Derived.Shelf.Strings.BuilderK
namespace Go.Proofs.YtmgjicgojlkpcaaGreatDoor
open Go.RowKit

/-- A block that is no row of bytes. -/
def NoB (o : Obj) : Prop := ∀ c fz, o ≠ .cells c 5 fz

/-- The developers' writer in a run that began in the world Z: the text in block tb, the flag in block fb. -/
structure IX (Z : World) (tb fb : Nat) (w : World) (st : List UInt8 × Bool) : Prop where
  isb : IsB w Z.heap.size tb st.1
  flag : w.heap[fb]? = some (.cells #[.bool st.2] 4 (0, 0))
  low : Below Z.heap.size Z w
  hf : Z.heap.size ≤ fb

/-- What stands in a run: all but the two and the rows of bytes. -/
def Kept (tb fb : Nat) (w w' : World) : Prop := (∀ k o, w.heap[k]? = some o → k ≠ tb → k ≠ fb → NoB o → w'.heap[k]? = some o) ∧ w.heap.size ≤ w'.heap.size

theorem Kept.refl (tb fb : Nat) (w : World) : Kept tb fb w w := ⟨fun _ _ h _ _ _ => h, Nat.le_refl _⟩
theorem Kept.trans {tb fb : Nat} {a b c : World} (h : Kept tb fb a b) (k : Kept tb fb b c) : Kept tb fb a c := ⟨fun i o hi h1 h2 h3 => k.1 i o (h.1 i o hi h1 h2 h3) h1 h2 h3, Nat.le_trans h.2 k.2⟩
theorem lt_of_heap {w : World} {k : Nat} {o : Obj} (h : w.heap[k]? = some o) : k < w.heap.size := (Array.getElem?_eq_some_iff.1 h).1
theorem Kept.of_below {tb fb : Nat} {w w' : World} (hb : Below w.heap.size w w') : Kept tb fb w w' := ⟨fun k _ h _ _ _ => (hb.block k (lt_of_heap h)).trans h, hb.size⟩
theorem Kept.of_others {tb fb : Nat} {w w' : World} (h : Lib.OthersKept 5 (some tb) w w') (hs : w.heap.size ≤ w'.heap.size) : Kept tb fb w w' := ⟨fun k o hk h1 _ h3 => h k o hk (fun e => h1 (by simpa using e)) h3, hs⟩

/-- A call that writes. -/
def SaysI (Z : World) (tb fb : Nat) (f : Nat) (args : Array Value) (F : List UInt8 × Bool → List UInt8 × Bool) : Prop :=
  ∀ w st, IX Z tb fb w st → lenP (F st) ≤ mostP → Calls Tryz.prog f args w fun e w' => (∃ v, e = .returned v) ∧ IX Z tb fb w' (F st) ∧ Kept tb fb w w'

theorem saysI_congr {Z : World} {tb fb f : Nat} {args : Array Value} {F F' : List UInt8 × Bool → List UInt8 × Bool} (h : SaysI Z tb fb f args F) (e : ∀ st, F' st = F st) : SaysI Z tb fb f args F' := by
  have : F' = F := funext e
  rw [this]
  exact h

theorem IX.lt {Z w : World} {tb fb : Nat} {st : List UInt8 × Bool} (h : IX Z tb fb w st) : tb < w.heap.size ∧ fb < w.heap.size ∧ Z.heap.size ≤ tb := by
  refine ⟨?_, lt_of_heap h.flag, ?_⟩
  · rcases h.isb with ⟨_, v, hb, _⟩ | ⟨_, v, hb, _⟩ <;> exact lt_of_heap hb
  · rcases h.isb with ⟨hB, _⟩ | ⟨hB, _⟩ <;> exact hB

theorem IX.ne {Z w : World} {tb fb : Nat} {st : List UInt8 × Bool} (h : IX Z tb fb w st) : fb ≠ tb := by
  intro e
  have hf := h.flag
  rcases h.isb with ⟨_, v, hb, _⟩ | ⟨_, v, hb, _⟩ <;>
  · rw [e, hb] at hf
    have := Option.some.inj hf
    simp at this

theorem IX.below {Z w w' : World} {tb fb : Nat} {st : List UInt8 × Bool} (h : IX Z tb fb w st) (hb : Below w.heap.size w w') : IX Z tb fb w' st :=
  ⟨h.isb.below hb, (hb.block fb h.lt.2.1).trans h.flag, h.low.trans (hb.mono h.low.size), h.hf⟩

/-- The writer, and boxes of the call's own, in a run that came from w0. -/
structure IB (Z : World) (tb fb : Nat) (w0 : World) (bs : List (Nat × Obj)) (w : World) (st : List UInt8 × Bool) : Prop where
  ix : IX Z tb fb w st
  bx : ∀ x ∈ bs, w.heap[x.1]? = some x.2 ∧ x.1 ≠ tb ∧ x.1 ≠ fb ∧ NoB x.2
  kept : Kept tb fb w0 w

section
variable {Z w w0 w' : World} {tb fb : Nat} {bs : List (Nat × Obj)} {st : List UInt8 × Bool}

theorem IB.start (h : IX Z tb fb w st) : IB Z tb fb w [] w st := ⟨h, fun _ hx => absurd hx List.not_mem_nil, Kept.refl _ _ _⟩

theorem IB.below (h : IB Z tb fb w0 bs w st) (hb : Below w.heap.size w w') : IB Z tb fb w0 bs w' st :=
  ⟨h.ix.below hb, fun x hx => by
    obtain ⟨h1, h2⟩ := h.bx x hx
    exact ⟨(hb.block x.1 (lt_of_heap h1)).trans h1, h2⟩, h.kept.trans (Kept.of_below hb)⟩

theorem IB.push (h : IB Z tb fb w0 bs w st) (o : Obj) (hN : NoB o) : IB Z tb fb w0 ((w.heap.size, o) :: bs) (w.alloc o) st := by
  have hb : Below w.heap.size w (w.alloc o) := (Below.refl _ _).alloc (Nat.le_refl _) _
  have hl := h.ix.lt
  refine ⟨h.ix.below hb, fun x hx => ?_, h.kept.trans (Kept.of_below hb)⟩
  rcases List.mem_cons.1 hx with rfl | hx
  · refine ⟨?_, by show w.heap.size ≠ tb; omega, by show w.heap.size ≠ fb; omega, hN⟩
    show (w.heap.push o)[w.heap.size]? = _
    simp
  · exact (h.below hb).bx x hx

theorem IB.step (h : IB Z tb fb w0 bs w st) {st' : List UInt8 × Bool} (hi : IX Z tb fb w' st') (hk : Kept tb fb w w') : IB Z tb fb w0 bs w' st' :=
  ⟨hi, fun x hx => by
    obtain ⟨h1, h2, h3, h4⟩ := h.bx x hx
    exact ⟨hk.1 _ _ h1 h2 h3 h4, h2, h3, h4⟩, h.kept.trans hk⟩

theorem IB.call (h : IB Z tb fb w0 bs w st) {f : Nat} {args : Array Value} {F : List UInt8 × Bool → List UInt8 × Bool} (hs : SaysI Z tb fb f args F) (hl : lenP (F st) ≤ mostP) :
    Calls Tryz.prog f args w fun e w' => (∃ v, e = .returned v) ∧ IB Z tb fb w0 bs w' (F st) := by
  refine (hs w st h.ix hl).mono ?_
  rintro e w' ⟨hv, hi, hk⟩
  exact ⟨hv, h.step hi hk⟩

theorem IB.at0 {x : Nat × Obj} (h : IB Z tb fb w0 (x :: bs) w st) : w.heap[x.1]? = some x.2 := (h.bx x (by simp)).1
theorem IB.at1 {x y : Nat × Obj} (h : IB Z tb fb w0 (x :: y :: bs) w st) : w.heap[y.1]? = some y.2 := (h.bx y (by simp)).1

end

theorem cells1 {w : World} {q : Nat} {v0 : Value} {T : TypeId} (h : w.heap[q]? = some (.cells #[v0] T (0, 0))) : w.cell? ⟨q, 0, none⟩ = some v0 := by simp [World.cell?, h]
theorem cells2 {w : World} {q : Nat} {v0 v1 : Value} {T : TypeId} (h : w.heap[q]? = some (.cells #[v0, v1] T (0, 0))) : w.cell? ⟨q, 0, none⟩ = some v0 ∧ w.cell? ⟨q, 1, none⟩ = some v1 := by
  refine ⟨?_, ?_⟩ <;> simp [World.cell?, h]
theorem cells4 {w : World} {q : Nat} {v0 v1 v2 v3 : Value} {T : TypeId} (h : w.heap[q]? = some (.cells #[v0, v1, v2, v3] T (0, 0))) : w.cell? ⟨q, 0, none⟩ = some v0 ∧ w.cell? ⟨q, 1, none⟩ = some v1 ∧ w.cell? ⟨q, 2, none⟩ = some v2 ∧ w.cell? ⟨q, 3, none⟩ = some v3 := by
  refine ⟨?_, ?_, ?_, ?_⟩ <;> simp [World.cell?, h]
theorem cells6 {w : World} {q : Nat} {v0 v1 v2 v3 v4 v5 : Value} {T : TypeId} (h : w.heap[q]? = some (.cells #[v0, v1, v2, v3, v4, v5] T (0, 0))) : w.cell? ⟨q, 0, none⟩ = some v0 ∧ w.cell? ⟨q, 1, none⟩ = some v1 ∧ w.cell? ⟨q, 2, none⟩ = some v2 ∧ w.cell? ⟨q, 3, none⟩ = some v3 ∧ w.cell? ⟨q, 4, none⟩ = some v4 ∧ w.cell? ⟨q, 5, none⟩ = some v5 := by
  refine ⟨?_, ?_, ?_, ?_, ?_, ?_⟩ <;> simp [World.cell?, h]

theorem noB_of {cs : Array Value} {T : TypeId} {fz : Nat × Nat} (h : T ≠ 5) : NoB (.cells cs T fz) := by
  intro c fz' e
  cases e
  exact h rfl

end Go.Proofs.YtmgjicgojlkpcaaGreatDoor
