import Derived.Test.YtkjpgbecbggcoaaDoorMFit1
import Derived.Test.YtkjpgbecbggcoaaDoorMarkText
import Derived.Test.YtkjpgbecbggcoaaDoorOwnTok
import Derived.Test.YtkjpgbecbggcoaaDoorImplLexS
namespace Go.Proofs.YtkjpgbecbggcoaaDoor
open Go.RowKit

/-- The marks that are put into n tokens from k on. -/
def marksT (k n : Nat) : List Tok := (List.range n).map fun i => ⟨((k + 4 * i : Nat) : Int), ((k + 4 * i + 1 : Nat) : Int), mt (k + 4 * i + 2), k + 4 * i + 3⟩

theorem marksT_len (k n : Nat) : (marksT k n).length = n := by simp [marksT]
theorem marksT_get (k n i : Nat) (h : i < n) : (marksT k n)[i]? = some ⟨((k + 4 * i : Nat) : Int), ((k + 4 * i + 1 : Nat) : Int), mt (k + 4 * i + 2), k + 4 * i + 3⟩ := by
  simp [marksT, h]

/-- How the marking stands. -/
structure MkS (w : World) (g off n k j : Nat) (wr : World) : Prop where
  but : But (fun x => x = g) w wr
  lt : g < wr.heap.size
  done : ∀ i, i < 4 * j → wr.cell? ⟨g, off + i, none⟩ = ((marksT k n).flatMap tokCells)[i]?
  has : ∀ i, i < 4 * n → (wr.cell? ⟨g, off + i, none⟩).isSome = true
  free : ∀ i, i < 4 * n → wr.frozen? ⟨g, off + i, none⟩ = false

theorem MkS.step {w wr w5 : World} {g off n k j : Nat} {v0 v1 v2 v3 : Value} (h : MkS w g off n k j wr) (hj : j < n)
    (hv : tokCells ⟨((k + 4 * j : Nat) : Int), ((k + 4 * j + 1 : Nat) : Int), mt (k + 4 * j + 2), k + 4 * j + 3⟩ = [v0, v1, v2, v3])
    (hb : Below wr.heap.size ((wr.setCell ⟨g, off + j * 4, none⟩ v0).setCell ⟨g, off + j * 4 + 1, none⟩ v1) w5) :
    MkS w g off n k (j + 1) ((w5.setCell ⟨g, off + j * 4 + 2, none⟩ v2).setCell ⟨g, off + j * 4 + 3, none⟩ v3) := by
  have hz : ((wr.setCell ⟨g, off + j * 4, none⟩ v0).setCell ⟨g, off + j * 4 + 1, none⟩ v1).heap.size = wr.heap.size := by simp
  have hlt2 : g < ((wr.setCell ⟨g, off + j * 4, none⟩ v0).setCell ⟨g, off + j * 4 + 1, none⟩ v1).heap.size := by rw [hz]; exact h.lt
  have c5 : ∀ i, w5.cell? ⟨g, off + i, none⟩ = ((wr.setCell ⟨g, off + j * 4, none⟩ v0).setCell ⟨g, off + j * 4 + 1, none⟩ v1).cell? ⟨g, off + i, none⟩ := fun i => hb.cell (p := ⟨g, off + i, none⟩) h.lt
  have f5 : ∀ i, w5.frozen? ⟨g, off + i, none⟩ = ((wr.setCell ⟨g, off + j * 4, none⟩ v0).setCell ⟨g, off + j * 4 + 1, none⟩ v1).frozen? ⟨g, off + i, none⟩ := fun i => hb.frozen (p := ⟨g, off + i, none⟩) h.lt
  -- what every cell holds behind the four stores
  have s0 := h.has (4 * j) (by omega)
  have s1 := h.has (4 * j + 1) (by omega)
  have s2 := h.has (4 * j + 2) (by omega)
  have s3 := h.has (4 * j + 3) (by omega)
  rw [show off + 4 * j = off + j * 4 by omega] at s0
  rw [show off + (4 * j + 1) = off + j * 4 + 1 by omega] at s1
  rw [show off + (4 * j + 2) = off + j * 4 + 2 by omega] at s2
  rw [show off + (4 * j + 3) = off + j * 4 + 3 by omega] at s3
  obtain ⟨u0, e0⟩ := Option.isSome_iff_exists.mp s0
  obtain ⟨u1, e1⟩ := Option.isSome_iff_exists.mp s1
  obtain ⟨u2, e2⟩ := Option.isSome_iff_exists.mp s2
  obtain ⟨u3, e3⟩ := Option.isSome_iff_exists.mp s3
  have other : ∀ {W : World} {x y : Nat} {v : Value}, x ≠ y → (W.setCell ⟨g, y, none⟩ v).cell? ⟨g, x, none⟩ = W.cell? ⟨g, x, none⟩ := fun {W x y v} hxy => World.cell?_setCell_other _ _ _ _ (fun e => hxy (congrArg Addr.off e).symm)
  have all : ∀ i, ((w5.setCell ⟨g, off + j * 4 + 2, none⟩ v2).setCell ⟨g, off + j * 4 + 3, none⟩ v3).cell? ⟨g, off + i, none⟩ = if i = 4 * j then some v0 else if i = 4 * j + 1 then some v1 else if i = 4 * j + 2 then some v2 else if i = 4 * j + 3 then some v3 else wr.cell? ⟨g, off + i, none⟩ := fun i => by
    by_cases i0 : i = 4 * j
    · rw [if_pos i0, other (by omega), other (by omega), c5, other (by omega), i0, show off + 4 * j = off + j * 4 by omega]
      exact World.cell?_setCell_same _ _ _ e0
    · rw [if_neg i0]
      by_cases i1 : i = 4 * j + 1
      · rw [if_pos i1, other (by omega), other (by omega), c5, i1, show off + (4 * j + 1) = off + j * 4 + 1 by omega]
        exact World.cell?_setCell_same _ _ _ ((other (by omega)).trans e1)
      · rw [if_neg i1]
        by_cases i2 : i = 4 * j + 2
        · rw [if_pos i2, other (by omega), i2, show off + (4 * j + 2) = off + j * 4 + 2 by omega]
          refine World.cell?_setCell_same _ _ _ (u := u2) ?_
          have := c5 (4 * j + 2)
          rw [show off + (4 * j + 2) = off + j * 4 + 2 by omega] at this
          rw [this, other (by omega), other (by omega)]
          exact e2
        · rw [if_neg i2]
          by_cases i3 : i = 4 * j + 3
          · rw [if_pos i3, i3, show off + (4 * j + 3) = off + j * 4 + 3 by omega]
            refine World.cell?_setCell_same _ _ _ (u := u3) ?_
            have := c5 (4 * j + 3)
            rw [show off + (4 * j + 3) = off + j * 4 + 3 by omega] at this
            rw [other (by omega), this, other (by omega), other (by omega)]
            exact e3
          · rw [if_neg i3, other (by omega), other (by omega), c5, other (by omega), other (by omega)]
  have hget : ∀ f, f < 4 → ((marksT k n).flatMap tokCells)[4 * j + f]? = [v0, v1, v2, v3][f]? := fun f hf => by
    have hl : j < (marksT k n).length := by rw [marksT_len]; exact hj
    rw [flat_get (marksT k n) j f hl hf, ← hv]
    have := marksT_get k n j hj
    rw [List.getElem?_eq_getElem hl] at this
    rw [Option.some.inj this]
  refine ⟨?_, ?_, fun i hi => ?_, fun i hi => ?_, fun i hi => ?_⟩
  · have b1 : But (fun x => x = g) w ((wr.setCell ⟨g, off + j * 4, none⟩ v0).setCell ⟨g, off + j * 4 + 1, none⟩ v1) := (h.but.setCell rfl _).setCell rfl _
    have b2 : But (fun x => x = g) w w5 := (b1.trans (But.of_below (S := fun x => x = g) (by rw [hz]; exact hb))).mono (fun x hx => hx.elim id id)
    exact (b2.setCell rfl _).setCell rfl _
  · have h1 := hb.size
    rw [hz] at h1
    have h2 : ((w5.setCell ⟨g, off + j * 4 + 2, none⟩ v2).setCell ⟨g, off + j * 4 + 3, none⟩ v3).heap.size = w5.heap.size := by simp
    rw [h2]
    exact Nat.lt_of_lt_of_le h.lt h1
  · rw [all i]
    by_cases hi2 : i < 4 * j
    · rw [if_neg (by omega), if_neg (by omega), if_neg (by omega), if_neg (by omega)]
      exact h.done i hi2
    · have : i = 4 * j ∨ i = 4 * j + 1 ∨ i = 4 * j + 2 ∨ i = 4 * j + 3 := by omega
      rcases this with rfl | rfl | rfl | rfl
      · rw [if_pos rfl]; exact (hget 0 (by omega)).symm
      · rw [if_neg (by omega), if_pos rfl]; exact (hget 1 (by omega)).symm
      · rw [if_neg (by omega), if_neg (by omega), if_pos rfl]; exact (hget 2 (by omega)).symm
      · rw [if_neg (by omega), if_neg (by omega), if_neg (by omega), if_pos rfl]; exact (hget 3 (by omega)).symm
  · rw [all i]
    split
    · rfl
    · split
      · rfl
      · split
        · rfl
        · split
          · rfl
          · exact h.has i hi
  · have := h.free i hi
    simp only [World.frozen?_setCell] at f5 ⊢
    rw [f5 i]
    exact this

end Go.Proofs.YtkjpgbecbggcoaaDoor
