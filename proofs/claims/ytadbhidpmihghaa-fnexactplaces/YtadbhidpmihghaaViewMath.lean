import Derived.Test.YtadbhidpmihghaaWindowMath
namespace Go.Proofs.Ytadbhidpmihghaa

def viewIn (n : Int) : Bool := decide (-10000 ≤ n ∧ n ≤ 10000)

/-- A view is formed. -/
def formed (off : Int) (sh st : List Int) : Bool := shapeB sh && (decide (st.length = sh.length) && (viewIn off && st.all viewIn))

/-- How far the element with this index lies behind Off, by its first k numbers. -/
def farN (ix st : List Int) : Nat → Int
  | 0 => 0
  | k + 1 => farN ix st k + ix.getD k 0 * st.getD k 0

/-- The place of element number k. -/
def placeOf (off : Int) (sh st : List Int) (k : Nat) : Int := off + farN (digits sh k) st sh.length

def placesOf (off : Int) (sh st : List Int) : List Int := (List.range (countOf sh).toNat).map (placeOf off sh st)

def viewOk (off : Int) (sh st : List Int) (cells : Int) : Bool :=
  formed off sh st && (decide (0 ≤ cells ∧ cells ≤ 10000) && (placesOf off sh st).all fun p => decide (0 ≤ p ∧ p < cells))

theorem formed_parts {off : Int} {sh st : List Int} (h : formed off sh st = true) : shapeB sh = true ∧ st.length = sh.length ∧ (-10000 ≤ off ∧ off ≤ 10000) ∧ ∀ k, -10000 ≤ st.getD k 0 ∧ st.getD k 0 ≤ 10000 := by
  unfold formed at h
  simp only [Bool.and_eq_true, decide_eq_true_eq] at h
  obtain ⟨h1, h2, h3, h4⟩ := h
  refine ⟨h1, h2, by simpa [viewIn] using h3, fun k => ?_⟩
  by_cases hk : k < st.length
  · have := List.all_eq_true.mp h4 (st.getD k 0) (by simp [hk])
    simpa [viewIn] using this
  · have e : st.getD k 0 = 0 := by simp [List.getD, List.getElem?_eq_none (by omega : st.length ≤ k)]
    rw [e]; omega

theorem farN_bd {ix st : List Int} {sh : List Int} (hi : IxIn sh ix) (hs : ∀ k, sh.getD k 0 ≤ 10000) (ht : ∀ k, -10000 ≤ st.getD k 0 ∧ st.getD k 0 ≤ 10000) (k : Nat) (hk : k ≤ sh.length) : -(100000000 * (k : Int)) ≤ farN ix st k ∧ farN ix st k ≤ 100000000 * (k : Int) := by
  induction k with
  | zero => simp [farN]
  | succ k ih =>
    obtain ⟨h1, h2⟩ := ih (by omega)
    obtain ⟨h3, h4⟩ := hi k (by omega)
    have h5 := hs k
    obtain ⟨h6, h7⟩ := ht k
    have a1 : ix.getD k 0 * st.getD k 0 ≤ 10000 * 10000 := by
      have := Int.mul_le_mul_of_nonneg_left h7 h3
      have := Int.mul_le_mul_of_nonneg_right (by omega : ix.getD k 0 ≤ 10000) (by omega : (0 : Int) ≤ 10000)
      omega
    have a2 : -(10000 * 10000) ≤ ix.getD k 0 * st.getD k 0 := by
      have b1 := Int.mul_le_mul_of_nonneg_left h6 h3
      have b2 := Int.mul_le_mul_of_nonneg_right (by omega : ix.getD k 0 ≤ 10000) (by omega : (0 : Int) ≤ 10000)
      have b3 : ix.getD k 0 * -10000 = -(ix.getD k 0 * 10000) := by rw [Int.mul_neg]
      omega
    show -(100000000 * ((k + 1 : Nat) : Int)) ≤ farN ix st k + ix.getD k 0 * st.getD k 0 ∧ farN ix st k + ix.getD k 0 * st.getD k 0 ≤ 100000000 * ((k + 1 : Nat) : Int)
    push_cast
    omega

end Go.Proofs.Ytadbhidpmihghaa
