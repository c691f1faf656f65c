import Derived.Test.YtadbhidpmihghabViewMath
namespace Go.Proofs.Ytadbhidpmihghab

def lineB (ps : List Int) : Bool := (List.range ps.length).all fun i => decide (i = 0 ∨ ps.getD i 0 - ps.getD (i - 1) 0 = ps.getD 1 0 - ps.getD 0 0)

/-- The distance between neighbours, where it is the same everywhere. -/
def lineL (ps : List Int) : Int × Bool := if ps.length < 2 then (1, true) else if lineB ps = true then (ps.getD 1 0 - ps.getD 0 0, true) else (0, false)

def lineV (off : Int) (sh st : List Int) : Int × Bool := if formed off sh st = true then lineL (placesOf off sh st) else (0, false)

theorem lineL_short {ps : List Int} (h : ps.length < 2) : lineL ps = (1, true) := by unfold lineL; rw [if_pos h]
theorem lineL_no {ps : List Int} {i : Nat} (h : ¬ ps.length < 2) (hi : i < ps.length) (h0 : i ≠ 0) (hne : ps.getD i 0 - ps.getD (i - 1) 0 ≠ ps.getD 1 0 - ps.getD 0 0) : lineL ps = (0, false) := by
  unfold lineL
  rw [if_neg h, if_neg]
  intro hb
  unfold lineB at hb
  rw [List.all_eq_true] at hb
  have := of_decide_eq_true (hb i (by simpa using hi))
  rcases this with h1 | h1
  · exact h0 h1
  · exact hne h1
theorem lineL_yes {ps : List Int} (h : ¬ ps.length < 2) (ha : ∀ i, i ≠ 0 → i < ps.length → ps.getD i 0 - ps.getD (i - 1) 0 = ps.getD 1 0 - ps.getD 0 0) : lineL ps = (ps.getD 1 0 - ps.getD 0 0, true) := by
  unfold lineL
  rw [if_neg h, if_pos]
  unfold lineB
  rw [List.all_eq_true]
  intro i hi
  refine decide_eq_true ?_
  by_cases h0 : i = 0
  · exact .inl h0
  · exact .inr (ha i h0 (by simpa using hi))

theorem lineV_no {off : Int} {sh st : List Int} (h : formed off sh st = false) : lineV off sh st = (0, false) := by unfold lineV; rw [if_neg (by simp [h])]
theorem lineV_go {off : Int} {sh st : List Int} (h : formed off sh st = true) : lineV off sh st = lineL (placesOf off sh st) := by unfold lineV; rw [if_pos h]

end Go.Proofs.Ytadbhidpmihghab
