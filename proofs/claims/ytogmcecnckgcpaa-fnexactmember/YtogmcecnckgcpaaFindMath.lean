import Derived.Test.YtogmcecnckgcpaaGatherMath
namespace Go.Proofs.Ytogmcecnckgcpaa

/-- The first place of an element, the number of elements when it is not there. -/
def firstOf (c : Bool) (dt : List Int) (v : Int) (ch : Bool) : Nat := if c = ch then dt.findIdx (fun x => decide (x = v)) else dt.length

theorem first_here {dt : List Int} {v : Int} {k : Nat} (h : ∀ j, j < k → dt.getD j 0 ≠ v) (hk : k < dt.length) (he : dt.getD k 0 = v) : dt.findIdx (fun x => decide (x = v)) = k := by
  rw [List.findIdx_eq hk]
  have hg : dt[k] = dt.getD k 0 := by simp [List.getD, hk]
  refine ⟨by rw [hg]; simpa using he, fun j hj => ?_⟩
  have hj' : dt[j]'(by omega) = dt.getD j 0 := by simp [List.getD, Nat.lt_trans hj hk]
  rw [hj']
  simpa using h j hj

theorem first_none {dt : List Int} {v : Int} (h : ∀ j, j < dt.length → dt.getD j 0 ≠ v) : dt.findIdx (fun x => decide (x = v)) = dt.length := by
  rw [List.findIdx_eq_length]
  intro x hx
  obtain ⟨j, hj, rfl⟩ := List.getElem_of_mem hx
  have hj' : dt[j] = dt.getD j 0 := by simp [List.getD, hj]
  rw [hj']
  simpa using h j hj

theorem first_le (c : Bool) (dt : List Int) (v : Int) (ch : Bool) : firstOf c dt v ch ≤ dt.length := by
  unfold firstOf; split
  · exact List.findIdx_le_length
  · exact Nat.le_refl _

def find (c d : Bool) (sh dt sh' dt' : List Int) : Ans :=
  if arrOk c sh dt = true ∧ arrOk d sh' dt' = true then
    if sh.length ≠ 1 then noAns 4 else gatherAns false sh' (fun k => ((firstOf c dt (dt'.getD k 0) d : Int) + 1, 0)) dt'.length
  else noAns 3

def member (c d : Bool) (sh dt sh' dt' : List Int) : Ans :=
  if arrOk c sh dt = true ∧ arrOk d sh' dt' = true then gatherAns false sh (fun k => (truth (decide (firstOf d dt' (dt.getD k 0) c < dt'.length)), 0)) dt.length
  else noAns 3

end Go.Proofs.Ytogmcecnckgcpaa
