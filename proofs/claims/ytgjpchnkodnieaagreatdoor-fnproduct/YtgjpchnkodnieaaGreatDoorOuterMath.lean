import Derived.Test.YtgjpchnkodnieaaGreatDoorMFit0
import Derived.Test.YtgjpchnkodnieaaGreatDoorMFit0
namespace Go.Proofs.YtgjpchnkodnieaaGreatDoor

def outer (op : Int) (c d : Bool) (sh dt sh' dt' : List Int) : Ans :=
  if arrOk c sh dt = true ∧ arrOk d sh' dt' = true ∧ opIn op = true then
    if shapeB (sh ++ sh') = false then noAns 7
    else if (c || d) = true ∧ opEq op = false then noAns 3
    else gatherAns false (sh ++ sh') (fun k => elemOf op c dt (k / dt'.length) d dt' (k % dt'.length)) (dt.length * dt'.length)
  else noAns 3

theorem outer_bad1 {op : Int} {c d : Bool} {sh dt sh' dt' : List Int} (h : arrOk c sh dt = false) : outer op c d sh dt sh' dt' = noAns 3 := by unfold outer; rw [if_neg (by simp [h])]
theorem outer_bad2 {op : Int} {c d : Bool} {sh dt sh' dt' : List Int} (h : arrOk d sh' dt' = false) : outer op c d sh dt sh' dt' = noAns 3 := by unfold outer; rw [if_neg (by simp [h])]
theorem outer_bad3 {op : Int} {c d : Bool} {sh dt sh' dt' : List Int} (h : ¬ (1 ≤ op ∧ op ≤ 16)) : outer op c d sh dt sh' dt' = noAns 3 := by unfold outer; rw [if_neg (by simp [opIn, h])]
theorem outer_big {op : Int} {c d : Bool} {sh dt sh' dt' : List Int} (h1 : arrOk c sh dt = true) (h2 : arrOk d sh' dt' = true) (h3 : 1 ≤ op ∧ op ≤ 16) (h4 : shapeB (sh ++ sh') = false) : outer op c d sh dt sh' dt' = noAns 7 := by
  unfold outer; rw [if_pos ⟨h1, h2, decide_eq_true h3⟩, if_pos h4]
theorem outer_char {op : Int} {c d : Bool} {sh dt sh' dt' : List Int} (h1 : arrOk c sh dt = true) (h2 : arrOk d sh' dt' = true) (h3 : 1 ≤ op ∧ op ≤ 16) (h4 : shapeB (sh ++ sh') = true) (h5 : ((c || d) && !opEq op) = true) : outer op c d sh dt sh' dt' = noAns 3 := by
  unfold outer; rw [if_pos ⟨h1, h2, decide_eq_true h3⟩, if_neg (by simp [h4]), if_pos (by simpa using h5)]
theorem outer_go {op : Int} {c d : Bool} {sh dt sh' dt' : List Int} (h1 : arrOk c sh dt = true) (h2 : arrOk d sh' dt' = true) (h3 : 1 ≤ op ∧ op ≤ 16) (h4 : shapeB (sh ++ sh') = true) (h5 : ((c || d) && !opEq op) = false) (n2 m2 : Nat) (l2 : dt.length = n2) (l4 : dt'.length = m2) :
    outer op c d sh dt sh' dt' = gatherAns false (sh ++ sh') (fun k => elemOf op c dt (k / m2) d dt' (k % m2)) (n2 * m2) := by
  subst l2 l4
  unfold outer; rw [if_pos ⟨h1, h2, decide_eq_true h3⟩, if_neg (by simp [h4]), if_neg (fun e => by simp [e.1, e.2] at h5)]

theorem outer_size {c d : Bool} {sh dt sh' dt' : List Int} (h1 : arrOk c sh dt = true) (h2 : arrOk d sh' dt' = true) : dt.length ≤ 10000 ∧ dt'.length ≤ 10000 ∧ sh.length ≤ 5 ∧ sh'.length ≤ 5 := by
  obtain ⟨s1, p1, q1⟩ := shapeIn_of h1
  obtain ⟨s2, p2, q2⟩ := shapeIn_of h2
  have b1 := s1.bd
  have b2 := s2.bd
  omega

end Go.Proofs.YtgjpchnkodnieaaGreatDoor
