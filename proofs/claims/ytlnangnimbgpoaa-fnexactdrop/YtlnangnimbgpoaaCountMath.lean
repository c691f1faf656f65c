import Derived.Test.YtlnangnimbgpoaaWindowMath
namespace Go.Proofs.Ytlnangnimbgpoaa

/-- The shape that Take and Drop begin with. -/
def countedSh (n2 : Nat) (sh' : List Int) : List Int := if sh' = [] then List.replicate n2 1 else sh'

def countedCode (c : Bool) (n1 n2 m1 : Nat) : Int :=
  if listCode c n1 ≠ 0 then listCode c n1 else if m1 = 0 then (if 5 < n2 then 7 else 0) else if n2 ≠ m1 then 5 else 0

theorem counted_list {c : Bool} {n1 n2 m1 : Nat} {r : Int} (h : listCode c n1 = r) (hr : r ≠ 0) : countedCode c n1 n2 m1 = r := by unfold countedCode; rw [h, if_pos hr]
theorem counted_go {c : Bool} {n1 n2 m1 : Nat} (h : listCode c n1 = 0) : countedCode c n1 n2 m1 = if m1 = 0 then (if 5 < n2 then 7 else 0) else if n2 ≠ m1 then 5 else 0 := by unfold countedCode; rw [h]; rfl

theorem ones_snoc (k : Nat) : ((List.replicate (k + 1) (1 : Int)).map (Value.int .i64)) = (List.replicate k (1 : Int)).map (Value.int .i64) ++ [.int .i64 1] := by
  rw [List.replicate_succ']; simp

theorem ones_in (n : Nat) : ShapeIn (List.replicate n 1) ∧ prodAll (List.replicate n 1) = 1 := by
  induction n with
  | zero => exact ⟨⟨rfl, 1, rfl⟩, rfl⟩
  | succ n ih =>
    obtain ⟨⟨h1, m, hm⟩, h2⟩ := ih
    refine ⟨⟨?_, m, ?_⟩, ?_⟩
    · rw [List.replicate_succ, List.all_cons, h1]; rfl
    · rw [List.replicate_succ]; simpa [prodFrom] using hm
    · rw [List.replicate_succ]
      have : (1 : Int) :: List.replicate n 1 = [1] ++ List.replicate n 1 := rfl
      rw [this, prodAll_append, h2]; rfl

/-- The array that Take and Drop begin with is valid too. -/
theorem counted_ok {d : Bool} {n2 : Nat} {sh' dt' : List Int} (h : arrOk d sh' dt' = true) (h5 : n2 ≤ 5) : arrOk d (countedSh n2 sh') dt' = true := by
  unfold countedSh
  split
  · rename_i e
    subst e
    obtain ⟨_, hp, _⟩ := shapeIn_of h
    unfold arrOk at h ⊢
    simp only [Bool.and_eq_true, decide_eq_true_eq] at h ⊢
    refine ⟨by simp; exact h5, ?_, h.2.2⟩
    obtain ⟨hin, hpr⟩ := ones_in n2
    have hb : shapeB (List.replicate n2 (1 : Int)) = true := by
      obtain ⟨ha, m, hm⟩ := hin
      exact shape_good (n := n2) (by simp) h5 m ha hm
    rw [← prodAll_count _ hb, hpr, ← hp]; rfl
  · exact h

end Go.Proofs.Ytlnangnimbgpoaa
