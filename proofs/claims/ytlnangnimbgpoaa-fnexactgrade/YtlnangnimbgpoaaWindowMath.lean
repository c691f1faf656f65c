import Derived.Test.YtlnangnimbgpoaaPlaceMath
import Derived.Test.YtlnangnimbgpoaaReshapeMath
namespace Go.Proofs.Ytlnangnimbgpoaa

/-- An index moved by a start. -/
def addIx (ix st : List Int) : List Int := (List.range ix.length).map fun i => ix.getD i 0 + st.getD i 0

theorem addIx_len (ix st : List Int) : (addIx ix st).length = ix.length := by simp [addIx]
theorem addIx_get (ix st : List Int) (k : Nat) (hk : k < ix.length) : (addIx ix st).getD k 0 = ix.getD k 0 + st.getD k 0 := by simp [addIx, hk]

/-- The first k numbers of an index lie within their axes. -/
def insideN (sh ix : List Int) : Nat → Bool
  | 0 => true
  | k + 1 => insideN sh ix k && (decide (0 ≤ ix.getD k 0) && decide (ix.getD k 0 < sh.getD k 0))

theorem inside_each {sh ix : List Int} {n : Nat} (h : insideN sh ix n = true) (k : Nat) (hk : k < n) : 0 ≤ ix.getD k 0 ∧ ix.getD k 0 < sh.getD k 0 := by
  induction n with
  | zero => omega
  | succ n ih =>
    simp only [insideN, Bool.and_eq_true, decide_eq_true_eq] at h
    by_cases e : k = n
    · subst e; exact h.2
    · exact ih h.1 (by omega)

theorem inside_in {sh ix : List Int} (h : insideN sh ix sh.length = true) : IxIn sh ix := fun k hk => inside_each h k hk

/-- What stands at place k of a window. -/
def windowAt (c : Bool) (sh dt st zs : List Int) (k : Nat) : Int × Int :=
  if insideN sh (addIx (digits zs k) st) sh.length = true then (dt.getD (place sh (addIx (digits zs k) st)).toNat 0, 0) else (fillOf c, 0)

theorem window_code (c : Bool) (sh dt st zs : List Int) (k : Nat) : (windowAt c sh dt st zs k).2 = 0 := by unfold windowAt; split <;> rfl

theorem mix_set {A D : List Int} {k : Nat} (hl : A.length = D.length) (hk : k < D.length) : (A.take k ++ D.drop k).set k (A.getD k 0) = A.take (k + 1) ++ D.drop (k + 1) := by
  have e : D.drop k = D.getD k 0 :: D.drop (k + 1) := by simp [List.getD, hk]
  have e2 : A.take (k + 1) = A.take k ++ [A.getD k 0] := take_snoc A k (by omega)
  rw [e, e2, List.append_assoc, List.set_append_right _ _ (by simp; omega)]
  have e3 : k - (A.take k).length = 0 := by simp; omega
  rw [e3]
  rfl

theorem mix_get {A D : List Int} {k : Nat} (hl : A.length = D.length) (hk : k < D.length) : (A.take k ++ D.drop k).getD k 0 = D.getD k 0 := by
  have e3 : min k A.length = k := by omega
  simp [List.getD, List.getElem?_append, e3]

theorem mix_got {A D : List Int} {k : Nat} (hk : k < A.length) : (A.take (k + 1) ++ D.drop (k + 1)).getD k 0 = A.getD k 0 := by
  have e : k < min (k + 1) A.length := by omega
  simp [List.getD, List.getElem?_append, e, hk]

theorem mix_len {A D : List Int} {k : Nat} (hl : A.length = D.length) (hk : k ≤ D.length) : (A.take k ++ D.drop k).length = D.length := by simp; omega

theorem shapeB_in {sh : List Int} (h : shapeB sh = true) : ShapeIn sh ∧ sh.length ≤ 5 := by
  unfold shapeB at h
  simp only [Bool.and_eq_true, decide_eq_true_eq] at h
  refine ⟨?_, h.1⟩
  have h2 := h.2
  unfold countOf at h2
  split at h2
  · rename_i ha
    split at h2
    · omega
    · rename_i m hm; exact ⟨ha, m, hm⟩
  · omega

end Go.Proofs.Ytlnangnimbgpoaa
