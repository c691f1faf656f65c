import Derived.Test.YtmgjicgojlkpcaaGreatDoorParseMath2
namespace Go.Proofs.YtmgjicgojlkpcaaGreatDoor
open Go

/-- There was fuel enough. -/
def Has (x : Option Res) : Prop := ∃ r, x = some r

theorem Has.ok (q : Nat) (l : List (List NodeD)) : Has (okR q l) := ⟨_, rfl⟩
theorem Has.bad (q : Nat) : Has (badR q) := ⟨_, rfl⟩
theorem Has.bind {x : Option Res} {k : Nat → List (List NodeD) → Option Res} (h : Has x) (hk : ∀ q l, x = some (true, q, l) → Has (k q l)) : Has (bindR x k) := by
  obtain ⟨⟨b, q, l⟩, rfl⟩ := h
  cases b with
  | false => exact Has.bad q
  | true => exact hk q l rfl
theorem Has.ite {c : Prop} [Decidable c] {x y : Option Res} (h1 : c → Has x) (h2 : ¬ c → Has y) : Has (if c then x else y) := by
  split
  · exact h1 ‹_›
  · exact h2 ‹_›

/-- Which modes come to which at one place. -/
def rankM (m : Nat) : Nat := if m = 0 ∨ m = 1 then 1 else if m = 2 then 2 else if m = 3 then 0 else if m = 4 then 4 else if m = 5 then 2 else if m = 6 then 3 else 3

section
variable {X : Seen} {R : Nat → Nat → List NodeD → Option Res}

theorem Adv.q {i d q : Nat} {x : Option Res} {l : List (List NodeD)} (h : Adv X i d x) (e : x = some (true, q, l)) : i + d ≤ q ∧ q ≤ X.len := by
  obtain ⟨_, h2, h3⟩ := h _ _ _ e
  exact ⟨(h3 rfl).1, h2⟩

theorem rest_has (hA : ∀ m i a, i ≤ X.len → Adv X i (stepsM m) (R m i a)) {i q : Nat} (hR : ∀ m j a, i < j → j ≤ X.len → Has (R m j a)) (a : List NodeD) (hi : i < q) (hq : q ≤ X.len) : Has (restS X R q a) :=
  Has.ite (fun _ => Has.bind (hR 3 q [] hi hq) fun q2 l2 e2 => by
    have h2 := (hA 3 q [] hq).q e2
    exact Has.bind (hR 0 q2 [] (by omega) h2.2) fun _ _ _ => Has.ok _ _) fun _ => Has.ok _ _

theorem from_has (hA : ∀ m i a, i ≤ X.len → Adv X i (stepsM m) (R m i a)) {i q : Nat} (hR : ∀ m j a, i < j → j ≤ X.len → Has (R m j a)) (a : List NodeD) (hi : i < q) (hq : q ≤ X.len) : Has (fromS X R q a) :=
  Has.bind (hR 1 q a hi hq) fun q2 l2 e2 => by
    have h2 := (hA 1 q a hq).q e2
    exact rest_has hA hR _ (by omega) h2.2

theorem atom_has (hE : X.Ends) {i : Nat} (hR : ∀ m j a, i < j → j ≤ X.len → Has (R m j a)) : Has (atomS X R i) := by
  refine Has.ite (fun _ => Has.ok _ _) fun _ => Has.ite (fun h => ?_) fun _ => Has.ite (fun _ => Has.ok _ _) fun _ => Has.ite (fun _ => Has.ok _ _) fun _ => Has.ite (fun _ => Has.ok _ _) fun _ => Has.ite (fun _ => Has.ok _ _) fun _ => Has.ite (fun _ => Has.ok _ _) fun _ => Has.bad _
  exact Has.bind (hR 0 (i + 1) [] (by omega) (hE i (by rw [h]; decide))) fun _ _ _ => Has.ite (fun _ => Has.ok _ _) fun _ => Has.bad _

theorem expr_has (hE : X.Ends) (hA : ∀ m i a, i ≤ X.len → Adv X i (stepsM m) (R m i a)) {i : Nat} (hi : i ≤ X.len) (h3 : Has (R 3 i [])) (hR : ∀ m j a, i < j → j ≤ X.len → Has (R m j a)) : Has (exprS X R i) := by
  refine Has.ite (fun _ => Has.bind h3 fun q l e => ?_) fun _ => Has.bind (atom_has hE hR) fun q l e => ?_
  · have h2 := (hA 3 i [] hi).q e
    have hs : stepsM 3 = 1 := rfl
    exact Has.bind (hR 0 q [] (by omega) h2.2) fun _ _ _ => Has.ok _ _
  · have h2 := (atom_adv hE hA hi).q e
    exact from_has hA hR _ (by omega) h2.2

theorem idx_has (hE : X.Ends) (hA : ∀ m i a, i ≤ X.len → Adv X i (stepsM m) (R m i a)) {i : Nat} (a : List NodeD) (hR : ∀ m j a, i < j → j ≤ X.len → Has (R m j a)) : Has (idxS X R i a) := by
  refine Has.ite (fun h => ?_) fun _ => Has.ok _ _
  have hl := hE i (by rw [h]; decide)
  refine Has.bind (hR 2 (i + 1) [] (by omega) hl) fun q l e => Has.ite (fun h2 => ?_) fun _ => Has.bad _
  have h3 := (hA 2 (i + 1) [] hl).q e
  exact hR 1 (q + 1) _ (by omega) (hE q (by rw [h2]; decide))

theorem parts_has (hE : X.Ends) (hA : ∀ m i a, i ≤ X.len → Adv X i (stepsM m) (R m i a)) {i : Nat} (hi : i ≤ X.len) (h0 : Has (R 0 i [])) (hR : ∀ m j a, i < j → j ≤ X.len → Has (R m j a)) : Has (partsS X R i) := by
  refine Has.bind (Has.ite (fun _ => Has.ok _ _) fun _ => h0) fun q l e => Has.ite (fun h => ?_) fun _ => Has.ok _ _
  have hq : i ≤ q := by
    split at e
    · unfold okR at e; cases e; exact Nat.le_refl _
    · have := (hA 0 i [] hi).q e; omega
  exact Has.bind (hR 2 (q + 1) [] (by omega) (hE q (by rw [h]; decide))) fun _ _ _ => Has.ok _ _

theorem braces_has (hE : X.Ends) {i : Nat} (h1 : X.cl i = 123) (hR : ∀ m j a, i < j → j ≤ X.len → Has (R m j a)) : Has (bracesS X R i) := by
  refine Has.ite (fun _ => Has.ok _ _) fun _ => ?_
  exact Has.bind (hR 4 (i + 1) [] (by omega) (hE i (by rw [h1]; decide))) fun _ _ _ => Has.ite (fun _ => Has.ok _ _) fun _ => Has.bad _

theorem scal_has {i n : Nat} : Has (scalS X i n) := by
  refine Has.ite (fun _ => Has.ok _ _) fun _ => Has.ite (fun _ => Has.ok _ _) fun _ => Has.ite (fun _ => Has.ok _ _) fun _ => Has.ite (fun _ => Has.ok _ _) fun _ => Has.ite (fun _ => Has.ite (fun _ => Has.ok _ _) fun _ => Has.bad _) fun _ => Has.ok _ _

theorem fn_has (hE : X.Ends) {i : Nat} (hR : ∀ m j a, i < j → j ≤ X.len → Has (R m j a)) : Has (fnS X R i) := by
  refine Has.ite (fun _ => scal_has) fun _ => Has.ite (fun _ => Has.ite (fun _ => Has.ite (fun _ => Has.ok _ _) fun _ => Has.bad _) fun _ => Has.bad _) fun _ => Has.ite (fun h => braces_has hE h hR) fun _ => Has.ite (fun _ => Has.ok _ _) fun _ => Has.ite (fun _ => Has.ok _ _) fun _ => Has.ite (fun _ => Has.ok _ _) fun _ => Has.bad _

theorem items_has (hE : X.Ends) (hA : ∀ m i a, i ≤ X.len → Adv X i (stepsM m) (R m i a)) (m m' : Nat) {i : Nat} (hi : i ≤ X.len) (h6 : Has (R m i [])) (hR : ∀ m j a, i < j → j ≤ X.len → Has (R m j a)) : Has (bindR (R m i []) fun q l => if X.cl q = 8900 then bindR (R m' (q + 1) []) fun q2 l2 => okR q2 (l ++ l2) else okR q l) := by
  refine Has.bind h6 fun q l e => Has.ite (fun h => ?_) fun _ => Has.ok _ _
  have h2 := (hA m i [] hi).q e
  exact Has.bind (hR m' (q + 1) [] (by omega) (hE q (by rw [h]; decide))) fun _ _ _ => Has.ok _ _

theorem item_has (hE : X.Ends) (hA : ∀ m i a, i ≤ X.len → Adv X i (stepsM m) (R m i a)) {i : Nat} (hi : i ≤ X.len) (h5 : Has (R 5 i [])) (hR : ∀ m j a, i < j → j ≤ X.len → Has (R m j a)) : Has (itemS X R i) := by
  refine Has.bind h5 fun q l e => Has.ite (fun h => ?_) fun _ => Has.ok _ _
  have h2 := (hA 5 i [] hi).q e
  exact Has.bind (hR 0 (q + 1) [] (by omega) (hE q (by rw [h.2]; decide))) fun _ _ _ => Has.ok _ _

theorem end_has {i j : Nat} (k n : Int) (s : ByteArray) (ls : List (List NodeD)) (hR : ∀ m j a, i < j → j ≤ X.len → Has (R m j a)) (hij : i < j) (hj : j ≤ X.len) : Has (endS R k n s ls j) := Has.bind (hR 0 j [] hij hj) fun _ _ _ => Has.ok _ _

theorem stmt_has (hE : X.Ends) (hA : ∀ m i a, i ≤ X.len → Adv X i (stepsM m) (R m i a)) {i : Nat} (h0 : Has (R 0 i [])) (hR : ∀ m j a, i < j → j ≤ X.len → Has (R m j a)) : Has (stmtS X R i) := by
  refine Has.ite (fun h => ?_) fun _ => Has.ite (fun h => ?_) fun _ => Has.ite (fun h => ?_) fun _ => Has.ite (fun h => ?_) fun _ => Has.ite (fun h => ?_) fun _ => h0
  · exact Has.ite (fun h2 => Has.bind (braces_has hE h2 (fun m j a hj => hR m j a (by omega))) fun _ _ _ => Has.ok _ _) fun _ => Has.bad _
  · exact end_has _ _ _ _ hR (by omega) (hE (i + 1) (by rw [h.2]; decide))
  · exact end_has _ _ _ _ hR (by omega) (hE (i + 2) (by rw [h.2.2]; decide))
  · have h1 := hE (i + 1) (by rw [h.2.1]; decide)
    refine Has.bind (hR 2 (i + 2) [] (by omega) h1) fun q l e => Has.ite (fun _ => Has.ite (fun h4 => ?_) fun _ => Has.bad _) fun _ => Has.bad _
    have h2 := (hA 2 (i + 2) [] h1).q e
    exact end_has _ _ _ _ hR (by omega) (hE (q + 1) (by rw [h4]; decide))
  · have h1 := hE i (by rw [h]; decide)
    refine Has.bind (hR 0 (i + 1) [] (by omega) h1) fun q l e => Has.ite (fun h2 => ?_) fun _ => Has.bad _
    have h3 := (hA 0 (i + 1) [] h1).q e
    have h4 := hE q (by rw [h2]; decide)
    exact Has.ite (fun h5 => Has.ite (fun _ => end_has _ _ _ _ hR (by omega) (hE (q + 1) (by rw [h5]; decide))) fun _ => Has.bad _) fun _ => from_has hA hR _ (by omega) h4

end

/-- With fuel enough reading comes to an end. -/
theorem prs_has {X : Seen} (hE : X.Ends) : ∀ (f m i : Nat) (a : List NodeD), i ≤ X.len → 6 * (X.len - i) + rankM m < f → Has (prs X f m i a)
  | 0, _, _, _, _, h => absurd h (Nat.not_lt_zero _)
  | f + 1, m, i, a, hi, hf => by
    have hA := prs_adv hE f
    have hR : ∀ m j a, i < j → j ≤ X.len → Has (prs X f m j a) := fun m' j a' hj hjl => prs_has hE f m' j a' hjl (by
      have : rankM m' ≤ 4 := by unfold rankM; split <;> (try split) <;> (try split) <;> (try split) <;> (try split) <;> (try split) <;> omega
      omega)
    rw [prs]
    by_cases h0 : m = 0
    · rw [if_pos h0]; subst h0
      exact expr_has hE hA hi (prs_has hE f 3 i [] hi (by simp [rankM] at hf ⊢; omega)) hR
    rw [if_neg h0]
    by_cases h1 : m = 1
    · rw [if_pos h1]; exact idx_has hE hA a hR
    rw [if_neg h1]
    by_cases h2 : m = 2
    · rw [if_pos h2]; subst h2
      exact parts_has hE hA hi (prs_has hE f 0 i [] hi (by simp [rankM] at hf ⊢; omega)) hR
    rw [if_neg h2]
    by_cases h3 : m = 3
    · rw [if_pos h3]; exact fn_has hE hR
    rw [if_neg h3]
    by_cases h4 : m = 4
    · rw [if_pos h4]; subst h4
      exact items_has hE hA 6 4 hi (prs_has hE f 6 i [] hi (by simp [rankM] at hf ⊢; omega)) hR
    rw [if_neg h4]
    by_cases h5 : m = 5
    · rw [if_pos h5]; subst h5
      exact stmt_has hE hA (prs_has hE f 0 i [] hi (by simp [rankM] at hf ⊢; omega)) hR
    rw [if_neg h5]
    by_cases h6 : m = 6
    · rw [if_pos h6]; subst h6
      exact item_has hE hA hi (prs_has hE f 5 i [] hi (by simp [rankM] at hf ⊢; omega)) hR
    rw [if_neg h6]
    have hr : rankM m = 3 := by unfold rankM; simp [h0, h1, h2, h3, h4, h5, h6]
    exact items_has hE hA 5 7 hi (prs_has hE f 5 i [] hi (by rw [hr] at hf; simp [rankM]; omega)) hR

end Go.Proofs.YtmgjicgojlkpcaaGreatDoor
