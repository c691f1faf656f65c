import Derived.Test.YtmgjicgojlkpcaaGreatDoorParseMath
namespace Go.Proofs.YtmgjicgojlkpcaaGreatDoor
open Go

/-- Behind the last token is nothing. -/
def Seen.Ends (X : Seen) : Prop := ∀ i, X.cl i ≠ 0 → i < X.len

/-- Where reading from i on may end: d tokens on at least, where it goes well. -/
def Adv (X : Seen) (i d : Nat) (x : Option Res) : Prop := ∀ b q l, x = some (b, q, l) → i ≤ q ∧ q ≤ X.len ∧ (b = true → i + d ≤ q ∧ 0 < l.length)

section
variable {X : Seen}

theorem Adv.ok {i d q : Nat} {l : List (List NodeD)} (h1 : i + d ≤ q) (h2 : q ≤ X.len) (h3 : 0 < l.length) : Adv X i d (okR q l) := fun b q' l' e => by
  unfold okR at e
  cases e
  exact ⟨by omega, h2, fun _ => ⟨h1, h3⟩⟩

theorem Adv.bad {i d q : Nat} (h1 : i ≤ q) (h2 : q ≤ X.len) : Adv X i d (badR q) := fun b q' l' e => by
  unfold badR at e
  cases e
  exact ⟨h1, h2, fun h => by cases h⟩

theorem Adv.bind {i d j dj : Nat} {x : Option Res} {k : Nat → List (List NodeD) → Option Res} (hij : i ≤ j) (h : Adv X j dj x) (hk : ∀ q l, j + dj ≤ q → q ≤ X.len → 0 < l.length → Adv X i d (k q l)) : Adv X i d (bindR x k) := by
  cases x with
  | none => intro b q l e; cases e
  | some r =>
    obtain ⟨b, q, l⟩ := r
    obtain ⟨h1, h2, h3⟩ := h b q l rfl
    cases b with
    | false => exact Adv.bad (by omega) h2
    | true => exact hk q l (h3 rfl).1 h2 (h3 rfl).2

theorem Adv.ite {c : Prop} [Decidable c] {i d : Nat} {x y : Option Res} (h1 : c → Adv X i d x) (h2 : ¬ c → Adv X i d y) : Adv X i d (if c then x else y) := by
  split
  · exact h1 ‹_›
  · exact h2 ‹_›

theorem Adv.weak {i d d' : Nat} {x : Option Res} (h : Adv X i d x) (hd : d' ≤ d) : Adv X i d' x := fun b q l e => by
  obtain ⟨h1, h2, h3⟩ := h b q l e
  exact ⟨h1, h2, fun hb => ⟨by have := (h3 hb).1; omega, (h3 hb).2⟩⟩

theorem Adv.back {i j d d' : Nat} {x : Option Res} (h : Adv X j d x) (hi : i ≤ j) (hd : i + d' ≤ j + d) : Adv X i d' x := fun b q l e => by
  obtain ⟨h1, h2, h3⟩ := h b q l e
  exact ⟨by omega, h2, fun hb => ⟨by have := (h3 hb).1; omega, (h3 hb).2⟩⟩

theorem nums_some (hE : X.Ends) : ∀ (f i : Nat), i ≤ X.len → i + (numsTo X f i).length ≤ X.len
  | 0, i, h => by simpa [numsTo] using h
  | f + 1, i, h => by
    rw [numsTo]
    split
    · rename_i h1
      have hi := hE i (by omega)
      have := nums_some hE f (i + 1) (by omega)
      rw [List.length_cons]
      omega
    · simpa using h

theorem nums_one {i : Nat} (h : X.cl i = 1) (f : Nat) : 1 ≤ (numsTo X (f + 1) i).length := by
  rw [numsTo, if_pos h, List.length_cons]
  omega

/-- How much further a mode comes at least. -/
def stepsM (m : Nat) : Nat := if m = 1 ∨ m = 2 then 0 else 1

theorem fnC_some (hE : X.Ends) {i : Nat} (h : fnC (X.cl i) = true) : i < X.len := by
  refine hE i fun e => ?_
  rw [e] at h
  exact absurd h (by decide)

theorem scal_some (hE : X.Ends) {i : Nat} (h : 0 < scalNo (X.cl i)) : i < X.len := by
  refine hE i fun e => ?_
  rw [e] at h
  exact absurd h (by decide)

theorem prim_some (hE : X.Ends) {i : Nat} (h : 0 < primNo (X.cl i)) : i < X.len := by
  refine hE i fun e => ?_
  rw [e] at h
  exact absurd h (by decide)

section
variable {R : Nat → Nat → List NodeD → Option Res}

theorem rest_adv (hR : ∀ m i a, i ≤ X.len → Adv X i (stepsM m) (R m i a)) {i d q : Nat} (a : List NodeD) (hi : i + d ≤ q) (hq : q ≤ X.len) : Adv X i d (restS X R q a) :=
  Adv.ite (fun _ => Adv.bind (by omega) (hR 3 q [] hq) fun q2 l2 h2 h2' _ => Adv.bind (by omega) (hR 0 q2 [] h2') fun q3 l3 h3 h3' _ => Adv.ok (by omega) h3' (by simp)) (fun _ => Adv.ok hi hq (by simp))

theorem from_adv (hR : ∀ m i a, i ≤ X.len → Adv X i (stepsM m) (R m i a)) {i d q : Nat} (a : List NodeD) (hi : i + d ≤ q) (hq : q ≤ X.len) : Adv X i d (fromS X R q a) :=
  Adv.bind (by omega) (hR 1 q a hq) fun q2 l2 h2 h2' _ => rest_adv hR _ (by omega) h2'

theorem atom_adv (hE : X.Ends) (hR : ∀ m i a, i ≤ X.len → Adv X i (stepsM m) (R m i a)) {i : Nat} (hi : i ≤ X.len) : Adv X i 1 (atomS X R i) := by
  have one : ∀ {c : Nat} {l : List (List NodeD)}, X.cl i = c → c ≠ 0 → 0 < l.length → Adv X i 1 (okR (i + 1) l) := fun {c l} h hc hl => Adv.ok (Nat.le_refl _) (hE i (by rw [h]; exact hc)) hl
  refine Adv.ite (fun h1 => ?_) fun _ => Adv.ite (fun h40 => ?_) fun _ => Adv.ite (fun h => one h (by decide) (by simp)) fun _ => Adv.ite (fun h => one h (by decide) (by simp)) fun _ => Adv.ite (fun h => one h (by decide) (by simp)) fun _ => Adv.ite (fun h => one h (by decide) (by simp)) fun _ => Adv.ite (fun h => one h (by decide) (by simp)) fun _ => Adv.bad (Nat.le_refl _) hi
  · have := nums_one h1 X.len
    exact Adv.ok (by omega) (nums_some hE _ _ hi) (by simp)
  · have hl := hE i (by rw [h40]; decide)
    exact Adv.bind (by omega) (hR 0 (i + 1) [] hl) fun q l hq hq' hl' => Adv.ite (fun h41 => Adv.ok (by omega) (hE q (by rw [h41]; decide)) hl') fun _ => Adv.bad (by omega) hq'

theorem expr_adv (hE : X.Ends) (hR : ∀ m i a, i ≤ X.len → Adv X i (stepsM m) (R m i a)) {i : Nat} (hi : i ≤ X.len) : Adv X i 1 (exprS X R i) := by
  refine Adv.ite (fun h1 => ?_) fun _ => ?_
  · exact Adv.bind (Nat.le_refl _) (hR 3 i [] hi) fun q l hq hq' _ => Adv.bind (by omega) (hR 0 q [] hq') fun q2 l2 h2 h2' _ => Adv.ok (by have : stepsM 3 = 1 := rfl; omega) h2' (by simp)
  · exact Adv.bind (Nat.le_refl _) (atom_adv hE hR hi) fun q l hq hq' _ => from_adv hR _ hq hq'

theorem idx_adv (hE : X.Ends) (hR : ∀ m i a, i ≤ X.len → Adv X i (stepsM m) (R m i a)) {i : Nat} (a : List NodeD) (hi : i ≤ X.len) : Adv X i 0 (idxS X R i a) := by
  refine Adv.ite (fun h1 => ?_) fun _ => Adv.ok (Nat.le_refl _) hi (by simp)
  have hl := hE i (by rw [h1]; decide)
  exact Adv.bind (by omega) (hR 2 (i + 1) [] hl) fun q l hq hq' _ => Adv.ite (fun h => (hR 1 (q + 1) _ (hE q (by rw [h]; decide))).back (by omega) (by omega)) fun _ => Adv.bad (by omega) hq'

theorem parts_adv (hE : X.Ends) (hR : ∀ m i a, i ≤ X.len → Adv X i (stepsM m) (R m i a)) {i : Nat} (hi : i ≤ X.len) : Adv X i 0 (partsS X R i) := by
  refine Adv.bind (Nat.le_refl _) (dj := 0) (Adv.ite (fun _ => Adv.ok (Nat.le_refl _) hi (by simp)) fun _ => (hR 0 i [] hi).weak (by omega)) fun q l hq hq' hl => Adv.ite (fun h => ?_) fun _ => Adv.ok hq hq' hl
  have h2 := hE q (by rw [h]; decide)
  exact Adv.bind (by omega) (hR 2 (q + 1) [] h2) fun q2 l2 h3 h3' hl2 => Adv.ok (by omega) h3' (by rw [List.length_append]; omega)

theorem scal_adv (hE : X.Ends) {i n : Nat} (hi : i + 1 ≤ X.len) : Adv X i 1 (scalS X (i + 1) n) := by
  have one : ∀ {c : Nat} {l : List (List NodeD)}, X.cl (i + 1) = c → c ≠ 0 → 0 < l.length → Adv X i 1 (okR (i + 1 + 1) l) := fun {c l} h hc hl => Adv.ok (by omega) (hE (i + 1) (by rw [h]; exact hc)) hl
  refine Adv.ite (fun h => one h (by decide) (by simp)) fun _ => Adv.ite (fun h => one h (by decide) (by simp)) fun _ => Adv.ite (fun h => one h (by decide) (by simp)) fun _ => Adv.ite (fun h => one h (by decide) (by simp)) fun _ => Adv.ite (fun h => ?_) fun _ => Adv.ok (Nat.le_refl _) hi (by simp)
  have h2 := hE (i + 1) (by rw [h]; decide)
  exact Adv.ite (fun h3 => Adv.ok (by omega) (scal_some hE h3) (by simp)) fun _ => Adv.bad (by omega) h2

theorem braces_adv (hE : X.Ends) (hR : ∀ m i a, i ≤ X.len → Adv X i (stepsM m) (R m i a)) {i : Nat} (hi : X.cl i = 123) : Adv X i 1 (bracesS X R i) := by
  have hl := hE i (by rw [hi]; decide)
  refine Adv.ite (fun h => Adv.ok (by omega) (hE (i + 1) (by rw [h]; decide)) (by simp)) fun _ => ?_
  exact Adv.bind (by omega) (hR 4 (i + 1) [] hl) fun q l hq hq' _ => Adv.ite (fun h => Adv.ok (by omega) (hE q (by rw [h]; decide)) (by simp)) fun _ => Adv.bad (by omega) hq'

theorem fn_adv (hE : X.Ends) (hR : ∀ m i a, i ≤ X.len → Adv X i (stepsM m) (R m i a)) {i : Nat} (hi : i ≤ X.len) : Adv X i 1 (fnS X R i) := by
  refine Adv.ite (fun h => scal_adv hE (scal_some hE h)) fun _ => Adv.ite (fun h => ?_) fun _ => Adv.ite (fun h => braces_adv hE hR h) fun _ => Adv.ite (fun h => Adv.ok (Nat.le_refl _) (hE i (by rw [h]; decide)) (by simp)) fun _ => Adv.ite (fun h => Adv.ok (Nat.le_refl _) (hE i (by rw [h]; decide)) (by simp)) fun _ => Adv.ite (fun h => Adv.ok (Nat.le_refl _) (prim_some hE h) (by simp)) fun _ => Adv.bad (Nat.le_refl _) hi
  have h1 := hE i (by rw [h]; decide)
  refine Adv.ite (fun h2 => ?_) fun _ => Adv.bad (by omega) h1
  have h3 := hE (i + 1) (by rw [h2]; decide)
  exact Adv.ite (fun h4 => Adv.ok (by omega) (scal_some hE h4) (by simp)) fun _ => Adv.bad (by omega) h3

theorem items_adv (hE : X.Ends) (hR : ∀ m i a, i ≤ X.len → Adv X i (stepsM m) (R m i a)) (m m' : Nat) (hm : stepsM m = 1) {i : Nat} (hi : i ≤ X.len) : Adv X i 1 (bindR (R m i []) fun q l => if X.cl q = 8900 then bindR (R m' (q + 1) []) fun q2 l2 => okR q2 (l ++ l2) else okR q l) := by
  refine Adv.bind (Nat.le_refl _) (hR m i [] hi) fun q l hq hq' hl => Adv.ite (fun h => ?_) fun _ => Adv.ok (by omega) hq' hl
  have h2 := hE q (by rw [h]; decide)
  exact Adv.bind (by omega) (hR m' (q + 1) [] h2) fun q2 l2 h3 h3' hl2 => Adv.ok (by omega) h3' (by rw [List.length_append]; omega)

theorem item_adv (hE : X.Ends) (hR : ∀ m i a, i ≤ X.len → Adv X i (stepsM m) (R m i a)) {i : Nat} (hi : i ≤ X.len) : Adv X i 1 (itemS X R i) := by
  have h5 : stepsM 5 = 1 := rfl
  refine Adv.bind (Nat.le_refl _) (hR 5 i [] hi) fun q l hq hq' hl => Adv.ite (fun h => ?_) fun _ => Adv.ok (by omega) hq' hl
  have h2 := hE q (by rw [h.2]; decide)
  exact Adv.bind (by omega) (hR 0 (q + 1) [] h2) fun q2 l2 h3 h3' hl2 => Adv.ok (by omega) h3' (by simp)

theorem end_adv (hR : ∀ m i a, i ≤ X.len → Adv X i (stepsM m) (R m i a)) {i j : Nat} (k n : Int) (s : ByteArray) (ls : List (List NodeD)) (hij : i < j) (hj : j ≤ X.len) : Adv X i 1 (endS R k n s ls j) :=
  Adv.bind (by omega) (hR 0 j [] hj) fun q l hq hq' _ => Adv.ok (by omega) hq' (by simp)

theorem stmt_adv (hE : X.Ends) (hR : ∀ m i a, i ≤ X.len → Adv X i (stepsM m) (R m i a)) {i : Nat} (hi : i ≤ X.len) : Adv X i 1 (stmtS X R i) := by
  refine Adv.ite (fun h => ?_) fun _ => Adv.ite (fun h => ?_) fun _ => Adv.ite (fun h => ?_) fun _ => Adv.ite (fun h => ?_) fun _ => Adv.ite (fun h => ?_) fun _ => hR 0 i [] hi
  · have h1 := hE (i + 1) (by rw [h.2]; decide)
    refine Adv.ite (fun h2 => ?_) fun _ => Adv.bad (by omega) h1
    exact Adv.bind (by omega) (braces_adv hE hR h2) fun q l hq hq' _ => Adv.ok (by omega) hq' (by simp)
  · exact end_adv hR _ _ _ _ (by omega) (hE (i + 1) (by rw [h.2]; decide))
  · exact end_adv hR _ _ _ _ (by omega) (hE (i + 2) (by rw [h.2.2]; decide))
  · have h1 := hE (i + 1) (by rw [h.2.1]; decide)
    refine Adv.bind (by omega) (hR 2 (i + 2) [] h1) fun q l hq hq' _ => Adv.ite (fun h2 => ?_) fun _ => Adv.bad (by omega) hq'
    have h3 := hE q (by rw [h2]; decide)
    exact Adv.ite (fun h4 => end_adv hR _ _ _ _ (by omega) (hE (q + 1) (by rw [h4]; decide))) fun _ => Adv.bad (by omega) h3
  · have h1 := hE i (by rw [h]; decide)
    refine Adv.bind (by omega) (hR 0 (i + 1) [] h1) fun q l hq hq' _ => Adv.ite (fun h2 => ?_) fun _ => Adv.bad (by omega) hq'
    have h3 := hE q (by rw [h2]; decide)
    exact Adv.ite (fun h4 => Adv.ite (fun _ => end_adv hR _ _ _ _ (by omega) (hE (q + 1) (by rw [h4]; decide))) fun _ => Adv.bad (by omega) h3) fun _ => from_adv hR _ (by omega) h3

end

theorem prs_adv (hE : X.Ends) : ∀ (f m i : Nat) (a : List NodeD), i ≤ X.len → Adv X i (stepsM m) (prs X f m i a)
  | 0, _, _, _, _ => fun _ _ _ e => by cases e
  | f + 1, m, i, a, hi => by
    have hR := prs_adv hE f
    rw [prs]
    by_cases h0 : m = 0
    · rw [if_pos h0, h0]; exact expr_adv hE hR hi
    rw [if_neg h0]
    by_cases h1 : m = 1
    · rw [if_pos h1, h1]; exact idx_adv hE hR a hi
    rw [if_neg h1]
    by_cases h2 : m = 2
    · rw [if_pos h2, h2]; exact parts_adv hE hR hi
    rw [if_neg h2]
    have hs : stepsM m = 1 := by unfold stepsM; rw [if_neg (by omega)]
    rw [hs]
    by_cases h3 : m = 3
    · rw [if_pos h3]; exact fn_adv hE hR hi
    rw [if_neg h3]
    by_cases h4 : m = 4
    · rw [if_pos h4]; exact items_adv hE hR 6 4 rfl hi
    rw [if_neg h4]
    by_cases h5 : m = 5
    · rw [if_pos h5]; exact stmt_adv hE hR hi
    rw [if_neg h5]
    by_cases h6 : m = 6
    · rw [if_pos h6]; exact item_adv hE hR hi
    rw [if_neg h6]
    exact items_adv hE hR 5 7 rfl hi

end
end Go.Proofs.YtmgjicgojlkpcaaGreatDoor
