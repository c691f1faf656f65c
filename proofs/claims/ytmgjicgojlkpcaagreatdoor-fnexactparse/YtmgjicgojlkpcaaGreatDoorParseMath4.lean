import Derived.Test.YtmgjicgojlkpcaaGreatDoorParseMath3
namespace Go.Proofs.YtmgjicgojlkpcaaGreatDoor
open Go

theorem shift_len (b : Nat) (l : List NodeD) : (shiftN b l).length = l.length := by unfold shiftN; simp
theorem row_cons (a : List NodeD) (ls : List (List NodeD)) : (rowT (a :: ls)).length = a.length + (rowT ls).length := by rw [rowT, List.length_append, shift_len]
theorem row_app : ∀ (ls ms : List (List NodeD)), (rowT (ls ++ ms)).length = (rowT ls).length + (rowT ms).length
  | [], ms => by simp [rowT]
  | l :: ls, ms => by rw [List.cons_append, row_cons, row_cons, row_app ls ms]; omega
theorem tree_len (k n m : Int) (s : ByteArray) (nums : List Int) (ls : List (List NodeD)) : (treeN k n m s nums ls).length = (rowT ls).length + 1 := by unfold treeN; simp
theorem row_one (t : List NodeD) : (rowT [t]).length = t.length := by rw [row_cons]; simp [rowT]
theorem leafN_len (k n m : Int) : (leafN k n m).length = 1 := by unfold leafN; rw [tree_len]; simp [rowT]
theorem leafS_len (k : Int) (s : ByteArray) : (leafS k s).length = 1 := by unfold leafS; rw [tree_len]; simp [rowT]

/-- One tree, with a root. -/
def OneT (l : List (List NodeD)) : Prop := ∃ t, l = [t] ∧ 0 < t.length

theorem OneT.tree (k n m : Int) (s : ByteArray) (nums : List Int) (ls : List (List NodeD)) : OneT [treeN k n m s nums ls] := ⟨_, rfl, by rw [tree_len]; omega⟩

/-- What reading that goes well has brought: one tree where o is true; with s more, d nodes more than four a token at most. -/
def Fair (X : Seen) (i s d : Nat) (o : Bool) (x : Option Res) : Prop := ∀ q l, x = some (true, q, l) → i ≤ q ∧ q ≤ X.len ∧ (rowT l).length + s ≤ 4 * (q - i) + d ∧ (o = true → OneT l)

section
variable {X : Seen}

theorem Fair.ok {i s d q : Nat} {o : Bool} {l : List (List NodeD)} (h1 : i ≤ q) (h2 : q ≤ X.len) (h3 : (rowT l).length + s ≤ 4 * (q - i) + d) (h4 : o = true → OneT l) : Fair X i s d o (okR q l) := fun q' l' e => by
  unfold okR at e
  cases e
  exact ⟨h1, h2, h3, h4⟩
theorem Fair.bad {i s d q : Nat} {o : Bool} : Fair X i s d o (badR q) := fun q' l' e => by unfold badR at e; cases e
theorem Fair.bind {i s d : Nat} {o : Bool} {j sj dj st : Nat} {oj : Bool} {x : Option Res} {k : Nat → List (List NodeD) → Option Res} (hA : Adv X j st x) (h : Fair X j sj dj oj x) (hk : ∀ q l, j + st ≤ q → q ≤ X.len → (rowT l).length + sj ≤ 4 * (q - j) + dj → (oj = true → OneT l) → Fair X i s d o (k q l)) : Fair X i s d o (bindR x k) := by
  cases x with
  | none => intro q l e; cases e
  | some r =>
    obtain ⟨b, q, l⟩ := r
    cases b with
    | false => exact Fair.bad
    | true =>
      obtain ⟨h1, h2, h3, h4⟩ := h q l rfl
      exact hk q l (hA.q rfl).1 h2 h3 h4
theorem Fair.ite {c : Prop} [Decidable c] {i s d : Nat} {o : Bool} {x y : Option Res} (h1 : c → Fair X i s d o x) (h2 : ¬ c → Fair X i s d o y) : Fair X i s d o (if c then x else y) := by
  split
  · exact h1 ‹_›
  · exact h2 ‹_›
theorem Fair.back {i j s d s' e : Nat} {o : Bool} {x : Option Res} (h : Fair X j s d o x) (hi : i ≤ j) (hd : 4 * i + d + s' ≤ 4 * j + e + s) : Fair X i s' e o x := fun q l he => by
  obtain ⟨h1, h2, h3, h4⟩ := h q l he
  exact ⟨by omega, h2, by omega, h4⟩
theorem Fair.any {i s d : Nat} {o : Bool} {x : Option Res} (h : Fair X i s d o x) : Fair X i s d false x := fun q l he => by
  obtain ⟨h1, h2, h3, h4⟩ := h q l he
  exact ⟨h1, h2, h3, fun e => by cases e⟩

/-- How many nodes more, by the mode. -/
def moreM (m : Nat) (a : List NodeD) : Nat := if m = 1 then a.length else if m = 2 then 1 else 0
def slackM (m : Nat) : Nat := if m = 1 ∨ m = 2 then 0 else 1
def oneM (m : Nat) : Bool := decide (m = 0 ∨ m = 1 ∨ m = 3 ∨ m = 5 ∨ m = 6)

/-- What is known of the reading of a mode. -/
structure Knows (X : Seen) (R : Nat → Nat → List NodeD → Option Res) : Prop where
  adv : ∀ m i a, i ≤ X.len → Adv X i (stepsM m) (R m i a)
  fair : ∀ m i a, i ≤ X.len → (m = 1 → 0 < a.length) → Fair X i (slackM m) (moreM m a) (oneM m) (R m i a)

section
variable {R : Nat → Nat → List NodeD → Option Res}

theorem one_head {l : List (List NodeD)} (h : OneT l) : (rowT l).length = (l.headD []).length ∧ l = [l.headD []] ∧ 0 < (l.headD []).length := by
  obtain ⟨t, rfl, ht⟩ := h
  exact ⟨row_one t, rfl, ht⟩

theorem Knows.m0 (K : Knows X R) {i : Nat} (hi : i ≤ X.len) : Fair X i 1 0 true (R 0 i []) := K.fair 0 i [] hi (fun h => by cases h)
theorem Knows.m3 (K : Knows X R) {i : Nat} (hi : i ≤ X.len) : Fair X i 1 0 true (R 3 i []) := K.fair 3 i [] hi (fun h => by cases h)
theorem Knows.m2 (K : Knows X R) {i : Nat} (hi : i ≤ X.len) : Fair X i 0 1 false (R 2 i []) := K.fair 2 i [] hi (fun h => by cases h)
theorem Knows.m1 (K : Knows X R) {i : Nat} (a : List NodeD) (hi : i ≤ X.len) (ha : 0 < a.length) : Fair X i 0 a.length true (R 1 i a) := K.fair 1 i a hi (fun _ => ha)
theorem Knows.a0 (K : Knows X R) {i : Nat} (hi : i ≤ X.len) : Adv X i 1 (R 0 i []) := K.adv 0 i [] hi
theorem Knows.a3 (K : Knows X R) {i : Nat} (hi : i ≤ X.len) : Adv X i 1 (R 3 i []) := K.adv 3 i [] hi
theorem Knows.a2 (K : Knows X R) {i : Nat} (hi : i ≤ X.len) : Adv X i 0 (R 2 i []) := K.adv 2 i [] hi
theorem Knows.a1 (K : Knows X R) {i : Nat} (a : List NodeD) (hi : i ≤ X.len) : Adv X i 0 (R 1 i a) := K.adv 1 i a hi

theorem rest_fair (K : Knows X R) {i q d : Nat} (a : List NodeD) (ha : 0 < a.length) (hi : i ≤ q) (hq : q ≤ X.len) (hd : a.length + 1 ≤ 4 * (q - i) + d) : Fair X i 1 d true (restS X R q a) := by
  refine Fair.ite (fun _ => ?_) fun _ => Fair.ok hi hq (by rw [row_one]; exact hd) fun _ => ⟨a, rfl, ha⟩
  refine Fair.bind (K.a3 hq) (K.m3 hq) fun q2 g h1 h2 h3 _ => Fair.bind (K.a0 h2) (K.m0 h2) fun q3 b h4 h5 h6 _ => Fair.ok (by omega) h5 ?_ fun _ => OneT.tree _ _ _ _ _ _
  rw [row_one, tree_len, row_cons, row_app]
  omega

theorem from_fair (K : Knows X R) {i q d : Nat} (a : List NodeD) (ha : 0 < a.length) (hi : i ≤ q) (hq : q ≤ X.len) (hd : a.length + 1 ≤ 4 * (q - i) + d) : Fair X i 1 d true (fromS X R q a) := by
  refine Fair.bind (K.a1 a hq) (K.m1 a hq ha) fun q2 l h1 h2 h3 h4 => ?_
  obtain ⟨g1, g2, g3⟩ := one_head (h4 rfl)
  exact rest_fair K _ g3 (by omega) h2 (by omega)

theorem leaf_fair (hE : X.Ends) {i c : Nat} {t : List NodeD} (h : X.cl i = c) (hc : c ≠ 0) (ht : t.length = 1) : Fair X i 1 0 true (okR (i + 1) [t]) := Fair.ok (by omega) (hE i (by rw [h]; exact hc)) (by rw [row_one]; omega) fun _ => ⟨t, rfl, by omega⟩

theorem atom_fair (hE : X.Ends) (K : Knows X R) {i : Nat} (hi : i ≤ X.len) : Fair X i 1 0 true (atomS X R i) := by
  refine Fair.ite (fun h1 => ?_) fun _ => Fair.ite (fun h => ?_) fun _ => Fair.ite (fun h => leaf_fair hE h (by decide) (leafS_len _ _)) fun _ => Fair.ite (fun h => leaf_fair hE h (by decide) (leafS_len _ _)) fun _ => Fair.ite (fun h => leaf_fair hE h (by decide) (leafN_len _ _ _)) fun _ => Fair.ite (fun h => leaf_fair hE h (by decide) (leafN_len _ _ _)) fun _ => Fair.ite (fun h => leaf_fair hE h (by decide) (leafN_len _ _ _)) fun _ => Fair.bad
  · have := nums_one h1 X.len
    refine Fair.ok (by omega) (nums_some hE _ _ hi) ?_ fun _ => OneT.tree _ _ _ _ _ _
    rw [row_one, tree_len]
    simp [rowT]
    omega
  · have hl := hE i (by rw [h]; decide)
    refine Fair.bind (K.a0 hl) (K.m0 hl) fun q l h1 h2 h3 h4 => Fair.ite (fun h5 => Fair.ok (by omega) (hE q (by rw [h5]; decide)) (by omega) h4) fun _ => Fair.bad

theorem expr_fair (hE : X.Ends) (K : Knows X R) {i : Nat} (hi : i ≤ X.len) : Fair X i 1 0 true (exprS X R i) := by
  refine Fair.ite (fun _ => ?_) fun _ => ?_
  · refine Fair.bind (K.a3 hi) (K.m3 hi) fun q2 g h1 h2 h3 _ => Fair.bind (K.a0 h2) (K.m0 h2) fun q3 b h4 h5 h6 _ => Fair.ok (by omega) h5 ?_ fun _ => OneT.tree _ _ _ _ _ _
    rw [row_one, tree_len, row_app]
    omega
  · refine Fair.bind (atom_adv hE K.adv hi) (atom_fair hE K hi) fun q l h1 h2 h3 h4 => ?_
    obtain ⟨g1, g2, g3⟩ := one_head (h4 rfl)
    exact from_fair K _ g3 (by omega) h2 (by omega)

theorem idx_fair (hE : X.Ends) (K : Knows X R) {i : Nat} (a : List NodeD) (ha : 0 < a.length) (hi : i ≤ X.len) : Fair X i 0 a.length true (idxS X R i a) := by
  refine Fair.ite (fun h => ?_) fun _ => Fair.ok (Nat.le_refl _) hi (by rw [row_one]; omega) fun _ => ⟨a, rfl, ha⟩
  have hl := hE i (by rw [h]; decide)
  refine Fair.bind (K.a2 hl) (K.m2 hl) fun q l h1 h2 h3 _ => Fair.ite (fun h4 => ?_) fun _ => Fair.bad
  have h5 := hE q (by rw [h4]; decide)
  have ht : (treeN 7 0 0 nilS [] (a :: l)).length = a.length + (rowT l).length + 1 := by rw [tree_len, row_cons]
  exact (K.m1 (treeN 7 0 0 nilS [] (a :: l)) h5 (by omega)).back (by omega) (by omega)

theorem parts_fair (hE : X.Ends) (K : Knows X R) {i : Nat} (hi : i ≤ X.len) : Fair X i 0 1 false (partsS X R i) := by
  have hp : Fair X i 0 1 false (if X.cl i = 59 ∨ X.cl i = 93 then okR i [leafN 8 0 0] else R 0 i []) := Fair.ite (fun _ => Fair.ok (Nat.le_refl _) hi (by rw [row_one, leafN_len]; omega) fun h => by cases h) fun _ => ((K.m0 hi).any).back (Nat.le_refl _) (by omega)
  have ha : Adv X i 0 (if X.cl i = 59 ∨ X.cl i = 93 then okR i [leafN 8 0 0] else R 0 i []) := Adv.ite (fun _ => Adv.ok (Nat.le_refl _) hi (by simp)) fun _ => (K.a0 hi).weak (by omega)
  refine Fair.bind ha hp fun q l h1 h2 h3 _ => Fair.ite (fun h => ?_) fun _ => Fair.ok (by omega) h2 (by omega) fun h => by cases h
  have h4 := hE q (by rw [h]; decide)
  refine Fair.bind (K.a2 h4) (K.m2 h4) fun q2 l2 h5 h6 h7 _ => Fair.ok (by omega) h6 ?_ fun h => by cases h
  rw [row_app]
  omega

theorem scal_fair (hE : X.Ends) {i n : Nat} (hi : i + 1 ≤ X.len) : Fair X i 1 0 true (scalS X (i + 1) n) := by
  have one : ∀ {c q : Nat} {t : List NodeD}, i + 1 ≤ q → q ≤ X.len → t.length = 1 → c = c → Fair X i 1 0 true (okR q [t]) := fun {c q t} h1 h2 ht _ => Fair.ok (by omega) h2 (by rw [row_one]; omega) fun _ => ⟨t, rfl, by omega⟩
  have two : ∀ {c : Nat} {t : List NodeD}, X.cl (i + 1) = c → c ≠ 0 → t.length = 1 → Fair X i 1 0 true (okR (i + 1 + 1) [t]) := fun {c t} h hc ht => one (c := 0) (by omega) (hE (i + 1) (by rw [h]; exact hc)) ht rfl
  refine Fair.ite (fun h => two h (by decide) (leafN_len _ _ _)) fun _ => Fair.ite (fun h => two h (by decide) (leafN_len _ _ _)) fun _ => Fair.ite (fun h => two h (by decide) (leafN_len _ _ _)) fun _ => Fair.ite (fun h => two h (by decide) (leafN_len _ _ _)) fun _ => Fair.ite (fun h => Fair.ite (fun h3 => one (c := 0) (by omega) (scal_some hE h3) (leafN_len _ _ _) rfl) fun _ => Fair.bad) fun _ => one (c := 0) (Nat.le_refl _) hi (leafN_len _ _ _) rfl

theorem K4 (K : Knows X R) {i : Nat} (hi : i ≤ X.len) : Fair X i 1 0 false (R 4 i []) := K.fair 4 i [] hi (fun h => by cases h)

theorem braces_fair (hE : X.Ends) (K : Knows X R) {i : Nat} (h : X.cl i = 123) : Fair X i 1 0 true (bracesS X R i) := by
  have hl := hE i (by rw [h]; decide)
  refine Fair.ite (fun h2 => Fair.ok (by omega) (hE (i + 1) (by rw [h2]; decide)) (by rw [row_one, leafN_len]; omega) fun _ => OneT.tree _ _ _ _ _ _) fun _ => ?_
  refine Fair.bind (K.adv 4 (i + 1) [] hl) (K4 K hl) fun q l h1 h2 h3 _ => Fair.ite (fun h5 => Fair.ok (by omega) (hE q (by rw [h5]; decide)) (by rw [row_one, tree_len]; omega) fun _ => OneT.tree _ _ _ _ _ _) fun _ => Fair.bad

theorem fn_fair (hE : X.Ends) (K : Knows X R) {i : Nat} : Fair X i 1 0 true (fnS X R i) := by
  refine Fair.ite (fun h => scal_fair hE (scal_some hE h)) fun _ => Fair.ite (fun _ => Fair.ite (fun _ => Fair.ite (fun h4 => Fair.ok (by omega) (scal_some hE h4) (by rw [row_one, leafN_len]; omega) fun _ => OneT.tree _ _ _ _ _ _) fun _ => Fair.bad) fun _ => Fair.bad) fun _ => Fair.ite (fun h => braces_fair hE K h) fun _ => Fair.ite (fun h => leaf_fair hE h (by decide) (leafS_len _ _)) fun _ => Fair.ite (fun h => leaf_fair hE h (by decide) (leafN_len _ _ _)) fun _ => Fair.ite (fun h => Fair.ok (by omega) (prim_some hE h) (by rw [row_one, leafN_len]; omega) fun _ => OneT.tree _ _ _ _ _ _) fun _ => Fair.bad

theorem items_fair (hE : X.Ends) (K : Knows X R) (m m' : Nat) (hm : m = 5 ∨ m = 6) (hm' : m' = 4 ∨ m' = 7) {i : Nat} (hi : i ≤ X.len) : Fair X i 1 0 false (bindR (R m i []) fun q l => if X.cl q = 8900 then bindR (R m' (q + 1) []) fun q2 l2 => okR q2 (l ++ l2) else okR q l) := by
  have f : ∀ {j : Nat}, j ≤ X.len → Fair X j 1 0 true (R m j []) := fun {j} hj => by rcases hm with rfl | rfl <;> exact K.fair _ j [] hj (fun h => by cases h)
  have f' : ∀ {j : Nat}, j ≤ X.len → Fair X j 1 0 false (R m' j []) := fun {j} hj => by rcases hm' with rfl | rfl <;> exact K.fair _ j [] hj (fun h => by cases h)
  refine Fair.bind (K.adv m i [] hi) (f hi) fun q l h1 h2 h3 _ => Fair.ite (fun h => ?_) fun _ => Fair.ok (by omega) h2 (by omega) fun h => by cases h
  have h4 := hE q (by rw [h]; decide)
  refine Fair.bind (K.adv m' (q + 1) [] h4) (f' h4) fun q2 l2 h5 h6 h7 _ => Fair.ok (by omega) h6 ?_ fun h => by cases h
  rw [row_app]
  omega

theorem K5 (K : Knows X R) {i : Nat} (hi : i ≤ X.len) : Fair X i 1 0 true (R 5 i []) := K.fair 5 i [] hi (fun h => by cases h)

theorem item_fair (hE : X.Ends) (K : Knows X R) {i : Nat} (hi : i ≤ X.len) : Fair X i 1 0 true (itemS X R i) := by
  refine Fair.bind (K.adv 5 i [] hi) (K5 K hi) fun q l h1 h2 h3 h4 => Fair.ite (fun h => ?_) fun _ => Fair.ok (by omega) h2 (by omega) h4
  have h5 := hE q (by rw [h.2]; decide)
  refine Fair.bind (K.a0 h5) (K.m0 h5) fun q2 l2 h6 h7 h8 _ => Fair.ok (by omega) h7 ?_ fun _ => OneT.tree _ _ _ _ _ _
  rw [row_one, tree_len, row_app]
  omega

theorem end_fair (K : Knows X R) {i j : Nat} (k n : Int) (s : ByteArray) (ls : List (List NodeD)) (hij : i ≤ j) (hj : j ≤ X.len) (hl : (rowT ls).length + 1 ≤ 4 * (j - i)) : Fair X i 1 0 true (endS R k n s ls j) := by
  refine Fair.bind (K.a0 hj) (K.m0 hj) fun q b h1 h2 h3 _ => Fair.ok (by omega) h2 ?_ fun _ => OneT.tree _ _ _ _ _ _
  rw [row_one, tree_len, row_app]
  omega

theorem stmt_fair (hE : X.Ends) (K : Knows X R) {i : Nat} (hi : i ≤ X.len) : Fair X i 1 0 true (stmtS X R i) := by
  have n0 : (rowT []).length = 0 := rfl
  refine Fair.ite (fun h => ?_) fun _ => Fair.ite (fun h => ?_) fun _ => Fair.ite (fun h => ?_) fun _ => Fair.ite (fun h => ?_) fun _ => Fair.ite (fun h => ?_) fun _ => K.m0 hi
  · refine Fair.ite (fun h2 => ?_) fun _ => Fair.bad
    refine Fair.bind (braces_adv hE K.adv h2) (braces_fair hE K h2) fun q l h1 h3 h4 _ => Fair.ok (by omega) h3 ?_ fun _ => OneT.tree _ _ _ _ _ _
    rw [row_one, tree_len]
    omega
  · exact end_fair K _ _ _ _ (by omega) (hE (i + 1) (by rw [h.2]; decide)) (by omega)
  · exact end_fair K _ _ _ _ (by omega) (hE (i + 2) (by rw [h.2.2]; decide)) (by omega)
  · have h1 := hE (i + 1) (by rw [h.2.1]; decide)
    refine Fair.bind (K.a2 h1) (K.m2 h1) fun q l h2 h3 h4 _ => Fair.ite (fun h5 => Fair.ite (fun h6 => ?_) fun _ => Fair.bad) fun _ => Fair.bad
    exact end_fair K _ _ _ _ (by omega) (hE (q + 1) (by rw [h6]; decide)) (by omega)
  · have h1 := hE i (by rw [h]; decide)
    refine Fair.bind (K.a0 h1) (K.m0 h1) fun q l h2 h3 h4 h4' => Fair.ite (fun h5 => ?_) fun _ => Fair.bad
    have h6 := hE q (by rw [h5]; decide)
    refine Fair.ite (fun h7 => Fair.ite (fun _ => end_fair K _ _ _ _ (by omega) (hE (q + 1) (by rw [h7]; decide)) (by omega)) fun _ => Fair.bad) fun _ => ?_
    obtain ⟨g1, g2, g3⟩ := one_head (h4' rfl)
    exact from_fair K _ g3 (by omega) h6 (by omega)

end

theorem prs_knows (hE : X.Ends) : ∀ f, Knows X (prs X f)
  | 0 => ⟨prs_adv hE 0, fun _ _ _ _ _ => fun _ _ e => by cases e⟩
  | f + 1 => by
    have K := prs_knows hE f
    refine ⟨prs_adv hE (f + 1), fun m i a hi ha => ?_⟩
    rw [prs]
    by_cases h0 : m = 0
    · rw [if_pos h0]; subst h0; exact expr_fair hE K hi
    rw [if_neg h0]
    by_cases h1 : m = 1
    · rw [if_pos h1]; subst h1; exact idx_fair hE K a (ha rfl) hi
    rw [if_neg h1]
    by_cases h2 : m = 2
    · rw [if_pos h2]; subst h2; exact parts_fair hE K hi
    rw [if_neg h2]
    have hs : slackM m = 1 := by unfold slackM; rw [if_neg (by omega)]
    have hm : moreM m a = 0 := by unfold moreM; rw [if_neg h1, if_neg h2]
    rw [hs, hm]
    by_cases h3 : m = 3
    · rw [if_pos h3]; subst h3; exact fn_fair hE K
    rw [if_neg h3]
    by_cases h4 : m = 4
    · rw [if_pos h4]; subst h4; exact items_fair hE K 6 4 (.inr rfl) (.inl rfl) hi
    rw [if_neg h4]
    by_cases h5 : m = 5
    · rw [if_pos h5]; subst h5; exact stmt_fair hE K hi
    rw [if_neg h5]
    by_cases h6 : m = 6
    · rw [if_pos h6]; subst h6; exact item_fair hE K hi
    rw [if_neg h6]
    have ho : oneM m = false := by unfold oneM; rw [decide_eq_false (by omega)]
    rw [ho]
    exact items_fair hE K 5 7 (.inl rfl) (.inr rfl) hi

end
end Go.Proofs.YtmgjicgojlkpcaaGreatDoor
