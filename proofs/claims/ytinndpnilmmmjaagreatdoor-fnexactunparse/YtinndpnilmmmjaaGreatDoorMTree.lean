import Derived.Test.YtinndpnilmmmjaaGreatDoorMRune
namespace Go.Proofs.YtinndpnilmmmjaaGreatDoor
open Go

/-- A node: its kind, its two numbers, its text, its lists. -/
structure NodeD where
  k : Int
  n : Int
  m : Int
  s : ByteArray
  nums : List Int
  kids : List Int

def nodeZ : NodeD := ⟨0, 0, 0, ⟨#[]⟩, [], []⟩
def node (ns : List NodeD) (i : Nat) : NodeD := ns.getD i nodeZ

/-- The sort of a kind. -/
def sortK (k : Int) : Int :=
  if (1 ≤ k ∧ k ≤ 7) ∨ k = 9 ∨ k = 10 then 1 else if k = 8 then 2 else if 11 ≤ k ∧ k ≤ 18 then 3
  else if 19 ≤ k ∧ k ≤ 23 then 4 else if k = 24 then 5 else if k = 25 then 6 else 0

def isE (k : Int) : Bool := decide (sortK k = 1)
def isP (k : Int) : Bool := decide (sortK k = 1 ∨ sortK k = 2)
def isF (k : Int) : Bool := decide (sortK k = 3)
def isB (k : Int) : Bool := decide (k = 16)
def isS (k : Int) : Bool := decide (sortK k = 1 ∨ sortK k = 4)
def isI (k : Int) : Bool := decide (sortK k = 1 ∨ sortK k = 4 ∨ sortK k = 5)

def isK (c : Nat) : Int → Bool := if c = 101 then isE else if c = 112 then isP else if c = 102 then isF else if c = 98 then isB else if c = 115 then isS else isI

/-- The kinds of the nodes at these places. -/
def kinds (ns : List NodeD) (zs : List Int) : List Int := zs.map fun z => (node ns z.toNat).k

/-- What the kids of a kind are, where their number is fixed. -/
def shapeK (k : Int) : List Nat :=
  if k = 9 then [102, 101] else if k = 10 then [101, 102, 101] else if k = 19 ∨ k = 22 then [101] else if k = 20 then [98] else if k = 23 ∨ k = 24 then [101, 101] else []

def fits : List Nat → List Int → Bool
  | [], [] => true
  | c :: cs, x :: xs => isK c x && fits cs xs
  | _, _ => false

/-- The kinds of kids fit the kind of a node. -/
def kidsB (k : Int) (ks : List Int) : Bool :=
  if k = 7 then decide (2 ≤ ks.length) && (isE (ks.getD 0 0) && (ks.drop 1).all isP)
  else if k = 21 then decide (2 ≤ ks.length) && ((ks.take (ks.length - 1)).all isP && isE (ks.getD (ks.length - 1) 0))
  else if k = 16 then ks.all isI
  else if k = 25 then ks.all isS
  else fits (shapeK k) ks

/-- The same as the developers ask it; sel: the first kid is a selection. -/
def kidsI (k : Int) (ks : List Int) (sel : Bool) : Bool :=
  if k = 7 then decide (2 ≤ ks.length) && ((ks.take 1).all isE && (ks.drop 1).all isP)
  else if k = 9 then decide (ks.length = 2) && ((ks.take 1).all isF && (ks.drop 1).all isE)
  else if k = 10 then decide (ks.length = 3) && ((ks.take 1).all isE && (((ks.take 2).drop 1).all isF && (ks.drop 2).all isE))
  else if k = 16 then ks.all isI
  else if k = 19 ∨ k = 22 then decide (ks.length = 1) && ks.all isE
  else if k = 20 then decide (ks.length = 1) && ks.all isB
  else if k = 21 then decide (2 ≤ ks.length) && ((ks.take (ks.length - 1)).all isP && (ks.drop (ks.length - 1)).all isE)
  else if k = 23 then decide (ks.length = 2) && (sel && (ks.drop 1).all isE)
  else if k = 24 then decide (ks.length = 2) && ks.all isE
  else if k = 25 then ks.all isS
  else decide (ks.length = 0)

theorem kfit0 (ks : List Int) : fits [] ks = decide (ks.length = 0) := by cases ks <;> simp [fits]
theorem kfit1 (c : Nat) (ks : List Int) : fits [c] ks = (decide (ks.length = 1) && ks.all (isK c)) := by
  match ks with
  | [] => rfl
  | [a] => simp [fits]
  | a :: b :: r => simp [fits]
theorem kfit2 (c d : Nat) (ks : List Int) : fits [c, d] ks = (decide (ks.length = 2) && ((ks.take 1).all (isK c) && (ks.drop 1).all (isK d))) := by
  match ks with
  | [] => rfl
  | [a] => simp [fits]
  | [a, b] => simp [fits]
  | a :: b :: e :: r => simp [fits]
theorem kfit3 (c d e : Nat) (ks : List Int) : fits [c, d, e] ks = (decide (ks.length = 3) && ((ks.take 1).all (isK c) && (((ks.take 2).drop 1).all (isK d) && (ks.drop 2).all (isK e)))) := by
  match ks with
  | [] => rfl
  | [a] => simp [fits]
  | [a, b] => simp [fits]
  | [a, b, x] => simp [fits]
  | a :: b :: x :: y :: r => simp [fits]

theorem isK_e : isK 101 = isE := rfl
theorem isK_f : isK 102 = isF := rfl
theorem isK_b : isK 98 = isB := rfl

theorem drop_last_all (ks : List Int) (p : Int → Bool) (h : 2 ≤ ks.length) : (ks.drop (ks.length - 1)).all p = p (ks.getD (ks.length - 1) 0) := by
  have e : ks.drop (ks.length - 1) = [ks[ks.length - 1]] := by
    rw [List.drop_eq_getElem_cons (by omega), show ks.length - 1 + 1 = ks.length by omega, List.drop_length]
  rw [e]
  simp [List.getD_eq_getElem?_getD, show ks.length - 1 < ks.length by omega]

theorem kids_eq {k : Int} {ks : List Int} {sel : Bool} (hs : sel = true → ks.length = 2 → isE (ks.getD 0 0) = true) : kidsI k ks sel = (kidsB k ks && (decide (k ≠ 23) || sel)) := by
  unfold kidsI kidsB
  by_cases h7 : k = 7
  · subst h7
    simp only [if_true]
    match ks with
    | [] => rfl
    | a :: r => simp
  rw [if_neg h7, if_neg h7]
  by_cases h9 : k = 9
  · subst h9
    simp only [if_true, show ¬ (9 : Int) = 21 by decide, show ¬ (9 : Int) = 16 by decide, show ¬ (9 : Int) = 25 by decide, if_false, shapeK, kfit2, isK_f, isK_e]
    simp
  rw [if_neg h9]
  by_cases h10 : k = 10
  · subst h10
    simp only [if_true, show ¬ (10 : Int) = 21 by decide, show ¬ (10 : Int) = 16 by decide, show ¬ (10 : Int) = 25 by decide, show ¬ (10 : Int) = 9 by decide, if_false, shapeK, kfit3, isK_f, isK_e]
    simp
  rw [if_neg h10]
  by_cases h16 : k = 16
  · subst h16
    simp
  rw [if_neg h16, if_neg h16]
  by_cases h19 : k = 19 ∨ k = 22
  · have h21 : ¬ k = 21 := by omega
    have h25 : ¬ k = 25 := by omega
    have h23 : k ≠ 23 := by omega
    rw [if_pos h19, if_neg h21, if_neg h25, shapeK, if_neg h9, if_neg h10, if_pos h19, kfit1, isK_e, decide_eq_true h23]
    simp
  rw [if_neg h19]
  by_cases h20 : k = 20
  · subst h20
    simp only [if_true, show ¬ (20 : Int) = 21 by decide, show ¬ (20 : Int) = 25 by decide, show ¬ (20 : Int) = 9 by decide, show ¬ (20 : Int) = 10 by decide, if_false, shapeK, show ¬ ((20 : Int) = 19 ∨ (20 : Int) = 22) by decide, kfit1, isK_b]
    simp
  rw [if_neg h20]
  by_cases h21 : k = 21
  · subst h21
    simp only [if_true]
    by_cases hl : 2 ≤ ks.length
    · rw [drop_last_all ks isE hl]; simp
    · rw [decide_eq_false hl]; simp
  rw [if_neg h21, if_neg h21]
  by_cases h23 : k = 23
  · subst h23
    simp only [if_true, show ¬ (23 : Int) = 25 by decide, if_false, show shapeK 23 = [101, 101] from rfl, kfit2, isK_e]
    match ks, hs with
    | [], _ => simp
    | [a], _ => simp
    | [a, b], hs =>
      have := fun h => hs h rfl
      cases sel
      · simp
      · have e := this rfl
        simp at e
        simp [e]
    | a :: b :: e :: r, _ => simp
  rw [if_neg h23]
  by_cases h24 : k = 24
  · subst h24
    simp only [if_true, show ¬ (24 : Int) = 25 by decide, if_false, show shapeK 24 = [101, 101] from rfl, kfit2, isK_e]
    match ks with
    | [] => simp
    | [a] => simp
    | [a, b] => simp
    | a :: b :: e :: r => simp
  rw [if_neg h24]
  by_cases h25 : k = 25
  · subst h25
    simp
  rw [if_neg h25, if_neg h25, shapeK, if_neg h9, if_neg h10, if_neg h19, if_neg h20, if_neg (by omega), kfit0, decide_eq_true h23]
  simp

/-- A text is a name, of the high ones or of the low ones. -/
def nameB (s : ByteArray) (hi : Bool) : Bool := decide (1 ≤ s.size ∧ s.size ≤ 20 ∧ isL (bt s 0) = true ∧ ∀ i, i < s.size → isLD (bt s i) = true) && (decide (bt s 0 ≤ 90) == hi)

def isNum (z : Int) : Bool := decide (-1000000000000000 ≤ z ∧ z ≤ 1000000000000000)

def mostK (k : Int) : Int := if k = 11 then 33 else if (12 ≤ k ∧ k ≤ 15) ∨ k = 22 then 16 else 0
def marksK (k : Int) : Int := if k = 12 ∨ k = 13 then 1 else 0
def named (k : Int) : Prop := k = 3 ∨ k = 17 ∨ (19 ≤ k ∧ k ≤ 22)

/-- The fields of a node are right, as the specification asks it; T: a text can be written. -/
def fieldsS (T : ByteArray → Bool) (x : NodeD) : Bool :=
  if x.k = 1 then x.nums.all isNum && decide (0 < x.nums.length ∧ x.n = 0 ∧ x.m = 0 ∧ x.s.size = 0)
  else if 0 < x.nums.length then false
  else if x.k = 2 then decide (x.n = 0 ∧ x.m = 0) && T x.s
  else if (x.k = 3 ∨ x.k = 17 ∨ (19 ≤ x.k ∧ x.k ≤ 22)) ∧ nameB x.s (decide (x.k = 17 ∨ x.k = 20)) = false then false
  else if ¬ (x.k = 3 ∨ x.k = 17 ∨ (19 ≤ x.k ∧ x.k ≤ 22)) ∧ x.s.size ≠ 0 then false
  else if x.k = 15 then decide (1 ≤ x.n ∧ x.n ≤ 16 ∧ 1 ≤ x.m ∧ x.m ≤ 16)
  else decide (x.n ≤ mostK x.k ∧ (1 ≤ x.n ∨ (mostK x.k = 0 ∧ x.n = 0)) ∧ 0 ≤ x.m ∧ x.m ≤ marksK x.k)

def isSc (n : Int) : Bool := decide (1 ≤ n ∧ n ≤ 16)

def okN (x : NodeD) : Bool := if x.k = 22 ∨ (12 ≤ x.k ∧ x.k ≤ 15) then isSc x.n else if x.k = 11 then decide (1 ≤ x.n ∧ x.n ≤ 33) else decide (x.n = 0)
def okM (x : NodeD) : Bool := if x.k = 12 ∨ x.k = 13 then decide (0 ≤ x.m ∧ x.m ≤ 1) else if x.k = 15 then isSc x.m else decide (x.m = 0)
def okS (T : ByteArray → Bool) (x : NodeD) : Bool := if x.k = 2 then T x.s else if x.k = 3 ∨ x.k = 19 ∨ x.k = 21 ∨ x.k = 22 then nameB x.s false else if x.k = 17 ∨ x.k = 20 then nameB x.s true else decide (x.s.size = 0)
def okNums (x : NodeD) : Bool := if x.k = 1 then x.nums.all isNum && decide (0 < x.nums.length) else decide (x.nums.length = 0)

/-- The same as the developers ask it. -/
def fieldsI (T : ByteArray → Bool) (x : NodeD) : Bool := okN x && (okM x && (okS T x && okNums x))

theorem fields_eq (T : ByteArray → Bool) (x : NodeD) : fieldsI T x = fieldsS T x := by
  obtain ⟨k, n, m, s, nums, kids⟩ := x
  unfold fieldsI fieldsS okN okM okS okNums
  dsimp only
  by_cases h1 : k = 1
  · subst h1
    simp
    cases nums.all isNum <;> cases h : decide (0 < nums.length) <;> simp_all <;> grind
  by_cases h2 : k = 2
  · subst h2
    cases T s <;> simp <;> by_cases hn : nums.length = 0 <;> simp_all <;> grind
  rw [if_neg h1, if_neg h1, if_neg h2, if_neg h2]
  by_cases hn : nums.length = 0
  case neg => rw [if_pos (show 0 < nums.length by omega), decide_eq_false hn]; simp
  rw [if_neg (show ¬ 0 < nums.length by omega), decide_eq_true hn, Bool.and_true]
  by_cases hm : k = 3 ∨ k = 17 ∨ (19 ≤ k ∧ k ≤ 22)
  · have e : (if k = 3 ∨ k = 19 ∨ k = 21 ∨ k = 22 then nameB s false else if k = 17 ∨ k = 20 then nameB s true else decide (s.size = 0)) = nameB s (decide (k = 17 ∨ k = 20)) := by
      by_cases hc : k = 17 ∨ k = 20
      · rw [if_neg (by omega), if_pos hc, decide_eq_true hc]
      · rw [if_pos (by omega), decide_eq_false hc]
    rw [e]
    generalize nameB s (decide (k = 17 ∨ k = 20)) = b
    cases b
    · rw [if_pos (show (k = 3 ∨ k = 17 ∨ (19 ≤ k ∧ k ≤ 22)) ∧ false = false from ⟨hm, rfl⟩)]; simp
    · rw [if_neg (show ¬ ((k = 3 ∨ k = 17 ∨ (19 ≤ k ∧ k ≤ 22)) ∧ true = false) from fun h => absurd h.2 (by decide)), if_neg (show ¬ (¬ (k = 3 ∨ k = 17 ∨ (19 ≤ k ∧ k ≤ 22)) ∧ s.size ≠ 0) from fun h => h.1 hm), if_neg (show ¬ k = 15 by omega), if_neg (show ¬ k = 15 by omega), if_neg (show ¬ (k = 12 ∨ k = 13) by omega)]
      unfold mostK marksK isSc
      rw [if_neg (show ¬ k = 11 by omega), if_neg (show ¬ k = 11 by omega), if_neg (show ¬ (k = 12 ∨ k = 13) by omega)]
      by_cases h22 : k = 22
      · rw [if_pos (show k = 22 ∨ (12 ≤ k ∧ k ≤ 15) from .inl h22), if_pos (show (12 ≤ k ∧ k ≤ 15) ∨ k = 22 from .inr h22)]
        rw [Bool.eq_iff_iff]; simp; omega
      · rw [if_neg (show ¬ (k = 22 ∨ (12 ≤ k ∧ k ≤ 15)) by omega), if_neg (show ¬ ((12 ≤ k ∧ k ≤ 15) ∨ k = 22) by omega)]
        rw [Bool.eq_iff_iff]; simp; omega
  · rw [if_neg (show ¬ ((k = 3 ∨ k = 17 ∨ (19 ≤ k ∧ k ≤ 22)) ∧ nameB s (decide (k = 17 ∨ k = 20)) = false) from fun h => hm h.1), if_neg (show ¬ (k = 3 ∨ k = 19 ∨ k = 21 ∨ k = 22) by omega), if_neg (show ¬ (k = 17 ∨ k = 20) by omega)]
    by_cases hs : s.size = 0
    case neg => rw [if_pos (show ¬ (k = 3 ∨ k = 17 ∨ (19 ≤ k ∧ k ≤ 22)) ∧ s.size ≠ 0 from ⟨hm, hs⟩), decide_eq_false hs]; simp
    rw [if_neg (show ¬ (¬ (k = 3 ∨ k = 17 ∨ (19 ≤ k ∧ k ≤ 22)) ∧ s.size ≠ 0) from fun h => h.2 hs), decide_eq_true hs, Bool.and_true]
    unfold mostK marksK isSc
    by_cases h15 : k = 15
    · subst h15
      rw [Bool.eq_iff_iff]; simp; omega
    rw [if_neg h15, if_neg h15]
    by_cases h11 : k = 11
    · subst h11
      rw [Bool.eq_iff_iff]; simp; omega
    rw [if_neg h11, if_neg h11]
    by_cases h12 : k = 12 ∨ k = 13
    · rw [if_pos h12, if_pos h12, if_pos (show k = 22 ∨ (12 ≤ k ∧ k ≤ 15) by omega), if_pos (show (12 ≤ k ∧ k ≤ 15) ∨ k = 22 by omega)]
      rw [Bool.eq_iff_iff]; simp; omega
    rw [if_neg h12, if_neg h12]
    by_cases h14 : k = 14
    · subst h14
      rw [Bool.eq_iff_iff]; simp; omega
    rw [if_neg (show ¬ (k = 22 ∨ (12 ≤ k ∧ k ≤ 15)) by omega), if_neg (show ¬ ((12 ≤ k ∧ k ≤ 15) ∨ k = 22) by omega)]
    rw [Bool.eq_iff_iff]; simp; omega

end Go.Proofs.YtinndpnilmmmjaaGreatDoor
namespace Go.Proofs.YtinndpnilmmmjaaGreatDoor
open Go

/-- From the last kid on: where the stretch of a node begins, and how tall it is; st holds both for the nodes in front. -/
def goK (st : List (Nat × Nat)) (kids : List Int) : Nat → Nat → Nat → Option (Nat × Nat)
  | 0, a, hi => some (a, hi)
  | k + 1, a, hi => if 1 ≤ a ∧ kids.getD k 0 = (a : Int) - 1 then goK st kids k (st.getD (a - 1) (0, 0)).1 (max hi ((st.getD (a - 1) (0, 0)).2 + 1)) else none

/-- Both for the first nodes, when they stand in order. -/
def ordN (ns : List NodeD) : Nat → Option (List (Nat × Nat))
  | 0 => some []
  | i + 1 => match ordN ns i with
    | none => none
    | some st => match goK st (node ns i).kids (node ns i).kids.length i 0 with
      | none => none
      | some p => some (st ++ [p])

theorem ord_step {ns : List NodeD} {i : Nat} {st : List (Nat × Nat)} (h : ordN ns i = some st) : ordN ns (i + 1) = (goK st (node ns i).kids (node ns i).kids.length i 0).map (fun p => st ++ [p]) := by
  rw [ordN, h]
  dsimp only
  cases goK st (node ns i).kids (node ns i).kids.length i 0 <;> rfl

theorem ord_none {ns : List NodeD} {i : Nat} (h : ordN ns i = none) : ∀ d, ordN ns (i + d) = none
  | 0 => h
  | d + 1 => by rw [← Nat.add_assoc, ordN, ord_none h d]

theorem ord_len {ns : List NodeD} : ∀ {i : Nat} {st : List (Nat × Nat)}, ordN ns i = some st → st.length = i
  | 0, st, h => by rw [ordN] at h; cases h; rfl
  | i + 1, st, h => by
    cases h1 : ordN ns i with
    | none => rw [ordN, h1] at h; cases h
    | some st1 =>
      rw [ord_step h1] at h
      obtain ⟨p, _, e⟩ := Option.map_eq_some_iff.1 h
      rw [← e, List.length_append, ord_len h1]; rfl

theorem ord_prev {ns : List NodeD} {i : Nat} {st : List (Nat × Nat)} (h : ordN ns (i + 1) = some st) : ordN ns i = some (st.take i) ∧ goK (st.take i) (node ns i).kids (node ns i).kids.length i 0 = some (st.getD i (0, 0)) := by
  cases h1 : ordN ns i with
  | none => rw [ordN, h1] at h; cases h
  | some st1 =>
    rw [ord_step h1] at h
    obtain ⟨p, hp, e⟩ := Option.map_eq_some_iff.1 h
    have hl := ord_len h1
    subst e
    have e1 : (st1 ++ [p]).take i = st1 := by rw [← hl]; simp
    have e2 : (st1 ++ [p]).getD i (0, 0) = p := by rw [← hl]; simp
    rw [e1, e2]
    exact ⟨rfl, hp⟩

theorem ord_take {ns : List NodeD} {i : Nat} : ∀ (d : Nat) {st : List (Nat × Nat)}, ordN ns (i + d) = some st → ordN ns i = some (st.take i)
  | 0, st, h => by have := ord_len h; rw [List.take_of_length_le (by omega)]; exact h
  | d + 1, st, h => by
    have := ord_take d (ord_prev (i := i + d) h).1
    rw [List.take_take, Nat.min_eq_left (by omega)] at this
    exact this

theorem ord_at {ns : List NodeD} {n i : Nat} {st : List (Nat × Nat)} (h : ordN ns n = some st) (hi : i < n) : goK (st.take i) (node ns i).kids (node ns i).kids.length i 0 = some (st.getD i (0, 0)) := by
  have h1 : ordN ns (i + 1) = some (st.take (i + 1)) := ord_take (n - (i + 1)) (by rw [show i + 1 + (n - (i + 1)) = n by omega]; exact h)
  have h2 := (ord_prev h1).2
  rw [List.take_take, Nat.min_eq_left (by omega)] at h2
  rw [h2]
  simp [List.getD_eq_getElem?_getD]

/-- What the kids of a node in order are. -/
theorem goK_all {st : List (Nat × Nat)} {kids : List Int} (hst : ∀ j, j < st.length → (st.getD j (0, 0)).1 ≤ j) : ∀ (k a hi : Nat) (r : Nat × Nat), a ≤ st.length → goK st kids k a hi = some r →
    r.1 ≤ a ∧ hi ≤ r.2 ∧ (∀ q, q < k → 0 ≤ kids.getD q 0 ∧ kids.getD q 0 < a) ∧
    ∀ j, r.1 ≤ j → j < a → ∃ q z, q < k ∧ kids.getD q 0 = ((z : Nat) : Int) ∧ (st.getD z (0, 0)).1 ≤ j ∧ j ≤ z ∧ z < a ∧ (st.getD z (0, 0)).2 + 1 ≤ r.2
  | 0, a, hi, r, ha, h => by
    rw [goK] at h
    cases h
    exact ⟨Nat.le_refl _, Nat.le_refl _, fun q hq => by omega, fun j h1 h2 => by have : a ≤ j := h1; omega⟩
  | k + 1, a, hi, r, ha, h => by
    rw [goK] at h
    by_cases hc : 1 ≤ a ∧ kids.getD k 0 = (a : Int) - 1
    · rw [if_pos hc] at h
      have hle := hst (a - 1) (by omega)
      obtain ⟨i1, i2, i3, i4⟩ := goK_all hst k _ _ r (by omega) h
      refine ⟨by omega, by omega, fun q hq => ?_, fun j h1 h2 => ?_⟩
      · by_cases e : q = k
        · subst e; rw [hc.2]; omega
        · have := i3 q (by omega); omega
      · by_cases hj : j < (st.getD (a - 1) (0, 0)).1
        · obtain ⟨q, z, a1, a2, a3, a4, a5, a6⟩ := i4 j h1 hj
          exact ⟨q, z, by omega, a2, a3, a4, by omega, a6⟩
        · exact ⟨k, a - 1, by omega, by rw [hc.2]; omega, by omega, by omega, by omega, by omega⟩
    · rw [if_neg hc] at h; cases h

theorem ord_le {ns : List NodeD} : ∀ (n : Nat) {st : List (Nat × Nat)}, ordN ns n = some st → ∀ j, j < n → (st.getD j (0, 0)).1 ≤ j
  | 0, st, h, j, hj => by omega
  | n + 1, st, h, j, hj => by
    have hl := ord_len h
    have hp := ord_prev h
    have ih := ord_le n hp.1
    have e : ∀ j, j < n → (st.take n).getD j (0, 0) = st.getD j (0, 0) := fun j hj => by simp [List.getD_eq_getElem?_getD, hj]
    by_cases hjn : j < n
    · rw [← e j hjn]; exact ih j hjn
    · have hjn' : j = n := by omega
      subst hjn'
      exact (goK_all (fun i hi => ih i (by simp at hi; omega)) _ _ _ _ (by simp; omega) hp.2).1

theorem ord_kids {ns : List NodeD} {n i : Nat} {st : List (Nat × Nat)} (h : ordN ns n = some st) (hi : i < n) : ∀ q, q < (node ns i).kids.length → 0 ≤ (node ns i).kids.getD q 0 ∧ (node ns i).kids.getD q 0 < i := by
  have hl := ord_len h
  have hle := ord_le n h
  exact (goK_all (st := st.take i) (fun j hj => by
    have : j < i := by simp at hj; omega
    simp [List.getD_eq_getElem?_getD, this]
    have := hle j (by omega)
    simpa [List.getD_eq_getElem?_getD] using this) _ _ _ _ (by simp; omega) (ord_at h hi)).2.2.1

/-- What lies in a node's stretch is under it. -/
theorem ord_under {ns : List NodeD} {n : Nat} {st : List (Nat × Nat)} (h : ordN ns n = some st) : ∀ (B i : Nat), i < B → i < n → ∀ j, (st.getD i (0, 0)).1 ≤ j → j < i →
    (∃ p q, p < n ∧ q < (node ns p).kids.length ∧ (node ns p).kids.getD q 0 = ((j : Nat) : Int)) ∧ (st.getD j (0, 0)).2 < (st.getD i (0, 0)).2
  | 0, i, hB, _, j, _, _ => by omega
  | B + 1, i, hB, hi, j, h1, h2 => by
    have hl := ord_len h
    have hle := ord_le n h
    have e : ∀ j, j < i → (st.take i).getD j (0, 0) = st.getD j (0, 0) := fun j hj => by simp [List.getD_eq_getElem?_getD, hj]
    obtain ⟨q, z, a1, a2, a3, a4, a5, a6⟩ := (goK_all (st := st.take i) (fun j hj => by
      have hji : j < i := by simp at hj; omega
      rw [e j hji]; exact hle j (by omega)) _ _ _ _ (by simp; omega) (ord_at h hi)).2.2.2 j h1 h2
    rw [e z a5] at a3 a6
    by_cases hz : j = z
    · subst hz
      exact ⟨⟨i, q, hi, a1, a2⟩, by omega⟩
    · obtain ⟨b1, b2⟩ := ord_under h B z (by omega) (by omega) j a3 (by omega)
      exact ⟨b1, by omega⟩

/-- A primitive of a range. -/
def primB (x : NodeD) (lo hi : Int) : Bool := decide (x.k = 11 ∧ lo ≤ x.n ∧ x.n ≤ hi)

def kidN (x : NodeD) (q : Nat) : Nat := (x.kids.getD q 0).toNat

/-- What a selection selects from. -/
def nextS (ns : List NodeD) (i : Nat) : Option Nat :=
  if (node ns i).k = 7 then some (kidN (node ns i) 0)
  else if (node ns i).k = 9 ∧ primB (node ns (kidN (node ns i) 0)) 20 23 = true then some (kidN (node ns i) 1)
  else if (node ns i).k = 10 ∧ primB (node ns (kidN (node ns i) 1)) 21 25 = true then some (kidN (node ns i) 2)
  else none

def selF (ns : List NodeD) : Nat → Nat → Bool
  | 0, _ => false
  | f + 1, i => if (node ns i).k = 3 then true else match nextS ns i with
    | none => false
    | some j => selF ns f j

def selB (ns : List NodeD) (i : Nat) : Bool := decide ((node ns i).k ≠ 3) && selF ns (i + 1) i

theorem sel_isE {ns : List NodeD} {i : Nat} (h : selB ns i = true) : isE (node ns i).k = true := by
  unfold selB at h
  rw [Bool.and_eq_true, decide_eq_true_eq] at h
  obtain ⟨h3, h⟩ := h
  rw [selF, if_neg h3] at h
  have : (node ns i).k = 7 ∨ (node ns i).k = 9 ∨ (node ns i).k = 10 := by
    unfold nextS at h
    by_cases a : (node ns i).k = 7
    · exact .inl a
    rw [if_neg a] at h
    by_cases b : (node ns i).k = 9 ∧ primB (node ns (kidN (node ns i) 0)) 20 23 = true
    · exact .inr (.inl b.1)
    rw [if_neg b] at h
    by_cases c : (node ns i).k = 10 ∧ primB (node ns (kidN (node ns i) 1)) 21 25 = true
    · exact .inr (.inr c.1)
    rw [if_neg c] at h
    cases h
  unfold isE sortK
  rw [if_pos (by omega)]
  rfl

/-- A node is right, as the specification asks it. -/
def nodeB (T : ByteArray → Bool) (ns : List NodeD) (st : List (Nat × Nat)) (i : Nat) : Bool :=
  decide (sortK (node ns i).k ≠ 0 ∧ ((node ns i).k = 25 ↔ i + 1 = ns.length)) && (kidsB (node ns i).k (kinds ns (node ns i).kids) && (fieldsS T (node ns i) && (decide ((st.getD i (0, 0)).2 ≤ 40) && (decide ((node ns i).k ≠ 23) || selB ns (kidN (node ns i) 0)))))

/-- A tree is right. -/
def treeB (T : ByteArray → Bool) (ns : List NodeD) : Bool :=
  decide (1 ≤ ns.length ∧ ns.length ≤ 600) && match ordN ns ns.length with
    | none => false
    | some st => (List.range ns.length).all (nodeB T ns st) && decide ((st.getD (ns.length - 1) (0, 0)).1 = 0)

/-- A node is right, as the developers ask it. -/
def nodeI (T : ByteArray → Bool) (ns : List NodeD) (i : Nat) : Bool := fieldsI T (node ns i) && kidsI (node ns i).k (kinds ns (node ns i).kids) (selB ns (kidN (node ns i) 0))

def orderI (ns : List NodeD) : Bool := match ordN ns ns.length with
  | none => false
  | some st => decide ((st.getD (ns.length - 1) (0, 0)).1 = 0 ∧ (st.getD (ns.length - 1) (0, 0)).2 ≤ 40)

def treeI (T : ByteArray → Bool) (ns : List NodeD) : Bool :=
  decide (1 ≤ ns.length ∧ ns.length ≤ 600) && (orderI ns && ((List.range ns.length).all (nodeI T ns) && decide ((node ns (ns.length - 1)).k = 25)))

theorem node_eq (T : ByteArray → Bool) (ns : List NodeD) (i : Nat) : nodeI T ns i = (kidsB (node ns i).k (kinds ns (node ns i).kids) && (fieldsS T (node ns i) && (decide ((node ns i).k ≠ 23) || selB ns (kidN (node ns i) 0)))) := by
  unfold nodeI
  rw [fields_eq, kids_eq (fun hs hl => ?_)]
  · cases fieldsS T (node ns i) <;> simp
  · have e : (kinds ns (node ns i).kids).getD 0 0 = (node ns (kidN (node ns i) 0)).k := by
      unfold kinds kidN
      unfold kinds at hl
      rw [List.length_map] at hl
      simp [List.getD_eq_getElem?_getD, show 0 < (node ns i).kids.length by omega]
    rw [e]
    exact sel_isE hs

theorem kind_good {x : Int} (h : isE x = true ∨ isP x = true ∨ isF x = true ∨ isB x = true ∨ isS x = true ∨ isI x = true) : sortK x ≠ 0 ∧ x ≠ 25 := by
  have h25 : sortK 25 = 6 := rfl
  have h16 : sortK 16 = 3 := rfl
  unfold isE isP isF isB isS isI at h
  simp only [decide_eq_true_eq] at h
  constructor
  · intro e
    rw [e] at h
    rcases h with h | h | h | h | h | h
    · omega
    · omega
    · omega
    · subst h; omega
    · omega
    · omega
  · intro e
    subst e
    rw [h25] at h
    omega

theorem isK_good {c : Nat} {x : Int} (h : isK c x = true) : sortK x ≠ 0 ∧ x ≠ 25 := by
  refine kind_good ?_
  unfold isK at h
  split at h
  · exact .inl h
  split at h
  · exact .inr (.inl h)
  split at h
  · exact .inr (.inr (.inl h))
  split at h
  · exact .inr (.inr (.inr (.inl h)))
  split at h
  · exact .inr (.inr (.inr (.inr (.inl h))))
  · exact .inr (.inr (.inr (.inr (.inr h))))

theorem fits_good : ∀ (cs : List Nat) (ks : List Int), fits cs ks = true → ∀ x ∈ ks, sortK x ≠ 0 ∧ x ≠ 25
  | [], [], _, x, hx => by cases hx
  | [], _ :: _, h, _, _ => by simp [fits] at h
  | _ :: _, [], h, _, _ => by simp [fits] at h
  | c :: cs, a :: r, h, x, hx => by
    rw [fits, Bool.and_eq_true] at h
    rcases List.mem_cons.1 hx with e | e
    · subst e; exact isK_good h.1
    · exact fits_good cs r h.2 x e

theorem kids_good {k : Int} {ks : List Int} (h : kidsB k ks = true) : ∀ x ∈ ks, sortK x ≠ 0 ∧ x ≠ 25 := by
  intro x hx
  unfold kidsB at h
  by_cases h7 : k = 7
  · rw [if_pos h7, Bool.and_eq_true, Bool.and_eq_true] at h
    match ks, hx, h with
    | a :: r, hx, h =>
      rcases List.mem_cons.1 hx with e | e
      · subst e; exact kind_good (.inl (by simpa using h.2.1))
      · exact kind_good (.inr (.inl (List.all_eq_true.1 h.2.2 x (by simpa using e))))
  rw [if_neg h7] at h
  by_cases h21 : k = 21
  · rw [if_pos h21, Bool.and_eq_true, Bool.and_eq_true, decide_eq_true_eq] at h
    rw [← List.take_append_drop (ks.length - 1) ks] at hx
    rcases List.mem_append.1 hx with e | e
    · exact kind_good (.inr (.inl (List.all_eq_true.1 h.2.1 x e)))
    · have := h.2.2
      rw [← drop_last_all ks isE h.1] at this
      exact kind_good (.inl (List.all_eq_true.1 this x e))
  rw [if_neg h21] at h
  by_cases h16 : k = 16
  · rw [if_pos h16] at h
    exact kind_good (.inr (.inr (.inr (.inr (.inr (List.all_eq_true.1 h x hx))))))
  rw [if_neg h16] at h
  by_cases h25 : k = 25
  · rw [if_pos h25] at h
    exact kind_good (.inr (.inr (.inr (.inr (.inl (List.all_eq_true.1 h x hx))))))
  rw [if_neg h25] at h
  exact fits_good _ _ h x hx

theorem tree_eq (T : ByteArray → Bool) (ns : List NodeD) : treeI T ns = treeB T ns := by
  unfold treeI treeB orderI
  by_cases hn : 1 ≤ ns.length ∧ ns.length ≤ 600
  case neg => rw [decide_eq_false hn]; rfl
  rw [decide_eq_true hn, Bool.true_and, Bool.true_and]
  cases h : ordN ns ns.length with
  | none => rfl
  | some st =>
    dsimp only
    rw [Bool.eq_iff_iff]
    simp only [Bool.and_eq_true, decide_eq_true_eq, List.all_eq_true, List.mem_range]
    constructor
    · rintro ⟨⟨h0, h40⟩, hall, hlast⟩
      refine ⟨fun i hi => ?_, h0⟩
      have hi' := hall i hi
      rw [node_eq] at hi'
      simp only [Bool.and_eq_true] at hi'
      unfold nodeB
      simp only [Bool.and_eq_true, decide_eq_true_eq]
      refine ⟨?_, hi'.1, hi'.2.1, ?_, hi'.2.2⟩
      · by_cases e : i + 1 = ns.length
        · have e' : ns.length - 1 = i := by omega
          rw [e'] at hlast
          rw [hlast]
          exact ⟨by decide, by simp [e]⟩
        · obtain ⟨⟨p, q, hp, hq, hk⟩, _⟩ := ord_under h ns.length (ns.length - 1) (by omega) (by omega) i (by omega) (by omega)
          have hp' := hall p hp
          rw [node_eq] at hp'
          simp only [Bool.and_eq_true] at hp'
          have hm : (node ns i).k ∈ kinds ns (node ns p).kids := by
            unfold kinds
            refine List.mem_map.2 ⟨(node ns p).kids.getD q 0, ?_, by rw [hk]; rfl⟩
            rw [List.getD_eq_getElem?_getD, List.getElem?_eq_getElem hq]
            exact List.getElem_mem hq
          have := kids_good hp'.1 _ hm
          exact ⟨this.1, fun x => absurd x this.2, fun x => absurd x e⟩
      · by_cases e : i + 1 = ns.length
        · have e' : ns.length - 1 = i := by omega
          rw [e'] at h40
          exact h40
        · have := (ord_under h ns.length (ns.length - 1) (by omega) (by omega) i (by omega) (by omega)).2
          omega
    · rintro ⟨hall, h0⟩
      have hl := hall (ns.length - 1) (by omega)
      have hl' := hl
      unfold nodeB at hl'
      simp only [Bool.and_eq_true, decide_eq_true_eq] at hl'
      refine ⟨⟨h0, hl'.2.2.2.1⟩, fun i hi => ?_, hl'.1.2.2 (by omega)⟩
      have := hall i hi
      unfold nodeB at this
      simp only [Bool.and_eq_true, decide_eq_true_eq] at this
      rw [node_eq]
      simp only [Bool.and_eq_true]
      exact ⟨this.2.1, this.2.2.1, this.2.2.2.2⟩

end Go.Proofs.YtinndpnilmmmjaaGreatDoor
namespace Go.Proofs.YtinndpnilmmmjaaGreatDoor
open Go

theorem tree_size {T : ByteArray → Bool} {ns : List NodeD} (h : ¬ (1 ≤ ns.length ∧ ns.length ≤ 600)) : treeB T ns = false := by
  unfold treeB; rw [decide_eq_false h]; rfl

theorem tree_none {T : ByteArray → Bool} {ns : List NodeD} {i : Nat} (h : ordN ns (i + 1) = none) (hi : i < ns.length) : treeB T ns = false := by
  have := ord_none h (ns.length - (i + 1))
  rw [show i + 1 + (ns.length - (i + 1)) = ns.length by omega] at this
  unfold treeB
  rw [this]
  exact Bool.and_false _

theorem node_same {T : ByteArray → Bool} {ns : List NodeD} {st st' : List (Nat × Nat)} {j : Nat} (h : st.getD j (0, 0) = st'.getD j (0, 0)) : nodeB T ns st j = nodeB T ns st' j := by
  unfold nodeB; rw [h]

theorem tree_bad {T : ByteArray → Bool} {ns : List NodeD} {i : Nat} {st : List (Nat × Nat)} (h : ordN ns (i + 1) = some st) (hi : i < ns.length) (hb : nodeB T ns st i = false) : treeB T ns = false := by
  unfold treeB
  cases hS : ordN ns ns.length with
  | none => exact Bool.and_false _
  | some S =>
    have ht := ord_take (i := i + 1) (ns.length - (i + 1)) (st := S) (by rw [show i + 1 + (ns.length - (i + 1)) = ns.length by omega]; exact hS)
    rw [h] at ht
    have e : st.getD i (0, 0) = S.getD i (0, 0) := by
      rw [Option.some.inj ht]
      simp [List.getD_eq_getElem?_getD]
    rw [node_same e] at hb
    have : (List.range ns.length).all (nodeB T ns S) = false := List.all_eq_false.2 ⟨i, List.mem_range.2 hi, by rw [hb]; decide⟩
    dsimp only
    rw [this]
    simp

theorem tree_good {T : ByteArray → Bool} {ns : List NodeD} {st : List (Nat × Nat)} (h : ordN ns ns.length = some st) (hs : 1 ≤ ns.length ∧ ns.length ≤ 600) (ha : ∀ j, j < ns.length → nodeB T ns st j = true) : treeB T ns = decide ((st.getD (ns.length - 1) (0, 0)).1 = 0) := by
  unfold treeB
  rw [decide_eq_true hs, h]
  have : (List.range ns.length).all (nodeB T ns st) = true := List.all_eq_true.2 fun j hj => ha j (List.mem_range.1 hj)
  dsimp only
  rw [this]
  rfl

theorem nodes_push {T : ByteArray → Bool} {ns : List NodeD} {i : Nat} {st : List (Nat × Nat)} {p : Nat × Nat} (hl : st.length = i) (h : ∀ j, j < i → nodeB T ns st j = true) (hp : nodeB T ns (st ++ [p]) i = true) : ∀ j, j < i + 1 → nodeB T ns (st ++ [p]) j = true := fun j hj => by
  by_cases e : j = i
  · subst e; exact hp
  · rw [node_same (st' := st)]
    · exact h j (by omega)
    · simp [List.getD_eq_getElem?_getD, List.getElem?_append_left (show j < st.length by omega)]

/-- Kids of the three kinds that select. -/
theorem kids_few {k : Int} {ks : List Int} (h : kidsB k ks = true) : (k = 7 → 1 ≤ ks.length) ∧ (k = 9 → 2 ≤ ks.length) ∧ (k = 10 → 3 ≤ ks.length) := by
  refine ⟨fun e => ?_, fun e => ?_, fun e => ?_⟩
  · subst e
    unfold kidsB at h
    rw [if_pos rfl, Bool.and_eq_true, decide_eq_true_eq] at h
    omega
  · subst e
    have h' : fits [102, 101] ks = true := h
    rw [kfit2, Bool.and_eq_true, decide_eq_true_eq] at h'
    omega
  · subst e
    have h' : fits [101, 102, 101] ks = true := h
    rw [kfit3, Bool.and_eq_true, decide_eq_true_eq] at h'
    omega

theorem goK_bad {st : List (Nat × Nat)} {kids : List Int} {k a hi : Nat} (h : ¬ (1 ≤ a ∧ kids.getD k 0 = (a : Int) - 1)) : goK st kids (k + 1) a hi = none := by rw [goK, if_neg h]
theorem goK_ok {st : List (Nat × Nat)} {kids : List Int} {k y hi : Nat} (h : kids.getD k 0 = ((y : Nat) : Int)) : goK st kids (k + 1) (y + 1) hi = goK st kids k (st.getD y (0, 0)).1 (max hi ((st.getD y (0, 0)).2 + 1)) := by
  rw [goK, if_pos ⟨by omega, by rw [h]; omega⟩]
  rfl

/-- Kinds filled in from the last one on. -/
def fillK (ks : List Int) (k : Nat) : List Int := List.replicate k 0 ++ ks.drop k

theorem fillK_len {ks : List Int} {k : Nat} (h : k ≤ ks.length) : (fillK ks k).length = ks.length := by unfold fillK; simp; omega
theorem fillK_start (ks : List Int) : fillK ks ks.length = List.replicate ks.length 0 := by unfold fillK; simp
theorem fillK_end (ks : List Int) : fillK ks 0 = ks := by unfold fillK; simp
theorem fillK_set {ks : List Int} {k : Nat} (h : k < ks.length) : (fillK ks (k + 1)).set k (ks.getD k 0) = fillK ks k := by
  unfold fillK
  rw [List.replicate_succ', List.append_assoc, List.set_append_right _ _ (by simp), List.length_replicate, Nat.sub_self]
  rw [List.drop_eq_getElem_cons (i := k) h]
  simp [List.getD_eq_getElem?_getD, h]

theorem kinds_len (ns : List NodeD) (zs : List Int) : (kinds ns zs).length = zs.length := by unfold kinds; simp
theorem kinds_get {ns : List NodeD} {zs : List Int} {k : Nat} (h : k < zs.length) : (kinds ns zs).getD k 0 = (node ns (zs.getD k 0).toNat).k := by
  unfold kinds
  simp [List.getD_eq_getElem?_getD, h]

/-- A stretch is no taller than its place. -/
theorem goK_hi {st : List (Nat × Nat)} {kids : List Int} (hst : ∀ j, j < st.length → (st.getD j (0, 0)).1 ≤ j ∧ (st.getD j (0, 0)).2 ≤ j) : ∀ (k a hi : Nat) (r : Nat × Nat), a ≤ st.length → goK st kids k a hi = some r → r.2 ≤ max hi a
  | 0, a, hi, r, ha, h => by rw [goK] at h; cases h; exact Nat.le_max_left _ _
  | k + 1, a, hi, r, ha, h => by
    rw [goK] at h
    by_cases hc : 1 ≤ a ∧ kids.getD k 0 = (a : Int) - 1
    · rw [if_pos hc] at h
      have hle := hst (a - 1) (by omega)
      have := goK_hi hst k _ _ r (by omega) h
      omega
    · rw [if_neg hc] at h; cases h

theorem ord_hi {ns : List NodeD} : ∀ (n : Nat) {st : List (Nat × Nat)}, ordN ns n = some st → ∀ j, j < n → (st.getD j (0, 0)).2 ≤ j
  | 0, st, h, j, hj => by omega
  | n + 1, st, h, j, hj => by
    have hl := ord_len h
    have hp := ord_prev h
    have ih := ord_hi n hp.1
    have ih1 := ord_le n hp.1
    have e : ∀ j, j < n → (st.take n).getD j (0, 0) = st.getD j (0, 0) := fun j hj => by simp [List.getD_eq_getElem?_getD, hj]
    by_cases hjn : j < n
    · rw [← e j hjn]; exact ih j hjn
    · have hjn' : j = n := by omega
      subst hjn'
      have := goK_hi (fun i hi => ⟨ih1 i (by simp at hi; omega), ih i (by simp at hi; omega)⟩) _ _ _ _ (by simp; omega) hp.2
      omega

end Go.Proofs.YtinndpnilmmmjaaGreatDoor
