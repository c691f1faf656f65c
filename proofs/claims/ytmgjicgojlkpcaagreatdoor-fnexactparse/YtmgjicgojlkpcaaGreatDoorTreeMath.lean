import Derived.Test.YtmgjicgojlkpcaaGreatDoorLexMath
namespace Go.Proofs.YtmgjicgojlkpcaaGreatDoor
open Go

/-- A node: its kind, its two numbers, its text, its lists. -/
structure NodeD where
  k : Int
  n : Int
  m : Int
  s : ByteArray
  nums : List Int
  kids : List Int

def nodeZ : NodeD := ⟨0, 0, 0, ⟨#[]⟩, [], []⟩
def node (ns : List NodeD) (i : Nat) : NodeD := ns.getD i nodeZ

/-- The sort of a kind. -/
def sortK (k : Int) : Int :=
  if (1 ≤ k ∧ k ≤ 7) ∨ k = 9 ∨ k = 10 then 1 else if k = 8 then 2 else if 11 ≤ k ∧ k ≤ 18 then 3
  else if 19 ≤ k ∧ k ≤ 23 then 4 else if k = 24 then 5 else if k = 25 then 6 else 0

def isE (k : Int) : Bool := decide (sortK k = 1)
def isP (k : Int) : Bool := decide (sortK k = 1 ∨ sortK k = 2)
def isF (k : Int) : Bool := decide (sortK k = 3)
def isB (k : Int) : Bool := decide (k = 16)
def isS (k : Int) : Bool := decide (sortK k = 1 ∨ sortK k = 4)
def isI (k : Int) : Bool := decide (sortK k = 1 ∨ sortK k = 4 ∨ sortK k = 5)

def isK (c : Nat) : Int → Bool := if c = 101 then isE else if c = 112 then isP else if c = 102 then isF else if c = 98 then isB else if c = 115 then isS else isI

/-- The kinds of the nodes at these places. -/
def kinds (ns : List NodeD) (zs : List Int) : List Int := zs.map fun z => (node ns z.toNat).k

/-- What the kids of a kind are, where their number is fixed. -/
def shapeK (k : Int) : List Nat :=
  if k = 9 then [102, 101] else if k = 10 then [101, 102, 101] else if k = 19 ∨ k = 22 then [101] else if k = 20 then [98] else if k = 23 ∨ k = 24 then [101, 101] else []

def fits : List Nat → List Int → Bool
  | [], [] => true
  | c :: cs, x :: xs => isK c x && fits cs xs
  | _, _ => false

/-- The kinds of kids fit the kind of a node. -/
def kidsB (k : Int) (ks : List Int) : Bool :=
  if k = 7 then decide (2 ≤ ks.length) && (isE (ks.getD 0 0) && (ks.drop 1).all isP)
  else if k = 21 then decide (2 ≤ ks.length) && ((ks.take (ks.length - 1)).all isP && isE (ks.getD (ks.length - 1) 0))
  else if k = 16 then ks.all isI
  else if k = 25 then ks.all isS
  else fits (shapeK k) ks

/-- The same as the developers ask it; sel: the first kid is a selection. -/
def kidsI (k : Int) (ks : List Int) (sel : Bool) : Bool :=
  if k = 7 then decide (2 ≤ ks.length) && ((ks.take 1).all isE && (ks.drop 1).all isP)
  else if k = 9 then decide (ks.length = 2) && ((ks.take 1).all isF && (ks.drop 1).all isE)
  else if k = 10 then decide (ks.length = 3) && ((ks.take 1).all isE && (((ks.take 2).drop 1).all isF && (ks.drop 2).all isE))
  else if k = 16 then ks.all isI
  else if k = 19 ∨ k = 22 then decide (ks.length = 1) && ks.all isE
  else if k = 20 then decide (ks.length = 1) && ks.all isB
  else if k = 21 then decide (2 ≤ ks.length) && ((ks.take (ks.length - 1)).all isP && (ks.drop (ks.length - 1)).all isE)
  else if k = 23 then decide (ks.length = 2) && (sel && (ks.drop 1).all isE)
  else if k = 24 then decide (ks.length = 2) && ks.all isE
  else if k = 25 then ks.all isS
  else decide (ks.length = 0)

theorem kfit0 (ks : List Int) : fits [] ks = decide (ks.length = 0) := by cases ks <;> simp [fits]
theorem kfit1 (c : Nat) (ks : List Int) : fits [c] ks = (decide (ks.length = 1) && ks.all (isK c)) := by
  match ks with
  | [] => rfl
  | [a] => simp [fits]
  | a :: b :: r => simp [fits]
theorem kfit2 (c d : Nat) (ks : List Int) : fits [c, d] ks = (decide (ks.length = 2) && ((ks.take 1).all (isK c) && (ks.drop 1).all (isK d))) := by
  match ks with
  | [] => rfl
  | [a] => simp [fits]
  | [a, b] => simp [fits]
  | a :: b :: e :: r => simp [fits]
theorem kfit3 (c d e : Nat) (ks : List Int) : fits [c, d, e] ks = (decide (ks.length = 3) && ((ks.take 1).all (isK c) && (((ks.take 2).drop 1).all (isK d) && (ks.drop 2).all (isK e)))) := by
  match ks with
  | [] => rfl
  | [a] => simp [fits]
  | [a, b] => simp [fits]
  | [a, b, x] => simp [fits]
  | a :: b :: x :: y :: r => simp [fits]

theorem isK_e : isK 101 = isE := rfl
theorem isK_f : isK 102 = isF := rfl
theorem isK_b : isK 98 = isB := rfl

theorem drop_last_all (ks : List Int) (p : Int → Bool) (h : 2 ≤ ks.length) : (ks.drop (ks.length - 1)).all p = p (ks.getD (ks.length - 1) 0) := by
  have e : ks.drop (ks.length - 1) = [ks[ks.length - 1]] := by
    rw [List.drop_eq_getElem_cons (by omega), show ks.length - 1 + 1 = ks.length by omega, List.drop_length]
  rw [e]
  simp [List.getD_eq_getElem?_getD, show ks.length - 1 < ks.length by omega]

theorem kids_eq {k : Int} {ks : List Int} {sel : Bool} (hs : sel = true → ks.length = 2 → isE (ks.getD 0 0) = true) : kidsI k ks sel = (kidsB k ks && (decide (k ≠ 23) || sel)) := by
  unfold kidsI kidsB
  by_cases h7 : k = 7
  · subst h7
    simp only [if_true]
    match ks with
    | [] => rfl
    | a :: r => simp
  rw [if_neg h7, if_neg h7]
  by_cases h9 : k = 9
  · subst h9
    simp only [if_true, show ¬ (9 : Int) = 21 by decide, show ¬ (9 : Int) = 16 by decide, show ¬ (9 : Int) = 25 by decide, if_false, shapeK, kfit2, isK_f, isK_e]
    simp
  rw [if_neg h9]
  by_cases h10 : k = 10
  · subst h10
    simp only [if_true, show ¬ (10 : Int) = 21 by decide, show ¬ (10 : Int) = 16 by decide, show ¬ (10 : Int) = 25 by decide, show ¬ (10 : Int) = 9 by decide, if_false, shapeK, kfit3, isK_f, isK_e]
    simp
  rw [if_neg h10]
  by_cases h16 : k = 16
  · subst h16
    simp
  rw [if_neg h16, if_neg h16]
  by_cases h19 : k = 19 ∨ k = 22
  · have h21 : ¬ k = 21 := by omega
    have h25 : ¬ k = 25 := by omega
    have h23 : k ≠ 23 := by omega
    rw [if_pos h19, if_neg h21, if_neg h25, shapeK, if_neg h9, if_neg h10, if_pos h19, kfit1, isK_e, decide_eq_true h23]
    simp
  rw [if_neg h19]
  by_cases h20 : k = 20
  · subst h20
    simp only [if_true, show ¬ (20 : Int) = 21 by decide, show ¬ (20 : Int) = 25 by decide, show ¬ (20 : Int) = 9 by decide, show ¬ (20 : Int) = 10 by decide, if_false, shapeK, show ¬ ((20 : Int) = 19 ∨ (20 : Int) = 22) by decide, kfit1, isK_b]
    simp
  rw [if_neg h20]
  by_cases h21 : k = 21
  · subst h21
    simp only [if_true]
    by_cases hl : 2 ≤ ks.length
    · rw [drop_last_all ks isE hl]; simp
    · rw [decide_eq_false hl]; simp
  rw [if_neg h21, if_neg h21]
  by_cases h23 : k = 23
  · subst h23
    simp only [if_true, show ¬ (23 : Int) = 25 by decide, if_false, show shapeK 23 = [101, 101] from rfl, kfit2, isK_e]
    match ks, hs with
    | [], _ => simp
    | [a], _ => simp
    | [a, b], hs =>
      have := fun h => hs h rfl
      cases sel
      · simp
      · have e := this rfl
        simp at e
        simp [e]
    | a :: b :: e :: r, _ => simp
  rw [if_neg h23]
  by_cases h24 : k = 24
  · subst h24
    simp only [if_true, show ¬ (24 : Int) = 25 by decide, if_false, show shapeK 24 = [101, 101] from rfl, kfit2, isK_e]
    match ks with
    | [] => simp
    | [a] => simp
    | [a, b] => simp
    | a :: b :: e :: r => simp
  rw [if_neg h24]
  by_cases h25 : k = 25
  · subst h25
    simp
  rw [if_neg h25, if_neg h25, shapeK, if_neg h9, if_neg h10, if_neg h19, if_neg h20, if_neg (by omega), kfit0, decide_eq_true h23]
  simp

/-- A text is a name, of the high ones or of the low ones. -/
def nameB (s : ByteArray) (hi : Bool) : Bool := decide (1 ≤ s.size ∧ s.size ≤ 20 ∧ isL (bt s 0) = true ∧ ∀ i, i < s.size → isLD (bt s i) = true) && (decide (bt s 0 ≤ 90) == hi)

def isNum (z : Int) : Bool := decide (-1000000000000000 ≤ z ∧ z ≤ 1000000000000000)

def mostK (k : Int) : Int := if k = 11 then 33 else if (12 ≤ k ∧ k ≤ 15) ∨ k = 22 then 16 else 0
def marksK (k : Int) : Int := if k = 12 ∨ k = 13 then 1 else 0
def named (k : Int) : Prop := k = 3 ∨ k = 17 ∨ (19 ≤ k ∧ k ≤ 22)

/-- The fields of a node are right, as the specification asks it; T: a text can be written. -/
def fieldsS (T : ByteArray → Bool) (x : NodeD) : Bool :=
  if x.k = 1 then x.nums.all isNum && decide (0 < x.nums.length ∧ x.n = 0 ∧ x.m = 0 ∧ x.s.size = 0)
  else if 0 < x.nums.length then false
  else if x.k = 2 then decide (x.n = 0 ∧ x.m = 0) && T x.s
  else if (x.k = 3 ∨ x.k = 17 ∨ (19 ≤ x.k ∧ x.k ≤ 22)) ∧ nameB x.s (decide (x.k = 17 ∨ x.k = 20)) = false then false
  else if ¬ (x.k = 3 ∨ x.k = 17 ∨ (19 ≤ x.k ∧ x.k ≤ 22)) ∧ x.s.size ≠ 0 then false
  else if x.k = 15 then decide (1 ≤ x.n ∧ x.n ≤ 16 ∧ 1 ≤ x.m ∧ x.m ≤ 16)
  else decide (x.n ≤ mostK x.k ∧ (1 ≤ x.n ∨ (mostK x.k = 0 ∧ x.n = 0)) ∧ 0 ≤ x.m ∧ x.m ≤ marksK x.k)

def isSc (n : Int) : Bool := decide (1 ≤ n ∧ n ≤ 16)

def okN (x : NodeD) : Bool := if x.k = 22 ∨ (12 ≤ x.k ∧ x.k ≤ 15) then isSc x.n else if x.k = 11 then decide (1 ≤ x.n ∧ x.n ≤ 33) else decide (x.n = 0)
def okM (x : NodeD) : Bool := if x.k = 12 ∨ x.k = 13 then decide (0 ≤ x.m ∧ x.m ≤ 1) else if x.k = 15 then isSc x.m else decide (x.m = 0)
def okS (T : ByteArray → Bool) (x : NodeD) : Bool := if x.k = 2 then T x.s else if x.k = 3 ∨ x.k = 19 ∨ x.k = 21 ∨ x.k = 22 then nameB x.s false else if x.k = 17 ∨ x.k = 20 then nameB x.s true else decide (x.s.size = 0)
def okNums (x : NodeD) : Bool := if x.k = 1 then x.nums.all isNum && decide (0 < x.nums.length) else decide (x.nums.length = 0)

/-- The same as the developers ask it. -/
def fieldsI (T : ByteArray → Bool) (x : NodeD) : Bool := okN x && (okM x && (okS T x && okNums x))

theorem fields_eq (T : ByteArray → Bool) (x : NodeD) : fieldsI T x = fieldsS T x := by
  obtain ⟨k, n, m, s, nums, kids⟩ := x
  unfold fieldsI fieldsS okN okM okS okNums
  dsimp only
  by_cases h1 : k = 1
  · subst h1
    simp
    cases nums.all isNum <;> cases h : decide (0 < nums.length) <;> simp_all <;> grind
  by_cases h2 : k = 2
  · subst h2
    cases T s <;> simp <;> by_cases hn : nums.length = 0 <;> simp_all <;> grind
  rw [if_neg h1, if_neg h1, if_neg h2, if_neg h2]
  by_cases hn : nums.length = 0
  case neg => rw [if_pos (show 0 < nums.length by omega), decide_eq_false hn]; simp
  rw [if_neg (show ¬ 0 < nums.length by omega), decide_eq_true hn, Bool.and_true]
  by_cases hm : k = 3 ∨ k = 17 ∨ (19 ≤ k ∧ k ≤ 22)
  · have e : (if k = 3 ∨ k = 19 ∨ k = 21 ∨ k = 22 then nameB s false else if k = 17 ∨ k = 20 then nameB s true else decide (s.size = 0)) = nameB s (decide (k = 17 ∨ k = 20)) := by
      by_cases hc : k = 17 ∨ k = 20
      · rw [if_neg (by omega), if_pos hc, decide_eq_true hc]
      · rw [if_pos (by omega), decide_eq_false hc]
    rw [e]
    generalize nameB s (decide (k = 17 ∨ k = 20)) = b
    cases b
    · rw [if_pos (show (k = 3 ∨ k = 17 ∨ (19 ≤ k ∧ k ≤ 22)) ∧ false = false from ⟨hm, rfl⟩)]; simp
    · rw [if_neg (show ¬ ((k = 3 ∨ k = 17 ∨ (19 ≤ k ∧ k ≤ 22)) ∧ true = false) from fun h => absurd h.2 (by decide)), if_neg (show ¬ (¬ (k = 3 ∨ k = 17 ∨ (19 ≤ k ∧ k ≤ 22)) ∧ s.size ≠ 0) from fun h => h.1 hm), if_neg (show ¬ k = 15 by omega), if_neg (show ¬ k = 15 by omega), if_neg (show ¬ (k = 12 ∨ k = 13) by omega)]
      unfold mostK marksK isSc
      rw [if_neg (show ¬ k = 11 by omega), if_neg (show ¬ k = 11 by omega), if_neg (show ¬ (k = 12 ∨ k = 13) by omega)]
      by_cases h22 : k = 22
      · rw [if_pos (show k = 22 ∨ (12 ≤ k ∧ k ≤ 15) from .inl h22), if_pos (show (12 ≤ k ∧ k ≤ 15) ∨ k = 22 from .inr h22)]
        rw [Bool.eq_iff_iff]; simp; omega
      · rw [if_neg (show ¬ (k = 22 ∨ (12 ≤ k ∧ k ≤ 15)) by omega), if_neg (show ¬ ((12 ≤ k ∧ k ≤ 15) ∨ k = 22) by omega)]
        rw [Bool.eq_iff_iff]; simp; omega
  · rw [if_neg (show ¬ ((k = 3 ∨ k = 17 ∨ (19 ≤ k ∧ k ≤ 22)) ∧ nameB s (decide (k = 17 ∨ k = 20)) = false) from fun h => hm h.1), if_neg (show ¬ (k = 3 ∨ k = 19 ∨ k = 21 ∨ k = 22) by omega), if_neg (show ¬ (k = 17 ∨ k = 20) by omega)]
    by_cases hs : s.size = 0
    case neg => rw [if_pos (show ¬ (k = 3 ∨ k = 17 ∨ (19 ≤ k ∧ k ≤ 22)) ∧ s.size ≠ 0 from ⟨hm, hs⟩), decide_eq_false hs]; simp
    rw [if_neg (show ¬ (¬ (k = 3 ∨ k = 17 ∨ (19 ≤ k ∧ k ≤ 22)) ∧ s.size ≠ 0) from fun h => h.2 hs), decide_eq_true hs, Bool.and_true]
    unfold mostK marksK isSc
    by_cases h15 : k = 15
    · subst h15
      rw [Bool.eq_iff_iff]; simp; omega
    rw [if_neg h15, if_neg h15]
    by_cases h11 : k = 11
    · subst h11
      rw [Bool.eq_iff_iff]; simp; omega
    rw [if_neg h11, if_neg h11]
    by_cases h12 : k = 12 ∨ k = 13
    · rw [if_pos h12, if_pos h12, if_pos (show k = 22 ∨ (12 ≤ k ∧ k ≤ 15) by omega), if_pos (show (12 ≤ k ∧ k ≤ 15) ∨ k = 22 by omega)]
      rw [Bool.eq_iff_iff]; simp; omega
    rw [if_neg h12, if_neg h12]
    by_cases h14 : k = 14
    · subst h14
      rw [Bool.eq_iff_iff]; simp; omega
    rw [if_neg (show ¬ (k = 22 ∨ (12 ≤ k ∧ k ≤ 15)) by omega), if_neg (show ¬ ((12 ≤ k ∧ k ≤ 15) ∨ k = 22) by omega)]
    rw [Bool.eq_iff_iff]; simp; omega

end Go.Proofs.YtmgjicgojlkpcaaGreatDoor
