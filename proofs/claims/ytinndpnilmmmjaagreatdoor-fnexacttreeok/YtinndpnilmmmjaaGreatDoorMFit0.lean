import Derived.Lib.RuneCount
import Derived.Lib.Strings
import Derived.WalkKit
import Derived.WalkSpells
import Derived.Test.YtinndpnilmmmjaaGreatDoorChecked
import Derived.Deep.QuietTactic
import Derived.BigQuiet
import Derived.Deep.Draws
import Derived.Deep.RegionWith
import Derived.Deep.DeepCutAuto
import Derived.Deep.OwnRows
import Derived.Deep.AppendLies
namespace Go.Proofs.YtinndpnilmmmjaaGreatDoor
open Go

/-- The byte at a place of a text. -/
def bt (s : ByteArray) (i : Nat) : Nat := (s.get! i).toNat

theorem bt_lt (s : ByteArray) (i : Nat) : bt s i < 256 := (s.get! i).toNat_lt

theorem bt_get {s : ByteArray} {i : Nat} (h : i < s.size) : bt s i = (s[i]'h).toNat := by
  unfold bt
  rw [ByteArray.get!, getElem!_pos s.data i h, ByteArray.getElem_eq_getElem_data]

def isD (b : Nat) : Bool := decide (48 ≤ b ∧ b ≤ 57)
def isL (b : Nat) : Bool := decide (97 ≤ b ∧ b ≤ 122) || decide (65 ≤ b ∧ b ≤ 90)
def isLD (b : Nat) : Bool := isL b || isD b

/-- The character that begins at a place in its shortest form, and its number of bytes; 0 when none does. -/
def runeAt (s : ByteArray) (i : Nat) : Nat × Nat := if Utf8.decode s i = (65533, 1) then (0, 0) else Utf8.decode s i

/-- The first place from i on that does not belong. -/
def runTo (p : Nat → Bool) (s : ByteArray) : Nat → Nat → Nat
  | 0, i => i
  | f + 1, i => if i < s.size ∧ p (bt s i) = true then runTo p s f (i + 1) else i

def endOf (p : Nat → Bool) (s : ByteArray) (i : Nat) : Nat := runTo p s (s.size - i) i

theorem endOf_go {p : Nat → Bool} {s : ByteArray} {i : Nat} (h : i < s.size) (hp : p (bt s i) = true) : endOf p s i = endOf p s (i + 1) := by
  unfold endOf
  rw [show s.size - i = (s.size - (i + 1)) + 1 by omega, runTo, if_pos ⟨h, hp⟩]

theorem endOf_stop {p : Nat → Bool} {s : ByteArray} {i : Nat} (h : ¬ (i < s.size ∧ p (bt s i) = true)) : endOf p s i = i := by
  unfold endOf
  cases s.size - i with
  | zero => rfl
  | succ f => rw [runTo, if_neg h]

theorem runTo_ge (p : Nat → Bool) (s : ByteArray) : ∀ f i, i ≤ runTo p s f i
  | 0, i => Nat.le_refl _
  | f + 1, i => by
    rw [runTo]
    split
    · exact Nat.le_trans (Nat.le_succ i) (runTo_ge p s f (i + 1))
    · exact Nat.le_refl _

theorem endOf_ge (p : Nat → Bool) (s : ByteArray) (i : Nat) : i ≤ endOf p s i := runTo_ge p s _ i

theorem runTo_le (p : Nat → Bool) (s : ByteArray) : ∀ f i, i ≤ s.size → runTo p s f i ≤ s.size
  | 0, i, h => h
  | f + 1, i, h => by
    rw [runTo]
    split
    · rename_i h'
      exact runTo_le p s f (i + 1) (by omega)
    · exact h

theorem endOf_le (p : Nat → Bool) (s : ByteArray) (i : Nat) (h : i ≤ s.size) : endOf p s i ≤ s.size := runTo_le p s _ i h

theorem runTo_in (p : Nat → Bool) (s : ByteArray) : ∀ f i k, i ≤ k → k < runTo p s f i → k < s.size ∧ p (bt s k) = true
  | 0, i, k, h1, h2 => by rw [runTo] at h2; omega
  | f + 1, i, k, h1, h2 => by
    rw [runTo] at h2
    split at h2
    · rename_i h'
      by_cases e : k = i
      · subst e; exact h'
      · exact runTo_in p s f (i + 1) k (by omega) h2
    · omega

theorem endOf_in {p : Nat → Bool} {s : ByteArray} {i k : Nat} (h1 : i ≤ k) (h2 : k < endOf p s i) : k < s.size ∧ p (bt s k) = true := runTo_in p s _ i k h1 h2

theorem endOf_at {p : Nat → Bool} {s : ByteArray} : ∀ (d i : Nat), s.size - i = d → ¬ (endOf p s i < s.size ∧ p (bt s (endOf p s i)) = true)
  | d, i, hd => by
    by_cases h : i < s.size ∧ p (bt s i) = true
    · rw [endOf_go h.1 h.2]
      match d, hd with
      | 0, hd => omega
      | d + 1, hd => exact endOf_at d (i + 1) (by omega)
    · rw [endOf_stop h]; exact h

/-- The mark of numbers below 0 stands at a place. -/
def high (s : ByteArray) (i : Nat) : Bool := decide (i + 2 ≤ s.size ∧ bt s i = 194 ∧ bt s (i + 1) = 175)
/-- The mark of a comment stands at a place. -/
def remark (s : ByteArray) (i : Nat) : Bool := decide (i + 3 ≤ s.size ∧ bt s i = 226 ∧ bt s (i + 1) = 141 ∧ bt s (i + 2) = 157)
/-- Two quotes stand at a place. -/
def quotes (s : ByteArray) (i : Nat) : Bool := decide (i + 2 ≤ s.size ∧ bt s i = 39 ∧ bt s (i + 1) = 39)

/-- The number that the digits of a stretch mean. -/
def decV (s : ByteArray) (f : Nat) : Nat → Nat
  | 0 => 0
  | k + 1 => decV s f k * 10 + (bt s (f + k) - 48)

/-- The same, but that it grows no more behind 10^15. -/
def capV (s : ByteArray) (f : Nat) : Nat → Nat
  | 0 => 0
  | k + 1 => if capV s f k ≤ 1000000000000000 then capV s f k * 10 + (bt s (f + k) - 48) else capV s f k

theorem capV_eq (s : ByteArray) (f : Nat) : ∀ k, (capV s f k ≤ 1000000000000000 → capV s f k = decV s f k) ∧ (1000000000000000 < capV s f k → 1000000000000000 < decV s f k)
  | 0 => ⟨fun _ => rfl, fun h => by simp [capV] at h⟩
  | k + 1 => by
    have ih := capV_eq s f k
    rw [capV, decV]
    split
    · rename_i h
      rw [ih.1 h]
      exact ⟨fun _ => rfl, fun h => h⟩
    · rename_i h
      exact ⟨fun h' => absurd h' h, fun _ => by have := ih.2 (by omega); omega⟩

theorem capV_le (s : ByteArray) (f : Nat) (h : ∀ j, bt s (f + j) - 48 ≤ 207) : ∀ k, capV s f k ≤ 10000000000000207
  | 0 => by simp [capV]
  | k + 1 => by
    have ih := capV_le s f h k
    rw [capV]
    split
    · have := h k; omega
    · exact ih

/-- A piece of a text. -/
def sub (s : ByteArray) (i e : Nat) : ByteArray := s.extract i e

/-- What is read at a place: a token and where it ends, or a code. -/
structure Got where
  k : Int
  n : Int
  t : ByteArray
  e : Nat
  c : Int

def bad (c : Int) : Got := ⟨0, 0, ⟨#[]⟩, 0, c⟩

def numTok (s : ByteArray) (i : Nat) : Got :=
  let f := if high s i = true then i + 2 else i
  let e := endOf isD s f
  if e = f ∨ (e < s.size ∧ isL (bt s e) = true) ∨ high s e = true then bad 1
  else if 1000000000000000 < decV s f (e - f) then bad 7
  else ⟨1, if high s i = true then -(decV s f (e - f) : Int) else (decV s f (e - f) : Int), ⟨#[]⟩, e, 0⟩

def textTok (s : ByteArray) : Nat → Nat → List UInt8 → Got
  | 0, _, _ => bad 1
  | f + 1, e, out =>
    if e < s.size then
      if bt s e = 39 then
        if quotes s e = true then textTok s f (e + 2) (out ++ [39]) else ⟨2, 0, ⟨out.toArray⟩, e + 1, 0⟩
      else if (runeAt s e).2 = 0 ∨ bt s e = 10 then bad 1
      else textTok s f (e + (runeAt s e).2) (out ++ (s.extract e (e + (runeAt s e).2)).data.toList)
    else bad 1

def nameTok (s : ByteArray) (i : Nat) : Got :=
  if 20 < endOf isLD s i - i then bad 1 else ⟨3, 0, s.extract i (endOf isLD s i), endOf isLD s i, 0⟩

/-- The signs. -/
def signCs : List Nat := [43, 45, 215, 247, 8970, 8968, 124, 42, 61, 8800, 60, 8804, 8805, 62, 8743, 8744, 126, 9076, 9075, 44, 9021, 8854, 9033, 8593, 8595, 9035, 9042, 8714, 47, 9023, 92, 9024, 46, 8728, 8869, 8868, 8802, 8592, 91, 93, 59, 40, 41, 123, 125, 9082, 9077, 8711, 58, 8900, 9068]

def signTok (s : ByteArray) (i : Nat) : Got :=
  if 0 < (runeAt s i).2 ∧ (runeAt s i).1 ∈ signCs then ⟨4, 0, s.extract i (i + (runeAt s i).2), i + (runeAt s i).2, 0⟩ else bad 1

def tokAt (s : ByteArray) (i : Nat) : Got :=
  if isD (bt s i) = true ∨ high s i = true then numTok s i
  else if bt s i = 39 then textTok s (s.size - i) (i + 1) []
  else if isL (bt s i) = true then nameTok s i
  else signTok s i

/-- A token: its kind, its number, its text, its place. -/
structure Tok where
  k : Int
  n : Int
  t : ByteArray
  p : Nat

/-- What the tokens of a line are from place i on, behind those that are there: the code and the place of a fault, or all. -/
def lexR (s : ByteArray) : Nat → Nat → List Tok → (List Tok × Int × Nat)
  | 0, _, acc => (acc, 0, 0)
  | f + 1, i, acc =>
    if i < s.size ∧ remark s i = false then
      if bt s i = 32 ∨ bt s i = 9 then lexR s f (i + 1) acc
      else if (tokAt s i).c ≠ 0 then ([], (tokAt s i).c, i)
      else lexR s f (tokAt s i).e (acc ++ [⟨(tokAt s i).k, (tokAt s i).n, (tokAt s i).t, i⟩])
    else (acc, 0, 0)

/-- What Lex answers. -/
def lexT (s : ByteArray) : List Tok × Int × Nat := if 2000 < s.size then ([], 7, 0) else lexR s (s.size + 1) 0 []

end Go.Proofs.YtinndpnilmmmjaaGreatDoor
namespace Go.Proofs.YtinndpnilmmmjaaGreatDoor
open Go

/-- A node: its kind, its two numbers, its text, its lists. -/
structure NodeD where
  k : Int
  n : Int
  m : Int
  s : ByteArray
  nums : List Int
  kids : List Int

def nodeZ : NodeD := ⟨0, 0, 0, ⟨#[]⟩, [], []⟩
def node (ns : List NodeD) (i : Nat) : NodeD := ns.getD i nodeZ

/-- The sort of a kind. -/
def sortK (k : Int) : Int :=
  if (1 ≤ k ∧ k ≤ 7) ∨ k = 9 ∨ k = 10 then 1 else if k = 8 then 2 else if 11 ≤ k ∧ k ≤ 18 then 3
  else if 19 ≤ k ∧ k ≤ 23 then 4 else if k = 24 then 5 else if k = 25 then 6 else 0

def isE (k : Int) : Bool := decide (sortK k = 1)
def isP (k : Int) : Bool := decide (sortK k = 1 ∨ sortK k = 2)
def isF (k : Int) : Bool := decide (sortK k = 3)
def isB (k : Int) : Bool := decide (k = 16)
def isS (k : Int) : Bool := decide (sortK k = 1 ∨ sortK k = 4)
def isI (k : Int) : Bool := decide (sortK k = 1 ∨ sortK k = 4 ∨ sortK k = 5)

def isK (c : Nat) : Int → Bool := if c = 101 then isE else if c = 112 then isP else if c = 102 then isF else if c = 98 then isB else if c = 115 then isS else isI

/-- The kinds of the nodes at these places. -/
def kinds (ns : List NodeD) (zs : List Int) : List Int := zs.map fun z => (node ns z.toNat).k

/-- What the kids of a kind are, where their number is fixed. -/
def shapeK (k : Int) : List Nat :=
  if k = 9 then [102, 101] else if k = 10 then [101, 102, 101] else if k = 19 ∨ k = 22 then [101] else if k = 20 then [98] else if k = 23 ∨ k = 24 then [101, 101] else []

def fits : List Nat → List Int → Bool
  | [], [] => true
  | c :: cs, x :: xs => isK c x && fits cs xs
  | _, _ => false

/-- The kinds of kids fit the kind of a node. -/
def kidsB (k : Int) (ks : List Int) : Bool :=
  if k = 7 then decide (2 ≤ ks.length) && (isE (ks.getD 0 0) && (ks.drop 1).all isP)
  else if k = 21 then decide (2 ≤ ks.length) && ((ks.take (ks.length - 1)).all isP && isE (ks.getD (ks.length - 1) 0))
  else if k = 16 then ks.all isI
  else if k = 25 then ks.all isS
  else fits (shapeK k) ks

/-- The same as the developers ask it; sel: the first kid is a selection. -/
def kidsI (k : Int) (ks : List Int) (sel : Bool) : Bool :=
  if k = 7 then decide (2 ≤ ks.length) && ((ks.take 1).all isE && (ks.drop 1).all isP)
  else if k = 9 then decide (ks.length = 2) && ((ks.take 1).all isF && (ks.drop 1).all isE)
  else if k = 10 then decide (ks.length = 3) && ((ks.take 1).all isE && (((ks.take 2).drop 1).all isF && (ks.drop 2).all isE))
  else if k = 16 then ks.all isI
  else if k = 19 ∨ k = 22 then decide (ks.length = 1) && ks.all isE
  else if k = 20 then decide (ks.length = 1) && ks.all isB
  else if k = 21 then decide (2 ≤ ks.length) && ((ks.take (ks.length - 1)).all isP && (ks.drop (ks.length - 1)).all isE)
  else if k = 23 then decide (ks.length = 2) && (sel && (ks.drop 1).all isE)
  else if k = 24 then decide (ks.length = 2) && ks.all isE
  else if k = 25 then ks.all isS
  else decide (ks.length = 0)

theorem kfit0 (ks : List Int) : fits [] ks = decide (ks.length = 0) := by cases ks <;> simp [fits]
theorem kfit1 (c : Nat) (ks : List Int) : fits [c] ks = (decide (ks.length = 1) && ks.all (isK c)) := by
  match ks with
  | [] => rfl
  | [a] => simp [fits]
  | a :: b :: r => simp [fits]
theorem kfit2 (c d : Nat) (ks : List Int) : fits [c, d] ks = (decide (ks.length = 2) && ((ks.take 1).all (isK c) && (ks.drop 1).all (isK d))) := by
  match ks with
  | [] => rfl
  | [a] => simp [fits]
  | [a, b] => simp [fits]
  | a :: b :: e :: r => simp [fits]
theorem kfit3 (c d e : Nat) (ks : List Int) : fits [c, d, e] ks = (decide (ks.length = 3) && ((ks.take 1).all (isK c) && (((ks.take 2).drop 1).all (isK d) && (ks.drop 2).all (isK e)))) := by
  match ks with
  | [] => rfl
  | [a] => simp [fits]
  | [a, b] => simp [fits]
  | [a, b, x] => simp [fits]
  | a :: b :: x :: y :: r => simp [fits]

theorem isK_e : isK 101 = isE := rfl
theorem isK_f : isK 102 = isF := rfl
theorem isK_b : isK 98 = isB := rfl

theorem drop_last_all (ks : List Int) (p : Int → Bool) (h : 2 ≤ ks.length) : (ks.drop (ks.length - 1)).all p = p (ks.getD (ks.length - 1) 0) := by
  have e : ks.drop (ks.length - 1) = [ks[ks.length - 1]] := by
    rw [List.drop_eq_getElem_cons (by omega), show ks.length - 1 + 1 = ks.length by omega, List.drop_length]
  rw [e]
  simp [List.getD_eq_getElem?_getD, show ks.length - 1 < ks.length by omega]

theorem kids_eq {k : Int} {ks : List Int} {sel : Bool} (hs : sel = true → ks.length = 2 → isE (ks.getD 0 0) = true) : kidsI k ks sel = (kidsB k ks && (decide (k ≠ 23) || sel)) := by
  unfold kidsI kidsB
  by_cases h7 : k = 7
  · subst h7
    simp only [if_true]
    match ks with
    | [] => rfl
    | a :: r => simp
  rw [if_neg h7, if_neg h7]
  by_cases h9 : k = 9
  · subst h9
    simp only [if_true, show ¬ (9 : Int) = 21 by decide, show ¬ (9 : Int) = 16 by decide, show ¬ (9 : Int) = 25 by decide, if_false, shapeK, kfit2, isK_f, isK_e]
    simp
  rw [if_neg h9]
  by_cases h10 : k = 10
  · subst h10
    simp only [if_true, show ¬ (10 : Int) = 21 by decide, show ¬ (10 : Int) = 16 by decide, show ¬ (10 : Int) = 25 by decide, show ¬ (10 : Int) = 9 by decide, if_false, shapeK, kfit3, isK_f, isK_e]
    simp
  rw [if_neg h10]
  by_cases h16 : k = 16
  · subst h16
    simp
  rw [if_neg h16, if_neg h16]
  by_cases h19 : k = 19 ∨ k = 22
  · have h21 : ¬ k = 21 := by omega
    have h25 : ¬ k = 25 := by omega
    have h23 : k ≠ 23 := by omega
    rw [if_pos h19, if_neg h21, if_neg h25, shapeK, if_neg h9, if_neg h10, if_pos h19, kfit1, isK_e, decide_eq_true h23]
    simp
  rw [if_neg h19]
  by_cases h20 : k = 20
  · subst h20
    simp only [if_true, show ¬ (20 : Int) = 21 by decide, show ¬ (20 : Int) = 25 by decide, show ¬ (20 : Int) = 9 by decide, show ¬ (20 : Int) = 10 by decide, if_false, shapeK, show ¬ ((20 : Int) = 19 ∨ (20 : Int) = 22) by decide, kfit1, isK_b]
    simp
  rw [if_neg h20]
  by_cases h21 : k = 21
  · subst h21
    simp only [if_true]
    by_cases hl : 2 ≤ ks.length
    · rw [drop_last_all ks isE hl]; simp
    · rw [decide_eq_false hl]; simp
  rw [if_neg h21, if_neg h21]
  by_cases h23 : k = 23
  · subst h23
    simp only [if_true, show ¬ (23 : Int) = 25 by decide, if_false, show shapeK 23 = [101, 101] from rfl, kfit2, isK_e]
    match ks, hs with
    | [], _ => simp
    | [a], _ => simp
    | [a, b], hs =>
      have := fun h => hs h rfl
      cases sel
      · simp
      · have e := this rfl
        simp at e
        simp [e]
    | a :: b :: e :: r, _ => simp
  rw [if_neg h23]
  by_cases h24 : k = 24
  · subst h24
    simp only [if_true, show ¬ (24 : Int) = 25 by decide, if_false, show shapeK 24 = [101, 101] from rfl, kfit2, isK_e]
    match ks with
    | [] => simp
    | [a] => simp
    | [a, b] => simp
    | a :: b :: e :: r => simp
  rw [if_neg h24]
  by_cases h25 : k = 25
  · subst h25
    simp
  rw [if_neg h25, if_neg h25, shapeK, if_neg h9, if_neg h10, if_neg h19, if_neg h20, if_neg (by omega), kfit0, decide_eq_true h23]
  simp

/-- A text is a name, of the high ones or of the low ones. -/
def nameB (s : ByteArray) (hi : Bool) : Bool := decide (1 ≤ s.size ∧ s.size ≤ 20 ∧ isL (bt s 0) = true ∧ ∀ i, i < s.size → isLD (bt s i) = true) && (decide (bt s 0 ≤ 90) == hi)

def isNum (z : Int) : Bool := decide (-1000000000000000 ≤ z ∧ z ≤ 1000000000000000)

def mostK (k : Int) : Int := if k = 11 then 33 else if (12 ≤ k ∧ k ≤ 15) ∨ k = 22 then 16 else 0
def marksK (k : Int) : Int := if k = 12 ∨ k = 13 then 1 else 0
def named (k : Int) : Prop := k = 3 ∨ k = 17 ∨ (19 ≤ k ∧ k ≤ 22)

/-- The fields of a node are right, as the specification asks it; T: a text can be written. -/
def fieldsS (T : ByteArray → Bool) (x : NodeD) : Bool :=
  if x.k = 1 then x.nums.all isNum && decide (0 < x.nums.length ∧ x.n = 0 ∧ x.m = 0 ∧ x.s.size = 0)
  else if 0 < x.nums.length then false
  else if x.k = 2 then decide (x.n = 0 ∧ x.m = 0) && T x.s
  else if (x.k = 3 ∨ x.k = 17 ∨ (19 ≤ x.k ∧ x.k ≤ 22)) ∧ nameB x.s (decide (x.k = 17 ∨ x.k = 20)) = false then false
  else if ¬ (x.k = 3 ∨ x.k = 17 ∨ (19 ≤ x.k ∧ x.k ≤ 22)) ∧ x.s.size ≠ 0 then false
  else if x.k = 15 then decide (1 ≤ x.n ∧ x.n ≤ 16 ∧ 1 ≤ x.m ∧ x.m ≤ 16)
  else decide (x.n ≤ mostK x.k ∧ (1 ≤ x.n ∨ (mostK x.k = 0 ∧ x.n = 0)) ∧ 0 ≤ x.m ∧ x.m ≤ marksK x.k)

def isSc (n : Int) : Bool := decide (1 ≤ n ∧ n ≤ 16)

def okN (x : NodeD) : Bool := if x.k = 22 ∨ (12 ≤ x.k ∧ x.k ≤ 15) then isSc x.n else if x.k = 11 then decide (1 ≤ x.n ∧ x.n ≤ 33) else decide (x.n = 0)
def okM (x : NodeD) : Bool := if x.k = 12 ∨ x.k = 13 then decide (0 ≤ x.m ∧ x.m ≤ 1) else if x.k = 15 then isSc x.m else decide (x.m = 0)
def okS (T : ByteArray → Bool) (x : NodeD) : Bool := if x.k = 2 then T x.s else if x.k = 3 ∨ x.k = 19 ∨ x.k = 21 ∨ x.k = 22 then nameB x.s false else if x.k = 17 ∨ x.k = 20 then nameB x.s true else decide (x.s.size = 0)
def okNums (x : NodeD) : Bool := if x.k = 1 then x.nums.all isNum && decide (0 < x.nums.length) else decide (x.nums.length = 0)

/-- The same as the developers ask it. -/
def fieldsI (T : ByteArray → Bool) (x : NodeD) : Bool := okN x && (okM x && (okS T x && okNums x))

theorem fields_eq (T : ByteArray → Bool) (x : NodeD) : fieldsI T x = fieldsS T x := by
  obtain ⟨k, n, m, s, nums, kids⟩ := x
  unfold fieldsI fieldsS okN okM okS okNums
  dsimp only
  by_cases h1 : k = 1
  · subst h1
    simp
    cases nums.all isNum <;> cases h : decide (0 < nums.length) <;> simp_all <;> grind
  by_cases h2 : k = 2
  · subst h2
    cases T s <;> simp <;> by_cases hn : nums.length = 0 <;> simp_all <;> grind
  rw [if_neg h1, if_neg h1, if_neg h2, if_neg h2]
  by_cases hn : nums.length = 0
  case neg => rw [if_pos (show 0 < nums.length by omega), decide_eq_false hn]; simp
  rw [if_neg (show ¬ 0 < nums.length by omega), decide_eq_true hn, Bool.and_true]
  by_cases hm : k = 3 ∨ k = 17 ∨ (19 ≤ k ∧ k ≤ 22)
  · have e : (if k = 3 ∨ k = 19 ∨ k = 21 ∨ k = 22 then nameB s false else if k = 17 ∨ k = 20 then nameB s true else decide (s.size = 0)) = nameB s (decide (k = 17 ∨ k = 20)) := by
      by_cases hc : k = 17 ∨ k = 20
      · rw [if_neg (by omega), if_pos hc, decide_eq_true hc]
      · rw [if_pos (by omega), decide_eq_false hc]
    rw [e]
    generalize nameB s (decide (k = 17 ∨ k = 20)) = b
    cases b
    · rw [if_pos (show (k = 3 ∨ k = 17 ∨ (19 ≤ k ∧ k ≤ 22)) ∧ false = false from ⟨hm, rfl⟩)]; simp
    · rw [if_neg (show ¬ ((k = 3 ∨ k = 17 ∨ (19 ≤ k ∧ k ≤ 22)) ∧ true = false) from fun h => absurd h.2 (by decide)), if_neg (show ¬ (¬ (k = 3 ∨ k = 17 ∨ (19 ≤ k ∧ k ≤ 22)) ∧ s.size ≠ 0) from fun h => h.1 hm), if_neg (show ¬ k = 15 by omega), if_neg (show ¬ k = 15 by omega), if_neg (show ¬ (k = 12 ∨ k = 13) by omega)]
      unfold mostK marksK isSc
      rw [if_neg (show ¬ k = 11 by omega), if_neg (show ¬ k = 11 by omega), if_neg (show ¬ (k = 12 ∨ k = 13) by omega)]
      by_cases h22 : k = 22
      · rw [if_pos (show k = 22 ∨ (12 ≤ k ∧ k ≤ 15) from .inl h22), if_pos (show (12 ≤ k ∧ k ≤ 15) ∨ k = 22 from .inr h22)]
        rw [Bool.eq_iff_iff]; simp; omega
      · rw [if_neg (show ¬ (k = 22 ∨ (12 ≤ k ∧ k ≤ 15)) by omega), if_neg (show ¬ ((12 ≤ k ∧ k ≤ 15) ∨ k = 22) by omega)]
        rw [Bool.eq_iff_iff]; simp; omega
  · rw [if_neg (show ¬ ((k = 3 ∨ k = 17 ∨ (19 ≤ k ∧ k ≤ 22)) ∧ nameB s (decide (k = 17 ∨ k = 20)) = false) from fun h => hm h.1), if_neg (show ¬ (k = 3 ∨ k = 19 ∨ k = 21 ∨ k = 22) by omega), if_neg (show ¬ (k = 17 ∨ k = 20) by omega)]
    by_cases hs : s.size = 0
    case neg => rw [if_pos (show ¬ (k = 3 ∨ k = 17 ∨ (19 ≤ k ∧ k ≤ 22)) ∧ s.size ≠ 0 from ⟨hm, hs⟩), decide_eq_false hs]; simp
    rw [if_neg (show ¬ (¬ (k = 3 ∨ k = 17 ∨ (19 ≤ k ∧ k ≤ 22)) ∧ s.size ≠ 0) from fun h => h.2 hs), decide_eq_true hs, Bool.and_true]
    unfold mostK marksK isSc
    by_cases h15 : k = 15
    · subst h15
      rw [Bool.eq_iff_iff]; simp; omega
    rw [if_neg h15, if_neg h15]
    by_cases h11 : k = 11
    · subst h11
      rw [Bool.eq_iff_iff]; simp; omega
    rw [if_neg h11, if_neg h11]
    by_cases h12 : k = 12 ∨ k = 13
    · rw [if_pos h12, if_pos h12, if_pos (show k = 22 ∨ (12 ≤ k ∧ k ≤ 15) by omega), if_pos (show (12 ≤ k ∧ k ≤ 15) ∨ k = 22 by omega)]
      rw [Bool.eq_iff_iff]; simp; omega
    rw [if_neg h12, if_neg h12]
    by_cases h14 : k = 14
    · subst h14
      rw [Bool.eq_iff_iff]; simp; omega
    rw [if_neg (show ¬ (k = 22 ∨ (12 ≤ k ∧ k ≤ 15)) by omega), if_neg (show ¬ ((12 ≤ k ∧ k ≤ 15) ∨ k = 22) by omega)]
    rw [Bool.eq_iff_iff]; simp; omega

end Go.Proofs.YtinndpnilmmmjaaGreatDoor
namespace Go.Proofs.YtinndpnilmmmjaaGreatDoor
open Go.RowKit

/-- The slice (a, n, _) reads as the numbers zs. -/
structure Row (w : World) (a : Option Addr) (n : Nat) (zs : List Int) : Prop where
  len : zs.length = n
  small : n ≤ 17592186044416
  at_ : n = 0 ∨ ∃ b off, a = some ⟨b, off, none⟩ ∧ b < w.heap.size ∧ ∀ i, i < n → w.cell? ⟨b, off + i, none⟩ = some (.int .i64 (zs.getD i 0))

theorem Row.below {w w' : World} {a : Option Addr} {n : Nat} {zs : List Int} {B : Nat} (h : Row w a n zs) (hB : w.heap.size ≤ B) (hb : Below B w w') : Row w' a n zs := by
  refine ⟨h.len, h.small, ?_⟩
  rcases h.at_ with h0 | ⟨b, off, rfl, hlt, hc⟩
  · exact .inl h0
  · exact .inr ⟨b, off, rfl, Nat.lt_of_lt_of_le hlt hb.size, fun i hi => (hb.cell (p := ⟨b, off + i, none⟩) (Nat.lt_of_lt_of_le hlt hB)).trans (hc i hi)⟩

/-- Block g holds just the numbers zs. -/
def Blk (w : World) (g : Nat) (zs : List Int) : Prop := w.heap[g]? = some (.cells (zs.map (Value.int .i64)).toArray 3 (0, 0))

theorem Blk.lt {w : World} {g : Nat} {zs : List Int} (h : Blk w g zs) : g < w.heap.size := lt_of_block h

theorem Blk.cell {w : World} {g : Nat} {zs : List Int} (h : Blk w g zs) {i : Nat} (hi : i < zs.length) : w.cell? ⟨g, i, none⟩ = some (.int .i64 (zs.getD i 0)) := by
  unfold Blk at h
  simp [World.cell?, h, hi]

theorem Blk.free {w : World} {g : Nat} {zs : List Int} (h : Blk w g zs) (i : Nat) : w.frozen? ⟨g, i, none⟩ = false := frozen_of_row w g i _ _ h

theorem Blk.row {w : World} {g n : Nat} {zs : List Int} (h : Blk w g zs) (hn : zs.length = n) (hs : n ≤ 17592186044416) : Row w (some ⟨g, 0, none⟩) n zs :=
  ⟨hn, hs, .inr ⟨g, 0, rfl, h.lt, fun i hi => by simpa using h.cell (i := i) (by omega)⟩⟩

theorem Blk.below {w w' : World} {g : Nat} {zs : List Int} {B : Nat} (h : Blk w g zs) (hB : w.heap.size ≤ B) (hb : Below B w w') : Blk w' g zs := (hb.block g (Nat.lt_of_lt_of_le h.lt hB)).trans h

theorem Blk.set {w : World} {g : Nat} {zs : List Int} (h : Blk w g zs) (i : Nat) (x : Int) : Blk (w.setCell ⟨g, i, none⟩ (.int .i64 x)) g (zs.set i x) := by
  unfold Blk at h ⊢
  rw [heap_setCell_same w g i _ _ _ h]
  simp [List.map_set]

theorem Blk.of_owns {w : World} {base g n : Nat} {zs : List Int} (h : w.ownsRow base 3 1 (.slice (some ⟨g, 0, none⟩) n n) n (zs.map (Value.int .i64))) : Blk w g zs := by
  rcases h.2 with ⟨h', _⟩ | ⟨g', cap', cur, h', _, hg, _, _, hs, ht⟩
  · simp at h'
  · simp only [Value.slice.injEq, Option.some.injEq, Addr.mk.injEq, and_true, true_and] at h'
    obtain ⟨rfl, rfl⟩ := h'
    unfold Blk
    rw [hg, ← ht, List.take_of_length_le (by simp; omega)]

theorem Blk.other {w : World} {g : Nat} {zs : List Int} (h : Blk w g zs) {p : Addr} (hp : g ≠ p.block) (v : Value) : Blk (w.setCell p v) g zs := (heap_setCell_other w p g v hp).trans h
theorem Blk.drew {w : World} {g : Nat} {zs : List Int} (h : Blk w g zs) : Blk w.drew g zs := h
theorem Blk.alloc {w : World} {g : Nat} {zs : List Int} (h : Blk w g zs) (o : Obj) : Blk (w.alloc o) g zs := (Below.heap_alloc w o g h.lt).trans h

theorem bcell {W w1 : World} (hb : Below W.heap.size W w1) : (∀ b o, b < W.heap.size → w1.cell? ⟨b, o, none⟩ = W.cell? ⟨b, o, none⟩) ∧ (∀ b o, b < W.heap.size → w1.frozen? ⟨b, o, none⟩ = W.frozen? ⟨b, o, none⟩) :=
  ⟨fun b o h => hb.cell (p := ⟨b, o, none⟩) h, fun b o h => hb.frozen (p := ⟨b, o, none⟩) h⟩

theorem hide {p : Prop} (h : p) : Hid p := h
theorem unhide {p : Prop} (h : Hid p) : p := h
theorem ret_bool {a b : Bool} (h : a = b) : Ending.returned (.bool a) = .returned (.bool b) := by rw [h]
theorem ret_int {k : IntKind} {a b : Int} (h : a = b) : Ending.returned (.int k a) = .returned (.int k b) := by rw [h]
theorem ret_ib {a a' : Int} {b b' : Bool} (ha : a = a') (hb : b = b') : Ending.returned (.tuple #[.int .i64 a, .bool b]) = .returned (.tuple #[.int .i64 a', .bool b']) := by rw [ha, hb]
theorem ret_two {a b a' b' : Int} (ha : a = a') (hb : b = b') : Ending.returned (.tuple #[.int .i64 a, .int .i64 b]) = .returned (.tuple #[.int .i64 a', .int .i64 b']) := by rw [ha, hb]

end Go.Proofs.YtinndpnilmmmjaaGreatDoor
namespace Go.Proofs.YtinndpnilmmmjaaGreatDoor
open Go.RowKit

theorem info_int : (Tryz.prog.info? 3).map (fun i => (i.zero, i.size, i.bytes)) = some (some (.int .i64 0), 1, 8) := by kernel_rfl

theorem take_set (zs : List Int) (m k : Nat) (h : k < zs.length) : (zs.take k ++ List.replicate (m + 1) (0 : Int)).set k (zs.getD k 0) = zs.take (k + 1) ++ List.replicate m 0 := by
  have hk : (zs.take k).length = k := by simp; omega
  have hx : zs.getD k 0 = zs[k] := by simp [h]
  rw [List.replicate_succ, List.set_append_right _ _ (by omega), hk, Nat.sub_self, List.set_cons_zero, hx, List.take_succ_eq_append_getElem h, List.append_assoc]
  rfl

end Go.Proofs.YtinndpnilmmmjaaGreatDoor
namespace Go.Proofs.YtinndpnilmmmjaaGreatDoor
open Go.RowKit

theorem szIntS_big (a : Option Addr) (n cap : Nat) (left : Int) (w : World) (hn : n ≤ 9223372036854775807) (hl : 0 ≤ left) (hl2 : left ≤ 1048576) (h : left < n) :
    Calls Tryz.prog 114 #[.slice a n cap, .int .i64 left] w fun e w' => e = .returned (.int .i64 (-1)) ∧ w' = w := by
  go_enter Tryz.func114, Tryz.ntmps114
  go_wp2
  go_ret
  exact ⟨rfl, rfl⟩

theorem szIntS_ok (a : Option Addr) (n cap : Nat) (left : Int) (w : World) (hl2 : left ≤ 1048576) (h : n ≤ left) :
    Calls Tryz.prog 114 #[.slice a n cap, .int .i64 left] w fun e w' => e = .returned (.int .i64 (left - n)) ∧ w' = w := by
  go_enter Tryz.func114, Tryz.ntmps114
  go_wp2
  go_ret
  exact ⟨rfl, rfl⟩

set_option maxHeartbeats 400000 in
theorem toIntS_any (a : Option Addr) (n cap : Nat) (zs : List Int) (w : World) (h : Row w a n zs) :
    Calls Tryz.prog 117 #[.slice a n cap] w fun e w' => ∃ g, e = .returned (.slice (some ⟨g, 0, none⟩) n n) ∧ w.heap.size ≤ g ∧ Blk w' g zs ∧ Below w.heap.size w w' := by
  obtain ⟨hlen, hsm, hat⟩ := h
  obtain ⟨i0, hi, hz0, hz1, hz2⟩ := info_parts info_int
  go_enter Tryz.func117, Tryz.ntmps117
  go_wp2_with (at_make; refine wpList_make_full _ rfl _ _ 45 rfl w.heap.size 3 i0 (.int .i64 0) 1 Tryz.underlying45 hi hz0 hz1 _ _ _ _ n rfl rfl rfl rfl (by rw [hz2]; omega) (by unfold maxLen; omega) (Nat.le_refl _) ?_; intro w1 hown hgrow)
  have hblk : Blk w1 w.heap.size (zs.take 0 ++ List.replicate (n - 0) 0) := Blk.of_owns (n := n) (base := w.heap.size) (by simpa [toList_madeCells_one, Value.cells] using hown)
  have hbel : Below w.heap.size w w1 := (Below.refl _ _).grown hgrow (Nat.le_refl _) (by simp)
  clear hown hgrow hi hz0 hz1 hz2
  go_wp2
  go_loopw [4] (fun i wr => ∃ k : Nat, k ≤ n ∧ i = .int .i64 k ∧ Blk wr w.heap.size (zs.take k ++ List.replicate (n - k) 0) ∧ Below w.heap.size w wr) (fun i _ => n - (intOf i).toNat)
  case atStart => exact ⟨0, Nat.zero_le _, rfl, hblk, hbel⟩
  case round =>
    obtain ⟨k, hk, rfl, hb, hbl⟩ := hrel
    clear hblk hbel
    by_cases hlt : k < n
    · have hat' : ∃ b off, a = some ⟨b, off, none⟩ ∧ wr.cell? ⟨b, off + k, none⟩ = some (.int .i64 (zs.getD k 0)) := by
        rcases hat with h0 | ⟨b, off, rfl, hlt', hc⟩
        · omega
        · exact ⟨b, off, rfl, (hbl.cell (p := ⟨b, off + k, none⟩) hlt').trans (hc k hlt)⟩
      obtain ⟨b, off, rfl, hc⟩ := hat'
      clear hat
      obtain ⟨x, hx⟩ : ∃ x, x = zs.getD k 0 := ⟨_, rfl⟩
      rw [← hx] at hc
      have hc2 := hb.cell (i := k) (by simp; omega)
      have hf2 := hb.free k
      have hs := hb.set k x
      have HR : Hid (Blk (wr.setCell ⟨w.heap.size, k, none⟩ (.int .i64 x)) w.heap.size (zs.take (k + 1) ++ List.replicate (n - (k + 1)) 0)) := by
        have e : n - k = n - (k + 1) + 1 := by omega
        rw [e, hx, take_set zs _ k (by omega)] at hs
        rw [hx]
        exact hs
      clear hs hb hx
      go_wp2
      go_roundw
      case rel => exact ⟨k + 1, by omega, by go_num, HR.out, hbl.setCell (Nat.le_refl _) _⟩
      case measure => simp [intOf]; omega
    · have hkn : k = n := by omega
      subst hkn
      go_wp2
      go_ret
      exact ⟨_, rfl, Nat.le_refl _, by simpa [List.take_of_length_le (Nat.le_of_eq hlen)] using hb, hbl⟩

theorem take_step {xs ys : List Int} {n k : Nat} (hx : xs.length = n) (hy : ys.length = n) (hk : k < n) (h : xs.take k = ys.take k) (he : xs.getD k 0 = ys.getD k 0) : xs.take (k + 1) = ys.take (k + 1) := by
  have e1 : xs.getD k 0 = xs[k] := by simp [hx, hk]
  have e2 : ys.getD k 0 = ys[k] := by simp [hy, hk]
  rw [List.take_succ_eq_append_getElem (by omega), List.take_succ_eq_append_getElem (by omega), h, ← e1, ← e2, he]

set_option maxHeartbeats 400000 in
theorem eqIntS_any (a b : Option Addr) (n m ca cb : Nat) (xs ys : List Int) (w : World) (hx : Row w a n xs) (hy : Row w b m ys) :
    Calls Tryz.prog 120 #[.slice a n ca, .slice b m cb] w fun e w' => e = .returned (.bool (decide (xs = ys))) ∧ ∃ q, w' = w.drewN q := by
  obtain ⟨hxl, hxs, hxa⟩ := hx
  obtain ⟨hyl, hys, hya⟩ := hy
  by_cases hne : n = m
  · subst hne
    have hn : ((n : Int) != (n : Int)) = false := by simp
    go_enter Tryz.func120, Tryz.ntmps120
    go_wp2
    go_loopw [5] (fun i wr => ∃ k : Nat, k ≤ n ∧ i = .int .i64 k ∧ xs.take k = ys.take k ∧ ∃ q, wr = w.drewN q) (fun i _ => n - (intOf i).toNat)
    case atStart => exact ⟨0, Nat.zero_le _, rfl, rfl, 0, rfl⟩
    case round =>
      obtain ⟨k, hk, rfl, htk, q, rfl⟩ := hrel
      by_cases hlt : k < n
      · have ha : ∃ b off, a = some ⟨b, off, none⟩ ∧ w.cell? ⟨b, off + k, none⟩ = some (.int .i64 (xs.getD k 0)) := by
          rcases hxa with h0 | ⟨b, off, rfl, hlt', hc⟩
          · omega
          · exact ⟨b, off, rfl, hc k hlt⟩
        have hb : ∃ b' off, b = some ⟨b', off, none⟩ ∧ w.cell? ⟨b', off + k, none⟩ = some (.int .i64 (ys.getD k 0)) := by
          rcases hya with h0 | ⟨b, off, rfl, hlt', hc⟩
          · omega
          · exact ⟨b, off, rfl, hc k hlt⟩
        obtain ⟨b1, o1, rfl, hc1⟩ := ha
        obtain ⟨b2, o2, rfl, hc2⟩ := hb
        clear hxa hya
        obtain ⟨x, hx⟩ : ∃ x, x = xs.getD k 0 := ⟨_, rfl⟩
        obtain ⟨y, hy⟩ : ∃ y, y = ys.getD k 0 := ⟨_, rfl⟩
        rw [← hx] at hc1
        rw [← hy] at hc2
        have HX : Hid (x = xs.getD k 0) := hx
        have HY : Hid (y = ys.getD k 0) := hy
        have HT : Hid (xs.take k = ys.take k) := htk
        have HL : Hid (xs.length = n ∧ ys.length = n) := ⟨hxl, hyl⟩
        clear hx hy htk hxl hyl
        by_cases hxy : x = y
        · have hb : (x != y) = false := by simp [hxy]
          have HXY : Hid (x = y) := hxy
          clear hxy
          go_wp2
          go_quiet (fail)
          go_wp2
          go_roundw
          case rel => exact ⟨k + 1, by omega, by go_num, take_step HL.out.1 HL.out.2 hlt HT.out (HX.out.symm.trans (HXY.out.trans HY.out)), _, by first | rfl | exact World.drewN_drewN _ _ _⟩
          case measure => simp [intOf]; omega
        · have hb : (x != y) = true := by simp [hxy]
          have HN : Hid (¬ xs = ys) := fun e => hxy (by rw [HX.out, HY.out, e])
          clear hxy
          go_wp2
          go_quiet (fail)
          go_wp2
          go_ret
          exact ⟨ret_bool (decide_eq_false HN.out).symm, _, World.drewN_drewN _ _ _⟩
      · have hkn : k = n := by omega
        have HE : Hid (xs = ys) := by
          show xs = ys
          rwa [List.take_of_length_le (by omega), List.take_of_length_le (by omega)] at htk
        clear htk
        subst hkn
        go_wp2
        go_ret
        exact ⟨ret_bool (decide_eq_true HE.out).symm, _, rfl⟩
  · have hn : ((n : Int) != (m : Int)) = true := by simp; omega
    have HN : Hid (¬ xs = ys) := fun e => hne (by rw [← hxl, ← hyl, e])
    clear hne
    go_enter Tryz.func120, Tryz.ntmps120
    go_wp2
    go_ret
    exact ⟨ret_bool (decide_eq_false HN.out).symm, 0, rfl⟩

end Go.Proofs.YtinndpnilmmmjaaGreatDoor
namespace Go.Proofs.YtinndpnilmmmjaaGreatDoor
open Go.RowKit

theorem Row.alloc {w : World} {a : Option Addr} {n : Nat} {zs : List Int} (h : Row w a n zs) (o : Obj) : Row (w.alloc o) a n zs := h.below (Nat.le_refl _) ((Below.refl _ _).alloc (Nat.le_refl _) _)
theorem Row.drewN {w : World} {a : Option Addr} {n : Nat} {zs : List Int} (h : Row w a n zs) (q : Nat) : Row (w.drewN q) a n zs := ⟨h.len, h.small, h.at_⟩
theorem Below.drewN {B : Nat} {a w : World} (h : Below B a w) (q : Nat) : Below B a (w.drewN q) := h.trans ⟨rfl, rfl, rfl, Nat.le_refl _, fun _ _ => rfl⟩

theorem Row.get {w : World} {a : Option Addr} {n : Nat} {zs : List Int} (h : Row w a n zs) {k : Nat} (hk : k < n) : ∃ b off, a = some ⟨b, off, none⟩ ∧ b < w.heap.size ∧ w.cell? ⟨b, off + k, none⟩ = some (.int .i64 (zs.getD k 0)) := by
  rcases h.at_ with h0 | ⟨b, off, rfl, hlt, hc⟩
  · omega
  · exact ⟨b, off, rfl, hlt, hc k hk⟩

end Go.Proofs.YtinndpnilmmmjaaGreatDoor

namespace Go.Proofs.YtinndpnilmmmjaaGreatDoor
open Go.RowKit

theorem box1 {w wr : World} {o1 : Obj} (hK : Below (w.heap.size + 1) (w.alloc o1) wr) :
    Below w.heap.size w wr ∧ w.heap.size + 1 ≤ wr.heap.size ∧ (∀ b o, b < w.heap.size + 1 → wr.cell? ⟨b, o, none⟩ = (w.alloc o1).cell? ⟨b, o, none⟩) :=
  ⟨((Below.refl _ _).alloc (Nat.le_refl _) _).trans (hK.mono (by omega)), by have := hK.size; simp at this; omega, fun b o hb => hK.cell (p := ⟨b, o, none⟩) hb⟩

theorem box2 {w wr : World} {o1 o2 : Obj} (hK : Below (w.heap.size + 2) ((w.alloc o1).alloc o2) wr) :
    Below w.heap.size w wr ∧ w.heap.size + 2 ≤ wr.heap.size ∧ (∀ b o, b < w.heap.size + 2 → wr.cell? ⟨b, o, none⟩ = ((w.alloc o1).alloc o2).cell? ⟨b, o, none⟩) :=
  ⟨(((Below.refl _ _).alloc (Nat.le_refl _) _).alloc (by simp) _).trans (hK.mono (by omega)), by have := hK.size; simp at this; omega, fun b o hb => hK.cell (p := ⟨b, o, none⟩) hb⟩

/-- What a slice argument is known to be: its cells, and that its length is an int. -/
structure Raw (w : World) (a : Option Addr) (n : Nat) (zs : List Int) : Prop where
  len : zs.length = n
  max : n ≤ 9223372036854775807
  at_ : n = 0 ∨ ∃ b off, a = some ⟨b, off, none⟩ ∧ b < w.heap.size ∧ ∀ i, i < n → w.cell? ⟨b, off + i, none⟩ = some (.int .i64 (zs.getD i 0))

theorem Raw.row {w : World} {a : Option Addr} {n : Nat} {zs : List Int} (h : Raw w a n zs) (hn : n ≤ 17592186044416) : Row w a n zs := ⟨h.len, hn, h.at_⟩

end Go.Proofs.YtinndpnilmmmjaaGreatDoor
namespace Go.Proofs.YtinndpnilmmmjaaGreatDoor
open Go.RowKit

/-- At cell off of block b lies the node x, its lists read by R. -/
def NAt (R : World → Option Addr → Nat → List Int → Prop) (w : World) (b off : Nat) (x : NodeD) : Prop :=
  ∃ s1 n1 c1 s2 n2 c2, w.cell? ⟨b, off, none⟩ = some (.int .i64 x.k) ∧ w.cell? ⟨b, off + 1, none⟩ = some (.int .i64 x.n) ∧ w.cell? ⟨b, off + 2, none⟩ = some (.int .i64 x.m) ∧ w.cell? ⟨b, off + 3, none⟩ = some (.string x.s) ∧ w.cell? ⟨b, off + 4, none⟩ = some (.slice s1 n1 c1) ∧ w.cell? ⟨b, off + 5, none⟩ = some (.slice s2 n2 c2) ∧ R w s1 n1 x.nums ∧ R w s2 n2 x.kids

/-- The slice (a, n, _) reads as the nodes ns. -/
structure NRow (w : World) (a : Option Addr) (n : Nat) (ns : List NodeD) : Prop where
  len : ns.length = n
  small : n ≤ 1048576
  at_ : n = 0 ∨ ∃ b off, a = some ⟨b, off, none⟩ ∧ b < w.heap.size ∧ ∀ i, i < n → NAt Row w b (off + i * 6) (node ns i)

structure NRaw (w : World) (a : Option Addr) (n : Nat) (ns : List NodeD) : Prop where
  len : ns.length = n
  max : n ≤ 9223372036854775807
  smax : ∀ i, i < n → (node ns i).s.size ≤ 9223372036854775807
  at_ : n = 0 ∨ ∃ b off, a = some ⟨b, off, none⟩ ∧ b < w.heap.size ∧ ∀ i, i < n → NAt Raw w b (off + i * 6) (node ns i)

theorem Raw.below {w w' : World} {a : Option Addr} {n : Nat} {zs : List Int} {B : Nat} (h : Raw w a n zs) (hB : w.heap.size ≤ B) (hb : Below B w w') : Raw w' a n zs := by
  refine ⟨h.len, h.max, ?_⟩
  rcases h.at_ with h0 | ⟨b, off, rfl, hlt, hc⟩
  · exact .inl h0
  · exact .inr ⟨b, off, rfl, Nat.lt_of_lt_of_le hlt hb.size, fun i hi => (hb.cell (p := ⟨b, off + i, none⟩) (Nat.lt_of_lt_of_le hlt hB)).trans (hc i hi)⟩

theorem NAt.below {R : World → Option Addr → Nat → List Int → Prop} {w w' : World} {b off B : Nat} {x : NodeD} (h : NAt R w b off x) (hR : ∀ a n zs, R w a n zs → R w' a n zs) (hlt : b < B) (hb : Below B w w') : NAt R w' b off x := by
  obtain ⟨s1, n1, c1, s2, n2, c2, e0, e1, e2, e3, e4, e5, r1, r2⟩ := h
  exact ⟨s1, n1, c1, s2, n2, c2, (hb.cell (p := ⟨b, off, none⟩) hlt).trans e0, (hb.cell (p := ⟨b, off + 1, none⟩) hlt).trans e1, (hb.cell (p := ⟨b, off + 2, none⟩) hlt).trans e2, (hb.cell (p := ⟨b, off + 3, none⟩) hlt).trans e3, (hb.cell (p := ⟨b, off + 4, none⟩) hlt).trans e4, (hb.cell (p := ⟨b, off + 5, none⟩) hlt).trans e5, hR _ _ _ r1, hR _ _ _ r2⟩

theorem NRow.below {w w' : World} {a : Option Addr} {n : Nat} {ns : List NodeD} {B : Nat} (h : NRow w a n ns) (hB : w.heap.size ≤ B) (hb : Below B w w') : NRow w' a n ns := by
  refine ⟨h.len, h.small, ?_⟩
  rcases h.at_ with h0 | ⟨b, off, rfl, hlt, hc⟩
  · exact .inl h0
  · exact .inr ⟨b, off, rfl, Nat.lt_of_lt_of_le hlt hb.size, fun i hi => (hc i hi).below (fun _ _ _ hr => hr.below hB hb) (Nat.lt_of_lt_of_le hlt hB) hb⟩

theorem NRaw.below {w w' : World} {a : Option Addr} {n : Nat} {ns : List NodeD} {B : Nat} (h : NRaw w a n ns) (hB : w.heap.size ≤ B) (hb : Below B w w') : NRaw w' a n ns := by
  refine ⟨h.len, h.max, h.smax, ?_⟩
  rcases h.at_ with h0 | ⟨b, off, rfl, hlt, hc⟩
  · exact .inl h0
  · exact .inr ⟨b, off, rfl, Nat.lt_of_lt_of_le hlt hb.size, fun i hi => (hc i hi).below (fun _ _ _ hr => hr.below hB hb) (Nat.lt_of_lt_of_le hlt hB) hb⟩

theorem NRow.alloc {w : World} {a : Option Addr} {n : Nat} {ns : List NodeD} (h : NRow w a n ns) (o : Obj) : NRow (w.alloc o) a n ns := h.below (Nat.le_refl _) ((Below.refl _ _).alloc (Nat.le_refl _) _)
theorem NRow.drew {w : World} {a : Option Addr} {n : Nat} {ns : List NodeD} (h : NRow w a n ns) : NRow w.drew a n ns := h.below (Nat.le_refl _) (Below.refl _ _).drew

theorem NRow.get {w : World} {a : Option Addr} {n : Nat} {ns : List NodeD} (h : NRow w a n ns) {k : Nat} (hk : k < n) : ∃ b off, a = some ⟨b, off, none⟩ ∧ b < w.heap.size ∧ NAt Row w b (off + k * 6) (node ns k) := by
  rcases h.at_ with h0 | ⟨b, off, rfl, hlt, hc⟩
  · omega
  · exact ⟨b, off, rfl, hlt, hc k hk⟩

theorem NRaw.get {w : World} {a : Option Addr} {n : Nat} {ns : List NodeD} (h : NRaw w a n ns) {k : Nat} (hk : k < n) : ∃ b off, a = some ⟨b, off, none⟩ ∧ b < w.heap.size ∧ NAt Raw w b (off + k * 6) (node ns k) := by
  rcases h.at_ with h0 | ⟨b, off, rfl, hlt, hc⟩
  · omega
  · exact ⟨b, off, rfl, hlt, hc k hk⟩

/-- How long the texts and lists of the first k nodes may be. -/
def SmallD (ns : List NodeD) (k : Nat) : Prop := ∀ i, i < k → (node ns i).s.size ≤ 1048576 ∧ (node ns i).nums.length ≤ 1048576 ∧ (node ns i).kids.length ≤ 1048576

theorem SmallD.step {ns : List NodeD} {k : Nat} (h : SmallD ns k) (h1 : (node ns k).s.size ≤ 1048576) (h2 : (node ns k).nums.length ≤ 1048576) (h3 : (node ns k).kids.length ≤ 1048576) : SmallD ns (k + 1) := fun i hi => by
  by_cases e : i = k
  · subst e; exact ⟨h1, h2, h3⟩
  · exact h i (by omega)

theorem NRaw.row {w : World} {a : Option Addr} {n : Nat} {ns : List NodeD} (h : NRaw w a n ns) (hn : n ≤ 1048576) (hs : SmallD ns n) : NRow w a n ns := by
  refine ⟨h.len, hn, ?_⟩
  rcases h.at_ with h0 | ⟨b, off, rfl, hlt, hc⟩
  · exact .inl h0
  · refine .inr ⟨b, off, rfl, hlt, fun i hi => ?_⟩
    obtain ⟨s1, n1, c1, s2, n2, c2, e0, e1, e2, e3, e4, e5, r1, r2⟩ := hc i hi
    have := hs i hi
    exact ⟨s1, n1, c1, s2, n2, c2, e0, e1, e2, e3, e4, e5, r1.row (by have := r1.len; omega), r2.row (by have := r2.len; omega)⟩

end Go.Proofs.YtinndpnilmmmjaaGreatDoor
namespace Go.Proofs.YtinndpnilmmmjaaGreatDoor
open Go.RowKit

set_option maxHeartbeats 2000000 in
theorem szNode_any (k n m : Int) (s : ByteArray) (a1 a2 : Option Addr) (n1 n2 c1 c2 : Nat) (left : Int) (w : World) (hs : s.size ≤ 9223372036854775807) (h1 : n1 ≤ 9223372036854775807) (h2 : n2 ≤ 9223372036854775807) (hl : 0 ≤ left) (hl2 : left ≤ 1048576) :
    Calls Tryz.prog 52 #[.agg #[.int .i64 k, .int .i64 n, .int .i64 m, .string s, .slice a1 n1 c1, .slice a2 n2 c2], .int .i64 left] w fun e w' => ∃ r : Int, e = .returned (.int .i64 r) ∧ (r = -1 ∨ (0 ≤ r ∧ r ≤ left ∧ s.size ≤ 1048576 ∧ n1 ≤ 1048576 ∧ n2 ≤ 1048576)) ∧ Below w.heap.size w w' := by
  by_cases hA : left - s.size < 0
  · go_enter Tryz.func52, Tryz.ntmps52
    go_wp2_with fail
    go_ret
    exact ⟨_, rfl, .inl rfl, (Below.refl _ _).alloc (Nat.le_refl _) _⟩
  by_cases hB : left - s.size < n1
  · go_enter Tryz.func52, Tryz.ntmps52
    go_wp2_with fail
    refine (szIntS_big _ _ _ _ _ h1 (by omega) (by omega) hB).mono ?_
    rintro e w' ⟨rfl, rfl⟩
    go_wp2
    go_ret
    exact ⟨_, rfl, .inl rfl, (Below.refl _ _).alloc (Nat.le_refl _) _⟩
  have hq1 : ¬ (left - s.size - n1 < 0) := by omega
  by_cases hC : left - s.size - n1 < n2
  · go_enter Tryz.func52, Tryz.ntmps52
    go_wp2_with fail
    refine (szIntS_ok _ _ _ _ _ (by omega) (by omega)).mono ?_
    rintro e w' ⟨rfl, rfl⟩
    go_wp2_with fail
    refine (szIntS_big _ _ _ _ _ h2 (by omega) (by omega) hC).mono ?_
    rintro e w' ⟨rfl, rfl⟩
    go_wp2
    go_ret
    exact ⟨_, rfl, .inl rfl, (Below.refl _ _).alloc (Nat.le_refl _) _⟩
  have hq2 : ¬ (left - s.size - n1 - n2 < 0) := by omega
  go_enter Tryz.func52, Tryz.ntmps52
  go_wp2_with fail
  refine (szIntS_ok _ _ _ _ _ (by omega) (by omega)).mono ?_
  rintro e w' ⟨rfl, rfl⟩
  go_wp2_with fail
  refine (szIntS_ok _ _ _ _ _ (by omega) (by omega)).mono ?_
  rintro e w' ⟨rfl, rfl⟩
  go_wp2
  go_ret
  exact ⟨_, rfl, .inr ⟨by omega, by omega, by omega, by omega, by omega⟩, (Below.refl _ _).alloc (Nat.le_refl _) _⟩

set_option maxHeartbeats 2000000 in
theorem szNodeS_any (a : Option Addr) (n cap : Nat) (ns : List NodeD) (left : Int) (w : World) (h : NRaw w a n ns) (hl : 0 ≤ left) (hl2 : left ≤ 1048576) :
    Calls Tryz.prog 23 #[.slice a n cap, .int .i64 left] w fun e w' => ∃ r : Int, e = .returned (.int .i64 r) ∧ (r = -1 ∨ (0 ≤ r ∧ r ≤ left ∧ n ≤ 1048576 ∧ SmallD ns n)) ∧ Below w.heap.size w w' := by
  have hmx := h.max
  by_cases hA : left < n
  · go_enter Tryz.func23, Tryz.ntmps23
    go_wp2
    go_ret
    exact ⟨_, rfl, .inl rfl, Below.refl _ _⟩
  have H := hide h
  clear h
  have hn2 : (n : Int) ≤ left := by omega
  clear hA
  go_enter Tryz.func23, Tryz.ntmps23
  go_wp2_with fail
  go_loopw [1, 5] (fun l i wr => ∃ (k : Nat) (r : Int), k ≤ n ∧ i = .int .i64 k ∧ l = .int .i64 r ∧ Hid (0 ≤ r ∧ r ≤ left ∧ SmallD ns k ∧ Below w.heap.size w wr)) (fun _ i _ => n - (intOf i).toNat)
  case atStart => exact ⟨0, left - n, Nat.zero_le _, rfl, rfl, by omega, by omega, fun i hi => absurd hi (Nat.not_lt_zero _), Below.refl _ _⟩
  case round =>
    obtain ⟨k, r, hk, rfl, rfl, HX⟩ := hrel
    by_cases hlt : k < n
    · obtain ⟨hr0, hr1, hsm, hbl⟩ := unhide HX
      obtain ⟨b, off, rfl, hbs, s1, n1, c1, s2, n2, c2, e0, e1, e2, e3, e4, e5, r1, r2⟩ := ((unhide H).below (Nat.le_refl _) hbl).get hlt
      have HSM := hide hsm
      have HBL := hide hbl
      have HR1 := hide r1
      have HR2 := hide r2
      have HN : Hid ((node ns k).s.size ≤ 9223372036854775807 ∧ n1 ≤ 9223372036854775807 ∧ n2 ≤ 9223372036854775807) := ⟨(unhide H).smax k hlt, r1.max, r2.max⟩
      clear HX hsm hbl r1 r2
      obtain ⟨xk, hxk⟩ : ∃ x, x = (node ns k).k := ⟨_, rfl⟩
      obtain ⟨xn, hxn⟩ : ∃ x, x = (node ns k).n := ⟨_, rfl⟩
      obtain ⟨xm, hxm⟩ : ∃ x, x = (node ns k).m := ⟨_, rfl⟩
      obtain ⟨xs, hxs⟩ : ∃ x, x = (node ns k).s := ⟨_, rfl⟩
      rw [← hxk] at e0
      rw [← hxn] at e1
      rw [← hxm] at e2
      rw [← hxs] at e3 HN
      have HXS := hide hxs
      clear hxk hxn hxm hxs
      go_wp2_with fail
      refine (szNode_any _ _ _ _ _ _ _ _ _ _ _ _ (unhide HN).1 (unhide HN).2.1 (unhide HN).2.2 hr0 (by omega)).mono ?_
      rintro e w1 ⟨r1, rfl, hr, hb1⟩
      have HBL1 := hide ((unhide HBL).trans (hb1.mono (unhide HBL).size))
      clear hb1 HBL e0 e1 e2 e3 e4 e5
      rcases hr with rfl | ⟨q0, q1, q2, q3, q4⟩
      · go_wp2
        go_ret
        exact ⟨_, rfl, .inl rfl, unhide HBL1⟩
      · have hq : ¬ (r1 < 0) := by omega
        have HS1 : Hid (SmallD ns (k + 1)) := (unhide HSM).step (by rw [← unhide HXS]; exact q2) (by rw [(unhide HR1).len]; exact q3) (by rw [(unhide HR2).len]; exact q4)
        clear HR1 HR2 HSM
        go_wp2
        go_roundw
        case rel => exact ⟨k + 1, r1, by omega, by go_num, rfl, q0, by omega, unhide HS1, unhide HBL1⟩
        case measure => simp [intOf]; omega
    · have hkn : k = n := by omega
      subst hkn
      obtain ⟨hr0, hr1, hsm, hbl⟩ := unhide HX
      have HSM := hide hsm
      have HBL := hide hbl
      clear HX hsm hbl
      go_wp2
      go_ret
      exact ⟨_, rfl, .inr ⟨hr0, hr1, by omega, unhide HSM⟩, unhide HBL⟩

set_option maxHeartbeats 2000000 in
theorem szTree_any (a : Option Addr) (n cap : Nat) (ns : List NodeD) (left : Int) (w : World) (h : NRaw w a n ns) (hl : 0 ≤ left) (hl2 : left ≤ 1048576) :
    Calls Tryz.prog 7 #[.agg #[.slice a n cap], .int .i64 left] w fun e w' => ∃ r : Int, e = .returned (.int .i64 r) ∧ (r = -1 ∨ (0 ≤ r ∧ r ≤ left ∧ n ≤ 1048576 ∧ SmallD ns n)) ∧ Below w.heap.size w w' := by
  go_enter Tryz.func7, Tryz.ntmps7
  go_wp2_with fail
  refine (szNodeS_any _ _ _ ns _ _ (h.below (Nat.le_refl _) ((Below.refl _ _).alloc (Nat.le_refl _) _)) hl hl2).mono ?_
  rintro e w1 ⟨r, rfl, hr, hb⟩
  have hB := ((Below.refl w.heap.size w).alloc (Nat.le_refl _) (.cells #[.slice a n cap] 24)).trans (hb.mono (by simp))
  clear hb
  rcases hr with rfl | ⟨q0, q1, q2, q3⟩
  · go_wp2
    go_ret
    exact ⟨_, rfl, .inl rfl, hB⟩
  · have hq : ¬ (r < 0) := by omega
    go_wp2
    go_ret
    exact ⟨_, rfl, .inr ⟨q0, q1, q2, q3⟩, hB⟩

end Go.Proofs.YtinndpnilmmmjaaGreatDoor
namespace Go.Proofs.YtinndpnilmmmjaaGreatDoor
open Go.RowKit

/-- The slice (a, n, _) reads as the numbers zs, lies in a block from B on, and may be written. -/
structure Own (w : World) (B : Nat) (a : Option Addr) (n : Nat) (zs : List Int) : Prop where
  len : zs.length = n
  small : n ≤ 17592186044416
  at_ : n = 0 ∨ ∃ g off, a = some ⟨g, off, none⟩ ∧ B ≤ g ∧ g < w.heap.size ∧ (∀ i, i < n → w.cell? ⟨g, off + i, none⟩ = some (.int .i64 (zs.getD i 0))) ∧ (∀ i, i < n → w.frozen? ⟨g, off + i, none⟩ = false)

theorem Own.row {w : World} {B : Nat} {a : Option Addr} {n : Nat} {zs : List Int} (h : Own w B a n zs) : Row w a n zs := by
  refine ⟨h.len, h.small, ?_⟩
  rcases h.at_ with h0 | ⟨g, off, rfl, _, hlt, hc, _⟩
  · exact .inl h0
  · exact .inr ⟨g, off, rfl, hlt, hc⟩

theorem Own.mono {w : World} {B B' : Nat} {a : Option Addr} {n : Nat} {zs : List Int} (h : Own w B a n zs) (hB : B' ≤ B) : Own w B' a n zs := by
  refine ⟨h.len, h.small, ?_⟩
  rcases h.at_ with h0 | ⟨g, off, rfl, hg, r⟩
  · exact .inl h0
  · exact .inr ⟨g, off, rfl, by omega, r⟩

theorem Own.below {w w' : World} {a : Option Addr} {n : Nat} {zs : List Int} {B C : Nat} (h : Own w C a n zs) (hB : w.heap.size ≤ B) (hb : Below B w w') : Own w' C a n zs := by
  refine ⟨h.len, h.small, ?_⟩
  rcases h.at_ with h0 | ⟨g, off, rfl, hg, hlt, hc, hf⟩
  · exact .inl h0
  · exact .inr ⟨g, off, rfl, hg, Nat.lt_of_lt_of_le hlt hb.size, fun i hi => (hb.cell (p := ⟨g, off + i, none⟩) (Nat.lt_of_lt_of_le hlt hB)).trans (hc i hi), fun i hi => (hb.frozen (p := ⟨g, off + i, none⟩) (Nat.lt_of_lt_of_le hlt hB)).trans (hf i hi)⟩

theorem Blk.own {w : World} {B g n : Nat} {zs : List Int} (h : Blk w g zs) (hn : zs.length = n) (hs : n ≤ 17592186044416) (hg : B ≤ g) : Own w B (some ⟨g, 0, none⟩) n zs :=
  ⟨hn, hs, .inr ⟨g, 0, rfl, hg, h.lt, fun i hi => by simpa using h.cell (i := i) (by omega), fun i hi => h.free _⟩⟩

/-- Block k holds cells of the slice (a, n, _). -/
def At (a : Option Addr) (n k : Nat) : Prop := n ≠ 0 ∧ ∃ p, a = some p ∧ p.block = k

theorem at_self {g off n : Nat} (h : n ≠ 0) : At (some ⟨g, off, none⟩) n g := ⟨h, _, rfl, rfl⟩
theorem at_eq {g off n k : Nat} (h : At (some ⟨g, off, none⟩) n k) : g = k := by obtain ⟨_, p, hp, hk⟩ := h; cases hp; exact hk

/-- w' is w but for the blocks in S, and for new ones. -/
structure But (S : Nat → Prop) (w w' : World) : Prop where
  os : w'.os = w.os
  tape : w'.tape = w.tape
  output : w'.output = w.output
  size : w.heap.size ≤ w'.heap.size
  block : ∀ k, k < w.heap.size → ¬ S k → w'.heap[k]? = w.heap[k]?

theorem But.refl (S : Nat → Prop) (w : World) : But S w w := ⟨rfl, rfl, rfl, Nat.le_refl _, fun _ _ _ => rfl⟩

theorem But.trans {S T : Nat → Prop} {w w1 w2 : World} (h : But S w w1) (k : But T w1 w2) : But (fun x => S x ∨ T x) w w2 :=
  ⟨k.os.trans h.os, k.tape.trans h.tape, k.output.trans h.output, Nat.le_trans h.size k.size, fun i hi hn => (k.block i (Nat.lt_of_lt_of_le hi h.size) (fun e => hn (.inr e))).trans (h.block i hi (fun e => hn (.inl e)))⟩

theorem But.mono {S T : Nat → Prop} {w w1 : World} (h : But S w w1) (hs : ∀ k, S k → T k) : But T w w1 := ⟨h.os, h.tape, h.output, h.size, fun k hk hn => h.block k hk (fun e => hn (hs k e))⟩

theorem But.of_below {S : Nat → Prop} {w w' : World} (h : Below w.heap.size w w') : But S w w' := ⟨h.os, h.tape, h.output, h.size, fun k hk _ => h.block k hk⟩

theorem But.setCell {S : Nat → Prop} {w w' : World} (h : But S w w') {p : Addr} (hp : S p.block) (v : Value) : But S w (w'.setCell p v) :=
  ⟨h.os, h.tape, h.output, by simpa using h.size, fun k hk hn => by
    rw [heap_setCell_other w' p k v (fun e => hn (by rw [e]; exact hp))]
    exact h.block k hk hn⟩

theorem But.alloc {S : Nat → Prop} {w w' : World} (h : But S w w') (o : Obj) : But S w (w'.alloc o) :=
  ⟨h.os, h.tape, h.output, by have := h.size; simp; omega, fun k hk hn => (Below.heap_alloc w' o k (Nat.lt_of_lt_of_le hk h.size)).trans (h.block k hk hn)⟩

theorem But.below {S : Nat → Prop} {B : Nat} {w w' : World} (h : But S w w') (hB : B ≤ w.heap.size) (hs : ∀ k, S k → B ≤ k) : Below B w w' :=
  ⟨h.os, h.tape, h.output, h.size, fun k hk => h.block k (Nat.lt_of_lt_of_le hk hB) (fun e => by have := hs k e; omega)⟩

/-- Two slices with cells lie in different blocks. -/
def Apart (a : Option Addr) (n : Nat) (b : Option Addr) (m : Nat) : Prop := ∀ k, At a n k → ¬ At b m k

theorem Apart.symm {a b : Option Addr} {n m : Nat} (h : Apart a n b m) : Apart b m a n := fun k h1 h2 => h k h2 h1

theorem But.own {S : Nat → Prop} {b : Option Addr} {m B : Nat} {w w' : World} {ys : List Int} (h : But S w w') (ho : Own w B b m ys) (hap : ∀ k, S k → ¬ At b m k) : Own w' B b m ys := by
  refine ⟨ho.len, ho.small, ?_⟩
  rcases ho.at_ with h0 | ⟨g, off, rfl, hg, hlt, hc, hf⟩
  · exact .inl h0
  · by_cases hm : m = 0
    · exact .inl hm
    have hb := h.block g hlt (fun e => hap g e ⟨hm, _, rfl, rfl⟩)
    exact .inr ⟨g, off, rfl, hg, Nat.lt_of_lt_of_le hlt h.size, fun i hi => (World.cell?_of_block (w := w) (a := ⟨g, off + i, none⟩) hb).trans (hc i hi), fun i hi => (World.frozen?_of_block (w := w) (a := ⟨g, off + i, none⟩) hb).trans (hf i hi)⟩

theorem But.row {S : Nat → Prop} {b : Option Addr} {m : Nat} {w w' : World} {ys : List Int} (h : But S w w') (ho : Row w b m ys) (hap : ∀ k, S k → ¬ At b m k) : Row w' b m ys := by
  refine ⟨ho.len, ho.small, ?_⟩
  rcases ho.at_ with h0 | ⟨g, off, rfl, hlt, hc⟩
  · exact .inl h0
  · by_cases hm : m = 0
    · exact .inl hm
    have hb := h.block g hlt (fun e => hap g e ⟨hm, _, rfl, rfl⟩)
    exact .inr ⟨g, off, rfl, Nat.lt_of_lt_of_le hlt h.size, fun i hi => (World.cell?_of_block (w := w) (a := ⟨g, off + i, none⟩) hb).trans (hc i hi)⟩

theorem Own.low {w : World} {B : Nat} {a : Option Addr} {n : Nat} {zs : List Int} (h : Own w B a n zs) {k : Nat} (hk : At a n k) : B ≤ k := by
  rcases h.at_ with h0 | ⟨g, off, rfl, hg, _⟩
  · exact absurd h0 hk.1
  · have := at_eq hk; omega

theorem Row.hi {w : World} {a : Option Addr} {n : Nat} {zs : List Int} (h : Row w a n zs) {k : Nat} (hk : At a n k) : k < w.heap.size := by
  rcases h.at_ with h0 | ⟨g, off, rfl, hg, _⟩
  · exact absurd h0 hk.1
  · have := at_eq hk; omega

/-- n marks from k on. -/
def marks (k : Int) (n : Nat) : List Int := (List.range n).map fun (i : Nat) => k + (i : Int)

theorem marks_len (k : Int) (n : Nat) : (marks k n).length = n := by simp [marks]
theorem marks_get (k : Int) (n i : Nat) (h : i < n) : (marks k n).getD i 0 = k + i := by simp [marks, h]

end Go.Proofs.YtinndpnilmmmjaaGreatDoor
namespace Go.Proofs.YtinndpnilmmmjaaGreatDoor
open Go.RowKit

theorem info_node : (Tryz.prog.info? 47).map (fun i => (i.zero, i.size, i.bytes)) = some (some (.agg #[.int .i64 0, .int .i64 0, .int .i64 0, .string ⟨#[]⟩, .slice none 0 0, .slice none 0 0]), 6, 88) := by kernel_rfl

/-- The first k of n nodes lie in block g, each list in a block of its own, all below H. -/
structure NMid (w : World) (g n k H : Nat) (ns : List NodeD) (f : Nat → Value) (s1 s2 : Nat → Nat) : Prop where
  row : w.rowIs g 47 (n * 6) f
  hi : H ≤ w.heap.size
  cells : ∀ i, i < k → f (i * 6) = .int .i64 (node ns i).k ∧ f (i * 6 + 1) = .int .i64 (node ns i).n ∧ f (i * 6 + 2) = .int .i64 (node ns i).m ∧ f (i * 6 + 3) = .string (node ns i).s ∧ f (i * 6 + 4) = .slice (some ⟨s1 i, 0, none⟩) (node ns i).nums.length (node ns i).nums.length ∧ f (i * 6 + 5) = .slice (some ⟨s2 i, 0, none⟩) (node ns i).kids.length (node ns i).kids.length
  blk : ∀ i, i < k → Blk w (s1 i) (node ns i).nums ∧ Blk w (s2 i) (node ns i).kids
  low : ∀ i, i < k → g < s1 i ∧ s1 i < s2 i ∧ s2 i < H
  apart : ∀ i j, i < j → j < k → s2 i < s1 j

theorem NMid.below {w w' : World} {g n k H B : Nat} {ns : List NodeD} {f : Nat → Value} {s1 s2 : Nat → Nat} (h : NMid w g n k H ns f s1 s2) (hB : w.heap.size ≤ B) (hb : Below B w w') : NMid w' g n k H ns f s1 s2 :=
  ⟨h.row.of_block (hb.block g (Nat.lt_of_lt_of_le h.row.lt hB)), Nat.le_trans h.hi hb.size, h.cells, fun i hi => ⟨(h.blk i hi).1.below hB hb, (h.blk i hi).2.below hB hb⟩, h.low, h.apart⟩

theorem NMid.alloc {w : World} {g n k H : Nat} {ns : List NodeD} {f : Nat → Value} {s1 s2 : Nat → Nat} (h : NMid w g n k H ns f s1 s2) (o : Obj) : NMid (w.alloc o) g n k H ns f s1 s2 := h.below (Nat.le_refl _) ((Below.refl _ _).alloc (Nat.le_refl _) _)

theorem NMid.but {S : Nat → Prop} {w w' : World} {g n k H : Nat} {ns : List NodeD} {f : Nat → Value} {s1 s2 : Nat → Nat} (h : NMid w g n k H ns f s1 s2) (hb : But S w w') (hn : ∀ x, g ≤ x → x < H → ¬ S x) (hg : g < H) : NMid w' g n k H ns f s1 s2 :=
  ⟨h.row.of_block (hb.block g h.row.lt (hn g (Nat.le_refl _) hg)), Nat.le_trans h.hi hb.size, h.cells,
    fun i hi => ⟨(hb.block _ (h.blk i hi).1.lt (hn _ (by have := h.low i hi; omega) (by have := h.low i hi; omega))).trans (h.blk i hi).1, (hb.block _ (h.blk i hi).2.lt (hn _ (by have := h.low i hi; omega) (by have := h.low i hi; omega))).trans (h.blk i hi).2⟩, h.low, h.apart⟩

/-- What toNodeS gives: the nodes in block g, new memory below H. -/
def NNew (w : World) (g n H : Nat) (ns : List NodeD) : Prop := g < H ∧ ns.length = n ∧ n ≤ 1048576 ∧ SmallD ns n ∧ ∃ f s1 s2, NMid w g n n H ns f s1 s2

theorem NNew.below {w w' : World} {g n H B : Nat} {ns : List NodeD} (h : NNew w g n H ns) (hB : w.heap.size ≤ B) (hb : Below B w w') : NNew w' g n H ns := by
  obtain ⟨h0, h1, h2, h3, f, s1, s2, h4⟩ := h
  exact ⟨h0, h1, h2, h3, f, s1, s2, h4.below hB hb⟩
theorem NNew.alloc {w : World} {g n H : Nat} {ns : List NodeD} (h : NNew w g n H ns) (o : Obj) : NNew (w.alloc o) g n H ns := h.below (Nat.le_refl _) ((Below.refl _ _).alloc (Nat.le_refl _) _)
theorem NNew.but {S : Nat → Prop} {w w' : World} {g n H : Nat} {ns : List NodeD} (h : NNew w g n H ns) (hb : But S w w') (hn : ∀ x, g ≤ x → x < H → ¬ S x) : NNew w' g n H ns := by
  obtain ⟨h0, h1, h2, h3, f, s1, s2, h4⟩ := h
  exact ⟨h0, h1, h2, h3, f, s1, s2, h4.but hb hn h0⟩

theorem NNew.row {w : World} {g n H : Nat} {ns : List NodeD} (h : NNew w g n H ns) : NRow w (some ⟨g, 0, none⟩) n ns := by
  obtain ⟨h0, h1, h2, h3, f, s1, s2, h4⟩ := h
  refine ⟨h1, h2, .inr ⟨g, 0, rfl, h4.row.lt, fun i hi => ?_⟩⟩
  obtain ⟨e0, e1, e2, e3, e4, e5⟩ := h4.cells i hi
  obtain ⟨b1, b2⟩ := h4.blk i hi
  have hs := h3 i hi
  refine ⟨_, _, (node ns i).nums.length, _, _, (node ns i).kids.length, ?_, ?_, ?_, ?_, ?_, ?_, b1.row rfl (by omega), b2.row rfl (by omega)⟩
  · rw [Nat.zero_add, h4.row.cell (by omega), e0]
  · rw [Nat.zero_add, h4.row.cell (by omega), e1]
  · rw [Nat.zero_add, h4.row.cell (by omega), e2]
  · rw [Nat.zero_add, h4.row.cell (by omega), e3]
  · rw [Nat.zero_add, h4.row.cell (by omega), e4]
  · rw [Nat.zero_add, h4.row.cell (by omega), e5]

set_option maxHeartbeats 2000000 in
theorem toNode_any (k n m : Int) (s : ByteArray) (a1 a2 : Option Addr) (n1 n2 c1 c2 : Nat) (nums kids : List Int) (w : World) (h1 : Row w a1 n1 nums) (h2 : Row w a2 n2 kids) :
    Calls Tryz.prog 57 #[.agg #[.int .i64 k, .int .i64 n, .int .i64 m, .string s, .slice a1 n1 c1, .slice a2 n2 c2]] w fun e w' => ∃ g1 g2, e = .returned (.agg #[.int .i64 k, .int .i64 n, .int .i64 m, .string s, .slice (some ⟨g1, 0, none⟩) n1 n1, .slice (some ⟨g2, 0, none⟩) n2 n2]) ∧ w.heap.size ≤ g1 ∧ g1 < g2 ∧ Blk w' g1 nums ∧ Blk w' g2 kids ∧ Below w.heap.size w w' := by
  go_enter Tryz.func57, Tryz.ntmps57
  go_wp2_with fail
  refine (toIntS_any _ _ _ nums _ (by exact h1.below (Nat.le_refl _) (by repeat (first | exact Below.refl _ _ | refine Below.setCell ?_ (by simp <;> omega) _ | refine Below.alloc ?_ (by simp <;> omega) _)))).mono ?_
  rintro e w1 ⟨g1, rfl, hg1, hb1, hbe1⟩
  obtain ⟨hc, hf⟩ := bcell hbe1
  have hz := hbe1.size
  have hbW : Below w.heap.size w w1 := Below.trans (by repeat (first | exact Below.refl _ _ | refine Below.setCell ?_ (by simp <;> omega) _ | refine Below.alloc ?_ (by simp <;> omega) _)) (hbe1.mono (by simp <;> omega))
  simp at hc hf hz hg1
  have hz0 : w.heap.size < w1.heap.size := by omega
  have hz1 : w.heap.size + 1 < w1.heap.size := by omega
  have hz3 : w.heap.size + 1 + 1 < w1.heap.size := by omega
  clear hbe1
  go_wp2_with fail
  refine (toIntS_any _ _ _ kids _ (by exact h2.below (Nat.le_refl _) (hbW.setCell (by simp <;> omega) _))).mono ?_
  rintro e w2 ⟨g2, rfl, hg2, hb2, hbe2⟩
  obtain ⟨hc2, hf2⟩ := bcell hbe2
  have hz2 := hbe2.size
  have hbW2 : Below w.heap.size w w2 := (hbW.setCell (p := ⟨w.heap.size + 1 + 1, 4, none⟩) (by simp <;> omega) _).trans (hbe2.mono (by simp <;> omega))
  have hb1' : Blk w2 g1 nums := (hb1.other (p := ⟨w.heap.size + 1 + 1, 4, none⟩) (by simp; omega) _).below (Nat.le_refl _) hbe2
  simp at hc2 hf2 hz2 hg2
  clear hbe2
  go_wp2
  refine bodyPost_ret (v := .agg #[.int .i64 k, .int .i64 n, .int .i64 m, .string s, .slice (some ⟨g1, 0, none⟩) n1 n1, .slice (some ⟨g2, 0, none⟩) n2 n2]) (by simp [results, Tryz.results57, go_sem, hc2, hc, hz1]) rfl ⟨g1, g2, rfl, by omega, ?_, ?_, ?_, ?_⟩
  · have := hb1.lt; omega
  · repeat (first | with_reducible exact hb1' | refine Blk.other ?_ (by simp; omega) _)
  · repeat (first | with_reducible exact hb2 | refine Blk.other ?_ (by simp; omega) _)
  · repeat (first | with_reducible exact hbW2 | refine Below.setCell ?_ (by simp <;> omega) _)

theorem six_set {w : World} {g n k H g1 g2 : Nat} {ns : List NodeD} {f : Nat → Value} {s1 s2 : Nat → Nat} {w1 : World} (h : NMid w g n k H ns f s1 s2) (hk : k < n) (hb : Below w.heap.size w w1)
    (h1 : w.heap.size ≤ g1) (h2 : g1 < g2) (b1 : Blk w1 g1 (node ns k).nums) (b2 : Blk w1 g2 (node ns k).kids) :
    ∃ f' s1' s2', NMid ((((((w1.setCell ⟨g, k * 6, none⟩ (.int .i64 (node ns k).k)).setCell ⟨g, k * 6 + 1, none⟩ (.int .i64 (node ns k).n)).setCell ⟨g, k * 6 + 2, none⟩ (.int .i64 (node ns k).m)).setCell ⟨g, k * 6 + 3, none⟩ (.string (node ns k).s)).setCell ⟨g, k * 6 + 4, none⟩ (.slice (some ⟨g1, 0, none⟩) (node ns k).nums.length (node ns k).nums.length)).setCell ⟨g, k * 6 + 5, none⟩ (.slice (some ⟨g2, 0, none⟩) (node ns k).kids.length (node ns k).kids.length)) g n (k + 1) w1.heap.size ns f' s1' s2' := by
  have hg := h.row.lt
  have hm := h.below (Nat.le_refl _) hb
  have hr := (((((hm.row.set (k * 6) (.int .i64 (node ns k).k)).set (k * 6 + 1) (.int .i64 (node ns k).n)).set (k * 6 + 2) (.int .i64 (node ns k).m)).set (k * 6 + 3) (.string (node ns k).s)).set (k * 6 + 4) (.slice (some ⟨g1, 0, none⟩) (node ns k).nums.length (node ns k).nums.length)).set (k * 6 + 5) (.slice (some ⟨g2, 0, none⟩) (node ns k).kids.length (node ns k).kids.length)
  refine ⟨_, fun i => if i = k then g1 else s1 i, fun i => if i = k then g2 else s2 i, hr, by simp, ?_, ?_, ?_, ?_⟩
  · intro i hi
    by_cases e : i = k
    · subst e
      refine ⟨?_, ?_, ?_, ?_, ?_, ?_⟩
      · (try dsimp only); rw [if_neg (by omega), if_neg (by omega), if_neg (by omega), if_neg (by omega), if_neg (by omega), if_pos rfl]
      · (try dsimp only); rw [if_neg (by omega), if_neg (by omega), if_neg (by omega), if_neg (by omega), if_pos rfl]
      · (try dsimp only); rw [if_neg (by omega), if_neg (by omega), if_neg (by omega), if_pos rfl]
      · (try dsimp only); rw [if_neg (by omega), if_neg (by omega), if_pos rfl]
      · (try dsimp only); rw [if_neg (by omega), if_pos rfl, if_pos rfl]
      · (try dsimp only); rw [if_pos rfl, if_pos rfl]
    · obtain ⟨c0, c1, c2, c3, c4, c5⟩ := h.cells i (by omega)
      refine ⟨?_, ?_, ?_, ?_, ?_, ?_⟩
      · (try dsimp only); rw [if_neg (by omega), if_neg (by omega), if_neg (by omega), if_neg (by omega), if_neg (by omega), if_neg (by omega)]; exact c0
      · (try dsimp only); rw [if_neg (by omega), if_neg (by omega), if_neg (by omega), if_neg (by omega), if_neg (by omega), if_neg (by omega)]; exact c1
      · (try dsimp only); rw [if_neg (by omega), if_neg (by omega), if_neg (by omega), if_neg (by omega), if_neg (by omega), if_neg (by omega)]; exact c2
      · (try dsimp only); rw [if_neg (by omega), if_neg (by omega), if_neg (by omega), if_neg (by omega), if_neg (by omega), if_neg (by omega)]; exact c3
      · (try dsimp only); rw [if_neg (by omega), if_neg (by omega), if_neg (by omega), if_neg (by omega), if_neg (by omega), if_neg (by omega), if_neg e]; exact c4
      · (try dsimp only); rw [if_neg (by omega), if_neg (by omega), if_neg (by omega), if_neg (by omega), if_neg (by omega), if_neg (by omega), if_neg e]; exact c5
  · intro i hi
    by_cases e : i = k
    · subst e
      (try dsimp only); rw [if_pos rfl, if_pos rfl]
      exact ⟨(((((b1.other (by simp; omega) _).other (by simp; omega) _).other (by simp; omega) _).other (by simp; omega) _).other (by simp; omega) _).other (by simp; omega) _, (((((b2.other (by simp; omega) _).other (by simp; omega) _).other (by simp; omega) _).other (by simp; omega) _).other (by simp; omega) _).other (by simp; omega) _⟩
    · have hl := h.low i (by omega)
      obtain ⟨d1, d2⟩ := hm.blk i (by omega)
      (try dsimp only); rw [if_neg e, if_neg e]
      exact ⟨(((((d1.other (by simp; omega) _).other (by simp; omega) _).other (by simp; omega) _).other (by simp; omega) _).other (by simp; omega) _).other (by simp; omega) _, (((((d2.other (by simp; omega) _).other (by simp; omega) _).other (by simp; omega) _).other (by simp; omega) _).other (by simp; omega) _).other (by simp; omega) _⟩
  · intro i hi
    by_cases e : i = k
    · subst e
      have := b2.lt
      (try dsimp only); rw [if_pos rfl, if_pos rfl]; omega
    · have hl := h.low i (by omega)
      have := h.hi
      have := hb.size
      (try dsimp only); rw [if_neg e, if_neg e]; omega
  · intro i j hij hj
    (try dsimp only)
    rw [if_neg (by omega)]
    by_cases e : j = k
    · rw [if_pos e]; have := h.low i (by omega); have := h.hi; omega
    · rw [if_neg e]; exact h.apart i j hij (by omega)

set_option maxHeartbeats 4000000 in
theorem toNodeS_any (a : Option Addr) (n cap : Nat) (ns : List NodeD) (w : World) (h : NRow w a n ns) (hsm : SmallD ns n) :
    Calls Tryz.prog 28 #[.slice a n cap] w fun e w' => ∃ g, e = .returned (.slice (some ⟨g, 0, none⟩) n n) ∧ w.heap.size ≤ g ∧ NNew w' g n w'.heap.size ns ∧ Below w.heap.size w w' := by
  have hn := h.small
  have H := hide h
  have HSM := hide hsm
  clear h hsm
  obtain ⟨i0, hi, hz0, hz1, hz2⟩ := info_parts info_node
  go_enter Tryz.func28, Tryz.ntmps28
  go_wp2_with (at_make; refine wpList_make_full _ rfl _ _ 27 rfl w.heap.size 47 i0 (.agg #[.int .i64 0, .int .i64 0, .int .i64 0, .string ⟨#[]⟩, .slice none 0 0, .slice none 0 0]) 6 Tryz.underlying27 hi hz0 hz1 _ _ _ _ n rfl rfl rfl rfl (by rw [hz2]; omega) (by unfold maxLen; omega) (Nat.le_refl _) ?_; intro w1 hown hgrow)
  have hbel : Below w.heap.size w w1 := (Below.refl _ _).grown hgrow (Nat.le_refl _) (by simp)
  have hrow : ∃ f, w1.rowIs w.heap.size 47 (n * 6) f := by
    rcases hown.2 with ⟨h', _⟩ | ⟨g', cap', cur, h', _, hg, _, _, hs, _⟩
    · simp at h'
    · simp only [Value.slice.injEq, Option.some.injEq, Addr.mk.injEq, and_true, true_and] at h'
      obtain ⟨rfl, rfl⟩ := h'
      exact ⟨fun i => cur.getD i default, cur, hg, hs, fun i hi => by simp [Array.getD, show i < cur.size by omega]⟩
  obtain ⟨f0, hrow⟩ := hrow
  have HST : Hid (NMid w1 w.heap.size n 0 w1.heap.size ns f0 (fun _ => 0) (fun _ => 0)) := ⟨hrow, Nat.le_refl _, fun i hi => by omega, fun i hi => by omega, fun i hi => by omega, fun i j _ hj => by omega⟩
  have HBEL := hide hbel
  clear hown hgrow hi hz0 hz1 hz2 hrow hbel
  go_wp2_with fail
  go_loopw [4] (fun i wr => ∃ k : Nat, k ≤ n ∧ i = .int .i64 k ∧ Hid (∃ f s1 s2, NMid wr w.heap.size n k wr.heap.size ns f s1 s2) ∧ Hid (Below w.heap.size w wr)) (fun i _ => n - (intOf i).toNat)
  case atStart => exact ⟨0, Nat.zero_le _, rfl, ⟨_, _, _, unhide HST⟩, unhide HBEL⟩
  case round =>
    obtain ⟨k, hk, rfl, HX, HB⟩ := hrel
    clear HST HBEL
    by_cases hlt : k < n
    · obtain ⟨b, off, rfl, hbs, t1, n1, c1, t2, n2, c2, e0, e1, e2, e3, e4, e5, r1, r2⟩ := ((unhide H).below (Nat.le_refl _) (unhide HB)).get hlt
      have HR1 := hide r1
      have HR2 := hide r2
      obtain ⟨f, s1, s2, hm⟩ := unhide HX
      have HM := hide hm
      have x0 := hm.row.cell (i := k * 6) (by omega)
      have x1 := hm.row.cell (i := k * 6 + 1) (by omega)
      have x2 := hm.row.cell (i := k * 6 + 2) (by omega)
      have x3 := hm.row.cell (i := k * 6 + 3) (by omega)
      have x4 := hm.row.cell (i := k * 6 + 4) (by omega)
      have x5 := hm.row.cell (i := k * 6 + 5) (by omega)
      have y0 := hm.row.frozen (k * 6)
      have y1 := hm.row.frozen (k * 6 + 1)
      have y2 := hm.row.frozen (k * 6 + 2)
      have y3 := hm.row.frozen (k * 6 + 3)
      have y4 := hm.row.frozen (k * 6 + 4)
      have y5 := hm.row.frozen (k * 6 + 5)
      have hgl := hm.row.lt
      clear HX r1 r2 hm
      obtain ⟨xk, hxk⟩ : ∃ x, x = (node ns k).k := ⟨_, rfl⟩
      obtain ⟨xn, hxn⟩ : ∃ x, x = (node ns k).n := ⟨_, rfl⟩
      obtain ⟨xm, hxm⟩ : ∃ x, x = (node ns k).m := ⟨_, rfl⟩
      obtain ⟨xs, hxs⟩ : ∃ x, x = (node ns k).s := ⟨_, rfl⟩
      rw [← hxk] at e0
      rw [← hxn] at e1
      rw [← hxm] at e2
      rw [← hxs] at e3
      have HXX := hide (And.intro hxk (And.intro hxn (And.intro hxm hxs)))
      clear hxk hxn hxm hxs
      go_wp2_with fail
      refine (toNode_any _ _ _ _ _ _ _ _ _ _ (node ns k).nums (node ns k).kids _ (by exact unhide HR1) (by exact unhide HR2)).mono ?_
      rintro e w2 ⟨g1, g2, rfl, hg1, hg2, hb1, hb2, hbe⟩
      obtain ⟨hc, hf⟩ := bcell hbe
      rw [← hc _ _ hgl] at x0 x1 x2 x3 x4 x5
      rw [← hf _ _ hgl] at y0 y1 y2 y3 y4 y5
      have hz := hbe.size
      have hg' : w.heap.size < w2.heap.size := by omega
      have HFS : Hid (∃ f' s1' s2', NMid ((((((w2.setCell ⟨w.heap.size, k * 6, none⟩ (.int .i64 xk)).setCell ⟨w.heap.size, k * 6 + 1, none⟩ (.int .i64 xn)).setCell ⟨w.heap.size, k * 6 + 2, none⟩ (.int .i64 xm)).setCell ⟨w.heap.size, k * 6 + 3, none⟩ (.string xs)).setCell ⟨w.heap.size, k * 6 + 4, none⟩ (.slice (some ⟨g1, 0, none⟩) n1 n1)).setCell ⟨w.heap.size, k * 6 + 5, none⟩ (.slice (some ⟨g2, 0, none⟩) n2 n2)) w.heap.size n (k + 1) w2.heap.size ns f' s1' s2') := by
        have := six_set (unhide HM) hlt hbe hg1 hg2 hb1 hb2
        rw [← (unhide HXX).1, ← (unhide HXX).2.1, ← (unhide HXX).2.2.1, ← (unhide HXX).2.2.2, (unhide HR1).len, (unhide HR2).len] at this
        exact this
      have HB2 := hide ((unhide HB).trans (hbe.mono (unhide HB).size))
      clear hc hf hbe HB HM hb1 hb2 HR1 HR2 HXX e0 e1 e2 e3 e4 e5 hg1 hg2 hz hgl
      go_wp2_with fail
      go_roundw
      case rel =>
        refine ⟨k + 1, by omega, by go_num, ?_, ?_⟩
        · obtain ⟨f', s1', s2', h'⟩ := unhide HFS
          exact ⟨f', s1', s2', by simpa using h'⟩
        · exact ((((((unhide HB2).setCell (Nat.le_refl _) _).setCell (Nat.le_refl _) _).setCell (Nat.le_refl _) _).setCell (Nat.le_refl _) _).setCell (Nat.le_refl _) _).setCell (Nat.le_refl _) _
      case measure => simp [intOf]; omega
    · have hkn : k = n := by omega
      subst hkn
      go_wp2
      go_ret
      obtain ⟨f, s1, s2, hm⟩ := unhide HX
      exact ⟨_, rfl, Nat.le_refl _, ⟨hm.row.lt, (unhide H).len, hn, unhide HSM, f, s1, s2, hm⟩, unhide HB⟩

set_option maxHeartbeats 2000000 in
theorem toTree_any (a : Option Addr) (n cap : Nat) (ns : List NodeD) (w : World) (h : NRow w a n ns) (hsm : SmallD ns n) :
    Calls Tryz.prog 9 #[.agg #[.slice a n cap]] w fun e w' => ∃ g, e = .returned (.agg #[.slice (some ⟨g, 0, none⟩) n n]) ∧ w.heap.size ≤ g ∧ NNew w' g n w'.heap.size ns ∧ Below w.heap.size w w' := by
  go_enter Tryz.func9, Tryz.ntmps9
  go_wp2_with fail
  refine (toNodeS_any _ _ _ ns _ (by exact h.below (Nat.le_refl _) (by repeat (first | exact Below.refl _ _ | refine Below.alloc ?_ (by simp <;> omega) _))) hsm).mono ?_
  rintro e w1 ⟨g, rfl, hg, hN, hbe⟩
  obtain ⟨hc, hf⟩ := bcell hbe
  have hz := hbe.size
  have hbW : Below w.heap.size w w1 := Below.trans (by repeat (first | exact Below.refl _ _ | refine Below.alloc ?_ (by simp <;> omega) _)) (hbe.mono (by simp <;> omega))
  simp at hc hf hz hg
  have hz0 : w.heap.size < w1.heap.size := by omega
  have hz1 : w.heap.size + 1 < w1.heap.size := by omega
  clear hbe
  go_wp2
  refine bodyPost_ret (v := .agg #[.slice (some ⟨g, 0, none⟩) n n]) (by simp [results, Tryz.results9, go_sem, hc]) rfl ⟨g, rfl, by omega, ?_, ?_⟩
  · have h1 := hN.but (But.setCell (S := fun x => x = w.heap.size + 1 ∨ x = w.heap.size + 1 + 1) (But.setCell (But.refl _ w1) (p := ⟨w.heap.size + 1 + 1, 0, none⟩) (.inr rfl) (.slice (some ⟨g, 0, none⟩) n n)) (p := ⟨w.heap.size + 1, 0, none⟩) (.inl rfl) (.slice (some ⟨g, 0, none⟩) n n)) (fun x h1 h2 h3 => by omega)
    simpa using h1
  · repeat (first | with_reducible exact hbW | refine Below.setCell ?_ (by simp <;> omega) _)

end Go.Proofs.YtinndpnilmmmjaaGreatDoor
namespace Go.Proofs.YtinndpnilmmmjaaGreatDoor
open Go.RowKit

theorem eqIntS_refl (a b : Option Addr) (n m ca cb : Nat) (xs : List Int) (w : World) (hx : Row w a n xs) (hy : Row w b m xs) :
    Calls Tryz.prog 120 #[.slice a n ca, .slice b m cb] w fun e w' => e = .returned (.bool true) ∧ ∃ q, w' = w.drewN q := by
  have := eqIntS_any a b n m ca cb xs xs w hx hy
  rwa [decide_eq_true rfl] at this

set_option maxHeartbeats 2000000 in
theorem eqNode_refl (k n m : Int) (s : ByteArray) (a1 a2 b1 b2 : Option Addr) (n1 n2 m1 m2 c1 c2 d1 d2 : Nat) (nums kids : List Int) (w : World) (h1 : Row w a1 n1 nums) (h2 : Row w a2 n2 kids) (k1 : Row w b1 m1 nums) (k2 : Row w b2 m2 kids) :
    Calls Tryz.prog 71 #[.agg #[.int .i64 k, .int .i64 n, .int .i64 m, .string s, .slice a1 n1 c1, .slice a2 n2 c2], .agg #[.int .i64 k, .int .i64 n, .int .i64 m, .string s, .slice b1 m1 d1, .slice b2 m2 d2]] w fun e w' => e = .returned (.bool true) ∧ Below w.heap.size w w' := by
  have q0 : (k != k) = false := by simp
  have q1 : (n != n) = false := by simp
  have q2 : (m != m) = false := by simp
  have q3 : (s.toList != s.toList) = false := by simp
  have H1 := hide ((h1.alloc (.cells #[.int .i64 k, .int .i64 n, .int .i64 m, .string s, .slice a1 n1 c1, .slice a2 n2 c2] 47)).alloc (.cells #[.int .i64 k, .int .i64 n, .int .i64 m, .string s, .slice b1 m1 d1, .slice b2 m2 d2] 47))
  have H2 := hide ((h2.alloc (.cells #[.int .i64 k, .int .i64 n, .int .i64 m, .string s, .slice a1 n1 c1, .slice a2 n2 c2] 47)).alloc (.cells #[.int .i64 k, .int .i64 n, .int .i64 m, .string s, .slice b1 m1 d1, .slice b2 m2 d2] 47))
  have K1 := hide ((k1.alloc (.cells #[.int .i64 k, .int .i64 n, .int .i64 m, .string s, .slice a1 n1 c1, .slice a2 n2 c2] 47)).alloc (.cells #[.int .i64 k, .int .i64 n, .int .i64 m, .string s, .slice b1 m1 d1, .slice b2 m2 d2] 47))
  have K2 := hide ((k2.alloc (.cells #[.int .i64 k, .int .i64 n, .int .i64 m, .string s, .slice a1 n1 c1, .slice a2 n2 c2] 47)).alloc (.cells #[.int .i64 k, .int .i64 n, .int .i64 m, .string s, .slice b1 m1 d1, .slice b2 m2 d2] 47))
  clear h1 h2 k1 k2
  go_enter Tryz.func71, Tryz.ntmps71
  go_wp2_with fail
  refine (eqIntS_refl _ _ _ _ _ _ nums _ (by exact unhide H1) (by exact unhide K1)).mono ?_
  rintro e w1 ⟨rfl, q, rfl⟩
  go_wp2_with fail
  refine (eqIntS_refl _ _ _ _ _ _ kids _ (by exact (unhide H2).drewN q) (by exact (unhide K2).drewN q)).mono ?_
  rintro e w1 ⟨rfl, q', rfl⟩
  go_wp2_with fail
  go_ret
  exact ⟨rfl, Below.drewN (((Below.refl _ _).alloc (Nat.le_refl _) _).alloc (by simp) _) _⟩

set_option maxHeartbeats 2000000 in
theorem eqNodeS_refl (a b : Option Addr) (n c d : Nat) (ns : List NodeD) (w : World) (h : NRow w a n ns) (k : NRow w b n ns) :
    Calls Tryz.prog 33 #[.slice a n c, .slice b n d] w fun e w' => e = .returned (.bool true) ∧ Below w.heap.size w w' := by
  have hn := h.small
  have H := hide h
  have K := hide k
  clear h k
  have hnn : ((n : Int) != (n : Int)) = false := by simp
  go_enter Tryz.func33, Tryz.ntmps33
  go_wp2_with fail
  go_loopw [5] (fun i wr => ∃ k : Nat, k ≤ n ∧ i = .int .i64 k ∧ Hid (Below w.heap.size w wr)) (fun i _ => n - (intOf i).toNat)
  case atStart => exact ⟨0, Nat.zero_le _, rfl, Below.refl _ _⟩
  case round =>
    obtain ⟨k, hk, rfl, HB⟩ := hrel
    by_cases hlt : k < n
    · obtain ⟨p1, o1, rfl, hl1, t1, m1, e1, t2, m2, e2, x0, x1, x2, x3, x4, x5, r1, r2⟩ := ((unhide H).below (Nat.le_refl _) (unhide HB)).get hlt
      obtain ⟨p2, o2, rfl, hl2, u1, q1, f1, u2, q2, f2, y0, y1, y2, y3, y4, y5, s1, s2⟩ := ((unhide K).below (Nat.le_refl _) (unhide HB)).get hlt
      have R1 := hide r1
      have R2 := hide r2
      have S1 := hide s1
      have S2 := hide s2
      obtain ⟨xk, hxk⟩ : ∃ x, x = (node ns k).k := ⟨_, rfl⟩
      obtain ⟨xn, hxn⟩ : ∃ x, x = (node ns k).n := ⟨_, rfl⟩
      obtain ⟨xm, hxm⟩ : ∃ x, x = (node ns k).m := ⟨_, rfl⟩
      obtain ⟨xs, hxs⟩ : ∃ x, x = (node ns k).s := ⟨_, rfl⟩
      rw [← hxk] at x0 y0
      rw [← hxn] at x1 y1
      rw [← hxm] at x2 y2
      rw [← hxs] at x3 y3
      clear r1 r2 s1 s2 hxk hxn hxm hxs
      go_wp2_with fail
      go_region_with (go_at_call 71; refine (eqNode_refl _ _ _ _ _ _ _ _ _ _ _ _ _ _ _ _ (node ns k).nums (node ns k).kids _ (by exact (unhide R1).below (Nat.le_refl _) (Below.refl _ _).drew) (by exact (unhide R2).below (Nat.le_refl _) (Below.refl _ _).drew) (by exact (unhide S1).below (Nat.le_refl _) (Below.refl _ _).drew) (by exact (unhide S2).below (Nat.le_refl _) (Below.refl _ _).drew)).mono ?_; rintro e w1 ⟨rfl, hb1⟩; have HB1 := hide ((unhide HB).trans ((Below.refl _ _).drew.trans (hb1.mono (unhide HB).size))); clear hb1)
      all_goals go_wp2_with fail
      all_goals (go_roundw; (case rel => exact ⟨k + 1, by omega, by go_num, unhide HB1⟩); (case measure => simp [intOf]; omega))
    · have hkn : k = n := by omega
      subst hkn
      go_wp2
      go_ret
      exact ⟨rfl, unhide HB⟩

set_option maxHeartbeats 2000000 in
theorem eqTree_refl (a b : Option Addr) (n c d : Nat) (ns : List NodeD) (w : World) (h : NRow w a n ns) (k : NRow w b n ns) :
    Calls Tryz.prog 11 #[.agg #[.slice a n c], .agg #[.slice b n d]] w fun e w' => e = .returned (.bool true) ∧ Below w.heap.size w w' := by
  go_enter Tryz.func11, Tryz.ntmps11
  go_wp2_with fail
  refine (eqNodeS_refl _ _ _ _ _ ns _ (by exact (h.alloc _).alloc _) (by exact (k.alloc _).alloc _)).mono ?_
  rintro e w1 ⟨rfl, hb1⟩
  have hB : Below w.heap.size w w1 := (((Below.refl _ _).alloc (Nat.le_refl _) _).alloc (by simp) _).trans (hb1.mono (by simp; omega))
  clear hb1
  go_wp2
  go_ret
  exact ⟨rfl, hB⟩

end Go.Proofs.YtinndpnilmmmjaaGreatDoor
namespace Go.Proofs.YtinndpnilmmmjaaGreatDoor

def runeOk (v : Int) : Bool := decide (0 ≤ v ∧ v ≤ 1114111 ∧ (v < 55296 ∨ 57343 < v))

def inCells (v : Int) : Bool := decide (0 ≤ v ∧ v ≤ 10000)

/-- The product of the numbers of a shape that are not 0, going from the front; none when it passes 10000. -/
def prodFrom : List Int → Int → Option Int
  | [], n => some n
  | x :: r, n => if x = 0 then prodFrom r n else if 10000 < n * x then none else prodFrom r (n * x)

def countOf (sh : List Int) : Int :=
  if sh.all inCells then
    match prodFrom sh 1 with
    | none => -1
    | some n => if 0 ∈ sh then 0 else n
  else -1

def dataOk (c : Bool) (v : Int) : Bool := (!c || runeOk v) && decide (-1000000000000000 ≤ v ∧ v ≤ 1000000000000000)

def arrOk (c : Bool) (sh dt : List Int) : Bool := decide (sh.length ≤ 5) && (decide (countOf sh = dt.length) && dt.all (dataOk c))

theorem prodFrom_snoc (xs : List Int) (x n : Int) : prodFrom (xs ++ [x]) n = (prodFrom xs n).bind (fun m => prodFrom [x] m) := by
  induction xs generalizing n with
  | nil => simp [prodFrom]
  | cons y r ih =>
    simp only [List.cons_append, prodFrom]
    split
    · exact ih n
    · split
      · simp
      · exact ih _

theorem prodFrom_bd (xs : List Int) (n m : Int) (hx : xs.all inCells = true) (h1 : 1 ≤ n) (h2 : n ≤ 10000) (h : prodFrom xs n = some m) : 1 ≤ m ∧ m ≤ 10000 := by
  induction xs generalizing n with
  | nil => simp [prodFrom] at h; omega
  | cons y r ih =>
    simp only [List.all_cons, Bool.and_eq_true] at hx
    have hy : 0 ≤ y ∧ y ≤ 10000 := by simpa [inCells] using hx.1
    simp only [prodFrom] at h
    split at h
    · exact ih n hx.2 h1 h2 h
    · split at h
      · simp at h
      · rename_i h0 hle
        refine ih (n * y) hx.2 ?_ (by omega) h
        have : 1 * 1 ≤ n * y := Int.mul_le_mul h1 (by omega) (by omega) (by omega)
        omega

theorem prodFrom_none_append (xs ys : List Int) (n : Int) (h : prodFrom xs n = none) : prodFrom (xs ++ ys) n = none := by
  induction xs generalizing n with
  | nil => simp [prodFrom] at h
  | cons y r ih =>
    simp only [List.cons_append, prodFrom] at h ⊢
    split at h
    · rename_i h0; rw [if_pos h0]; exact ih n h
    · rename_i h0; rw [if_neg h0]
      split at h
      · rename_i h1; rw [if_pos h1]
      · rename_i h1; rw [if_neg h1]; exact ih _ h

theorem take_snoc (xs : List Int) (k : Nat) (h : k < xs.length) : xs.take (k + 1) = xs.take k ++ [xs.getD k 0] := by
  rw [List.take_succ_eq_append_getElem h]; simp [h]

theorem all_step (xs : List Int) (p : Int → Bool) (k : Nat) (h : k < xs.length) (ha : (xs.take k).all p = true) (hp : p (xs.getD k 0) = true) : (xs.take (k + 1)).all p = true := by
  rw [take_snoc xs k h, List.all_append, ha]; simpa using hp

theorem all_not (xs : List Int) (p : Int → Bool) (k : Nat) (h : k < xs.length) (hp : p (xs.getD k 0) = false) : xs.all p = false := by
  rw [← Bool.not_eq_true, List.all_eq_true]
  intro hh
  have := hh (xs.getD k 0) (by simp [h])
  rw [hp] at this
  exact absurd this (by simp)

theorem zero_step (xs : List Int) (k : Nat) (h : k < xs.length) : decide (0 ∈ xs.take (k + 1)) = (decide (0 ∈ xs.take k) || decide (xs.getD k 0 = 0)) := by
  rw [take_snoc xs k h]
  generalize xs.take k = t
  generalize xs.getD k 0 = y
  by_cases h1 : 0 ∈ t <;> by_cases h2 : y = 0 <;> simp [h1, h2]
  exact fun e => h2 e.symm

theorem prod_step0 (xs : List Int) (k : Nat) (h : k < xs.length) (n : Int) (hp : prodFrom (xs.take k) 1 = some n) (h0 : xs.getD k 0 = 0) : prodFrom (xs.take (k + 1)) 1 = some n := by
  rw [take_snoc xs k h, prodFrom_snoc, hp, h0]; simp [prodFrom]

theorem prod_step (xs : List Int) (k : Nat) (h : k < xs.length) (n : Int) (hp : prodFrom (xs.take k) 1 = some n) (h0 : xs.getD k 0 ≠ 0) (hl : n * xs.getD k 0 ≤ 10000) : prodFrom (xs.take (k + 1)) 1 = some (n * xs.getD k 0) := by
  rw [take_snoc xs k h, prodFrom_snoc, hp]; simp only [Option.bind_some, prodFrom, if_neg h0]; rw [if_neg (by omega)]

theorem prod_none (xs : List Int) (k : Nat) (h : k < xs.length) (n : Int) (hp : prodFrom (xs.take k) 1 = some n) (h0 : xs.getD k 0 ≠ 0) (hl : 10000 < n * xs.getD k 0) : prodFrom xs 1 = none := by
  have : prodFrom (xs.take (k + 1)) 1 = none := by
    rw [take_snoc xs k h, prodFrom_snoc, hp]; simp only [Option.bind_some, prodFrom, if_neg h0]; rw [if_pos hl]
  rw [← List.take_append_drop (k + 1) xs]
  exact prodFrom_none_append _ _ _ this

theorem count_bad (sh : List Int) (h : sh.all inCells = false) : countOf sh = -1 := by simp [countOf, h]
theorem count_big (sh : List Int) (h : prodFrom sh 1 = none) : countOf sh = -1 := by unfold countOf; rw [h]; split <;> rfl
theorem count_zero (sh : List Int) (n : Int) (ha : sh.all inCells = true) (h : prodFrom sh 1 = some n) (h0 : decide (0 ∈ sh) = true) : countOf sh = 0 := by
  unfold countOf; rw [h, if_pos ha]; simp only []; rw [if_pos (of_decide_eq_true h0)]
theorem count_n (sh : List Int) (n : Int) (ha : sh.all inCells = true) (h : prodFrom sh 1 = some n) (h0 : decide (0 ∈ sh) = false) : countOf sh = n := by
  unfold countOf; rw [h, if_pos ha]; simp only []; rw [if_neg (of_decide_eq_false h0)]

theorem count_bd (sh : List Int) : -1 ≤ countOf sh ∧ countOf sh ≤ 10000 := by
  unfold countOf
  split
  · rename_i ha
    split
    · omega
    · rename_i n hn
      have := prodFrom_bd sh 1 n ha (by omega) (by omega) hn
      split <;> omega
  · omega

end Go.Proofs.YtinndpnilmmmjaaGreatDoor
namespace Go.Proofs.YtinndpnilmmmjaaGreatDoor

def shapeB (sh : List Int) : Bool := decide (sh.length ≤ 5) && decide (0 ≤ countOf sh)

theorem shape_long {sh : List Int} {n : Nat} (hl : sh.length = n) (h : 5 < n) : shapeB sh = false := by unfold shapeB; rw [decide_eq_false (by omega)]; rfl
theorem shape_bad {sh : List Int} (h : countOf sh = -1) : shapeB sh = false := by unfold shapeB; rw [h]; simp
theorem shape_good {sh : List Int} {n : Nat} (hl : sh.length = n) (h : n ≤ 5) (m : Int) (ha : sh.all inCells = true) (hp : prodFrom sh 1 = some m) : shapeB sh = true := by
  have hb := prodFrom_bd sh 1 m ha (by omega) (by omega) hp
  unfold shapeB; rw [decide_eq_true (by omega)]
  by_cases h0 : decide (0 ∈ sh) = true
  · rw [count_zero sh m ha hp h0]; rfl
  · rw [count_n sh m ha hp (by simpa using h0), decide_eq_true (by omega)]; rfl

/-- The product of all numbers of a shape. -/
def prodAll (sh : List Int) : Int := sh.foldl (· * ·) 1

theorem prodAll_snoc (sh : List Int) (k : Nat) (h : k < sh.length) : prodAll (sh.take (k + 1)) = prodAll (sh.take k) * sh.getD k 0 := by
  rw [take_snoc sh k h]; simp [prodAll]

theorem prodAll_of (sh : List Int) (n m : Int) (h : prodFrom sh n = some m) : sh.foldl (· * ·) n = if 0 ∈ sh then 0 else m := by
  induction sh generalizing n with
  | nil => simp [prodFrom] at h; simp [h]
  | cons x r ih =>
    simp only [prodFrom] at h
    by_cases h0 : x = 0
    · subst h0
      have hz : ∀ (l : List Int), l.foldl (· * ·) 0 = 0 := by intro l; induction l with
        | nil => rfl
        | cons y s ih => simpa using ih
      simp [hz]
    · rw [if_neg h0] at h
      split at h
      · simp at h
      · rw [List.foldl_cons, ih _ h]
        have : (0 ∈ x :: r) ↔ 0 ∈ r := by simp; intro e; exact absurd e.symm h0
        simp only [this]

theorem prodAll_count (sh : List Int) (h : shapeB sh = true) : prodAll sh = countOf sh := by
  unfold shapeB at h
  simp only [Bool.and_eq_true, decide_eq_true_eq] at h
  have h2 := h.2
  unfold countOf at h2 ⊢
  split at h2
  · rename_i ha
    rw [if_pos ha]
    split at h2
    · omega
    · rename_i m hm
      exact prodAll_of sh 1 m hm
  · omega

theorem prodAll_bd (sh : List Int) (h : shapeB sh = true) (k : Nat) : 0 ≤ prodAll (sh.take k) ∧ prodAll (sh.take k) ≤ 10000 := by
  unfold shapeB at h
  simp only [Bool.and_eq_true, decide_eq_true_eq] at h
  have h2 := h.2
  unfold countOf at h2
  split at h2
  · rename_i ha
    split at h2
    · omega
    · rename_i m hm
      have hat : (sh.take k).all inCells = true := by rw [List.all_eq_true]; exact fun x hx => List.all_eq_true.1 ha x (List.mem_of_mem_take hx)
      cases hpt : prodFrom (sh.take k) 1 with
      | none =>
        have := prodFrom_none_append (sh.take k) (sh.drop k) 1 hpt
        rw [List.take_append_drop] at this
        rw [this] at hm; simp at hm
      | some m' =>
        have hb := prodFrom_bd _ 1 m' hat (by omega) (by omega) hpt
        unfold prodAll
        rw [prodAll_of _ 1 m' hpt]
        split <;> omega
  · omega

/-- Numbers that a valid array may have in its shape, but for how many they are. -/
def ShapeIn (sh : List Int) : Prop := sh.all inCells = true ∧ ∃ m, prodFrom sh 1 = some m

theorem prodFrom_less (ys : List Int) (n m k : Int) (hy : ys.all inCells = true) (hk : 1 ≤ k) (hkn : k ≤ n) (h : prodFrom ys n = some m) : ∃ m', prodFrom ys k = some m' := by
  induction ys generalizing n k with
  | nil => exact ⟨k, rfl⟩
  | cons y r ih =>
    simp only [List.all_cons, Bool.and_eq_true] at hy
    have hyb : 0 ≤ y ∧ y ≤ 10000 := by simpa [inCells] using hy.1
    simp only [prodFrom] at h ⊢
    by_cases h0 : y = 0
    · rw [if_pos h0] at h ⊢; exact ih n k hy.2 hk hkn h
    · rw [if_neg h0] at h ⊢
      split at h
      · simp at h
      · rename_i hle
        have h1 : k * y ≤ n * y := Int.mul_le_mul_of_nonneg_right hkn (by omega)
        have h2 : 1 * 1 ≤ k * y := Int.mul_le_mul hk (by omega) (by omega) (by omega)
        rw [if_neg (by omega)]
        exact ih (n * y) (k * y) hy.2 (by omega) h1 h

theorem ShapeIn.take {sh : List Int} (h : ShapeIn sh) (k : Nat) : ShapeIn (sh.take k) := by
  obtain ⟨ha, m, hm⟩ := h
  refine ⟨by rw [List.all_eq_true]; exact fun x hx => List.all_eq_true.1 ha x (List.mem_of_mem_take hx), ?_⟩
  cases hpt : prodFrom (sh.take k) 1 with
  | none =>
    have := prodFrom_none_append (sh.take k) (sh.drop k) 1 hpt
    rw [List.take_append_drop] at this
    rw [this] at hm; simp at hm
  | some m' => exact ⟨m', rfl⟩

theorem prodFrom_append (xs ys : List Int) (n : Int) : prodFrom (xs ++ ys) n = (prodFrom xs n).bind (prodFrom ys) := by
  induction xs generalizing n with
  | nil => simp [prodFrom]
  | cons y r ih =>
    simp only [List.cons_append, prodFrom]
    split
    · exact ih n
    · split
      · simp
      · exact ih _

theorem ShapeIn.drop {sh : List Int} (h : ShapeIn sh) (k : Nat) : ShapeIn (sh.drop k) := by
  have ht := h.take k
  obtain ⟨ha, m, hm⟩ := h
  have hd : (sh.drop k).all inCells = true := by rw [List.all_eq_true]; exact fun x hx => List.all_eq_true.1 ha x (List.mem_of_mem_drop hx)
  refine ⟨hd, ?_⟩
  obtain ⟨hta, p, hp⟩ := ht
  have hb := prodFrom_bd _ 1 p hta (by omega) (by omega) hp
  rw [← List.take_append_drop k sh, prodFrom_append, hp, Option.bind_some] at hm
  exact prodFrom_less _ p m 1 hd (by omega) hb.1 hm

theorem ShapeIn.bd {sh : List Int} (h : ShapeIn sh) : 0 ≤ prodAll sh ∧ prodAll sh ≤ 10000 := by
  obtain ⟨ha, m, hm⟩ := h
  have hb := prodFrom_bd sh 1 m ha (by omega) (by omega) hm
  unfold prodAll
  rw [prodAll_of sh 1 m hm]
  split <;> omega

theorem ShapeIn.cell {sh : List Int} (h : ShapeIn sh) (k : Nat) : 0 ≤ sh.getD k 0 ∧ sh.getD k 0 ≤ 10000 := by
  by_cases hk : k < sh.length
  · have := List.all_eq_true.1 h.1 (sh.getD k 0) (by simp [hk])
    simpa [inCells] using this
  · have e : sh.getD k 0 = 0 := by simp [List.getD, List.getElem?_eq_none (by omega : sh.length ≤ k)]
    rw [e]; omega

theorem shapeIn_of {c : Bool} {sh dt : List Int} (h : arrOk c sh dt = true) : ShapeIn sh ∧ prodAll sh = dt.length ∧ sh.length ≤ 5 := by
  unfold arrOk at h
  simp only [Bool.and_eq_true, decide_eq_true_eq] at h
  obtain ⟨h5, hc, _⟩ := h
  have hs : shapeB sh = true := by unfold shapeB; rw [decide_eq_true h5, decide_eq_true (by omega)]; rfl
  refine ⟨?_, by rw [prodAll_count sh hs, hc], h5⟩
  unfold countOf at hc
  split at hc
  · rename_i ha
    split at hc
    · omega
    · rename_i m hm; exact ⟨ha, m, hm⟩
  · omega

theorem prodAll_append (xs ys : List Int) : prodAll (xs ++ ys) = prodAll xs * prodAll ys := by
  have key : ∀ (ys : List Int) (n : Int), ys.foldl (· * ·) n = n * ys.foldl (· * ·) 1 := by
    intro ys
    induction ys with
    | nil => intro n; simp
    | cons y r ih => intro n; rw [List.foldl_cons, List.foldl_cons, ih (n * y), ih (1 * y), Int.one_mul, Int.mul_assoc]
  unfold prodAll
  rw [List.foldl_append, key]

end Go.Proofs.YtinndpnilmmmjaaGreatDoor
namespace Go.Proofs.YtinndpnilmmmjaaGreatDoor

/-- The decimal numeral of u, as the numbers of its bytes. -/
def decZ (u : Nat) : List Int := if _h : u < 10 then [48 + (u : Int)] else decZ (u / 10) ++ [48 + ((u % 10 : Nat) : Int)]

theorem decZ_small {u : Nat} (h : u < 10) : decZ u = [48 + (u : Int)] := by rw [decZ, dif_pos h]
theorem decZ_big {u : Nat} (h : ¬ u < 10) : decZ u = decZ (u / 10) ++ [48 + ((u % 10 : Nat) : Int)] := by rw [decZ, dif_neg h]

theorem decZ_pos (u : Nat) : 1 ≤ (decZ u).length := by
  by_cases h : u < 10
  · rw [decZ_small h]; simp
  · rw [decZ_big h]; simp

theorem decZ_le : ∀ (k u : Nat), u < 10 ^ (k + 1) → (decZ u).length ≤ k + 1
  | 0, u, h => by rw [decZ_small (by simpa using h)]; simp
  | k + 1, u, h => by
    by_cases hs : u < 10
    · rw [decZ_small hs]; simp
    · rw [decZ_big hs]
      have := decZ_le k (u / 10) (by rw [Nat.pow_succ] at h; omega)
      simp; omega

theorem decZ_byte (u : Nat) : ∀ x ∈ decZ u, 48 ≤ x ∧ x ≤ 57 := by
  induction u using Nat.strongRecOn with
  | _ u ih =>
    intro x hx
    by_cases h : u < 10
    · rw [decZ_small h] at hx
      simp at hx
      omega
    · rw [decZ_big h] at hx
      rcases List.mem_append.1 hx with hx | hx
      · exact ih (u / 10) (by omega) x hx
      · simp at hx
        omega

/-- A character in its shortest form. -/
def encZ (r : Int) : List Int :=
  if r < 128 then [r] else if r < 2048 then [192 + r / 64, 128 + r % 64] else if r < 65536 then [224 + r / 4096, 128 + r / 64 % 64, 128 + r % 64] else [240 + r / 262144, 128 + r / 4096 % 64, 128 + r / 64 % 64, 128 + r % 64]

/-- A number's text, and how many characters it has. -/
def numT (n : Int) : List Int := (if n < 0 then [194, 175] else []) ++ decZ n.natAbs
def wid (n : Int) : Nat := (if n < 0 then 1 else 0) + (decZ n.natAbs).length

theorem wid_pos (n : Int) : 1 ≤ wid n := by unfold wid; have := decZ_pos n.natAbs; omega
theorem wid_le {n : Int} (h : -1000000000000000 ≤ n ∧ n ≤ 1000000000000000) : wid n ≤ 17 := by
  unfold wid
  have := decZ_le 15 n.natAbs (by omega)
  split <;> omega

/-- What is written of a row's k-th element, ws the widths of the columns. -/
def cellT (c : Bool) (ws row : List Int) (k : Nat) : List Int :=
  if c = true then encZ (row.getD k 0)
  else (if 0 < k then [32] else []) ++ List.replicate ((ws.getD k 0).toNat - wid (row.getD k 0)) 32 ++ numT (row.getD k 0)

/-- What is written of the first k elements of a row. -/
def rowN (c : Bool) (ws row : List Int) (k : Nat) : List Int := (List.range k).flatMap (cellT c ws row)

theorem rowN_zero (c : Bool) (ws row : List Int) : rowN c ws row 0 = [] := rfl
theorem rowN_succ (c : Bool) (ws row : List Int) (k : Nat) : rowN c ws row (k + 1) = rowN c ws row k ++ cellT c ws row k := by
  unfold rowN
  rw [List.range_succ, List.flatMap_append]
  simp

/-- A row as a line. -/
def lineT (c : Bool) (ws row : List Int) : List Int := rowN c ws row row.length ++ [10]

theorem lineT_congr {c : Bool} {ws ws' row : List Int} (h : ∀ k, k < row.length → (ws.getD k 0).toNat - wid (row.getD k 0) = (ws'.getD k 0).toNat - wid (row.getD k 0)) : lineT c ws row = lineT c ws' row := by
  unfold lineT rowN
  congr 1
  have e : (List.range row.length).map (cellT c ws row) = (List.range row.length).map (cellT c ws' row) := List.map_congr_left fun k hk => by
    unfold cellT
    rw [h k (List.mem_range.1 hk)]
  rw [List.flatMap_def, List.flatMap_def, e]

/-- The r-th row of an array of n columns. -/
def rowAt (dt : List Int) (n r : Nat) : List Int := (dt.drop (r * n)).take n

theorem rowAt_len {dt : List Int} {n r R : Nat} (hl : dt.length = R * n) (hr : r < R) : (rowAt dt n r).length = n := by
  unfold rowAt
  have : (r + 1) * n ≤ R * n := Nat.mul_le_mul_right n hr
  rw [Nat.add_mul, Nat.one_mul] at this
  rw [List.length_take, List.length_drop]
  omega

theorem rowAt_get {dt : List Int} {n r k : Nat} (hk : k < n) : (rowAt dt n r).getD k 0 = dt.getD (r * n + k) 0 := by
  unfold rowAt
  simp [List.getD_eq_getElem?_getD, hk]

/-- The first r rows as lines, an empty line ahead of each plane but the first. -/
def textN (c : Bool) (ws dt : List Int) (n height : Nat) : Nat → List Int
  | 0 => []
  | r + 1 => textN c ws dt n height r ++ (if 0 < r ∧ r % height = 0 then [10] else []) ++ lineT c ws (rowAt dt n r)

/-- The widths of the columns behind k elements. -/
def wsN (dt : List Int) (n : Nat) : Nat → List Int
  | 0 => List.replicate n 0
  | k + 1 => (wsN dt n k).set (k % n) (max ((wsN dt n k).getD (k % n) 0) (wid (dt.getD k 0) : Nat))

theorem wsN_len (dt : List Int) (n : Nat) : ∀ k, (wsN dt n k).length = n
  | 0 => by simp [wsN]
  | k + 1 => by simp [wsN, wsN_len dt n k]

/-- An axis from the end, 1 where it is not there. -/
def axisE (sh : List Int) (k : Nat) : Nat := if sh.length < k then 1 else (sh.getD (sh.length - k) 0).toNat

/-- What Show shows. -/
def showT (c : Bool) (sh dt : List Int) : List Int :=
  if arrOk c sh dt = true then
    if dt.length = 0 ∧ 2 < sh.length then []
    else textN c (wsN dt (axisE sh 1) dt.length) dt (axisE sh 1) (axisE sh 2) (prodAll (sh.take (sh.length - 1))).toNat
  else []

end Go.Proofs.YtinndpnilmmmjaaGreatDoor
namespace Go.Proofs.YtinndpnilmmmjaaGreatDoor
open Go.RowKit

theorem ownsB_below {w w' : World} {base e size n B : Nat} {v : Value} {xs : List Value} (h : w.ownsRow base e size v n xs) (hB : w.heap.size ≤ B) (hb : Below B w w') : w'.ownsRow base e size v n xs := by
  obtain ⟨h1, h2⟩ := h
  refine ⟨h1, ?_⟩
  rcases h2 with h2 | ⟨g, cap, cur, hv, hg, hh, r⟩
  · exact Or.inl h2
  · exact Or.inr ⟨g, cap, cur, hv, hg, (hb.block g (Nat.lt_of_lt_of_le (lt_of_block hh) hB)).trans hh, r⟩

theorem info_byte : (Tryz.prog.info? 5).map (fun i => (i.zero, i.size, i.bytes)) = some (some (.int .u8 0), 1, 1) := by kernel_rfl

/-- The slice (a, n, _) reads as these bytes. -/
structure RowB (w : World) (a : Option Addr) (n : Nat) (zs : List Int) : Prop where
  len : zs.length = n
  at_ : n = 0 ∨ ∃ b off, a = some ⟨b, off, none⟩ ∧ b < w.heap.size ∧ ∀ i, i < n → w.cell? ⟨b, off + i, none⟩ = some (.int .u8 (zs.getD i 0))

theorem RowB.below {w w' : World} {a : Option Addr} {n B : Nat} {zs : List Int} (h : RowB w a n zs) (hB : w.heap.size ≤ B) (hb : Below B w w') : RowB w' a n zs := by
  refine ⟨h.len, ?_⟩
  rcases h.at_ with h0 | ⟨b, off, rfl, hlt, hc⟩
  · exact .inl h0
  · exact .inr ⟨b, off, rfl, by have := hb.size; omega, fun i hi => (hb.cell (p := ⟨b, off + i, none⟩) (by show b < B; omega)).trans (hc i hi)⟩

theorem RowB.news {w : World} {b off n : Nat} {zs : List Int} (h : RowB w (some ⟨b, off, none⟩) n zs) : ∀ (j : Nat) u, (zs.map (Value.int .u8))[j]? = some u → w.cell? ((⟨b, off, none⟩ : Addr).add j) = some u := by
  intro j u hj
  have hl := h.len
  have hj' : j < n := by
    rcases Nat.lt_or_ge j n with h' | h'
    · exact h'
    · rw [List.getElem?_eq_none (by simp; omega)] at hj; cases hj
  rcases h.at_ with h0 | ⟨b', off', e, _, hc⟩
  · omega
  · cases e
    have hadd : (⟨b, off, none⟩ : Addr).add j = ⟨b, off + j, none⟩ := by by_cases h : j = 0 <;> simp [Addr.add, h]
    rw [hadd, hc j hj']
    simpa [hl, hj'] using hj

theorem RowB.new (w : World) (zs : List Int) : RowB (w.alloc (.cells (zs.map (Value.int .u8)).toArray 5)) (some ⟨w.heap.size, 0, none⟩) zs.length zs := by
  refine ⟨rfl, .inr ⟨w.heap.size, 0, rfl, by simp, fun i hi => ?_⟩⟩
  have hh : (w.alloc (.cells (zs.map (Value.int .u8)).toArray 5)).heap[w.heap.size]? = some (.cells (zs.map (Value.int .u8)).toArray 5 (0, 0)) := by
    show (w.heap.push _)[w.heap.size]? = _
    simp
  obtain ⟨W, hW⟩ : ∃ W, w.alloc (.cells (zs.map (Value.int .u8)).toArray 5) = W := ⟨_, rfl⟩
  rw [hW] at hh ⊢
  simp [World.cell?, hh, hi]

theorem one_bytes (zs : List Int) : ∀ u ∈ zs.map (Value.int .u8), u.oneCell' = true := by
  intro u hu
  obtain ⟨x, _, rfl⟩ := List.mem_map.mp hu
  rfl

/-- An own list of bytes that grows, made in the world Q. -/
structure GrowB (Q w : World) (g cap j : Nat) (zs : List Int) : Prop where
  own : w.ownsRow Q.heap.size 5 1 (.slice (some ⟨g, 0, none⟩) j cap) j (zs.map (Value.int .u8))
  low : Below Q.heap.size Q w

theorem GrowB.start (Q : World) : GrowB Q (Q.alloc (.cells #[] 5)) Q.heap.size 0 0 [] := by
  refine ⟨⟨by simp, .inr ⟨Q.heap.size, 0, #[], rfl, Nat.le_refl _, ?_, by simp, by unfold maxLen; omega, by simp, by simp⟩⟩, (Below.refl _ _).alloc (Nat.le_refl _) _⟩
  show (Q.heap.push _)[Q.heap.size]? = _
  simp

theorem GrowB.len {Q w : World} {g cap j : Nat} {zs : List Int} (h : GrowB Q w g cap j zs) : zs.length = j := by simpa using h.own.1

theorem GrowB.ge {Q w : World} {g cap j : Nat} {zs : List Int} (h : GrowB Q w g cap j zs) : Q.heap.size ≤ g := by
  rcases h.own.2 with ⟨h', _⟩ | ⟨g', cap', cur, h', hb, _⟩
  · simp at h'
  · cases h'; exact hb

theorem GrowB.row {Q w : World} {g cap j : Nat} {zs : List Int} (h : GrowB Q w g cap j zs) : RowB w (some ⟨g, 0, none⟩) j zs := by
  refine ⟨h.len, ?_⟩
  rcases h.own.2 with ⟨h', _⟩ | ⟨g', cap', cur, h', _, hg, _, _, hcs, ht⟩
  · simp at h'
  · cases h'
    refine .inr ⟨g, 0, rfl, lt_of_block hg, fun i hi => ?_⟩
    have hl := h.len
    have e : cur.toList[i]? = some (.int .u8 (zs.getD i 0)) := by
      have : (cur.toList.take (j * 1))[i]? = (zs.map (Value.int .u8))[i]? := by rw [ht]
      rw [List.getElem?_take, if_pos (by omega)] at this
      rw [this]
      simp [hl, hi]
    simpa [World.cell?, hg] using e

theorem GrowB.below {Q w w' : World} {g cap j : Nat} {zs : List Int} (h : GrowB Q w g cap j zs) (hb : Below w.heap.size w w') : GrowB Q w' g cap j zs := ⟨ownsB_below h.own (Nat.le_refl _) hb, h.low.trans (hb.mono h.low.size)⟩

theorem GrowB.push {Q w w1 : World} {g cap j m g' cap' : Nat} {zs xs : List Int} (h : GrowB Q w g cap j zs)
    (hown : w1.ownsRow Q.heap.size 5 1 (.slice (some ⟨g', 0, none⟩) (j + m) cap') (j + m) (zs.map (Value.int .u8) ++ xs.map (Value.int .u8))) (hg : w.grownBy w1 (Value.ownBlock (.slice (some ⟨g, 0, none⟩) j cap))) :
    GrowB Q w1 g' cap' (j + m) (zs ++ xs) := by
  have hge := h.ge
  refine ⟨by rw [List.map_append]; exact hown, ⟨hg.os.trans h.low.os, hg.tape.trans h.low.tape, hg.output.trans h.low.output, Nat.le_trans h.low.size hg.size, fun k hk => (hg.block k (by have := h.low.size; omega) (fun e => by have := (Option.some.inj e : k = g); omega)).trans (h.low.block k hk)⟩⟩

end Go.Proofs.YtinndpnilmmmjaaGreatDoor
namespace Go.Proofs.YtinndpnilmmmjaaGreatDoor
open Go

/-- From the last kid on: where the stretch of a node begins, and how tall it is; st holds both for the nodes in front. -/
def goK (st : List (Nat × Nat)) (kids : List Int) : Nat → Nat → Nat → Option (Nat × Nat)
  | 0, a, hi => some (a, hi)
  | k + 1, a, hi => if 1 ≤ a ∧ kids.getD k 0 = (a : Int) - 1 then goK st kids k (st.getD (a - 1) (0, 0)).1 (max hi ((st.getD (a - 1) (0, 0)).2 + 1)) else none

/-- Both for the first nodes, when they stand in order. -/
def ordN (ns : List NodeD) : Nat → Option (List (Nat × Nat))
  | 0 => some []
  | i + 1 => match ordN ns i with
    | none => none
    | some st => match goK st (node ns i).kids (node ns i).kids.length i 0 with
      | none => none
      | some p => some (st ++ [p])

theorem ord_step {ns : List NodeD} {i : Nat} {st : List (Nat × Nat)} (h : ordN ns i = some st) : ordN ns (i + 1) = (goK st (node ns i).kids (node ns i).kids.length i 0).map (fun p => st ++ [p]) := by
  rw [ordN, h]
  dsimp only
  cases goK st (node ns i).kids (node ns i).kids.length i 0 <;> rfl

theorem ord_none {ns : List NodeD} {i : Nat} (h : ordN ns i = none) : ∀ d, ordN ns (i + d) = none
  | 0 => h
  | d + 1 => by rw [← Nat.add_assoc, ordN, ord_none h d]

theorem ord_len {ns : List NodeD} : ∀ {i : Nat} {st : List (Nat × Nat)}, ordN ns i = some st → st.length = i
  | 0, st, h => by rw [ordN] at h; cases h; rfl
  | i + 1, st, h => by
    cases h1 : ordN ns i with
    | none => rw [ordN, h1] at h; cases h
    | some st1 =>
      rw [ord_step h1] at h
      obtain ⟨p, _, e⟩ := Option.map_eq_some_iff.1 h
      rw [← e, List.length_append, ord_len h1]; rfl

theorem ord_prev {ns : List NodeD} {i : Nat} {st : List (Nat × Nat)} (h : ordN ns (i + 1) = some st) : ordN ns i = some (st.take i) ∧ goK (st.take i) (node ns i).kids (node ns i).kids.length i 0 = some (st.getD i (0, 0)) := by
  cases h1 : ordN ns i with
  | none => rw [ordN, h1] at h; cases h
  | some st1 =>
    rw [ord_step h1] at h
    obtain ⟨p, hp, e⟩ := Option.map_eq_some_iff.1 h
    have hl := ord_len h1
    subst e
    have e1 : (st1 ++ [p]).take i = st1 := by rw [← hl]; simp
    have e2 : (st1 ++ [p]).getD i (0, 0) = p := by rw [← hl]; simp
    rw [e1, e2]
    exact ⟨rfl, hp⟩

theorem ord_take {ns : List NodeD} {i : Nat} : ∀ (d : Nat) {st : List (Nat × Nat)}, ordN ns (i + d) = some st → ordN ns i = some (st.take i)
  | 0, st, h => by have := ord_len h; rw [List.take_of_length_le (by omega)]; exact h
  | d + 1, st, h => by
    have := ord_take d (ord_prev (i := i + d) h).1
    rw [List.take_take, Nat.min_eq_left (by omega)] at this
    exact this

theorem ord_at {ns : List NodeD} {n i : Nat} {st : List (Nat × Nat)} (h : ordN ns n = some st) (hi : i < n) : goK (st.take i) (node ns i).kids (node ns i).kids.length i 0 = some (st.getD i (0, 0)) := by
  have h1 : ordN ns (i + 1) = some (st.take (i + 1)) := ord_take (n - (i + 1)) (by rw [show i + 1 + (n - (i + 1)) = n by omega]; exact h)
  have h2 := (ord_prev h1).2
  rw [List.take_take, Nat.min_eq_left (by omega)] at h2
  rw [h2]
  simp [List.getD_eq_getElem?_getD]

/-- What the kids of a node in order are. -/
theorem goK_all {st : List (Nat × Nat)} {kids : List Int} (hst : ∀ j, j < st.length → (st.getD j (0, 0)).1 ≤ j) : ∀ (k a hi : Nat) (r : Nat × Nat), a ≤ st.length → goK st kids k a hi = some r →
    r.1 ≤ a ∧ hi ≤ r.2 ∧ (∀ q, q < k → 0 ≤ kids.getD q 0 ∧ kids.getD q 0 < a) ∧
    ∀ j, r.1 ≤ j → j < a → ∃ q z, q < k ∧ kids.getD q 0 = ((z : Nat) : Int) ∧ (st.getD z (0, 0)).1 ≤ j ∧ j ≤ z ∧ z < a ∧ (st.getD z (0, 0)).2 + 1 ≤ r.2
  | 0, a, hi, r, ha, h => by
    rw [goK] at h
    cases h
    exact ⟨Nat.le_refl _, Nat.le_refl _, fun q hq => by omega, fun j h1 h2 => by have : a ≤ j := h1; omega⟩
  | k + 1, a, hi, r, ha, h => by
    rw [goK] at h
    by_cases hc : 1 ≤ a ∧ kids.getD k 0 = (a : Int) - 1
    · rw [if_pos hc] at h
      have hle := hst (a - 1) (by omega)
      obtain ⟨i1, i2, i3, i4⟩ := goK_all hst k _ _ r (by omega) h
      refine ⟨by omega, by omega, fun q hq => ?_, fun j h1 h2 => ?_⟩
      · by_cases e : q = k
        · subst e; rw [hc.2]; omega
        · have := i3 q (by omega); omega
      · by_cases hj : j < (st.getD (a - 1) (0, 0)).1
        · obtain ⟨q, z, a1, a2, a3, a4, a5, a6⟩ := i4 j h1 hj
          exact ⟨q, z, by omega, a2, a3, a4, by omega, a6⟩
        · exact ⟨k, a - 1, by omega, by rw [hc.2]; omega, by omega, by omega, by omega, by omega⟩
    · rw [if_neg hc] at h; cases h

theorem ord_le {ns : List NodeD} : ∀ (n : Nat) {st : List (Nat × Nat)}, ordN ns n = some st → ∀ j, j < n → (st.getD j (0, 0)).1 ≤ j
  | 0, st, h, j, hj => by omega
  | n + 1, st, h, j, hj => by
    have hl := ord_len h
    have hp := ord_prev h
    have ih := ord_le n hp.1
    have e : ∀ j, j < n → (st.take n).getD j (0, 0) = st.getD j (0, 0) := fun j hj => by simp [List.getD_eq_getElem?_getD, hj]
    by_cases hjn : j < n
    · rw [← e j hjn]; exact ih j hjn
    · have hjn' : j = n := by omega
      subst hjn'
      exact (goK_all (fun i hi => ih i (by simp at hi; omega)) _ _ _ _ (by simp; omega) hp.2).1

theorem ord_kids {ns : List NodeD} {n i : Nat} {st : List (Nat × Nat)} (h : ordN ns n = some st) (hi : i < n) : ∀ q, q < (node ns i).kids.length → 0 ≤ (node ns i).kids.getD q 0 ∧ (node ns i).kids.getD q 0 < i := by
  have hl := ord_len h
  have hle := ord_le n h
  exact (goK_all (st := st.take i) (fun j hj => by
    have : j < i := by simp at hj; omega
    simp [List.getD_eq_getElem?_getD, this]
    have := hle j (by omega)
    simpa [List.getD_eq_getElem?_getD] using this) _ _ _ _ (by simp; omega) (ord_at h hi)).2.2.1

/-- What lies in a node's stretch is under it. -/
theorem ord_under {ns : List NodeD} {n : Nat} {st : List (Nat × Nat)} (h : ordN ns n = some st) : ∀ (B i : Nat), i < B → i < n → ∀ j, (st.getD i (0, 0)).1 ≤ j → j < i →
    (∃ p q, p < n ∧ q < (node ns p).kids.length ∧ (node ns p).kids.getD q 0 = ((j : Nat) : Int)) ∧ (st.getD j (0, 0)).2 < (st.getD i (0, 0)).2
  | 0, i, hB, _, j, _, _ => by omega
  | B + 1, i, hB, hi, j, h1, h2 => by
    have hl := ord_len h
    have hle := ord_le n h
    have e : ∀ j, j < i → (st.take i).getD j (0, 0) = st.getD j (0, 0) := fun j hj => by simp [List.getD_eq_getElem?_getD, hj]
    obtain ⟨q, z, a1, a2, a3, a4, a5, a6⟩ := (goK_all (st := st.take i) (fun j hj => by
      have hji : j < i := by simp at hj; omega
      rw [e j hji]; exact hle j (by omega)) _ _ _ _ (by simp; omega) (ord_at h hi)).2.2.2 j h1 h2
    rw [e z a5] at a3 a6
    by_cases hz : j = z
    · subst hz
      exact ⟨⟨i, q, hi, a1, a2⟩, by omega⟩
    · obtain ⟨b1, b2⟩ := ord_under h B z (by omega) (by omega) j a3 (by omega)
      exact ⟨b1, by omega⟩

/-- A primitive of a range. -/
def primB (x : NodeD) (lo hi : Int) : Bool := decide (x.k = 11 ∧ lo ≤ x.n ∧ x.n ≤ hi)

def kidN (x : NodeD) (q : Nat) : Nat := (x.kids.getD q 0).toNat

/-- What a selection selects from. -/
def nextS (ns : List NodeD) (i : Nat) : Option Nat :=
  if (node ns i).k = 7 then some (kidN (node ns i) 0)
  else if (node ns i).k = 9 ∧ primB (node ns (kidN (node ns i) 0)) 20 23 = true then some (kidN (node ns i) 1)
  else if (node ns i).k = 10 ∧ primB (node ns (kidN (node ns i) 1)) 21 25 = true then some (kidN (node ns i) 2)
  else none

def selF (ns : List NodeD) : Nat → Nat → Bool
  | 0, _ => false
  | f + 1, i => if (node ns i).k = 3 then true else match nextS ns i with
    | none => false
    | some j => selF ns f j

def selB (ns : List NodeD) (i : Nat) : Bool := decide ((node ns i).k ≠ 3) && selF ns (i + 1) i

theorem sel_isE {ns : List NodeD} {i : Nat} (h : selB ns i = true) : isE (node ns i).k = true := by
  unfold selB at h
  rw [Bool.and_eq_true, decide_eq_true_eq] at h
  obtain ⟨h3, h⟩ := h
  rw [selF, if_neg h3] at h
  have : (node ns i).k = 7 ∨ (node ns i).k = 9 ∨ (node ns i).k = 10 := by
    unfold nextS at h
    by_cases a : (node ns i).k = 7
    · exact .inl a
    rw [if_neg a] at h
    by_cases b : (node ns i).k = 9 ∧ primB (node ns (kidN (node ns i) 0)) 20 23 = true
    · exact .inr (.inl b.1)
    rw [if_neg b] at h
    by_cases c : (node ns i).k = 10 ∧ primB (node ns (kidN (node ns i) 1)) 21 25 = true
    · exact .inr (.inr c.1)
    rw [if_neg c] at h
    cases h
  unfold isE sortK
  rw [if_pos (by omega)]
  rfl

/-- A node is right, as the specification asks it. -/
def nodeB (T : ByteArray → Bool) (ns : List NodeD) (st : List (Nat × Nat)) (i : Nat) : Bool :=
  decide (sortK (node ns i).k ≠ 0 ∧ ((node ns i).k = 25 ↔ i + 1 = ns.length)) && (kidsB (node ns i).k (kinds ns (node ns i).kids) && (fieldsS T (node ns i) && (decide ((st.getD i (0, 0)).2 ≤ 40) && (decide ((node ns i).k ≠ 23) || selB ns (kidN (node ns i) 0)))))

/-- A tree is right. -/
def treeB (T : ByteArray → Bool) (ns : List NodeD) : Bool :=
  decide (1 ≤ ns.length ∧ ns.length ≤ 600) && match ordN ns ns.length with
    | none => false
    | some st => (List.range ns.length).all (nodeB T ns st) && decide ((st.getD (ns.length - 1) (0, 0)).1 = 0)

/-- A node is right, as the developers ask it. -/
def nodeI (T : ByteArray → Bool) (ns : List NodeD) (i : Nat) : Bool := fieldsI T (node ns i) && kidsI (node ns i).k (kinds ns (node ns i).kids) (selB ns (kidN (node ns i) 0))

def orderI (ns : List NodeD) : Bool := match ordN ns ns.length with
  | none => false
  | some st => decide ((st.getD (ns.length - 1) (0, 0)).1 = 0 ∧ (st.getD (ns.length - 1) (0, 0)).2 ≤ 40)

def treeI (T : ByteArray → Bool) (ns : List NodeD) : Bool :=
  decide (1 ≤ ns.length ∧ ns.length ≤ 600) && (orderI ns && ((List.range ns.length).all (nodeI T ns) && decide ((node ns (ns.length - 1)).k = 25)))

theorem node_eq (T : ByteArray → Bool) (ns : List NodeD) (i : Nat) : nodeI T ns i = (kidsB (node ns i).k (kinds ns (node ns i).kids) && (fieldsS T (node ns i) && (decide ((node ns i).k ≠ 23) || selB ns (kidN (node ns i) 0)))) := by
  unfold nodeI
  rw [fields_eq, kids_eq (fun hs hl => ?_)]
  · cases fieldsS T (node ns i) <;> simp
  · have e : (kinds ns (node ns i).kids).getD 0 0 = (node ns (kidN (node ns i) 0)).k := by
      unfold kinds kidN
      unfold kinds at hl
      rw [List.length_map] at hl
      simp [List.getD_eq_getElem?_getD, show 0 < (node ns i).kids.length by omega]
    rw [e]
    exact sel_isE hs

theorem kind_good {x : Int} (h : isE x = true ∨ isP x = true ∨ isF x = true ∨ isB x = true ∨ isS x = true ∨ isI x = true) : sortK x ≠ 0 ∧ x ≠ 25 := by
  have h25 : sortK 25 = 6 := rfl
  have h16 : sortK 16 = 3 := rfl
  unfold isE isP isF isB isS isI at h
  simp only [decide_eq_true_eq] at h
  constructor
  · intro e
    rw [e] at h
    rcases h with h | h | h | h | h | h
    · omega
    · omega
    · omega
    · subst h; omega
    · omega
    · omega
  · intro e
    subst e
    rw [h25] at h
    omega

theorem isK_good {c : Nat} {x : Int} (h : isK c x = true) : sortK x ≠ 0 ∧ x ≠ 25 := by
  refine kind_good ?_
  unfold isK at h
  split at h
  · exact .inl h
  split at h
  · exact .inr (.inl h)
  split at h
  · exact .inr (.inr (.inl h))
  split at h
  · exact .inr (.inr (.inr (.inl h)))
  split at h
  · exact .inr (.inr (.inr (.inr (.inl h))))
  · exact .inr (.inr (.inr (.inr (.inr h))))

theorem fits_good : ∀ (cs : List Nat) (ks : List Int), fits cs ks = true → ∀ x ∈ ks, sortK x ≠ 0 ∧ x ≠ 25
  | [], [], _, x, hx => by cases hx
  | [], _ :: _, h, _, _ => by simp [fits] at h
  | _ :: _, [], h, _, _ => by simp [fits] at h
  | c :: cs, a :: r, h, x, hx => by
    rw [fits, Bool.and_eq_true] at h
    rcases List.mem_cons.1 hx with e | e
    · subst e; exact isK_good h.1
    · exact fits_good cs r h.2 x e

theorem kids_good {k : Int} {ks : List Int} (h : kidsB k ks = true) : ∀ x ∈ ks, sortK x ≠ 0 ∧ x ≠ 25 := by
  intro x hx
  unfold kidsB at h
  by_cases h7 : k = 7
  · rw [if_pos h7, Bool.and_eq_true, Bool.and_eq_true] at h
    match ks, hx, h with
    | a :: r, hx, h =>
      rcases List.mem_cons.1 hx with e | e
      · subst e; exact kind_good (.inl (by simpa using h.2.1))
      · exact kind_good (.inr (.inl (List.all_eq_true.1 h.2.2 x (by simpa using e))))
  rw [if_neg h7] at h
  by_cases h21 : k = 21
  · rw [if_pos h21, Bool.and_eq_true, Bool.and_eq_true, decide_eq_true_eq] at h
    rw [← List.take_append_drop (ks.length - 1) ks] at hx
    rcases List.mem_append.1 hx with e | e
    · exact kind_good (.inr (.inl (List.all_eq_true.1 h.2.1 x e)))
    · have := h.2.2
      rw [← drop_last_all ks isE h.1] at this
      exact kind_good (.inl (List.all_eq_true.1 this x e))
  rw [if_neg h21] at h
  by_cases h16 : k = 16
  · rw [if_pos h16] at h
    exact kind_good (.inr (.inr (.inr (.inr (.inr (List.all_eq_true.1 h x hx))))))
  rw [if_neg h16] at h
  by_cases h25 : k = 25
  · rw [if_pos h25] at h
    exact kind_good (.inr (.inr (.inr (.inr (.inl (List.all_eq_true.1 h x hx))))))
  rw [if_neg h25] at h
  exact fits_good _ _ h x hx

theorem tree_eq (T : ByteArray → Bool) (ns : List NodeD) : treeI T ns = treeB T ns := by
  unfold treeI treeB orderI
  by_cases hn : 1 ≤ ns.length ∧ ns.length ≤ 600
  case neg => rw [decide_eq_false hn]; rfl
  rw [decide_eq_true hn, Bool.true_and, Bool.true_and]
  cases h : ordN ns ns.length with
  | none => rfl
  | some st =>
    dsimp only
    rw [Bool.eq_iff_iff]
    simp only [Bool.and_eq_true, decide_eq_true_eq, List.all_eq_true, List.mem_range]
    constructor
    · rintro ⟨⟨h0, h40⟩, hall, hlast⟩
      refine ⟨fun i hi => ?_, h0⟩
      have hi' := hall i hi
      rw [node_eq] at hi'
      simp only [Bool.and_eq_true] at hi'
      unfold nodeB
      simp only [Bool.and_eq_true, decide_eq_true_eq]
      refine ⟨?_, hi'.1, hi'.2.1, ?_, hi'.2.2⟩
      · by_cases e : i + 1 = ns.length
        · have e' : ns.length - 1 = i := by omega
          rw [e'] at hlast
          rw [hlast]
          exact ⟨by decide, by simp [e]⟩
        · obtain ⟨⟨p, q, hp, hq, hk⟩, _⟩ := ord_under h ns.length (ns.length - 1) (by omega) (by omega) i (by omega) (by omega)
          have hp' := hall p hp
          rw [node_eq] at hp'
          simp only [Bool.and_eq_true] at hp'
          have hm : (node ns i).k ∈ kinds ns (node ns p).kids := by
            unfold kinds
            refine List.mem_map.2 ⟨(node ns p).kids.getD q 0, ?_, by rw [hk]; rfl⟩
            rw [List.getD_eq_getElem?_getD, List.getElem?_eq_getElem hq]
            exact List.getElem_mem hq
          have := kids_good hp'.1 _ hm
          exact ⟨this.1, fun x => absurd x this.2, fun x => absurd x e⟩
      · by_cases e : i + 1 = ns.length
        · have e' : ns.length - 1 = i := by omega
          rw [e'] at h40
          exact h40
        · have := (ord_under h ns.length (ns.length - 1) (by omega) (by omega) i (by omega) (by omega)).2
          omega
    · rintro ⟨hall, h0⟩
      have hl := hall (ns.length - 1) (by omega)
      have hl' := hl
      unfold nodeB at hl'
      simp only [Bool.and_eq_true, decide_eq_true_eq] at hl'
      refine ⟨⟨h0, hl'.2.2.2.1⟩, fun i hi => ?_, hl'.1.2.2 (by omega)⟩
      have := hall i hi
      unfold nodeB at this
      simp only [Bool.and_eq_true, decide_eq_true_eq] at this
      rw [node_eq]
      simp only [Bool.and_eq_true]
      exact ⟨this.2.1, this.2.2.1, this.2.2.2.2⟩

end Go.Proofs.YtinndpnilmmmjaaGreatDoor
namespace Go.Proofs.YtinndpnilmmmjaaGreatDoor
open Go

theorem tree_size {T : ByteArray → Bool} {ns : List NodeD} (h : ¬ (1 ≤ ns.length ∧ ns.length ≤ 600)) : treeB T ns = false := by
  unfold treeB; rw [decide_eq_false h]; rfl

theorem tree_none {T : ByteArray → Bool} {ns : List NodeD} {i : Nat} (h : ordN ns (i + 1) = none) (hi : i < ns.length) : treeB T ns = false := by
  have := ord_none h (ns.length - (i + 1))
  rw [show i + 1 + (ns.length - (i + 1)) = ns.length by omega] at this
  unfold treeB
  rw [this]
  exact Bool.and_false _

theorem node_same {T : ByteArray → Bool} {ns : List NodeD} {st st' : List (Nat × Nat)} {j : Nat} (h : st.getD j (0, 0) = st'.getD j (0, 0)) : nodeB T ns st j = nodeB T ns st' j := by
  unfold nodeB; rw [h]

theorem tree_bad {T : ByteArray → Bool} {ns : List NodeD} {i : Nat} {st : List (Nat × Nat)} (h : ordN ns (i + 1) = some st) (hi : i < ns.length) (hb : nodeB T ns st i = false) : treeB T ns = false := by
  unfold treeB
  cases hS : ordN ns ns.length with
  | none => exact Bool.and_false _
  | some S =>
    have ht := ord_take (i := i + 1) (ns.length - (i + 1)) (st := S) (by rw [show i + 1 + (ns.length - (i + 1)) = ns.length by omega]; exact hS)
    rw [h] at ht
    have e : st.getD i (0, 0) = S.getD i (0, 0) := by
      rw [Option.some.inj ht]
      simp [List.getD_eq_getElem?_getD]
    rw [node_same e] at hb
    have : (List.range ns.length).all (nodeB T ns S) = false := List.all_eq_false.2 ⟨i, List.mem_range.2 hi, by rw [hb]; decide⟩
    dsimp only
    rw [this]
    simp

theorem tree_good {T : ByteArray → Bool} {ns : List NodeD} {st : List (Nat × Nat)} (h : ordN ns ns.length = some st) (hs : 1 ≤ ns.length ∧ ns.length ≤ 600) (ha : ∀ j, j < ns.length → nodeB T ns st j = true) : treeB T ns = decide ((st.getD (ns.length - 1) (0, 0)).1 = 0) := by
  unfold treeB
  rw [decide_eq_true hs, h]
  have : (List.range ns.length).all (nodeB T ns st) = true := List.all_eq_true.2 fun j hj => ha j (List.mem_range.1 hj)
  dsimp only
  rw [this]
  rfl

theorem nodes_push {T : ByteArray → Bool} {ns : List NodeD} {i : Nat} {st : List (Nat × Nat)} {p : Nat × Nat} (hl : st.length = i) (h : ∀ j, j < i → nodeB T ns st j = true) (hp : nodeB T ns (st ++ [p]) i = true) : ∀ j, j < i + 1 → nodeB T ns (st ++ [p]) j = true := fun j hj => by
  by_cases e : j = i
  · subst e; exact hp
  · rw [node_same (st' := st)]
    · exact h j (by omega)
    · simp [List.getD_eq_getElem?_getD, List.getElem?_append_left (show j < st.length by omega)]

/-- Kids of the three kinds that select. -/
theorem kids_few {k : Int} {ks : List Int} (h : kidsB k ks = true) : (k = 7 → 1 ≤ ks.length) ∧ (k = 9 → 2 ≤ ks.length) ∧ (k = 10 → 3 ≤ ks.length) := by
  refine ⟨fun e => ?_, fun e => ?_, fun e => ?_⟩
  · subst e
    unfold kidsB at h
    rw [if_pos rfl, Bool.and_eq_true, decide_eq_true_eq] at h
    omega
  · subst e
    have h' : fits [102, 101] ks = true := h
    rw [kfit2, Bool.and_eq_true, decide_eq_true_eq] at h'
    omega
  · subst e
    have h' : fits [101, 102, 101] ks = true := h
    rw [kfit3, Bool.and_eq_true, decide_eq_true_eq] at h'
    omega

theorem goK_bad {st : List (Nat × Nat)} {kids : List Int} {k a hi : Nat} (h : ¬ (1 ≤ a ∧ kids.getD k 0 = (a : Int) - 1)) : goK st kids (k + 1) a hi = none := by rw [goK, if_neg h]
theorem goK_ok {st : List (Nat × Nat)} {kids : List Int} {k y hi : Nat} (h : kids.getD k 0 = ((y : Nat) : Int)) : goK st kids (k + 1) (y + 1) hi = goK st kids k (st.getD y (0, 0)).1 (max hi ((st.getD y (0, 0)).2 + 1)) := by
  rw [goK, if_pos ⟨by omega, by rw [h]; omega⟩]
  rfl

/-- Kinds filled in from the last one on. -/
def fillK (ks : List Int) (k : Nat) : List Int := List.replicate k 0 ++ ks.drop k

theorem fillK_len {ks : List Int} {k : Nat} (h : k ≤ ks.length) : (fillK ks k).length = ks.length := by unfold fillK; simp; omega
theorem fillK_start (ks : List Int) : fillK ks ks.length = List.replicate ks.length 0 := by unfold fillK; simp
theorem fillK_end (ks : List Int) : fillK ks 0 = ks := by unfold fillK; simp
theorem fillK_set {ks : List Int} {k : Nat} (h : k < ks.length) : (fillK ks (k + 1)).set k (ks.getD k 0) = fillK ks k := by
  unfold fillK
  rw [List.replicate_succ', List.append_assoc, List.set_append_right _ _ (by simp), List.length_replicate, Nat.sub_self]
  rw [List.drop_eq_getElem_cons (i := k) h]
  simp [List.getD_eq_getElem?_getD, h]

theorem kinds_len (ns : List NodeD) (zs : List Int) : (kinds ns zs).length = zs.length := by unfold kinds; simp
theorem kinds_get {ns : List NodeD} {zs : List Int} {k : Nat} (h : k < zs.length) : (kinds ns zs).getD k 0 = (node ns (zs.getD k 0).toNat).k := by
  unfold kinds
  simp [List.getD_eq_getElem?_getD, h]

/-- A stretch is no taller than its place. -/
theorem goK_hi {st : List (Nat × Nat)} {kids : List Int} (hst : ∀ j, j < st.length → (st.getD j (0, 0)).1 ≤ j ∧ (st.getD j (0, 0)).2 ≤ j) : ∀ (k a hi : Nat) (r : Nat × Nat), a ≤ st.length → goK st kids k a hi = some r → r.2 ≤ max hi a
  | 0, a, hi, r, ha, h => by rw [goK] at h; cases h; exact Nat.le_max_left _ _
  | k + 1, a, hi, r, ha, h => by
    rw [goK] at h
    by_cases hc : 1 ≤ a ∧ kids.getD k 0 = (a : Int) - 1
    · rw [if_pos hc] at h
      have hle := hst (a - 1) (by omega)
      have := goK_hi hst k _ _ r (by omega) h
      omega
    · rw [if_neg hc] at h; cases h

theorem ord_hi {ns : List NodeD} : ∀ (n : Nat) {st : List (Nat × Nat)}, ordN ns n = some st → ∀ j, j < n → (st.getD j (0, 0)).2 ≤ j
  | 0, st, h, j, hj => by omega
  | n + 1, st, h, j, hj => by
    have hl := ord_len h
    have hp := ord_prev h
    have ih := ord_hi n hp.1
    have ih1 := ord_le n hp.1
    have e : ∀ j, j < n → (st.take n).getD j (0, 0) = st.getD j (0, 0) := fun j hj => by simp [List.getD_eq_getElem?_getD, hj]
    by_cases hjn : j < n
    · rw [← e j hjn]; exact ih j hjn
    · have hjn' : j = n := by omega
      subst hjn'
      have := goK_hi (fun i hi => ⟨ih1 i (by simp at hi; omega), ih i (by simp at hi; omega)⟩) _ _ _ _ (by simp; omega) hp.2
      omega

end Go.Proofs.YtinndpnilmmmjaaGreatDoor
namespace Go.Proofs.YtinndpnilmmmjaaGreatDoor
open Go.RowKit

theorem appBelow {w w1 : World} {base n : Nat} {v : Value} {xs : List Value} (o : Obj) (hown : w.ownsRow base 3 1 v n xs) (hb : base ≤ w.heap.size) (hg : (w.alloc o).grownBy w1 v.ownBlock) : Below base w w1 :=
  ((Below.refl _ _).alloc hb _).grown hg (by simp; omega) (by
    intro k hk
    rcases hown.2 with ⟨rfl, _⟩ | ⟨g, cap, cur, rfl, hbg, _⟩
    · cases hk
    · cases hk; exact hbg)

theorem newCells (w : World) (x : Int) : ∀ (j : Nat) u, ([.int .i64 x] : List Value)[j]? = some u → (w.alloc (.cells #[.int .i64 x] 3)).cell? ((⟨w.heap.size, 0, none⟩ : Addr).add j) = some u := by
  intro j u hj
  match j, hj with
  | 0, hj => simp at hj; subst hj; simp [Addr.add]

theorem oneOne (x : Int) : ∀ u ∈ ([.int .i64 x] : List Value), u.oneCell' = true := by intro u hu; simp at hu; subst hu; rfl

theorem ownLt {w : World} {base e size n g : Nat} {v : Value} {xs : List Value} (h : w.ownsRow base e size v n xs) (hg : v.ownBlock = some g) : g < w.heap.size := by
  rcases h.2 with ⟨rfl, _⟩ | ⟨g', cap, cur, rfl, _, hh, _⟩
  · cases hg
  · cases hg; exact lt_of_block hh

theorem ownGrown {w w1 : World} {base base' n g g2 cap : Nat} {xs : List Value} (h : w.ownsRow base 3 1 (.slice (some ⟨g, 0, none⟩) n cap) n xs) (o : Obj) (hg : (w.alloc o).grownBy w1 (some g2)) (hne : g ≠ g2) (hb : base' ≤ base) : w1.ownsRow base' 3 1 (.slice (some ⟨g, 0, none⟩) n cap) n xs := by
  obtain ⟨h1, h2⟩ := h
  refine ⟨h1, ?_⟩
  rcases h2 with ⟨h2, _⟩ | ⟨g', cap', cur, hv, hg', hh, r⟩
  · simp at h2
  · have e : g = g' := by simp at hv; exact hv.1
    subst e
    refine Or.inr ⟨g, cap', cur, hv, by omega, ?_, r⟩
    have hlt := lt_of_block hh
    exact (hg.block g (by simp; omega) (fun e => hne (by simpa using e))).trans ((Below.heap_alloc w o g hlt).trans hh)

/-- Two slices of the call's own hold these lists. -/
structure Two2 (W wr : World) (k1 : Nat) (xs : List Int) (k2 : Nat) (ys : List Int) (g1 p1 g2 p2 : Nat) : Prop where
  o1 : wr.ownsRow W.heap.size 3 1 (.slice (some ⟨g1, 0, none⟩) k1 p1) k1 (xs.map (Value.int .i64))
  o2 : wr.ownsRow W.heap.size 3 1 (.slice (some ⟨g2, 0, none⟩) k2 p2) k2 (ys.map (Value.int .i64))
  ne : g1 ≠ g2
  low : Below W.heap.size W wr

theorem Two2.below {W wr w' : World} {k1 k2 : Nat} {xs ys : List Int} {g1 p1 g2 p2 : Nat} (h : Two2 W wr k1 xs k2 ys g1 p1 g2 p2) (hb : Below wr.heap.size wr w') : Two2 W w' k1 xs k2 ys g1 p1 g2 p2 :=
  ⟨ownsB_below h.o1 (Nat.le_refl _) hb, ownsB_below h.o2 (Nat.le_refl _) hb, h.ne, h.low.trans (hb.mono h.low.size)⟩

theorem ownBut {S : Nat → Prop} {w w' : World} {base e size n g cap : Nat} {xs : List Value} (h : w.ownsRow base e size (.slice (some ⟨g, 0, none⟩) n cap) n xs) (hb : But S w w') (hg : ¬ S g) : w'.ownsRow base e size (.slice (some ⟨g, 0, none⟩) n cap) n xs := by
  obtain ⟨h1, h2⟩ := h
  refine ⟨h1, ?_⟩
  rcases h2 with h2 | ⟨g', cap', cur, hv, hg', hh, r⟩
  · exact Or.inl h2
  · have e : g = g' := by simp at hv; exact hv.1
    subst e
    exact Or.inr ⟨g, cap', cur, hv, hg', (hb.block g (lt_of_block hh) hg).trans hh, r⟩

theorem Two2.but {S : Nat → Prop} {W wr w' : World} {k1 k2 : Nat} {xs ys : List Int} {g1 p1 g2 p2 : Nat} (h : Two2 W wr k1 xs k2 ys g1 p1 g2 p2) (hb : But S wr w') (h1 : ¬ S g1) (h2 : ¬ S g2) (hS : ∀ k, S k → W.heap.size ≤ k) : Two2 W w' k1 xs k2 ys g1 p1 g2 p2 :=
  ⟨ownBut h.o1 hb h1, ownBut h.o2 hb h2, h.ne, h.low.trans (hb.below h.low.size hS)⟩

theorem Two2.start (W : World) : Two2 W ((W.alloc (.cells #[] 3)).alloc (.cells #[] 3)) 0 [] 0 [] W.heap.size 0 (W.heap.size + 1) 0 := by
  refine ⟨⟨by simp, .inr ⟨W.heap.size, 0, #[], rfl, Nat.le_refl _, ?_, by simp, by unfold maxLen; omega, by simp, by simp⟩⟩, ⟨by simp, .inr ⟨W.heap.size + 1, 0, #[], rfl, by omega, ?_, by simp, by unfold maxLen; omega, by simp, by simp⟩⟩, by omega, ((Below.refl _ _).alloc (Nat.le_refl _) _).alloc (by simp) _⟩
  · refine (Below.heap_alloc _ _ _ (by simp)).trans ?_
    show (W.heap.push _)[W.heap.size]? = _
    simp
  · have h2 : ((W.alloc (.cells #[] 3)).heap.push (.cells #[] 3))[(W.alloc (.cells #[] 3)).heap.size]? = some (.cells #[] 3) := Array.getElem?_push_size
    rw [World.size_alloc] at h2
    exact h2

theorem Two2.push1 {W wr w7 : World} {k1 k2 : Nat} {xs ys : List Int} {g1 p1 g2 p2 g' p' : Nat} {x : Int} (o : Obj) (h : Two2 W wr k1 xs k2 ys g1 p1 g2 p2)
    (hown : w7.ownsRow W.heap.size 3 1 (.slice (some ⟨g', 0, none⟩) (k1 + 1) p') (k1 + 1) (xs.map (Value.int .i64) ++ [.int .i64 x])) (hg : (wr.alloc o).grownBy w7 (Value.ownBlock (.slice (some ⟨g1, 0, none⟩) k1 p1))) (hat : Value.ownBlock (.slice (some ⟨g1, 0, none⟩) k1 p1) = some g' ∨ g' = wr.heap.size + 1) :
    Two2 W w7 (k1 + 1) (xs ++ [x]) k2 ys g' p' g2 p2 := by
  have hg1 : (wr.alloc o).grownBy w7 (some g1) := hg
  refine ⟨?_, ownGrown h.o2 o hg1 (fun e => h.ne e.symm) (Nat.le_refl _), ?_, h.low.trans (appBelow o h.o1 h.low.size hg)⟩
  · rw [List.map_append]; simpa using hown
  · rcases hat with e | e
    · have e' : g1 = g' := by simpa [Value.ownBlock] using e
      rw [← e']; exact h.ne
    · have := ownLt h.o2 (g := g2) rfl; omega

theorem Two2.push2 {W wr w7 : World} {k1 k2 : Nat} {xs ys : List Int} {g1 p1 g2 p2 g' p' : Nat} {x : Int} (o : Obj) (h : Two2 W wr k1 xs k2 ys g1 p1 g2 p2)
    (hown : w7.ownsRow W.heap.size 3 1 (.slice (some ⟨g', 0, none⟩) (k2 + 1) p') (k2 + 1) (ys.map (Value.int .i64) ++ [.int .i64 x])) (hg : (wr.alloc o).grownBy w7 (Value.ownBlock (.slice (some ⟨g2, 0, none⟩) k2 p2))) (hat : Value.ownBlock (.slice (some ⟨g2, 0, none⟩) k2 p2) = some g' ∨ g' = wr.heap.size + 1) :
    Two2 W w7 k1 xs (k2 + 1) (ys ++ [x]) g1 p1 g' p' := by
  have hg1 : (wr.alloc o).grownBy w7 (some g2) := hg
  refine ⟨ownGrown h.o1 o hg1 h.ne (Nat.le_refl _), ?_, ?_, h.low.trans (appBelow o h.o2 h.low.size hg)⟩
  · rw [List.map_append]; simpa using hown
  · rcases hat with e | e
    · have e' : g2 = g' := by simpa [Value.ownBlock] using e
      rw [← e']; exact h.ne
    · have := ownLt h.o1 (g := g1) rfl; omega

/-- Where stretches begin, and how tall they are. -/
def bgL (st : List (Nat × Nat)) : List Int := st.map fun p => ((p.1 : Nat) : Int)
def tlL (st : List (Nat × Nat)) : List Int := st.map fun p => ((p.2 : Nat) : Int)

theorem bgL_get {st : List (Nat × Nat)} {y : Nat} (h : y < st.length) : (bgL st).getD y 0 = (((st.getD y (0, 0)).1 : Nat) : Int) := by unfold bgL; simp [List.getD_eq_getElem?_getD, h]
theorem tlL_get {st : List (Nat × Nat)} {y : Nat} (h : y < st.length) : (tlL st).getD y 0 = (((st.getD y (0, 0)).2 : Nat) : Int) := by unfold tlL; simp [List.getD_eq_getElem?_getD, h]
theorem bgL_push (st : List (Nat × Nat)) (p : Nat × Nat) : bgL (st ++ [p]) = bgL st ++ [((p.1 : Nat) : Int)] := by unfold bgL; simp
theorem tlL_push (st : List (Nat × Nat)) (p : Nat × Nat) : tlL (st ++ [p]) = tlL st ++ [((p.2 : Nat) : Int)] := by unfold tlL; simp

theorem own_cell {w : World} {B n g cap : Nat} {xs : List Int} (h : w.ownsRow B 3 1 (.slice (some ⟨g, 0, none⟩) n cap) n (xs.map (Value.int .i64))) {i : Nat} (hi : i < n) : w.cell? ⟨g, i, none⟩ = some (.int .i64 (xs.getD i 0)) ∧ g < w.heap.size ∧ B ≤ g := by
  have hl : xs.length = n := by simpa using h.1
  rcases h.2 with ⟨h', _⟩ | ⟨g', cap', cur, h', hb, hg, _, _, hcs, ht⟩
  · simp at h'
  · cases h'
    refine ⟨?_, lt_of_block hg, hb⟩
    have e : cur.toList[i]? = (xs.map (Value.int .i64))[i]? := by rw [← ht, List.getElem?_take, if_pos (by omega)]
    have e2 : (xs.map (Value.int .i64))[i]? = some (.int .i64 (xs.getD i 0)) := by
      rw [List.getElem?_map, List.getElem?_eq_getElem (by omega)]
      simp [List.getD_eq_getElem?_getD, show i < xs.length by omega]
    rw [e2] at e
    simpa [World.cell?, hg] using e

end Go.Proofs.YtinndpnilmmmjaaGreatDoor
namespace Go.Proofs.YtinndpnilmmmjaaGreatDoor
open Go.RowKit

/-- Block p holds a node. -/
def NBox (w : World) (p : Nat) (v0 v1 v2 v3 v4 v5 : Value) : Prop := w.heap[p]? = some (.cells #[v0, v1, v2, v3, v4, v5] 47 (0, 0))

theorem NBox.all {w : World} {p : Nat} {v0 v1 v2 v3 v4 v5 : Value} (h : NBox w p v0 v1 v2 v3 v4 v5) : w.cell? ⟨p, 0, none⟩ = some v0 ∧ w.cell? ⟨p, 1, none⟩ = some v1 ∧ w.cell? ⟨p, 2, none⟩ = some v2 ∧ w.cell? ⟨p, 3, none⟩ = some v3 ∧ w.cell? ⟨p, 4, none⟩ = some v4 ∧ w.cell? ⟨p, 5, none⟩ = some v5 := by
  unfold NBox at h
  refine ⟨?_, ?_, ?_, ?_, ?_, ?_⟩ <;> simp [World.cell?, h]

theorem NBox.lt {w : World} {p : Nat} {v0 v1 v2 v3 v4 v5 : Value} (h : NBox w p v0 v1 v2 v3 v4 v5) : p < w.heap.size := lt_of_block h
theorem NBox.below {w w' : World} {p B : Nat} {v0 v1 v2 v3 v4 v5 : Value} (h : NBox w p v0 v1 v2 v3 v4 v5) (hp : p < B) (hb : Below B w w') : NBox w' p v0 v1 v2 v3 v4 v5 := (hb.block p hp).trans h
theorem NBox.but {S : Nat → Prop} {w w' : World} {p : Nat} {v0 v1 v2 v3 v4 v5 : Value} (h : NBox w p v0 v1 v2 v3 v4 v5) (hb : But S w w') (hp : ¬ S p) : NBox w' p v0 v1 v2 v3 v4 v5 := (hb.block p h.lt hp).trans h
theorem NBox.new (w : World) (v0 v1 v2 v3 v4 v5 : Value) : NBox (w.alloc (.cells #[v0, v1, v2, v3, v4, v5] 47)) w.heap.size v0 v1 v2 v3 v4 v5 := by
  show (w.heap.push _)[w.heap.size]? = _
  simp

theorem NRow.butN {S : Nat → Prop} {w w1 w' : World} {a : Option Addr} {n : Nat} {ns : List NodeD} (h : NRow w a n ns) (hb1 : Below w.heap.size w w1) (hb : But S w1 w') (hS : ∀ k, k < w.heap.size → ¬ S k) : NRow w' a n ns := by
  refine ⟨h.len, h.small, ?_⟩
  rcases h.at_ with h0 | ⟨b, off, e, hlt, hc⟩
  · exact .inl h0
  · refine .inr ⟨b, off, e, by have := hb1.size; have := hb.size; omega, fun i hi => ?_⟩
    obtain ⟨s1, n1, c1, s2, n2, c2, e0, e1, e2, e3, e4, e5, r1, r2⟩ := hc i hi
    have hcc : ∀ o, w'.cell? ⟨b, o, none⟩ = w.cell? ⟨b, o, none⟩ := fun o => (World.cell?_of_block (hb.block b (by have := hb1.size; omega) (hS b hlt))).trans (hb1.cell (p := ⟨b, o, none⟩) hlt)
    exact ⟨s1, n1, c1, s2, n2, c2, (hcc _).trans e0, (hcc _).trans e1, (hcc _).trans e2, (hcc _).trans e3, (hcc _).trans e4, (hcc _).trans e5, hb.row (r1.below (Nat.le_refl _) hb1) (fun k hk hk' => hS k (r1.hi hk') hk), hb.row (r2.below (Nat.le_refl _) hb1) (fun k hk hk' => hS k (r2.hi hk') hk)⟩

end Go.Proofs.YtinndpnilmmmjaaGreatDoor
namespace Go.Proofs.YtinndpnilmmmjaaGreatDoor
open Go.RowKit

/-- A slice reads as a list of ints, however long. -/
structure RowW (w : World) (a : Option Addr) (n : Nat) (zs : List Int) : Prop where
  len : zs.length = n
  at_ : n = 0 ∨ ∃ b off, a = some ⟨b, off, none⟩ ∧ b < w.heap.size ∧ ∀ i, i < n → w.cell? ⟨b, off + i, none⟩ = some (.int .i64 (zs.getD i 0))

/-- Nodes whose lists may be of any length. -/
structure NRowW (w : World) (a : Option Addr) (n : Nat) (ns : List NodeD) : Prop where
  len : ns.length = n
  small : n ≤ 1048576
  at_ : n = 0 ∨ ∃ b off, a = some ⟨b, off, none⟩ ∧ b < w.heap.size ∧ ∀ i, i < n → NAt RowW w b (off + i * 6) (node ns i)

section
variable {w w' : World} {a : Option Addr} {n : Nat} {zs : List Int} {ns : List NodeD}

theorem Row.weak (h : Row w a n zs) : RowW w a n zs := ⟨h.len, h.at_⟩
theorem RowW.below {B : Nat} (h : RowW w a n zs) (hB : w.heap.size ≤ B) (hb : Below B w w') : RowW w' a n zs := by
  refine ⟨h.len, ?_⟩
  rcases h.at_ with h0 | ⟨b, off, rfl, hlt, hc⟩
  · exact .inl h0
  · exact .inr ⟨b, off, rfl, Nat.lt_of_lt_of_le hlt hb.size, fun i hi => (hb.cell (p := ⟨b, off + i, none⟩) (Nat.lt_of_lt_of_le hlt hB)).trans (hc i hi)⟩
theorem RowW.get (h : RowW w a n zs) {k : Nat} (hk : k < n) : ∃ b off, a = some ⟨b, off, none⟩ ∧ b < w.heap.size ∧ w.cell? ⟨b, off + k, none⟩ = some (.int .i64 (zs.getD k 0)) := by
  rcases h.at_ with h0 | ⟨b, off, rfl, hlt, hc⟩
  · omega
  · exact ⟨b, off, rfl, hlt, hc k hk⟩
theorem NRow.weak (h : NRow w a n ns) : NRowW w a n ns := by
  refine ⟨h.len, h.small, ?_⟩
  rcases h.at_ with h0 | ⟨b, off, rfl, hlt, hc⟩
  · exact .inl h0
  · refine .inr ⟨b, off, rfl, hlt, fun i hi => ?_⟩
    obtain ⟨s1, n1, c1, s2, n2, c2, e0, e1, e2, e3, e4, e5, r1, r2⟩ := hc i hi
    exact ⟨s1, n1, c1, s2, n2, c2, e0, e1, e2, e3, e4, e5, r1.weak, r2.weak⟩
theorem NRowW.below {B : Nat} (h : NRowW w a n ns) (hB : w.heap.size ≤ B) (hb : Below B w w') : NRowW w' a n ns := by
  refine ⟨h.len, h.small, ?_⟩
  rcases h.at_ with h0 | ⟨b, off, rfl, hlt, hc⟩
  · exact .inl h0
  · exact .inr ⟨b, off, rfl, Nat.lt_of_lt_of_le hlt hb.size, fun i hi => (hc i hi).below (fun _ _ _ r => r.below hB hb) (Nat.lt_of_lt_of_le hlt hB) hb⟩
theorem NRowW.get (h : NRowW w a n ns) {k : Nat} (hk : k < n) : ∃ b off, a = some ⟨b, off, none⟩ ∧ b < w.heap.size ∧ NAt RowW w b (off + k * 6) (node ns k) := by
  rcases h.at_ with h0 | ⟨b, off, rfl, hlt, hc⟩
  · omega
  · exact ⟨b, off, rfl, hlt, hc k hk⟩

end
end Go.Proofs.YtinndpnilmmmjaaGreatDoor
namespace Go.Proofs.YtinndpnilmmmjaaGreatDoor
open Go.RowKit

theorem kind_cases (k : Int) : k < 1 ∨ 25 < k ∨ k = 1 ∨ k = 2 ∨ k = 3 ∨ k = 4 ∨ k = 5 ∨ k = 6 ∨ k = 7 ∨ k = 8 ∨ k = 9 ∨ k = 10 ∨ k = 11 ∨ k = 12 ∨ k = 13 ∨ k = 14 ∨ k = 15 ∨ k = 16 ∨ k = 17 ∨ k = 18 ∨ k = 19 ∨ k = 20 ∨ k = 21 ∨ k = 22 ∨ k = 23 ∨ k = 24 ∨ k = 25 := by omega

theorem ne_false {a b : Int} (h : a ≠ b) : (a == b) = false := by simpa using h

set_option maxHeartbeats 2000000 in
theorem l2Sort_any (k : Int) (w : World) : Calls Tryz.prog 24 #[.int .i64 k] w fun e w' => e = .returned (.int .i64 (sortK k)) ∧ w' = w := by
  rcases kind_cases k with h | h | h | h | h | h | h | h | h | h | h | h | h | h | h | h | h | h | h | h | h | h | h | h | h | h | h
  · have hs : sortK k = 0 := by unfold sortK; rw [if_neg (by omega), if_neg (by omega), if_neg (by omega), if_neg (by omega), if_neg (by omega), if_neg (by omega)]
    rw [hs]
    have a1 : ¬ (1 : Int) ≤ k := by omega
    have a2 : ¬ (11 : Int) ≤ k := by omega
    have a3 : ¬ (19 : Int) ≤ k := by omega
    have e8 := ne_false (show k ≠ 8 by omega)
    have e9 := ne_false (show k ≠ 9 by omega)
    have e10 := ne_false (show k ≠ 10 by omega)
    have e24 := ne_false (show k ≠ 24 by omega)
    have e25 := ne_false (show k ≠ 25 by omega)
    clear h hs
    go_enter Tryz.func24, Tryz.ntmps24
    go_wp2
    go_ret
    exact ⟨rfl, rfl⟩
  · have hs : sortK k = 0 := by unfold sortK; rw [if_neg (by omega), if_neg (by omega), if_neg (by omega), if_neg (by omega), if_neg (by omega), if_neg (by omega)]
    rw [hs]
    have a1 : (1 : Int) ≤ k := by omega
    have a2 : (11 : Int) ≤ k := by omega
    have a3 : (19 : Int) ≤ k := by omega
    have b1 : ¬ k ≤ 7 := by omega
    have b2 : ¬ k ≤ 18 := by omega
    have b3 : ¬ k ≤ 23 := by omega
    have e8 := ne_false (show k ≠ 8 by omega)
    have e9 := ne_false (show k ≠ 9 by omega)
    have e10 := ne_false (show k ≠ 10 by omega)
    have e24 := ne_false (show k ≠ 24 by omega)
    have e25 := ne_false (show k ≠ 25 by omega)
    clear h hs
    go_enter Tryz.func24, Tryz.ntmps24
    go_wp2
    go_ret
    exact ⟨rfl, rfl⟩
  all_goals
    subst h
    go_enter Tryz.func24, Tryz.ntmps24
    go_wp2
    go_ret
    exact ⟨rfl, rfl⟩

end Go.Proofs.YtinndpnilmmmjaaGreatDoor
namespace Go.Proofs.YtinndpnilmmmjaaGreatDoor
open Go.RowKit

/-- A node's kids lie ahead of it, as many as a selection asks for. -/
def SelAt (ns : List NodeD) (j : Nat) : Prop := (∀ q, q < (node ns j).kids.length → 0 ≤ (node ns j).kids.getD q 0 ∧ (node ns j).kids.getD q 0 < j) ∧ ((node ns j).k = 7 → 1 ≤ (node ns j).kids.length) ∧ ((node ns j).k = 9 → 2 ≤ (node ns j).kids.length) ∧ ((node ns j).k = 10 → 3 ≤ (node ns j).kids.length)

/-- All that is under a node is such that a selection can be followed. -/
def SelOk (ns : List NodeD) (i : Nat) : Prop := ∃ P : Nat → Prop, P i ∧ ∀ j, P j → SelAt ns j ∧ ∀ q, q < (node ns j).kids.length → P (kidN (node ns j) q)

theorem SelOk.of {ns : List NodeD} {i : Nat} (h : ∀ j, j ≤ i → SelAt ns j) : SelOk ns i := ⟨(· ≤ i), Nat.le_refl _, fun j hj => ⟨h j hj, fun q hq => by have := (h j hj).1 q hq; have hj' : j ≤ i := hj; show kidN (node ns j) q ≤ i; unfold kidN; omega⟩⟩
theorem SelOk.at {ns : List NodeD} {j : Nat} (h : SelOk ns j) : SelAt ns j := by obtain ⟨P, h1, h2⟩ := h; exact (h2 j h1).1

/-- A kid's place. -/
theorem SelOk.kid {ns : List NodeD} {j q : Nat} (h : SelOk ns j) (hq : q < (node ns j).kids.length) : (node ns j).kids.getD q 0 = ((kidN (node ns j) q : Nat) : Int) ∧ kidN (node ns j) q < j ∧ SelOk ns (kidN (node ns j) q) := by
  have := h.at.1 q hq
  refine ⟨by unfold kidN; omega, by unfold kidN; omega, ?_⟩
  obtain ⟨P, h1, h2⟩ := h
  exact ⟨P, (h2 j h1).2 q hq, h2⟩

theorem selF_name {ns : List NodeD} {f i : Nat} (h : (node ns i).k = 3) : selF ns (f + 1) i = true := by rw [selF, if_pos h]
theorem selF_next {ns : List NodeD} {f i j : Nat} (h : (node ns i).k ≠ 3) (hn : nextS ns i = some j) : selF ns (f + 1) i = selF ns f j := by rw [selF, if_neg h, hn]
theorem selF_none {ns : List NodeD} {f i : Nat} (h : (node ns i).k ≠ 3) (hn : nextS ns i = none) : selF ns (f + 1) i = false := by rw [selF, if_neg h, hn]

theorem next7 {ns : List NodeD} {i : Nat} (h : (node ns i).k = 7) : nextS ns i = some (kidN (node ns i) 0) := by unfold nextS; rw [if_pos h]
theorem next9 {ns : List NodeD} {i : Nat} (h : (node ns i).k = 9) (hp : primB (node ns (kidN (node ns i) 0)) 20 23 = true) : nextS ns i = some (kidN (node ns i) 1) := by unfold nextS; rw [if_neg (by omega), if_pos ⟨h, hp⟩]
theorem next9n {ns : List NodeD} {i : Nat} (h : (node ns i).k = 9) (hp : primB (node ns (kidN (node ns i) 0)) 20 23 = false) : nextS ns i = none := by unfold nextS; rw [if_neg (by omega), if_neg (by rw [hp]; simp), if_neg (by omega)]
theorem next10 {ns : List NodeD} {i : Nat} (h : (node ns i).k = 10) (hp : primB (node ns (kidN (node ns i) 1)) 21 25 = true) : nextS ns i = some (kidN (node ns i) 2) := by unfold nextS; rw [if_neg (by omega), if_neg (by omega), if_pos ⟨h, hp⟩]
theorem next10n {ns : List NodeD} {i : Nat} (h : (node ns i).k = 10) (hp : primB (node ns (kidN (node ns i) 1)) 21 25 = false) : nextS ns i = none := by unfold nextS; rw [if_neg (by omega), if_neg (by omega), if_neg (by rw [hp]; simp)]
theorem nextn {ns : List NodeD} {i : Nat} (h7 : (node ns i).k ≠ 7) (h9 : (node ns i).k ≠ 9) (h10 : (node ns i).k ≠ 10) : nextS ns i = none := by unfold nextS; rw [if_neg h7, if_neg (fun h => h9 h.1), if_neg (fun h => h10 h.1)]

set_option maxRecDepth 20000 in
set_option maxHeartbeats 8000000 in
theorem l2Selects_any (a : Option Addr) (n cap : Nat) (ns : List NodeD) (w : World) (h : NRowW w a n ns) (i : Nat) (hi : i < n) (hok : SelOk ns i) :
    Calls Tryz.prog 27 #[.slice a n cap, .int .i64 (i : Nat)] w fun e w' => e = .returned (.bool (selB ns i)) ∧ Below w.heap.size w w' := by
  obtain ⟨r, hr⟩ : ∃ r, selB ns i = r := ⟨_, rfl⟩
  rw [hr]
  have HR : Hid (((false || decide ((node ns i).k ≠ 3)) && selF ns (i + 1) i) = r) := by show _ = r; rw [Bool.false_or]; exact hr
  have hn1 := h.small
  have H := hide h
  have HOK := hide hok
  clear hr h hok
  go_enter Tryz.func27, Tryz.ntmps27
  go_wp2_with fail
  go_loopw [1, 5] (fun v s wr => ∃ (j f : Nat) (bs : Bool), v = .int .i64 j ∧ s = .bool bs ∧ j ≤ i ∧ j < f ∧ Hid (((bs || decide ((node ns j).k ≠ 3)) && selF ns f j) = r) ∧ Hid (Below w.heap.size w wr) ∧ Hid (SelOk ns j)) (fun v _ _ => (intOf v).toNat)
  case atStart => exact ⟨i, i + 1, false, rfl, rfl, Nat.le_refl _, by omega, HR, Below.refl _ _, HOK⟩
  case round =>
    obtain ⟨j, f, bs, rfl, rfl, hj, hf, HX, HB, HOJ⟩ := hrel
    clear HR HOK
    obtain ⟨f', rfl⟩ : ∃ f', f = f' + 1 := ⟨f - 1, by omega⟩
    have hNR := (unhide H).below (Nat.le_refl _) (unhide HB)
    obtain ⟨b, off, rfl, hbl, s1, n1, c1, s2, n2, c2, e0, e1, e2, e3, e4, e5, r1, r2⟩ := hNR.get (k := j) (by omega)
    have HNR := hide hNR
    have HR2 := hide r2
    have hl2 := r2.len
    have HBX : Hid (∀ o : Obj, Below w.heap.size w (wr.alloc o)) := fun o => (unhide HB).alloc (unhide HB).size _
    clear r1 r2 hNR
    obtain ⟨xn, hxn⟩ : ∃ x, x = (node ns j).n := ⟨_, rfl⟩
    obtain ⟨xm, hxm⟩ : ∃ x, x = (node ns j).m := ⟨_, rfl⟩
    obtain ⟨xs, hxs⟩ : ∃ x, x = (node ns j).s := ⟨_, rfl⟩
    rw [← hxn] at e1
    rw [← hxm] at e2
    rw [← hxs] at e3
    clear hxn hxm hxs
    by_cases h3 : (node ns j).k = 3
    · rw [h3] at e0
      have HE : Hid (bs = r) := by show _ = _; rw [← unhide HX, selF_name h3, h3]; simp
      clear HX h3
      go_wp2_with fail
      go_ret
      exact ⟨ret_bool (unhide HE), unhide HBX _⟩
    have HN : Hid (nextS ns j = none → false = r) := fun hh => by rw [← unhide HX, selF_none h3 hh, Bool.and_false]
    have HS : Hid (∀ j', nextS ns j = some j' → ((true || decide ((node ns j').k ≠ 3)) && selF ns f' j') = r) := fun j' hh => by rw [← unhide HX, selF_next h3 hh, decide_eq_true h3]; simp
    clear HX
    by_cases h7 : (node ns j).k = 7
    · have hlen := (unhide HOJ).at.2.1 h7
      rw [h7] at e0
      obtain ⟨pv, plt, pok⟩ := (unhide HOJ).kid (q := 0) (by omega)
      obtain ⟨pb, po, pe, pl, pc⟩ := (unhide HR2).get (k := 0) (by omega)
      rw [pv] at pc
      rw [Nat.add_zero] at pc
      cases pe
      have HT := hide (unhide HS _ (next7 h7))
      obtain ⟨z, hz⟩ : ∃ z, kidN (node ns j) 0 = z := ⟨_, rfl⟩
      rw [hz] at pc plt HT pok
      have HPO := hide pok
      clear pok
      have hb0 : (0 : Int) < (n2 : Int) := by omega
      clear hz HS HN h3 h7 pv HNR HR2 hlen hl2
      go_wp2_with fail
      go_roundw
      case rel => exact ⟨z, f', true, rfl, rfl, by omega, by omega, HT, unhide HBX _, HPO⟩
      case measure => simp [intOf]; omega
    by_cases h9 : (node ns j).k = 9
    · have hlen := (unhide HOJ).at.2.2.1 h9
      rw [h9] at e0
      obtain ⟨pv, plt, pok⟩ := (unhide HOJ).kid (q := 0) (by omega)
      obtain ⟨pb, po, pe, pl, pc⟩ := (unhide HR2).get (k := 0) (by omega)
      rw [pv] at pc
      rw [Nat.add_zero] at pc
      cases pe
      obtain ⟨uv, ult, uok⟩ := (unhide HOJ).kid (q := 1) (by omega)
      obtain ⟨ub, uo, ue, ul, uc⟩ := (unhide HR2).get (k := 1) (by omega)
      rw [uv] at uc
      cases ue
      obtain ⟨b3, off3, e3', hbl3, _, _, _, _, _, _, y0, y1, _, _, _, _, _, _⟩ := (unhide HNR).get (k := kidN (node ns j) 0) (by omega)
      cases e3'
      have HP : Hid (primB (node ns (kidN (node ns j) 0)) 20 23 = decide ((node ns (kidN (node ns j) 0)).k = 11 ∧ 20 ≤ (node ns (kidN (node ns j) 0)).n ∧ (node ns (kidN (node ns j) 0)).n ≤ 23)) := rfl
      have HT : Hid (primB (node ns (kidN (node ns j) 0)) 20 23 = true → _) := fun hh => unhide HS _ (next9 h9 hh)
      have HF : Hid (primB (node ns (kidN (node ns j) 0)) 20 23 = false → false = r) := fun hh => unhide HN (next9n h9 hh)
      obtain ⟨z, hz⟩ : ∃ z, kidN (node ns j) 0 = z := ⟨_, rfl⟩
      rw [hz] at pc plt HP HT HF y0 y1
      obtain ⟨z', hz'⟩ : ∃ z', kidN (node ns j) 1 = z' := ⟨_, rfl⟩
      rw [hz'] at uc ult HT uok
      have HUO := hide uok
      clear uok pok
      obtain ⟨yk, hyk⟩ : ∃ x, (node ns z).k = x := ⟨_, rfl⟩
      obtain ⟨yn, hyn⟩ : ∃ x, (node ns z).n = x := ⟨_, rfl⟩
      rw [hyk] at y0 HP
      rw [hyn] at y1 HP
      have hb0 : (0 : Int) < (n2 : Int) := by omega
      have hb1 : (1 : Int) < (n2 : Int) := by omega
      have hzn : (z : Int) < (n : Int) := by omega
      clear hz hz' hyk hyn HS HN h3 h7 pv uv HNR HR2 hlen hl2 h9
      by_cases g0 : yk = 11
      case neg =>
        have hq := ne_false g0
        have HE : Hid (false = r) := unhide HF (by rw [unhide HP, decide_eq_false (by omega)])
        clear HP HT HF g0
        go_wp2_with fail
        go_ret
        exact ⟨ret_bool (unhide HE), unhide HBX _⟩
      subst g0
      by_cases g1 : yn < 20
      · have hq : ¬ (20 : Int) ≤ yn := by omega
        have HE : Hid (false = r) := unhide HF (by rw [unhide HP, decide_eq_false (by omega)])
        clear HP HT HF g1
        go_wp2_with fail
        go_ret
        exact ⟨ret_bool (unhide HE), unhide HBX _⟩
      have hq1 : (20 : Int) ≤ yn := by omega
      by_cases g2 : 23 < yn
      · have hq : ¬ yn ≤ 23 := by omega
        have HE : Hid (false = r) := unhide HF (by rw [unhide HP, decide_eq_false (by omega)])
        clear HP HT HF g1 g2
        go_wp2_with fail
        go_ret
        exact ⟨ret_bool (unhide HE), unhide HBX _⟩
      have hq2 : yn ≤ 23 := by omega
      have HTT := hide (unhide HT (by rw [unhide HP, decide_eq_true (by omega)]))
      clear HP HT HF g1 g2
      go_wp2_with fail
      go_roundw
      case rel => exact ⟨z', f', true, rfl, rfl, by omega, by omega, HTT, unhide HBX _, HUO⟩
      case measure => simp [intOf]; omega
    by_cases h10 : (node ns j).k = 10
    · have hlen := (unhide HOJ).at.2.2.2 h10
      rw [h10] at e0
      obtain ⟨pv, plt, pok⟩ := (unhide HOJ).kid (q := 1) (by omega)
      obtain ⟨pb, po, pe, pl, pc⟩ := (unhide HR2).get (k := 1) (by omega)
      rw [pv] at pc
      cases pe
      obtain ⟨uv, ult, uok⟩ := (unhide HOJ).kid (q := 2) (by omega)
      obtain ⟨ub, uo, ue, ul, uc⟩ := (unhide HR2).get (k := 2) (by omega)
      rw [uv] at uc
      cases ue
      obtain ⟨b3, off3, e3', hbl3, _, _, _, _, _, _, y0, y1, _, _, _, _, _, _⟩ := (unhide HNR).get (k := kidN (node ns j) 1) (by omega)
      cases e3'
      have HP : Hid (primB (node ns (kidN (node ns j) 1)) 21 25 = decide ((node ns (kidN (node ns j) 1)).k = 11 ∧ 21 ≤ (node ns (kidN (node ns j) 1)).n ∧ (node ns (kidN (node ns j) 1)).n ≤ 25)) := rfl
      have HT : Hid (primB (node ns (kidN (node ns j) 1)) 21 25 = true → _) := fun hh => unhide HS _ (next10 h10 hh)
      have HF : Hid (primB (node ns (kidN (node ns j) 1)) 21 25 = false → false = r) := fun hh => unhide HN (next10n h10 hh)
      obtain ⟨z, hz⟩ : ∃ z, kidN (node ns j) 1 = z := ⟨_, rfl⟩
      rw [hz] at pc plt HP HT HF y0 y1
      obtain ⟨z', hz'⟩ : ∃ z', kidN (node ns j) 2 = z' := ⟨_, rfl⟩
      rw [hz'] at uc ult HT uok
      have HUO := hide uok
      clear uok pok
      obtain ⟨yk, hyk⟩ : ∃ x, (node ns z).k = x := ⟨_, rfl⟩
      obtain ⟨yn, hyn⟩ : ∃ x, (node ns z).n = x := ⟨_, rfl⟩
      rw [hyk] at y0 HP
      rw [hyn] at y1 HP
      have hb0 : (1 : Int) < (n2 : Int) := by omega
      have hb1 : (2 : Int) < (n2 : Int) := by omega
      have hzn : (z : Int) < (n : Int) := by omega
      clear hz hz' hyk hyn HS HN h3 h7 pv uv HNR HR2 hlen hl2 h10
      by_cases g0 : yk = 11
      case neg =>
        have hq := ne_false g0
        have HE : Hid (false = r) := unhide HF (by rw [unhide HP, decide_eq_false (by omega)])
        clear HP HT HF g0
        go_wp2_with fail
        go_ret
        exact ⟨ret_bool (unhide HE), unhide HBX _⟩
      subst g0
      by_cases g1 : yn < 21
      · have hq : ¬ (21 : Int) ≤ yn := by omega
        have HE : Hid (false = r) := unhide HF (by rw [unhide HP, decide_eq_false (by omega)])
        clear HP HT HF g1
        go_wp2_with fail
        go_ret
        exact ⟨ret_bool (unhide HE), unhide HBX _⟩
      have hq1 : (21 : Int) ≤ yn := by omega
      by_cases g2 : 25 < yn
      · have hq : ¬ yn ≤ 25 := by omega
        have HE : Hid (false = r) := unhide HF (by rw [unhide HP, decide_eq_false (by omega)])
        clear HP HT HF g1 g2
        go_wp2_with fail
        go_ret
        exact ⟨ret_bool (unhide HE), unhide HBX _⟩
      have hq2 : yn ≤ 25 := by omega
      have HTT := hide (unhide HT (by rw [unhide HP, decide_eq_true (by omega)]))
      clear HP HT HF g1 g2
      go_wp2_with fail
      go_roundw
      case rel => exact ⟨z', f', true, rfl, rfl, by omega, by omega, HTT, unhide HBX _, HUO⟩
      case measure => simp [intOf]; omega
    obtain ⟨xk, hxk⟩ : ∃ x, (node ns j).k = x := ⟨_, rfl⟩
    have HE : Hid (false = r) := unhide HN (nextn h7 h9 h10)
    rw [hxk] at e0 h3 h7 h9 h10
    have q3 := ne_false h3
    have q7 := ne_false h7
    have q9 := ne_false h9
    have q10 := ne_false h10
    clear hxk HN HS h3 h7 h9 h10 HNR HR2
    go_wp2_with fail
    go_ret
    exact ⟨ret_bool (unhide HE), unhide HBX _⟩

end Go.Proofs.YtinndpnilmmmjaaGreatDoor
namespace Go.Proofs.YtinndpnilmmmjaaGreatDoor
open Go.RowKit

theorem sort_cases (k : Int) : sortK k = 0 ∨ sortK k = 1 ∨ sortK k = 2 ∨ sortK k = 3 ∨ sortK k = 4 ∨ sortK k = 5 ∨ sortK k = 6 := by
  unfold sortK
  repeat' split
  all_goals omega

set_option maxHeartbeats 4000000 in
theorem l2Is_any (c : Nat) (k : Int) (w : World) (hc : c = 101 ∨ c = 112 ∨ c = 102 ∨ c = 98 ∨ c = 115 ∨ c = 105) : Calls Tryz.prog 53 #[.int .u8 (c : Nat), .int .i64 k] w fun e w' => e = .returned (.bool (isK c k)) ∧ w' = w := by
  have hcs := sort_cases k
  obtain ⟨s, hs⟩ : ∃ s, sortK k = s := ⟨_, rfl⟩
  rw [hs] at hcs
  have HS : Hid (∀ W, Calls Tryz.prog 24 #[.int .i64 k] W fun e w' => e = .returned (.int .i64 s) ∧ w' = W) := hide fun W => by rw [← hs]; exact l2Sort_any k W
  obtain ⟨r, hr⟩ : ∃ r, isK c k = r := ⟨_, rfl⟩
  rw [hr]
  have HR := hide hr
  have HSS := hide hs
  clear hr hs
  by_cases h98 : c = 98
  · subst h98
    clear hc hcs
    by_cases e1 : k = 16
    · have d1 : (k == 16) = true := by simpa using e1
      have HE := hide e1
      clear e1
      go_enter Tryz.func53, Tryz.ntmps53
      go_wp2_with (go_at_call 24; refine (unhide HS _).mono ?_; rintro e w1 ⟨rfl, rfl⟩)
      go_ret
      exact ⟨ret_bool (by rw [← unhide HR]; exact (decide_eq_true (unhide HE)).symm), rfl⟩
    · have d1 := ne_false e1
      have HE := hide e1
      clear e1
      go_enter Tryz.func53, Tryz.ntmps53
      go_wp2_with (go_at_call 24; refine (unhide HS _).mono ?_; rintro e w1 ⟨rfl, rfl⟩)
      go_ret
      exact ⟨ret_bool (by rw [← unhide HR]; exact (decide_eq_false (unhide HE)).symm), rfl⟩
  · rcases hc with h | h | h | h | h | h
    rotate_left 3
    · exact absurd h h98
    all_goals (subst h; clear h98; rcases hcs with h | h | h | h | h | h | h)
    all_goals
      subst h
      go_enter Tryz.func53, Tryz.ntmps53
      go_wp2_with (go_at_call 24; refine (unhide HS _).mono ?_; rintro e w1 ⟨rfl, rfl⟩)
      go_ret
      exact ⟨ret_bool (by rw [← unhide HR]; simp [isK, isE, isP, isF, isS, isI, unhide HSS]), rfl⟩

theorem all_take {p : Int → Bool} {zs : List Int} {k : Nat} (hk : k < zs.length) (h : (zs.take k).all p = true) (hp : p (zs.getD k 0) = true) : (zs.take (k + 1)).all p = true := by
  rw [List.take_succ_eq_append_getElem hk, List.all_append, h]
  have : zs.getD k 0 = zs[k] := by simp [hk]
  rw [this] at hp
  simp [hp]

theorem all_false {p : Int → Bool} {zs : List Int} {k : Nat} (hk : k < zs.length) (hp : p (zs.getD k 0) = false) : zs.all p = false := by
  have : zs.getD k 0 = zs[k] := by simp [hk]
  rw [this] at hp
  refine List.all_eq_false.2 ⟨zs[k], List.getElem_mem hk, by simp [hp]⟩

set_option maxHeartbeats 4000000 in
theorem l2AllAre_any (c : Nat) (a : Option Addr) (n cap : Nat) (zs : List Int) (w : World) (hc : c = 101 ∨ c = 112 ∨ c = 102 ∨ c = 98 ∨ c = 115 ∨ c = 105) (h : Row w a n zs) : Calls Tryz.prog 54 #[.int .u8 (c : Nat), .slice a n cap] w fun e w' => e = .returned (.bool (zs.all (isK c))) ∧ w' = w := by
  have HI := hide (fun (k : Int) (W : World) => l2Is_any c k W hc)
  obtain ⟨hlen, hsm, -⟩ := id h
  have H := hide h
  clear h hc
  go_enter Tryz.func54, Tryz.ntmps54
  go_wp2_with fail
  go_loopw [5] (fun i wr => ∃ k : Nat, k ≤ n ∧ i = .int .i64 k ∧ Hid ((zs.take k).all (isK c) = true) ∧ wr = w) (fun i _ => n - (intOf i).toNat)
  case atStart => exact ⟨0, Nat.zero_le _, rfl, rfl, rfl⟩
  case round =>
    obtain ⟨k, hk, rfl, HA, rfl⟩ := hrel
    by_cases hlt : k < n
    · obtain ⟨b, off, rfl, hbl, hcell⟩ := (unhide H).get hlt
      obtain ⟨x, hx⟩ : ∃ x, zs.getD k 0 = x := ⟨_, rfl⟩
      rw [hx] at hcell
      have HX := hide hx
      clear hx
      have HC := hide (fun W => unhide HI x W)
      cases hq : isK c x with
      | true =>
        rw [hq] at HC
        have HT : Hid ((zs.take (k + 1)).all (isK c) = true) := all_take (by omega) (unhide HA) (by rw [unhide HX]; exact hq)
        clear hq
        go_wp2_with (go_at_call 53; refine (unhide HC _).mono ?_; rintro e w1 ⟨rfl, rfl⟩)
        go_roundw
        case rel => exact ⟨k + 1, by omega, by go_num, HT, trivial⟩
        case measure => simp [intOf]; omega
      | false =>
        rw [hq] at HC
        have HT : Hid (zs.all (isK c) = false) := all_false (k := k) (by omega) (by rw [unhide HX]; exact hq)
        clear hq
        go_wp2_with (go_at_call 53; refine (unhide HC _).mono ?_; rintro e w1 ⟨rfl, rfl⟩)
        go_ret
        exact ⟨ret_bool (unhide HT).symm, rfl⟩
    · have hkn : k = n := by omega
      subst hkn
      have HT : Hid (zs.all (isK c) = true) := by have := unhide HA; rwa [List.take_of_length_le (by omega)] at this
      go_wp2
      go_ret
      exact ⟨ret_bool (unhide HT).symm, rfl⟩

theorem Row.drop {w : World} {a : Option Addr} {n : Nat} {zs : List Int} (h : Row w a n zs) {b off : Nat} (ha : a = some ⟨b, off, none⟩) (j : Nat) (hj : j ≤ n) : Row w (some ⟨b, off + j, none⟩) (n - j) (zs.drop j) := by
  have hl := h.len
  refine ⟨by rw [List.length_drop]; omega, by have := h.small; omega, ?_⟩
  rcases h.at_ with h0 | ⟨b', off', e, hlt, hc⟩
  · left; omega
  · rw [ha] at e
    cases e
    refine .inr ⟨b, off + j, rfl, hlt, fun i hi => ?_⟩
    rw [Nat.add_assoc, hc (j + i) (by omega)]
    simp [List.getD_eq_getElem?_getD]

theorem Row.take {w : World} {a : Option Addr} {n : Nat} {zs : List Int} (h : Row w a n zs) (j : Nat) (hj : j ≤ n) : Row w a j (zs.take j) := by
  have hl := h.len
  refine ⟨by rw [List.length_take]; omega, by have := h.small; omega, ?_⟩
  rcases h.at_ with h0 | ⟨b', off', e, hlt, hc⟩
  · left; omega
  · refine .inr ⟨b', off', e, hlt, fun i hi => ?_⟩
    rw [hc i (by omega)]
    simp [List.getD_eq_getElem?_getD, hi]

end Go.Proofs.YtinndpnilmmmjaaGreatDoor
namespace Go.Proofs.YtinndpnilmmmjaaGreatDoor
open Go.RowKit

theorem isOk (c : Nat) (k : Int) (hc : c = 101 ∨ c = 112 ∨ c = 102 ∨ c = 98 ∨ c = 115 ∨ c = 105) (r : Bool) (hr : isK c k = r) (W : World) : Calls Tryz.prog 53 #[.int .u8 (c : Nat), .int .i64 k] W fun e w' => e = .returned (.bool r) ∧ w' = W := by
  rw [← hr]; exact l2Is_any c k W hc

theorem allOk (c : Nat) (a : Option Addr) (n cap : Nat) (zs : List Int) (W : World) (hc : c = 101 ∨ c = 112 ∨ c = 102 ∨ c = 98 ∨ c = 115 ∨ c = 105) (h : Row W a n zs) (r : Bool) (hr : zs.all (isK c) = r) : Calls Tryz.prog 54 #[.int .u8 (c : Nat), .slice a n cap] W fun e w' => e = .returned (.bool r) ∧ w' = W := by
  rw [← hr]; exact l2AllAre_any c a n cap zs W hc h

set_option maxHeartbeats 4000000 in
theorem kidsOk_7 (b off n : Nat) (ks : List Int) (w : World) (h : Row w (some ⟨b, off, none⟩) n ks) : Calls Tryz.prog 25 #[.int .i64 7, .slice (some ⟨b, off, none⟩) n n] w fun e w' => e = .returned (.bool (kidsB 7 ks)) ∧ Below w.heap.size w w' := by
  have hlen := h.len
  have hsm := h.small
  obtain ⟨r, hr⟩ : ∃ r, kidsB 7 ks = r := ⟨_, rfl⟩
  rw [hr]
  have HR : Hid ((decide (2 ≤ ks.length) && (isE (ks.getD 0 0) && (ks.drop 1).all isP)) = r) := hr
  clear hr
  by_cases hn : 2 ≤ n
  case neg =>
    have hg : ¬ (1 : Int) < (n : Int) := by omega
    have HE : Hid (false = r) := by show _ = _; rw [← unhide HR, decide_eq_false (by omega)]; rfl
    go_enter Tryz.func25, Tryz.ntmps25
    go_wp2_with fail
    go_ret
    exact ⟨ret_bool (unhide HE), Below.refl _ _⟩
  have hg : (1 : Int) < (n : Int) := by omega
  obtain ⟨b', off', e', hbl, hc0⟩ := h.get (k := 0) (by omega)
  cases e'
  have hd := h.drop rfl 1 (by omega)
  have HD := hide hd
  obtain ⟨x, hx⟩ : ∃ x, ks.getD 0 0 = x := ⟨_, rfl⟩
  rw [hx] at hc0
  rw [Nat.add_zero] at hc0
  rw [decide_eq_true (show 2 ≤ ks.length by omega), Bool.true_and, hx] at HR
  obtain ⟨zs, hzs⟩ : ∃ zs, ks.drop 1 = zs := ⟨_, rfl⟩
  rw [hzs] at HD HR
  clear h hd hx hzs
  have hcap : ¬ n = 1 := by omega
  have hcap1 : (n : Int) - 1 = ((n - 1 : Nat) : Int) := by omega
  cases hE : isE x with
  | false =>
    have HI := hide (fun W => isOk 101 x (.inl rfl) false hE W)
    have HE : Hid (false = r) := by show _ = _; rw [← unhide HR, hE]; rfl
    clear hE
    go_enter Tryz.func25, Tryz.ntmps25
    go_wp2_with (first | (go_at_call 53; refine (unhide HI _).mono ?_; rintro e w1 ⟨rfl, rfl⟩))
    go_ret
    exact ⟨ret_bool (unhide HE), Below.refl _ _⟩
  | true =>
    have HI := hide (fun W => isOk 101 x (.inl rfl) true hE W)
    rw [hE, Bool.true_and] at HR
    clear hE
    have HA := hide (allOk 112 (some ⟨b, off + 1, none⟩) (n - 1) (n - 1) zs w (.inr (.inl rfl)) (unhide HD) r (unhide HR))
    go_enter Tryz.func25, Tryz.ntmps25
    go_wp2_with (first | (go_at_call 53; refine (unhide HI _).mono ?_; rintro e w1 ⟨rfl, rfl⟩) | (go_at_call 54; refine (unhide HA).mono ?_; rintro e w1 ⟨rfl, rfl⟩))
    go_ret
    exact ⟨rfl, Below.refl _ _⟩

set_option maxHeartbeats 4000000 in
theorem kidsOk_21 (b off n : Nat) (ks : List Int) (w : World) (h : Row w (some ⟨b, off, none⟩) n ks) : Calls Tryz.prog 25 #[.int .i64 21, .slice (some ⟨b, off, none⟩) n n] w fun e w' => e = .returned (.bool (kidsB 21 ks)) ∧ Below w.heap.size w w' := by
  have hlen := h.len
  have hsm := h.small
  obtain ⟨r, hr⟩ : ∃ r, kidsB 21 ks = r := ⟨_, rfl⟩
  rw [hr]
  have HR : Hid ((decide (2 ≤ ks.length) && ((ks.take (ks.length - 1)).all isP && isE (ks.getD (ks.length - 1) 0))) = r) := hr
  clear hr
  by_cases hn : 2 ≤ n
  case neg =>
    have hg : ¬ (1 : Int) < (n : Int) := by omega
    have HE : Hid (false = r) := by show _ = _; rw [← unhide HR, decide_eq_false (by omega)]; rfl
    go_enter Tryz.func25, Tryz.ntmps25
    go_wp2_with fail
    go_ret
    exact ⟨ret_bool (unhide HE), Below.refl _ _⟩
  have hg : (1 : Int) < (n : Int) := by omega
  obtain ⟨b', off', e', hbl, hc0⟩ := h.get (k := n - 1) (by omega)
  cases e'
  have hd := h.take (n - 1) (by omega)
  have HD := hide hd
  obtain ⟨x, hx⟩ : ∃ x, ks.getD (n - 1) 0 = x := ⟨_, rfl⟩
  rw [hx] at hc0
  rw [decide_eq_true (show 2 ≤ ks.length by omega), Bool.true_and, hlen, hx] at HR
  obtain ⟨zs, hzs⟩ : ∃ zs, ks.take (n - 1) = zs := ⟨_, rfl⟩
  rw [hzs] at HD HR
  clear h hd hx hzs
  obtain ⟨m, hm⟩ : ∃ m, n = m + 1 := ⟨n - 1, by omega⟩
  subst hm
  rw [Nat.add_sub_cancel] at HD hc0
  have hcap1 : (((m + 1 : Nat) : Int) - 1) = ((m : Nat) : Int) := by omega
  have hcap2 : (((m : Nat) : Int) + 1 - 1) = ((m : Nat) : Int) := by omega
  have hml : (m : Int) ≤ ((m : Nat) : Int) + 1 := by omega
  cases hE : zs.all isP with
  | false =>
    have HA := hide (allOk 112 (some ⟨b, off, none⟩) m (m + 1) zs w (.inr (.inl rfl)) (unhide HD) false hE)
    have HE : Hid (false = r) := by show _ = _; rw [← unhide HR, hE]; rfl
    clear hE
    go_enter Tryz.func25, Tryz.ntmps25
    go_wp2_with (first | (go_at_call 54; refine (unhide HA).mono ?_; rintro e w1 ⟨rfl, rfl⟩))
    go_ret
    exact ⟨ret_bool (unhide HE), Below.refl _ _⟩
  | true =>
    have HA := hide (allOk 112 (some ⟨b, off, none⟩) m (m + 1) zs w (.inr (.inl rfl)) (unhide HD) true hE)
    rw [hE, Bool.true_and] at HR
    clear hE
    have HI := hide (fun W => isOk 101 x (.inl rfl) r (unhide HR) W)
    go_enter Tryz.func25, Tryz.ntmps25
    go_wp2_with (first | (go_at_call 53; refine (unhide HI _).mono ?_; rintro e w1 ⟨rfl, rfl⟩) | (go_at_call 54; refine (unhide HA).mono ?_; rintro e w1 ⟨rfl, rfl⟩))
    go_ret
    exact ⟨rfl, Below.refl _ _⟩


set_option maxHeartbeats 4000000 in
theorem kidsOk_16 (a : Option Addr) (n cap : Nat) (ks : List Int) (w : World) (h : Row w a n ks) : Calls Tryz.prog 25 #[.int .i64 16, .slice a n cap] w fun e w' => e = .returned (.bool (kidsB 16 ks)) ∧ Below w.heap.size w w' := by
  have HA := hide (allOk 105 a n cap ks w (.inr (.inr (.inr (.inr (.inr rfl))))) h (kidsB 16 ks) rfl)
  clear h
  go_enter Tryz.func25, Tryz.ntmps25
  go_wp2_with (first | (go_at_call 54; refine (unhide HA).mono ?_; rintro e w1 ⟨rfl, rfl⟩))
  go_ret
  exact ⟨rfl, Below.refl _ _⟩


set_option maxHeartbeats 4000000 in
theorem kidsOk_25 (a : Option Addr) (n cap : Nat) (ks : List Int) (w : World) (h : Row w a n ks) : Calls Tryz.prog 25 #[.int .i64 25, .slice a n cap] w fun e w' => e = .returned (.bool (kidsB 25 ks)) ∧ Below w.heap.size w w' := by
  have HA := hide (allOk 115 a n cap ks w (.inr (.inr (.inr (.inr (.inl rfl))))) h (kidsB 25 ks) rfl)
  clear h
  go_enter Tryz.func25, Tryz.ntmps25
  go_wp2_with (first | (go_at_call 54; refine (unhide HA).mono ?_; rintro e w1 ⟨rfl, rfl⟩))
  go_ret
  exact ⟨rfl, Below.refl _ _⟩


theorem fits_take : ∀ (cs : List Nat) (ks : List Int) (j : Nat), cs.length = ks.length → j < ks.length → fits (cs.take j) (ks.take j) = true → isK (cs.getD j 0) (ks.getD j 0) = true → fits (cs.take (j + 1)) (ks.take (j + 1)) = true
  | [], [], j, _, hj, _, _ => absurd hj (Nat.not_lt_zero _)
  | c :: cs, k :: ks, 0, _, _, _, h => by simp at h; simp [fits, h]
  | c :: cs, k :: ks, j + 1, hl, hj, h1, h2 => by
    simp only [List.take_succ_cons, fits, Bool.and_eq_true] at h1 ⊢
    refine ⟨h1.1, fits_take cs ks j (by simpa using hl) (by simpa using hj) h1.2 (by simpa using h2)⟩

theorem fits_bad : ∀ (cs : List Nat) (ks : List Int) (j : Nat), j < ks.length → isK (cs.getD j 0) (ks.getD j 0) = false → cs.length = ks.length → fits cs ks = false
  | [], [], j, hj, _, _ => absurd hj (Nat.not_lt_zero _)
  | c :: cs, k :: ks, 0, _, h, _ => by simp at h; simp [fits, h]
  | c :: cs, k :: ks, j + 1, hj, h, hl => by
    rw [fits, fits_bad cs ks j (by simpa using hj) (by simpa using h) (by simpa using hl), Bool.and_false]

theorem fits_len : ∀ (cs : List Nat) (ks : List Int), cs.length ≠ ks.length → fits cs ks = false
  | [], [], h => absurd rfl h
  | [], _ :: _, _ => rfl
  | _ :: _, [], _ => rfl
  | c :: cs, k :: ks, h => by rw [fits, fits_len cs ks (by simpa using h), Bool.and_false]


end Go.Proofs.YtinndpnilmmmjaaGreatDoor
namespace Go.Proofs.YtinndpnilmmmjaaGreatDoor
open Go.RowKit

set_option maxHeartbeats 4000000 in
theorem kidsOk_1 (b off n cap : Nat) (ks : List Int) (w : World) (h : Row w (some ⟨b, off, none⟩) n ks) : Calls Tryz.prog 25 #[.int .i64 1, .slice (some ⟨b, off, none⟩) n cap] w fun e w' => e = .returned (.bool (kidsB 1 ks)) ∧ Below w.heap.size w w' := by
  have hlen := h.len
  obtain ⟨r, hr⟩ : ∃ r, kidsB 1 ks = r := ⟨_, rfl⟩
  rw [hr]
  have HR : Hid (fits [] ks = r) := hr
  clear hr
  by_cases hn : n = 0
  case neg =>
    have hg : ((0 : Int) != (n : Int)) = true := by simp; omega
    have HE : Hid (false = r) := by show _ = _; rw [← unhide HR]; exact (fits_len _ _ (by rw [hlen]; exact fun e => hn e.symm)).symm
    clear hn
    go_enter Tryz.func25, Tryz.ntmps25
    go_wp2_with fail
    go_ret
    exact ⟨ret_bool (unhide HE), (Below.refl _ _).alloc (Nat.le_refl _) _⟩
  subst hn
  have H := hide h
  clear h
  go_enter Tryz.func25, Tryz.ntmps25
  go_wp2_with fail
  go_loopw [7] (fun i wr => ∃ j : Nat, j ≤ 0 ∧ i = .int .i64 j ∧ Hid (fits (List.take j []) (ks.take j) = true) ∧ Hid (Below w.heap.size w wr)) (fun i _ => 0 - (intOf i).toNat)
  case atStart => exact ⟨0, Nat.zero_le _, rfl, rfl, (Below.refl _ _).alloc (Nat.le_refl _) _⟩
  case round =>
    obtain ⟨j, hj, rfl, HA, HB⟩ := hrel
    have hjn : j = 0 := by omega
    subst hjn
    have HE : Hid (true = r) := by
      show _ = _
      rw [← unhide HR]
      have := unhide HA
      rw [List.take_of_length_le (by simp), List.take_of_length_le (by omega)] at this
      exact this.symm
    go_wp2_with fail
    go_ret
    exact ⟨ret_bool (unhide HE), unhide HB⟩


set_option maxHeartbeats 4000000 in
theorem kidsOk_2 (b off n cap : Nat) (ks : List Int) (w : World) (h : Row w (some ⟨b, off, none⟩) n ks) : Calls Tryz.prog 25 #[.int .i64 2, .slice (some ⟨b, off, none⟩) n cap] w fun e w' => e = .returned (.bool (kidsB 2 ks)) ∧ Below w.heap.size w w' := by
  have hlen := h.len
  obtain ⟨r, hr⟩ : ∃ r, kidsB 2 ks = r := ⟨_, rfl⟩
  rw [hr]
  have HR : Hid (fits [] ks = r) := hr
  clear hr
  by_cases hn : n = 0
  case neg =>
    have hg : ((0 : Int) != (n : Int)) = true := by simp; omega
    have HE : Hid (false = r) := by show _ = _; rw [← unhide HR]; exact (fits_len _ _ (by rw [hlen]; exact fun e => hn e.symm)).symm
    clear hn
    go_enter Tryz.func25, Tryz.ntmps25
    go_wp2_with fail
    go_ret
    exact ⟨ret_bool (unhide HE), (Below.refl _ _).alloc (Nat.le_refl _) _⟩
  subst hn
  have H := hide h
  clear h
  go_enter Tryz.func25, Tryz.ntmps25
  go_wp2_with fail
  go_loopw [7] (fun i wr => ∃ j : Nat, j ≤ 0 ∧ i = .int .i64 j ∧ Hid (fits (List.take j []) (ks.take j) = true) ∧ Hid (Below w.heap.size w wr)) (fun i _ => 0 - (intOf i).toNat)
  case atStart => exact ⟨0, Nat.zero_le _, rfl, rfl, (Below.refl _ _).alloc (Nat.le_refl _) _⟩
  case round =>
    obtain ⟨j, hj, rfl, HA, HB⟩ := hrel
    have hjn : j = 0 := by omega
    subst hjn
    have HE : Hid (true = r) := by
      show _ = _
      rw [← unhide HR]
      have := unhide HA
      rw [List.take_of_length_le (by simp), List.take_of_length_le (by omega)] at this
      exact this.symm
    go_wp2_with fail
    go_ret
    exact ⟨ret_bool (unhide HE), unhide HB⟩


set_option maxHeartbeats 4000000 in
theorem kidsOk_3 (b off n cap : Nat) (ks : List Int) (w : World) (h : Row w (some ⟨b, off, none⟩) n ks) : Calls Tryz.prog 25 #[.int .i64 3, .slice (some ⟨b, off, none⟩) n cap] w fun e w' => e = .returned (.bool (kidsB 3 ks)) ∧ Below w.heap.size w w' := by
  have hlen := h.len
  obtain ⟨r, hr⟩ : ∃ r, kidsB 3 ks = r := ⟨_, rfl⟩
  rw [hr]
  have HR : Hid (fits [] ks = r) := hr
  clear hr
  by_cases hn : n = 0
  case neg =>
    have hg : ((0 : Int) != (n : Int)) = true := by simp; omega
    have HE : Hid (false = r) := by show _ = _; rw [← unhide HR]; exact (fits_len _ _ (by rw [hlen]; exact fun e => hn e.symm)).symm
    clear hn
    go_enter Tryz.func25, Tryz.ntmps25
    go_wp2_with fail
    go_ret
    exact ⟨ret_bool (unhide HE), (Below.refl _ _).alloc (Nat.le_refl _) _⟩
  subst hn
  have H := hide h
  clear h
  go_enter Tryz.func25, Tryz.ntmps25
  go_wp2_with fail
  go_loopw [7] (fun i wr => ∃ j : Nat, j ≤ 0 ∧ i = .int .i64 j ∧ Hid (fits (List.take j []) (ks.take j) = true) ∧ Hid (Below w.heap.size w wr)) (fun i _ => 0 - (intOf i).toNat)
  case atStart => exact ⟨0, Nat.zero_le _, rfl, rfl, (Below.refl _ _).alloc (Nat.le_refl _) _⟩
  case round =>
    obtain ⟨j, hj, rfl, HA, HB⟩ := hrel
    have hjn : j = 0 := by omega
    subst hjn
    have HE : Hid (true = r) := by
      show _ = _
      rw [← unhide HR]
      have := unhide HA
      rw [List.take_of_length_le (by simp), List.take_of_length_le (by omega)] at this
      exact this.symm
    go_wp2_with fail
    go_ret
    exact ⟨ret_bool (unhide HE), unhide HB⟩


end Go.Proofs.YtinndpnilmmmjaaGreatDoor
namespace Go.Proofs.YtinndpnilmmmjaaGreatDoor
open Go.RowKit

set_option maxHeartbeats 4000000 in
theorem kidsOk_4 (b off n cap : Nat) (ks : List Int) (w : World) (h : Row w (some ⟨b, off, none⟩) n ks) : Calls Tryz.prog 25 #[.int .i64 4, .slice (some ⟨b, off, none⟩) n cap] w fun e w' => e = .returned (.bool (kidsB 4 ks)) ∧ Below w.heap.size w w' := by
  have hlen := h.len
  obtain ⟨r, hr⟩ : ∃ r, kidsB 4 ks = r := ⟨_, rfl⟩
  rw [hr]
  have HR : Hid (fits [] ks = r) := hr
  clear hr
  by_cases hn : n = 0
  case neg =>
    have hg : ((0 : Int) != (n : Int)) = true := by simp; omega
    have HE : Hid (false = r) := by show _ = _; rw [← unhide HR]; exact (fits_len _ _ (by rw [hlen]; exact fun e => hn e.symm)).symm
    clear hn
    go_enter Tryz.func25, Tryz.ntmps25
    go_wp2_with fail
    go_ret
    exact ⟨ret_bool (unhide HE), (Below.refl _ _).alloc (Nat.le_refl _) _⟩
  subst hn
  have H := hide h
  clear h
  go_enter Tryz.func25, Tryz.ntmps25
  go_wp2_with fail
  go_loopw [7] (fun i wr => ∃ j : Nat, j ≤ 0 ∧ i = .int .i64 j ∧ Hid (fits (List.take j []) (ks.take j) = true) ∧ Hid (Below w.heap.size w wr)) (fun i _ => 0 - (intOf i).toNat)
  case atStart => exact ⟨0, Nat.zero_le _, rfl, rfl, (Below.refl _ _).alloc (Nat.le_refl _) _⟩
  case round =>
    obtain ⟨j, hj, rfl, HA, HB⟩ := hrel
    have hjn : j = 0 := by omega
    subst hjn
    have HE : Hid (true = r) := by
      show _ = _
      rw [← unhide HR]
      have := unhide HA
      rw [List.take_of_length_le (by simp), List.take_of_length_le (by omega)] at this
      exact this.symm
    go_wp2_with fail
    go_ret
    exact ⟨ret_bool (unhide HE), unhide HB⟩


set_option maxHeartbeats 4000000 in
theorem kidsOk_5 (b off n cap : Nat) (ks : List Int) (w : World) (h : Row w (some ⟨b, off, none⟩) n ks) : Calls Tryz.prog 25 #[.int .i64 5, .slice (some ⟨b, off, none⟩) n cap] w fun e w' => e = .returned (.bool (kidsB 5 ks)) ∧ Below w.heap.size w w' := by
  have hlen := h.len
  obtain ⟨r, hr⟩ : ∃ r, kidsB 5 ks = r := ⟨_, rfl⟩
  rw [hr]
  have HR : Hid (fits [] ks = r) := hr
  clear hr
  by_cases hn : n = 0
  case neg =>
    have hg : ((0 : Int) != (n : Int)) = true := by simp; omega
    have HE : Hid (false = r) := by show _ = _; rw [← unhide HR]; exact (fits_len _ _ (by rw [hlen]; exact fun e => hn e.symm)).symm
    clear hn
    go_enter Tryz.func25, Tryz.ntmps25
    go_wp2_with fail
    go_ret
    exact ⟨ret_bool (unhide HE), (Below.refl _ _).alloc (Nat.le_refl _) _⟩
  subst hn
  have H := hide h
  clear h
  go_enter Tryz.func25, Tryz.ntmps25
  go_wp2_with fail
  go_loopw [7] (fun i wr => ∃ j : Nat, j ≤ 0 ∧ i = .int .i64 j ∧ Hid (fits (List.take j []) (ks.take j) = true) ∧ Hid (Below w.heap.size w wr)) (fun i _ => 0 - (intOf i).toNat)
  case atStart => exact ⟨0, Nat.zero_le _, rfl, rfl, (Below.refl _ _).alloc (Nat.le_refl _) _⟩
  case round =>
    obtain ⟨j, hj, rfl, HA, HB⟩ := hrel
    have hjn : j = 0 := by omega
    subst hjn
    have HE : Hid (true = r) := by
      show _ = _
      rw [← unhide HR]
      have := unhide HA
      rw [List.take_of_length_le (by simp), List.take_of_length_le (by omega)] at this
      exact this.symm
    go_wp2_with fail
    go_ret
    exact ⟨ret_bool (unhide HE), unhide HB⟩


set_option maxHeartbeats 4000000 in
theorem kidsOk_6 (b off n cap : Nat) (ks : List Int) (w : World) (h : Row w (some ⟨b, off, none⟩) n ks) : Calls Tryz.prog 25 #[.int .i64 6, .slice (some ⟨b, off, none⟩) n cap] w fun e w' => e = .returned (.bool (kidsB 6 ks)) ∧ Below w.heap.size w w' := by
  have hlen := h.len
  obtain ⟨r, hr⟩ : ∃ r, kidsB 6 ks = r := ⟨_, rfl⟩
  rw [hr]
  have HR : Hid (fits [] ks = r) := hr
  clear hr
  by_cases hn : n = 0
  case neg =>
    have hg : ((0 : Int) != (n : Int)) = true := by simp; omega
    have HE : Hid (false = r) := by show _ = _; rw [← unhide HR]; exact (fits_len _ _ (by rw [hlen]; exact fun e => hn e.symm)).symm
    clear hn
    go_enter Tryz.func25, Tryz.ntmps25
    go_wp2_with fail
    go_ret
    exact ⟨ret_bool (unhide HE), (Below.refl _ _).alloc (Nat.le_refl _) _⟩
  subst hn
  have H := hide h
  clear h
  go_enter Tryz.func25, Tryz.ntmps25
  go_wp2_with fail
  go_loopw [7] (fun i wr => ∃ j : Nat, j ≤ 0 ∧ i = .int .i64 j ∧ Hid (fits (List.take j []) (ks.take j) = true) ∧ Hid (Below w.heap.size w wr)) (fun i _ => 0 - (intOf i).toNat)
  case atStart => exact ⟨0, Nat.zero_le _, rfl, rfl, (Below.refl _ _).alloc (Nat.le_refl _) _⟩
  case round =>
    obtain ⟨j, hj, rfl, HA, HB⟩ := hrel
    have hjn : j = 0 := by omega
    subst hjn
    have HE : Hid (true = r) := by
      show _ = _
      rw [← unhide HR]
      have := unhide HA
      rw [List.take_of_length_le (by simp), List.take_of_length_le (by omega)] at this
      exact this.symm
    go_wp2_with fail
    go_ret
    exact ⟨ret_bool (unhide HE), unhide HB⟩


set_option maxHeartbeats 4000000 in
theorem kidsOk_8 (b off n cap : Nat) (ks : List Int) (w : World) (h : Row w (some ⟨b, off, none⟩) n ks) : Calls Tryz.prog 25 #[.int .i64 8, .slice (some ⟨b, off, none⟩) n cap] w fun e w' => e = .returned (.bool (kidsB 8 ks)) ∧ Below w.heap.size w w' := by
  have hlen := h.len
  obtain ⟨r, hr⟩ : ∃ r, kidsB 8 ks = r := ⟨_, rfl⟩
  rw [hr]
  have HR : Hid (fits [] ks = r) := hr
  clear hr
  by_cases hn : n = 0
  case neg =>
    have hg : ((0 : Int) != (n : Int)) = true := by simp; omega
    have HE : Hid (false = r) := by show _ = _; rw [← unhide HR]; exact (fits_len _ _ (by rw [hlen]; exact fun e => hn e.symm)).symm
    clear hn
    go_enter Tryz.func25, Tryz.ntmps25
    go_wp2_with fail
    go_ret
    exact ⟨ret_bool (unhide HE), (Below.refl _ _).alloc (Nat.le_refl _) _⟩
  subst hn
  have H := hide h
  clear h
  go_enter Tryz.func25, Tryz.ntmps25
  go_wp2_with fail
  go_loopw [7] (fun i wr => ∃ j : Nat, j ≤ 0 ∧ i = .int .i64 j ∧ Hid (fits (List.take j []) (ks.take j) = true) ∧ Hid (Below w.heap.size w wr)) (fun i _ => 0 - (intOf i).toNat)
  case atStart => exact ⟨0, Nat.zero_le _, rfl, rfl, (Below.refl _ _).alloc (Nat.le_refl _) _⟩
  case round =>
    obtain ⟨j, hj, rfl, HA, HB⟩ := hrel
    have hjn : j = 0 := by omega
    subst hjn
    have HE : Hid (true = r) := by
      show _ = _
      rw [← unhide HR]
      have := unhide HA
      rw [List.take_of_length_le (by simp), List.take_of_length_le (by omega)] at this
      exact this.symm
    go_wp2_with fail
    go_ret
    exact ⟨ret_bool (unhide HE), unhide HB⟩


set_option maxHeartbeats 4000000 in
theorem kidsOk_9 (b off n cap : Nat) (ks : List Int) (w : World) (h : Row w (some ⟨b, off, none⟩) n ks) : Calls Tryz.prog 25 #[.int .i64 9, .slice (some ⟨b, off, none⟩) n cap] w fun e w' => e = .returned (.bool (kidsB 9 ks)) ∧ Below w.heap.size w w' := by
  have hlen := h.len
  obtain ⟨r, hr⟩ : ∃ r, kidsB 9 ks = r := ⟨_, rfl⟩
  rw [hr]
  have HR : Hid (fits [102, 101] ks = r) := hr
  clear hr
  by_cases hn : n = 2
  case neg =>
    have hg : ((2 : Int) != (n : Int)) = true := by simp; omega
    have HE : Hid (false = r) := by show _ = _; rw [← unhide HR]; exact (fits_len _ _ (by rw [hlen]; exact fun e => hn e.symm)).symm
    clear hn
    go_enter Tryz.func25, Tryz.ntmps25
    go_wp2_with fail
    go_ret
    exact ⟨ret_bool (unhide HE), (Below.refl _ _).alloc (Nat.le_refl _) _⟩
  subst hn
  have H := hide h
  clear h
  go_enter Tryz.func25, Tryz.ntmps25
  go_wp2_with fail
  go_loopw [7] (fun i wr => ∃ j : Nat, j ≤ 2 ∧ i = .int .i64 j ∧ Hid (fits (List.take j [102, 101]) (ks.take j) = true) ∧ Hid (Below w.heap.size w wr)) (fun i _ => 2 - (intOf i).toNat)
  case atStart => exact ⟨0, Nat.zero_le _, rfl, rfl, (Below.refl _ _).alloc (Nat.le_refl _) _⟩
  case round =>
    obtain ⟨j, hj, rfl, HA, HB⟩ := hrel
    by_cases h0 : j = 0
    · subst h0
      obtain ⟨b', off', e', hbl, hc0⟩ := ((unhide H).below (Nat.le_refl _) (unhide HB)).get (k := 0) (by omega)
      cases e'
      obtain ⟨x, hx⟩ : ∃ x, ks.getD 0 0 = x := ⟨_, rfl⟩
      rw [hx] at hc0
      rw [Nat.add_zero] at hc0
      have HX := hide hx
      clear hx
      cases hE : isK 102 x with
      | false =>
        have HI := hide (fun W => isOk 102 x (.inr (.inr (.inl rfl))) false hE W)
        have HE : Hid (false = r) := by show _ = _; rw [← unhide HR]; exact (fits_bad [102, 101] ks 0 (by omega) (by rw [unhide HX]; exact hE) hlen.symm).symm
        clear hE
        go_wp2_with fail
        go_quiet ((go_at_call 53; exact Calls.quiet_of_same (unhide HI _)))
        go_wp2_with fail
        go_ret
        exact ⟨ret_bool (unhide HE), Below.drewN (unhide HB) _⟩
      | true =>
        have HI := hide (fun W => isOk 102 x (.inr (.inr (.inl rfl))) true hE W)
        have HT : Hid (fits (List.take 1 [102, 101]) (ks.take 1) = true) := fits_take [102, 101] ks 0 hlen.symm (by omega) (unhide HA) (by rw [unhide HX]; exact hE)
        clear hE
        go_wp2_with fail
        go_quiet ((go_at_call 53; exact Calls.quiet_of_same (unhide HI _)))
        go_wp2_with fail
        go_roundw
        case rel => exact ⟨1, by omega, by go_num, HT, Below.drewN (unhide HB) _⟩
        case measure => simp [intOf]
    by_cases h1 : j = 1
    · subst h1
      obtain ⟨b', off', e', hbl, hc0⟩ := ((unhide H).below (Nat.le_refl _) (unhide HB)).get (k := 1) (by omega)
      cases e'
      obtain ⟨x, hx⟩ : ∃ x, ks.getD 1 0 = x := ⟨_, rfl⟩
      rw [hx] at hc0
      have HX := hide hx
      clear hx
      cases hE : isK 101 x with
      | false =>
        have HI := hide (fun W => isOk 101 x (.inl rfl) false hE W)
        have HE : Hid (false = r) := by show _ = _; rw [← unhide HR]; exact (fits_bad [102, 101] ks 1 (by omega) (by rw [unhide HX]; exact hE) hlen.symm).symm
        clear hE
        go_wp2_with fail
        go_quiet ((go_at_call 53; exact Calls.quiet_of_same (unhide HI _)))
        go_wp2_with fail
        go_ret
        exact ⟨ret_bool (unhide HE), Below.drewN (unhide HB) _⟩
      | true =>
        have HI := hide (fun W => isOk 101 x (.inl rfl) true hE W)
        have HT : Hid (fits (List.take 2 [102, 101]) (ks.take 2) = true) := fits_take [102, 101] ks 1 hlen.symm (by omega) (unhide HA) (by rw [unhide HX]; exact hE)
        clear hE
        go_wp2_with fail
        go_quiet ((go_at_call 53; exact Calls.quiet_of_same (unhide HI _)))
        go_wp2_with fail
        go_roundw
        case rel => exact ⟨2, by omega, by go_num, HT, Below.drewN (unhide HB) _⟩
        case measure => simp [intOf]
    have hjn : j = 2 := by omega
    subst hjn
    have HE : Hid (true = r) := by
      show _ = _
      rw [← unhide HR]
      have := unhide HA
      rw [List.take_of_length_le (by simp), List.take_of_length_le (by omega)] at this
      exact this.symm
    go_wp2_with fail
    go_ret
    exact ⟨ret_bool (unhide HE), unhide HB⟩


set_option maxHeartbeats 4000000 in
theorem kidsOk_10 (b off n cap : Nat) (ks : List Int) (w : World) (h : Row w (some ⟨b, off, none⟩) n ks) : Calls Tryz.prog 25 #[.int .i64 10, .slice (some ⟨b, off, none⟩) n cap] w fun e w' => e = .returned (.bool (kidsB 10 ks)) ∧ Below w.heap.size w w' := by
  have hlen := h.len
  obtain ⟨r, hr⟩ : ∃ r, kidsB 10 ks = r := ⟨_, rfl⟩
  rw [hr]
  have HR : Hid (fits [101, 102, 101] ks = r) := hr
  clear hr
  by_cases hn : n = 3
  case neg =>
    have hg : ((3 : Int) != (n : Int)) = true := by simp; omega
    have HE : Hid (false = r) := by show _ = _; rw [← unhide HR]; exact (fits_len _ _ (by rw [hlen]; exact fun e => hn e.symm)).symm
    clear hn
    go_enter Tryz.func25, Tryz.ntmps25
    go_wp2_with fail
    go_ret
    exact ⟨ret_bool (unhide HE), (Below.refl _ _).alloc (Nat.le_refl _) _⟩
  subst hn
  have H := hide h
  clear h
  go_enter Tryz.func25, Tryz.ntmps25
  go_wp2_with fail
  go_loopw [7] (fun i wr => ∃ j : Nat, j ≤ 3 ∧ i = .int .i64 j ∧ Hid (fits (List.take j [101, 102, 101]) (ks.take j) = true) ∧ Hid (Below w.heap.size w wr)) (fun i _ => 3 - (intOf i).toNat)
  case atStart => exact ⟨0, Nat.zero_le _, rfl, rfl, (Below.refl _ _).alloc (Nat.le_refl _) _⟩
  case round =>
    obtain ⟨j, hj, rfl, HA, HB⟩ := hrel
    by_cases h0 : j = 0
    · subst h0
      obtain ⟨b', off', e', hbl, hc0⟩ := ((unhide H).below (Nat.le_refl _) (unhide HB)).get (k := 0) (by omega)
      cases e'
      obtain ⟨x, hx⟩ : ∃ x, ks.getD 0 0 = x := ⟨_, rfl⟩
      rw [hx] at hc0
      rw [Nat.add_zero] at hc0
      have HX := hide hx
      clear hx
      cases hE : isK 101 x with
      | false =>
        have HI := hide (fun W => isOk 101 x (.inl rfl) false hE W)
        have HE : Hid (false = r) := by show _ = _; rw [← unhide HR]; exact (fits_bad [101, 102, 101] ks 0 (by omega) (by rw [unhide HX]; exact hE) hlen.symm).symm
        clear hE
        go_wp2_with fail
        go_quiet ((go_at_call 53; exact Calls.quiet_of_same (unhide HI _)))
        go_wp2_with fail
        go_ret
        exact ⟨ret_bool (unhide HE), Below.drewN (unhide HB) _⟩
      | true =>
        have HI := hide (fun W => isOk 101 x (.inl rfl) true hE W)
        have HT : Hid (fits (List.take 1 [101, 102, 101]) (ks.take 1) = true) := fits_take [101, 102, 101] ks 0 hlen.symm (by omega) (unhide HA) (by rw [unhide HX]; exact hE)
        clear hE
        go_wp2_with fail
        go_quiet ((go_at_call 53; exact Calls.quiet_of_same (unhide HI _)))
        go_wp2_with fail
        go_roundw
        case rel => exact ⟨1, by omega, by go_num, HT, Below.drewN (unhide HB) _⟩
        case measure => simp [intOf]
    by_cases h1 : j = 1
    · subst h1
      obtain ⟨b', off', e', hbl, hc0⟩ := ((unhide H).below (Nat.le_refl _) (unhide HB)).get (k := 1) (by omega)
      cases e'
      obtain ⟨x, hx⟩ : ∃ x, ks.getD 1 0 = x := ⟨_, rfl⟩
      rw [hx] at hc0
      have HX := hide hx
      clear hx
      cases hE : isK 102 x with
      | false =>
        have HI := hide (fun W => isOk 102 x (.inr (.inr (.inl rfl))) false hE W)
        have HE : Hid (false = r) := by show _ = _; rw [← unhide HR]; exact (fits_bad [101, 102, 101] ks 1 (by omega) (by rw [unhide HX]; exact hE) hlen.symm).symm
        clear hE
        go_wp2_with fail
        go_quiet ((go_at_call 53; exact Calls.quiet_of_same (unhide HI _)))
        go_wp2_with fail
        go_ret
        exact ⟨ret_bool (unhide HE), Below.drewN (unhide HB) _⟩
      | true =>
        have HI := hide (fun W => isOk 102 x (.inr (.inr (.inl rfl))) true hE W)
        have HT : Hid (fits (List.take 2 [101, 102, 101]) (ks.take 2) = true) := fits_take [101, 102, 101] ks 1 hlen.symm (by omega) (unhide HA) (by rw [unhide HX]; exact hE)
        clear hE
        go_wp2_with fail
        go_quiet ((go_at_call 53; exact Calls.quiet_of_same (unhide HI _)))
        go_wp2_with fail
        go_roundw
        case rel => exact ⟨2, by omega, by go_num, HT, Below.drewN (unhide HB) _⟩
        case measure => simp [intOf]
    by_cases h2 : j = 2
    · subst h2
      obtain ⟨b', off', e', hbl, hc0⟩ := ((unhide H).below (Nat.le_refl _) (unhide HB)).get (k := 2) (by omega)
      cases e'
      obtain ⟨x, hx⟩ : ∃ x, ks.getD 2 0 = x := ⟨_, rfl⟩
      rw [hx] at hc0
      have HX := hide hx
      clear hx
      cases hE : isK 101 x with
      | false =>
        have HI := hide (fun W => isOk 101 x (.inl rfl) false hE W)
        have HE : Hid (false = r) := by show _ = _; rw [← unhide HR]; exact (fits_bad [101, 102, 101] ks 2 (by omega) (by rw [unhide HX]; exact hE) hlen.symm).symm
        clear hE
        go_wp2_with fail
        go_quiet ((go_at_call 53; exact Calls.quiet_of_same (unhide HI _)))
        go_wp2_with fail
        go_ret
        exact ⟨ret_bool (unhide HE), Below.drewN (unhide HB) _⟩
      | true =>
        have HI := hide (fun W => isOk 101 x (.inl rfl) true hE W)
        have HT : Hid (fits (List.take 3 [101, 102, 101]) (ks.take 3) = true) := fits_take [101, 102, 101] ks 2 hlen.symm (by omega) (unhide HA) (by rw [unhide HX]; exact hE)
        clear hE
        go_wp2_with fail
        go_quiet ((go_at_call 53; exact Calls.quiet_of_same (unhide HI _)))
        go_wp2_with fail
        go_roundw
        case rel => exact ⟨3, by omega, by go_num, HT, Below.drewN (unhide HB) _⟩
        case measure => simp [intOf]
    have hjn : j = 3 := by omega
    subst hjn
    have HE : Hid (true = r) := by
      show _ = _
      rw [← unhide HR]
      have := unhide HA
      rw [List.take_of_length_le (by simp), List.take_of_length_le (by omega)] at this
      exact this.symm
    go_wp2_with fail
    go_ret
    exact ⟨ret_bool (unhide HE), unhide HB⟩


end Go.Proofs.YtinndpnilmmmjaaGreatDoor
namespace Go.Proofs.YtinndpnilmmmjaaGreatDoor
open Go.RowKit

set_option maxHeartbeats 4000000 in
theorem kidsOk_11 (b off n cap : Nat) (ks : List Int) (w : World) (h : Row w (some ⟨b, off, none⟩) n ks) : Calls Tryz.prog 25 #[.int .i64 11, .slice (some ⟨b, off, none⟩) n cap] w fun e w' => e = .returned (.bool (kidsB 11 ks)) ∧ Below w.heap.size w w' := by
  have hlen := h.len
  obtain ⟨r, hr⟩ : ∃ r, kidsB 11 ks = r := ⟨_, rfl⟩
  rw [hr]
  have HR : Hid (fits [] ks = r) := hr
  clear hr
  by_cases hn : n = 0
  case neg =>
    have hg : ((0 : Int) != (n : Int)) = true := by simp; omega
    have HE : Hid (false = r) := by show _ = _; rw [← unhide HR]; exact (fits_len _ _ (by rw [hlen]; exact fun e => hn e.symm)).symm
    clear hn
    go_enter Tryz.func25, Tryz.ntmps25
    go_wp2_with fail
    go_ret
    exact ⟨ret_bool (unhide HE), (Below.refl _ _).alloc (Nat.le_refl _) _⟩
  subst hn
  have H := hide h
  clear h
  go_enter Tryz.func25, Tryz.ntmps25
  go_wp2_with fail
  go_loopw [7] (fun i wr => ∃ j : Nat, j ≤ 0 ∧ i = .int .i64 j ∧ Hid (fits (List.take j []) (ks.take j) = true) ∧ Hid (Below w.heap.size w wr)) (fun i _ => 0 - (intOf i).toNat)
  case atStart => exact ⟨0, Nat.zero_le _, rfl, rfl, (Below.refl _ _).alloc (Nat.le_refl _) _⟩
  case round =>
    obtain ⟨j, hj, rfl, HA, HB⟩ := hrel
    have hjn : j = 0 := by omega
    subst hjn
    have HE : Hid (true = r) := by
      show _ = _
      rw [← unhide HR]
      have := unhide HA
      rw [List.take_of_length_le (by simp), List.take_of_length_le (by omega)] at this
      exact this.symm
    go_wp2_with fail
    go_ret
    exact ⟨ret_bool (unhide HE), unhide HB⟩


set_option maxHeartbeats 4000000 in
theorem kidsOk_12 (b off n cap : Nat) (ks : List Int) (w : World) (h : Row w (some ⟨b, off, none⟩) n ks) : Calls Tryz.prog 25 #[.int .i64 12, .slice (some ⟨b, off, none⟩) n cap] w fun e w' => e = .returned (.bool (kidsB 12 ks)) ∧ Below w.heap.size w w' := by
  have hlen := h.len
  obtain ⟨r, hr⟩ : ∃ r, kidsB 12 ks = r := ⟨_, rfl⟩
  rw [hr]
  have HR : Hid (fits [] ks = r) := hr
  clear hr
  by_cases hn : n = 0
  case neg =>
    have hg : ((0 : Int) != (n : Int)) = true := by simp; omega
    have HE : Hid (false = r) := by show _ = _; rw [← unhide HR]; exact (fits_len _ _ (by rw [hlen]; exact fun e => hn e.symm)).symm
    clear hn
    go_enter Tryz.func25, Tryz.ntmps25
    go_wp2_with fail
    go_ret
    exact ⟨ret_bool (unhide HE), (Below.refl _ _).alloc (Nat.le_refl _) _⟩
  subst hn
  have H := hide h
  clear h
  go_enter Tryz.func25, Tryz.ntmps25
  go_wp2_with fail
  go_loopw [7] (fun i wr => ∃ j : Nat, j ≤ 0 ∧ i = .int .i64 j ∧ Hid (fits (List.take j []) (ks.take j) = true) ∧ Hid (Below w.heap.size w wr)) (fun i _ => 0 - (intOf i).toNat)
  case atStart => exact ⟨0, Nat.zero_le _, rfl, rfl, (Below.refl _ _).alloc (Nat.le_refl _) _⟩
  case round =>
    obtain ⟨j, hj, rfl, HA, HB⟩ := hrel
    have hjn : j = 0 := by omega
    subst hjn
    have HE : Hid (true = r) := by
      show _ = _
      rw [← unhide HR]
      have := unhide HA
      rw [List.take_of_length_le (by simp), List.take_of_length_le (by omega)] at this
      exact this.symm
    go_wp2_with fail
    go_ret
    exact ⟨ret_bool (unhide HE), unhide HB⟩


set_option maxHeartbeats 4000000 in
theorem kidsOk_13 (b off n cap : Nat) (ks : List Int) (w : World) (h : Row w (some ⟨b, off, none⟩) n ks) : Calls Tryz.prog 25 #[.int .i64 13, .slice (some ⟨b, off, none⟩) n cap] w fun e w' => e = .returned (.bool (kidsB 13 ks)) ∧ Below w.heap.size w w' := by
  have hlen := h.len
  obtain ⟨r, hr⟩ : ∃ r, kidsB 13 ks = r := ⟨_, rfl⟩
  rw [hr]
  have HR : Hid (fits [] ks = r) := hr
  clear hr
  by_cases hn : n = 0
  case neg =>
    have hg : ((0 : Int) != (n : Int)) = true := by simp; omega
    have HE : Hid (false = r) := by show _ = _; rw [← unhide HR]; exact (fits_len _ _ (by rw [hlen]; exact fun e => hn e.symm)).symm
    clear hn
    go_enter Tryz.func25, Tryz.ntmps25
    go_wp2_with fail
    go_ret
    exact ⟨ret_bool (unhide HE), (Below.refl _ _).alloc (Nat.le_refl _) _⟩
  subst hn
  have H := hide h
  clear h
  go_enter Tryz.func25, Tryz.ntmps25
  go_wp2_with fail
  go_loopw [7] (fun i wr => ∃ j : Nat, j ≤ 0 ∧ i = .int .i64 j ∧ Hid (fits (List.take j []) (ks.take j) = true) ∧ Hid (Below w.heap.size w wr)) (fun i _ => 0 - (intOf i).toNat)
  case atStart => exact ⟨0, Nat.zero_le _, rfl, rfl, (Below.refl _ _).alloc (Nat.le_refl _) _⟩
  case round =>
    obtain ⟨j, hj, rfl, HA, HB⟩ := hrel
    have hjn : j = 0 := by omega
    subst hjn
    have HE : Hid (true = r) := by
      show _ = _
      rw [← unhide HR]
      have := unhide HA
      rw [List.take_of_length_le (by simp), List.take_of_length_le (by omega)] at this
      exact this.symm
    go_wp2_with fail
    go_ret
    exact ⟨ret_bool (unhide HE), unhide HB⟩


set_option maxHeartbeats 4000000 in
theorem kidsOk_14 (b off n cap : Nat) (ks : List Int) (w : World) (h : Row w (some ⟨b, off, none⟩) n ks) : Calls Tryz.prog 25 #[.int .i64 14, .slice (some ⟨b, off, none⟩) n cap] w fun e w' => e = .returned (.bool (kidsB 14 ks)) ∧ Below w.heap.size w w' := by
  have hlen := h.len
  obtain ⟨r, hr⟩ : ∃ r, kidsB 14 ks = r := ⟨_, rfl⟩
  rw [hr]
  have HR : Hid (fits [] ks = r) := hr
  clear hr
  by_cases hn : n = 0
  case neg =>
    have hg : ((0 : Int) != (n : Int)) = true := by simp; omega
    have HE : Hid (false = r) := by show _ = _; rw [← unhide HR]; exact (fits_len _ _ (by rw [hlen]; exact fun e => hn e.symm)).symm
    clear hn
    go_enter Tryz.func25, Tryz.ntmps25
    go_wp2_with fail
    go_ret
    exact ⟨ret_bool (unhide HE), (Below.refl _ _).alloc (Nat.le_refl _) _⟩
  subst hn
  have H := hide h
  clear h
  go_enter Tryz.func25, Tryz.ntmps25
  go_wp2_with fail
  go_loopw [7] (fun i wr => ∃ j : Nat, j ≤ 0 ∧ i = .int .i64 j ∧ Hid (fits (List.take j []) (ks.take j) = true) ∧ Hid (Below w.heap.size w wr)) (fun i _ => 0 - (intOf i).toNat)
  case atStart => exact ⟨0, Nat.zero_le _, rfl, rfl, (Below.refl _ _).alloc (Nat.le_refl _) _⟩
  case round =>
    obtain ⟨j, hj, rfl, HA, HB⟩ := hrel
    have hjn : j = 0 := by omega
    subst hjn
    have HE : Hid (true = r) := by
      show _ = _
      rw [← unhide HR]
      have := unhide HA
      rw [List.take_of_length_le (by simp), List.take_of_length_le (by omega)] at this
      exact this.symm
    go_wp2_with fail
    go_ret
    exact ⟨ret_bool (unhide HE), unhide HB⟩


set_option maxHeartbeats 4000000 in
theorem kidsOk_15 (b off n cap : Nat) (ks : List Int) (w : World) (h : Row w (some ⟨b, off, none⟩) n ks) : Calls Tryz.prog 25 #[.int .i64 15, .slice (some ⟨b, off, none⟩) n cap] w fun e w' => e = .returned (.bool (kidsB 15 ks)) ∧ Below w.heap.size w w' := by
  have hlen := h.len
  obtain ⟨r, hr⟩ : ∃ r, kidsB 15 ks = r := ⟨_, rfl⟩
  rw [hr]
  have HR : Hid (fits [] ks = r) := hr
  clear hr
  by_cases hn : n = 0
  case neg =>
    have hg : ((0 : Int) != (n : Int)) = true := by simp; omega
    have HE : Hid (false = r) := by show _ = _; rw [← unhide HR]; exact (fits_len _ _ (by rw [hlen]; exact fun e => hn e.symm)).symm
    clear hn
    go_enter Tryz.func25, Tryz.ntmps25
    go_wp2_with fail
    go_ret
    exact ⟨ret_bool (unhide HE), (Below.refl _ _).alloc (Nat.le_refl _) _⟩
  subst hn
  have H := hide h
  clear h
  go_enter Tryz.func25, Tryz.ntmps25
  go_wp2_with fail
  go_loopw [7] (fun i wr => ∃ j : Nat, j ≤ 0 ∧ i = .int .i64 j ∧ Hid (fits (List.take j []) (ks.take j) = true) ∧ Hid (Below w.heap.size w wr)) (fun i _ => 0 - (intOf i).toNat)
  case atStart => exact ⟨0, Nat.zero_le _, rfl, rfl, (Below.refl _ _).alloc (Nat.le_refl _) _⟩
  case round =>
    obtain ⟨j, hj, rfl, HA, HB⟩ := hrel
    have hjn : j = 0 := by omega
    subst hjn
    have HE : Hid (true = r) := by
      show _ = _
      rw [← unhide HR]
      have := unhide HA
      rw [List.take_of_length_le (by simp), List.take_of_length_le (by omega)] at this
      exact this.symm
    go_wp2_with fail
    go_ret
    exact ⟨ret_bool (unhide HE), unhide HB⟩


end Go.Proofs.YtinndpnilmmmjaaGreatDoor
namespace Go.Proofs.YtinndpnilmmmjaaGreatDoor
open Go.RowKit

set_option maxHeartbeats 4000000 in
theorem kidsOk_17 (b off n cap : Nat) (ks : List Int) (w : World) (h : Row w (some ⟨b, off, none⟩) n ks) : Calls Tryz.prog 25 #[.int .i64 17, .slice (some ⟨b, off, none⟩) n cap] w fun e w' => e = .returned (.bool (kidsB 17 ks)) ∧ Below w.heap.size w w' := by
  have hlen := h.len
  obtain ⟨r, hr⟩ : ∃ r, kidsB 17 ks = r := ⟨_, rfl⟩
  rw [hr]
  have HR : Hid (fits [] ks = r) := hr
  clear hr
  by_cases hn : n = 0
  case neg =>
    have hg : ((0 : Int) != (n : Int)) = true := by simp; omega
    have HE : Hid (false = r) := by show _ = _; rw [← unhide HR]; exact (fits_len _ _ (by rw [hlen]; exact fun e => hn e.symm)).symm
    clear hn
    go_enter Tryz.func25, Tryz.ntmps25
    go_wp2_with fail
    go_ret
    exact ⟨ret_bool (unhide HE), (Below.refl _ _).alloc (Nat.le_refl _) _⟩
  subst hn
  have H := hide h
  clear h
  go_enter Tryz.func25, Tryz.ntmps25
  go_wp2_with fail
  go_loopw [7] (fun i wr => ∃ j : Nat, j ≤ 0 ∧ i = .int .i64 j ∧ Hid (fits (List.take j []) (ks.take j) = true) ∧ Hid (Below w.heap.size w wr)) (fun i _ => 0 - (intOf i).toNat)
  case atStart => exact ⟨0, Nat.zero_le _, rfl, rfl, (Below.refl _ _).alloc (Nat.le_refl _) _⟩
  case round =>
    obtain ⟨j, hj, rfl, HA, HB⟩ := hrel
    have hjn : j = 0 := by omega
    subst hjn
    have HE : Hid (true = r) := by
      show _ = _
      rw [← unhide HR]
      have := unhide HA
      rw [List.take_of_length_le (by simp), List.take_of_length_le (by omega)] at this
      exact this.symm
    go_wp2_with fail
    go_ret
    exact ⟨ret_bool (unhide HE), unhide HB⟩


set_option maxHeartbeats 4000000 in
theorem kidsOk_18 (b off n cap : Nat) (ks : List Int) (w : World) (h : Row w (some ⟨b, off, none⟩) n ks) : Calls Tryz.prog 25 #[.int .i64 18, .slice (some ⟨b, off, none⟩) n cap] w fun e w' => e = .returned (.bool (kidsB 18 ks)) ∧ Below w.heap.size w w' := by
  have hlen := h.len
  obtain ⟨r, hr⟩ : ∃ r, kidsB 18 ks = r := ⟨_, rfl⟩
  rw [hr]
  have HR : Hid (fits [] ks = r) := hr
  clear hr
  by_cases hn : n = 0
  case neg =>
    have hg : ((0 : Int) != (n : Int)) = true := by simp; omega
    have HE : Hid (false = r) := by show _ = _; rw [← unhide HR]; exact (fits_len _ _ (by rw [hlen]; exact fun e => hn e.symm)).symm
    clear hn
    go_enter Tryz.func25, Tryz.ntmps25
    go_wp2_with fail
    go_ret
    exact ⟨ret_bool (unhide HE), (Below.refl _ _).alloc (Nat.le_refl _) _⟩
  subst hn
  have H := hide h
  clear h
  go_enter Tryz.func25, Tryz.ntmps25
  go_wp2_with fail
  go_loopw [7] (fun i wr => ∃ j : Nat, j ≤ 0 ∧ i = .int .i64 j ∧ Hid (fits (List.take j []) (ks.take j) = true) ∧ Hid (Below w.heap.size w wr)) (fun i _ => 0 - (intOf i).toNat)
  case atStart => exact ⟨0, Nat.zero_le _, rfl, rfl, (Below.refl _ _).alloc (Nat.le_refl _) _⟩
  case round =>
    obtain ⟨j, hj, rfl, HA, HB⟩ := hrel
    have hjn : j = 0 := by omega
    subst hjn
    have HE : Hid (true = r) := by
      show _ = _
      rw [← unhide HR]
      have := unhide HA
      rw [List.take_of_length_le (by simp), List.take_of_length_le (by omega)] at this
      exact this.symm
    go_wp2_with fail
    go_ret
    exact ⟨ret_bool (unhide HE), unhide HB⟩


set_option maxHeartbeats 4000000 in
theorem kidsOk_19 (b off n cap : Nat) (ks : List Int) (w : World) (h : Row w (some ⟨b, off, none⟩) n ks) : Calls Tryz.prog 25 #[.int .i64 19, .slice (some ⟨b, off, none⟩) n cap] w fun e w' => e = .returned (.bool (kidsB 19 ks)) ∧ Below w.heap.size w w' := by
  have hlen := h.len
  obtain ⟨r, hr⟩ : ∃ r, kidsB 19 ks = r := ⟨_, rfl⟩
  rw [hr]
  have HR : Hid (fits [101] ks = r) := hr
  clear hr
  by_cases hn : n = 1
  case neg =>
    have hg : ((1 : Int) != (n : Int)) = true := by simp; omega
    have HE : Hid (false = r) := by show _ = _; rw [← unhide HR]; exact (fits_len _ _ (by rw [hlen]; exact fun e => hn e.symm)).symm
    clear hn
    go_enter Tryz.func25, Tryz.ntmps25
    go_wp2_with fail
    go_ret
    exact ⟨ret_bool (unhide HE), (Below.refl _ _).alloc (Nat.le_refl _) _⟩
  subst hn
  have H := hide h
  clear h
  go_enter Tryz.func25, Tryz.ntmps25
  go_wp2_with fail
  go_loopw [7] (fun i wr => ∃ j : Nat, j ≤ 1 ∧ i = .int .i64 j ∧ Hid (fits (List.take j [101]) (ks.take j) = true) ∧ Hid (Below w.heap.size w wr)) (fun i _ => 1 - (intOf i).toNat)
  case atStart => exact ⟨0, Nat.zero_le _, rfl, rfl, (Below.refl _ _).alloc (Nat.le_refl _) _⟩
  case round =>
    obtain ⟨j, hj, rfl, HA, HB⟩ := hrel
    by_cases h0 : j = 0
    · subst h0
      obtain ⟨b', off', e', hbl, hc0⟩ := ((unhide H).below (Nat.le_refl _) (unhide HB)).get (k := 0) (by omega)
      cases e'
      obtain ⟨x, hx⟩ : ∃ x, ks.getD 0 0 = x := ⟨_, rfl⟩
      rw [hx] at hc0
      rw [Nat.add_zero] at hc0
      have HX := hide hx
      clear hx
      cases hE : isK 101 x with
      | false =>
        have HI := hide (fun W => isOk 101 x (.inl rfl) false hE W)
        have HE : Hid (false = r) := by show _ = _; rw [← unhide HR]; exact (fits_bad [101] ks 0 (by omega) (by rw [unhide HX]; exact hE) hlen.symm).symm
        clear hE
        go_wp2_with fail
        go_quiet ((go_at_call 53; exact Calls.quiet_of_same (unhide HI _)))
        go_wp2_with fail
        go_ret
        exact ⟨ret_bool (unhide HE), Below.drewN (unhide HB) _⟩
      | true =>
        have HI := hide (fun W => isOk 101 x (.inl rfl) true hE W)
        have HT : Hid (fits (List.take 1 [101]) (ks.take 1) = true) := fits_take [101] ks 0 hlen.symm (by omega) (unhide HA) (by rw [unhide HX]; exact hE)
        clear hE
        go_wp2_with fail
        go_quiet ((go_at_call 53; exact Calls.quiet_of_same (unhide HI _)))
        go_wp2_with fail
        go_roundw
        case rel => exact ⟨1, by omega, by go_num, HT, Below.drewN (unhide HB) _⟩
        case measure => simp [intOf]
    have hjn : j = 1 := by omega
    subst hjn
    have HE : Hid (true = r) := by
      show _ = _
      rw [← unhide HR]
      have := unhide HA
      rw [List.take_of_length_le (by simp), List.take_of_length_le (by omega)] at this
      exact this.symm
    go_wp2_with fail
    go_ret
    exact ⟨ret_bool (unhide HE), unhide HB⟩


set_option maxHeartbeats 4000000 in
theorem kidsOk_20 (b off n cap : Nat) (ks : List Int) (w : World) (h : Row w (some ⟨b, off, none⟩) n ks) : Calls Tryz.prog 25 #[.int .i64 20, .slice (some ⟨b, off, none⟩) n cap] w fun e w' => e = .returned (.bool (kidsB 20 ks)) ∧ Below w.heap.size w w' := by
  have hlen := h.len
  obtain ⟨r, hr⟩ : ∃ r, kidsB 20 ks = r := ⟨_, rfl⟩
  rw [hr]
  have HR : Hid (fits [98] ks = r) := hr
  clear hr
  by_cases hn : n = 1
  case neg =>
    have hg : ((1 : Int) != (n : Int)) = true := by simp; omega
    have HE : Hid (false = r) := by show _ = _; rw [← unhide HR]; exact (fits_len _ _ (by rw [hlen]; exact fun e => hn e.symm)).symm
    clear hn
    go_enter Tryz.func25, Tryz.ntmps25
    go_wp2_with fail
    go_ret
    exact ⟨ret_bool (unhide HE), (Below.refl _ _).alloc (Nat.le_refl _) _⟩
  subst hn
  have H := hide h
  clear h
  go_enter Tryz.func25, Tryz.ntmps25
  go_wp2_with fail
  go_loopw [7] (fun i wr => ∃ j : Nat, j ≤ 1 ∧ i = .int .i64 j ∧ Hid (fits (List.take j [98]) (ks.take j) = true) ∧ Hid (Below w.heap.size w wr)) (fun i _ => 1 - (intOf i).toNat)
  case atStart => exact ⟨0, Nat.zero_le _, rfl, rfl, (Below.refl _ _).alloc (Nat.le_refl _) _⟩
  case round =>
    obtain ⟨j, hj, rfl, HA, HB⟩ := hrel
    by_cases h0 : j = 0
    · subst h0
      obtain ⟨b', off', e', hbl, hc0⟩ := ((unhide H).below (Nat.le_refl _) (unhide HB)).get (k := 0) (by omega)
      cases e'
      obtain ⟨x, hx⟩ : ∃ x, ks.getD 0 0 = x := ⟨_, rfl⟩
      rw [hx] at hc0
      rw [Nat.add_zero] at hc0
      have HX := hide hx
      clear hx
      cases hE : isK 98 x with
      | false =>
        have HI := hide (fun W => isOk 98 x (.inr (.inr (.inr (.inl rfl)))) false hE W)
        have HE : Hid (false = r) := by show _ = _; rw [← unhide HR]; exact (fits_bad [98] ks 0 (by omega) (by rw [unhide HX]; exact hE) hlen.symm).symm
        clear hE
        go_wp2_with fail
        go_quiet ((go_at_call 53; exact Calls.quiet_of_same (unhide HI _)))
        go_wp2_with fail
        go_ret
        exact ⟨ret_bool (unhide HE), Below.drewN (unhide HB) _⟩
      | true =>
        have HI := hide (fun W => isOk 98 x (.inr (.inr (.inr (.inl rfl)))) true hE W)
        have HT : Hid (fits (List.take 1 [98]) (ks.take 1) = true) := fits_take [98] ks 0 hlen.symm (by omega) (unhide HA) (by rw [unhide HX]; exact hE)
        clear hE
        go_wp2_with fail
        go_quiet ((go_at_call 53; exact Calls.quiet_of_same (unhide HI _)))
        go_wp2_with fail
        go_roundw
        case rel => exact ⟨1, by omega, by go_num, HT, Below.drewN (unhide HB) _⟩
        case measure => simp [intOf]
    have hjn : j = 1 := by omega
    subst hjn
    have HE : Hid (true = r) := by
      show _ = _
      rw [← unhide HR]
      have := unhide HA
      rw [List.take_of_length_le (by simp), List.take_of_length_le (by omega)] at this
      exact this.symm
    go_wp2_with fail
    go_ret
    exact ⟨ret_bool (unhide HE), unhide HB⟩


set_option maxHeartbeats 4000000 in
theorem kidsOk_22 (b off n cap : Nat) (ks : List Int) (w : World) (h : Row w (some ⟨b, off, none⟩) n ks) : Calls Tryz.prog 25 #[.int .i64 22, .slice (some ⟨b, off, none⟩) n cap] w fun e w' => e = .returned (.bool (kidsB 22 ks)) ∧ Below w.heap.size w w' := by
  have hlen := h.len
  obtain ⟨r, hr⟩ : ∃ r, kidsB 22 ks = r := ⟨_, rfl⟩
  rw [hr]
  have HR : Hid (fits [101] ks = r) := hr
  clear hr
  by_cases hn : n = 1
  case neg =>
    have hg : ((1 : Int) != (n : Int)) = true := by simp; omega
    have HE : Hid (false = r) := by show _ = _; rw [← unhide HR]; exact (fits_len _ _ (by rw [hlen]; exact fun e => hn e.symm)).symm
    clear hn
    go_enter Tryz.func25, Tryz.ntmps25
    go_wp2_with fail
    go_ret
    exact ⟨ret_bool (unhide HE), (Below.refl _ _).alloc (Nat.le_refl _) _⟩
  subst hn
  have H := hide h
  clear h
  go_enter Tryz.func25, Tryz.ntmps25
  go_wp2_with fail
  go_loopw [7] (fun i wr => ∃ j : Nat, j ≤ 1 ∧ i = .int .i64 j ∧ Hid (fits (List.take j [101]) (ks.take j) = true) ∧ Hid (Below w.heap.size w wr)) (fun i _ => 1 - (intOf i).toNat)
  case atStart => exact ⟨0, Nat.zero_le _, rfl, rfl, (Below.refl _ _).alloc (Nat.le_refl _) _⟩
  case round =>
    obtain ⟨j, hj, rfl, HA, HB⟩ := hrel
    by_cases h0 : j = 0
    · subst h0
      obtain ⟨b', off', e', hbl, hc0⟩ := ((unhide H).below (Nat.le_refl _) (unhide HB)).get (k := 0) (by omega)
      cases e'
      obtain ⟨x, hx⟩ : ∃ x, ks.getD 0 0 = x := ⟨_, rfl⟩
      rw [hx] at hc0
      rw [Nat.add_zero] at hc0
      have HX := hide hx
      clear hx
      cases hE : isK 101 x with
      | false =>
        have HI := hide (fun W => isOk 101 x (.inl rfl) false hE W)
        have HE : Hid (false = r) := by show _ = _; rw [← unhide HR]; exact (fits_bad [101] ks 0 (by omega) (by rw [unhide HX]; exact hE) hlen.symm).symm
        clear hE
        go_wp2_with fail
        go_quiet ((go_at_call 53; exact Calls.quiet_of_same (unhide HI _)))
        go_wp2_with fail
        go_ret
        exact ⟨ret_bool (unhide HE), Below.drewN (unhide HB) _⟩
      | true =>
        have HI := hide (fun W => isOk 101 x (.inl rfl) true hE W)
        have HT : Hid (fits (List.take 1 [101]) (ks.take 1) = true) := fits_take [101] ks 0 hlen.symm (by omega) (unhide HA) (by rw [unhide HX]; exact hE)
        clear hE
        go_wp2_with fail
        go_quiet ((go_at_call 53; exact Calls.quiet_of_same (unhide HI _)))
        go_wp2_with fail
        go_roundw
        case rel => exact ⟨1, by omega, by go_num, HT, Below.drewN (unhide HB) _⟩
        case measure => simp [intOf]
    have hjn : j = 1 := by omega
    subst hjn
    have HE : Hid (true = r) := by
      show _ = _
      rw [← unhide HR]
      have := unhide HA
      rw [List.take_of_length_le (by simp), List.take_of_length_le (by omega)] at this
      exact this.symm
    go_wp2_with fail
    go_ret
    exact ⟨ret_bool (unhide HE), unhide HB⟩


end Go.Proofs.YtinndpnilmmmjaaGreatDoor
namespace Go.Proofs.YtinndpnilmmmjaaGreatDoor
open Go.RowKit

set_option maxHeartbeats 4000000 in
theorem kidsOk_23 (b off n cap : Nat) (ks : List Int) (w : World) (h : Row w (some ⟨b, off, none⟩) n ks) : Calls Tryz.prog 25 #[.int .i64 23, .slice (some ⟨b, off, none⟩) n cap] w fun e w' => e = .returned (.bool (kidsB 23 ks)) ∧ Below w.heap.size w w' := by
  have hlen := h.len
  obtain ⟨r, hr⟩ : ∃ r, kidsB 23 ks = r := ⟨_, rfl⟩
  rw [hr]
  have HR : Hid (fits [101, 101] ks = r) := hr
  clear hr
  by_cases hn : n = 2
  case neg =>
    have hg : ((2 : Int) != (n : Int)) = true := by simp; omega
    have HE : Hid (false = r) := by show _ = _; rw [← unhide HR]; exact (fits_len _ _ (by rw [hlen]; exact fun e => hn e.symm)).symm
    clear hn
    go_enter Tryz.func25, Tryz.ntmps25
    go_wp2_with fail
    go_ret
    exact ⟨ret_bool (unhide HE), (Below.refl _ _).alloc (Nat.le_refl _) _⟩
  subst hn
  have H := hide h
  clear h
  go_enter Tryz.func25, Tryz.ntmps25
  go_wp2_with fail
  go_loopw [7] (fun i wr => ∃ j : Nat, j ≤ 2 ∧ i = .int .i64 j ∧ Hid (fits (List.take j [101, 101]) (ks.take j) = true) ∧ Hid (Below w.heap.size w wr)) (fun i _ => 2 - (intOf i).toNat)
  case atStart => exact ⟨0, Nat.zero_le _, rfl, rfl, (Below.refl _ _).alloc (Nat.le_refl _) _⟩
  case round =>
    obtain ⟨j, hj, rfl, HA, HB⟩ := hrel
    by_cases h0 : j = 0
    · subst h0
      obtain ⟨b', off', e', hbl, hc0⟩ := ((unhide H).below (Nat.le_refl _) (unhide HB)).get (k := 0) (by omega)
      cases e'
      obtain ⟨x, hx⟩ : ∃ x, ks.getD 0 0 = x := ⟨_, rfl⟩
      rw [hx] at hc0
      rw [Nat.add_zero] at hc0
      have HX := hide hx
      clear hx
      cases hE : isK 101 x with
      | false =>
        have HI := hide (fun W => isOk 101 x (.inl rfl) false hE W)
        have HE : Hid (false = r) := by show _ = _; rw [← unhide HR]; exact (fits_bad [101, 101] ks 0 (by omega) (by rw [unhide HX]; exact hE) hlen.symm).symm
        clear hE
        go_wp2_with fail
        go_quiet ((go_at_call 53; exact Calls.quiet_of_same (unhide HI _)))
        go_wp2_with fail
        go_ret
        exact ⟨ret_bool (unhide HE), Below.drewN (unhide HB) _⟩
      | true =>
        have HI := hide (fun W => isOk 101 x (.inl rfl) true hE W)
        have HT : Hid (fits (List.take 1 [101, 101]) (ks.take 1) = true) := fits_take [101, 101] ks 0 hlen.symm (by omega) (unhide HA) (by rw [unhide HX]; exact hE)
        clear hE
        go_wp2_with fail
        go_quiet ((go_at_call 53; exact Calls.quiet_of_same (unhide HI _)))
        go_wp2_with fail
        go_roundw
        case rel => exact ⟨1, by omega, by go_num, HT, Below.drewN (unhide HB) _⟩
        case measure => simp [intOf]
    by_cases h1 : j = 1
    · subst h1
      obtain ⟨b', off', e', hbl, hc0⟩ := ((unhide H).below (Nat.le_refl _) (unhide HB)).get (k := 1) (by omega)
      cases e'
      obtain ⟨x, hx⟩ : ∃ x, ks.getD 1 0 = x := ⟨_, rfl⟩
      rw [hx] at hc0
      have HX := hide hx
      clear hx
      cases hE : isK 101 x with
      | false =>
        have HI := hide (fun W => isOk 101 x (.inl rfl) false hE W)
        have HE : Hid (false = r) := by show _ = _; rw [← unhide HR]; exact (fits_bad [101, 101] ks 1 (by omega) (by rw [unhide HX]; exact hE) hlen.symm).symm
        clear hE
        go_wp2_with fail
        go_quiet ((go_at_call 53; exact Calls.quiet_of_same (unhide HI _)))
        go_wp2_with fail
        go_ret
        exact ⟨ret_bool (unhide HE), Below.drewN (unhide HB) _⟩
      | true =>
        have HI := hide (fun W => isOk 101 x (.inl rfl) true hE W)
        have HT : Hid (fits (List.take 2 [101, 101]) (ks.take 2) = true) := fits_take [101, 101] ks 1 hlen.symm (by omega) (unhide HA) (by rw [unhide HX]; exact hE)
        clear hE
        go_wp2_with fail
        go_quiet ((go_at_call 53; exact Calls.quiet_of_same (unhide HI _)))
        go_wp2_with fail
        go_roundw
        case rel => exact ⟨2, by omega, by go_num, HT, Below.drewN (unhide HB) _⟩
        case measure => simp [intOf]
    have hjn : j = 2 := by omega
    subst hjn
    have HE : Hid (true = r) := by
      show _ = _
      rw [← unhide HR]
      have := unhide HA
      rw [List.take_of_length_le (by simp), List.take_of_length_le (by omega)] at this
      exact this.symm
    go_wp2_with fail
    go_ret
    exact ⟨ret_bool (unhide HE), unhide HB⟩


set_option maxHeartbeats 4000000 in
theorem kidsOk_24 (b off n cap : Nat) (ks : List Int) (w : World) (h : Row w (some ⟨b, off, none⟩) n ks) : Calls Tryz.prog 25 #[.int .i64 24, .slice (some ⟨b, off, none⟩) n cap] w fun e w' => e = .returned (.bool (kidsB 24 ks)) ∧ Below w.heap.size w w' := by
  have hlen := h.len
  obtain ⟨r, hr⟩ : ∃ r, kidsB 24 ks = r := ⟨_, rfl⟩
  rw [hr]
  have HR : Hid (fits [101, 101] ks = r) := hr
  clear hr
  by_cases hn : n = 2
  case neg =>
    have hg : ((2 : Int) != (n : Int)) = true := by simp; omega
    have HE : Hid (false = r) := by show _ = _; rw [← unhide HR]; exact (fits_len _ _ (by rw [hlen]; exact fun e => hn e.symm)).symm
    clear hn
    go_enter Tryz.func25, Tryz.ntmps25
    go_wp2_with fail
    go_ret
    exact ⟨ret_bool (unhide HE), (Below.refl _ _).alloc (Nat.le_refl _) _⟩
  subst hn
  have H := hide h
  clear h
  go_enter Tryz.func25, Tryz.ntmps25
  go_wp2_with fail
  go_loopw [7] (fun i wr => ∃ j : Nat, j ≤ 2 ∧ i = .int .i64 j ∧ Hid (fits (List.take j [101, 101]) (ks.take j) = true) ∧ Hid (Below w.heap.size w wr)) (fun i _ => 2 - (intOf i).toNat)
  case atStart => exact ⟨0, Nat.zero_le _, rfl, rfl, (Below.refl _ _).alloc (Nat.le_refl _) _⟩
  case round =>
    obtain ⟨j, hj, rfl, HA, HB⟩ := hrel
    by_cases h0 : j = 0
    · subst h0
      obtain ⟨b', off', e', hbl, hc0⟩ := ((unhide H).below (Nat.le_refl _) (unhide HB)).get (k := 0) (by omega)
      cases e'
      obtain ⟨x, hx⟩ : ∃ x, ks.getD 0 0 = x := ⟨_, rfl⟩
      rw [hx] at hc0
      rw [Nat.add_zero] at hc0
      have HX := hide hx
      clear hx
      cases hE : isK 101 x with
      | false =>
        have HI := hide (fun W => isOk 101 x (.inl rfl) false hE W)
        have HE : Hid (false = r) := by show _ = _; rw [← unhide HR]; exact (fits_bad [101, 101] ks 0 (by omega) (by rw [unhide HX]; exact hE) hlen.symm).symm
        clear hE
        go_wp2_with fail
        go_quiet ((go_at_call 53; exact Calls.quiet_of_same (unhide HI _)))
        go_wp2_with fail
        go_ret
        exact ⟨ret_bool (unhide HE), Below.drewN (unhide HB) _⟩
      | true =>
        have HI := hide (fun W => isOk 101 x (.inl rfl) true hE W)
        have HT : Hid (fits (List.take 1 [101, 101]) (ks.take 1) = true) := fits_take [101, 101] ks 0 hlen.symm (by omega) (unhide HA) (by rw [unhide HX]; exact hE)
        clear hE
        go_wp2_with fail
        go_quiet ((go_at_call 53; exact Calls.quiet_of_same (unhide HI _)))
        go_wp2_with fail
        go_roundw
        case rel => exact ⟨1, by omega, by go_num, HT, Below.drewN (unhide HB) _⟩
        case measure => simp [intOf]
    by_cases h1 : j = 1
    · subst h1
      obtain ⟨b', off', e', hbl, hc0⟩ := ((unhide H).below (Nat.le_refl _) (unhide HB)).get (k := 1) (by omega)
      cases e'
      obtain ⟨x, hx⟩ : ∃ x, ks.getD 1 0 = x := ⟨_, rfl⟩
      rw [hx] at hc0
      have HX := hide hx
      clear hx
      cases hE : isK 101 x with
      | false =>
        have HI := hide (fun W => isOk 101 x (.inl rfl) false hE W)
        have HE : Hid (false = r) := by show _ = _; rw [← unhide HR]; exact (fits_bad [101, 101] ks 1 (by omega) (by rw [unhide HX]; exact hE) hlen.symm).symm
        clear hE
        go_wp2_with fail
        go_quiet ((go_at_call 53; exact Calls.quiet_of_same (unhide HI _)))
        go_wp2_with fail
        go_ret
        exact ⟨ret_bool (unhide HE), Below.drewN (unhide HB) _⟩
      | true =>
        have HI := hide (fun W => isOk 101 x (.inl rfl) true hE W)
        have HT : Hid (fits (List.take 2 [101, 101]) (ks.take 2) = true) := fits_take [101, 101] ks 1 hlen.symm (by omega) (unhide HA) (by rw [unhide HX]; exact hE)
        clear hE
        go_wp2_with fail
        go_quiet ((go_at_call 53; exact Calls.quiet_of_same (unhide HI _)))
        go_wp2_with fail
        go_roundw
        case rel => exact ⟨2, by omega, by go_num, HT, Below.drewN (unhide HB) _⟩
        case measure => simp [intOf]
    have hjn : j = 2 := by omega
    subst hjn
    have HE : Hid (true = r) := by
      show _ = _
      rw [← unhide HR]
      have := unhide HA
      rw [List.take_of_length_le (by simp), List.take_of_length_le (by omega)] at this
      exact this.symm
    go_wp2_with fail
    go_ret
    exact ⟨ret_bool (unhide HE), unhide HB⟩


end Go.Proofs.YtinndpnilmmmjaaGreatDoor
namespace Go.Proofs.YtinndpnilmmmjaaGreatDoor
open Go.RowKit

theorem l2KidsOk_any (k : Int) (b off n : Nat) (ks : List Int) (w : World) (hk : 1 ≤ k ∧ k ≤ 25) (h : Row w (some ⟨b, off, none⟩) n ks) : Calls Tryz.prog 25 #[.int .i64 k, .slice (some ⟨b, off, none⟩) n n] w fun e w' => e = .returned (.bool (kidsB k ks)) ∧ Below w.heap.size w w' := by
  rcases kind_cases k with e | e | e | e | e | e | e | e | e | e | e | e | e | e | e | e | e | e | e | e | e | e | e | e | e | e | e
  · omega
  · omega
  · subst e; exact kidsOk_1 b off n n ks w h
  · subst e; exact kidsOk_2 b off n n ks w h
  · subst e; exact kidsOk_3 b off n n ks w h
  · subst e; exact kidsOk_4 b off n n ks w h
  · subst e; exact kidsOk_5 b off n n ks w h
  · subst e; exact kidsOk_6 b off n n ks w h
  · subst e; exact kidsOk_7 b off n ks w h
  · subst e; exact kidsOk_8 b off n n ks w h
  · subst e; exact kidsOk_9 b off n n ks w h
  · subst e; exact kidsOk_10 b off n n ks w h
  · subst e; exact kidsOk_11 b off n n ks w h
  · subst e; exact kidsOk_12 b off n n ks w h
  · subst e; exact kidsOk_13 b off n n ks w h
  · subst e; exact kidsOk_14 b off n n ks w h
  · subst e; exact kidsOk_15 b off n n ks w h
  · subst e; exact kidsOk_16 _ n n ks w h
  · subst e; exact kidsOk_17 b off n n ks w h
  · subst e; exact kidsOk_18 b off n n ks w h
  · subst e; exact kidsOk_19 b off n n ks w h
  · subst e; exact kidsOk_20 b off n n ks w h
  · subst e; exact kidsOk_21 b off n ks w h
  · subst e; exact kidsOk_22 b off n n ks w h
  · subst e; exact kidsOk_23 b off n n ks w h
  · subst e; exact kidsOk_24 b off n n ks w h
  · subst e; exact kidsOk_25 _ n n ks w h

end Go.Proofs.YtinndpnilmmmjaaGreatDoor
namespace Go.Proofs.YtinndpnilmmmjaaGreatDoor
open Go

/-- A text stands at a place. -/
def startsB (s : ByteArray) (i : Nat) (p : ByteArray) : Bool := decide (i + p.size ≤ s.size) && ((s.extract i (i + p.size)).toList == p.toList)

theorem bt_data {s : ByteArray} {i : Nat} (h : i < s.size) : bt s i = (s.data.toList.getD i 0).toNat := by
  have h' : i < s.data.size := h
  rw [bt_get h, ByteArray.getElem_eq_getElem_data, List.getD_eq_getElem?_getD, Array.getElem?_toList, Array.getElem?_eq_getElem h']
  rfl

theorem sub_list (s : ByteArray) (i e : Nat) : (s.extract i e).data.toList = (s.data.toList.drop i).take (e - i) := by
  rw [← Lib.toList_data, Lib.extract_toList]

theorem take_cons {l : List UInt8} {i m : Nat} (h : i < l.length) : (l.drop i).take (m + 1) = l.getD i 0 :: (l.drop (i + 1)).take m := by
  rw [List.drop_eq_getElem_cons h, List.take_succ_cons]
  simp [List.getD_eq_getElem?_getD, h]

theorem byte_eq (b : UInt8) {a : Nat} (ha : a < 256) : (b == UInt8.ofNat a) = decide (b.toNat = a) := by
  by_cases h : b.toNat = a
  · rw [decide_eq_true h]
    have : b = UInt8.ofNat a := by rw [← h]; simp
    rw [this]; simp
  · rw [decide_eq_false h]
    have : b ≠ UInt8.ofNat a := fun e => h (by rw [e]; exact UInt8.toNat_ofNat_of_lt' (by simpa [UInt8.size] using ha))
    simpa using this

theorem start_step {s : ByteArray} {i m a : Nat} {q : List UInt8} (h : i < s.size) (ha : a < 256) : ((s.data.toList.drop i).take (m + 1) == UInt8.ofNat a :: q) = (decide (bt s i = a) && ((s.data.toList.drop (i + 1)).take m == q)) := by
  have hl : i < s.data.toList.length := by rw [← Lib.size_eq]; exact h
  rw [take_cons hl, List.cons_beq_cons, byte_eq _ ha, bt_data h]

theorem starts_high (s : ByteArray) (i : Nat) : startsB s i ⟨#[194, 175]⟩ = high s i := by
  unfold startsB high
  rw [show (ByteArray.mk #[194, 175]).size = 2 from rfl, Lib.extract_toList, show (ByteArray.mk #[194, 175]).toList = [UInt8.ofNat 194, UInt8.ofNat 175] by rw [Lib.toList_data]; rfl, show i + 2 - i = 0 + 1 + 1 by omega]
  by_cases h : i + 2 ≤ s.size
  · rw [start_step (by omega) (by omega), start_step (by omega) (by omega)]
    simp [h]
  · rw [decide_eq_false h, decide_eq_false (fun hh => h hh.1)]; rfl

theorem starts_quotes (s : ByteArray) (i : Nat) : startsB s i ⟨#[39, 39]⟩ = quotes s i := by
  unfold startsB quotes
  rw [show (ByteArray.mk #[39, 39]).size = 2 from rfl, Lib.extract_toList, show (ByteArray.mk #[39, 39]).toList = [UInt8.ofNat 39, UInt8.ofNat 39] by rw [Lib.toList_data]; rfl, show i + 2 - i = 0 + 1 + 1 by omega]
  by_cases h : i + 2 ≤ s.size
  · rw [start_step (by omega) (by omega), start_step (by omega) (by omega)]
    simp [h]
  · rw [decide_eq_false h, decide_eq_false (fun hh => h hh.1)]; rfl

theorem starts_remark (s : ByteArray) (i : Nat) : startsB s i ⟨#[226, 141, 157]⟩ = remark s i := by
  unfold startsB remark
  rw [show (ByteArray.mk #[226, 141, 157]).size = 3 from rfl, Lib.extract_toList, show (ByteArray.mk #[226, 141, 157]).toList = [UInt8.ofNat 226, UInt8.ofNat 141, UInt8.ofNat 157] by rw [Lib.toList_data]; rfl, show i + 3 - i = 0 + 1 + 1 + 1 by omega]
  by_cases h : i + 3 ≤ s.size
  · rw [start_step (by omega) (by omega), start_step (by omega) (by omega), start_step (by omega) (by omega)]
    simp [h, Nat.add_assoc]
  · rw [decide_eq_false h, decide_eq_false (fun hh => h hh.1)]; rfl

end Go.Proofs.YtinndpnilmmmjaaGreatDoor
namespace Go.Proofs.YtinndpnilmmmjaaGreatDoor
open Go

/-- A byte goes on in a character. -/
def tl (s : ByteArray) (j : Nat) : Bool := decide (j < s.size ∧ 128 ≤ bt s j ∧ bt s j < 192)

def v2 (s : ByteArray) (i : Nat) : Nat := bt s i % 32 * 64 + bt s (i + 1) % 64
def v3 (s : ByteArray) (i : Nat) : Nat := bt s i % 16 * 4096 + bt s (i + 1) % 64 * 64 + bt s (i + 2) % 64
def v4 (s : ByteArray) (i : Nat) : Nat := bt s i % 8 * 262144 + bt s (i + 1) % 64 * 4096 + bt s (i + 2) % 64 * 64 + bt s (i + 3) % 64

theorem decode_is (s : ByteArray) (i : Nat) : Utf8.decode s i =
    if bt s i < 128 then (bt s i, 1)
    else if bt s i / 32 = 6 ∧ tl s (i + 1) = true then (if 128 ≤ v2 s i then (v2 s i, 2) else (65533, 1))
    else if bt s i / 16 = 14 ∧ tl s (i + 1) = true ∧ tl s (i + 2) = true then (if 2048 ≤ v3 s i ∧ Utf8.valid (v3 s i : Nat) = true then (v3 s i, 3) else (65533, 1))
    else if bt s i / 8 = 30 ∧ tl s (i + 1) = true ∧ tl s (i + 2) = true ∧ tl s (i + 3) = true then (if 65536 ≤ v4 s i ∧ Utf8.valid (v4 s i : Nat) = true then (v4 s i, 4) else (65533, 1))
    else (65533, 1) := by
  have ht : ∀ k, (decide (i + k < s.size) && (bt s (i + k) / 64 == 2)) = tl s (i + k) := fun k => by
    unfold tl
    have := bt_lt s (i + k)
    by_cases h : i + k < s.size
    · by_cases h2 : bt s (i + k) / 64 = 2
      · rw [decide_eq_true h, decide_eq_true (by omega)]; simp [h2]
      · rw [decide_eq_true h, decide_eq_false (by omega)]; simp [h2]
    · rw [decide_eq_false h, decide_eq_false (by omega)]; rfl
  unfold Utf8.decode
  have h1 := ht 1
  have h2 := ht 2
  have h3 := ht 3
  simp only [show ∀ k, (s.get! k).toNat = bt s k from fun _ => rfl, Nat.add_zero, h1, h2, h3, beq_iff_eq, Bool.and_eq_true, decide_eq_true_eq, and_assoc, ge_iff_le, Utf8.runeError]
  rfl

theorem rune_ascii {s : ByteArray} {i : Nat} (h : bt s i < 128) : runeAt s i = (bt s i, 1) := by
  have hd : Utf8.decode s i = (bt s i, 1) := by rw [decode_is, if_pos h]
  unfold runeAt
  rw [hd, if_neg (fun e => by have := congrArg Prod.fst e; simp at this; omega)]

theorem rune_none {s : ByteArray} {i : Nat} (h : Utf8.decode s i = (65533, 1)) : runeAt s i = (0, 0) := by
  unfold runeAt
  rw [if_pos h]

theorem rune_some {s : ByteArray} {i v n : Nat} (h : Utf8.decode s i = (v, n)) (hn : 1 < n) : runeAt s i = (v, n) := by
  unfold runeAt
  rw [h, if_neg (fun e => by have := congrArg Prod.snd e; simp at this; omega)]

theorem rune_0 {s : ByteArray} {i : Nat} (h0 : 128 ≤ bt s i) (h : bt s i < 192 ∨ 248 ≤ bt s i) : runeAt s i = (0, 0) := by
  have := bt_lt s i
  refine rune_none ?_
  rw [decode_is, if_neg (by omega), if_neg (by omega), if_neg (by omega), if_neg (by omega)]

theorem rune_2 {s : ByteArray} {i : Nat} (h0 : 192 ≤ bt s i) (h1 : bt s i < 224) : runeAt s i = if tl s (i + 1) = true ∧ 128 ≤ v2 s i then (v2 s i, 2) else (0, 0) := by
  have hd := decode_is s i
  rw [if_neg (by omega)] at hd
  by_cases ht : tl s (i + 1) = true
  · rw [if_pos ⟨by omega, ht⟩] at hd
    by_cases hv : 128 ≤ v2 s i
    · rw [if_pos hv] at hd
      rw [if_pos ⟨ht, hv⟩]
      exact rune_some hd (by omega)
    · rw [if_neg hv] at hd
      rw [if_neg (fun h => hv h.2)]
      exact rune_none hd
  · rw [if_neg (fun h => ht h.2), if_neg (by omega), if_neg (by omega)] at hd
    rw [if_neg (fun h => ht h.1)]
    exact rune_none hd

theorem rune_3 {s : ByteArray} {i : Nat} (h0 : 224 ≤ bt s i) (h1 : bt s i < 240) : runeAt s i = if tl s (i + 1) = true ∧ tl s (i + 2) = true ∧ 2048 ≤ v3 s i ∧ Utf8.valid (v3 s i : Nat) = true then (v3 s i, 3) else (0, 0) := by
  have hd := decode_is s i
  rw [if_neg (by omega), if_neg (by omega)] at hd
  by_cases ht : tl s (i + 1) = true ∧ tl s (i + 2) = true
  · rw [if_pos ⟨by omega, ht⟩] at hd
    by_cases hv : 2048 ≤ v3 s i ∧ Utf8.valid (v3 s i : Nat) = true
    · rw [if_pos hv] at hd
      rw [if_pos ⟨ht.1, ht.2, hv⟩]
      exact rune_some hd (by omega)
    · rw [if_neg hv] at hd
      rw [if_neg (fun h => hv h.2.2)]
      exact rune_none hd
  · rw [if_neg (fun h => ht h.2), if_neg (by omega)] at hd
    rw [if_neg (fun h => ht ⟨h.1, h.2.1⟩)]
    exact rune_none hd

theorem rune_4 {s : ByteArray} {i : Nat} (h0 : 240 ≤ bt s i) (h1 : bt s i < 248) : runeAt s i = if tl s (i + 1) = true ∧ tl s (i + 2) = true ∧ tl s (i + 3) = true ∧ 65536 ≤ v4 s i ∧ Utf8.valid (v4 s i : Nat) = true then (v4 s i, 4) else (0, 0) := by
  have hd := decode_is s i
  rw [if_neg (by omega), if_neg (by omega), if_neg (by omega)] at hd
  by_cases ht : tl s (i + 1) = true ∧ tl s (i + 2) = true ∧ tl s (i + 3) = true
  · rw [if_pos ⟨by omega, ht⟩] at hd
    by_cases hv : 65536 ≤ v4 s i ∧ Utf8.valid (v4 s i : Nat) = true
    · rw [if_pos hv] at hd
      rw [if_pos ⟨ht.1, ht.2.1, ht.2.2, hv⟩]
      exact rune_some hd (by omega)
    · rw [if_neg hv] at hd
      rw [if_neg (fun h => hv h.2.2.2)]
      exact rune_none hd
  · rw [if_neg (fun h => ht h.2)] at hd
    rw [if_neg (fun h => ht ⟨h.1, h.2.1, h.2.2.1⟩)]
    exact rune_none hd

end Go.Proofs.YtinndpnilmmmjaaGreatDoor
namespace Go.Proofs.YtinndpnilmmmjaaGreatDoor
open Go.RowKit

theorem l1High_any (w : World) : Calls Tryz.prog 121 #[] w fun e w' => e = .returned (.string ⟨#[194, 175]⟩) ∧ w' = w := by
  go_enter Tryz.func121, Tryz.ntmps121
  go_wp2
  go_ret
  exact ⟨rfl, rfl⟩

theorem l1Digit_any (c : Nat) (w : World) : Calls Tryz.prog 116 #[.int .u8 (c : Nat)] w fun e w' => e = .returned (.bool (isD c)) ∧ w' = w := by
  obtain ⟨r, hr⟩ : ∃ r, isD c = r := ⟨_, rfl⟩
  rw [hr]
  have HR : Hid (decide (48 ≤ c ∧ c ≤ 57) = r) := hr
  clear hr
  by_cases h1 : 48 ≤ c
  · have h1i : (48 : Int) ≤ (c : Int) := by omega
    go_enter Tryz.func116, Tryz.ntmps116
    go_wp2
    go_ret
    refine ⟨ret_bool ?_, rfl⟩
    rw [← unhide HR]
    by_cases h2 : c ≤ 57
    · rw [decide_eq_true (by omega), decide_eq_true ⟨h1, h2⟩]
    · rw [decide_eq_false (by omega), decide_eq_false (by omega)]
  · have h1i : ¬ (48 : Int) ≤ (c : Int) := by omega
    go_enter Tryz.func116, Tryz.ntmps116
    go_wp2
    go_ret
    refine ⟨ret_bool ?_, rfl⟩
    rw [← unhide HR, decide_eq_false (by omega)]

theorem l1Letter_any (c : Nat) (w : World) : Calls Tryz.prog 115 #[.int .u8 (c : Nat)] w fun e w' => e = .returned (.bool (isL c)) ∧ w' = w := by
  obtain ⟨r, hr⟩ : ∃ r, isL c = r := ⟨_, rfl⟩
  rw [hr]
  have HR : Hid ((decide (97 ≤ c ∧ c ≤ 122) || decide (65 ≤ c ∧ c ≤ 90)) = r) := hr
  clear hr
  by_cases h1 : 97 ≤ c
  · have h1i : (97 : Int) ≤ (c : Int) := by omega
    by_cases h2 : c ≤ 122
    · have h2i : (c : Int) ≤ 122 := by omega
      go_enter Tryz.func115, Tryz.ntmps115
      go_wp2
      go_ret
      refine ⟨ret_bool ?_, rfl⟩
      rw [← unhide HR, decide_eq_true ⟨h1, h2⟩]
      rfl
    · have h2i : ¬ (c : Int) ≤ 122 := by omega
      have h3i : (65 : Int) ≤ (c : Int) := by omega
      have h4i : ¬ (c : Int) ≤ 90 := by omega
      go_enter Tryz.func115, Tryz.ntmps115
      go_wp2
      go_ret
      refine ⟨ret_bool ?_, rfl⟩
      rw [← unhide HR, decide_eq_false (by omega), decide_eq_false (by omega)]
      rfl
  · have h1i : ¬ (97 : Int) ≤ (c : Int) := by omega
    by_cases h3 : 65 ≤ c
    · have h3i : (65 : Int) ≤ (c : Int) := by omega
      by_cases h4 : c ≤ 90
      · have h4i : (c : Int) ≤ 90 := by omega
        go_enter Tryz.func115, Tryz.ntmps115
        go_wp2
        go_ret
        refine ⟨ret_bool ?_, rfl⟩
        rw [← unhide HR, decide_eq_false (by omega), decide_eq_true ⟨h3, h4⟩]
        rfl
      · have h4i : ¬ (c : Int) ≤ 90 := by omega
        go_enter Tryz.func115, Tryz.ntmps115
        go_wp2
        go_ret
        refine ⟨ret_bool ?_, rfl⟩
        rw [← unhide HR, decide_eq_false (by omega), decide_eq_false (by omega)]
        rfl
    · have h3i : ¬ (65 : Int) ≤ (c : Int) := by omega
      go_enter Tryz.func115, Tryz.ntmps115
      go_wp2
      go_ret
      refine ⟨ret_bool ?_, rfl⟩
      rw [← unhide HR, decide_eq_false (by omega), decide_eq_false (by omega)]
      rfl

theorem l1Starts_any (s p : ByteArray) (i : Nat) (hi : i ≤ s.size) (hs : s.size ≤ 17592186044416) (hp : p.size ≤ 100) (w : World) :
    Calls Tryz.prog 88 #[.string s, .int .i64 (i : Nat), .string p] w fun e w' => e = .returned (.bool (startsB s i p)) ∧ w' = w := by
  obtain ⟨r, hr⟩ : ∃ r, startsB s i p = r := ⟨_, rfl⟩
  rw [hr]
  have HR : Hid ((decide (i + p.size ≤ s.size) && ((s.extract i (i + p.size)).toList == p.toList)) = r) := hr
  clear hr
  by_cases h : i + p.size ≤ s.size
  · have hI : (i : Int) + (p.size : Int) ≤ (s.size : Int) := by omega
    go_enter Tryz.func88, Tryz.ntmps88
    go_wp2
    go_ret
    refine ⟨ret_bool ?_, rfl⟩
    rw [← unhide HR, decide_eq_true h]
    rfl
  · have hI : ¬ (i : Int) + (p.size : Int) ≤ (s.size : Int) := by omega
    go_enter Tryz.func88, Tryz.ntmps88
    go_wp2
    go_ret
    refine ⟨ret_bool ?_, rfl⟩
    rw [← unhide HR, decide_eq_false h]
    rfl

/-- The bytes of a text as numbers. -/
def bz (s : ByteArray) : List Int := s.data.toList.map fun b => ((b.toNat : Nat) : Int)

theorem bz_len (s : ByteArray) : (bz s).length = s.size := by unfold bz; rw [List.length_map, ← Lib.size_eq]

theorem bz_get {s : ByteArray} {i : Nat} (h : i < s.size) : (bz s).getD i 0 = (bt s i : Nat) := by
  have hl : i < s.data.toList.length := by rw [← Lib.size_eq]; exact h
  rw [bt_data h]
  unfold bz
  rw [List.getD_eq_getElem?_getD, List.getD_eq_getElem?_getD, List.getElem?_map, List.getElem?_eq_getElem hl]
  rfl

theorem RowB.get {w : World} {a : Option Addr} {n : Nat} {zs : List Int} (h : RowB w a n zs) {k : Nat} (hk : k < n) : ∃ b off, a = some ⟨b, off, none⟩ ∧ b < w.heap.size ∧ w.cell? ⟨b, off + k, none⟩ = some (.int .u8 (zs.getD k 0)) := by
  rcases h.at_ with h0 | ⟨b, off, rfl, hlt, hc⟩
  · omega
  · exact ⟨b, off, rfl, hlt, hc k hk⟩

theorem l1Tail_any (a : Option Addr) (cap : Nat) (s : ByteArray) (i : Nat) (w : World) (h : RowB w a s.size (bz s)) :
    Calls Tryz.prog 178 #[.slice a s.size cap, .int .i64 (i : Nat)] w fun e w' => e = .returned (.bool (tl s i)) ∧ w' = w := by
  obtain ⟨r, hr⟩ : ∃ r, tl s i = r := ⟨_, rfl⟩
  rw [hr]
  have HR : Hid (decide (i < s.size ∧ 128 ≤ bt s i ∧ bt s i < 192) = r) := hr
  clear hr
  by_cases hi : i < s.size
  · have hii : (i : Int) < (s.size : Int) := by omega
    obtain ⟨b, off, rfl, -, hc⟩ := h.get hi
    rw [bz_get hi] at hc
    obtain ⟨c, hcc⟩ : ∃ c, bt s i = c := ⟨_, rfl⟩
    rw [hcc] at hc HR
    clear h hcc
    by_cases h1 : 128 ≤ c
    · have h1i : (128 : Int) ≤ (c : Int) := by omega
      go_enter Tryz.func178, Tryz.ntmps178
      go_wp2
      go_ret
      refine ⟨ret_bool ?_, rfl⟩
      rw [← unhide HR]
      by_cases h2 : c < 192
      · rw [decide_eq_true (by omega), decide_eq_true ⟨hi, h1, h2⟩]
      · rw [decide_eq_false (by omega), decide_eq_false (by omega)]
    · have h1i : ¬ (128 : Int) ≤ (c : Int) := by omega
      go_enter Tryz.func178, Tryz.ntmps178
      go_wp2
      go_ret
      refine ⟨ret_bool ?_, rfl⟩
      rw [← unhide HR, decide_eq_false (by omega)]
  · have hii : ¬ (i : Int) < (s.size : Int) := by omega
    clear h
    go_enter Tryz.func178, Tryz.ntmps178
    go_wp2
    go_ret
    refine ⟨ret_bool ?_, rfl⟩
    rw [← unhide HR, decide_eq_false (by omega)]

end Go.Proofs.YtinndpnilmmmjaaGreatDoor
namespace Go.Proofs.YtinndpnilmmmjaaGreatDoor
open Go.RowKit

theorem run_idx {s : ByteArray} {k : Nat} (h : k < s.size) (W : World) : (Instr.index 9 (.string s) (.int .i64 (k : Nat))).run Tryz.prog W = .ok (.int .u8 (bt s k : Nat)) W := by
  have h1 : (k : Int) < (s.size : Int) := by omega
  have h2 := bt_get h
  rw [h2]
  go_simp

/-- What is read at a place, as a value. -/
def gotV (g : Got) : Value := .agg #[.int .i64 g.k, .int .i64 g.n, .string g.t, .int .i64 0, .int .i64 (g.e : Nat), .int .i64 g.c]

/-- Block p holds a struct of what is read. -/
def GBox (w : World) (p : Nat) (v0 v1 v2 v3 v4 v5 : Value) : Prop := w.heap[p]? = some (.cells #[v0, v1, v2, v3, v4, v5] 119 (0, 0))

theorem GBox.all {w : World} {p : Nat} {v0 v1 v2 v3 v4 v5 : Value} (h : GBox w p v0 v1 v2 v3 v4 v5) : w.cell? ⟨p, 0, none⟩ = some v0 ∧ w.cell? ⟨p, 1, none⟩ = some v1 ∧ w.cell? ⟨p, 2, none⟩ = some v2 ∧ w.cell? ⟨p, 3, none⟩ = some v3 ∧ w.cell? ⟨p, 4, none⟩ = some v4 ∧ w.cell? ⟨p, 5, none⟩ = some v5 ∧ (∀ i, w.frozen? ⟨p, i, none⟩ = false) := by
  unfold GBox at h
  refine ⟨?_, ?_, ?_, ?_, ?_, ?_, fun i => frozen_of_row w p i _ _ h⟩ <;> simp [World.cell?, h]

theorem GBox.lt {w : World} {p : Nat} {v0 v1 v2 v3 v4 v5 : Value} (h : GBox w p v0 v1 v2 v3 v4 v5) : p < w.heap.size := lt_of_block h

theorem GBox.below {w w' : World} {p B : Nat} {v0 v1 v2 v3 v4 v5 : Value} (h : GBox w p v0 v1 v2 v3 v4 v5) (hB : w.heap.size ≤ B) (hb : Below B w w') : GBox w' p v0 v1 v2 v3 v4 v5 := (hb.block p (Nat.lt_of_lt_of_le h.lt hB)).trans h

theorem GBox.new (w : World) (v0 v1 v2 v3 v4 v5 : Value) : GBox (w.alloc (.cells #[v0, v1, v2, v3, v4, v5] 119 (0, 0))) w.heap.size v0 v1 v2 v3 v4 v5 := by
  show (w.heap.push _)[w.heap.size]? = _
  simp

/-- What a function gives that reads a token at a place. -/
def GivesGot (w : World) (g : Got) (e : Ending) (w' : World) : Prop := e = .returned (gotV g) ∧ Below w.heap.size w w'

theorem endOf_is {p : Nat → Bool} {s : ByteArray} : ∀ (k f : Nat), (∀ j, j < k → f + j < s.size ∧ p (bt s (f + j)) = true) → ¬ (f + k < s.size ∧ p (bt s (f + k)) = true) → endOf p s f = f + k
  | 0, f, _, h => endOf_stop h
  | k + 1, f, hk, h => by
    have h0 : f < s.size ∧ p (bt s f) = true := hk 0 (by omega)
    rw [endOf_go h0.1 h0.2, endOf_is k (f + 1) (fun j hj => by have := hk (j + 1) (by omega); rwa [show f + 1 + j = f + (j + 1) by omega]) (by rwa [show f + 1 + k = f + (k + 1) by omega])]
    omega

end Go.Proofs.YtinndpnilmmmjaaGreatDoor
