import Derived.Lib.RuneCount
import Derived.Lib.Strings
namespace Go.Proofs.YtmgjicgojlkpcaaGreatDoor
open Go

/-- The byte at a place of a text. -/
def bt (s : ByteArray) (i : Nat) : Nat := (s.get! i).toNat

theorem bt_lt (s : ByteArray) (i : Nat) : bt s i < 256 := (s.get! i).toNat_lt

theorem bt_get {s : ByteArray} {i : Nat} (h : i < s.size) : bt s i = (s[i]'h).toNat := by
  unfold bt
  rw [ByteArray.get!, getElem!_pos s.data i h, ByteArray.getElem_eq_getElem_data]

def isD (b : Nat) : Bool := decide (48 ≤ b ∧ b ≤ 57)
def isL (b : Nat) : Bool := decide (97 ≤ b ∧ b ≤ 122) || decide (65 ≤ b ∧ b ≤ 90)
def isLD (b : Nat) : Bool := isL b || isD b

/-- The character that begins at a place in its shortest form, and its number of bytes; 0 when none does. -/
def runeAt (s : ByteArray) (i : Nat) : Nat × Nat := if Utf8.decode s i = (65533, 1) then (0, 0) else Utf8.decode s i

/-- The first place from i on that does not belong. -/
def runTo (p : Nat → Bool) (s : ByteArray) : Nat → Nat → Nat
  | 0, i => i
  | f + 1, i => if i < s.size ∧ p (bt s i) = true then runTo p s f (i + 1) else i

def endOf (p : Nat → Bool) (s : ByteArray) (i : Nat) : Nat := runTo p s (s.size - i) i

theorem endOf_go {p : Nat → Bool} {s : ByteArray} {i : Nat} (h : i < s.size) (hp : p (bt s i) = true) : endOf p s i = endOf p s (i + 1) := by
  unfold endOf
  rw [show s.size - i = (s.size - (i + 1)) + 1 by omega, runTo, if_pos ⟨h, hp⟩]

theorem endOf_stop {p : Nat → Bool} {s : ByteArray} {i : Nat} (h : ¬ (i < s.size ∧ p (bt s i) = true)) : endOf p s i = i := by
  unfold endOf
  cases s.size - i with
  | zero => rfl
  | succ f => rw [runTo, if_neg h]

theorem runTo_ge (p : Nat → Bool) (s : ByteArray) : ∀ f i, i ≤ runTo p s f i
  | 0, i => Nat.le_refl _
  | f + 1, i => by
    rw [runTo]
    split
    · exact Nat.le_trans (Nat.le_succ i) (runTo_ge p s f (i + 1))
    · exact Nat.le_refl _

theorem endOf_ge (p : Nat → Bool) (s : ByteArray) (i : Nat) : i ≤ endOf p s i := runTo_ge p s _ i

theorem runTo_le (p : Nat → Bool) (s : ByteArray) : ∀ f i, i ≤ s.size → runTo p s f i ≤ s.size
  | 0, i, h => h
  | f + 1, i, h => by
    rw [runTo]
    split
    · rename_i h'
      exact runTo_le p s f (i + 1) (by omega)
    · exact h

theorem endOf_le (p : Nat → Bool) (s : ByteArray) (i : Nat) (h : i ≤ s.size) : endOf p s i ≤ s.size := runTo_le p s _ i h

theorem runTo_in (p : Nat → Bool) (s : ByteArray) : ∀ f i k, i ≤ k → k < runTo p s f i → k < s.size ∧ p (bt s k) = true
  | 0, i, k, h1, h2 => by rw [runTo] at h2; omega
  | f + 1, i, k, h1, h2 => by
    rw [runTo] at h2
    split at h2
    · rename_i h'
      by_cases e : k = i
      · subst e; exact h'
      · exact runTo_in p s f (i + 1) k (by omega) h2
    · omega

theorem endOf_in {p : Nat → Bool} {s : ByteArray} {i k : Nat} (h1 : i ≤ k) (h2 : k < endOf p s i) : k < s.size ∧ p (bt s k) = true := runTo_in p s _ i k h1 h2

theorem endOf_at {p : Nat → Bool} {s : ByteArray} : ∀ (d i : Nat), s.size - i = d → ¬ (endOf p s i < s.size ∧ p (bt s (endOf p s i)) = true)
  | d, i, hd => by
    by_cases h : i < s.size ∧ p (bt s i) = true
    · rw [endOf_go h.1 h.2]
      match d, hd with
      | 0, hd => omega
      | d + 1, hd => exact endOf_at d (i + 1) (by omega)
    · rw [endOf_stop h]; exact h

/-- The mark of numbers below 0 stands at a place. -/
def high (s : ByteArray) (i : Nat) : Bool := decide (i + 2 ≤ s.size ∧ bt s i = 194 ∧ bt s (i + 1) = 175)
/-- The mark of a comment stands at a place. -/
def remark (s : ByteArray) (i : Nat) : Bool := decide (i + 3 ≤ s.size ∧ bt s i = 226 ∧ bt s (i + 1) = 141 ∧ bt s (i + 2) = 157)
/-- Two quotes stand at a place. -/
def quotes (s : ByteArray) (i : Nat) : Bool := decide (i + 2 ≤ s.size ∧ bt s i = 39 ∧ bt s (i + 1) = 39)

/-- The number that the digits of a stretch mean. -/
def decV (s : ByteArray) (f : Nat) : Nat → Nat
  | 0 => 0
  | k + 1 => decV s f k * 10 + (bt s (f + k) - 48)

/-- The same, but that it grows no more behind 10^15. -/
def capV (s : ByteArray) (f : Nat) : Nat → Nat
  | 0 => 0
  | k + 1 => if capV s f k ≤ 1000000000000000 then capV s f k * 10 + (bt s (f + k) - 48) else capV s f k

theorem capV_eq (s : ByteArray) (f : Nat) : ∀ k, (capV s f k ≤ 1000000000000000 → capV s f k = decV s f k) ∧ (1000000000000000 < capV s f k → 1000000000000000 < decV s f k)
  | 0 => ⟨fun _ => rfl, fun h => by simp [capV] at h⟩
  | k + 1 => by
    have ih := capV_eq s f k
    rw [capV, decV]
    split
    · rename_i h
      rw [ih.1 h]
      exact ⟨fun _ => rfl, fun h => h⟩
    · rename_i h
      exact ⟨fun h' => absurd h' h, fun _ => by have := ih.2 (by omega); omega⟩

theorem capV_le (s : ByteArray) (f : Nat) (h : ∀ j, bt s (f + j) - 48 ≤ 207) : ∀ k, capV s f k ≤ 10000000000000207
  | 0 => by simp [capV]
  | k + 1 => by
    have ih := capV_le s f h k
    rw [capV]
    split
    · have := h k; omega
    · exact ih

/-- A piece of a text. -/
def sub (s : ByteArray) (i e : Nat) : ByteArray := s.extract i e

/-- What is read at a place: a token and where it ends, or a code. -/
structure Got where
  k : Int
  n : Int
  t : ByteArray
  e : Nat
  c : Int

def bad (c : Int) : Got := ⟨0, 0, ⟨#[]⟩, 0, c⟩

def numTok (s : ByteArray) (i : Nat) : Got :=
  let f := if high s i = true then i + 2 else i
  let e := endOf isD s f
  if e = f ∨ (e < s.size ∧ isL (bt s e) = true) ∨ high s e = true then bad 1
  else if 1000000000000000 < decV s f (e - f) then bad 7
  else ⟨1, if high s i = true then -(decV s f (e - f) : Int) else (decV s f (e - f) : Int), ⟨#[]⟩, e, 0⟩

def textTok (s : ByteArray) : Nat → Nat → List UInt8 → Got
  | 0, _, _ => bad 1
  | f + 1, e, out =>
    if e < s.size then
      if bt s e = 39 then
        if quotes s e = true then textTok s f (e + 2) (out ++ [39]) else ⟨2, 0, ⟨out.toArray⟩, e + 1, 0⟩
      else if (runeAt s e).2 = 0 ∨ bt s e = 10 then bad 1
      else textTok s f (e + (runeAt s e).2) (out ++ (s.extract e (e + (runeAt s e).2)).data.toList)
    else bad 1

def nameTok (s : ByteArray) (i : Nat) : Got :=
  if 20 < endOf isLD s i - i then bad 1 else ⟨3, 0, s.extract i (endOf isLD s i), endOf isLD s i, 0⟩

/-- The signs. -/
def signCs : List Nat := [43, 45, 215, 247, 8970, 8968, 124, 42, 61, 8800, 60, 8804, 8805, 62, 8743, 8744, 126, 9076, 9075, 44, 9021, 8854, 9033, 8593, 8595, 9035, 9042, 8714, 47, 9023, 92, 9024, 46, 8728, 8869, 8868, 8802, 8592, 91, 93, 59, 40, 41, 123, 125, 9082, 9077, 8711, 58, 8900, 9068]

def signTok (s : ByteArray) (i : Nat) : Got :=
  if 0 < (runeAt s i).2 ∧ (runeAt s i).1 ∈ signCs then ⟨4, 0, s.extract i (i + (runeAt s i).2), i + (runeAt s i).2, 0⟩ else bad 1

def tokAt (s : ByteArray) (i : Nat) : Got :=
  if isD (bt s i) = true ∨ high s i = true then numTok s i
  else if bt s i = 39 then textTok s (s.size - i) (i + 1) []
  else if isL (bt s i) = true then nameTok s i
  else signTok s i

/-- A token: its kind, its number, its text, its place. -/
structure Tok where
  k : Int
  n : Int
  t : ByteArray
  p : Nat

/-- What the tokens of a line are from place i on, behind those that are there: the code and the place of a fault, or all. -/
def lexR (s : ByteArray) : Nat → Nat → List Tok → (List Tok × Int × Nat)
  | 0, _, acc => (acc, 0, 0)
  | f + 1, i, acc =>
    if i < s.size ∧ remark s i = false then
      if bt s i = 32 ∨ bt s i = 9 then lexR s f (i + 1) acc
      else if (tokAt s i).c ≠ 0 then ([], (tokAt s i).c, i)
      else lexR s f (tokAt s i).e (acc ++ [⟨(tokAt s i).k, (tokAt s i).n, (tokAt s i).t, i⟩])
    else (acc, 0, 0)

/-- What Lex answers. -/
def lexT (s : ByteArray) : List Tok × Int × Nat := if 2000 < s.size then ([], 7, 0) else lexR s (s.size + 1) 0 []

end Go.Proofs.YtmgjicgojlkpcaaGreatDoor
