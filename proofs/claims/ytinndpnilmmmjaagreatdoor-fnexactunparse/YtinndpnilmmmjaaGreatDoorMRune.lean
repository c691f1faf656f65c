import Derived.Lib.RuneCount
import Derived.Lib.Strings
import Derived.Test.YtinndpnilmmmjaaGreatDoorMBase
import Derived.Test.YtinndpnilmmmjaaGreatDoorMBase
namespace Go.Proofs.YtinndpnilmmmjaaGreatDoor
open Go

/-- The byte at a place of a text. -/
def bt (s : ByteArray) (i : Nat) : Nat := (s.get! i).toNat

theorem bt_lt (s : ByteArray) (i : Nat) : bt s i < 256 := (s.get! i).toNat_lt

theorem bt_get {s : ByteArray} {i : Nat} (h : i < s.size) : bt s i = (s[i]'h).toNat := by
  unfold bt
  rw [ByteArray.get!, getElem!_pos s.data i h, ByteArray.getElem_eq_getElem_data]

def isD (b : Nat) : Bool := decide (48 ≤ b ∧ b ≤ 57)
def isL (b : Nat) : Bool := decide (97 ≤ b ∧ b ≤ 122) || decide (65 ≤ b ∧ b ≤ 90)
def isLD (b : Nat) : Bool := isL b || isD b

/-- The character that begins at a place in its shortest form, and its number of bytes; 0 when none does. -/
def runeAt (s : ByteArray) (i : Nat) : Nat × Nat := if Utf8.decode s i = (65533, 1) then (0, 0) else Utf8.decode s i

/-- The first place from i on that does not belong. -/
def runTo (p : Nat → Bool) (s : ByteArray) : Nat → Nat → Nat
  | 0, i => i
  | f + 1, i => if i < s.size ∧ p (bt s i) = true then runTo p s f (i + 1) else i

def endOf (p : Nat → Bool) (s : ByteArray) (i : Nat) : Nat := runTo p s (s.size - i) i

theorem endOf_go {p : Nat → Bool} {s : ByteArray} {i : Nat} (h : i < s.size) (hp : p (bt s i) = true) : endOf p s i = endOf p s (i + 1) := by
  unfold endOf
  rw [show s.size - i = (s.size - (i + 1)) + 1 by omega, runTo, if_pos ⟨h, hp⟩]

theorem endOf_stop {p : Nat → Bool} {s : ByteArray} {i : Nat} (h : ¬ (i < s.size ∧ p (bt s i) = true)) : endOf p s i = i := by
  unfold endOf
  cases s.size - i with
  | zero => rfl
  | succ f => rw [runTo, if_neg h]

theorem runTo_ge (p : Nat → Bool) (s : ByteArray) : ∀ f i, i ≤ runTo p s f i
  | 0, i => Nat.le_refl _
  | f + 1, i => by
    rw [runTo]
    split
    · exact Nat.le_trans (Nat.le_succ i) (runTo_ge p s f (i + 1))
    · exact Nat.le_refl _

theorem endOf_ge (p : Nat → Bool) (s : ByteArray) (i : Nat) : i ≤ endOf p s i := runTo_ge p s _ i

theorem runTo_le (p : Nat → Bool) (s : ByteArray) : ∀ f i, i ≤ s.size → runTo p s f i ≤ s.size
  | 0, i, h => h
  | f + 1, i, h => by
    rw [runTo]
    split
    · rename_i h'
      exact runTo_le p s f (i + 1) (by omega)
    · exact h

theorem endOf_le (p : Nat → Bool) (s : ByteArray) (i : Nat) (h : i ≤ s.size) : endOf p s i ≤ s.size := runTo_le p s _ i h

theorem runTo_in (p : Nat → Bool) (s : ByteArray) : ∀ f i k, i ≤ k → k < runTo p s f i → k < s.size ∧ p (bt s k) = true
  | 0, i, k, h1, h2 => by rw [runTo] at h2; omega
  | f + 1, i, k, h1, h2 => by
    rw [runTo] at h2
    split at h2
    · rename_i h'
      by_cases e : k = i
      · subst e; exact h'
      · exact runTo_in p s f (i + 1) k (by omega) h2
    · omega

theorem endOf_in {p : Nat → Bool} {s : ByteArray} {i k : Nat} (h1 : i ≤ k) (h2 : k < endOf p s i) : k < s.size ∧ p (bt s k) = true := runTo_in p s _ i k h1 h2

theorem endOf_at {p : Nat → Bool} {s : ByteArray} : ∀ (d i : Nat), s.size - i = d → ¬ (endOf p s i < s.size ∧ p (bt s (endOf p s i)) = true)
  | d, i, hd => by
    by_cases h : i < s.size ∧ p (bt s i) = true
    · rw [endOf_go h.1 h.2]
      match d, hd with
      | 0, hd => omega
      | d + 1, hd => exact endOf_at d (i + 1) (by omega)
    · rw [endOf_stop h]; exact h

/-- The mark of numbers below 0 stands at a place. -/
def high (s : ByteArray) (i : Nat) : Bool := decide (i + 2 ≤ s.size ∧ bt s i = 194 ∧ bt s (i + 1) = 175)
/-- The mark of a comment stands at a place. -/
def remark (s : ByteArray) (i : Nat) : Bool := decide (i + 3 ≤ s.size ∧ bt s i = 226 ∧ bt s (i + 1) = 141 ∧ bt s (i + 2) = 157)
/-- Two quotes stand at a place. -/
def quotes (s : ByteArray) (i : Nat) : Bool := decide (i + 2 ≤ s.size ∧ bt s i = 39 ∧ bt s (i + 1) = 39)

/-- The number that the digits of a stretch mean. -/
def decV (s : ByteArray) (f : Nat) : Nat → Nat
  | 0 => 0
  | k + 1 => decV s f k * 10 + (bt s (f + k) - 48)

/-- The same, but that it grows no more behind 10^15. -/
def capV (s : ByteArray) (f : Nat) : Nat → Nat
  | 0 => 0
  | k + 1 => if capV s f k ≤ 1000000000000000 then capV s f k * 10 + (bt s (f + k) - 48) else capV s f k

theorem capV_eq (s : ByteArray) (f : Nat) : ∀ k, (capV s f k ≤ 1000000000000000 → capV s f k = decV s f k) ∧ (1000000000000000 < capV s f k → 1000000000000000 < decV s f k)
  | 0 => ⟨fun _ => rfl, fun h => by simp [capV] at h⟩
  | k + 1 => by
    have ih := capV_eq s f k
    rw [capV, decV]
    split
    · rename_i h
      rw [ih.1 h]
      exact ⟨fun _ => rfl, fun h => h⟩
    · rename_i h
      exact ⟨fun h' => absurd h' h, fun _ => by have := ih.2 (by omega); omega⟩

theorem capV_le (s : ByteArray) (f : Nat) (h : ∀ j, bt s (f + j) - 48 ≤ 207) : ∀ k, capV s f k ≤ 10000000000000207
  | 0 => by simp [capV]
  | k + 1 => by
    have ih := capV_le s f h k
    rw [capV]
    split
    · have := h k; omega
    · exact ih

/-- A piece of a text. -/
def sub (s : ByteArray) (i e : Nat) : ByteArray := s.extract i e

/-- What is read at a place: a token and where it ends, or a code. -/
structure Got where
  k : Int
  n : Int
  t : ByteArray
  e : Nat
  c : Int

def bad (c : Int) : Got := ⟨0, 0, ⟨#[]⟩, 0, c⟩

def numTok (s : ByteArray) (i : Nat) : Got :=
  let f := if high s i = true then i + 2 else i
  let e := endOf isD s f
  if e = f ∨ (e < s.size ∧ isL (bt s e) = true) ∨ high s e = true then bad 1
  else if 1000000000000000 < decV s f (e - f) then bad 7
  else ⟨1, if high s i = true then -(decV s f (e - f) : Int) else (decV s f (e - f) : Int), ⟨#[]⟩, e, 0⟩

def textTok (s : ByteArray) : Nat → Nat → List UInt8 → Got
  | 0, _, _ => bad 1
  | f + 1, e, out =>
    if e < s.size then
      if bt s e = 39 then
        if quotes s e = true then textTok s f (e + 2) (out ++ [39]) else ⟨2, 0, ⟨out.toArray⟩, e + 1, 0⟩
      else if (runeAt s e).2 = 0 ∨ bt s e = 10 then bad 1
      else textTok s f (e + (runeAt s e).2) (out ++ (s.extract e (e + (runeAt s e).2)).data.toList)
    else bad 1

def nameTok (s : ByteArray) (i : Nat) : Got :=
  if 20 < endOf isLD s i - i then bad 1 else ⟨3, 0, s.extract i (endOf isLD s i), endOf isLD s i, 0⟩

/-- The signs. -/
def signCs : List Nat := [43, 45, 215, 247, 8970, 8968, 124, 42, 61, 8800, 60, 8804, 8805, 62, 8743, 8744, 126, 9076, 9075, 44, 9021, 8854, 9033, 8593, 8595, 9035, 9042, 8714, 47, 9023, 92, 9024, 46, 8728, 8869, 8868, 8802, 8592, 91, 93, 59, 40, 41, 123, 125, 9082, 9077, 8711, 58, 8900, 9068]

def signTok (s : ByteArray) (i : Nat) : Got :=
  if 0 < (runeAt s i).2 ∧ (runeAt s i).1 ∈ signCs then ⟨4, 0, s.extract i (i + (runeAt s i).2), i + (runeAt s i).2, 0⟩ else bad 1

def tokAt (s : ByteArray) (i : Nat) : Got :=
  if isD (bt s i) = true ∨ high s i = true then numTok s i
  else if bt s i = 39 then textTok s (s.size - i) (i + 1) []
  else if isL (bt s i) = true then nameTok s i
  else signTok s i

/-- A token: its kind, its number, its text, its place. -/
structure Tok where
  k : Int
  n : Int
  t : ByteArray
  p : Nat

/-- What the tokens of a line are from place i on, behind those that are there: the code and the place of a fault, or all. -/
def lexR (s : ByteArray) : Nat → Nat → List Tok → (List Tok × Int × Nat)
  | 0, _, acc => (acc, 0, 0)
  | f + 1, i, acc =>
    if i < s.size ∧ remark s i = false then
      if bt s i = 32 ∨ bt s i = 9 then lexR s f (i + 1) acc
      else if (tokAt s i).c ≠ 0 then ([], (tokAt s i).c, i)
      else lexR s f (tokAt s i).e (acc ++ [⟨(tokAt s i).k, (tokAt s i).n, (tokAt s i).t, i⟩])
    else (acc, 0, 0)

/-- What Lex answers. -/
def lexT (s : ByteArray) : List Tok × Int × Nat := if 2000 < s.size then ([], 7, 0) else lexR s (s.size + 1) 0 []

end Go.Proofs.YtinndpnilmmmjaaGreatDoor
namespace Go.Proofs.YtinndpnilmmmjaaGreatDoor
open Go

/-- A text stands at a place. -/
def startsB (s : ByteArray) (i : Nat) (p : ByteArray) : Bool := decide (i + p.size ≤ s.size) && ((s.extract i (i + p.size)).toList == p.toList)

theorem bt_data {s : ByteArray} {i : Nat} (h : i < s.size) : bt s i = (s.data.toList.getD i 0).toNat := by
  have h' : i < s.data.size := h
  rw [bt_get h, ByteArray.getElem_eq_getElem_data, List.getD_eq_getElem?_getD, Array.getElem?_toList, Array.getElem?_eq_getElem h']
  rfl

theorem sub_list (s : ByteArray) (i e : Nat) : (s.extract i e).data.toList = (s.data.toList.drop i).take (e - i) := by
  rw [← Lib.toList_data, Lib.extract_toList]

theorem take_cons {l : List UInt8} {i m : Nat} (h : i < l.length) : (l.drop i).take (m + 1) = l.getD i 0 :: (l.drop (i + 1)).take m := by
  rw [List.drop_eq_getElem_cons h, List.take_succ_cons]
  simp [List.getD_eq_getElem?_getD, h]

theorem byte_eq (b : UInt8) {a : Nat} (ha : a < 256) : (b == UInt8.ofNat a) = decide (b.toNat = a) := by
  by_cases h : b.toNat = a
  · rw [decide_eq_true h]
    have : b = UInt8.ofNat a := by rw [← h]; simp
    rw [this]; simp
  · rw [decide_eq_false h]
    have : b ≠ UInt8.ofNat a := fun e => h (by rw [e]; exact UInt8.toNat_ofNat_of_lt' (by simpa [UInt8.size] using ha))
    simpa using this

theorem start_step {s : ByteArray} {i m a : Nat} {q : List UInt8} (h : i < s.size) (ha : a < 256) : ((s.data.toList.drop i).take (m + 1) == UInt8.ofNat a :: q) = (decide (bt s i = a) && ((s.data.toList.drop (i + 1)).take m == q)) := by
  have hl : i < s.data.toList.length := by rw [← Lib.size_eq]; exact h
  rw [take_cons hl, List.cons_beq_cons, byte_eq _ ha, bt_data h]

theorem starts_high (s : ByteArray) (i : Nat) : startsB s i ⟨#[194, 175]⟩ = high s i := by
  unfold startsB high
  rw [show (ByteArray.mk #[194, 175]).size = 2 from rfl, Lib.extract_toList, show (ByteArray.mk #[194, 175]).toList = [UInt8.ofNat 194, UInt8.ofNat 175] by rw [Lib.toList_data]; rfl, show i + 2 - i = 0 + 1 + 1 by omega]
  by_cases h : i + 2 ≤ s.size
  · rw [start_step (by omega) (by omega), start_step (by omega) (by omega)]
    simp [h]
  · rw [decide_eq_false h, decide_eq_false (fun hh => h hh.1)]; rfl

theorem starts_quotes (s : ByteArray) (i : Nat) : startsB s i ⟨#[39, 39]⟩ = quotes s i := by
  unfold startsB quotes
  rw [show (ByteArray.mk #[39, 39]).size = 2 from rfl, Lib.extract_toList, show (ByteArray.mk #[39, 39]).toList = [UInt8.ofNat 39, UInt8.ofNat 39] by rw [Lib.toList_data]; rfl, show i + 2 - i = 0 + 1 + 1 by omega]
  by_cases h : i + 2 ≤ s.size
  · rw [start_step (by omega) (by omega), start_step (by omega) (by omega)]
    simp [h]
  · rw [decide_eq_false h, decide_eq_false (fun hh => h hh.1)]; rfl

theorem starts_remark (s : ByteArray) (i : Nat) : startsB s i ⟨#[226, 141, 157]⟩ = remark s i := by
  unfold startsB remark
  rw [show (ByteArray.mk #[226, 141, 157]).size = 3 from rfl, Lib.extract_toList, show (ByteArray.mk #[226, 141, 157]).toList = [UInt8.ofNat 226, UInt8.ofNat 141, UInt8.ofNat 157] by rw [Lib.toList_data]; rfl, show i + 3 - i = 0 + 1 + 1 + 1 by omega]
  by_cases h : i + 3 ≤ s.size
  · rw [start_step (by omega) (by omega), start_step (by omega) (by omega), start_step (by omega) (by omega)]
    simp [h, Nat.add_assoc]
  · rw [decide_eq_false h, decide_eq_false (fun hh => h hh.1)]; rfl

end Go.Proofs.YtinndpnilmmmjaaGreatDoor
namespace Go.Proofs.YtinndpnilmmmjaaGreatDoor
open Go

/-- A byte goes on in a character. -/
def tl (s : ByteArray) (j : Nat) : Bool := decide (j < s.size ∧ 128 ≤ bt s j ∧ bt s j < 192)

def v2 (s : ByteArray) (i : Nat) : Nat := bt s i % 32 * 64 + bt s (i + 1) % 64
def v3 (s : ByteArray) (i : Nat) : Nat := bt s i % 16 * 4096 + bt s (i + 1) % 64 * 64 + bt s (i + 2) % 64
def v4 (s : ByteArray) (i : Nat) : Nat := bt s i % 8 * 262144 + bt s (i + 1) % 64 * 4096 + bt s (i + 2) % 64 * 64 + bt s (i + 3) % 64

theorem decode_is (s : ByteArray) (i : Nat) : Utf8.decode s i =
    if bt s i < 128 then (bt s i, 1)
    else if bt s i / 32 = 6 ∧ tl s (i + 1) = true then (if 128 ≤ v2 s i then (v2 s i, 2) else (65533, 1))
    else if bt s i / 16 = 14 ∧ tl s (i + 1) = true ∧ tl s (i + 2) = true then (if 2048 ≤ v3 s i ∧ Utf8.valid (v3 s i : Nat) = true then (v3 s i, 3) else (65533, 1))
    else if bt s i / 8 = 30 ∧ tl s (i + 1) = true ∧ tl s (i + 2) = true ∧ tl s (i + 3) = true then (if 65536 ≤ v4 s i ∧ Utf8.valid (v4 s i : Nat) = true then (v4 s i, 4) else (65533, 1))
    else (65533, 1) := by
  have ht : ∀ k, (decide (i + k < s.size) && (bt s (i + k) / 64 == 2)) = tl s (i + k) := fun k => by
    unfold tl
    have := bt_lt s (i + k)
    by_cases h : i + k < s.size
    · by_cases h2 : bt s (i + k) / 64 = 2
      · rw [decide_eq_true h, decide_eq_true (by omega)]; simp [h2]
      · rw [decide_eq_true h, decide_eq_false (by omega)]; simp [h2]
    · rw [decide_eq_false h, decide_eq_false (by omega)]; rfl
  unfold Utf8.decode
  have h1 := ht 1
  have h2 := ht 2
  have h3 := ht 3
  simp only [show ∀ k, (s.get! k).toNat = bt s k from fun _ => rfl, Nat.add_zero, h1, h2, h3, beq_iff_eq, Bool.and_eq_true, decide_eq_true_eq, and_assoc, ge_iff_le, Utf8.runeError]
  rfl

theorem rune_ascii {s : ByteArray} {i : Nat} (h : bt s i < 128) : runeAt s i = (bt s i, 1) := by
  have hd : Utf8.decode s i = (bt s i, 1) := by rw [decode_is, if_pos h]
  unfold runeAt
  rw [hd, if_neg (fun e => by have := congrArg Prod.fst e; simp at this; omega)]

theorem rune_none {s : ByteArray} {i : Nat} (h : Utf8.decode s i = (65533, 1)) : runeAt s i = (0, 0) := by
  unfold runeAt
  rw [if_pos h]

theorem rune_some {s : ByteArray} {i v n : Nat} (h : Utf8.decode s i = (v, n)) (hn : 1 < n) : runeAt s i = (v, n) := by
  unfold runeAt
  rw [h, if_neg (fun e => by have := congrArg Prod.snd e; simp at this; omega)]

theorem rune_0 {s : ByteArray} {i : Nat} (h0 : 128 ≤ bt s i) (h : bt s i < 192 ∨ 248 ≤ bt s i) : runeAt s i = (0, 0) := by
  have := bt_lt s i
  refine rune_none ?_
  rw [decode_is, if_neg (by omega), if_neg (by omega), if_neg (by omega), if_neg (by omega)]

theorem rune_2 {s : ByteArray} {i : Nat} (h0 : 192 ≤ bt s i) (h1 : bt s i < 224) : runeAt s i = if tl s (i + 1) = true ∧ 128 ≤ v2 s i then (v2 s i, 2) else (0, 0) := by
  have hd := decode_is s i
  rw [if_neg (by omega)] at hd
  by_cases ht : tl s (i + 1) = true
  · rw [if_pos ⟨by omega, ht⟩] at hd
    by_cases hv : 128 ≤ v2 s i
    · rw [if_pos hv] at hd
      rw [if_pos ⟨ht, hv⟩]
      exact rune_some hd (by omega)
    · rw [if_neg hv] at hd
      rw [if_neg (fun h => hv h.2)]
      exact rune_none hd
  · rw [if_neg (fun h => ht h.2), if_neg (by omega), if_neg (by omega)] at hd
    rw [if_neg (fun h => ht h.1)]
    exact rune_none hd

theorem rune_3 {s : ByteArray} {i : Nat} (h0 : 224 ≤ bt s i) (h1 : bt s i < 240) : runeAt s i = if tl s (i + 1) = true ∧ tl s (i + 2) = true ∧ 2048 ≤ v3 s i ∧ Utf8.valid (v3 s i : Nat) = true then (v3 s i, 3) else (0, 0) := by
  have hd := decode_is s i
  rw [if_neg (by omega), if_neg (by omega)] at hd
  by_cases ht : tl s (i + 1) = true ∧ tl s (i + 2) = true
  · rw [if_pos ⟨by omega, ht⟩] at hd
    by_cases hv : 2048 ≤ v3 s i ∧ Utf8.valid (v3 s i : Nat) = true
    · rw [if_pos hv] at hd
      rw [if_pos ⟨ht.1, ht.2, hv⟩]
      exact rune_some hd (by omega)
    · rw [if_neg hv] at hd
      rw [if_neg (fun h => hv h.2.2)]
      exact rune_none hd
  · rw [if_neg (fun h => ht h.2), if_neg (by omega)] at hd
    rw [if_neg (fun h => ht ⟨h.1, h.2.1⟩)]
    exact rune_none hd

theorem rune_4 {s : ByteArray} {i : Nat} (h0 : 240 ≤ bt s i) (h1 : bt s i < 248) : runeAt s i = if tl s (i + 1) = true ∧ tl s (i + 2) = true ∧ tl s (i + 3) = true ∧ 65536 ≤ v4 s i ∧ Utf8.valid (v4 s i : Nat) = true then (v4 s i, 4) else (0, 0) := by
  have hd := decode_is s i
  rw [if_neg (by omega), if_neg (by omega), if_neg (by omega)] at hd
  by_cases ht : tl s (i + 1) = true ∧ tl s (i + 2) = true ∧ tl s (i + 3) = true
  · rw [if_pos ⟨by omega, ht⟩] at hd
    by_cases hv : 65536 ≤ v4 s i ∧ Utf8.valid (v4 s i : Nat) = true
    · rw [if_pos hv] at hd
      rw [if_pos ⟨ht.1, ht.2.1, ht.2.2, hv⟩]
      exact rune_some hd (by omega)
    · rw [if_neg hv] at hd
      rw [if_neg (fun h => hv h.2.2.2)]
      exact rune_none hd
  · rw [if_neg (fun h => ht h.2)] at hd
    rw [if_neg (fun h => ht ⟨h.1, h.2.1, h.2.2.1⟩)]
    exact rune_none hd

end Go.Proofs.YtinndpnilmmmjaaGreatDoor
namespace Go.Proofs.YtinndpnilmmmjaaGreatDoor
open Go.RowKit

theorem l1High_any (w : World) : Calls Tryz.prog 121 #[] w fun e w' => e = .returned (.string ⟨#[194, 175]⟩) ∧ w' = w := by
  go_enter Tryz.func121, Tryz.ntmps121
  go_wp2
  go_ret
  exact ⟨rfl, rfl⟩

theorem l1Digit_any (c : Nat) (w : World) : Calls Tryz.prog 116 #[.int .u8 (c : Nat)] w fun e w' => e = .returned (.bool (isD c)) ∧ w' = w := by
  obtain ⟨r, hr⟩ : ∃ r, isD c = r := ⟨_, rfl⟩
  rw [hr]
  have HR : Hid (decide (48 ≤ c ∧ c ≤ 57) = r) := hr
  clear hr
  by_cases h1 : 48 ≤ c
  · have h1i : (48 : Int) ≤ (c : Int) := by omega
    go_enter Tryz.func116, Tryz.ntmps116
    go_wp2
    go_ret
    refine ⟨ret_bool ?_, rfl⟩
    rw [← unhide HR]
    by_cases h2 : c ≤ 57
    · rw [decide_eq_true (by omega), decide_eq_true ⟨h1, h2⟩]
    · rw [decide_eq_false (by omega), decide_eq_false (by omega)]
  · have h1i : ¬ (48 : Int) ≤ (c : Int) := by omega
    go_enter Tryz.func116, Tryz.ntmps116
    go_wp2
    go_ret
    refine ⟨ret_bool ?_, rfl⟩
    rw [← unhide HR, decide_eq_false (by omega)]

theorem l1Letter_any (c : Nat) (w : World) : Calls Tryz.prog 115 #[.int .u8 (c : Nat)] w fun e w' => e = .returned (.bool (isL c)) ∧ w' = w := by
  obtain ⟨r, hr⟩ : ∃ r, isL c = r := ⟨_, rfl⟩
  rw [hr]
  have HR : Hid ((decide (97 ≤ c ∧ c ≤ 122) || decide (65 ≤ c ∧ c ≤ 90)) = r) := hr
  clear hr
  by_cases h1 : 97 ≤ c
  · have h1i : (97 : Int) ≤ (c : Int) := by omega
    by_cases h2 : c ≤ 122
    · have h2i : (c : Int) ≤ 122 := by omega
      go_enter Tryz.func115, Tryz.ntmps115
      go_wp2
      go_ret
      refine ⟨ret_bool ?_, rfl⟩
      rw [← unhide HR, decide_eq_true ⟨h1, h2⟩]
      rfl
    · have h2i : ¬ (c : Int) ≤ 122 := by omega
      have h3i : (65 : Int) ≤ (c : Int) := by omega
      have h4i : ¬ (c : Int) ≤ 90 := by omega
      go_enter Tryz.func115, Tryz.ntmps115
      go_wp2
      go_ret
      refine ⟨ret_bool ?_, rfl⟩
      rw [← unhide HR, decide_eq_false (by omega), decide_eq_false (by omega)]
      rfl
  · have h1i : ¬ (97 : Int) ≤ (c : Int) := by omega
    by_cases h3 : 65 ≤ c
    · have h3i : (65 : Int) ≤ (c : Int) := by omega
      by_cases h4 : c ≤ 90
      · have h4i : (c : Int) ≤ 90 := by omega
        go_enter Tryz.func115, Tryz.ntmps115
        go_wp2
        go_ret
        refine ⟨ret_bool ?_, rfl⟩
        rw [← unhide HR, decide_eq_false (by omega), decide_eq_true ⟨h3, h4⟩]
        rfl
      · have h4i : ¬ (c : Int) ≤ 90 := by omega
        go_enter Tryz.func115, Tryz.ntmps115
        go_wp2
        go_ret
        refine ⟨ret_bool ?_, rfl⟩
        rw [← unhide HR, decide_eq_false (by omega), decide_eq_false (by omega)]
        rfl
    · have h3i : ¬ (65 : Int) ≤ (c : Int) := by omega
      go_enter Tryz.func115, Tryz.ntmps115
      go_wp2
      go_ret
      refine ⟨ret_bool ?_, rfl⟩
      rw [← unhide HR, decide_eq_false (by omega), decide_eq_false (by omega)]
      rfl

theorem l1Starts_any (s p : ByteArray) (i : Nat) (hi : i ≤ s.size) (hs : s.size ≤ 17592186044416) (hp : p.size ≤ 100) (w : World) :
    Calls Tryz.prog 88 #[.string s, .int .i64 (i : Nat), .string p] w fun e w' => e = .returned (.bool (startsB s i p)) ∧ w' = w := by
  obtain ⟨r, hr⟩ : ∃ r, startsB s i p = r := ⟨_, rfl⟩
  rw [hr]
  have HR : Hid ((decide (i + p.size ≤ s.size) && ((s.extract i (i + p.size)).toList == p.toList)) = r) := hr
  clear hr
  by_cases h : i + p.size ≤ s.size
  · have hI : (i : Int) + (p.size : Int) ≤ (s.size : Int) := by omega
    go_enter Tryz.func88, Tryz.ntmps88
    go_wp2
    go_ret
    refine ⟨ret_bool ?_, rfl⟩
    rw [← unhide HR, decide_eq_true h]
    rfl
  · have hI : ¬ (i : Int) + (p.size : Int) ≤ (s.size : Int) := by omega
    go_enter Tryz.func88, Tryz.ntmps88
    go_wp2
    go_ret
    refine ⟨ret_bool ?_, rfl⟩
    rw [← unhide HR, decide_eq_false h]
    rfl

/-- The bytes of a text as numbers. -/
def bz (s : ByteArray) : List Int := s.data.toList.map fun b => ((b.toNat : Nat) : Int)

theorem bz_len (s : ByteArray) : (bz s).length = s.size := by unfold bz; rw [List.length_map, ← Lib.size_eq]

theorem bz_get {s : ByteArray} {i : Nat} (h : i < s.size) : (bz s).getD i 0 = (bt s i : Nat) := by
  have hl : i < s.data.toList.length := by rw [← Lib.size_eq]; exact h
  rw [bt_data h]
  unfold bz
  rw [List.getD_eq_getElem?_getD, List.getD_eq_getElem?_getD, List.getElem?_map, List.getElem?_eq_getElem hl]
  rfl

theorem RowB.get {w : World} {a : Option Addr} {n : Nat} {zs : List Int} (h : RowB w a n zs) {k : Nat} (hk : k < n) : ∃ b off, a = some ⟨b, off, none⟩ ∧ b < w.heap.size ∧ w.cell? ⟨b, off + k, none⟩ = some (.int .u8 (zs.getD k 0)) := by
  rcases h.at_ with h0 | ⟨b, off, rfl, hlt, hc⟩
  · omega
  · exact ⟨b, off, rfl, hlt, hc k hk⟩

theorem l1Tail_any (a : Option Addr) (cap : Nat) (s : ByteArray) (i : Nat) (w : World) (h : RowB w a s.size (bz s)) :
    Calls Tryz.prog 178 #[.slice a s.size cap, .int .i64 (i : Nat)] w fun e w' => e = .returned (.bool (tl s i)) ∧ w' = w := by
  obtain ⟨r, hr⟩ : ∃ r, tl s i = r := ⟨_, rfl⟩
  rw [hr]
  have HR : Hid (decide (i < s.size ∧ 128 ≤ bt s i ∧ bt s i < 192) = r) := hr
  clear hr
  by_cases hi : i < s.size
  · have hii : (i : Int) < (s.size : Int) := by omega
    obtain ⟨b, off, rfl, -, hc⟩ := h.get hi
    rw [bz_get hi] at hc
    obtain ⟨c, hcc⟩ : ∃ c, bt s i = c := ⟨_, rfl⟩
    rw [hcc] at hc HR
    clear h hcc
    by_cases h1 : 128 ≤ c
    · have h1i : (128 : Int) ≤ (c : Int) := by omega
      go_enter Tryz.func178, Tryz.ntmps178
      go_wp2
      go_ret
      refine ⟨ret_bool ?_, rfl⟩
      rw [← unhide HR]
      by_cases h2 : c < 192
      · rw [decide_eq_true (by omega), decide_eq_true ⟨hi, h1, h2⟩]
      · rw [decide_eq_false (by omega), decide_eq_false (by omega)]
    · have h1i : ¬ (128 : Int) ≤ (c : Int) := by omega
      go_enter Tryz.func178, Tryz.ntmps178
      go_wp2
      go_ret
      refine ⟨ret_bool ?_, rfl⟩
      rw [← unhide HR, decide_eq_false (by omega)]
  · have hii : ¬ (i : Int) < (s.size : Int) := by omega
    clear h
    go_enter Tryz.func178, Tryz.ntmps178
    go_wp2
    go_ret
    refine ⟨ret_bool ?_, rfl⟩
    rw [← unhide HR, decide_eq_false (by omega)]

end Go.Proofs.YtinndpnilmmmjaaGreatDoor
namespace Go.Proofs.YtinndpnilmmmjaaGreatDoor
open Go.RowKit

theorem run_idx {s : ByteArray} {k : Nat} (h : k < s.size) (W : World) : (Instr.index 9 (.string s) (.int .i64 (k : Nat))).run Tryz.prog W = .ok (.int .u8 (bt s k : Nat)) W := by
  have h1 : (k : Int) < (s.size : Int) := by omega
  have h2 := bt_get h
  rw [h2]
  go_simp

/-- What is read at a place, as a value. -/
def gotV (g : Got) : Value := .agg #[.int .i64 g.k, .int .i64 g.n, .string g.t, .int .i64 0, .int .i64 (g.e : Nat), .int .i64 g.c]

/-- Block p holds a struct of what is read. -/
def GBox (w : World) (p : Nat) (v0 v1 v2 v3 v4 v5 : Value) : Prop := w.heap[p]? = some (.cells #[v0, v1, v2, v3, v4, v5] 119 (0, 0))

theorem GBox.all {w : World} {p : Nat} {v0 v1 v2 v3 v4 v5 : Value} (h : GBox w p v0 v1 v2 v3 v4 v5) : w.cell? ⟨p, 0, none⟩ = some v0 ∧ w.cell? ⟨p, 1, none⟩ = some v1 ∧ w.cell? ⟨p, 2, none⟩ = some v2 ∧ w.cell? ⟨p, 3, none⟩ = some v3 ∧ w.cell? ⟨p, 4, none⟩ = some v4 ∧ w.cell? ⟨p, 5, none⟩ = some v5 ∧ (∀ i, w.frozen? ⟨p, i, none⟩ = false) := by
  unfold GBox at h
  refine ⟨?_, ?_, ?_, ?_, ?_, ?_, fun i => frozen_of_row w p i _ _ h⟩ <;> simp [World.cell?, h]

theorem GBox.lt {w : World} {p : Nat} {v0 v1 v2 v3 v4 v5 : Value} (h : GBox w p v0 v1 v2 v3 v4 v5) : p < w.heap.size := lt_of_block h

theorem GBox.below {w w' : World} {p B : Nat} {v0 v1 v2 v3 v4 v5 : Value} (h : GBox w p v0 v1 v2 v3 v4 v5) (hB : w.heap.size ≤ B) (hb : Below B w w') : GBox w' p v0 v1 v2 v3 v4 v5 := (hb.block p (Nat.lt_of_lt_of_le h.lt hB)).trans h

theorem GBox.new (w : World) (v0 v1 v2 v3 v4 v5 : Value) : GBox (w.alloc (.cells #[v0, v1, v2, v3, v4, v5] 119 (0, 0))) w.heap.size v0 v1 v2 v3 v4 v5 := by
  show (w.heap.push _)[w.heap.size]? = _
  simp

/-- What a function gives that reads a token at a place. -/
def GivesGot (w : World) (g : Got) (e : Ending) (w' : World) : Prop := e = .returned (gotV g) ∧ Below w.heap.size w w'

theorem endOf_is {p : Nat → Bool} {s : ByteArray} : ∀ (k f : Nat), (∀ j, j < k → f + j < s.size ∧ p (bt s (f + j)) = true) → ¬ (f + k < s.size ∧ p (bt s (f + k)) = true) → endOf p s f = f + k
  | 0, f, _, h => endOf_stop h
  | k + 1, f, hk, h => by
    have h0 : f < s.size ∧ p (bt s f) = true := hk 0 (by omega)
    rw [endOf_go h0.1 h0.2, endOf_is k (f + 1) (fun j hj => by have := hk (j + 1) (by omega); rwa [show f + 1 + j = f + (j + 1) by omega]) (by rwa [show f + 1 + k = f + (k + 1) by omega])]
    omega

end Go.Proofs.YtinndpnilmmmjaaGreatDoor
