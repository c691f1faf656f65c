import Derived.WalkKit
import Derived.WalkSpells
import Derived.Test.YtkgcmpmgaghdhaaGreatDoorChecked
import Derived.Deep.QuietTactic
import Derived.BigQuiet
import Derived.Deep.Draws
import Derived.Deep.RegionWith
import Derived.Deep.DeepCutAuto
import Derived.RangeFuncRecord
import Derived.Deep.AppendLies
import Derived.Deep.OwnRows
import Derived.Deep.RegionHeld3
import Derived.BigRegion
import Derived.Deep.RegionLaw
import Derived.Deep.RegionHeld
import Derived.OrdersHeld
import Derived.RegionTactic
import Derived.Laws.OwnMore
import Derived.Laws.AppendOwnNone
import Derived.RangeFuncNested
import Derived.RangeFuncLeaves
import Derived.RangeFuncWrites
import Derived.RangeFuncBound
import Derived.RangeFuncCalls
import Derived.Shelf.Abstract
import Derived.Shelf.RegionOpen
import Derived.OwnWalkIn
import Derived.TacticsInMore
import Derived.LoopNIn
import Derived.LoopIn
import Derived.Maps.Views
import Derived.Maps.OwnIn
import Derived.Maps.Own
import Derived.Lib.SliceRun
import Derived.Maps.OwnOps
import Derived.LaidEql
import Derived.Stop.Asserts
import Derived.RowKitTokens
namespace Go.Proofs.YtkgcmpmgaghdhaaGreatDoor

def runeOk (v : Int) : Bool := decide (0 ≤ v ∧ v ≤ 1114111 ∧ (v < 55296 ∨ 57343 < v))

def inCells (v : Int) : Bool := decide (0 ≤ v ∧ v ≤ 10000)

/-- The product of the numbers of a shape that are not 0, going from the front; none when it passes 10000. -/
def prodFrom : List Int → Int → Option Int
  | [], n => some n
  | x :: r, n => if x = 0 then prodFrom r n else if 10000 < n * x then none else prodFrom r (n * x)

def countOf (sh : List Int) : Int :=
  if sh.all inCells then
    match prodFrom sh 1 with
    | none => -1
    | some n => if 0 ∈ sh then 0 else n
  else -1

def dataOk (c : Bool) (v : Int) : Bool := (!c || runeOk v) && decide (-1000000000000000 ≤ v ∧ v ≤ 1000000000000000)

def arrOk (c : Bool) (sh dt : List Int) : Bool := decide (sh.length ≤ 5) && (decide (countOf sh = dt.length) && dt.all (dataOk c))

theorem prodFrom_snoc (xs : List Int) (x n : Int) : prodFrom (xs ++ [x]) n = (prodFrom xs n).bind (fun m => prodFrom [x] m) := by
  induction xs generalizing n with
  | nil => simp [prodFrom]
  | cons y r ih =>
    simp only [List.cons_append, prodFrom]
    split
    · exact ih n
    · split
      · simp
      · exact ih _

theorem prodFrom_bd (xs : List Int) (n m : Int) (hx : xs.all inCells = true) (h1 : 1 ≤ n) (h2 : n ≤ 10000) (h : prodFrom xs n = some m) : 1 ≤ m ∧ m ≤ 10000 := by
  induction xs generalizing n with
  | nil => simp [prodFrom] at h; omega
  | cons y r ih =>
    simp only [List.all_cons, Bool.and_eq_true] at hx
    have hy : 0 ≤ y ∧ y ≤ 10000 := by simpa [inCells] using hx.1
    simp only [prodFrom] at h
    split at h
    · exact ih n hx.2 h1 h2 h
    · split at h
      · simp at h
      · rename_i h0 hle
        refine ih (n * y) hx.2 ?_ (by omega) h
        have : 1 * 1 ≤ n * y := Int.mul_le_mul h1 (by omega) (by omega) (by omega)
        omega

theorem prodFrom_none_append (xs ys : List Int) (n : Int) (h : prodFrom xs n = none) : prodFrom (xs ++ ys) n = none := by
  induction xs generalizing n with
  | nil => simp [prodFrom] at h
  | cons y r ih =>
    simp only [List.cons_append, prodFrom] at h ⊢
    split at h
    · rename_i h0; rw [if_pos h0]; exact ih n h
    · rename_i h0; rw [if_neg h0]
      split at h
      · rename_i h1; rw [if_pos h1]
      · rename_i h1; rw [if_neg h1]; exact ih _ h

theorem take_snoc (xs : List Int) (k : Nat) (h : k < xs.length) : xs.take (k + 1) = xs.take k ++ [xs.getD k 0] := by
  rw [List.take_succ_eq_append_getElem h]; simp [h]

theorem all_step (xs : List Int) (p : Int → Bool) (k : Nat) (h : k < xs.length) (ha : (xs.take k).all p = true) (hp : p (xs.getD k 0) = true) : (xs.take (k + 1)).all p = true := by
  rw [take_snoc xs k h, List.all_append, ha]; simpa using hp

theorem all_not (xs : List Int) (p : Int → Bool) (k : Nat) (h : k < xs.length) (hp : p (xs.getD k 0) = false) : xs.all p = false := by
  rw [← Bool.not_eq_true, List.all_eq_true]
  intro hh
  have := hh (xs.getD k 0) (by simp [h])
  rw [hp] at this
  exact absurd this (by simp)

theorem zero_step (xs : List Int) (k : Nat) (h : k < xs.length) : decide (0 ∈ xs.take (k + 1)) = (decide (0 ∈ xs.take k) || decide (xs.getD k 0 = 0)) := by
  rw [take_snoc xs k h]
  generalize xs.take k = t
  generalize xs.getD k 0 = y
  by_cases h1 : 0 ∈ t <;> by_cases h2 : y = 0 <;> simp [h1, h2]
  exact fun e => h2 e.symm

theorem prod_step0 (xs : List Int) (k : Nat) (h : k < xs.length) (n : Int) (hp : prodFrom (xs.take k) 1 = some n) (h0 : xs.getD k 0 = 0) : prodFrom (xs.take (k + 1)) 1 = some n := by
  rw [take_snoc xs k h, prodFrom_snoc, hp, h0]; simp [prodFrom]

theorem prod_step (xs : List Int) (k : Nat) (h : k < xs.length) (n : Int) (hp : prodFrom (xs.take k) 1 = some n) (h0 : xs.getD k 0 ≠ 0) (hl : n * xs.getD k 0 ≤ 10000) : prodFrom (xs.take (k + 1)) 1 = some (n * xs.getD k 0) := by
  rw [take_snoc xs k h, prodFrom_snoc, hp]; simp only [Option.bind_some, prodFrom, if_neg h0]; rw [if_neg (by omega)]

theorem prod_none (xs : List Int) (k : Nat) (h : k < xs.length) (n : Int) (hp : prodFrom (xs.take k) 1 = some n) (h0 : xs.getD k 0 ≠ 0) (hl : 10000 < n * xs.getD k 0) : prodFrom xs 1 = none := by
  have : prodFrom (xs.take (k + 1)) 1 = none := by
    rw [take_snoc xs k h, prodFrom_snoc, hp]; simp only [Option.bind_some, prodFrom, if_neg h0]; rw [if_pos hl]
  rw [← List.take_append_drop (k + 1) xs]
  exact prodFrom_none_append _ _ _ this

theorem count_bad (sh : List Int) (h : sh.all inCells = false) : countOf sh = -1 := by simp [countOf, h]
theorem count_big (sh : List Int) (h : prodFrom sh 1 = none) : countOf sh = -1 := by unfold countOf; rw [h]; split <;> rfl
theorem count_zero (sh : List Int) (n : Int) (ha : sh.all inCells = true) (h : prodFrom sh 1 = some n) (h0 : decide (0 ∈ sh) = true) : countOf sh = 0 := by
  unfold countOf; rw [h, if_pos ha]; simp only []; rw [if_pos (of_decide_eq_true h0)]
theorem count_n (sh : List Int) (n : Int) (ha : sh.all inCells = true) (h : prodFrom sh 1 = some n) (h0 : decide (0 ∈ sh) = false) : countOf sh = n := by
  unfold countOf; rw [h, if_pos ha]; simp only []; rw [if_neg (of_decide_eq_false h0)]

theorem count_bd (sh : List Int) : -1 ≤ countOf sh ∧ countOf sh ≤ 10000 := by
  unfold countOf
  split
  · rename_i ha
    split
    · omega
    · rename_i n hn
      have := prodFrom_bd sh 1 n ha (by omega) (by omega) hn
      split <;> omega
  · omega

end Go.Proofs.YtkgcmpmgaghdhaaGreatDoor
namespace Go.Proofs.YtkgcmpmgaghdhaaGreatDoor

def inM (v : Int) : Bool := decide (-1000000000000000 ≤ v ∧ v ≤ 1000000000000000)

def truth (b : Bool) : Int := if b then 1 else 0
theorem truth_bd (b : Bool) : 0 ≤ truth b ∧ truth b ≤ 1 := by cases b <;> simp [truth]

def timesOf (a b : Int) : Int × Bool := if inM (a * b) = true then (a * b, true) else (0, false)
def powOf (a b : Int) : Int × Bool := if inM (a ^ b.toNat) = true then (a ^ b.toNat, true) else (0, false)
def modOf (a b : Int) : Int := if a = 0 then b else if b.tmod a ≠ 0 ∧ decide (b.tmod a < 0) ≠ decide (a < 0) then b.tmod a + a else b.tmod a
def orderOf (op a b : Int) : Int :=
  if op = 5 then (if a < b then a else b) else if op = 6 then (if a < b then b else a)
  else if op = 9 then truth (decide (a = b)) else if op = 10 then truth (decide (a ≠ b))
  else if op = 11 then truth (decide (a < b)) else if op = 13 then truth (decide (b ≤ a)) else if op = 12 then truth (decide (a ≤ b)) else truth (decide (b < a))

def limited (r : Int × Bool) : Int × Int := if r.2 = true ∧ inM r.1 = true then (r.1, 0) else (0, 7)

/-- A scalar function on two numbers: what it gives and its code. -/
def twoOf (op a b : Int) : Int × Int :=
  if op = 1 then limited (a + b, true) else if op = 2 then limited (a - b, true) else if op = 3 then limited (timesOf a b)
  else if op = 4 then (if a = 0 ∧ b = 0 then (1, 0) else if b = 0 ∨ a.tmod b ≠ 0 then (0, 3) else limited (a.tdiv b, true))
  else if op = 7 then limited (modOf a b, true)
  else if op = 8 then (if b < 0 then (0, 3) else limited (powOf a b))
  else if op = 15 ∨ op = 16 then (if (a ≠ 0 ∧ a ≠ 1) ∨ (b ≠ 0 ∧ b ≠ 1) then (0, 3) else limited (truth (decide (truth (decide (op = 15)) < a + b)), true))
  else limited (orderOf op a b, true)

theorem tdiv_lt {x y : Int} (hy : 0 < y) : (1000000000000000 : Int).tdiv y < x ↔ 1000000000000000 < x * y := by
  rw [Int.tdiv_eq_ediv_of_nonneg (by omega)]
  constructor
  · intro h
    by_cases h' : 1000000000000000 < x * y
    · exact h'
    · exact absurd (Int.le_ediv_of_mul_le hy (by omega : x * y ≤ 1000000000000000)) (by omega)
  · intro h
    by_cases h' : (1000000000000000 : Int) / y < x
    · exact h'
    · have := Int.mul_le_of_le_ediv hy (by omega : x ≤ (1000000000000000 : Int) / y)
      omega

theorem times_big {a b : Int} (h : inM (a * b) = false) : timesOf a b = (0, false) := by simp [timesOf, h]
theorem times_ok {a b : Int} (h : inM (a * b) = true) : timesOf a b = (a * b, true) := by simp [timesOf, h]
theorem inM_of {v : Int} (h1 : -1000000000000000 ≤ v) (h2 : v ≤ 1000000000000000) : inM v = true := decide_eq_true ⟨h1, h2⟩
theorem inM_not {v : Int} (h : v < -1000000000000000 ∨ 1000000000000000 < v) : inM v = false := decide_eq_false (by omega)
theorem inM_bd {v : Int} (h : inM v = true) : -1000000000000000 ≤ v ∧ v ≤ 1000000000000000 := of_decide_eq_true h

theorem abs_ge_two {a : Int} (h0 : a ≠ 0) (h1 : a ≠ 1) (hm : a ≠ -1) : 2 ≤ a.natAbs := by omega

/-- Beyond the bound a power of a number of two or more stays there. -/
theorem pow_step_big {a : Int} (ha : 2 ≤ a.natAbs) (k n : Nat) (hk : k ≤ n) (h : inM (a ^ k) = false) : inM (a ^ n) = false := by
  have hb : ∀ v : Int, inM v = false ↔ 1000000000000000 < v.natAbs := by
    intro v; simp only [inM, decide_eq_false_iff_not]; omega
  rw [hb] at h ⊢
  rw [Int.natAbs_pow] at h ⊢
  exact Nat.lt_of_lt_of_le h (Nat.pow_le_pow_right (by omega) hk)

theorem pow_bound {a : Int} (ha : 2 ≤ a.natAbs) (k : Nat) (h : inM (a ^ k) = true) : k < 50 := by
  have hb := inM_bd h
  have h1 : (a ^ k).natAbs ≤ 1000000000000000 := by omega
  rw [Int.natAbs_pow] at h1
  rcases Nat.lt_or_ge k 50 with h' | h'
  · exact h'
  · have : 2 ^ 50 ≤ a.natAbs ^ k := Nat.le_trans (Nat.pow_le_pow_right (by omega) h') (Nat.pow_le_pow_left ha k)
    have e : (2 : Nat) ^ 50 = 1125899906842624 := by decide
    omega

end Go.Proofs.YtkgcmpmgaghdhaaGreatDoor
namespace Go.Proofs.YtkgcmpmgaghdhaaGreatDoor

/-- An array and a code, as a function of the document answers them. -/
structure Ans where
  c : Bool
  sh : List Int
  dt : List Int
  code : Int

end Go.Proofs.YtkgcmpmgaghdhaaGreatDoor
namespace Go.Proofs.YtkgcmpmgaghdhaaGreatDoor

/-- The first code other than 0 among the first n; 0 if there is none. -/
def firstCode (f : Nat → Int × Int) : Nat → Int
  | 0 => 0
  | n + 1 => if firstCode f n = 0 then (f n).2 else firstCode f n

def vals (f : Nat → Int × Int) (n : Nat) : List Int := (List.range n).map fun i => (f i).1

theorem vals_len (f : Nat → Int × Int) (n : Nat) : (vals f n).length = n := by simp [vals]

theorem vals_snoc (f : Nat → Int × Int) (n : Nat) : (vals f (n + 1)).map (Value.int .i64) = (vals f n).map (Value.int .i64) ++ [.int .i64 (f n).1] := by
  simp [vals, List.range_succ]

theorem code_step {f : Nat → Int × Int} {n : Nat} (h : firstCode f n = 0) (h2 : (f n).2 = 0) : firstCode f (n + 1) = 0 := by
  simp [firstCode, h, h2]

theorem code_stays {f : Nat → Int × Int} {n m : Nat} (h : firstCode f n ≠ 0) (hm : n ≤ m) : firstCode f m = firstCode f n := by
  induction m with
  | zero => have : n = 0 := by omega
            subst this; rfl
  | succ m ih =>
    rcases Nat.lt_or_ge n (m + 1) with h' | h'
    · have := ih (by omega)
      simp only [firstCode]
      rw [this, if_neg h]
    · have : n = m + 1 := by omega
      subst this; rfl

theorem code_found {f : Nat → Int × Int} {k n : Nat} (h : firstCode f k = 0) (hk : k < n) (h2 : (f k).2 ≠ 0) : firstCode f n = (f k).2 := by
  have e : firstCode f (k + 1) = (f k).2 := by simp [firstCode, h]
  rw [code_stays (n := k + 1) (by rw [e]; exact h2) (by omega), e]

def noAns (code : Int) : Ans := ⟨false, [], [], code⟩

/-- n elements, or the first code. -/
def gatherAns (c : Bool) (sh : List Int) (f : Nat → Int × Int) (n : Nat) : Ans := if firstCode f n = 0 then ⟨c, sh, vals f n, 0⟩ else noAns (firstCode f n)

theorem gather_good {c : Bool} {sh : List Int} {f : Nat → Int × Int} {n : Nat} (h : firstCode f n = 0) : gatherAns c sh f n = ⟨c, sh, vals f n, 0⟩ := by simp [gatherAns, h]
theorem gather_bad {c : Bool} {sh : List Int} {f : Nat → Int × Int} {k n : Nat} (h : firstCode f k = 0) (hk : k < n) (h2 : (f k).2 ≠ 0) : gatherAns c sh f n = noAns (f k).2 := by
  have e := code_found h hk h2
  unfold gatherAns; rw [if_neg (by rw [e]; exact h2), e]

/-- A scalar function on elements of arrays that may be Char. -/
def elemOf (op : Int) (c : Bool) (dt : List Int) (i : Nat) (d : Bool) (dt' : List Int) (j : Nat) : Int × Int :=
  if c ≠ d then (truth (decide (op = 10)), 0) else twoOf op (dt.getD i 0) (dt'.getD j 0)

def opIn (op : Int) : Bool := decide (1 ≤ op ∧ op ≤ 16)
def opEq (op : Int) : Bool := decide (op = 9 ∨ op = 10)

def wideB (n1 n2 m1 m2 : Nat) : Bool := decide (n2 = 1) && (decide (m2 ≠ 1) || decide (n1 < m1))

def scalar2 (op : Int) (c d : Bool) (sh dt sh' dt' : List Int) : Ans :=
  if arrOk c sh dt = true ∧ arrOk d sh' dt' = true ∧ opIn op = true then
    let wide := wideB sh.length dt.length sh'.length dt'.length
    let tall := decide (dt'.length = 1) && !wide
    if (!wide && !tall) = true ∧ sh.length ≠ sh'.length then noAns 4
    else if (!wide && !tall) = true ∧ sh ≠ sh' then noAns 5
    else if (c || d) = true ∧ opEq op = false then noAns 3
    else gatherAns false (if wide then sh' else sh) (fun i => elemOf op c dt (i % dt.length) d dt' (i % dt'.length)) (countOf (if wide then sh' else sh)).toNat
  else noAns 3

end Go.Proofs.YtkgcmpmgaghdhaaGreatDoor
namespace Go.Proofs.YtkgcmpmgaghdhaaGreatDoor

/-- The first place of an element, the number of elements when it is not there. -/
def firstOf (c : Bool) (dt : List Int) (v : Int) (ch : Bool) : Nat := if c = ch then dt.findIdx (fun x => decide (x = v)) else dt.length

theorem first_here {dt : List Int} {v : Int} {k : Nat} (h : ∀ j, j < k → dt.getD j 0 ≠ v) (hk : k < dt.length) (he : dt.getD k 0 = v) : dt.findIdx (fun x => decide (x = v)) = k := by
  rw [List.findIdx_eq hk]
  have hg : dt[k] = dt.getD k 0 := by simp [List.getD, hk]
  refine ⟨by rw [hg]; simpa using he, fun j hj => ?_⟩
  have hj' : dt[j]'(by omega) = dt.getD j 0 := by simp [List.getD, Nat.lt_trans hj hk]
  rw [hj']
  simpa using h j hj

theorem first_none {dt : List Int} {v : Int} (h : ∀ j, j < dt.length → dt.getD j 0 ≠ v) : dt.findIdx (fun x => decide (x = v)) = dt.length := by
  rw [List.findIdx_eq_length]
  intro x hx
  obtain ⟨j, hj, rfl⟩ := List.getElem_of_mem hx
  have hj' : dt[j] = dt.getD j 0 := by simp [List.getD, hj]
  rw [hj']
  simpa using h j hj

theorem first_le (c : Bool) (dt : List Int) (v : Int) (ch : Bool) : firstOf c dt v ch ≤ dt.length := by
  unfold firstOf; split
  · exact List.findIdx_le_length
  · exact Nat.le_refl _

def find (c d : Bool) (sh dt sh' dt' : List Int) : Ans :=
  if arrOk c sh dt = true ∧ arrOk d sh' dt' = true then
    if sh.length ≠ 1 then noAns 4 else gatherAns false sh' (fun k => ((firstOf c dt (dt'.getD k 0) d : Int) + 1, 0)) dt'.length
  else noAns 3

def member (c d : Bool) (sh dt sh' dt' : List Int) : Ans :=
  if arrOk c sh dt = true ∧ arrOk d sh' dt' = true then gatherAns false sh (fun k => (truth (decide (firstOf d dt' (dt.getD k 0) c < dt'.length)), 0)) dt.length
  else noAns 3

end Go.Proofs.YtkgcmpmgaghdhaaGreatDoor
namespace Go.Proofs.YtkgcmpmgaghdhaaGreatDoor

def shapeB (sh : List Int) : Bool := decide (sh.length ≤ 5) && decide (0 ≤ countOf sh)

theorem shape_long {sh : List Int} {n : Nat} (hl : sh.length = n) (h : 5 < n) : shapeB sh = false := by unfold shapeB; rw [decide_eq_false (by omega)]; rfl
theorem shape_bad {sh : List Int} (h : countOf sh = -1) : shapeB sh = false := by unfold shapeB; rw [h]; simp
theorem shape_good {sh : List Int} {n : Nat} (hl : sh.length = n) (h : n ≤ 5) (m : Int) (ha : sh.all inCells = true) (hp : prodFrom sh 1 = some m) : shapeB sh = true := by
  have hb := prodFrom_bd sh 1 m ha (by omega) (by omega) hp
  unfold shapeB; rw [decide_eq_true (by omega)]
  by_cases h0 : decide (0 ∈ sh) = true
  · rw [count_zero sh m ha hp h0]; rfl
  · rw [count_n sh m ha hp (by simpa using h0), decide_eq_true (by omega)]; rfl

/-- The product of all numbers of a shape. -/
def prodAll (sh : List Int) : Int := sh.foldl (· * ·) 1

theorem prodAll_snoc (sh : List Int) (k : Nat) (h : k < sh.length) : prodAll (sh.take (k + 1)) = prodAll (sh.take k) * sh.getD k 0 := by
  rw [take_snoc sh k h]; simp [prodAll]

theorem prodAll_of (sh : List Int) (n m : Int) (h : prodFrom sh n = some m) : sh.foldl (· * ·) n = if 0 ∈ sh then 0 else m := by
  induction sh generalizing n with
  | nil => simp [prodFrom] at h; simp [h]
  | cons x r ih =>
    simp only [prodFrom] at h
    by_cases h0 : x = 0
    · subst h0
      have hz : ∀ (l : List Int), l.foldl (· * ·) 0 = 0 := by intro l; induction l with
        | nil => rfl
        | cons y s ih => simpa using ih
      simp [hz]
    · rw [if_neg h0] at h
      split at h
      · simp at h
      · rw [List.foldl_cons, ih _ h]
        have : (0 ∈ x :: r) ↔ 0 ∈ r := by simp; intro e; exact absurd e.symm h0
        simp only [this]

theorem prodAll_count (sh : List Int) (h : shapeB sh = true) : prodAll sh = countOf sh := by
  unfold shapeB at h
  simp only [Bool.and_eq_true, decide_eq_true_eq] at h
  have h2 := h.2
  unfold countOf at h2 ⊢
  split at h2
  · rename_i ha
    rw [if_pos ha]
    split at h2
    · omega
    · rename_i m hm
      exact prodAll_of sh 1 m hm
  · omega

theorem prodAll_bd (sh : List Int) (h : shapeB sh = true) (k : Nat) : 0 ≤ prodAll (sh.take k) ∧ prodAll (sh.take k) ≤ 10000 := by
  unfold shapeB at h
  simp only [Bool.and_eq_true, decide_eq_true_eq] at h
  have h2 := h.2
  unfold countOf at h2
  split at h2
  · rename_i ha
    split at h2
    · omega
    · rename_i m hm
      have hat : (sh.take k).all inCells = true := by rw [List.all_eq_true]; exact fun x hx => List.all_eq_true.1 ha x (List.mem_of_mem_take hx)
      cases hpt : prodFrom (sh.take k) 1 with
      | none =>
        have := prodFrom_none_append (sh.take k) (sh.drop k) 1 hpt
        rw [List.take_append_drop] at this
        rw [this] at hm; simp at hm
      | some m' =>
        have hb := prodFrom_bd _ 1 m' hat (by omega) (by omega) hpt
        unfold prodAll
        rw [prodAll_of _ 1 m' hpt]
        split <;> omega
  · omega

/-- Numbers that a valid array may have in its shape, but for how many they are. -/
def ShapeIn (sh : List Int) : Prop := sh.all inCells = true ∧ ∃ m, prodFrom sh 1 = some m

theorem prodFrom_less (ys : List Int) (n m k : Int) (hy : ys.all inCells = true) (hk : 1 ≤ k) (hkn : k ≤ n) (h : prodFrom ys n = some m) : ∃ m', prodFrom ys k = some m' := by
  induction ys generalizing n k with
  | nil => exact ⟨k, rfl⟩
  | cons y r ih =>
    simp only [List.all_cons, Bool.and_eq_true] at hy
    have hyb : 0 ≤ y ∧ y ≤ 10000 := by simpa [inCells] using hy.1
    simp only [prodFrom] at h ⊢
    by_cases h0 : y = 0
    · rw [if_pos h0] at h ⊢; exact ih n k hy.2 hk hkn h
    · rw [if_neg h0] at h ⊢
      split at h
      · simp at h
      · rename_i hle
        have h1 : k * y ≤ n * y := Int.mul_le_mul_of_nonneg_right hkn (by omega)
        have h2 : 1 * 1 ≤ k * y := Int.mul_le_mul hk (by omega) (by omega) (by omega)
        rw [if_neg (by omega)]
        exact ih (n * y) (k * y) hy.2 (by omega) h1 h

theorem ShapeIn.take {sh : List Int} (h : ShapeIn sh) (k : Nat) : ShapeIn (sh.take k) := by
  obtain ⟨ha, m, hm⟩ := h
  refine ⟨by rw [List.all_eq_true]; exact fun x hx => List.all_eq_true.1 ha x (List.mem_of_mem_take hx), ?_⟩
  cases hpt : prodFrom (sh.take k) 1 with
  | none =>
    have := prodFrom_none_append (sh.take k) (sh.drop k) 1 hpt
    rw [List.take_append_drop] at this
    rw [this] at hm; simp at hm
  | some m' => exact ⟨m', rfl⟩

theorem prodFrom_append (xs ys : List Int) (n : Int) : prodFrom (xs ++ ys) n = (prodFrom xs n).bind (prodFrom ys) := by
  induction xs generalizing n with
  | nil => simp [prodFrom]
  | cons y r ih =>
    simp only [List.cons_append, prodFrom]
    split
    · exact ih n
    · split
      · simp
      · exact ih _

theorem ShapeIn.drop {sh : List Int} (h : ShapeIn sh) (k : Nat) : ShapeIn (sh.drop k) := by
  have ht := h.take k
  obtain ⟨ha, m, hm⟩ := h
  have hd : (sh.drop k).all inCells = true := by rw [List.all_eq_true]; exact fun x hx => List.all_eq_true.1 ha x (List.mem_of_mem_drop hx)
  refine ⟨hd, ?_⟩
  obtain ⟨hta, p, hp⟩ := ht
  have hb := prodFrom_bd _ 1 p hta (by omega) (by omega) hp
  rw [← List.take_append_drop k sh, prodFrom_append, hp, Option.bind_some] at hm
  exact prodFrom_less _ p m 1 hd (by omega) hb.1 hm

theorem ShapeIn.bd {sh : List Int} (h : ShapeIn sh) : 0 ≤ prodAll sh ∧ prodAll sh ≤ 10000 := by
  obtain ⟨ha, m, hm⟩ := h
  have hb := prodFrom_bd sh 1 m ha (by omega) (by omega) hm
  unfold prodAll
  rw [prodAll_of sh 1 m hm]
  split <;> omega

theorem ShapeIn.cell {sh : List Int} (h : ShapeIn sh) (k : Nat) : 0 ≤ sh.getD k 0 ∧ sh.getD k 0 ≤ 10000 := by
  by_cases hk : k < sh.length
  · have := List.all_eq_true.1 h.1 (sh.getD k 0) (by simp [hk])
    simpa [inCells] using this
  · have e : sh.getD k 0 = 0 := by simp [List.getD, List.getElem?_eq_none (by omega : sh.length ≤ k)]
    rw [e]; omega

theorem shapeIn_of {c : Bool} {sh dt : List Int} (h : arrOk c sh dt = true) : ShapeIn sh ∧ prodAll sh = dt.length ∧ sh.length ≤ 5 := by
  unfold arrOk at h
  simp only [Bool.and_eq_true, decide_eq_true_eq] at h
  obtain ⟨h5, hc, _⟩ := h
  have hs : shapeB sh = true := by unfold shapeB; rw [decide_eq_true h5, decide_eq_true (by omega)]; rfl
  refine ⟨?_, by rw [prodAll_count sh hs, hc], h5⟩
  unfold countOf at hc
  split at hc
  · rename_i ha
    split at hc
    · omega
    · rename_i m hm; exact ⟨ha, m, hm⟩
  · omega

theorem prodAll_append (xs ys : List Int) : prodAll (xs ++ ys) = prodAll xs * prodAll ys := by
  have key : ∀ (ys : List Int) (n : Int), ys.foldl (· * ·) n = n * ys.foldl (· * ·) 1 := by
    intro ys
    induction ys with
    | nil => intro n; simp
    | cons y r ih => intro n; rw [List.foldl_cons, List.foldl_cons, ih (n * y), ih (1 * y), Int.one_mul, Int.mul_assoc]
  unfold prodAll
  rw [List.foldl_append, key]

end Go.Proofs.YtkgcmpmgaghdhaaGreatDoor
namespace Go.Proofs.YtkgcmpmgaghdhaaGreatDoor

/-- The place of the last axis, or of the first. -/
def axisAt (sh : List Int) (first : Bool) : Nat := if first then 0 else sh.length - 1
def axisB (sh : List Int) (first : Bool) : Int := prodAll (sh.take (axisAt sh first))
def axisN (sh : List Int) (first : Bool) : Int := sh.getD (axisAt sh first) 0
def axisA (sh : List Int) (first : Bool) : Int := prodAll (sh.drop (axisAt sh first + 1))
def without (sh : List Int) (first : Bool) : List Int := if first then sh.drop 1 else sh.take (sh.length - 1)

theorem axis_all (sh : List Int) (first : Bool) (h : sh ≠ []) : axisB sh first * axisN sh first * axisA sh first = prodAll sh := by
  have hl : 0 < sh.length := List.length_pos_iff.mpr h
  have hat : axisAt sh first < sh.length := by unfold axisAt; split <;> omega
  have e : sh = sh.take (axisAt sh first) ++ ([sh.getD (axisAt sh first) 0] ++ sh.drop (axisAt sh first + 1)) := by
    have h1 := List.take_append_drop (axisAt sh first + 1) sh
    rw [take_snoc sh _ hat, List.append_assoc] at h1
    exact h1.symm
  have e1 : prodAll [sh.getD (axisAt sh first) 0] = sh.getD (axisAt sh first) 0 := by simp [prodAll]
  have e2 := congrArg prodAll e
  rw [prodAll_append, prodAll_append, e1, ← Int.mul_assoc] at e2
  exact e2.symm

/-- What folding nothing gives. -/
def emptyOf (op : Int) : Int := [0, 0, 0, 1, 1, 1000000000000000, -1000000000000000, 0, 1, 1, 0, 0, 1, 1, 0, 1, 0].getD op.toNat 0

/-- Numbers folded from the right, and the code. -/
def foldR (op : Int) : List Int → Int × Int
  | [] => (emptyOf op, 0)
  | [x] => (x, 0)
  | x :: y :: r => if (foldR op (y :: r)).2 ≠ 0 then (0, (foldR op (y :: r)).2) else twoOf op x (foldR op (y :: r)).1

theorem foldR_cons {op x : Int} {r : List Int} (h : r ≠ []) : foldR op (x :: r) = if (foldR op r).2 ≠ 0 then (0, (foldR op r).2) else twoOf op x (foldR op r).1 := by
  cases r with
  | nil => exact absurd rfl h
  | cons y s => rfl

theorem foldR_code {op : Int} (xs : List Int) {r : List Int} {c : Int} (hr : r ≠ []) (h : foldR op r = (0, c)) (hc : c ≠ 0) : foldR op (xs ++ r) = (0, c) := by
  induction xs with
  | nil => exact h
  | cons x s ih =>
    rw [List.cons_append, foldR_cons (by simp [hr]), ih]
    simp [hc]

theorem two_code {op a b : Int} (h : (twoOf op a b).2 ≠ 0) : (twoOf op a b).1 = 0 := by
  unfold twoOf limited at h ⊢
  repeat' split
  all_goals simp_all

theorem two_bd (op a b : Int) : -1000000000000000 ≤ (twoOf op a b).1 ∧ (twoOf op a b).1 ≤ 1000000000000000 := by
  have hl : ∀ r : Int × Bool, -1000000000000000 ≤ (limited r).1 ∧ (limited r).1 ≤ 1000000000000000 := by
    intro r; unfold limited; split
    · rename_i h; exact inM_bd h.2
    · simp
  unfold twoOf
  repeat' split
  all_goals first | exact hl _ | simp

/-- The numbers along an axis. -/
def lineOf (dt : List Int) (p n after q : Nat) : List Int := (List.range n).map fun i => dt.getD ((p * n + i) * after + q) 0

theorem line_len (dt : List Int) (p n after q : Nat) : (lineOf dt p n after q).length = n := by simp [lineOf]
theorem line_get (dt : List Int) (p n after q i : Nat) (h : i < n) : (lineOf dt p n after q).getD i 0 = dt.getD ((p * n + i) * after + q) 0 := by simp [lineOf, h]
theorem line_snoc (dt : List Int) (p n after q k : Nat) (h : k < n) : ((lineOf dt p n after q).take (k + 1)).map (Value.int .i64) = ((lineOf dt p n after q).take k).map (Value.int .i64) ++ [.int .i64 (dt.getD ((p * n + k) * after + q) 0)] := by
  rw [take_snoc _ _ (by rw [line_len]; exact h), line_get _ _ _ _ _ _ h]; simp

theorem line_in {B n A p q i L : Nat} (hL : B * n * A = L) (hp : p < B) (hq : q < A) (hi : i < n) : (p * n + i) * A + q < L := by
  have h1 : p * n + i < B * n := by
    have : (p + 1) * n ≤ B * n := Nat.mul_le_mul_right n hp
    rw [Nat.add_mul] at this; omega
  have h2 : (p * n + i + 1) * A ≤ B * n * A := Nat.mul_le_mul_right A h1
  rw [Nat.add_mul] at h2; omega

def fold (op : Int) (c : Bool) (sh dt : List Int) (first : Bool) : Ans :=
  if arrOk c sh dt = true ∧ opIn op = true then
    if sh = [] then ⟨c, [], dt, 0⟩
    else if c = true ∧ axisN sh first ≠ 1 then noAns 3
    else gatherAns c (without sh first) (fun k => foldR op (lineOf dt (k / (axisA sh first).toNat) (axisN sh first).toNat (axisA sh first).toNat (k % (axisA sh first).toNat))) ((axisB sh first).toNat * (axisA sh first).toNat)
  else noAns 3

def scan (op : Int) (c : Bool) (sh dt : List Int) (first : Bool) : Ans :=
  if arrOk c sh dt = true ∧ opIn op = true then
    if sh = [] then ⟨c, [], dt, 0⟩
    else if c = true ∧ 1 < axisN sh first then noAns 3
    else gatherAns c sh (fun k => foldR op ((lineOf dt (k / (axisA sh first).toNat / (axisN sh first).toNat) (axisN sh first).toNat (axisA sh first).toNat (k % (axisA sh first).toNat)).take (k / (axisA sh first).toNat % (axisN sh first).toNat + 1))) ((axisB sh first).toNat * (axisN sh first).toNat * (axisA sh first).toNat)
  else noAns 3

end Go.Proofs.YtkgcmpmgaghdhaaGreatDoor
namespace Go.Proofs.YtkgcmpmgaghdhaaGreatDoor

/-- The place of an index, by its first k numbers. -/
def placeN (sh ix : List Int) : Nat → Int
  | 0 => 0
  | k + 1 => placeN sh ix k * sh.getD k 0 + ix.getD k 0

def place (sh ix : List Int) : Int := placeN sh ix sh.length

/-- Each number of an index is below its axis. -/
def IxIn (sh ix : List Int) : Prop := ∀ k, k < sh.length → 0 ≤ ix.getD k 0 ∧ ix.getD k 0 < sh.getD k 0

theorem placeN_bd {sh ix : List Int} (hi : IxIn sh ix) (k : Nat) (hk : k ≤ sh.length) : 0 ≤ placeN sh ix k ∧ placeN sh ix k < prodAll (sh.take k) := by
  induction k with
  | zero => simp [placeN, prodAll]
  | succ k ih =>
    obtain ⟨h1, h2⟩ := ih (by omega)
    obtain ⟨h3, h4⟩ := hi k (by omega)
    rw [prodAll_snoc sh k (by omega)]
    show 0 ≤ placeN sh ix k * sh.getD k 0 + ix.getD k 0 ∧ placeN sh ix k * sh.getD k 0 + ix.getD k 0 < _
    have h5 : 0 ≤ placeN sh ix k * sh.getD k 0 := Int.mul_nonneg h1 (by omega)
    have h6 : (placeN sh ix k + 1) * sh.getD k 0 ≤ prodAll (sh.take k) * sh.getD k 0 := Int.mul_le_mul_of_nonneg_right (by omega) (by omega)
    rw [Int.add_mul, Int.one_mul] at h6
    omega

theorem place_bd {sh ix : List Int} (hi : IxIn sh ix) : 0 ≤ place sh ix ∧ place sh ix < prodAll sh := by
  have := placeN_bd hi sh.length (Nat.le_refl _)
  rwa [List.take_length] at this

/-- What is left of a place behind j axes, going from the last. -/
def restN (sh : List Int) (p : Int) : Nat → Int
  | 0 => p
  | j + 1 => restN sh p j / sh.getD (sh.length - 1 - j) 0

def digit (sh : List Int) (p : Int) (i : Nat) : Int := restN sh p (sh.length - 1 - i) % sh.getD i 0

/-- The index of a place. -/
def digits (sh : List Int) (p : Int) : List Int := (List.range sh.length).map (digit sh p)

theorem digits_len (sh : List Int) (p : Int) : (digits sh p).length = sh.length := by simp [digits]

theorem digits_get (sh : List Int) (p : Int) (k : Nat) (hk : k < sh.length) : (digits sh p).getD k 0 = digit sh p k := by simp [digits, hk]

/-- No axis of length 0. -/
def Full (sh : List Int) : Prop := ∀ k, k < sh.length → 0 < sh.getD k 0

theorem restN_nn {sh : List Int} (hf : Full sh) {p : Int} (hp : 0 ≤ p) (j : Nat) (hj : j ≤ sh.length) : 0 ≤ restN sh p j ∧ restN sh p j ≤ p := by
  induction j with
  | zero => exact ⟨hp, Int.le_refl _⟩
  | succ j ih =>
    obtain ⟨h1, h2⟩ := ih (by omega)
    have hs := hf (sh.length - 1 - j) (by omega)
    show 0 ≤ restN sh p j / sh.getD (sh.length - 1 - j) 0 ∧ restN sh p j / sh.getD (sh.length - 1 - j) 0 ≤ p
    exact ⟨Int.ediv_nonneg h1 (by omega), Int.le_trans (Int.ediv_le_self _ h1) h2⟩

theorem digits_in {sh : List Int} (hf : Full sh) (p : Int) : IxIn sh (digits sh p) := by
  intro k hk
  rw [digits_get sh p k hk]
  have hs := hf k hk
  exact ⟨Int.emod_nonneg _ (by omega), Int.emod_lt_of_pos _ hs⟩

theorem restN_lt {sh : List Int} (hf : Full sh) {p : Int} (hl : p < prodAll sh) (j : Nat) (hj : j ≤ sh.length) : restN sh p j < prodAll (sh.take (sh.length - j)) := by
  induction j with
  | zero => simpa [restN] using hl
  | succ j ih =>
    have h1 := ih (by omega)
    have hs := hf (sh.length - 1 - j) (by omega)
    have e : sh.length - j = sh.length - 1 - j + 1 := by omega
    rw [e, prodAll_snoc sh _ (by omega)] at h1
    have e2 : sh.length - (j + 1) = sh.length - 1 - j := by omega
    rw [e2]
    exact Int.ediv_lt_of_lt_mul hs h1

theorem place_digits_aux {sh : List Int} (hf : Full sh) {p : Int} (hp : 0 ≤ p) (hl : p < prodAll sh) (k : Nat) (hk : k ≤ sh.length) : placeN sh (digits sh p) k = restN sh p (sh.length - k) := by
  induction k with
  | zero =>
    have h1 := (restN_nn hf hp sh.length (Nat.le_refl _)).1
    have h2 := restN_lt hf hl sh.length (Nat.le_refl _)
    simp [prodAll] at h2
    show (0 : Int) = _
    simp
    omega
  | succ k ih =>
    have h1 := ih (by omega)
    show placeN sh (digits sh p) k * sh.getD k 0 + (digits sh p).getD k 0 = _
    rw [h1, digits_get sh p k (by omega)]
    have e : sh.length - k = sh.length - (k + 1) + 1 := by omega
    have e2 : sh.length - 1 - (sh.length - (k + 1)) = k := by omega
    have e3 : sh.length - 1 - k = sh.length - (k + 1) := by omega
    rw [e]
    show restN sh p (sh.length - (k + 1)) / sh.getD (sh.length - 1 - (sh.length - (k + 1))) 0 * sh.getD k 0 + digit sh p k = _
    rw [e2]
    unfold digit
    rw [e3, Int.mul_comm]
    exact Int.mul_ediv_add_emod _ _

/-- The index of a place is the index of that place. -/
theorem place_digits {sh : List Int} (hf : Full sh) {p : Int} (hp : 0 ≤ p) (hl : p < prodAll sh) : place sh (digits sh p) = p := by
  have := place_digits_aux hf hp hl sh.length (Nat.le_refl _)
  simpa [place, restN] using this

theorem full_of {sh : List Int} (h : ShapeIn sh) (hp : 0 < prodAll sh) : Full sh := by
  intro k hk
  have h1 := (h.cell k).1
  by_cases h0 : sh.getD k 0 = 0
  · exfalso
    have e : sh = sh.take k ++ sh.getD k 0 :: sh.drop (k + 1) := by simp [List.getD, hk]
    have hz : prodAll sh = 0 := by
      rw [e, prodAll_append, h0]
      have : prodAll (0 :: sh.drop (k + 1)) = prodAll [0] * prodAll (sh.drop (k + 1)) := by rw [← prodAll_append]; rfl
      rw [this]
      simp [prodAll]
    omega
  · omega

theorem drop_set {D : List Int} {m : Nat} (hm : m < D.length) : (List.replicate (m + 1) (0 : Int) ++ D.drop (m + 1)).set m (D.getD m 0) = List.replicate m 0 ++ D.drop m := by
  have e : D.drop m = D.getD m 0 :: D.drop (m + 1) := by simp [List.getD, hm]
  rw [e, List.replicate_succ', List.append_assoc, List.set_append_right _ _ (by simp)]
  simp

end Go.Proofs.YtkgcmpmgaghdhaaGreatDoor
namespace Go.Proofs.YtkgcmpmgaghdhaaGreatDoor

/-- The code of an array that should be a list of numbers. -/
def listCode (c : Bool) (n : Nat) : Int := if 1 < n then 4 else if c then 3 else 0

def fillOf (c : Bool) : Int := if c then 32 else 0

def reshapeAt (d : Bool) (dt' : List Int) (m2 k : Nat) : Int × Int := (if m2 = 0 then fillOf d else dt'.getD (k % m2) 0, 0)

def nonNeg (v : Int) : Bool := decide (0 ≤ v)

def reshape (c d : Bool) (sh dt sh' dt' : List Int) : Ans :=
  if arrOk c sh dt = true ∧ arrOk d sh' dt' = true then
    if listCode c sh.length ≠ 0 then noAns (listCode c sh.length)
    else if dt.all nonNeg = false then noAns 3
    else if shapeB dt = false then noAns 7
    else gatherAns d dt (reshapeAt d dt' dt'.length) (countOf dt).toNat
  else noAns 3

theorem reshape_bad1 {c d : Bool} {sh dt sh' dt' : List Int} (h : arrOk c sh dt = false) : reshape c d sh dt sh' dt' = noAns 3 := by unfold reshape; rw [if_neg (by simp [h])]
theorem reshape_bad2 {c d : Bool} {sh dt sh' dt' : List Int} (h : arrOk d sh' dt' = false) : reshape c d sh dt sh' dt' = noAns 3 := by unfold reshape; rw [if_neg (by simp [h])]
theorem reshape_list {c d : Bool} {sh dt sh' dt' : List Int} (h1 : arrOk c sh dt = true) (h2 : arrOk d sh' dt' = true) (r : Int) (h : listCode c sh.length = r) (hr : r ≠ 0) : reshape c d sh dt sh' dt' = noAns r := by
  unfold reshape; rw [if_pos ⟨h1, h2⟩, h, if_pos hr]
theorem reshape_neg {c d : Bool} {sh dt sh' dt' : List Int} (h1 : arrOk c sh dt = true) (h2 : arrOk d sh' dt' = true) (h : listCode c sh.length = 0) (h3 : dt.all nonNeg = false) : reshape c d sh dt sh' dt' = noAns 3 := by
  unfold reshape; rw [if_pos ⟨h1, h2⟩, if_neg (by simp [h]), if_pos h3]
theorem reshape_big {c d : Bool} {sh dt sh' dt' : List Int} (h1 : arrOk c sh dt = true) (h2 : arrOk d sh' dt' = true) (h : listCode c sh.length = 0) (h3 : dt.all nonNeg = true) (h4 : shapeB dt = false) : reshape c d sh dt sh' dt' = noAns 7 := by
  unfold reshape; rw [if_pos ⟨h1, h2⟩, if_neg (by simp [h]), if_neg (by simp [h3]), if_pos h4]
theorem reshape_go {c d : Bool} {sh dt sh' dt' : List Int} (h1 : arrOk c sh dt = true) (h2 : arrOk d sh' dt' = true) (h : listCode c sh.length = 0) (h3 : dt.all nonNeg = true) (h4 : shapeB dt = true) (m2 N : Nat) (l4 : dt'.length = m2) (hN : countOf dt = N) : reshape c d sh dt sh' dt' = gatherAns d dt (reshapeAt d dt' m2) N := by
  unfold reshape; rw [if_pos ⟨h1, h2⟩, if_neg (by simp [h]), if_neg (by simp [h3]), if_neg (by simp [h4]), l4, hN]; rfl

theorem shapeB_count {sh : List Int} (h : shapeB sh = true) : 0 ≤ countOf sh ∧ countOf sh ≤ 10000 := by
  unfold shapeB at h
  simp only [Bool.and_eq_true, decide_eq_true_eq] at h
  exact ⟨h.2, (count_bd sh).2⟩

end Go.Proofs.YtkgcmpmgaghdhaaGreatDoor
namespace Go.Proofs.YtkgcmpmgaghdhaaGreatDoor

/-- An index moved by a start. -/
def addIx (ix st : List Int) : List Int := (List.range ix.length).map fun i => ix.getD i 0 + st.getD i 0

theorem addIx_len (ix st : List Int) : (addIx ix st).length = ix.length := by simp [addIx]
theorem addIx_get (ix st : List Int) (k : Nat) (hk : k < ix.length) : (addIx ix st).getD k 0 = ix.getD k 0 + st.getD k 0 := by simp [addIx, hk]

/-- The first k numbers of an index lie within their axes. -/
def insideN (sh ix : List Int) : Nat → Bool
  | 0 => true
  | k + 1 => insideN sh ix k && (decide (0 ≤ ix.getD k 0) && decide (ix.getD k 0 < sh.getD k 0))

theorem inside_each {sh ix : List Int} {n : Nat} (h : insideN sh ix n = true) (k : Nat) (hk : k < n) : 0 ≤ ix.getD k 0 ∧ ix.getD k 0 < sh.getD k 0 := by
  induction n with
  | zero => omega
  | succ n ih =>
    simp only [insideN, Bool.and_eq_true, decide_eq_true_eq] at h
    by_cases e : k = n
    · subst e; exact h.2
    · exact ih h.1 (by omega)

theorem inside_in {sh ix : List Int} (h : insideN sh ix sh.length = true) : IxIn sh ix := fun k hk => inside_each h k hk

/-- What stands at place k of a window. -/
def windowAt (c : Bool) (sh dt st zs : List Int) (k : Nat) : Int × Int :=
  if insideN sh (addIx (digits zs k) st) sh.length = true then (dt.getD (place sh (addIx (digits zs k) st)).toNat 0, 0) else (fillOf c, 0)

theorem window_code (c : Bool) (sh dt st zs : List Int) (k : Nat) : (windowAt c sh dt st zs k).2 = 0 := by unfold windowAt; split <;> rfl

theorem mix_set {A D : List Int} {k : Nat} (hl : A.length = D.length) (hk : k < D.length) : (A.take k ++ D.drop k).set k (A.getD k 0) = A.take (k + 1) ++ D.drop (k + 1) := by
  have e : D.drop k = D.getD k 0 :: D.drop (k + 1) := by simp [List.getD, hk]
  have e2 : A.take (k + 1) = A.take k ++ [A.getD k 0] := take_snoc A k (by omega)
  rw [e, e2, List.append_assoc, List.set_append_right _ _ (by simp; omega)]
  have e3 : k - (A.take k).length = 0 := by simp; omega
  rw [e3]
  rfl

theorem mix_get {A D : List Int} {k : Nat} (hl : A.length = D.length) (hk : k < D.length) : (A.take k ++ D.drop k).getD k 0 = D.getD k 0 := by
  have e3 : min k A.length = k := by omega
  simp [List.getD, List.getElem?_append, e3]

theorem mix_got {A D : List Int} {k : Nat} (hk : k < A.length) : (A.take (k + 1) ++ D.drop (k + 1)).getD k 0 = A.getD k 0 := by
  have e : k < min (k + 1) A.length := by omega
  simp [List.getD, List.getElem?_append, e, hk]

theorem mix_len {A D : List Int} {k : Nat} (hl : A.length = D.length) (hk : k ≤ D.length) : (A.take k ++ D.drop k).length = D.length := by simp; omega

theorem shapeB_in {sh : List Int} (h : shapeB sh = true) : ShapeIn sh ∧ sh.length ≤ 5 := by
  unfold shapeB at h
  simp only [Bool.and_eq_true, decide_eq_true_eq] at h
  refine ⟨?_, h.1⟩
  have h2 := h.2
  unfold countOf at h2
  split at h2
  · rename_i ha
    split at h2
    · omega
    · rename_i m hm; exact ⟨ha, m, hm⟩
  · omega

end Go.Proofs.YtkgcmpmgaghdhaaGreatDoor
namespace Go.Proofs.YtkgcmpmgaghdhaaGreatDoor

def front (sh : List Int) : List Int := sh.take (sh.length - 1)
def last (sh : List Int) : Int := sh.getD (sh.length - 1) 0

/-- The shape of an array as Catenate takes it beside another. -/
def sideSh (sh sh' : List Int) : List Int := if sh = [] then front sh' ++ [1] else if sh.length + 1 = sh'.length then sh ++ [1] else sh
def sideDt (sh dt sh' : List Int) : List Int := if sh = [] then List.replicate (countOf (sideSh sh sh')).toNat (dt.getD 0 0) else dt

/-- k rows, each of m elements of one list and of n of another. -/
def catN (x y : List Int) (m n : Nat) : Nat → List Int
  | 0 => []
  | k + 1 => catN x y m n k ++ (x.drop (k * m)).take m ++ (y.drop (k * n)).take n

def catenate (c d : Bool) (sh dt sh' dt' : List Int) : Ans :=
  if arrOk c sh dt = true ∧ arrOk d sh' dt' = true then
    if (sideSh sh sh').length ≠ (sideSh sh' sh).length then noAns 4
    else if front (sideSh sh sh') ≠ front (sideSh sh' sh) then noAns 5
    else if c ≠ d ∧ sideDt sh dt sh' ≠ [] ∧ sideDt sh' dt' sh ≠ [] then noAns 3
    else if shapeB (front (sideSh sh sh') ++ [last (sideSh sh sh') + last (sideSh sh' sh)]) = false then noAns 7
    else ⟨if sideDt sh dt sh' = [] ∧ sideDt sh' dt' sh ≠ [] then d else c, front (sideSh sh sh') ++ [last (sideSh sh sh') + last (sideSh sh' sh)],
      catN (sideDt sh dt sh') (sideDt sh' dt' sh) (last (sideSh sh sh')).toNat (last (sideSh sh' sh)).toNat (prodAll (front (sideSh sh sh'))).toNat, 0⟩
  else noAns 3

section
variable {c d : Bool} {sh dt sh' dt' : List Int}
theorem cat_bad1 (h : arrOk c sh dt = false) : catenate c d sh dt sh' dt' = noAns 3 := by unfold catenate; rw [if_neg (by simp [h])]
theorem cat_bad2 (h : arrOk d sh' dt' = false) : catenate c d sh dt sh' dt' = noAns 3 := by unfold catenate; rw [if_neg (by simp [h])]
theorem cat_rank (h1 : arrOk c sh dt = true) (h2 : arrOk d sh' dt' = true) (h : (sideSh sh sh').length ≠ (sideSh sh' sh).length) : catenate c d sh dt sh' dt' = noAns 4 := by
  unfold catenate; rw [if_pos ⟨h1, h2⟩, if_pos h]
variable {L R x y : List Int}
theorem cat_len (h1 : arrOk c sh dt = true) (h2 : arrOk d sh' dt' = true) (hL : sideSh sh sh' = L) (hR : sideSh sh' sh = R) (h : L.length = R.length) (hf : front L ≠ front R) : catenate c d sh dt sh' dt' = noAns 5 := by
  unfold catenate; rw [if_pos ⟨h1, h2⟩, hL, hR, if_neg (by simp [h]), if_pos hf]
theorem cat_dom (h1 : arrOk c sh dt = true) (h2 : arrOk d sh' dt' = true) (hL : sideSh sh sh' = L) (hR : sideSh sh' sh = R) (hx : sideDt sh dt sh' = x) (hy : sideDt sh' dt' sh = y) (h : L.length = R.length) (hf : front L = front R) (hd : c ≠ d ∧ x ≠ [] ∧ y ≠ []) : catenate c d sh dt sh' dt' = noAns 3 := by
  unfold catenate; rw [if_pos ⟨h1, h2⟩, hL, hR, hx, hy, if_neg (by simp [h]), if_neg (by simp [hf]), if_pos hd]
theorem cat_big (h1 : arrOk c sh dt = true) (h2 : arrOk d sh' dt' = true) (hL : sideSh sh sh' = L) (hR : sideSh sh' sh = R) (hx : sideDt sh dt sh' = x) (hy : sideDt sh' dt' sh = y) (h : L.length = R.length) (hf : front L = front R) (hd : ¬ (c ≠ d ∧ x ≠ [] ∧ y ≠ [])) (hz : shapeB (front L ++ [last L + last R]) = false) : catenate c d sh dt sh' dt' = noAns 7 := by
  unfold catenate; rw [if_pos ⟨h1, h2⟩, hL, hR, hx, hy, if_neg (by simp [h]), if_neg (by simp [hf]), if_neg hd, if_pos hz]
theorem cat_go (h1 : arrOk c sh dt = true) (h2 : arrOk d sh' dt' = true) (hL : sideSh sh sh' = L) (hR : sideSh sh' sh = R) (hx : sideDt sh dt sh' = x) (hy : sideDt sh' dt' sh = y) (h : L.length = R.length) (hf : front L = front R) (hd : ¬ (c ≠ d ∧ x ≠ [] ∧ y ≠ [])) (hz : shapeB (front L ++ [last L + last R]) = true) :
    catenate c d sh dt sh' dt' = ⟨if x = [] ∧ y ≠ [] then d else c, front L ++ [last L + last R], catN x y (last L).toNat (last R).toNat (prodAll (front L)).toNat, 0⟩ := by
  unfold catenate; rw [if_pos ⟨h1, h2⟩, hL, hR, hx, hy, if_neg (by simp [h]), if_neg (by simp [hf]), if_neg hd, if_neg (by simp [hz])]
end

theorem shapeIn_snoc1 {l : List Int} (h : ShapeIn l) : ShapeIn (l ++ [1]) := by
  obtain ⟨ha, m, hm⟩ := h
  refine ⟨by rw [List.all_append, ha]; rfl, m, ?_⟩
  have key : ∀ (l : List Int) (n : Int), 1 ≤ n → n ≤ 10000 → l.all inCells = true → ∀ m, prodFrom l n = some m → prodFrom (l ++ [1]) n = some m := by
    intro l
    induction l with
    | nil => intro n h1 h2 _ m hm; simp only [prodFrom] at hm ⊢; simp [prodFrom]; cases hm; omega
    | cons x r ih =>
      intro n h1 h2 hl m hm
      simp only [List.all_cons, Bool.and_eq_true] at hl
      have hx : 0 ≤ x ∧ x ≤ 10000 := by simpa [inCells] using hl.1
      simp only [prodFrom, List.cons_append] at hm ⊢
      by_cases h0 : x = 0
      · rw [if_pos h0] at hm ⊢; exact ih n h1 h2 hl.2 m hm
      · rw [if_neg h0] at hm ⊢
        split at hm
        · cases hm
        · rename_i hle
          rw [if_neg hle]
          have : 1 * 1 ≤ n * x := Int.mul_le_mul h1 (by omega) (by omega) (by omega)
          exact ih _ (by omega) (by omega) hl.2 m hm
  exact key l 1 (by omega) (by omega) ha m hm

theorem front_snoc (l : List Int) (x : Int) : front (l ++ [x]) = l := by simp [front]
theorem last_snoc (l : List Int) (x : Int) : last (l ++ [x]) = x := by simp [last]
theorem front_last {l : List Int} (h : l ≠ []) : l = front l ++ [last l] := by
  have hl : 0 < l.length := List.length_pos_iff.mpr h
  unfold front last
  have := List.take_append_drop (l.length - 1) l
  have e : l.drop (l.length - 1) = [l.getD (l.length - 1) 0] := by
    rw [List.drop_eq_getElem_cons (by omega)]
    simp [List.getD, show l.length - 1 < l.length by omega, show l.length - 1 + 1 = l.length by omega]
  rw [e] at this
  exact this.symm

/-- The array as it is taken has a valid shape. -/
theorem side_in {c d : Bool} {sh dt sh' dt' : List Int} (h1 : arrOk c sh dt = true) (h2 : arrOk d sh' dt' = true) : ShapeIn (sideSh sh sh') ∧ (sideSh sh sh').length ≤ 5 ∧ 0 < (sideSh sh sh').length ∧ prodAll (sideSh sh sh') = (sideDt sh dt sh').length := by
  obtain ⟨i1, p1, l1⟩ := shapeIn_of h1
  obtain ⟨i2, p2, l2⟩ := shapeIn_of h2
  unfold sideDt
  by_cases e : sh = []
  · have hs : sideSh sh sh' = front sh' ++ [1] := by unfold sideSh; rw [if_pos e]
    have hi : ShapeIn (front sh' ++ [1]) := shapeIn_snoc1 (i2.take _)
    have hl : (front sh' ++ [1]).length ≤ 5 := by simp [front]; omega
    rw [if_pos e, hs]
    refine ⟨hi, hl, by simp, ?_⟩
    have hb : shapeB (front sh' ++ [1]) = true := by
      obtain ⟨ha, m, hm⟩ := hi
      exact shape_good (n := (front sh' ++ [1]).length) rfl hl m ha hm
    have hc := prodAll_count _ hb
    have hn := hi.bd.1
    simp
    omega
  · rw [if_neg e]
    unfold sideSh
    rw [if_neg e]
    by_cases e2 : sh.length + 1 = sh'.length
    · rw [if_pos e2]
      refine ⟨shapeIn_snoc1 i1, by simp; omega, by simp, ?_⟩
      rw [prodAll_append, p1]; simp [prodAll]
    · rw [if_neg e2]
      exact ⟨i1, l1, List.length_pos_iff.mpr e, p1⟩

end Go.Proofs.YtkgcmpmgaghdhaaGreatDoor
namespace Go.Proofs.YtkgcmpmgaghdhaaGreatDoor

/-- How often the element at place i of an axis is taken. -/
def timesAt (dt : List Int) (i : Nat) : Int := dt.getD (i % dt.length) 0
/-- The sum of the first m of them. -/
def timesSum (dt : List Int) : Nat → Int
  | 0 => 0
  | m + 1 => timesSum dt m + timesAt dt m
/-- How many places are gone through. -/
def repCount (n K : Nat) : Nat := if n = 1 then K else n

/-- The elements at number i of the axis behind p elements ahead of it. -/
def repBlk (dt' : List Int) (n A p i : Nat) : List Int := (dt'.drop ((p * n + i % n) * A)).take A
def repCopies (dt' : List Int) (n A p i : Nat) : Nat → List Int
  | 0 => []
  | c + 1 => repCopies dt' n A p i c ++ repBlk dt' n A p i
def repLine (dt dt' : List Int) (n A p : Nat) : Nat → List Int
  | 0 => []
  | i + 1 => repLine dt dt' n A p i ++ repCopies dt' n A p i (timesAt dt i).toNat
def repAll (dt dt' : List Int) (n A m : Nat) : Nat → List Int
  | 0 => []
  | p + 1 => repAll dt dt' n A m p ++ repLine dt dt' n A p m

/-- What has been gathered in p rounds, i of the next, c copies, q elements. -/
def repAt (dt dt' : List Int) (n A m p i c q : Nat) : List Int := repAll dt dt' n A m p ++ repLine dt dt' n A p i ++ repCopies dt' n A p i c ++ (repBlk dt' n A p i).take q

theorem repAt_q {dt dt' : List Int} {n A m p i c q : Nat} (h : (p * n + i % n) * A + q < dt'.length) (hq : q < A) : repAt dt dt' n A m p i c q ++ [dt'.getD ((p * n + i % n) * A + q) 0] = repAt dt dt' n A m p i c (q + 1) := by
  unfold repAt
  rw [List.append_assoc]
  congr 1
  have hl : q < (repBlk dt' n A p i).length := by unfold repBlk; simp; omega
  have e : (repBlk dt' n A p i)[q] = dt'.getD ((p * n + i % n) * A + q) 0 := by
    have e0 : (repBlk dt' n A p i)[q]? = dt'[(p * n + i % n) * A + q]? := by
      unfold repBlk
      rw [List.getElem?_take_of_lt hq, List.getElem?_drop]
    rw [List.getElem?_eq_getElem hl, List.getElem?_eq_getElem h] at e0
    rw [Option.some.inj e0]
    simp [List.getD, h]
  rw [List.take_succ_eq_append_getElem hl, e]

theorem repAt_c {dt dt' : List Int} {n A m p i c : Nat} : repAt dt dt' n A m p i c A = repAt dt dt' n A m p i (c + 1) 0 := by
  unfold repAt
  have h : (repBlk dt' n A p i).take A = repBlk dt' n A p i := by unfold repBlk; rw [List.take_take]; simp
  rw [h]
  simp [repCopies, List.append_assoc]

theorem repAt_i {dt dt' : List Int} {n A m p i : Nat} : repAt dt dt' n A m p i (timesAt dt i).toNat 0 = repAt dt dt' n A m p (i + 1) 0 0 := by
  unfold repAt
  simp [repCopies, repLine, List.append_assoc]

theorem repAt_p {dt dt' : List Int} {n A m p : Nat} : repAt dt dt' n A m p m 0 0 = repAt dt dt' n A m (p + 1) 0 0 0 := by
  unfold repAt
  simp [repCopies, repLine, repAll]

theorem repAt_end {dt dt' : List Int} {n A m p : Nat} : repAt dt dt' n A m p 0 0 0 = repAll dt dt' n A m p := by
  unfold repAt
  simp [repCopies, repLine]

end Go.Proofs.YtkgcmpmgaghdhaaGreatDoor
namespace Go.Proofs.YtkgcmpmgaghdhaaGreatDoor

theorem map_range_set (n k : Nat) (f : Nat → Int) (x : Int) : ((List.range n).map f).set k x = (List.range n).map fun i => if i = k then x else f i := by
  apply List.ext_getElem
  · simp
  · intro i h1 h2
    simp only [List.getElem_set, List.getElem_map, List.getElem_range]
    by_cases e : k = i
    · subst e; simp
    · rw [if_neg e, if_neg (fun h => e h.symm)]

theorem map_range_get (n k : Nat) (f : Nat → Int) (h : k < n) : ((List.range n).map f).getD k 0 = f k := by simp [h]
theorem map_range_len (n : Nat) (f : Nat → Int) : ((List.range n).map f).length = n := by simp
theorem map_range_eq {n : Nat} {f g : Nat → Int} (h : ∀ i, i < n → f i = g i) : (List.range n).map f = (List.range n).map g := List.map_congr_left fun i hi => h i (by simpa using hi)

/-- The index of place p whose last j numbers have gone back to 0. -/
def midDigit (sh : List Int) (p : Int) (j i : Nat) : Int := if sh.length - j ≤ i then 0 else digit sh p i
def mid (sh : List Int) (p : Int) (j : Nat) : List Int := (List.range sh.length).map (midDigit sh p j)

theorem mid_len (sh : List Int) (p : Int) (j : Nat) : (mid sh p j).length = sh.length := by simp [mid]
theorem mid_get (sh : List Int) (p : Int) (j : Nat) (hj : j < sh.length) : (mid sh p j).getD (sh.length - 1 - j) 0 = digit sh p (sh.length - 1 - j) := by
  unfold mid; rw [map_range_get _ _ _ (by omega)]; unfold midDigit; rw [if_neg (by omega)]
theorem mid_zero (sh : List Int) (p : Int) : mid sh p 0 = digits sh p := map_range_eq fun i hi => by unfold midDigit; rw [if_neg (by omega)]
theorem mid_step (sh : List Int) (p : Int) (j : Nat) (hj : j < sh.length) : (mid sh p j).set (sh.length - 1 - j) 0 = mid sh p (j + 1) := by
  unfold mid
  rw [map_range_set]
  refine map_range_eq fun i hi => ?_
  unfold midDigit
  by_cases e : i = sh.length - 1 - j
  · rw [if_pos e, if_pos (by omega)]
  · rw [if_neg e]
    by_cases h : sh.length - j ≤ i
    · rw [if_pos h, if_pos (by omega)]
    · rw [if_neg h, if_neg (by omega)]

def Carry (sh : List Int) (p : Int) (j : Nat) : Prop := restN sh (p + 1) j = restN sh p j + 1 ∧ ∀ i, sh.length - j ≤ i → i < sh.length → digit sh (p + 1) i = 0

theorem carry_zero (sh : List Int) (p : Int) : Carry sh p 0 := ⟨rfl, fun i h1 h2 => by omega⟩

theorem next_same {r s : Int} (hs : 0 < s) (h : r % s + 1 < s) : (r + 1) / s = r / s ∧ (r + 1) % s = r % s + 1 := by
  have h1 := Int.mul_ediv_add_emod r s
  have h2 := Int.emod_nonneg r (by omega : s ≠ 0)
  exact (Int.ediv_emod_unique hs).2 ⟨by omega, by omega, h⟩

theorem next_over {r s : Int} (hs : 0 < s) (h : ¬ r % s + 1 < s) : (r + 1) / s = r / s + 1 ∧ (r + 1) % s = 0 := by
  have h1 := Int.mul_ediv_add_emod r s
  have h2 := Int.emod_nonneg r (by omega : s ≠ 0)
  have h3 := Int.emod_lt_of_pos r hs
  have h4 : r % s + 1 = s := by omega
  refine (Int.ediv_emod_unique hs).2 ⟨?_, by omega, hs⟩
  rw [Int.mul_add, Int.mul_one]
  omega

theorem digit_at (sh : List Int) (p : Int) (j : Nat) (hj : j < sh.length) : digit sh p (sh.length - 1 - j) = restN sh p j % sh.getD (sh.length - 1 - j) 0 := by
  unfold digit; rw [show sh.length - 1 - (sh.length - 1 - j) = j by omega]

theorem carry_step {sh : List Int} (hf : Full sh) {p : Int} {j : Nat} (hc : Carry sh p j) (hj : j < sh.length) (h : ¬ digit sh p (sh.length - 1 - j) + 1 < sh.getD (sh.length - 1 - j) 0) : Carry sh p (j + 1) := by
  rw [digit_at _ _ _ hj] at h
  obtain ⟨h1, h2⟩ := next_over (hf (sh.length - 1 - j) (by omega)) h
  refine ⟨?_, fun i hi hl => ?_⟩
  · show restN sh (p + 1) j / _ = restN sh p j / _ + 1
    rw [hc.1]; exact h1
  · by_cases e : i = sh.length - 1 - j
    · subst e; rw [digit_at _ _ _ hj, hc.1]; exact h2
    · exact hc.2 i (by omega) hl

theorem restN_congr {sh : List Int} {p q : Int} {j : Nat} (h : restN sh p j = restN sh q j) (d : Nat) : restN sh p (j + d) = restN sh q (j + d) := by
  induction d with
  | zero => exact h
  | succ d ih => show restN sh p (j + d) / _ = restN sh q (j + d) / _; rw [ih]

theorem carry_stop {sh : List Int} (hf : Full sh) {p : Int} {j : Nat} (hc : Carry sh p j) (hj : j < sh.length) (h : digit sh p (sh.length - 1 - j) + 1 < sh.getD (sh.length - 1 - j) 0) :
    (mid sh p j).set (sh.length - 1 - j) (digit sh p (sh.length - 1 - j) + 1) = digits sh (p + 1) := by
  have hd := digit_at sh p j hj
  rw [hd] at h ⊢
  obtain ⟨h1, h2⟩ := next_same (hf (sh.length - 1 - j) (by omega)) h
  unfold mid digits
  rw [map_range_set]
  refine map_range_eq fun i hi => ?_
  by_cases e : i = sh.length - 1 - j
  · rw [if_pos e]; subst e; rw [digit_at _ _ _ hj, hc.1, h2]
  · rw [if_neg e]
    unfold midDigit
    by_cases h3 : sh.length - j ≤ i
    · rw [if_pos h3, hc.2 i h3 hi]
    · rw [if_neg h3]
      have e2 : restN sh p (j + 1) = restN sh (p + 1) (j + 1) := by
        show restN sh p j / _ = restN sh (p + 1) j / _
        rw [hc.1, h1]
      have e3 := restN_congr e2 (sh.length - 1 - i - (j + 1))
      rw [show j + 1 + (sh.length - 1 - i - (j + 1)) = sh.length - 1 - i by omega] at e3
      unfold digit
      rw [e3]

theorem carry_end {sh : List Int} {p : Int} {j : Nat} (hc : Carry sh p j) (hj : sh.length ≤ j) : mid sh p j = digits sh (p + 1) :=
  map_range_eq fun i hi => by unfold midDigit; rw [if_pos (by omega), hc.2 i (by omega) hi]

theorem digits_zero (sh : List Int) : digits sh 0 = List.replicate sh.length 0 := by
  have h0 : ∀ j, restN sh 0 j = 0 := by
    intro j
    induction j with
    | zero => rfl
    | succ j ih => show restN sh 0 j / _ = 0; rw [ih]; simp
  have e : List.replicate sh.length (0 : Int) = (List.range sh.length).map fun _ => 0 := by
    rw [List.map_const']; simp
  rw [e]
  exact map_range_eq fun i hi => by unfold digit; rw [h0]; simp

/-- The index of another array that a function of indexes means. -/
def meant (sh : List Int) (f : List Int → Nat → Int) (D : List Int) : List Int := (List.range sh.length).map (f D)

theorem meant_len (sh : List Int) (f : List Int → Nat → Int) (D : List Int) : (meant sh f D).length = sh.length := by simp [meant]
theorem meant_get (sh : List Int) (f : List Int → Nat → Int) (D : List Int) (k : Nat) (h : k < sh.length) : (meant sh f D).getD k 0 = f D k := map_range_get _ _ _ h

/-- What stands at place k of what is gathered. -/
def gatherAt (c : Bool) (sh dt : List Int) (f : List Int → Nat → Int) (zs : List Int) (k : Nat) : Int × Int :=
  if insideN sh (meant sh f (digits zs k)) sh.length = true then (dt.getD (place sh (meant sh f (digits zs k))).toNat 0, 0) else (fillOf c, 0)

/-- k elements have been gathered, the others are the fill. -/
def halfway (c : Bool) (sh dt : List Int) (f : List Int → Nat → Int) (zs : List Int) (N k : Nat) : List Int := (List.range N).map fun i => if i < k then (gatherAt c sh dt f zs i).1 else fillOf c

theorem half_len (c : Bool) (sh dt : List Int) (f : List Int → Nat → Int) (zs : List Int) (N k : Nat) : (halfway c sh dt f zs N k).length = N := by simp [halfway]
theorem half_zero (c : Bool) (sh dt : List Int) (f : List Int → Nat → Int) (zs : List Int) (N : Nat) : halfway c sh dt f zs N 0 = List.replicate N (fillOf c) := by
  have e : List.replicate N (fillOf c) = (List.range N).map fun _ => fillOf c := by rw [List.map_const']; simp
  rw [e]
  exact map_range_eq fun i _ => by rw [if_neg (by omega)]
theorem half_all (c : Bool) (sh dt : List Int) (f : List Int → Nat → Int) (zs : List Int) (N : Nat) : halfway c sh dt f zs N N = vals (gatherAt c sh dt f zs) N := map_range_eq fun i hi => by rw [if_pos hi]
theorem half_in (c : Bool) (sh dt : List Int) (f : List Int → Nat → Int) (zs : List Int) (N k : Nat) (x : Int) (hx : (gatherAt c sh dt f zs k).1 = x) : (halfway c sh dt f zs N k).set k x = halfway c sh dt f zs N (k + 1) := by
  unfold halfway
  rw [map_range_set]
  refine map_range_eq fun i _ => ?_
  by_cases e : i = k
  · subst e; rw [if_pos rfl, if_pos (by omega), hx]
  · rw [if_neg e]
    by_cases h : i < k
    · rw [if_pos h, if_pos (by omega)]
    · rw [if_neg h, if_neg (by omega)]
theorem half_out (c : Bool) (sh dt : List Int) (f : List Int → Nat → Int) (zs : List Int) (N k : Nat) (h : insideN sh (meant sh f (digits zs k)) sh.length = false) : halfway c sh dt f zs N k = halfway c sh dt f zs N (k + 1) := by
  refine map_range_eq fun i _ => ?_
  by_cases e : i = k
  · subst e; rw [if_neg (by omega), if_pos (by omega)]; unfold gatherAt; rw [if_neg (by simp [h])]
  · by_cases h : i < k
    · rw [if_pos h, if_pos (by omega)]
    · rw [if_neg h, if_neg (by omega)]
theorem gather_in {c : Bool} {sh dt : List Int} {f : List Int → Nat → Int} {zs : List Int} {k : Nat} (h : insideN sh (meant sh f (digits zs k)) sh.length = true) : (gatherAt c sh dt f zs k).1 = dt.getD (place sh (meant sh f (digits zs k))).toNat 0 := by unfold gatherAt; rw [if_pos h]

theorem inside_step {sh ix : List Int} {k : Nat} (h : insideN sh ix k = true) (h1 : 0 ≤ ix.getD k 0) (h2 : ix.getD k 0 < sh.getD k 0) : insideN sh ix (k + 1) = true := by
  simp only [insideN, Bool.and_eq_true, decide_eq_true_eq]; exact ⟨h, h1, h2⟩
theorem inside_not {sh ix : List Int} {n k : Nat} (hk : k < n) (h : ¬ (0 ≤ ix.getD k 0 ∧ ix.getD k 0 < sh.getD k 0)) : insideN sh ix n = false := by
  cases e : insideN sh ix n with
  | false => rfl
  | true => exact absurd (inside_each e k hk) h
theorem placeN_bd' {sh ix : List Int} (k : Nat) (hi : insideN sh ix k = true) (hk : k ≤ sh.length) : 0 ≤ placeN sh ix k ∧ placeN sh ix k < prodAll (sh.take k) ∨ k = 0 := by
  by_cases h0 : k = 0
  · exact .inr h0
  refine .inl ?_
  have hin : IxIn (sh.take k) ix := fun i hi' => by
    have hi2 : i < k := by simp at hi'; omega
    have := inside_each hi i hi2
    have e : (sh.take k).getD i 0 = sh.getD i 0 := by simp [List.getD, hi2]
    rw [e]; exact this
  have hb := place_bd hin
  have e2 : ∀ j, j ≤ k → placeN (sh.take k) ix j = placeN sh ix j := by
    intro j
    induction j with
    | zero => intro _; rfl
    | succ j ih =>
      intro hj
      show placeN (sh.take k) ix j * _ + _ = placeN sh ix j * _ + _
      rw [ih (by omega)]
      have e : (sh.take k).getD j 0 = sh.getD j 0 := by simp [List.getD, show j < k by omega]
      rw [e]
  have hlen : (sh.take k).length = k := by simp; omega
  unfold place at hb
  rw [hlen, e2 k (Nat.le_refl _)] at hb
  exact hb

end Go.Proofs.YtkgcmpmgaghdhaaGreatDoor
namespace Go.Proofs.YtkgcmpmgaghdhaaGreatDoor

/-- k elements have been put into those of an array of the shape sh. -/
def putN (sh : List Int) (f : List Int → Nat → Int) (zs : List Int) (g : Nat → Int) (l : List Int) : Nat → List Int
  | 0 => l
  | k + 1 => if insideN sh (meant sh f (digits zs k)) sh.length = true then (putN sh f zs g l k).set (place sh (meant sh f (digits zs k))).toNat (g k) else putN sh f zs g l k

theorem put_len (sh : List Int) (f : List Int → Nat → Int) (zs : List Int) (g : Nat → Int) (l : List Int) (k : Nat) : (putN sh f zs g l k).length = l.length := by
  induction k with
  | zero => rfl
  | succ k ih =>
    simp only [putN]
    split
    · rw [List.length_set, ih]
    · exact ih

theorem put_in {sh : List Int} {f : List Int → Nat → Int} {zs : List Int} {g : Nat → Int} {l : List Int} {k j : Nat} (h : insideN sh (meant sh f (digits zs k)) sh.length = true) (hj : place sh (meant sh f (digits zs k)) = (j : Int)) : (putN sh f zs g l k).set j (g k) = putN sh f zs g l (k + 1) := by
  simp only [putN]
  rw [if_pos h, hj]
  simp

theorem put_out {sh : List Int} {f : List Int → Nat → Int} {zs : List Int} {g : Nat → Int} {l : List Int} {k : Nat} (h : insideN sh (meant sh f (digits zs k)) sh.length = false) : putN sh f zs g l k = putN sh f zs g l (k + 1) := by
  simp only [putN]
  rw [if_neg (by simp [h])]

end Go.Proofs.YtkgcmpmgaghdhaaGreatDoor
namespace Go.Proofs.YtkgcmpmgaghdhaaGreatDoor

/-- The code of an array that should have one number. -/
def singleCode (c : Bool) (n : Nat) : Int := if n ≠ 1 then 5 else if c then 3 else 0

/-- Where element t of the rotated array comes from. -/
def rotFrom (n A d t : Nat) : Nat := (t / A / n * n + (t / A % n + d) % n) * A + t % A

def rotAt (n A d : Nat) (dt : List Int) (t : Nat) : Int × Int := (dt.getD (rotFrom n A d t) 0, 0)

theorem rotFrom_at {n A d p i q : Nat} (hi : i < n) (hq : q < A) : rotFrom n A d ((p * n + i) * A + q) = (p * n + (i + d) % n) * A + q := by
  have hA : 0 < A := by omega
  have hn : 0 < n := by omega
  have e1 : ((p * n + i) * A + q) / A = p * n + i := by rw [Nat.add_comm, Nat.add_mul_div_right _ _ hA, Nat.div_eq_of_lt hq, Nat.zero_add]
  have e2 : ((p * n + i) * A + q) % A = q := by rw [Nat.add_comm, Nat.add_mul_mod_self_right, Nat.mod_eq_of_lt hq]
  have e3 : (p * n + i) / n = p := by rw [Nat.add_comm, Nat.add_mul_div_right _ _ hn, Nat.div_eq_of_lt hi, Nat.zero_add]
  have e4 : (p * n + i) % n = i := by rw [Nat.add_comm, Nat.add_mul_mod_self_right, Nat.mod_eq_of_lt hi]
  unfold rotFrom
  rw [e1, e2, e3, e4]

theorem three_lt {B n A p i q : Nat} (hp : p < B) (hi : i < n) (hq : q < A) : (p * n + i) * A + q < B * n * A := by
  have h1 : p * n + i + 1 ≤ B * n := by
    have : (p + 1) * n ≤ B * n := Nat.mul_le_mul_right n hp
    rw [Nat.add_mul, Nat.one_mul] at this
    omega
  have h2 : (p * n + i + 1) * A ≤ B * n * A := Nat.mul_le_mul_right A h1
  rw [Nat.add_mul, Nat.one_mul] at h2
  omega

def rotate (c d : Bool) (sh dt sh' dt' : List Int) (fl : Bool) : Ans :=
  if arrOk c sh dt = true ∧ arrOk d sh' dt' = true then
    if singleCode c dt.length ≠ 0 then noAns (singleCode c dt.length)
    else if sh' = [] ∨ dt' = [] then ⟨d, sh', dt', 0⟩
    else ⟨d, sh', vals (rotAt (axisN sh' fl).toNat (axisA sh' fl).toNat (modOf (axisN sh' fl) (dt.getD 0 0)).toNat dt') dt'.length, 0⟩
  else noAns 3

section
variable {c d fl : Bool} {sh dt sh' dt' : List Int}
theorem rotate_bad1 (h : arrOk c sh dt = false) : rotate c d sh dt sh' dt' fl = noAns 3 := by unfold rotate; rw [if_neg (by simp [h])]
theorem rotate_bad2 (h : arrOk d sh' dt' = false) : rotate c d sh dt sh' dt' fl = noAns 3 := by unfold rotate; rw [if_neg (by simp [h])]
theorem rotate_code (h1 : arrOk c sh dt = true) (h2 : arrOk d sh' dt' = true) (r : Int) (h : singleCode c dt.length = r) (hr : r ≠ 0) : rotate c d sh dt sh' dt' fl = noAns r := by
  unfold rotate; rw [if_pos ⟨h1, h2⟩, h, if_pos hr]
theorem rotate_none (h1 : arrOk c sh dt = true) (h2 : arrOk d sh' dt' = true) (h : singleCode c dt.length = 0) (h3 : sh' = [] ∨ dt' = []) : rotate c d sh dt sh' dt' fl = ⟨d, sh', dt', 0⟩ := by
  unfold rotate; rw [if_pos ⟨h1, h2⟩, if_neg (by simp [h]), if_pos h3]
theorem rotate_go (h1 : arrOk c sh dt = true) (h2 : arrOk d sh' dt' = true) (h : singleCode c dt.length = 0) (h3 : sh' ≠ []) (h4 : dt' ≠ []) (n A e : Nat) (hn : axisN sh' fl = n) (hA : axisA sh' fl = A) (he : modOf n (dt.getD 0 0) = e) : rotate c d sh dt sh' dt' fl = ⟨d, sh', vals (rotAt n A e dt') dt'.length, 0⟩ := by
  unfold rotate; rw [if_pos ⟨h1, h2⟩, if_neg (by simp [h]), if_neg (by rintro (h | h); exact h3 h; exact h4 h), hn, hA, he]; rfl
end

theorem modOf_pos {n : Nat} (hn : 0 < n) (b : Int) : 0 ≤ modOf n b ∧ modOf n b < n := by
  unfold modOf
  have h1 := Int.tmod_lt_of_pos b (by omega : (0 : Int) < n)
  have h2 : -(n : Int) < b.tmod n := Int.lt_tmod_of_pos b (by omega)
  rw [if_neg (by omega)]
  split
  · rename_i h
    have h3 : b.tmod n < 0 := by
      by_cases h4 : b.tmod n < 0
      · exact h4
      · exfalso; apply h.2; rw [decide_eq_false h4, decide_eq_false (by omega)]
    omega
  · rename_i h
    have : ¬ b.tmod n < 0 := by
      intro h4
      apply h
      refine ⟨by omega, ?_⟩
      rw [decide_eq_true h4, decide_eq_false (by omega)]; simp
    omega

end Go.Proofs.YtkgcmpmgaghdhaaGreatDoor
namespace Go.Proofs.YtkgcmpmgaghdhaaGreatDoor

theorem inside_of {sh ix : List Int} (h : IxIn sh ix) (k : Nat) (hk : k ≤ sh.length) : insideN sh ix k = true := by
  induction k with
  | zero => rfl
  | succ k ih => exact inside_step (ih (by omega)) (h k (by omega)).1 (h k (by omega)).2

theorem getD_drop (l : List Int) (b m : Nat) : (l.drop b).getD m 0 = l.getD (b + m) 0 := by simp [List.getD]

theorem placeN_add (sh ix : List Int) (b m : Nat) (hm : b + m ≤ sh.length) : placeN sh ix (b + m) = placeN sh ix b * prodAll ((sh.drop b).take m) + placeN (sh.drop b) (ix.drop b) m := by
  induction m with
  | zero => simp [placeN, prodAll]
  | succ m ih =>
    show placeN sh ix (b + m) * sh.getD (b + m) 0 + ix.getD (b + m) 0 = _
    rw [ih (by omega), prodAll_snoc _ _ (by simp; omega)]
    show _ = placeN sh ix b * (prodAll ((sh.drop b).take m) * (sh.drop b).getD m 0) + (placeN (sh.drop b) (ix.drop b) m * (sh.drop b).getD m 0 + (ix.drop b).getD m 0)
    rw [getD_drop, getD_drop, Int.add_mul, Int.mul_assoc, Int.add_assoc]

theorem place_split (sh ix : List Int) (a : Nat) (ha : a < sh.length) : place sh ix = (placeN sh ix a * sh.getD a 0 + ix.getD a 0) * prodAll (sh.drop (a + 1)) + place (sh.drop (a + 1)) (ix.drop (a + 1)) := by
  have h := placeN_add sh ix (a + 1) (sh.length - (a + 1)) (by omega)
  rw [show a + 1 + (sh.length - (a + 1)) = sh.length by omega, List.take_of_length_le (by simp)] at h
  unfold place
  rw [h]
  simp [placeN]

theorem placeN_same {sh x y : List Int} (k : Nat) (h : ∀ i, i < k → x.getD i 0 = y.getD i 0) : placeN sh x k = placeN sh y k := by
  induction k with
  | zero => rfl
  | succ k ih => show placeN sh x k * _ + _ = placeN sh y k * _ + _; rw [ih (fun i hi => h i (by omega)), h k (by omega)]

theorem modOf_emod {n : Int} (hn : 0 < n) (b : Int) : modOf n b = b % n := by
  unfold modOf
  rw [if_neg (by omega)]
  have h1 := Int.tmod_lt_of_pos b hn
  have h2 : -n < b.tmod n := Int.lt_tmod_of_pos b hn
  have h3 := Int.mul_tdiv_add_tmod b n
  split
  · rename_i h
    have h4 : b.tmod n < 0 := by
      by_cases h4 : b.tmod n < 0
      · exact h4
      · exfalso; apply h.2; rw [decide_eq_false h4, decide_eq_false (by omega)]
    have := (Int.ediv_emod_unique (a := b) (r := b.tmod n + n) (q := b.tdiv n - 1) hn).2 ⟨by rw [Int.mul_sub, Int.mul_one]; omega, by omega, by omega⟩
    exact this.2.symm
  · rename_i h
    have h4 : ¬ b.tmod n < 0 := by
      intro h4
      apply h
      refine ⟨by omega, ?_⟩
      rw [decide_eq_true h4, decide_eq_false (by omega)]; simp
    have := (Int.ediv_emod_unique (a := b) (r := b.tmod n) (q := b.tdiv n) hn).2 ⟨by omega, by omega, by omega⟩
    exact this.2.symm

theorem wrap_emod {n : Int} (hn : 0 < n) (b : Int) : (b.tmod n + n).tmod n = b % n := by
  have h1 := Int.tmod_lt_of_pos b hn
  have h2 : -n < b.tmod n := Int.lt_tmod_of_pos b hn
  have h3 := Int.mul_tdiv_add_tmod b n
  rw [Int.tmod_eq_emod_of_nonneg (by omega)]
  by_cases h4 : b.tmod n < 0
  · rw [Int.emod_eq_of_lt (by omega) (by omega)]
    have := (Int.ediv_emod_unique (a := b) (r := b.tmod n + n) (q := b.tdiv n - 1) hn).2 ⟨by rw [Int.mul_sub, Int.mul_one]; omega, by omega, by omega⟩
    exact this.2.symm
  · rw [Int.add_emod_right, Int.emod_eq_of_lt (by omega) (by omega)]
    have := (Int.ediv_emod_unique (a := b) (r := b.tmod n) (q := b.tdiv n) hn).2 ⟨by omega, by omega, by omega⟩
    exact this.2.symm

/-- Which element along each axis is meant where axis a is turned by k. -/
def rotF (sh : List Int) (a : Int) (k : Int) (D : List Int) (i : Nat) : Int := if (i : Int) = a then (D.getD i 0 + k) % sh.getD i 0 else D.getD i 0

theorem rot_gather {d : Bool} {sh dt : List Int} {a : Nat} {k : Int} (hf : Full sh) (ha : a < sh.length) (t : Nat) (ht : (t : Int) < prodAll sh) (n A e : Nat) (hn : sh.getD a 0 = n) (hA : prodAll (sh.drop (a + 1)) = A) (he : modOf n k = e) :
    gatherAt d sh dt (rotF sh a k) sh t = rotAt n A e dt t := by
  have hn0 : (0 : Int) < n := by rw [← hn]; exact hf a ha
  have hD := digits_in hf (t : Int)
  have hpl := place_digits hf (p := (t : Int)) (by omega) ht
  have hDl := digits_len sh (t : Int)
  obtain ⟨D, hDD⟩ : ∃ D, digits sh (t : Int) = D := ⟨_, rfl⟩
  rw [hDD] at hD hpl hDl
  have hMg := meant_get sh (rotF sh a k) D
  have hMl := meant_len sh (rotF sh a k) D
  obtain ⟨M, hM⟩ : ∃ M, meant sh (rotF sh a k) D = M := ⟨_, rfl⟩
  rw [hM] at hMg hMl
  have hoth : ∀ i, i < sh.length → i ≠ a → M.getD i 0 = D.getD i 0 := fun i hi hne => by rw [hMg i hi]; unfold rotF; rw [if_neg (by omega)]
  have hat : M.getD a 0 = (D.getD a 0 + k) % n := by rw [hMg a ha]; unfold rotF; rw [if_pos rfl, hn]
  have hMin : IxIn sh M := fun i hi => by
    by_cases e : i = a
    · subst e; rw [hat, hn]; exact ⟨Int.emod_nonneg _ (by omega), Int.emod_lt_of_pos _ hn0⟩
    · rw [hoth i hi e]; exact hD i hi
  have hdrop : M.drop (a + 1) = D.drop (a + 1) := by
    apply List.ext_getElem
    · simp; omega
    · intro i h1 h2
      have hi : a + 1 + i < sh.length := by simp at h1; omega
      have := hoth (a + 1 + i) hi (by omega)
      simp only [List.getElem_drop]
      simpa [List.getD, show a + 1 + i < M.length by omega, show a + 1 + i < D.length by omega] using this
  have hsp := place_split sh M a ha
  have hsd := place_split sh D a ha
  rw [placeN_same a (fun i hi => hoth i (by omega) (by omega)), hat, hdrop, hn, hA] at hsp
  rw [hpl, hn, hA] at hsd
  have hrest : IxIn (sh.drop (a + 1)) (D.drop (a + 1)) := fun i hi => by
    rw [getD_drop, getD_drop]; exact hD _ (by simp at hi; omega)
  have hq := place_bd hrest
  rw [hA] at hq
  have hP := (placeN_bd hD a (by omega)).1
  have hi := hD a ha
  rw [hn] at hi
  obtain ⟨p, hp⟩ : ∃ p : Nat, placeN sh D a = p := ⟨(placeN sh D a).toNat, by omega⟩
  obtain ⟨i, hi'⟩ : ∃ i : Nat, D.getD a 0 = i := ⟨(D.getD a 0).toNat, by omega⟩
  obtain ⟨q, hq'⟩ : ∃ q : Nat, place (sh.drop (a + 1)) (D.drop (a + 1)) = q := ⟨(place (sh.drop (a + 1)) (D.drop (a + 1))).toNat, by omega⟩
  rw [hp, hi', hq'] at hsd hsp
  rw [hi'] at hi
  rw [hq'] at hq
  have he2 : ((i : Int) + k) % n = (((i + e) % n : Nat) : Int) := by
    rw [modOf_emod hn0] at he
    rw [Int.natCast_emod, Int.natCast_add, ← he, Int.add_emod_emod]
  rw [he2] at hsp
  have hts : t = (p * n + i) * A + q := by exact_mod_cast hsd
  have hfrom := rotFrom_at (n := n) (A := A) (d := e) (p := p) (i := i) (q := q) (by omega) (by omega)
  have hpm : place sh M = ((rotFrom n A e t : Nat) : Int) := by rw [hts, hfrom, hsp]; push_cast; rfl
  unfold gatherAt rotAt
  rw [hDD, hM, if_pos (inside_of hMin _ (Nat.le_refl _)), hpm]
  simp

theorem vals_same {f g : Nat → Int × Int} {n : Nat} (h : ∀ i, i < n → (f i).1 = (g i).1) : vals f n = vals g n := map_range_eq h

end Go.Proofs.YtkgcmpmgaghdhaaGreatDoor
namespace Go.Proofs.YtkgcmpmgaghdhaaGreatDoor

/-- The place in rows of t of what stands at place k in rows of s, moved by off. -/
def rowPlace (s t off k : Nat) : Nat := k / s * t + k % s + off

theorem rowPlace_div {s t off k : Nat} (hs : 0 < s) (ht : s + off ≤ t) : rowPlace s t off k / t = k / s ∧ rowPlace s t off k % t = k % s + off := by
  have h1 := Nat.mod_lt k hs
  have e : rowPlace s t off k = (k % s + off) + t * (k / s) := by unfold rowPlace; rw [Nat.mul_comm (k / s) t]; omega
  rw [e]
  exact ⟨by rw [Nat.add_mul_div_left _ _ (by omega), Nat.div_eq_of_lt (by omega)]; omega, by rw [Nat.add_mul_mod_self_left, Nat.mod_eq_of_lt (by omega)]⟩

theorem rowPlace_iff {s t off i k : Nat} (hs : 0 < s) (ht : s + off ≤ t) : i = rowPlace s t off k ↔ (off ≤ i % t ∧ i % t < off + s) ∧ i / t * s + (i % t - off) = k := by
  constructor
  · rintro rfl
    obtain ⟨h1, h2⟩ := rowPlace_div (k := k) hs ht
    rw [h1, h2]
    have h3 := Nat.mod_lt k hs
    have h4 := Nat.div_add_mod k s
    rw [Nat.mul_comm] at h4
    exact ⟨⟨by omega, by omega⟩, by omega⟩
  · rintro ⟨⟨h1, h2⟩, rfl⟩
    have e : i / t * s + (i % t - off) = (i % t - off) + s * (i / t) := by rw [Nat.mul_comm]; omega
    unfold rowPlace
    rw [e, Nat.add_mul_div_left _ _ hs, Nat.add_mul_mod_self_left, Nat.div_eq_of_lt (by omega), Nat.mod_eq_of_lt (show i % t - off < s by omega)]
    have h4 := Nat.div_add_mod i t
    rw [Nat.mul_comm] at h4
    rw [Nat.zero_add]
    omega

/-- What stands at place i when k elements of rows of s have been put into rows of t. -/
def putRow (s t off : Nat) (g : Nat → Int) (l : List Int) (k i : Nat) : Int := if (off ≤ i % t ∧ i % t < off + s) ∧ i / t * s + (i % t - off) < k then g (i / t * s + (i % t - off)) else l.getD i 0

theorem list_range (l : List Int) (M : Nat) (h : l.length = M) : l = (List.range M).map fun i => l.getD i 0 := by
  apply List.ext_getElem
  · simp [h]
  · intro i h1 h2
    simp [List.getD, h1]

theorem put_rows {sh zs : List Int} {f : List Int → Nat → Int} {g : Nat → Int} {l : List Int} {s t off M N : Nat} (hs : 0 < N → 0 < s) (ht : s + off ≤ t) (hl : l.length = M)
    (hin : ∀ k : Nat, k < N → insideN sh (meant sh f (digits zs k)) sh.length = true ∧ place sh (meant sh f (digits zs k)) = ((rowPlace s t off k : Nat) : Int)) (k : Nat) (hk : k ≤ N) :
    putN sh f zs g l k = (List.range M).map (putRow s t off g l k) := by
  induction k with
  | zero =>
    show l = _
    rw [list_range l M hl]
    refine map_range_eq fun i hi => ?_
    unfold putRow
    rw [if_neg (by omega)]
    simp [hi]
  | succ k ih =>
    obtain ⟨h1, h2⟩ := hin k (by omega)
    have hs' := hs (by omega)
    rw [← put_in h1 h2, ih (by omega), map_range_set]
    refine map_range_eq fun i hi => ?_
    by_cases e : i = rowPlace s t off k
    · rw [if_pos e]
      have := (rowPlace_iff hs' ht).1 e
      unfold putRow
      rw [if_pos ⟨this.1, by omega⟩, this.2]
    · rw [if_neg e]
      unfold putRow
      by_cases c : (off ≤ i % t ∧ i % t < off + s) ∧ i / t * s + (i % t - off) < k
      · rw [if_pos c, if_pos ⟨c.1, by omega⟩]
      · rw [if_neg c, if_neg (fun h => c ⟨h.1, by
          rcases Nat.lt_or_ge (i / t * s + (i % t - off)) k with h' | h'
          · exact h'
          · exact absurd ((rowPlace_iff hs' ht).2 ⟨h.1, by omega⟩) e⟩)]

/-- What stands at place i of two lists joined row by row. -/
def joinAt (X Y : List Int) (x y i : Nat) : Int := if i % (x + y) < x then X.getD (i / (x + y) * x + i % (x + y)) 0 else Y.getD (i / (x + y) * y + (i % (x + y) - x)) 0

theorem range_plus (a b : Nat) : List.range (a + b) = List.range a ++ (List.range b).map (a + ·) := List.range_add

theorem catN_range (X Y : List Int) (x y B : Nat) (hX : B * x = X.length) (hY : B * y = Y.length) (k : Nat) (hk : k ≤ B) : catN X Y x y k = (List.range (k * (x + y))).map (joinAt X Y x y) := by
  induction k with
  | zero => simp [catN]
  | succ k ih =>
    have hx : (k + 1) * x ≤ X.length := by rw [← hX]; exact Nat.mul_le_mul_right _ hk
    have hy : (k + 1) * y ≤ Y.length := by rw [← hY]; exact Nat.mul_le_mul_right _ hk
    rw [Nat.add_mul, Nat.one_mul] at hx hy
    simp only [catN]
    rw [ih (by omega), Nat.add_mul, Nat.one_mul, range_plus, List.map_append, List.append_assoc, List.map_map]
    congr 1
    apply List.ext_getElem
    · simp; omega
    · intro c h1 h2
      have hc : c < x + y := by simpa using h2
      have hm : (k * (x + y) + c) % (x + y) = c := by rw [Nat.mul_comm, Nat.mul_add_mod, Nat.mod_eq_of_lt hc]
      have hd : (k * (x + y) + c) / (x + y) = k := by rw [Nat.mul_comm, Nat.mul_add_div (by omega), Nat.div_eq_of_lt hc]; omega
      simp only [List.getElem_map, List.getElem_range, Function.comp]
      unfold joinAt
      rw [hm, hd]
      by_cases h : c < x
      · rw [if_pos h, List.getElem_append_left (by simp; omega)]
        simp [List.getD, show k * x + c < X.length by omega]
      · rw [if_neg h, List.getElem_append_right (by simp; omega)]
        simp [List.getD, show min x (X.length - k * x) = x by omega, show k * y + (c - x) < Y.length by omega]

/-- Both lists put in, one behind the other. -/
theorem put_both {X Y l : List Int} {x y B : Nat} {g1 g2 : Nat → Int} (hX : B * x = X.length) (hY : B * y = Y.length) (h1 : ∀ k, k < X.length → g1 k = X.getD k 0) (h2 : ∀ k, k < Y.length → g2 k = Y.getD k 0) :
    (List.range (B * (x + y))).map (putRow y (x + y) x g2 ((List.range (B * (x + y))).map (putRow x (x + y) 0 g1 l X.length)) Y.length) = catN X Y x y B := by
  rw [catN_range X Y x y B hX hY B (Nat.le_refl _)]
  refine map_range_eq fun i hi => ?_
  have ht : 0 < x + y := by
    rcases Nat.eq_zero_or_pos (x + y) with h | h
    · rw [h] at hi; simp at hi
    · exact h
  have hr : i / (x + y) < B := by rw [Nat.div_lt_iff_lt_mul ht]; exact hi
  have hc := Nat.mod_lt i ht
  have hx : i / (x + y) * x + x ≤ X.length := by rw [← hX]; have := Nat.mul_le_mul_right x hr; rwa [Nat.succ_mul] at this
  have hy : i / (x + y) * y + y ≤ Y.length := by rw [← hY]; have := Nat.mul_le_mul_right y hr; rwa [Nat.succ_mul] at this
  unfold putRow joinAt
  by_cases c : i % (x + y) < x
  · rw [if_neg (by omega), if_pos c, map_range_get _ _ _ hi, if_pos ⟨by omega, by omega⟩, Nat.sub_zero, h1 _ (by omega)]
  · rw [if_neg c, if_pos ⟨by omega, by omega⟩, h2 _ (by omega)]

/-- Where the element at place k of an array lies in one whose last axis is longer. -/
theorem place_longer {fr : List Int} {s t off : Nat} (hst : s + off ≤ t) (f : List Int → Nat → Int) (hf : ∀ D i, i < fr.length → f D i = D.getD i 0) (hl : ∀ D, f D fr.length = D.getD fr.length 0 + (off : Int)) (hF : Full (fr ++ [(s : Int)])) (k : Nat) (hk : (k : Int) < prodAll (fr ++ [(s : Int)])) :
    insideN (fr ++ [(t : Int)]) (meant (fr ++ [(t : Int)]) f (digits (fr ++ [(s : Int)]) k)) (fr ++ [(t : Int)]).length = true ∧ place (fr ++ [(t : Int)]) (meant (fr ++ [(t : Int)]) f (digits (fr ++ [(s : Int)]) k)) = ((rowPlace s t off k : Nat) : Int) := by
  have hD := digits_in hF (k : Int)
  have hpl := place_digits hF (p := (k : Int)) (by omega) hk
  have hDl := digits_len (fr ++ [(s : Int)]) (k : Int)
  obtain ⟨D, hDD⟩ : ∃ D, digits (fr ++ [(s : Int)]) (k : Int) = D := ⟨_, rfl⟩
  rw [hDD] at hD hpl hDl ⊢
  have hMg := meant_get (fr ++ [(t : Int)]) f D
  obtain ⟨M, hM⟩ : ∃ M, meant (fr ++ [(t : Int)]) f D = M := ⟨_, rfl⟩
  rw [hM] at hMg ⊢
  have gs : ∀ i, i < fr.length → ∀ z : Int, (fr ++ [z]).getD i 0 = fr.getD i 0 := fun i hi z => by simp [List.getD, List.getElem?_append_left hi]
  have gl : ∀ z : Int, (fr ++ [z]).getD fr.length 0 = z := fun z => by simp [List.getD]
  have hlast := hD fr.length (by simp)
  rw [gl] at hlast
  have ha : M.getD fr.length 0 = D.getD fr.length 0 + (off : Int) := by rw [hMg fr.length (by simp), hl]
  have ho : ∀ i, i < fr.length → M.getD i 0 = D.getD i 0 := fun i hi => by rw [hMg i (by simp; omega), hf D i hi]
  have hin : IxIn (fr ++ [(t : Int)]) M := fun i hi => by
    have hi' : i < fr.length + 1 := by simpa using hi
    by_cases e : i = fr.length
    · subst e; rw [ha, gl]; omega
    · have h1 := hD i (by simp; omega)
      rw [gs i (by omega)] at h1
      rw [gs i (by omega), ho i (by omega)]; exact h1
  refine ⟨inside_of hin _ (Nat.le_refl _), ?_⟩
  have p1 := place_split (fr ++ [(t : Int)]) M fr.length (by simp)
  have p2 := place_split (fr ++ [(s : Int)]) D fr.length (by simp)
  have hd0 : ∀ z : Int, (fr ++ [z]).drop (fr.length + 1) = [] := fun z => by simp
  rw [hd0, gl, ha] at p1
  rw [hd0, gl, hpl] at p2
  have e0 : ∀ ix : List Int, place [] ix = 0 := fun ix => rfl
  have ep : prodAll [] = 1 := rfl
  rw [e0, ep, Int.mul_one, Int.add_zero] at p1 p2
  have hP : placeN (fr ++ [(t : Int)]) M fr.length = placeN (fr ++ [(s : Int)]) D fr.length := by
    have key : ∀ j, j ≤ fr.length → placeN (fr ++ [(t : Int)]) M j = placeN (fr ++ [(s : Int)]) D j := by
      intro j
      induction j with
      | zero => intro _; rfl
      | succ j ih =>
        intro hj
        show placeN (fr ++ [(t : Int)]) M j * _ + _ = placeN (fr ++ [(s : Int)]) D j * _ + _
        rw [ih (by omega), gs j (by omega), gs j (by omega), ho j (by omega)]
    exact key _ (Nat.le_refl _)
  have hP0 := (placeN_bd hD fr.length (by simp)).1
  obtain ⟨p, hp⟩ : ∃ p : Nat, placeN (fr ++ [(s : Int)]) D fr.length = p := ⟨(placeN (fr ++ [(s : Int)]) D fr.length).toNat, by omega⟩
  obtain ⟨j, hj⟩ : ∃ j : Nat, D.getD fr.length 0 = j := ⟨(D.getD fr.length 0).toNat, by omega⟩
  rw [hP, hp, hj] at p1
  rw [hp, hj] at p2
  rw [hj] at hlast
  have hk2 : k = p * s + j := by exact_mod_cast p2
  have hjs : j < s := by omega
  have q1 : k / s = p := by rw [hk2, Nat.mul_comm, Nat.mul_add_div (by omega), Nat.div_eq_of_lt hjs]; omega
  have q2 : k % s = j := by rw [hk2, Nat.mul_comm, Nat.mul_add_mod, Nat.mod_eq_of_lt hjs]
  rw [p1]
  unfold rowPlace
  rw [q1, q2]
  push_cast
  omega

end Go.Proofs.YtkgcmpmgaghdhaaGreatDoor
namespace Go.Proofs.YtkgcmpmgaghdhaaGreatDoor

/-- Blocks of one length, one behind the other. -/
theorem flat_blocks (f : Nat → List Int) (A K : Nat) (h : ∀ i, i < K → (f i).length = A) : ((List.range K).map f).flatten = (List.range (K * A)).map fun t => (f (t / A)).getD (t % A) 0 := by
  induction K with
  | zero => simp
  | succ K ih =>
    rw [List.range_succ, List.map_append, List.flatten_append, ih (fun i hi => h i (by omega)), Nat.add_mul, Nat.one_mul, range_plus, List.map_append, List.map_map]
    congr 1
    have hK := h K (by omega)
    simp only [List.map_cons, List.map_nil, List.flatten_cons, List.flatten_nil, List.append_nil]
    apply List.ext_getElem
    · simp [hK]
    · intro c h1 h2
      have hc : c < A := by simpa using h2
      simp only [List.getElem_map, List.getElem_range, Function.comp]
      rw [show (K * A + c) / A = K by rw [Nat.mul_comm, Nat.mul_add_div (by omega), Nat.div_eq_of_lt hc]; omega, show (K * A + c) % A = c by rw [Nat.mul_comm, Nat.mul_add_mod, Nat.mod_eq_of_lt hc]]
      simp [List.getD, h1]

/-- Which number of the axis is taken at each place of the new one. -/
def repIdx (dt : List Int) (n : Nat) : Nat → List Nat
  | 0 => []
  | m + 1 => repIdx dt n m ++ List.replicate (timesAt dt m).toNat (m % n)

theorem repIdx_lt {dt : List Int} {n : Nat} (hn : 0 < n) (m : Nat) : ∀ j ∈ repIdx dt n m, j < n := by
  induction m with
  | zero => intro j hj; cases hj
  | succ m ih =>
    intro j hj
    simp only [repIdx, List.mem_append, List.mem_replicate] at hj
    rcases hj with hj | ⟨_, rfl⟩
    · exact ih j hj
    · exact Nat.mod_lt _ hn

theorem repIdx_len {dt : List Int} {n : Nat} (m : Nat) (h : ∀ i, 0 ≤ timesAt dt i) : ((repIdx dt n m).length : Int) = timesSum dt m := by
  induction m with
  | zero => rfl
  | succ m ih =>
    have := h m
    simp only [repIdx, timesSum, List.length_append, List.length_replicate]
    omega

theorem repCopies_flat (dt' : List Int) (n A p i c : Nat) : repCopies dt' n A p i c = ((List.replicate c (i % n)).map fun j => (dt'.drop ((p * n + j) * A)).take A).flatten := by
  induction c with
  | zero => rfl
  | succ c ih => rw [List.replicate_succ', List.map_append, List.flatten_append, ← ih]; simp [repCopies, repBlk]

theorem repLine_flat (dt dt' : List Int) (n A p m : Nat) : repLine dt dt' n A p m = ((repIdx dt n m).map fun j => (dt'.drop ((p * n + j) * A)).take A).flatten := by
  induction m with
  | zero => rfl
  | succ m ih => simp only [repLine, repIdx, List.map_append, List.flatten_append]; rw [ih, repCopies_flat]

theorem repAll_flat (dt dt' : List Int) (n A m B : Nat) : repAll dt dt' n A m B = ((List.range B).map fun p => repLine dt dt' n A p m).flatten := by
  induction B with
  | zero => rfl
  | succ B ih => rw [List.range_succ, List.map_append, List.flatten_append, ← ih]; simp [repAll]

theorem map_idx (l : List Nat) (F : Nat → List Int) : l.map F = (List.range l.length).map fun s => F (l.getD s 0) := by
  apply List.ext_getElem
  · simp
  · intro i h1 h2
    have h : i < l.length := by simpa using h1
    simp [List.getD, h]

/-- What stands at each place of the elements taken several times. -/
theorem repAll_at {dt dt' : List Int} {n A m B : Nat} (hn : 0 < n) (hl : B * n * A = dt'.length) : repAll dt dt' n A m B = (List.range (B * ((repIdx dt n m).length * A))).map fun t => dt'.getD ((t / ((repIdx dt n m).length * A) * n + (repIdx dt n m).getD (t % ((repIdx dt n m).length * A) / A) 0) * A + t % ((repIdx dt n m).length * A) % A) 0 := by
  obtain ⟨I, hI⟩ : ∃ I, repIdx dt n m = I := ⟨_, rfl⟩
  have hlt : ∀ s, s < I.length → I.getD s 0 < n := fun s hs => by
    refine repIdx_lt (dt := dt) hn m _ ?_
    rw [hI]
    simp only [List.getD, List.getElem?_eq_getElem hs, Option.getD_some]
    exact List.getElem_mem hs
  have hblk : ∀ p, p < B → ∀ s, s < I.length → ((dt'.drop ((p * n + I.getD s 0) * A)).take A).length = A := fun p hp s hs => by
    have h1 := hlt s hs
    have h2 : (p * n + I.getD s 0 + 1) * A ≤ B * n * A := Nat.mul_le_mul_right _ (by
      have : (p + 1) * n ≤ B * n := Nat.mul_le_mul_right _ hp
      rw [Nat.add_mul, Nat.one_mul] at this
      omega)
    rw [Nat.add_mul, Nat.one_mul, hl] at h2
    rw [List.length_take, List.length_drop]; omega
  have hline : ∀ p, p < B → repLine dt dt' n A p m = (List.range (I.length * A)).map fun t => dt'.getD ((p * n + I.getD (t / A) 0) * A + t % A) 0 := fun p hp => by
    rw [repLine_flat, hI, map_idx I, flat_blocks _ A I.length (fun s hs => hblk p hp s hs)]
    refine map_range_eq fun t ht => ?_
    have hA : 0 < A := by
      rcases Nat.eq_zero_or_pos A with h | h
      · rw [h] at ht; simp at ht
      · exact h
    have hq := Nat.mod_lt t hA
    have e : ((dt'.drop ((p * n + I.getD (t / A) 0) * A)).take A)[t % A]? = dt'[(p * n + I.getD (t / A) 0) * A + t % A]? := by rw [List.getElem?_take_of_lt hq, List.getElem?_drop]
    show (((dt'.drop ((p * n + I.getD (t / A) 0) * A)).take A)[t % A]?).getD 0 = (dt'[(p * n + I.getD (t / A) 0) * A + t % A]?).getD 0
    rw [e]
  rw [repAll_flat, hI, List.map_congr_left (fun p hp => hline p (by simpa using hp))]
  rw [flat_blocks _ (I.length * A) B (fun p _ => by simp)]
  refine map_range_eq fun t ht => ?_
  have hK : 0 < I.length * A := by
    rcases Nat.eq_zero_or_pos (I.length * A) with h | h
    · rw [h] at ht; simp at ht
    · exact h
  rw [map_range_get _ _ _ (Nat.mod_lt t hK)]

end Go.Proofs.YtkgcmpmgaghdhaaGreatDoor
namespace Go.Proofs.YtkgcmpmgaghdhaaGreatDoor

/-- Along axis a the element that I says is meant, along all others the same. -/
def idxF (a : Nat) (I : List Nat) (D : List Int) (i : Nat) : Int := if i = a then ((I.getD (D.getD i 0).toNat 0 : Nat) : Int) else D.getD i 0

theorem split_at {p S s A q t : Nat} (hs : s < S) (hq : q < A) (ht : t = (p * S + s) * A + q) : t / (S * A) = p ∧ t % (S * A) / A = s ∧ t % (S * A) % A = q := by
  have hA : 0 < A := by omega
  have h1 : s * A + q < S * A := by
    have : (s + 1) * A ≤ S * A := Nat.mul_le_mul_right _ hs
    rw [Nat.add_mul, Nat.one_mul] at this
    omega
  have e : t = (S * A) * p + (s * A + q) := by rw [ht, Nat.add_mul, Nat.mul_assoc, Nat.mul_comm p (S * A)]; omega
  have hm : t % (S * A) = s * A + q := by rw [e, Nat.mul_add_mod, Nat.mod_eq_of_lt h1]
  refine ⟨by rw [e, Nat.mul_add_div (by omega), Nat.div_eq_of_lt h1]; omega, ?_, ?_⟩
  · rw [hm, Nat.mul_comm s A, Nat.mul_add_div hA, Nat.div_eq_of_lt hq]; omega
  · rw [hm, Nat.mul_comm s A, Nat.mul_add_mod, Nat.mod_eq_of_lt hq]

theorem idx_gather {d : Bool} {sh dt' : List Int} {a n A : Nat} {I : List Nat} (ha : a < sh.length) (hn : sh.getD a 0 = (n : Int)) (hA : prodAll (sh.drop (a + 1)) = (A : Int)) (hI : ∀ s, s < I.length → I.getD s 0 < n) (hF : Full (sh.set a (I.length : Int))) (t : Nat) (ht : (t : Int) < prodAll (sh.set a (I.length : Int))) :
    (gatherAt d sh dt' (idxF a I) (sh.set a (I.length : Int)) t).1 = dt'.getD ((t / (I.length * A) * n + I.getD (t % (I.length * A) / A) 0) * A + t % (I.length * A) % A) 0 := by
  obtain ⟨ZS, hZS⟩ : ∃ Z, sh.set a (I.length : Int) = Z := ⟨_, rfl⟩
  have lZ : ZS.length = sh.length := by rw [← hZS]; simp
  have gZ : ∀ i, i ≠ a → ZS.getD i 0 = sh.getD i 0 := fun i hi => by rw [← hZS]; simp [List.getD, List.getElem?_set_ne (Ne.symm hi)]
  have gA : ZS.getD a 0 = (I.length : Int) := by rw [← hZS]; simp [List.getD, ha]
  have dZ : ZS.drop (a + 1) = sh.drop (a + 1) := by rw [← hZS]; simp [List.drop_set_of_lt]
  rw [hZS] at hF ht ⊢
  have hD := digits_in hF (t : Int)
  have hpl := place_digits hF (p := (t : Int)) (by omega) ht
  have hDl := digits_len ZS (t : Int)
  obtain ⟨D, hDD⟩ : ∃ D, digits ZS (t : Int) = D := ⟨_, rfl⟩
  rw [hDD] at hD hpl hDl
  have hMg := meant_get sh (idxF a I) D
  have hMl := meant_len sh (idxF a I) D
  obtain ⟨M, hM⟩ : ∃ M, meant sh (idxF a I) D = M := ⟨_, rfl⟩
  rw [hM] at hMg hMl
  have hDa := hD a (by omega)
  rw [gA] at hDa
  obtain ⟨s, hs⟩ : ∃ s : Nat, D.getD a 0 = s := ⟨(D.getD a 0).toNat, by omega⟩
  rw [hs] at hDa
  have hsI : s < I.length := by omega
  have hoth : ∀ i, i < sh.length → i ≠ a → M.getD i 0 = D.getD i 0 := fun i hi hne => by rw [hMg i hi]; unfold idxF; rw [if_neg hne]
  have hat : M.getD a 0 = ((I.getD s 0 : Nat) : Int) := by rw [hMg a ha]; unfold idxF; rw [if_pos rfl, hs]; simp
  have hMin : IxIn sh M := fun i hi => by
    by_cases e : i = a
    · subst e; rw [hat, hn]; have := hI s hsI; omega
    · rw [hoth i hi e]; have := hD i (by omega); rwa [gZ i e] at this
  have hdrop : M.drop (a + 1) = D.drop (a + 1) := by
    apply List.ext_getElem
    · simp; omega
    · intro i h1 h2
      have hi : a + 1 + i < sh.length := by simp at h1; omega
      have := hoth (a + 1 + i) hi (by omega)
      simp only [List.getElem_drop]
      simpa [List.getD, show a + 1 + i < M.length by omega, show a + 1 + i < D.length by omega] using this
  have hsp := place_split sh M a ha
  have hsd := place_split ZS D a (by omega)
  have hP : placeN sh M a = placeN ZS D a := by
    have key : ∀ j, j ≤ a → placeN sh M j = placeN ZS D j := by
      intro j
      induction j with
      | zero => intro _; rfl
      | succ j ih =>
        intro hj
        show placeN sh M j * _ + _ = placeN ZS D j * _ + _
        rw [ih (by omega), gZ j (by omega), hoth j (by omega) (by omega)]
    exact key a (Nat.le_refl _)
  rw [hP, hat, hdrop, hn, hA] at hsp
  rw [hpl, gA, hs, dZ, hA] at hsd
  have hrest : IxIn (sh.drop (a + 1)) (D.drop (a + 1)) := fun i hi => by
    have h0 : a + 1 + i < sh.length := by simp at hi; omega
    have := hD (a + 1 + i) (by omega)
    rw [gZ _ (by omega)] at this
    rw [getD_drop, getD_drop]; exact this
  have hq := place_bd hrest
  rw [hA] at hq
  have hP0 := (placeN_bd hD a (by omega)).1
  obtain ⟨p, hp⟩ : ∃ p : Nat, placeN ZS D a = p := ⟨(placeN ZS D a).toNat, by omega⟩
  obtain ⟨q, hq'⟩ : ∃ q : Nat, place (sh.drop (a + 1)) (D.drop (a + 1)) = q := ⟨(place (sh.drop (a + 1)) (D.drop (a + 1))).toNat, by omega⟩
  rw [hp, hq'] at hsd hsp
  rw [hq'] at hq
  have hts : t = (p * I.length + s) * A + q := by exact_mod_cast hsd
  obtain ⟨e1, e2, e3⟩ := split_at hsI (show q < A by omega) hts
  have hpm : place sh M = (((p * n + I.getD s 0) * A + q : Nat) : Int) := by rw [hsp]; push_cast; rfl
  unfold gatherAt
  rw [hDD, hM, if_pos (inside_of hMin _ (Nat.le_refl _)), hpm, e1, e2, e3, Int.toNat_natCast]

end Go.Proofs.YtkgcmpmgaghdhaaGreatDoor
namespace Go.Proofs.YtkgcmpmgaghdhaaGreatDoor

/-- The shape that Replicate takes an array to have. -/
def repSh (sh' : List Int) : List Int := if sh' = [] then [1] else sh'
def repAx (W : List Int) (fl : Bool) : Nat := if fl then 0 else W.length - 1
def repN (sh' : List Int) (fl : Bool) : Nat := (axisN (repSh sh') fl).toNat
def repM (dt sh' : List Int) (fl : Bool) : Nat := repCount (repN sh' fl) dt.length
def repZS (dt sh' : List Int) (fl : Bool) : List Int := (repSh sh').set (repAx (repSh sh') fl) (timesSum dt (repM dt sh' fl))

def replicateA (c d : Bool) (sh dt sh' dt' : List Int) (fl : Bool) : Ans :=
  if arrOk c sh dt = true ∧ arrOk d sh' dt' = true then
    if listCode c sh.length ≠ 0 then noAns (listCode c sh.length)
    else if repN sh' fl ≠ 1 ∧ dt.length ≠ 1 ∧ dt.length ≠ repN sh' fl then noAns 5
    else if dt.all nonNeg = false then noAns 3
    else if 10000 < timesSum dt (repM dt sh' fl) ∨ shapeB (repZS dt sh' fl) = false then noAns 7
    else ⟨d, repZS dt sh' fl, repAll dt dt' (repN sh' fl) (axisA (repSh sh') fl).toNat (repM dt sh' fl) (axisB (repSh sh') fl).toNat, 0⟩
  else noAns 3

section
variable {c d : Bool} {sh dt sh' dt' : List Int} {fl : Bool}
theorem rep_bad1 (h : arrOk c sh dt = false) : replicateA c d sh dt sh' dt' fl = noAns 3 := by unfold replicateA; rw [if_neg (by simp [h])]
theorem rep_bad2 (h : arrOk d sh' dt' = false) : replicateA c d sh dt sh' dt' fl = noAns 3 := by unfold replicateA; rw [if_neg (by simp [h])]
theorem rep_list (h1 : arrOk c sh dt = true) (h2 : arrOk d sh' dt' = true) (r : Int) (hr : listCode c sh.length = r) (h0 : r ≠ 0) : replicateA c d sh dt sh' dt' fl = noAns r := by
  unfold replicateA; rw [if_pos ⟨h1, h2⟩, hr, if_pos h0]
theorem rep_len (h1 : arrOk c sh dt = true) (h2 : arrOk d sh' dt' = true) (hr : listCode c sh.length = 0) (hl : repN sh' fl ≠ 1 ∧ dt.length ≠ 1 ∧ dt.length ≠ repN sh' fl) : replicateA c d sh dt sh' dt' fl = noAns 5 := by
  unfold replicateA; rw [if_pos ⟨h1, h2⟩, if_neg (by simp [hr]), if_pos hl]
theorem rep_neg (h1 : arrOk c sh dt = true) (h2 : arrOk d sh' dt' = true) (hr : listCode c sh.length = 0) (hl : ¬ (repN sh' fl ≠ 1 ∧ dt.length ≠ 1 ∧ dt.length ≠ repN sh' fl)) (hn : dt.all nonNeg = false) : replicateA c d sh dt sh' dt' fl = noAns 3 := by
  unfold replicateA; rw [if_pos ⟨h1, h2⟩, if_neg (by simp [hr]), if_neg hl, if_pos hn]
theorem rep_big (h1 : arrOk c sh dt = true) (h2 : arrOk d sh' dt' = true) (hr : listCode c sh.length = 0) (hl : ¬ (repN sh' fl ≠ 1 ∧ dt.length ≠ 1 ∧ dt.length ≠ repN sh' fl)) (hn : dt.all nonNeg = true) (hb : 10000 < timesSum dt (repM dt sh' fl) ∨ shapeB (repZS dt sh' fl) = false) : replicateA c d sh dt sh' dt' fl = noAns 7 := by
  unfold replicateA; rw [if_pos ⟨h1, h2⟩, if_neg (by simp [hr]), if_neg hl, if_neg (by simp [hn]), if_pos hb]
theorem rep_go (h1 : arrOk c sh dt = true) (h2 : arrOk d sh' dt' = true) (hr : listCode c sh.length = 0) (hl : ¬ (repN sh' fl ≠ 1 ∧ dt.length ≠ 1 ∧ dt.length ≠ repN sh' fl)) (hn : dt.all nonNeg = true) (hb : ¬ (10000 < timesSum dt (repM dt sh' fl) ∨ shapeB (repZS dt sh' fl) = false)) :
    replicateA c d sh dt sh' dt' fl = ⟨d, repZS dt sh' fl, repAll dt dt' (repN sh' fl) (axisA (repSh sh') fl).toNat (repM dt sh' fl) (axisB (repSh sh') fl).toNat, 0⟩ := by
  unfold replicateA; rw [if_pos ⟨h1, h2⟩, if_neg (by simp [hr]), if_neg hl, if_neg (by simp [hn]), if_neg hb]
end

end Go.Proofs.YtkgcmpmgaghdhaaGreatDoor
namespace Go.Proofs.YtkgcmpmgaghdhaaGreatDoor

def memV (c d : Bool) (dt dt' : List Int) : List Int := vals (fun k => (truth (decide (firstOf c dt (dt'.getD k 0) d < dt.length)), 0)) dt'.length
def finV (c d : Bool) (dt dt' : List Int) : List Int := vals (fun k => ((firstOf c dt (dt'.getD k 0) d : Int) + 1, 0)) dt'.length

theorem code_none {f : Nat → Int × Int} {n : Nat} (h : ∀ k, (f k).2 = 0) : firstCode f n = 0 := by
  induction n with
  | zero => rfl
  | succ n ih => exact code_step ih (h n)

theorem member_there {c d : Bool} {sh dt sh' dt' : List Int} (h1 : arrOk c sh dt = true) (h2 : arrOk d sh' dt' = true) : member d c sh' dt' sh dt = ⟨false, sh', memV c d dt dt', 0⟩ := by
  unfold member; rw [if_pos ⟨h2, h1⟩, gather_good (code_none fun _ => rfl)]; rfl

theorem find_there {c d : Bool} {sh dt sh' dt' : List Int} (h1 : arrOk c sh dt = true) (h2 : arrOk d sh' dt' = true) (hl : sh.length = 1) : find c d sh dt sh' dt' = ⟨false, sh', finV c d dt dt', 0⟩ := by
  unfold find; rw [if_pos ⟨h1, h2⟩, if_neg (by simp [hl]), gather_good (code_none fun _ => rfl)]; rfl

theorem arr_len {c : Bool} {sh dt : List Int} (h : arrOk c sh dt = true) : sh.length ≤ 5 ∧ countOf sh = (dt.length : Int) := by
  unfold arrOk at h
  simp only [Bool.and_eq_true, decide_eq_true_eq] at h
  exact ⟨h.1, h.2.1⟩

theorem count_le (sh : List Int) : countOf sh ≤ 10000 := by
  unfold countOf
  split
  · rename_i ha
    split
    · omega
    · rename_i m hm
      have := prodFrom_bd sh 1 m ha (by omega) (by omega) hm
      split <;> omega
  · omega

theorem arr_nums {c : Bool} {sh dt zs : List Int} (h : arrOk c sh dt = true) (hl : zs.length = dt.length) (hz : ∀ x ∈ zs, -1000000000000000 ≤ x ∧ x ≤ 1000000000000000) : arrOk false sh zs = true := by
  obtain ⟨h5, hc⟩ := arr_len h
  unfold arrOk
  rw [decide_eq_true h5, decide_eq_true (by rw [hc, hl]), Bool.true_and, Bool.true_and, List.all_eq_true]
  intro x hx
  have := hz x hx
  simp [dataOk]
  omega

theorem fin_ok {c d : Bool} {sh dt sh' dt' : List Int} (h1 : arrOk c sh dt = true) (h2 : arrOk d sh' dt' = true) : arrOk false sh' (finV c d dt dt') = true := by
  refine arr_nums h2 (vals_len _ _) fun x hx => ?_
  unfold finV vals at hx
  obtain ⟨i, _, rfl⟩ := List.mem_map.1 hx
  have := first_le c dt (dt'.getD i 0) d
  have h3 := (arr_len h1).2
  have h4 := count_le sh
  simp only
  omega

theorem one_ok (v : Int) (h : -1000000000000000 ≤ v ∧ v ≤ 1000000000000000) : arrOk false [] [v] = true := by
  unfold arrOk
  simp [countOf, prodFrom, dataOk, h]

theorem le_there {c d : Bool} {sh dt sh' dt' : List Int} (h1 : arrOk c sh dt = true) (h2 : arrOk d sh' dt' = true) (n : Nat) (hn : dt.length = n) : scalar2 12 false false sh' (finV c d dt dt') [] [(n : Int)] = ⟨false, sh', memV c d dt dt', 0⟩ := by
  subst hn
  have h3 := (arr_len h1).2
  have h4 := count_le sh
  have h5 := (arr_len h2).2
  have hL : (finV c d dt dt').length = dt'.length := vals_len _ _
  unfold scalar2
  rw [if_pos ⟨fin_ok h1 h2, one_ok _ (by omega), rfl⟩]
  have hw : wideB sh'.length (finV c d dt dt').length ([] : List Int).length [((dt.length : Nat) : Int)].length = false := by
    unfold wideB
    simp
  simp only [hw]
  rw [if_neg (by simp), if_neg (by simp), if_neg (by simp)]
  simp only [Bool.false_eq_true, if_false, h5, hL, Int.toNat_natCast]
  have e : ∀ k, k < dt'.length → elemOf 12 false (finV c d dt dt') (k % dt'.length) false [((dt.length : Nat) : Int)] (k % [((dt.length : Nat) : Int)].length) = (truth (decide (firstOf c dt (dt'.getD k 0) d < dt.length)), 0) := fun k hk => by
    have hf : (finV c d dt dt').getD k 0 = (firstOf c dt (dt'.getD k 0) d : Int) + 1 := by
      unfold finV vals
      simp [List.getD, hk]
    unfold elemOf
    rw [if_neg (by simp), Nat.mod_eq_of_lt hk, hf]
    have ht := truth_bd (decide ((firstOf c dt (dt'.getD k 0) d : Int) + 1 ≤ ((dt.length : Nat) : Int)))
    have ee : decide ((firstOf c dt (dt'.getD k 0) d : Int) + 1 ≤ ((dt.length : Nat) : Int)) = decide (firstOf c dt (dt'.getD k 0) d < dt.length) := by
      apply decide_eq_decide.mpr
      omega
    simp only [List.length_singleton, Nat.mod_one, List.getD_cons_zero]
    unfold twoOf limited orderOf
    simp only [show (12 : Int) = 1 ↔ False by decide, show (12 : Int) = 2 ↔ False by decide, show (12 : Int) = 3 ↔ False by decide, show (12 : Int) = 4 ↔ False by decide, show (12 : Int) = 7 ↔ False by decide, show (12 : Int) = 8 ↔ False by decide, show (12 : Int) = 15 ↔ False by decide, show (12 : Int) = 16 ↔ False by decide, show (12 : Int) = 5 ↔ False by decide, show (12 : Int) = 6 ↔ False by decide, show (12 : Int) = 9 ↔ False by decide, show (12 : Int) = 10 ↔ False by decide, show (12 : Int) = 11 ↔ False by decide, show (12 : Int) = 13 ↔ False by decide, or_self, if_false, if_true]
    rw [if_pos ⟨trivial, inM_of (by omega) (by omega)⟩, ee]
  have e2 : ∀ m, m ≤ dt'.length → firstCode (fun i => elemOf 12 false (finV c d dt dt') (i % dt'.length) false [((dt.length : Nat) : Int)] (i % [((dt.length : Nat) : Int)].length)) m = 0 := fun m => by
    induction m with
    | zero => intro _; rfl
    | succ m ih => intro hm; exact code_step (ih (by omega)) (by rw [e m (by omega)])
  rw [gather_good (e2 _ (Nat.le_refl _))]
  congr 1
  unfold memV vals
  apply List.map_congr_left
  intro i hi
  exact congrArg Prod.fst (e i (List.mem_range.1 hi))

theorem times_one (m : Nat) : timesSum [1] m = (m : Int) := by
  induction m with
  | zero => rfl
  | succ m ih => simp [timesSum, timesAt, ih, Nat.mod_one]

theorem line_one {dt : List Int} {n : Nat} (m : Nat) (hm : m ≤ n) : repLine [1] dt n 1 0 m = dt.take m := by
  induction m with
  | zero => simp [repLine]
  | succ m ih =>
    rw [repLine, ih (by omega)]
    have h1 : (timesAt [1] m).toNat = 1 := by simp [timesAt, Nat.mod_one]
    rw [h1]
    simp only [repCopies, List.nil_append, repBlk, Nat.zero_mul, Nat.zero_add, Nat.mul_one, Nat.mod_eq_of_lt (show m < n by omega)]
    rw [List.take_add]

theorem rep_there {c : Bool} {dt : List Int} {n : Nat} (hn : dt.length = n) (h1 : arrOk c [(n : Int)] dt = true) : replicateA false c [] [1] [(n : Int)] dt false = ⟨c, [(n : Int)], dt, 0⟩ := by
  have h3 := (arr_len h1).2
  have h4 := count_le [(n : Int)]
  have hs : repSh [(n : Int)] = [(n : Int)] := by simp [repSh]
  have hN : repN [(n : Int)] false = n := by simp [repN, hs, axisN, axisAt]
  have hM : repM [1] [(n : Int)] false = n := by
    simp only [repM, hN, repCount, List.length_singleton]
    split <;> omega
  have hZ : repZS [1] [(n : Int)] false = [(n : Int)] := by simp [repZS, hs, repAx, hM, times_one]
  have hsb : shapeB [(n : Int)] = true := by
    unfold shapeB
    rw [h3]
    simp
  rw [rep_go (one_ok 1 (by omega)) h1 rfl (by simp) rfl (by rw [hM, times_one, hZ, hsb]; simp; omega), hZ, hM, hN, hs]
  have hA : (axisA [(n : Int)] false).toNat = 1 := by simp [axisA, axisAt, prodAll]
  have hB : (axisB [(n : Int)] false).toNat = 1 := by simp [axisB, axisAt, prodAll]
  rw [hA, hB]
  simp only [repAll, List.nil_append]
  rw [line_one n (Nat.le_refl _), ← hn, List.take_length]

theorem line_shapeT {c : Bool} {sh dt : List Int} (h : arrOk c sh dt = true) (hn : sh.length = 1) : sh = [(dt.length : Int)] := by
  have h1 := (arr_len h).2
  obtain ⟨x, rfl⟩ : ∃ x, sh = [x] := by
    cases sh with
    | nil => simp at hn
    | cons x t => cases t with
      | nil => exact ⟨x, rfl⟩
      | cons y u => simp at hn
  have hsb : shapeB [x] = true := by unfold shapeB; rw [decide_eq_true (by simp), h1]; simp
  have h2 := prodAll_count _ hsb
  rw [h1] at h2
  have h3 : prodAll [x] = x := by simp [prodAll]
  rw [← h2, h3]

end Go.Proofs.YtkgcmpmgaghdhaaGreatDoor
namespace Go.Proofs.YtkgcmpmgaghdhaaGreatDoor
open Go.RowKit

/-- The slice (a, n, _) reads as the numbers zs. -/
structure Row (w : World) (a : Option Addr) (n : Nat) (zs : List Int) : Prop where
  len : zs.length = n
  small : n ≤ 17592186044416
  at_ : n = 0 ∨ ∃ b off, a = some ⟨b, off, none⟩ ∧ b < w.heap.size ∧ ∀ i, i < n → w.cell? ⟨b, off + i, none⟩ = some (.int .i64 (zs.getD i 0))

theorem Row.below {w w' : World} {a : Option Addr} {n : Nat} {zs : List Int} {B : Nat} (h : Row w a n zs) (hB : w.heap.size ≤ B) (hb : Below B w w') : Row w' a n zs := by
  refine ⟨h.len, h.small, ?_⟩
  rcases h.at_ with h0 | ⟨b, off, rfl, hlt, hc⟩
  · exact .inl h0
  · exact .inr ⟨b, off, rfl, Nat.lt_of_lt_of_le hlt hb.size, fun i hi => (hb.cell (p := ⟨b, off + i, none⟩) (Nat.lt_of_lt_of_le hlt hB)).trans (hc i hi)⟩

/-- Block g holds just the numbers zs. -/
def Blk (w : World) (g : Nat) (zs : List Int) : Prop := w.heap[g]? = some (.cells (zs.map (Value.int .i64)).toArray 3 (0, 0))

theorem Blk.lt {w : World} {g : Nat} {zs : List Int} (h : Blk w g zs) : g < w.heap.size := lt_of_block h

theorem Blk.cell {w : World} {g : Nat} {zs : List Int} (h : Blk w g zs) {i : Nat} (hi : i < zs.length) : w.cell? ⟨g, i, none⟩ = some (.int .i64 (zs.getD i 0)) := by
  unfold Blk at h
  simp [World.cell?, h, hi]

theorem Blk.free {w : World} {g : Nat} {zs : List Int} (h : Blk w g zs) (i : Nat) : w.frozen? ⟨g, i, none⟩ = false := frozen_of_row w g i _ _ h

theorem Blk.row {w : World} {g n : Nat} {zs : List Int} (h : Blk w g zs) (hn : zs.length = n) (hs : n ≤ 17592186044416) : Row w (some ⟨g, 0, none⟩) n zs :=
  ⟨hn, hs, .inr ⟨g, 0, rfl, h.lt, fun i hi => by simpa using h.cell (i := i) (by omega)⟩⟩

theorem Blk.below {w w' : World} {g : Nat} {zs : List Int} {B : Nat} (h : Blk w g zs) (hB : w.heap.size ≤ B) (hb : Below B w w') : Blk w' g zs := (hb.block g (Nat.lt_of_lt_of_le h.lt hB)).trans h

theorem Blk.set {w : World} {g : Nat} {zs : List Int} (h : Blk w g zs) (i : Nat) (x : Int) : Blk (w.setCell ⟨g, i, none⟩ (.int .i64 x)) g (zs.set i x) := by
  unfold Blk at h ⊢
  rw [heap_setCell_same w g i _ _ _ h]
  simp [List.map_set]

theorem Blk.of_owns {w : World} {base g n : Nat} {zs : List Int} (h : w.ownsRow base 3 1 (.slice (some ⟨g, 0, none⟩) n n) n (zs.map (Value.int .i64))) : Blk w g zs := by
  rcases h.2 with ⟨h', _⟩ | ⟨g', cap', cur, h', _, hg, _, _, hs, ht⟩
  · simp at h'
  · simp only [Value.slice.injEq, Option.some.injEq, Addr.mk.injEq, and_true, true_and] at h'
    obtain ⟨rfl, rfl⟩ := h'
    unfold Blk
    rw [hg, ← ht, List.take_of_length_le (by simp; omega)]

theorem Blk.other {w : World} {g : Nat} {zs : List Int} (h : Blk w g zs) {p : Addr} (hp : g ≠ p.block) (v : Value) : Blk (w.setCell p v) g zs := (heap_setCell_other w p g v hp).trans h
theorem Blk.drew {w : World} {g : Nat} {zs : List Int} (h : Blk w g zs) : Blk w.drew g zs := h
theorem Blk.alloc {w : World} {g : Nat} {zs : List Int} (h : Blk w g zs) (o : Obj) : Blk (w.alloc o) g zs := (Below.heap_alloc w o g h.lt).trans h

theorem bcell {W w1 : World} (hb : Below W.heap.size W w1) : (∀ b o, b < W.heap.size → w1.cell? ⟨b, o, none⟩ = W.cell? ⟨b, o, none⟩) ∧ (∀ b o, b < W.heap.size → w1.frozen? ⟨b, o, none⟩ = W.frozen? ⟨b, o, none⟩) :=
  ⟨fun b o h => hb.cell (p := ⟨b, o, none⟩) h, fun b o h => hb.frozen (p := ⟨b, o, none⟩) h⟩

theorem hide {p : Prop} (h : p) : Hid p := h
theorem unhide {p : Prop} (h : Hid p) : p := h
theorem ret_bool {a b : Bool} (h : a = b) : Ending.returned (.bool a) = .returned (.bool b) := by rw [h]
theorem ret_int {k : IntKind} {a b : Int} (h : a = b) : Ending.returned (.int k a) = .returned (.int k b) := by rw [h]
theorem ret_ib {a a' : Int} {b b' : Bool} (ha : a = a') (hb : b = b') : Ending.returned (.tuple #[.int .i64 a, .bool b]) = .returned (.tuple #[.int .i64 a', .bool b']) := by rw [ha, hb]
theorem ret_two {a b a' b' : Int} (ha : a = a') (hb : b = b') : Ending.returned (.tuple #[.int .i64 a, .int .i64 b]) = .returned (.tuple #[.int .i64 a', .int .i64 b']) := by rw [ha, hb]

end Go.Proofs.YtkgcmpmgaghdhaaGreatDoor
namespace Go.Proofs.YtkgcmpmgaghdhaaGreatDoor
open Go.RowKit

theorem info_int : (Tryz.prog.info? 3).map (fun i => (i.zero, i.size, i.bytes)) = some (some (.int .i64 0), 1, 8) := by kernel_rfl

theorem take_set (zs : List Int) (m k : Nat) (h : k < zs.length) : (zs.take k ++ List.replicate (m + 1) (0 : Int)).set k (zs.getD k 0) = zs.take (k + 1) ++ List.replicate m 0 := by
  have hk : (zs.take k).length = k := by simp; omega
  have hx : zs.getD k 0 = zs[k] := by simp [h]
  rw [List.replicate_succ, List.set_append_right _ _ (by omega), hk, Nat.sub_self, List.set_cons_zero, hx, List.take_succ_eq_append_getElem h, List.append_assoc]
  rfl

end Go.Proofs.YtkgcmpmgaghdhaaGreatDoor
namespace Go.Proofs.YtkgcmpmgaghdhaaGreatDoor
open Go.RowKit

/-- The slice (a, n, _) reads as the numbers zs, lies in a block from B on, and may be written. -/
structure Own (w : World) (B : Nat) (a : Option Addr) (n : Nat) (zs : List Int) : Prop where
  len : zs.length = n
  small : n ≤ 17592186044416
  at_ : n = 0 ∨ ∃ g off, a = some ⟨g, off, none⟩ ∧ B ≤ g ∧ g < w.heap.size ∧ (∀ i, i < n → w.cell? ⟨g, off + i, none⟩ = some (.int .i64 (zs.getD i 0))) ∧ (∀ i, i < n → w.frozen? ⟨g, off + i, none⟩ = false)

theorem Own.row {w : World} {B : Nat} {a : Option Addr} {n : Nat} {zs : List Int} (h : Own w B a n zs) : Row w a n zs := by
  refine ⟨h.len, h.small, ?_⟩
  rcases h.at_ with h0 | ⟨g, off, rfl, _, hlt, hc, _⟩
  · exact .inl h0
  · exact .inr ⟨g, off, rfl, hlt, hc⟩

theorem Own.mono {w : World} {B B' : Nat} {a : Option Addr} {n : Nat} {zs : List Int} (h : Own w B a n zs) (hB : B' ≤ B) : Own w B' a n zs := by
  refine ⟨h.len, h.small, ?_⟩
  rcases h.at_ with h0 | ⟨g, off, rfl, hg, r⟩
  · exact .inl h0
  · exact .inr ⟨g, off, rfl, by omega, r⟩

theorem Own.below {w w' : World} {a : Option Addr} {n : Nat} {zs : List Int} {B C : Nat} (h : Own w C a n zs) (hB : w.heap.size ≤ B) (hb : Below B w w') : Own w' C a n zs := by
  refine ⟨h.len, h.small, ?_⟩
  rcases h.at_ with h0 | ⟨g, off, rfl, hg, hlt, hc, hf⟩
  · exact .inl h0
  · exact .inr ⟨g, off, rfl, hg, Nat.lt_of_lt_of_le hlt hb.size, fun i hi => (hb.cell (p := ⟨g, off + i, none⟩) (Nat.lt_of_lt_of_le hlt hB)).trans (hc i hi), fun i hi => (hb.frozen (p := ⟨g, off + i, none⟩) (Nat.lt_of_lt_of_le hlt hB)).trans (hf i hi)⟩

theorem Blk.own {w : World} {B g n : Nat} {zs : List Int} (h : Blk w g zs) (hn : zs.length = n) (hs : n ≤ 17592186044416) (hg : B ≤ g) : Own w B (some ⟨g, 0, none⟩) n zs :=
  ⟨hn, hs, .inr ⟨g, 0, rfl, hg, h.lt, fun i hi => by simpa using h.cell (i := i) (by omega), fun i hi => h.free _⟩⟩

/-- Block k holds cells of the slice (a, n, _). -/
def At (a : Option Addr) (n k : Nat) : Prop := n ≠ 0 ∧ ∃ p, a = some p ∧ p.block = k

theorem at_self {g off n : Nat} (h : n ≠ 0) : At (some ⟨g, off, none⟩) n g := ⟨h, _, rfl, rfl⟩
theorem at_eq {g off n k : Nat} (h : At (some ⟨g, off, none⟩) n k) : g = k := by obtain ⟨_, p, hp, hk⟩ := h; cases hp; exact hk

/-- w' is w but for the blocks in S, and for new ones. -/
structure But (S : Nat → Prop) (w w' : World) : Prop where
  os : w'.os = w.os
  tape : w'.tape = w.tape
  output : w'.output = w.output
  size : w.heap.size ≤ w'.heap.size
  block : ∀ k, k < w.heap.size → ¬ S k → w'.heap[k]? = w.heap[k]?

theorem But.refl (S : Nat → Prop) (w : World) : But S w w := ⟨rfl, rfl, rfl, Nat.le_refl _, fun _ _ _ => rfl⟩

theorem But.trans {S T : Nat → Prop} {w w1 w2 : World} (h : But S w w1) (k : But T w1 w2) : But (fun x => S x ∨ T x) w w2 :=
  ⟨k.os.trans h.os, k.tape.trans h.tape, k.output.trans h.output, Nat.le_trans h.size k.size, fun i hi hn => (k.block i (Nat.lt_of_lt_of_le hi h.size) (fun e => hn (.inr e))).trans (h.block i hi (fun e => hn (.inl e)))⟩

theorem But.mono {S T : Nat → Prop} {w w1 : World} (h : But S w w1) (hs : ∀ k, S k → T k) : But T w w1 := ⟨h.os, h.tape, h.output, h.size, fun k hk hn => h.block k hk (fun e => hn (hs k e))⟩

theorem But.of_below {S : Nat → Prop} {w w' : World} (h : Below w.heap.size w w') : But S w w' := ⟨h.os, h.tape, h.output, h.size, fun k hk _ => h.block k hk⟩

theorem But.setCell {S : Nat → Prop} {w w' : World} (h : But S w w') {p : Addr} (hp : S p.block) (v : Value) : But S w (w'.setCell p v) :=
  ⟨h.os, h.tape, h.output, by simpa using h.size, fun k hk hn => by
    rw [heap_setCell_other w' p k v (fun e => hn (by rw [e]; exact hp))]
    exact h.block k hk hn⟩

theorem But.alloc {S : Nat → Prop} {w w' : World} (h : But S w w') (o : Obj) : But S w (w'.alloc o) :=
  ⟨h.os, h.tape, h.output, by have := h.size; simp; omega, fun k hk hn => (Below.heap_alloc w' o k (Nat.lt_of_lt_of_le hk h.size)).trans (h.block k hk hn)⟩

theorem But.below {S : Nat → Prop} {B : Nat} {w w' : World} (h : But S w w') (hB : B ≤ w.heap.size) (hs : ∀ k, S k → B ≤ k) : Below B w w' :=
  ⟨h.os, h.tape, h.output, h.size, fun k hk => h.block k (Nat.lt_of_lt_of_le hk hB) (fun e => by have := hs k e; omega)⟩

/-- Two slices with cells lie in different blocks. -/
def Apart (a : Option Addr) (n : Nat) (b : Option Addr) (m : Nat) : Prop := ∀ k, At a n k → ¬ At b m k

theorem Apart.symm {a b : Option Addr} {n m : Nat} (h : Apart a n b m) : Apart b m a n := fun k h1 h2 => h k h2 h1

theorem But.own {S : Nat → Prop} {b : Option Addr} {m B : Nat} {w w' : World} {ys : List Int} (h : But S w w') (ho : Own w B b m ys) (hap : ∀ k, S k → ¬ At b m k) : Own w' B b m ys := by
  refine ⟨ho.len, ho.small, ?_⟩
  rcases ho.at_ with h0 | ⟨g, off, rfl, hg, hlt, hc, hf⟩
  · exact .inl h0
  · by_cases hm : m = 0
    · exact .inl hm
    have hb := h.block g hlt (fun e => hap g e ⟨hm, _, rfl, rfl⟩)
    exact .inr ⟨g, off, rfl, hg, Nat.lt_of_lt_of_le hlt h.size, fun i hi => (World.cell?_of_block (w := w) (a := ⟨g, off + i, none⟩) hb).trans (hc i hi), fun i hi => (World.frozen?_of_block (w := w) (a := ⟨g, off + i, none⟩) hb).trans (hf i hi)⟩

theorem But.row {S : Nat → Prop} {b : Option Addr} {m : Nat} {w w' : World} {ys : List Int} (h : But S w w') (ho : Row w b m ys) (hap : ∀ k, S k → ¬ At b m k) : Row w' b m ys := by
  refine ⟨ho.len, ho.small, ?_⟩
  rcases ho.at_ with h0 | ⟨g, off, rfl, hlt, hc⟩
  · exact .inl h0
  · by_cases hm : m = 0
    · exact .inl hm
    have hb := h.block g hlt (fun e => hap g e ⟨hm, _, rfl, rfl⟩)
    exact .inr ⟨g, off, rfl, Nat.lt_of_lt_of_le hlt h.size, fun i hi => (World.cell?_of_block (w := w) (a := ⟨g, off + i, none⟩) hb).trans (hc i hi)⟩

theorem Own.low {w : World} {B : Nat} {a : Option Addr} {n : Nat} {zs : List Int} (h : Own w B a n zs) {k : Nat} (hk : At a n k) : B ≤ k := by
  rcases h.at_ with h0 | ⟨g, off, rfl, hg, _⟩
  · exact absurd h0 hk.1
  · have := at_eq hk; omega

theorem Row.hi {w : World} {a : Option Addr} {n : Nat} {zs : List Int} (h : Row w a n zs) {k : Nat} (hk : At a n k) : k < w.heap.size := by
  rcases h.at_ with h0 | ⟨g, off, rfl, hg, _⟩
  · exact absurd h0 hk.1
  · have := at_eq hk; omega

/-- n marks from k on. -/
def marks (k : Int) (n : Nat) : List Int := (List.range n).map fun (i : Nat) => k + (i : Int)

theorem marks_len (k : Int) (n : Nat) : (marks k n).length = n := by simp [marks]
theorem marks_get (k : Int) (n i : Nat) (h : i < n) : (marks k n).getD i 0 = k + i := by simp [marks, h]

end Go.Proofs.YtkgcmpmgaghdhaaGreatDoor
namespace Go.Proofs.YtkgcmpmgaghdhaaGreatDoor
open Go.RowKit

set_option maxHeartbeats 400000 in
theorem markIntS_any (a : Option Addr) (n cap B : Nat) (zs : List Int) (k : Int) (w : World) (h : Own w B a n zs) (hk0 : 0 ≤ k) (hk : k ≤ 4611686018427387904) :
    Calls Tryz.prog 99 #[.slice a n cap, .int .i64 k] w fun e w' => e = .returned (.int .i64 (k + n)) ∧ Own w' B a n (marks k n) ∧ But (At a n) w w' := by
  obtain ⟨hlen, hsm, hat⟩ := h
  go_enter Tryz.func99, Tryz.ntmps99
  go_wp2
  go_loopw [1, 5] (fun c i wr => ∃ j : Nat, j ≤ n ∧ i = .int .i64 j ∧ c = .int .i64 (k + j) ∧ But (At a n) w wr ∧
    (n = 0 ∨ ∃ g off, a = some ⟨g, off, none⟩ ∧ B ≤ g ∧ g < wr.heap.size ∧ (∀ i, i < j → wr.cell? ⟨g, off + i, none⟩ = some (.int .i64 (k + i))) ∧ (∀ i, i < n → (wr.cell? ⟨g, off + i, none⟩).isSome = true) ∧ (∀ i, i < n → wr.frozen? ⟨g, off + i, none⟩ = false))) (fun _ i _ => n - (intOf i).toNat)
  case atStart =>
    refine ⟨0, Nat.zero_le _, rfl, by simp, But.refl _ _, ?_⟩
    rcases hat with h0 | ⟨g, off, rfl, hg, hlt, hc, hf⟩
    · exact .inl h0
    · exact .inr ⟨g, off, rfl, hg, hlt, fun i hi => absurd hi (Nat.not_lt_zero _), fun i hi => by rw [hc i hi]; rfl, hf⟩
  case round =>
    obtain ⟨j, hj, rfl, rfl, hbut, hst⟩ := hrel
    by_cases hlt : j < n
    · rcases hst with h0 | ⟨g, off, rfl, hg, hgl, hc, hs, hf⟩
      · omega
      · clear hat
        have hs1 := hs j hlt
        have hf1 := hf j hlt
        obtain ⟨u, hu⟩ := Option.isSome_iff_exists.mp hs1
        have HB := hide hbut
        have HS := hide hs
        have HF := hide hf
        have HC := hide hc
        clear hbut hs hf hc
        go_wp2
        go_roundw
        case rel =>
          refine ⟨j + 1, by omega, by go_num, by go_num, (unhide HB).setCell (at_self (by omega)) _, .inr ⟨g, off, rfl, hg, by simpa using hgl, fun i hi => ?_, fun i hi => ?_, fun i hi => ?_⟩⟩
          · by_cases hij : i = j
            · subst hij
              exact World.cell?_setCell_same _ _ _ hu
            · rw [World.cell?_setCell_other _ _ _ _ (by simp <;> omega)]
              exact unhide HC i (by omega)
          · by_cases hij : i = j
            · subst hij
              rw [World.cell?_setCell_same _ _ _ hu]; rfl
            · rw [World.cell?_setCell_other _ _ _ _ (by simp <;> omega)]
              exact unhide HS i hi
          · simpa using unhide HF i hi
        case measure => simp [intOf]; omega
    · have hjn : j = n := by omega
      subst hjn
      have HB := hide hbut
      have HT := hide hst
      clear hbut hst hat
      go_wp2
      go_ret
      refine ⟨rfl, ⟨marks_len _ _, hsm, ?_⟩, unhide HB⟩
      rcases unhide HT with h0 | ⟨g, off, rfl, hg, hgl, hc, hs, hf⟩
      · exact .inl h0
      · exact .inr ⟨g, off, rfl, hg, hgl, fun i hi => by rw [marks_get _ _ _ hi]; exact hc i hi, hf⟩

end Go.Proofs.YtkgcmpmgaghdhaaGreatDoor
namespace Go.Proofs.YtkgcmpmgaghdhaaGreatDoor
open Go.RowKit

set_option maxHeartbeats 400000 in
theorem heldIntS_marks (a : Option Addr) (n cap : Nat) (k : Int) (w : World) (h : Row w a n (marks k n)) (hk0 : 0 ≤ k) (hk : k ≤ 4611686018427387904) :
    Calls Tryz.prog 100 #[.slice a n cap, .int .i64 k] w fun e w' => e = .returned (.int .i64 (k + n)) ∧ w' = w := by
  obtain ⟨hlen, hsm, hat⟩ := h
  clear hlen
  go_enter Tryz.func100, Tryz.ntmps100
  go_wp2
  go_loop [1, 5] (fun c i => ∃ j : Nat, j ≤ n ∧ i = .int .i64 j ∧ c = .int .i64 (k + j)) (fun _ i => n - (intOf i).toNat)
  case atStart => exact ⟨0, Nat.zero_le _, rfl, by simp⟩
  case round =>
    obtain ⟨j, hj, rfl, rfl⟩ := hrel
    by_cases hlt : j < n
    · have ha : ∃ b off, a = some ⟨b, off, none⟩ ∧ w.cell? ⟨b, off + j, none⟩ = some (.int .i64 (k + j)) := by
        rcases hat with h0 | ⟨b, off, rfl, hlt', hc⟩
        · omega
        · exact ⟨b, off, rfl, by rw [← marks_get k n j hlt]; exact hc j hlt⟩
      obtain ⟨b, off, rfl, hc⟩ := ha
      clear hat
      go_wp2
      go_round
      case rel => exact ⟨j + 1, by omega, by go_num, by go_num⟩
      case measure => simp [intOf]; omega
    · have hjn : j = n := by omega
      subst hjn
      clear hat
      go_wp2
      go_ret
      exact ⟨rfl, rfl⟩

end Go.Proofs.YtkgcmpmgaghdhaaGreatDoor
namespace Go.Proofs.YtkgcmpmgaghdhaaGreatDoor
open Go.RowKit

theorem szIntS_big (a : Option Addr) (n cap : Nat) (left : Int) (w : World) (hn : n ≤ 9223372036854775807) (hl : 0 ≤ left) (hl2 : left ≤ 1048576) (h : left < n) :
    Calls Tryz.prog 85 #[.slice a n cap, .int .i64 left] w fun e w' => e = .returned (.int .i64 (-1)) ∧ w' = w := by
  go_enter Tryz.func85, Tryz.ntmps85
  go_wp2
  go_ret
  exact ⟨rfl, rfl⟩

theorem szIntS_ok (a : Option Addr) (n cap : Nat) (left : Int) (w : World) (hl2 : left ≤ 1048576) (h : n ≤ left) :
    Calls Tryz.prog 85 #[.slice a n cap, .int .i64 left] w fun e w' => e = .returned (.int .i64 (left - n)) ∧ w' = w := by
  go_enter Tryz.func85, Tryz.ntmps85
  go_wp2
  go_ret
  exact ⟨rfl, rfl⟩

set_option maxHeartbeats 400000 in
theorem toIntS_any (a : Option Addr) (n cap : Nat) (zs : List Int) (w : World) (h : Row w a n zs) :
    Calls Tryz.prog 92 #[.slice a n cap] w fun e w' => ∃ g, e = .returned (.slice (some ⟨g, 0, none⟩) n n) ∧ w.heap.size ≤ g ∧ Blk w' g zs ∧ Below w.heap.size w w' := by
  obtain ⟨hlen, hsm, hat⟩ := h
  obtain ⟨i0, hi, hz0, hz1, hz2⟩ := info_parts info_int
  go_enter Tryz.func92, Tryz.ntmps92
  go_wp2_with (at_make; refine wpList_make_full _ rfl _ _ 23 rfl w.heap.size 3 i0 (.int .i64 0) 1 Tryz.underlying23 hi hz0 hz1 _ _ _ _ n rfl rfl rfl rfl (by rw [hz2]; omega) (by unfold maxLen; omega) (Nat.le_refl _) ?_; intro w1 hown hgrow)
  have hblk : Blk w1 w.heap.size (zs.take 0 ++ List.replicate (n - 0) 0) := Blk.of_owns (n := n) (base := w.heap.size) (by simpa [toList_madeCells_one, Value.cells] using hown)
  have hbel : Below w.heap.size w w1 := (Below.refl _ _).grown hgrow (Nat.le_refl _) (by simp)
  clear hown hgrow hi hz0 hz1 hz2
  go_wp2
  go_loopw [4] (fun i wr => ∃ k : Nat, k ≤ n ∧ i = .int .i64 k ∧ Blk wr w.heap.size (zs.take k ++ List.replicate (n - k) 0) ∧ Below w.heap.size w wr) (fun i _ => n - (intOf i).toNat)
  case atStart => exact ⟨0, Nat.zero_le _, rfl, hblk, hbel⟩
  case round =>
    obtain ⟨k, hk, rfl, hb, hbl⟩ := hrel
    clear hblk hbel
    by_cases hlt : k < n
    · have hat' : ∃ b off, a = some ⟨b, off, none⟩ ∧ wr.cell? ⟨b, off + k, none⟩ = some (.int .i64 (zs.getD k 0)) := by
        rcases hat with h0 | ⟨b, off, rfl, hlt', hc⟩
        · omega
        · exact ⟨b, off, rfl, (hbl.cell (p := ⟨b, off + k, none⟩) hlt').trans (hc k hlt)⟩
      obtain ⟨b, off, rfl, hc⟩ := hat'
      clear hat
      obtain ⟨x, hx⟩ : ∃ x, x = zs.getD k 0 := ⟨_, rfl⟩
      rw [← hx] at hc
      have hc2 := hb.cell (i := k) (by simp; omega)
      have hf2 := hb.free k
      have hs := hb.set k x
      have HR : Hid (Blk (wr.setCell ⟨w.heap.size, k, none⟩ (.int .i64 x)) w.heap.size (zs.take (k + 1) ++ List.replicate (n - (k + 1)) 0)) := by
        have e : n - k = n - (k + 1) + 1 := by omega
        rw [e, hx, take_set zs _ k (by omega)] at hs
        rw [hx]
        exact hs
      clear hs hb hx
      go_wp2
      go_roundw
      case rel => exact ⟨k + 1, by omega, by go_num, HR.out, hbl.setCell (Nat.le_refl _) _⟩
      case measure => simp [intOf]; omega
    · have hkn : k = n := by omega
      subst hkn
      go_wp2
      go_ret
      exact ⟨_, rfl, Nat.le_refl _, by simpa [List.take_of_length_le (Nat.le_of_eq hlen)] using hb, hbl⟩

theorem take_step {xs ys : List Int} {n k : Nat} (hx : xs.length = n) (hy : ys.length = n) (hk : k < n) (h : xs.take k = ys.take k) (he : xs.getD k 0 = ys.getD k 0) : xs.take (k + 1) = ys.take (k + 1) := by
  have e1 : xs.getD k 0 = xs[k] := by simp [hx, hk]
  have e2 : ys.getD k 0 = ys[k] := by simp [hy, hk]
  rw [List.take_succ_eq_append_getElem (by omega), List.take_succ_eq_append_getElem (by omega), h, ← e1, ← e2, he]

set_option maxHeartbeats 400000 in
theorem eqIntS_any (a b : Option Addr) (n m ca cb : Nat) (xs ys : List Int) (w : World) (hx : Row w a n xs) (hy : Row w b m ys) :
    Calls Tryz.prog 21 #[.slice a n ca, .slice b m cb] w fun e w' => e = .returned (.bool (decide (xs = ys))) ∧ ∃ q, w' = w.drewN q := by
  obtain ⟨hxl, hxs, hxa⟩ := hx
  obtain ⟨hyl, hys, hya⟩ := hy
  by_cases hne : n = m
  · subst hne
    have hn : ((n : Int) != (n : Int)) = false := by simp
    go_enter Tryz.func21, Tryz.ntmps21
    go_wp2
    go_loopw [5] (fun i wr => ∃ k : Nat, k ≤ n ∧ i = .int .i64 k ∧ xs.take k = ys.take k ∧ ∃ q, wr = w.drewN q) (fun i _ => n - (intOf i).toNat)
    case atStart => exact ⟨0, Nat.zero_le _, rfl, rfl, 0, rfl⟩
    case round =>
      obtain ⟨k, hk, rfl, htk, q, rfl⟩ := hrel
      by_cases hlt : k < n
      · have ha : ∃ b off, a = some ⟨b, off, none⟩ ∧ w.cell? ⟨b, off + k, none⟩ = some (.int .i64 (xs.getD k 0)) := by
          rcases hxa with h0 | ⟨b, off, rfl, hlt', hc⟩
          · omega
          · exact ⟨b, off, rfl, hc k hlt⟩
        have hb : ∃ b' off, b = some ⟨b', off, none⟩ ∧ w.cell? ⟨b', off + k, none⟩ = some (.int .i64 (ys.getD k 0)) := by
          rcases hya with h0 | ⟨b, off, rfl, hlt', hc⟩
          · omega
          · exact ⟨b, off, rfl, hc k hlt⟩
        obtain ⟨b1, o1, rfl, hc1⟩ := ha
        obtain ⟨b2, o2, rfl, hc2⟩ := hb
        clear hxa hya
        obtain ⟨x, hx⟩ : ∃ x, x = xs.getD k 0 := ⟨_, rfl⟩
        obtain ⟨y, hy⟩ : ∃ y, y = ys.getD k 0 := ⟨_, rfl⟩
        rw [← hx] at hc1
        rw [← hy] at hc2
        have HX : Hid (x = xs.getD k 0) := hx
        have HY : Hid (y = ys.getD k 0) := hy
        have HT : Hid (xs.take k = ys.take k) := htk
        have HL : Hid (xs.length = n ∧ ys.length = n) := ⟨hxl, hyl⟩
        clear hx hy htk hxl hyl
        by_cases hxy : x = y
        · have hb : (x != y) = false := by simp [hxy]
          have HXY : Hid (x = y) := hxy
          clear hxy
          go_wp2
          go_quiet (fail)
          go_wp2
          go_roundw
          case rel => exact ⟨k + 1, by omega, by go_num, take_step HL.out.1 HL.out.2 hlt HT.out (HX.out.symm.trans (HXY.out.trans HY.out)), _, by first | rfl | exact World.drewN_drewN _ _ _⟩
          case measure => simp [intOf]; omega
        · have hb : (x != y) = true := by simp [hxy]
          have HN : Hid (¬ xs = ys) := fun e => hxy (by rw [HX.out, HY.out, e])
          clear hxy
          go_wp2
          go_quiet (fail)
          go_wp2
          go_ret
          exact ⟨ret_bool (decide_eq_false HN.out).symm, _, World.drewN_drewN _ _ _⟩
      · have hkn : k = n := by omega
        have HE : Hid (xs = ys) := by
          show xs = ys
          rwa [List.take_of_length_le (by omega), List.take_of_length_le (by omega)] at htk
        clear htk
        subst hkn
        go_wp2
        go_ret
        exact ⟨ret_bool (decide_eq_true HE.out).symm, _, rfl⟩
  · have hn : ((n : Int) != (m : Int)) = true := by simp; omega
    have HN : Hid (¬ xs = ys) := fun e => hne (by rw [← hxl, ← hyl, e])
    clear hne
    go_enter Tryz.func21, Tryz.ntmps21
    go_wp2
    go_ret
    exact ⟨ret_bool (decide_eq_false HN.out).symm, 0, rfl⟩

end Go.Proofs.YtkgcmpmgaghdhaaGreatDoor
namespace Go.Proofs.YtkgcmpmgaghdhaaGreatDoor
open Go.RowKit

theorem Row.alloc {w : World} {a : Option Addr} {n : Nat} {zs : List Int} (h : Row w a n zs) (o : Obj) : Row (w.alloc o) a n zs := h.below (Nat.le_refl _) ((Below.refl _ _).alloc (Nat.le_refl _) _)
theorem Row.drewN {w : World} {a : Option Addr} {n : Nat} {zs : List Int} (h : Row w a n zs) (q : Nat) : Row (w.drewN q) a n zs := ⟨h.len, h.small, h.at_⟩
theorem Below.drewN {B : Nat} {a w : World} (h : Below B a w) (q : Nat) : Below B a (w.drewN q) := h.trans ⟨rfl, rfl, rfl, Nat.le_refl _, fun _ _ => rfl⟩

theorem Row.get {w : World} {a : Option Addr} {n : Nat} {zs : List Int} (h : Row w a n zs) {k : Nat} (hk : k < n) : ∃ b off, a = some ⟨b, off, none⟩ ∧ b < w.heap.size ∧ w.cell? ⟨b, off + k, none⟩ = some (.int .i64 (zs.getD k 0)) := by
  rcases h.at_ with h0 | ⟨b, off, rfl, hlt, hc⟩
  · omega
  · exact ⟨b, off, rfl, hlt, hc k hk⟩

end Go.Proofs.YtkgcmpmgaghdhaaGreatDoor

namespace Go.Proofs.YtkgcmpmgaghdhaaGreatDoor
open Go.RowKit

theorem Own.alloc {w : World} {B : Nat} {a : Option Addr} {n : Nat} {zs : List Int} (h : Own w B a n zs) (o : Obj) : Own (w.alloc o) B a n zs := h.below (Nat.le_refl _) ((Below.refl _ _).alloc (Nat.le_refl _) _)

end Go.Proofs.YtkgcmpmgaghdhaaGreatDoor
namespace Go.Proofs.YtkgcmpmgaghdhaaGreatDoor
open Go.RowKit

set_option maxHeartbeats 1000000 in
theorem l3Count_any (a : Option Addr) (n cap : Nat) (sh : List Int) (w : World) (h : Row w a n sh) : Calls Tryz.prog 41 #[.slice a n cap] w fun e w' => e = .returned (.int .i64 (countOf sh)) ∧ w' = w := by
  have hlen := hide h.len
  have hsm := h.small
  have H := hide h
  clear h
  go_enter Tryz.func41, Tryz.ntmps41
  go_wp2
  go_loop [4] (fun i => ∃ k : Nat, k ≤ n ∧ i = .int .i64 k ∧ Hid ((sh.take k).all inCells = true)) (fun i => n - (intOf i).toNat)
  case atStart => exact ⟨0, Nat.zero_le _, rfl, rfl⟩
  case round =>
    obtain ⟨k, hk, rfl, hall⟩ := hrel
    by_cases hlt : k < n
    · obtain ⟨b, off, rfl, hblt, hc⟩ := (unhide H).get hlt
      have hks : Hid (k < sh.length) := by show k < sh.length; rw [unhide hlen]; exact hlt
      obtain ⟨x, hx⟩ : ∃ x, x = sh.getD k 0 := ⟨_, rfl⟩
      rw [← hx] at hc
      have HX := hide hx
      clear hx
      by_cases hneg : x < 0
      · have HE : Hid (countOf sh = -1) := count_bad sh (all_not sh inCells k (unhide hks) (by rw [← unhide HX]; exact decide_eq_false (by omega)))
        go_wp2
        go_ret
        exact ⟨ret_int HE.out.symm, rfl⟩
      · by_cases hbig : 10000 < x
        · have HE : Hid (countOf sh = -1) := count_bad sh (all_not sh inCells k (unhide hks) (by rw [← unhide HX]; exact decide_eq_false (by omega)))
          go_wp2
          go_ret
          exact ⟨ret_int HE.out.symm, rfl⟩
        · have HA : Hid ((sh.take (k + 1)).all inCells = true) := all_step sh inCells k (unhide hks) (unhide hall) (by rw [← unhide HX]; exact decide_eq_true (by omega))
          go_wp2
          go_round
          case rel => exact ⟨k + 1, by omega, by go_num, HA⟩
          case measure => simp [intOf]; omega
    · have HA : Hid (sh.all inCells = true) := by
        have := unhide hall
        rwa [List.take_of_length_le (by rw [unhide hlen]; omega)] at this
      clear hall
      go_wp2
      go_loop [3, 5, 6] (fun p z i => ∃ (k : Nat) (m : Int), k ≤ n ∧ i = .int .i64 k ∧ p = .int .i64 m ∧ Hid (prodFrom (sh.take k) 1 = some m) ∧ z = .bool (decide (0 ∈ sh.take k))) (fun _ _ i => n - (intOf i).toNat)
      case atStart => exact ⟨0, 1, Nat.zero_le _, rfl, rfl, rfl, rfl⟩
      case round =>
        obtain ⟨k, m, hk, rfl, rfl, hp, rfl⟩ := hrel
        have hmb := prodFrom_bd (sh.take k) 1 m (by rw [List.all_eq_true]; exact fun x hx => List.all_eq_true.1 (unhide HA) x (List.mem_of_mem_take hx)) (by omega) (by omega) (unhide hp)
        obtain ⟨hm1, hm2⟩ := hmb
        by_cases hlt : k < n
        · obtain ⟨b, off, rfl, hblt, hc⟩ := (unhide H).get hlt
          have hks : Hid (k < sh.length) := by show k < sh.length; rw [unhide hlen]; exact hlt
          have hxb : 0 ≤ sh.getD k 0 ∧ sh.getD k 0 ≤ 10000 := of_decide_eq_true (List.all_eq_true.1 (unhide HA) (sh.getD k 0) (by simp [unhide hks]))
          have HZ := hide (zero_step sh k (unhide hks))
          obtain ⟨x, hx⟩ : ∃ x, x = sh.getD k 0 := ⟨_, rfl⟩
          rw [← hx] at hc hxb
          obtain ⟨hx0, hx1⟩ := hxb
          have HX := hide hx
          clear hx
          generalize decide (0 ∈ sh.take k) = z0 at *
          by_cases h0 : x = 0
          · have hb : (x == 0) = true := by simp [h0]
            have HP := hide (prod_step0 sh k (unhide hks) m (unhide hp) (by rw [← unhide HX]; exact h0))
            have HZ2 : Hid (true = decide (0 ∈ sh.take (k + 1))) := by show _ = _; rw [unhide HZ, ← unhide HX, decide_eq_true h0, Bool.or_true]
            clear h0 HZ
            go_wp2
            go_round
            case rel => exact ⟨k + 1, m, by omega, by go_num, rfl, HP, by rw [← unhide HZ2]⟩
            case measure => simp [intOf]; omega
          · have hb : (x == 0) = false := by simp [h0]
            have HZ2 : Hid (z0 = decide (0 ∈ sh.take (k + 1))) := by show _ = _; rw [unhide HZ, ← unhide HX, decide_eq_false h0, Bool.or_false]
            have hmx : m * x ≤ 10000 * 10000 := Int.mul_le_mul hm2 hx1 hx0 (by omega)
            have hmx0 : 0 ≤ m * x := Int.mul_nonneg (by omega) hx0
            by_cases hbig : 10000 < m * x
            · have HE : Hid (countOf sh = -1) := count_big sh (prod_none sh k (unhide hks) m (unhide hp) (by rw [← unhide HX]; exact h0) (by rw [← unhide HX]; exact hbig))
              clear h0 HZ
              go_wp2
              go_ret
              exact ⟨ret_int HE.out.symm, rfl⟩
            · have HP := hide (prod_step sh k (unhide hks) m (unhide hp) (by rw [← unhide HX]; exact h0) (by rw [← unhide HX]; omega))
              rw [← unhide HX] at HP
              clear h0 HZ
              go_wp2
              go_round
              case rel => exact ⟨k + 1, m * x, by omega, by go_num, rfl, HP, by rw [← unhide HZ2]⟩
              case measure => simp [intOf]; omega
        · have HP : Hid (prodFrom sh 1 = some m) := by
            have := unhide hp
            rwa [List.take_of_length_le (by rw [unhide hlen]; omega)] at this
          rw [List.take_of_length_le (by rw [unhide hlen]; omega)]
          by_cases hz : 0 ∈ sh
          · have hd : decide (0 ∈ sh) = true := decide_eq_true hz
            have HE := hide (count_zero sh m (unhide HA) (unhide HP) hd)
            clear hz
            rw [hd]
            go_wp2
            go_ret
            exact ⟨ret_int HE.out.symm, rfl⟩
          · have hd : decide (0 ∈ sh) = false := decide_eq_false hz
            have HE := hide (count_n sh m (unhide HA) (unhide HP) hd)
            clear hz
            rw [hd]
            go_wp2
            go_ret
            exact ⟨ret_int HE.out.symm, rfl⟩

theorem l3Count_eq (a : Option Addr) (n cap : Nat) (sh : List Int) (w : World) (h : Row w a n sh) (cn : Int) (hc : Hid (countOf sh = cn)) : Calls Tryz.prog 41 #[.slice a n cap] w fun e w' => e = .returned (.int .i64 cn) ∧ w' = w := by
  rw [← hc.out]; exact l3Count_any a n cap sh w h

end Go.Proofs.YtkgcmpmgaghdhaaGreatDoor
namespace Go.Proofs.YtkgcmpmgaghdhaaGreatDoor
open Go.RowKit

theorem Own.of_owns {w : World} {base n : Nat} {v : Value} {zs : List Int} (h : w.ownsRow base 3 1 v n (zs.map (Value.int .i64))) (hs : n ≤ 17592186044416) : ∃ a cap, v = .slice a n cap ∧ Own w base a n zs := by
  have hl : zs.length = n := by simpa using h.1
  rcases h.2 with ⟨rfl, h0⟩ | ⟨g, cap, cur, rfl, hb, hg, _, _, hcs, ht⟩
  · exact ⟨none, 0, by rw [h0], hl, hs, .inl h0⟩
  · refine ⟨some ⟨g, 0, none⟩, cap, rfl, hl, hs, .inr ⟨g, 0, rfl, hb, lt_of_block hg, fun i hi => ?_, fun i hi => frozen_of_row w g _ _ _ hg⟩⟩
    have e : cur.toList[i]? = some (.int .i64 (zs.getD i 0)) := by
      have : (cur.toList.take (n * 1))[i]? = (zs.map (Value.int .i64))[i]? := by rw [ht]
      rw [List.getElem?_take, if_pos (by omega)] at this
      rw [this]
      simp [hl, hi]
    simpa [World.cell?, hg] using e

theorem cells_ints {w : World} {ad : Addr} {n : Nat} {zs : List Int} (h : Row w (some ad) n zs) : ∀ (j : Nat) u, (zs.map (Value.int .i64))[j]? = some u → w.cell? (ad.add j) = some u := by
  intro j u hj
  have hl := h.len
  have hj' : j < n := by
    rcases Nat.lt_or_ge j n with h' | h'
    · exact h'
    · rw [List.getElem?_eq_none (by simp; omega)] at hj; cases hj
  obtain ⟨b, off, hab, hblt, hc⟩ := h.get hj'
  cases hab
  have hadd : (⟨b, off, none⟩ : Addr).add j = ⟨b, off + j, none⟩ := by by_cases h : j = 0 <;> simp [Addr.add, h]
  rw [hadd, hc]
  simpa [hl, hj'] using hj

theorem one_ints (zs : List Int) : ∀ u ∈ zs.map (Value.int .i64), u.oneCell' = true := by
  intro u hu
  obtain ⟨x, _, rfl⟩ := List.mem_map.mp hu
  rfl

theorem owns_empty (w : World) : (w.alloc (.cells #[] 3)).ownsRow w.heap.size 3 1 (.slice (some ⟨w.heap.size, 0, none⟩) 0 0) 0 [] := by
  refine ⟨by simp, .inr ⟨w.heap.size, 0, #[], rfl, Nat.le_refl _, ?_, by simp, by unfold maxLen; omega, by simp, by simp⟩⟩
  show (w.heap.push _)[w.heap.size]? = _
  simp

set_option maxHeartbeats 400000 in
theorem l3Ints_owns (ad : Addr) (n cap : Nat) (zs : List Int) (w : World) (h : Row w (some ad) n zs) :
    Calls Tryz.prog 56 #[.slice (some ad) n cap] w fun e w' => ∃ a' cap', e = .returned (.slice a' n cap') ∧ w'.ownsRow w.heap.size 3 1 (.slice a' n cap') n (zs.map (Value.int .i64)) ∧ Below w.heap.size w w' := by
  have hl := h.len
  have hs := h.small
  have H := hide h
  clear h
  obtain ⟨i0, hi, hz0, hz1, hz2⟩ := info_parts info_int
  go_enter Tryz.func56, Tryz.ntmps56
  go_wp2_with (at_builtin; refine wpList_append_own _ rfl _ _ 23 rfl w.heap.size 3 i0 (.int .i64 0) 1 8 Tryz.underlying23 hi hz0 hz1 hz2 rfl (by decide) _ _ _ rfl (owns_empty w) ad n cap (zs.map (Value.int .i64)) rfl (by simpa using hl) (cells_ints ((unhide H).alloc _)) (one_ints zs) (by unfold maxLen; omega) (by omega) (by simp) ?_; intro v1 w1 hown hgrow hnil)
  clear hnil
  have hown' : w1.ownsRow w.heap.size 3 1 v1 n (zs.map (Value.int .i64)) := by simpa using hown
  obtain ⟨a', cap', rfl, ho⟩ := Own.of_owns hown' hs
  have hbel : Below w.heap.size w w1 := ((Below.refl _ _).alloc (Nat.le_refl _) _).grown hgrow (by simp) (by intro k hk; cases hk; exact Nat.le_refl _)
  clear hown hgrow ho
  go_wp2
  go_ret
  exact ⟨_, _, rfl, hown', hbel⟩

theorem l3Ints_any (ad : Addr) (n cap : Nat) (zs : List Int) (w : World) (h : Row w (some ad) n zs) :
    Calls Tryz.prog 56 #[.slice (some ad) n cap] w fun e w' => ∃ a' cap', e = .returned (.slice a' n cap') ∧ Own w' w.heap.size a' n zs ∧ Below w.heap.size w w' := by
  refine (l3Ints_owns ad n cap zs w h).mono ?_
  rintro e w' ⟨a', cap', rfl, ho, hb⟩
  obtain ⟨a2, c2, e2, ho2⟩ := Own.of_owns ho h.small
  cases e2
  exact ⟨a', cap', rfl, ho2, hb⟩

end Go.Proofs.YtkgcmpmgaghdhaaGreatDoor
namespace Go.Proofs.YtkgcmpmgaghdhaaGreatDoor
open Go.RowKit

theorem Own.low' {w w' : World} {a : Option Addr} {n : Nat} {zs : List Int} {B C : Nat} (h : Own w C a n zs) (ha : ∀ k, At a n k → k < B) (hb : Below B w w') : Own w' C a n zs := by
  refine ⟨h.len, h.small, ?_⟩
  rcases h.at_ with h0 | ⟨g, off, rfl, hg, hlt, hc, hf⟩
  · exact .inl h0
  · by_cases h0 : n = 0
    · exact .inl h0
    have hgB := ha g (at_self h0)
    exact .inr ⟨g, off, rfl, hg, Nat.lt_of_lt_of_le hlt hb.size, fun i hi => (hb.cell (p := ⟨g, off + i, none⟩) hgB).trans (hc i hi), fun i hi => (hb.frozen (p := ⟨g, off + i, none⟩) hgB).trans (hf i hi)⟩

theorem Own.other {w : World} {a : Option Addr} {n C : Nat} {zs : List Int} (h : Own w C a n zs) {q : Addr} (ha : ∀ k, At a n k → k ≠ q.block) (v : Value) : Own (w.setCell q v) C a n zs :=
  ((But.refl (fun k => k = q.block) w).setCell rfl v).own h (fun k hk hk' => ha k hk' hk)

/-- An append to a slice of the call's own leaves all blocks below its base. -/
theorem below_append {w w1 : World} {base n : Nat} {v : Value} {xs : List Value} (o : Obj) (hown : w.ownsRow base 3 1 v n xs) (hb : base ≤ w.heap.size) (hg : (w.alloc o).grownBy w1 v.ownBlock) : Below base w w1 :=
  ((Below.refl _ _).alloc hb _).grown hg (by simp; omega) (by
    intro k hk
    rcases hown.2 with ⟨rfl, _⟩ | ⟨g, cap, cur, rfl, hbg, _⟩
    · cases hk
    · cases hk; exact hbg)

theorem owns_slice {w : World} {base e size n : Nat} {v : Value} {xs : List Value} (h : w.ownsRow base e size v n xs) : ∃ a cap, v = .slice a n cap := by
  rcases h.2 with ⟨rfl, h0⟩ | ⟨g, cap, cur, rfl, _⟩
  · exact ⟨none, 0, by rw [h0]⟩
  · exact ⟨_, _, rfl⟩

theorem take_map_snoc (f : Int → Int) (xs : List Int) (k : Nat) (h : k < xs.length) : ((xs.take (k + 1)).map f).map (Value.int .i64) = ((xs.take k).map f).map (Value.int .i64) ++ [.int .i64 (f (xs.getD k 0))] := by
  rw [take_snoc xs k h]; simp

theorem row_nil (w : World) (a : Option Addr) : Row w a 0 [] := ⟨rfl, by omega, .inl rfl⟩

theorem cells_new (w : World) (x : Int) : ∀ (j : Nat) u, ([.int .i64 x] : List Value)[j]? = some u → (w.alloc (.cells #[.int .i64 x] 3)).cell? ((⟨w.heap.size, 0, none⟩ : Addr).add j) = some u := by
  intro j u hj
  match j, hj with
  | 0, hj => simp at hj; subst hj; simp [Addr.add]

theorem one_one (x : Int) : ∀ u ∈ ([.int .i64 x] : List Value), u.oneCell' = true := by intro u hu; simp at hu; subst hu; rfl

theorem owns_below {w w' : World} {base e size n B : Nat} {v : Value} {xs : List Value} (h : w.ownsRow base e size v n xs) (hB : w.heap.size ≤ B) (hb : Below B w w') : w'.ownsRow base e size v n xs := by
  obtain ⟨h1, h2⟩ := h
  refine ⟨h1, ?_⟩
  rcases h2 with h2 | ⟨g, cap, cur, hv, hg, hh, r⟩
  · exact Or.inl h2
  · exact Or.inr ⟨g, cap, cur, hv, hg, (hb.block g (Nat.lt_of_lt_of_le (lt_of_block hh) hB)).trans hh, r⟩

theorem owns_low_set {w : World} {base n p o : Nat} {v : Value} {xs : List Value} (h : w.ownsRow base 3 1 v n xs) (hp : p < base) (u : Value) : (w.setCell ⟨p, o, none⟩ u).ownsRow base 3 1 v n xs := by
  obtain ⟨h1, h2⟩ := h
  refine ⟨h1, ?_⟩
  rcases h2 with h2 | ⟨g, cap, cur, hv, hg, hh, r⟩
  · exact Or.inl h2
  · refine Or.inr ⟨g, cap, cur, hv, hg, ?_, r⟩
    rw [Below.heap_setCell _ _ _ _ (by
      intro e
      have e' : g = p := e
      omega)]
    exact hh

theorem owns_lt {w : World} {base e size n g : Nat} {v : Value} {xs : List Value} (h : w.ownsRow base e size v n xs) (hg : v.ownBlock = some g) : g < w.heap.size := by
  rcases h.2 with ⟨rfl, _⟩ | ⟨g', cap, cur, rfl, _, hh, _⟩
  · cases hg
  · cases hg; exact lt_of_block hh

theorem Own.grownO {w w1 : World} {B n : Nat} {a : Option Addr} {zs : List Int} (h : Own w B a n zs) (o : Obj) {ob : Option Nat} (hg : (w.alloc o).grownBy w1 ob) (hne : ∀ x, At a n x → ob ≠ some x) : Own w1 B a n zs := by
  refine ⟨h.len, h.small, ?_⟩
  rcases h.at_ with h0 | ⟨b, off, rfl, hb, hlt, hc, hf⟩
  · exact .inl h0
  · by_cases hn : n = 0
    · exact .inl hn
    have hk : w1.heap[b]? = w.heap[b]? := (hg.block b (by simp; omega) (fun e => hne b (at_self hn) e.symm)).trans (Below.heap_alloc w o b hlt)
    refine .inr ⟨b, off, rfl, hb, ?_, fun i hi => (World.cell?_of_block (w := w) (a := ⟨b, off + i, none⟩) hk).trans (hc i hi), fun i hi => (World.frozen?_of_block (w := w) (a := ⟨b, off + i, none⟩) hk).trans (hf i hi)⟩
    rcases Nat.lt_or_ge b w1.heap.size with h1 | h1
    · exact h1
    · rw [Array.getElem?_eq_none h1, Array.getElem?_eq_getElem hlt] at hk; cases hk

theorem owns_mono {w : World} {base base' e size n : Nat} {v : Value} {xs : List Value} (h : w.ownsRow base e size v n xs) (hb : base' ≤ base) : w.ownsRow base' e size v n xs := by
  obtain ⟨h1, h2⟩ := h
  refine ⟨h1, ?_⟩
  rcases h2 with h2 | ⟨g, cap, cur, hv, hg, hh, r⟩
  · exact Or.inl h2
  · exact Or.inr ⟨g, cap, cur, hv, by omega, hh, r⟩

theorem owns_grown {w w1 : World} {base base' n g g2 cap : Nat} {xs : List Value} (h : w.ownsRow base 3 1 (.slice (some ⟨g, 0, none⟩) n cap) n xs) (o : Obj) (hg : (w.alloc o).grownBy w1 (some g2)) (hne : g ≠ g2) (hb : base' ≤ base) : w1.ownsRow base' 3 1 (.slice (some ⟨g, 0, none⟩) n cap) n xs := by
  obtain ⟨h1, h2⟩ := h
  refine ⟨h1, ?_⟩
  rcases h2 with ⟨h2, _⟩ | ⟨g', cap', cur, hv, hg', hh, r⟩
  · simp at h2
  · have e : g = g' := by simp at hv; exact hv.1
    subst e
    refine Or.inr ⟨g, cap', cur, hv, by omega, ?_, r⟩
    have hlt := lt_of_block hh
    exact (hg.block g (by simp; omega) (fun e => hne (by simpa using e))).trans ((Below.heap_alloc w o g hlt).trans hh)

theorem Own.set {w : World} {B g off n k : Nat} {zs : List Int} (h : Own w B (some ⟨g, off, none⟩) n zs) (hk : k < n) (x : Int) : Own (w.setCell ⟨g, off + k, none⟩ (.int .i64 x)) B (some ⟨g, off, none⟩) n (zs.set k x) := by
  refine ⟨by rw [List.length_set]; exact h.len, h.small, ?_⟩
  rcases h.at_ with h0 | ⟨g', off', e, hg, hlt, hc, hf⟩
  · omega
  · cases e
    refine .inr ⟨g, off, rfl, hg, by simpa using hlt, fun i hi => ?_, fun i hi => ?_⟩
    · by_cases e : i = k
      · subst e
        rw [World.cell?_setCell_same _ _ _ (hc i hi)]
        have hl := h.len
        simp [List.getD, hl, hk]
      · rw [World.cell?_setCell_other _ _ _ _ (by simp <;> omega), hc i hi]
        simp [List.getD, List.getElem?_set_ne (Ne.symm e)]
    · simpa using hf i hi

theorem But.drew {S : Nat → Prop} {w w' : World} (h : But S w w') : But S w w'.drew := ⟨h.os, h.tape, h.output, h.size, h.block⟩

theorem But.cellAt {S : Nat → Prop} {w w' : World} (h : But S w w') {b o : Nat} (hb : b < w.heap.size) (hn : ¬ S b) : w'.cell? ⟨b, o, none⟩ = w.cell? ⟨b, o, none⟩ := World.cell?_of_block (w := w) (a := ⟨b, o, none⟩) (h.block b hb hn)

end Go.Proofs.YtkgcmpmgaghdhaaGreatDoor
namespace Go.Proofs.YtkgcmpmgaghdhaaGreatDoor
open Go.RowKit

set_option maxHeartbeats 400000 in
theorem szArray_big (c : Bool) (a1 a2 : Option Addr) (n1 n2 c1 c2 : Nat) (left : Int) (w : World) (h1 : n1 ≤ 9223372036854775807) (h2 : n2 ≤ 9223372036854775807) (hl : 0 ≤ left) (hl2 : left ≤ 1048576) (hA : left < n1 + n2) :
    Calls Tryz.prog 26 #[.agg #[.bool c, .slice a1 n1 c1, .slice a2 n2 c2], .int .i64 left] w fun e w' => e = .returned (.int .i64 (-1)) ∧ Below w.heap.size w w' := by
  by_cases hB : left < n1
  · go_enter Tryz.func26, Tryz.ntmps26
    go_wp2_with fail
    refine (szIntS_big _ _ _ _ _ h1 hl hl2 hB).mono ?_
    rintro e w' ⟨rfl, rfl⟩
    go_wp2
    go_ret
    exact ⟨rfl, (Below.refl _ _).alloc (Nat.le_refl _) _⟩
  · go_enter Tryz.func26, Tryz.ntmps26
    go_wp2_with fail
    refine (szIntS_ok _ _ _ _ _ hl2 (by omega)).mono ?_
    rintro e w' ⟨rfl, rfl⟩
    go_wp2_with fail
    refine (szIntS_big _ _ _ _ _ h2 (by omega) (by omega) (by omega)).mono ?_
    rintro e w' ⟨rfl, rfl⟩
    go_wp2
    go_ret
    exact ⟨rfl, (Below.refl _ _).alloc (Nat.le_refl _) _⟩

set_option maxHeartbeats 400000 in
theorem szArray_ok (c : Bool) (a1 a2 : Option Addr) (n1 n2 c1 c2 : Nat) (left : Int) (w : World) (hl2 : left ≤ 1048576) (hA : n1 + n2 ≤ left) :
    Calls Tryz.prog 26 #[.agg #[.bool c, .slice a1 n1 c1, .slice a2 n2 c2], .int .i64 left] w fun e w' => e = .returned (.int .i64 (left - n1 - n2)) ∧ Below w.heap.size w w' := by
  go_enter Tryz.func26, Tryz.ntmps26
  go_wp2_with fail
  refine (szIntS_ok _ _ _ _ _ hl2 (by omega)).mono ?_
  rintro e w' ⟨rfl, rfl⟩
  go_wp2_with fail
  refine (szIntS_ok _ _ _ _ _ (by omega) (by omega)).mono ?_
  rintro e w' ⟨rfl, rfl⟩
  go_wp2
  go_ret
  exact ⟨rfl, (Below.refl _ _).alloc (Nat.le_refl _) _⟩

set_option maxHeartbeats 400000 in
theorem toArray_any (c : Bool) (a1 a2 : Option Addr) (n1 n2 c1 c2 : Nat) (sh dt : List Int) (w : World) (h1 : Row w a1 n1 sh) (h2 : Row w a2 n2 dt) :
    Calls Tryz.prog 28 #[.agg #[.bool c, .slice a1 n1 c1, .slice a2 n2 c2]] w fun e w' => ∃ g1 g2, e = .returned (.agg #[.bool c, .slice (some ⟨g1, 0, none⟩) n1 n1, .slice (some ⟨g2, 0, none⟩) n2 n2]) ∧ w.heap.size ≤ g1 ∧ g1 < g2 ∧ Blk w' g1 sh ∧ Blk w' g2 dt ∧ Below w.heap.size w w' := by
  go_enter Tryz.func28, Tryz.ntmps28
  go_wp2_with fail
  refine (toIntS_any _ _ _ sh _ (by exact h1.below (Nat.le_refl _) (by repeat (first | exact Below.refl _ _ | refine Below.alloc ?_ (by simp <;> omega) _)))).mono ?_
  rintro e w1 ⟨g1, rfl, hg1, hb1, hbe1⟩
  obtain ⟨hc, hf⟩ := bcell hbe1
  have hz := hbe1.size
  have hbW : Below w.heap.size w w1 := Below.trans (by repeat (first | exact Below.refl _ _ | refine Below.alloc ?_ (by simp <;> omega) _)) (hbe1.mono (by simp <;> omega))
  simp at hc hf hz hg1
  have hz0 : w.heap.size < w1.heap.size := by omega
  have hz1 : w.heap.size + 1 < w1.heap.size := by omega
  have hz3 : w.heap.size + 1 + 1 < w1.heap.size := by omega
  clear hbe1
  go_wp2_with fail
  refine (toIntS_any _ _ _ dt _ (by exact h2.below (Nat.le_refl _) (hbW.setCell (by simp <;> omega) _))).mono ?_
  rintro e w2 ⟨g2, rfl, hg2, hb2, hbe2⟩
  obtain ⟨hc2, hf2⟩ := bcell hbe2
  have hz2 := hbe2.size
  have hbW2 : Below w.heap.size w w2 := (hbW.setCell (p := ⟨w.heap.size + 1 + 1, 1, none⟩) (by simp <;> omega) _).trans (hbe2.mono (by simp <;> omega))
  have hb1' : Blk w2 g1 sh := (hb1.other (p := ⟨w.heap.size + 1 + 1, 1, none⟩) (by simp; omega) _).below (Nat.le_refl _) hbe2
  simp at hc2 hf2 hz2 hg2
  clear hbe2
  go_wp2
  refine bodyPost_ret (v := .agg #[.bool c, .slice (some ⟨g1, 0, none⟩) n1 n1, .slice (some ⟨g2, 0, none⟩) n2 n2]) (by simp [results, Tryz.results28, go_sem, hc2, hc, hz1]) rfl ⟨g1, g2, rfl, by omega, ?_, ?_, ?_, ?_⟩
  · have := hb1.lt; omega
  · exact (((hb1'.other (by simp; omega) _).other (by simp; omega) _).other (by simp; omega) _).other (by simp; omega) _
  · exact (((hb2.other (by simp; omega) _).other (by simp; omega) _).other (by simp; omega) _).other (by simp; omega) _
  · exact (((hbW2.setCell (by simp <;> omega) _).setCell (by simp) _).setCell (by simp) _).setCell (by simp) _

set_option maxHeartbeats 400000 in
theorem eqArray_any (c d : Bool) (a1 a2 b1 b2 : Option Addr) (n1 n2 m1 m2 c1 c2 d1 d2 : Nat) (sh dt sh' dt' : List Int) (w : World) (h1 : Row w a1 n1 sh) (h2 : Row w a2 n2 dt) (k1 : Row w b1 m1 sh') (k2 : Row w b2 m2 dt') :
    Calls Tryz.prog 17 #[.agg #[.bool c, .slice a1 n1 c1, .slice a2 n2 c2], .agg #[.bool d, .slice b1 m1 d1, .slice b2 m2 d2]] w fun e w' => e = .returned (.bool (decide (c = d ∧ sh = sh' ∧ dt = dt'))) ∧ Below w.heap.size w w' := by
  have hW : ∀ o1 o2, Below w.heap.size w ((w.alloc o1).alloc o2) := fun o1 o2 => ((Below.refl _ _).alloc (Nat.le_refl _) _).alloc (by simp) _
  by_cases hcd : c = d
  · subst hcd
    have hb : (c == c) = true := by simp
    by_cases hs : sh = sh'
    · have HS := hs
      have hd1 : decide (sh = sh') = true := by simp [hs]
      clear hs
      by_cases ht : dt = dt'
      · have hd2 : decide (dt = dt') = true := by simp [ht]
        have HE : Hid (decide (c = c ∧ sh = sh' ∧ dt = dt') = true) := decide_eq_true ⟨rfl, HS, ht⟩
        clear ht HS
        go_enter Tryz.func17, Tryz.ntmps17
        go_wp2_with fail
        refine (eqIntS_any _ _ _ _ _ _ sh sh' _ ((h1.alloc _).alloc _) ((k1.alloc _).alloc _)).mono ?_
        rintro e w1 ⟨rfl, q, rfl⟩
        rw [hd1]
        go_wp2_with fail
        refine (eqIntS_any _ _ _ _ _ _ dt dt' _ (((h2.alloc _).alloc _).drewN _) (((k2.alloc _).alloc _).drewN _)).mono ?_
        rintro e w1 ⟨rfl, q, rfl⟩
        rw [hd2]
        go_wp2
        go_ret
        exact ⟨ret_bool HE.out.symm, Below.drewN (hW _ _) _⟩
      · have hd2 : decide (dt = dt') = false := by simp [ht]
        have HE : Hid (decide (c = c ∧ sh = sh' ∧ dt = dt') = false) := decide_eq_false (fun h => ht h.2.2)
        clear ht HS
        go_enter Tryz.func17, Tryz.ntmps17
        go_wp2_with fail
        refine (eqIntS_any _ _ _ _ _ _ sh sh' _ ((h1.alloc _).alloc _) ((k1.alloc _).alloc _)).mono ?_
        rintro e w1 ⟨rfl, q, rfl⟩
        rw [hd1]
        go_wp2_with fail
        refine (eqIntS_any _ _ _ _ _ _ dt dt' _ (((h2.alloc _).alloc _).drewN _) (((k2.alloc _).alloc _).drewN _)).mono ?_
        rintro e w1 ⟨rfl, q, rfl⟩
        rw [hd2]
        go_wp2
        go_ret
        exact ⟨ret_bool HE.out.symm, Below.drewN (hW _ _) _⟩
    · have hd1 : decide (sh = sh') = false := by simp [hs]
      have HE : Hid (decide (c = c ∧ sh = sh' ∧ dt = dt') = false) := decide_eq_false (fun h => hs h.2.1)
      clear hs
      go_enter Tryz.func17, Tryz.ntmps17
      go_wp2_with fail
      refine (eqIntS_any _ _ _ _ _ _ sh sh' _ ((h1.alloc _).alloc _) ((k1.alloc _).alloc _)).mono ?_
      rintro e w1 ⟨rfl, q, rfl⟩
      rw [hd1]
      go_wp2
      go_ret
      exact ⟨ret_bool HE.out.symm, Below.drewN (hW _ _) _⟩
  · have hb : (c == d) = false := by simp [hcd]
    have HE : Hid (decide (c = d ∧ sh = sh' ∧ dt = dt') = false) := decide_eq_false (fun h => hcd h.1)
    clear hcd
    go_enter Tryz.func17, Tryz.ntmps17
    go_wp2
    go_ret
    exact ⟨ret_bool HE.out.symm, hW _ _⟩

end Go.Proofs.YtkgcmpmgaghdhaaGreatDoor
namespace Go.Proofs.YtkgcmpmgaghdhaaGreatDoor
open Go.RowKit

set_option maxHeartbeats 1000000 in
theorem markArray_any (c : Bool) (a1 a2 : Option Addr) (n1 n2 c1 c2 B : Nat) (sh dt : List Int) (k : Int) (w : World) (h1 : Own w B a1 n1 sh) (h2 : Own w B a2 n2 dt) (hap : Apart a1 n1 a2 n2) (hk0 : 0 ≤ k) (hk : k ≤ 2305843009213693952) :
    Calls Tryz.prog 30 #[.agg #[.bool c, .slice a1 n1 c1, .slice a2 n2 c2], .int .i64 k] w fun e w' => e = .returned (.int .i64 (k + n1 + n2)) ∧ Own w' B a1 n1 (marks k n1) ∧ Own w' B a2 n2 (marks (k + n1) n2) ∧ But (fun x => At a1 n1 x ∨ At a2 n2 x) w w' := by
  have hs1 := h1.small
  have hs2 := h2.small
  have hi1 : Hid (∀ x, At a1 n1 x → x < w.heap.size) := fun x hx => h1.row.hi hx
  have H1 := hide h1
  have H2 := hide h2
  have HA := hide hap
  clear h1 h2 hap
  go_enter Tryz.func30, Tryz.ntmps30
  go_wp2_with fail
  refine (markIntS_any _ _ _ B sh _ _ (by exact (unhide H1).below (Nat.le_refl _) ((Below.refl _ _).alloc (Nat.le_refl _) _)) (by omega) (by omega)).mono ?_
  rintro e w1 ⟨rfl, ho1, hb1⟩
  have hz1 := hb1.size
  have hcell : w1.heap[w.heap.size]? = _ := hb1.block w.heap.size (by simp) (fun hx => by have := unhide hi1 _ hx; omega)
  have hc0 := World.cell?_of_block (a := ⟨w.heap.size, 0, none⟩) hcell
  have hc1 := World.cell?_of_block (a := ⟨w.heap.size, 1, none⟩) hcell
  have hc2 := World.cell?_of_block (a := ⟨w.heap.size, 2, none⟩) hcell
  have hf := fun o => World.frozen?_of_block (a := ⟨w.heap.size, o, none⟩) hcell
  simp at hc0 hc1 hc2 hz1
  have ho2 : Own w1 B a2 n2 dt := hb1.own ((unhide H2).below (Nat.le_refl _) ((Below.refl _ _).alloc (Nat.le_refl _) _)) (unhide HA)
  have HO1 := hide ho1
  have HB1 := hide hb1
  clear hcell hf ho1 hb1
  go_wp2_with fail
  refine (markIntS_any _ _ _ B dt _ _ ho2 (by omega) (by omega)).mono ?_
  rintro e w2 ⟨rfl, ho3, hb2⟩
  have HO3 := hide ho3
  have HB2 := hide hb2
  have ho4 : Hid (Own w2 B a1 n1 (marks k n1)) := hb2.own (unhide HO1) (unhide HA).symm
  clear ho3 hb2
  go_wp2
  go_ret
  exact ⟨rfl, unhide ho4, unhide HO3, (((But.refl _ _).alloc _).trans ((unhide HB1).trans (unhide HB2))).mono (fun x hx => by rcases hx with hx | hx; exact absurd hx id; exact hx)⟩

end Go.Proofs.YtkgcmpmgaghdhaaGreatDoor
namespace Go.Proofs.YtkgcmpmgaghdhaaGreatDoor
open Go.RowKit

set_option maxHeartbeats 1000000 in
theorem heldArray_marks (c : Bool) (a1 a2 : Option Addr) (n1 n2 c1 c2 : Nat) (k : Int) (w : World) (h1 : Row w a1 n1 (marks k n1)) (h2 : Row w a2 n2 (marks (k + n1) n2)) (hk0 : 0 ≤ k) (hk : k ≤ 2305843009213693952) :
    Calls Tryz.prog 31 #[.agg #[.bool c, .slice a1 n1 c1, .slice a2 n2 c2], .int .i64 k] w fun e w' => e = .returned (.int .i64 (k + n1 + n2)) ∧ Below w.heap.size w w' := by
  have hs1 := h1.small
  have hs2 := h2.small
  have H1 := hide h1
  have H2 := hide h2
  clear h1 h2
  go_enter Tryz.func31, Tryz.ntmps31
  go_wp2_with fail
  refine (heldIntS_marks _ _ _ _ _ (by exact (unhide H1).below (Nat.le_refl _) ((Below.refl _ _).alloc (Nat.le_refl _) _)) (by omega) (by omega)).mono ?_
  rintro e w1 ⟨rfl, rfl⟩
  go_wp2_with fail
  refine (heldIntS_marks _ _ _ _ _ (by exact (unhide H2).below (Nat.le_refl _) ((Below.refl _ _).alloc (Nat.le_refl _) _)) (by omega) (by omega)).mono ?_
  rintro e w1 ⟨rfl, rfl⟩
  go_wp2
  go_ret
  exact ⟨rfl, (Below.refl _ _).alloc (Nat.le_refl _) _⟩

end Go.Proofs.YtkgcmpmgaghdhaaGreatDoor
namespace Go.Proofs.YtkgcmpmgaghdhaaGreatDoor
open Go.RowKit

theorem box1 {w wr : World} {o1 : Obj} (hK : Below (w.heap.size + 1) (w.alloc o1) wr) :
    Below w.heap.size w wr ∧ w.heap.size + 1 ≤ wr.heap.size ∧ (∀ b o, b < w.heap.size + 1 → wr.cell? ⟨b, o, none⟩ = (w.alloc o1).cell? ⟨b, o, none⟩) :=
  ⟨((Below.refl _ _).alloc (Nat.le_refl _) _).trans (hK.mono (by omega)), by have := hK.size; simp at this; omega, fun b o hb => hK.cell (p := ⟨b, o, none⟩) hb⟩

theorem box2 {w wr : World} {o1 o2 : Obj} (hK : Below (w.heap.size + 2) ((w.alloc o1).alloc o2) wr) :
    Below w.heap.size w wr ∧ w.heap.size + 2 ≤ wr.heap.size ∧ (∀ b o, b < w.heap.size + 2 → wr.cell? ⟨b, o, none⟩ = ((w.alloc o1).alloc o2).cell? ⟨b, o, none⟩) :=
  ⟨(((Below.refl _ _).alloc (Nat.le_refl _) _).alloc (by simp) _).trans (hK.mono (by omega)), by have := hK.size; simp at this; omega, fun b o hb => hK.cell (p := ⟨b, o, none⟩) hb⟩

/-- What a slice argument is known to be: its cells, and that its length is an int. -/
structure Raw (w : World) (a : Option Addr) (n : Nat) (zs : List Int) : Prop where
  len : zs.length = n
  max : n ≤ 9223372036854775807
  at_ : n = 0 ∨ ∃ b off, a = some ⟨b, off, none⟩ ∧ b < w.heap.size ∧ ∀ i, i < n → w.cell? ⟨b, off + i, none⟩ = some (.int .i64 (zs.getD i 0))

theorem Raw.row {w : World} {a : Option Addr} {n : Nat} {zs : List Int} (h : Raw w a n zs) (hn : n ≤ 17592186044416) : Row w a n zs := ⟨h.len, hn, h.at_⟩

end Go.Proofs.YtkgcmpmgaghdhaaGreatDoor
namespace Go.Proofs.YtkgcmpmgaghdhaaGreatDoor
open Go.RowKit

theorem eqArray_refl (c : Bool) (a1 a2 b1 b2 : Option Addr) (n1 n2 m1 m2 c1 c2 d1 d2 : Nat) (sh dt : List Int) (w : World) (h1 : Row w a1 n1 sh) (h2 : Row w a2 n2 dt) (k1 : Row w b1 m1 sh) (k2 : Row w b2 m2 dt) :
    Calls Tryz.prog 17 #[.agg #[.bool c, .slice a1 n1 c1, .slice a2 n2 c2], .agg #[.bool c, .slice b1 m1 d1, .slice b2 m2 d2]] w fun e w' => e = .returned (.bool true) ∧ Below w.heap.size w w' := by
  have := eqArray_any c c a1 a2 b1 b2 n1 n2 m1 m2 c1 c2 d1 d2 sh dt sh dt w h1 h2 k1 k2
  rwa [decide_eq_true ⟨rfl, rfl, rfl⟩] at this

end Go.Proofs.YtkgcmpmgaghdhaaGreatDoor
namespace Go.Proofs.YtkgcmpmgaghdhaaGreatDoor
open Go.RowKit

/-- Block p holds a struct of an array. -/
def Box (w : World) (p : Nat) (c : Bool) (v1 v2 : Value) : Prop := w.heap[p]? = some (.cells #[.bool c, v1, v2] 25 (0, 0))

theorem Box.lt {w : World} {p : Nat} {c : Bool} {v1 v2 : Value} (h : Box w p c v1 v2) : p < w.heap.size := lt_of_block h

theorem Box.cells {w : World} {p : Nat} {c : Bool} {v1 v2 : Value} (h : Box w p c v1 v2) : w.cell? ⟨p, 0, none⟩ = some (.bool c) ∧ w.cell? ⟨p, 1, none⟩ = some v1 ∧ w.cell? ⟨p, 2, none⟩ = some v2 := by
  unfold Box at h
  simp [World.cell?, h]

theorem Box.below {w w' : World} {p B : Nat} {c : Bool} {v1 v2 : Value} (h : Box w p c v1 v2) (hB : w.heap.size ≤ B) (hb : Below B w w') : Box w' p c v1 v2 := (hb.block p (Nat.lt_of_lt_of_le h.lt hB)).trans h

theorem Box.but {S : Nat → Prop} {w w' : World} {p : Nat} {c : Bool} {v1 v2 : Value} (h : Box w p c v1 v2) (hb : But S w w') (hn : ¬ S p) : Box w' p c v1 v2 := (hb.block p h.lt hn).trans h

theorem Box.alloc {w : World} {p : Nat} {c : Bool} {v1 v2 : Value} (h : Box w p c v1 v2) (o : Obj) : Box (w.alloc o) p c v1 v2 := (Below.heap_alloc w o p h.lt).trans h

theorem Box.drew {w : World} {p : Nat} {c : Bool} {v1 v2 : Value} (h : Box w p c v1 v2) : Box w.drew p c v1 v2 := h

theorem Box.new (w : World) (c : Bool) (v1 v2 : Value) : Box (w.alloc (.cells #[.bool c, v1, v2] 25 (0, 0))) w.heap.size c v1 v2 := by
  show (w.heap.push _)[w.heap.size]? = _
  simp

end Go.Proofs.YtkgcmpmgaghdhaaGreatDoor

namespace Go.Proofs.YtkgcmpmgaghdhaaGreatDoor
open Go.RowKit

set_option maxHeartbeats 400000 in
theorem l1RuneOk_any (v : Int) (w : World) : Calls Tryz.prog 42 #[.int .i64 v] w fun e w' => e = .returned (.bool (runeOk v)) ∧ w' = w := by
  by_cases h1 : 0 ≤ v
  · by_cases h2 : v ≤ 1114111
    · by_cases h3 : v < 55296
      · have HE : Hid (runeOk v = true) := decide_eq_true ⟨h1, h2, .inl h3⟩
        go_enter Tryz.func42, Tryz.ntmps42
        go_wp2
        go_ret
        exact ⟨ret_bool HE.out.symm, rfl⟩
      · by_cases h4 : 57343 < v
        · have HE : Hid (runeOk v = true) := decide_eq_true ⟨h1, h2, .inr h4⟩
          go_enter Tryz.func42, Tryz.ntmps42
          go_wp2
          go_ret
          exact ⟨ret_bool HE.out.symm, rfl⟩
        · have HE : Hid (runeOk v = false) := decide_eq_false (fun h => by omega)
          go_enter Tryz.func42, Tryz.ntmps42
          go_wp2
          go_ret
          exact ⟨ret_bool HE.out.symm, rfl⟩
    · have HE : Hid (runeOk v = false) := decide_eq_false (fun h => by omega)
      go_enter Tryz.func42, Tryz.ntmps42
      go_wp2
      go_ret
      exact ⟨ret_bool HE.out.symm, rfl⟩
  · have HE : Hid (runeOk v = false) := decide_eq_false (fun h => by omega)
    go_enter Tryz.func42, Tryz.ntmps42
    go_wp2
    go_ret
    exact ⟨ret_bool HE.out.symm, rfl⟩

theorem l1RuneOk_eq (v : Int) (w : World) (b : Bool) (h : Hid (runeOk v = b)) : Calls Tryz.prog 42 #[.int .i64 v] w fun e w' => e = .returned (.bool b) ∧ w' = w := by
  rw [← h.out]; exact l1RuneOk_any v w

end Go.Proofs.YtkgcmpmgaghdhaaGreatDoor
namespace Go.Proofs.YtkgcmpmgaghdhaaGreatDoor
open Go.RowKit

theorem arr_long {c : Bool} {sh dt : List Int} {n1 : Nat} (hl : sh.length = n1) (h : 5 < n1) : arrOk c sh dt = false := by
  unfold arrOk; rw [decide_eq_false (by omega)]; rfl
theorem arr_count {c : Bool} {sh dt : List Int} {n2 : Nat} (hl : dt.length = n2) (h : countOf sh ≠ n2) : arrOk c sh dt = false := by
  unfold arrOk; rw [decide_eq_false (p := countOf sh = _) (by rw [hl]; exact h)]; simp
theorem arr_data {c : Bool} {sh dt : List Int} (h : dt.all (dataOk c) = false) : arrOk c sh dt = false := by
  unfold arrOk; rw [h]; simp
theorem arr_good {c : Bool} {sh dt : List Int} {n1 n2 : Nat} (hl1 : sh.length = n1) (hl2 : dt.length = n2) (h5 : n1 ≤ 5) (hc : countOf sh = n2) (h : dt.all (dataOk c) = true) : arrOk c sh dt = true := by
  unfold arrOk; rw [h, decide_eq_true (by omega), decide_eq_true (by rw [hl2]; exact hc)]; rfl

set_option maxHeartbeats 1000000 in
theorem ArrayOk_any (c : Bool) (a1 a2 : Option Addr) (n1 n2 c1 c2 : Nat) (sh dt : List Int) (w : World) (h1 : Row w a1 n1 sh) (h2 : Row w a2 n2 dt) :
    Calls Tryz.prog 9 #[.agg #[.bool c, .slice a1 n1 c1, .slice a2 n2 c2]] w fun e w' => e = .returned (.bool (arrOk c sh dt)) ∧ Below w.heap.size w w' := by
  have hl1 := hide h1.len
  have hl2 := hide h2.len
  have hs1 := h1.small
  have hs2 := h2.small
  have H1 := hide h1
  have H2 := hide h2
  clear h1 h2
  have hW : ∀ o, Below w.heap.size w (w.alloc o) := fun o => (Below.refl _ _).alloc (Nat.le_refl _) _
  have hcb := count_bd sh
  obtain ⟨hcb1, hcb2⟩ := hcb
  by_cases h5 : 5 < n1
  · have hd : decide ((5 : Int) < (n1 : Int)) = true := by simp; omega
    have HE := hide (arr_long (c := c) (dt := dt) (unhide hl1) h5)
    go_enter Tryz.func9, Tryz.ntmps9
    go_wp2
    go_quiet (fail)
    go_wp2
    go_ret
    exact ⟨ret_bool HE.out.symm, Below.drewN (hW _) _⟩
  · have hd : decide ((5 : Int) < (n1 : Int)) = false := by simp; omega
    obtain ⟨cn, hcn⟩ : ∃ cn, countOf sh = cn := ⟨_, rfl⟩
    rw [hcn] at hcb1 hcb2
    have HC := hide hcn
    clear hcn
    by_cases hcn : cn = n2
    · have hb : (cn != (n2 : Int)) = false := by simp [hcn]
      have HCN := hide hcn
      clear hcn
      go_enter Tryz.func9, Tryz.ntmps9
      go_wp2
      go_quiet ((go_at_call 41; exact Calls.quiet_of_same (l3Count_eq _ _ _ sh _ (((unhide H1).alloc _).drewN _) cn HC)))
      go_wp2
      go_loopw [3, 4] (fun i v wr => ∃ k : Nat, k ≤ n2 ∧ i = .int .i64 k ∧ Hid ((dt.take k).all (dataOk c) = true) ∧ wr = (w.alloc (.cells #[.bool c, .slice a1 n1 c1, .slice a2 n2 c2] 25)).drewN nq) (fun i _ _ => n2 - (intOf i).toNat)
      case atStart => exact ⟨0, Nat.zero_le _, rfl, rfl, rfl⟩
      case round =>
        obtain ⟨k, hk, rfl, hall, rfl⟩ := hrel
        by_cases hlt : k < n2
        · obtain ⟨b, off, rfl, hblt, hc⟩ := (unhide H2).get hlt
          have hks : Hid (k < dt.length) := by show k < dt.length; rw [unhide hl2]; exact hlt
          obtain ⟨x, hx⟩ : ∃ x, x = dt.getD k 0 := ⟨_, rfl⟩
          rw [← hx] at hc
          have HX := hide hx
          clear hx
          have hN : ∀ {r : Bool}, dataOk c x = r → r = false → Hid (arrOk c sh dt = false) := fun h1 h2 => arr_data (all_not dt (dataOk c) k (unhide hks) (by rw [← unhide HX, h1, h2]))
          have hY : ∀ {r : Bool}, dataOk c x = r → r = true → Hid ((dt.take (k + 1)).all (dataOk c) = true) := fun h1 h2 => all_step dt (dataOk c) k (unhide hks) (unhide hall) (by rw [← unhide HX, h1, h2])
          cases c with
          | true =>
            cases hr : runeOk x with
            | true =>
              have hxb := of_decide_eq_true hr
              have HR := hide hr
              have HA := hY (show dataOk true x = true by unfold dataOk; rw [hr, decide_eq_true (by omega)]; rfl) rfl
              have hx1 : x ≤ 1000000000000000 := by omega
              have hx2 : -1000000000000000 ≤ x := by omega
              clear hr hxb hN hY
              go_wp2_with (go_at_call 42; refine (l1RuneOk_eq _ _ true HR).mono ?_; rintro e w' ⟨rfl, rfl⟩)
              go_roundw
              case rel => exact ⟨k + 1, by omega, by go_num, HA, by first | exact trivial | rfl⟩
              case measure => simp [intOf]; omega
            | false =>
              have HR := hide hr
              have HE := hN (show dataOk true x = false by unfold dataOk; rw [hr]; rfl) rfl
              clear hr hN hY
              go_wp2_with (go_at_call 42; refine (l1RuneOk_eq _ _ false HR).mono ?_; rintro e w' ⟨rfl, rfl⟩)
              go_ret
              exact ⟨ret_bool HE.out.symm, Below.drewN (hW _) _⟩
          | false =>
            by_cases hx1 : 1000000000000000 < x
            · have HE := hN (show dataOk false x = false by unfold dataOk; rw [decide_eq_false (by omega)]; rfl) rfl
              clear hN hY
              go_wp2
              go_ret
              exact ⟨ret_bool HE.out.symm, Below.drewN (hW _) _⟩
            · by_cases hx2 : x < -1000000000000000
              · have HE := hN (show dataOk false x = false by unfold dataOk; rw [decide_eq_false (by omega)]; rfl) rfl
                clear hN hY
                go_wp2
                go_ret
                exact ⟨ret_bool HE.out.symm, Below.drewN (hW _) _⟩
              · have HA := hY (show dataOk false x = true by unfold dataOk; rw [decide_eq_true (by omega)]; rfl) rfl
                clear hN hY
                go_wp2
                go_roundw
                case rel => exact ⟨k + 1, by omega, by go_num, HA, by first | exact trivial | rfl⟩
                case measure => simp [intOf]; omega
        · have HA : Hid (dt.all (dataOk c) = true) := by
            have := unhide hall
            rwa [List.take_of_length_le (by rw [unhide hl2]; omega)] at this
          have HE := hide (arr_good (unhide hl1) (unhide hl2) (by omega) ((unhide HC).trans (unhide HCN)) (unhide HA))
          go_wp2
          go_ret
          exact ⟨ret_bool HE.out.symm, Below.drewN (hW _) _⟩
    · have hb : (cn != (n2 : Int)) = true := by simp [hcn]
      have HE := hide (arr_count (c := c) (sh := sh) (unhide hl2) (by rw [unhide HC]; exact hcn))
      clear hcn
      go_enter Tryz.func9, Tryz.ntmps9
      go_wp2
      go_quiet ((go_at_call 41; exact Calls.quiet_of_same (l3Count_eq _ _ _ sh _ (((unhide H1).alloc _).drewN _) cn HC)))
      go_wp2
      go_ret
      exact ⟨ret_bool HE.out.symm, Below.drewN (hW _) _⟩

theorem ArrayOk_eq (c : Bool) (a1 a2 : Option Addr) (n1 n2 c1 c2 : Nat) (sh dt : List Int) (w : World) (h1 : Row w a1 n1 sh) (h2 : Row w a2 n2 dt) (r : Bool) (hr : Hid (arrOk c sh dt = r)) :
    Calls Tryz.prog 9 #[.agg #[.bool c, .slice a1 n1 c1, .slice a2 n2 c2]] w fun e w' => e = .returned (.bool r) ∧ Below w.heap.size w w' := by
  rw [← hr.out]; exact ArrayOk_any c a1 a2 n1 n2 c1 c2 sh dt w h1 h2

end Go.Proofs.YtkgcmpmgaghdhaaGreatDoor
namespace Go.Proofs.YtkgcmpmgaghdhaaGreatDoor
open Go.RowKit

theorem Box.free {w : World} {p : Nat} {c : Bool} {v1 v2 : Value} (h : Box w p c v1 v2) (o : Nat) : w.frozen? ⟨p, o, none⟩ = false := frozen_of_row w p o _ _ h

theorem Box.all {w : World} {p : Nat} {c : Bool} {v1 v2 : Value} (h : Box w p c v1 v2) : w.cell? ⟨p, 0, none⟩ = some (.bool c) ∧ w.cell? ⟨p, 1, none⟩ = some v1 ∧ w.cell? ⟨p, 2, none⟩ = some v2 ∧ w.frozen? ⟨p, 0, none⟩ = false ∧ w.frozen? ⟨p, 1, none⟩ = false ∧ w.frozen? ⟨p, 2, none⟩ = false ∧ p < w.heap.size :=
  ⟨h.cells.1, h.cells.2.1, h.cells.2.2, h.free _, h.free _, h.free _, h.lt⟩

theorem Box.set2 {w : World} {p : Nat} {c : Bool} {v1 v2 : Value} (h : Box w p c v1 v2) (v : Value) : Box (w.setCell ⟨p, 2, none⟩ v) p c v1 v := by
  unfold Box at h ⊢
  rw [heap_setCell_same w p 2 _ _ _ h]
  simp

theorem Box.other {w : World} {p : Nat} {c : Bool} {v1 v2 : Value} (h : Box w p c v1 v2) {q : Addr} (hq : p ≠ q.block) (v : Value) : Box (w.setCell q v) p c v1 v2 := (heap_setCell_other w q p v hq).trans h

theorem Box.low {w w' : World} {p B : Nat} {c : Bool} {v1 v2 : Value} (h : Box w p c v1 v2) (hp : p < B) (hb : Below B w w') : Box w' p c v1 v2 := (hb.block p hp).trans h

theorem Box.grown {w w1 : World} {p base n : Nat} {c : Bool} {v1 v2 v : Value} {xs : List Value} (h : Box w p c v1 v2) (hown : w.ownsRow base 3 1 v n xs) (o : Obj) (hg : (w.alloc o).grownBy w1 v.ownBlock) : Box w1 p c v1 v2 := by
  refine (hg.block p (by have := h.lt; simp; omega) ?_).trans (h.alloc o)
  rcases hown.2 with ⟨rfl, _⟩ | ⟨g, cap, cur, rfl, _, hh, _⟩
  · exact fun e => by cases e
  · intro e
    have e' : p = g := by simpa [Value.ownBlock] using e
    subst e'
    unfold Box at h
    rw [hh] at h
    simp at h

theorem owns_box_set {w : World} {base n p : Nat} {v : Value} {xs : List Value} {c : Bool} {v1 v2 : Value} (h : w.ownsRow base 3 1 v n xs) (hb : Box w p c v1 v2) (o : Nat) (u : Value) : (w.setCell ⟨p, o, none⟩ u).ownsRow base 3 1 v n xs := by
  obtain ⟨h1, h2⟩ := h
  refine ⟨h1, ?_⟩
  rcases h2 with h2 | ⟨g, cap, cur, hv, hg, hh, r⟩
  · exact Or.inl h2
  · refine Or.inr ⟨g, cap, cur, hv, hg, ?_, r⟩
    rw [Below.heap_setCell _ _ _ _ (by
      intro e
      have e' : g = p := e
      subst e'
      unfold Box at hb
      rw [hh] at hb
      simp at hb)]
    exact hh

end Go.Proofs.YtkgcmpmgaghdhaaGreatDoor
namespace Go.Proofs.YtkgcmpmgaghdhaaGreatDoor
open Go.RowKit

/-- Block pr holds a reader of at most 1000 bytes, which lie below it. -/
def RdOk (w : World) (pr : Nat) : Prop :=
  ∃ (a : Option Addr) (n c p : Nat), w.heap[pr]? = some (.cells #[.slice a n c, .int .i64 (p : Nat)] 115 (0, 0)) ∧ n ≤ 1000 ∧ p ≤ n ∧ (n = 0 ∨ ∃ b off, a = some ⟨b, off, none⟩ ∧ b < pr ∧ ∀ i, i < n → ∃ v : Nat, v ≤ 255 ∧ w.cell? ⟨b, off + i, none⟩ = some (.int .u8 (v : Nat)))

theorem RdOk.lt {w : World} {pr : Nat} (h : RdOk w pr) : pr < w.heap.size := by obtain ⟨a, n, c, p, hc, _⟩ := h; exact lt_of_block hc

theorem RdOk.but {S : Nat → Prop} {w w' : World} {pr : Nat} (h : RdOk w pr) (hb : But S w w') (hs : ∀ k, S k → pr < k) : RdOk w' pr := by
  have hl := h.lt
  obtain ⟨a, n, c, p, hc, h1, h2, h3⟩ := h
  refine ⟨a, n, c, p, (hb.block pr hl (fun e => by have := hs _ e; omega)).trans hc, h1, h2, ?_⟩
  rcases h3 with h3 | ⟨b, off, e, hbl, hv⟩
  · exact .inl h3
  · refine .inr ⟨b, off, e, hbl, fun i hi => ?_⟩
    obtain ⟨v, hv1, hv2⟩ := hv i hi
    exact ⟨v, hv1, (hb.cellAt (by omega) (fun e => by have := hs _ e; omega)).trans hv2⟩

theorem RdOk.below {w w' : World} {pr : Nat} (h : RdOk w pr) (hb : Below w.heap.size w w') : RdOk w' pr := h.but (S := fun _ => False) (But.of_below hb) (fun _ h => h.elim)

theorem RdOk.set {w : World} {pr : Nat} {a : Option Addr} {n c p q : Nat} (hc : w.heap[pr]? = some (.cells #[.slice a n c, .int .i64 (p : Nat)] 115 (0, 0))) (h1 : n ≤ 1000) (h2 : q ≤ n) (h3 : n = 0 ∨ ∃ b off, a = some ⟨b, off, none⟩ ∧ b < pr ∧ ∀ i, i < n → ∃ v : Nat, v ≤ 255 ∧ w.cell? ⟨b, off + i, none⟩ = some (.int .u8 (v : Nat))) : RdOk (w.setCell ⟨pr, 1, none⟩ (.int .i64 (q : Nat))) pr := by
  refine ⟨a, n, c, q, ?_, h1, h2, ?_⟩
  · rw [heap_setCell_same w pr 1 _ _ _ hc]
    simp
  · rcases h3 with h3 | ⟨b, off, e, hbl, hv⟩
    · exact .inl h3
    · refine .inr ⟨b, off, e, hbl, fun i hi => ?_⟩
      obtain ⟨v, hv1, hv2⟩ := hv i hi
      exact ⟨v, hv1, (World.cell?_setCell_other _ _ _ _ (by simp)).trans hv2⟩

set_option maxHeartbeats 2000000 in
theorem next_any (pr : Nat) (w : World) (h : RdOk w pr) :
    Calls Tryz.prog 72 #[.pointer (some ⟨pr, 0, none⟩)] w fun e w' => (∃ v : Nat, v ≤ 255 ∧ e = .returned (.int .i64 (v : Nat))) ∧ RdOk w' pr ∧ But (fun x => x = pr) w w' := by
  have hl := h.lt
  have HR := hide h
  obtain ⟨a, n, c, p, hc, h1, h2, h3⟩ := h
  have HC := hide hc
  have H3 := hide h3
  have c0 : w.cell? ⟨pr, 0, none⟩ = some (.slice a n c) := by simp [World.cell?, hc]
  have c1 : w.cell? ⟨pr, 1, none⟩ = some (.int .i64 (p : Nat)) := by simp [World.cell?, hc]
  have f1 : w.frozen? ⟨pr, 1, none⟩ = false := frozen_of_row w pr 1 _ _ hc
  by_cases hlt : p < n
  · rcases h3 with h0 | ⟨b, off, rfl, hbl, hv⟩
    · omega
    obtain ⟨v, hv1, hv2⟩ := hv p hlt
    have hw : IntKind.i64.wrap (v : Int) = (v : Int) := by rw [IntKind.wrap_i64]; omega
    have HLT := hide hlt
    clear hlt hv hc
    go_enter Tryz.func72, Tryz.ntmps72
    go_wp2_with fail
    have hd : decide ((p : Int) < (n : Int)) = true := decide_eq_true (by have := unhide HLT; omega)
    go_big_quiet (fail)
    have hlt := unhide HLT
    clear hd
    go_wp2_with fail
    have hpz : (p : Int) < (n : Int) := by omega
    go_quiet (fail)
    go_wp2_with fail
    go_ret
    refine ⟨⟨v, hv1, rfl⟩, ?_, ?_⟩
    · exact RdOk.set (q := p + 1) (unhide HC) h1 (by omega) (unhide H3)
    · first | exact (But.of_below (S := fun x => x = pr) (Below.drewN (Below.refl _ w) _)).setCell (p := ⟨pr, 1, none⟩) rfl _ | exact (But.of_below (S := fun x => x = pr) (Below.drewN (Below.drewN (Below.refl _ w) _) _)).setCell (p := ⟨pr, 1, none⟩) rfl _
  · have HLT := hide hlt
    clear hlt h3 hc
    go_enter Tryz.func72, Tryz.ntmps72
    go_wp2_with fail
    have hd : decide ((p : Int) < (n : Int)) = false := decide_eq_false (by have := unhide HLT; omega)
    go_big_quiet (fail)
    have hlt := unhide HLT
    clear hd
    go_wp2_with fail
    go_ret
    exact ⟨⟨0, by omega, rfl⟩, (unhide HR).below (Below.drewN (Below.refl _ _) _), But.of_below (Below.drewN (Below.refl _ _) _)⟩

end Go.Proofs.YtkgcmpmgaghdhaaGreatDoor
namespace Go.Proofs.YtkgcmpmgaghdhaaGreatDoor
open Go.RowKit

theorem modN (k m : Nat) (hm : 0 < m) : ∃ j : Nat, j < m ∧ (k : Int).tmod (m : Int) = (j : Int) ∧ (k : Int) % (m : Int) = (j : Int) := ⟨k % m, Nat.mod_lt _ hm, by rw [Int.tmod_eq_emod_of_nonneg (by omega)]; rfl, rfl⟩

theorem lits (w : World) (l : List Int) (j : Nat) (hj : j < l.length) : (w.alloc (.cells (l.map (Value.int .i64)).toArray 3)).cell? ⟨w.heap.size, j, none⟩ = some (.int .i64 (l.getD j 0)) :=
  Blk.cell (show Blk _ _ l from World.alloc_heap_new w _) hj

theorem rank_lit (j : Nat) (hj : j < 12) : ∃ rk : Nat, (rk : Int) = ([1, 1, 1, 0, 2, 2, 3, 0, 2, 4, 1, 5] : List Int).getD j 0 ∧ rk ≤ 5 := by
  have : j = 0 ∨ j = 1 ∨ j = 2 ∨ j = 3 ∨ j = 4 ∨ j = 5 ∨ j = 6 ∨ j = 7 ∨ j = 8 ∨ j = 9 ∨ j = 10 ∨ j = 11 := by omega
  rcases this with rfl | rfl | rfl | rfl | rfl | rfl | rfl | rfl | rfl | rfl | rfl | rfl <;>
    first | (refine ⟨0, ?_⟩; simp; done) | (refine ⟨1, ?_⟩; simp; done) | (refine ⟨2, ?_⟩; simp; done) | (refine ⟨3, ?_⟩; simp; done) | (refine ⟨4, ?_⟩; simp; done) | (refine ⟨5, ?_⟩; simp; done)

set_option maxRecDepth 20000 in
set_option maxHeartbeats 2000000 in
theorem l3Num_any (pr : Nat) (w : World) (h : RdOk w pr) :
    Calls Tryz.prog 141 #[.pointer (some ⟨pr, 0, none⟩)] w fun e w' => (∃ v : Int, -1000000000000000 ≤ v ∧ v ≤ 1000000000000000 ∧ e = .returned (.int .i64 v)) ∧ RdOk w' pr ∧ But (fun x => x = pr) w w' := by
  have hcall := next_any pr w h
  clear h
  go_enter Tryz.func141, Tryz.ntmps141
  go_wp2_with fail
  refine hcall.mono ?_
  rintro e w1 ⟨⟨k, hk, rfl⟩, hr, hb⟩
  have HR := hide hr
  have HB := hide hb
  clear hr hb hcall
  by_cases h8 : 248 ≤ k
  · have h8z : (248 : Int) ≤ (k : Int) := by omega
    obtain ⟨j, hj, q1, q2⟩ := modN k 4 (by omega)
    have hc := lits w1 [1000000000000000, -1000000000000000, 999999999, 40000000] j (by simpa using hj)
    obtain ⟨x, hx⟩ : ∃ x, x = ([1000000000000000, -1000000000000000, 999999999, 40000000] : List Int).getD j 0 := ⟨_, rfl⟩
    have hxb : -1000000000000000 ≤ x ∧ x ≤ 1000000000000000 := by
      rw [hx]
      have : j = 0 ∨ j = 1 ∨ j = 2 ∨ j = 3 := by omega
      rcases this with rfl | rfl | rfl | rfl <;> simp
    rw [← hx] at hc
    simp only [List.map_cons, List.map_nil] at hc
    have hjz : (j : Int) < 4 := by omega
    have q1' : (k : Int).tmod 4 = (j : Int) := q1
    have q2' : (k : Int) % 4 = (j : Int) := q2
    have hw4 : IntKind.i64.wrap (j : Int) = (j : Int) := by rw [IntKind.wrap_i64]; omega
    clear hx q1 q2
    go_wp2_with fail
    go_ret
    exact ⟨⟨x, hxb.1, hxb.2, rfl⟩, (unhide HR).below ((Below.refl _ _).alloc (Nat.le_refl _) _), (unhide HB).alloc _⟩
  · have h8z : ¬ (248 : Int) ≤ (k : Int) := by omega
    obtain ⟨j, hj, q1, q2⟩ := modN k 23 (by omega)
    have q1' : (k : Int).tmod 23 = (j : Int) := q1
    have q2' : (k : Int) % 23 = (j : Int) := q2
    have hw : IntKind.i64.wrap ((j : Int) - 6) = (j : Int) - 6 := by rw [IntKind.wrap_i64]; omega
    clear q1 q2
    go_wp2_with fail
    go_ret
    exact ⟨⟨(j : Int) - 6, by omega, by omega, rfl⟩, unhide HR, unhide HB⟩

theorem owns_but {S : Nat → Prop} {w w' : World} {base n g cap : Nat} {xs : List Value} (h : w.ownsRow base 3 1 (.slice (some ⟨g, 0, none⟩) n cap) n xs) (hb : But S w w') (hs : ¬ S g) : w'.ownsRow base 3 1 (.slice (some ⟨g, 0, none⟩) n cap) n xs := by
  refine ⟨h.1, ?_⟩
  rcases h.2 with h0 | ⟨g', cap', cur, e, hge, hh, hr⟩
  · exact .inl h0
  · cases e
    exact .inr ⟨g, cap, cur, rfl, hge, (hb.block g (lt_of_block hh) hs).trans hh, hr⟩

theorem owns_ne {w : World} {base n g cap pr : Nat} {xs : List Value} {a : Option Addr} {l c p : Nat} (h : w.ownsRow base 3 1 (.slice (some ⟨g, 0, none⟩) n cap) n xs) (hp : w.heap[pr]? = some (.cells #[.slice a l c, .int .i64 (p : Nat)] 115 (0, 0))) : g ≠ pr := by
  rcases h.2 with ⟨e, _⟩ | ⟨g', cap', cur, e, hge, hh, hr⟩
  · cases e
  · cases e
    intro e
    subst e
    rw [hp] at hh
    have := congrArg (fun o => match o with | some (.cells _ t _) => t | _ => 0) hh
    simp at this

theorem but_grown {w w1 : World} {o : Obj} {g : Nat} (hg : (w.alloc o).grownBy w1 (some g)) : But (fun x => x = g) w w1 :=
  ⟨hg.os, hg.tape, hg.output, by have := hg.size; simp at this; omega, fun k hk hn => (hg.block k (by simp; omega) (fun e => hn (by simpa using e))).trans (Below.heap_alloc w o k hk)⟩

theorem owns_from {w : World} {base n g cap : Nat} {xs : List Value} (h : w.ownsRow base 3 1 (.slice (some ⟨g, 0, none⟩) n cap) n xs) : base ≤ g := by
  rcases h.2 with ⟨e, _⟩ | ⟨g', cap', cur, e, hge, hh, hr⟩
  · cases e
  · cases e; exact hge

/-- What an append to a list of the draw's own leaves. -/
theorem draw_grown {w w2 w3 : World} {o : Obj} {pr g : Nat} (hr : RdOk w2 pr) (hb : But (fun x => x = pr) w w2) (hp : pr < w.heap.size) (hge : w.heap.size ≤ g) (hg : (w2.alloc o).grownBy w3 (some g)) : RdOk w3 pr ∧ But (fun x => x = pr) w w3 := by
  have h := but_grown hg
  refine ⟨hr.but h (by rintro k rfl; omega), ?_⟩
  exact ⟨h.os.trans hb.os, h.tape.trans hb.tape, h.output.trans hb.output, by have := h.size; have := hb.size; omega, fun k hk hn => (h.block k (by have := hb.size; omega) (by rintro rfl; omega)).trans (hb.block k hk hn)⟩

set_option maxRecDepth 20000 in
set_option maxHeartbeats 4000000 in
theorem l3Shape_any (pr : Nat) (w : World) (h : RdOk w pr) :
    Calls Tryz.prog 112 #[.pointer (some ⟨pr, 0, none⟩)] w fun e w' => (∃ (g n cap : Nat) (zs : List Int), e = .returned (.slice (some ⟨g, 0, none⟩) n cap) ∧ n ≤ 5 ∧ w'.ownsRow w.heap.size 3 1 (.slice (some ⟨g, 0, none⟩) n cap) n (zs.map (Value.int .i64))) ∧ RdOk w' pr ∧ But (fun x => x = pr) w w' := by
  have hcall := next_any pr w h
  have hlw := h.lt
  clear h
  obtain ⟨i0, hi, hz0, hz1, hz2⟩ := info_parts info_int
  go_enter Tryz.func112, Tryz.ntmps112
  go_wp2_with fail
  refine hcall.mono ?_
  rintro e w1 ⟨⟨k, hk, rfl⟩, hr, hb⟩
  have HR := hide hr
  have HB := hide hb
  clear hr hb hcall
  obtain ⟨j, hj, q1, q2⟩ := modN k 12 (by omega)
  have q1' : (k : Int).tmod 12 = (j : Int) := q1
  have q2' : (k : Int) % 12 = (j : Int) := q2
  have hc := lits w1 [1, 1, 1, 0, 2, 2, 3, 0, 2, 4, 1, 5] j (by simpa using hj)
  obtain ⟨rk, hrk, hrk5⟩ := rank_lit j hj
  rw [← hrk] at hc
  simp only [List.map_cons, List.map_nil] at hc
  have hjz : (j : Int) < 12 := by omega
  have hw12 : IntKind.i64.wrap (j : Int) = (j : Int) := by rw [IntKind.wrap_i64]; omega
  clear hrk q1 q2
  go_wp2_with fail
  obtain ⟨W, hW⟩ : ∃ W, W = (w1.alloc (.cells #[.int .i64 1, .int .i64 1, .int .i64 1, .int .i64 0, .int .i64 2, .int .i64 2, .int .i64 3, .int .i64 0, .int .i64 2, .int .i64 4, .int .i64 1, .int .i64 5] 3)).alloc (.cells #[] 3) := ⟨_, rfl⟩
  have HRW : Hid (RdOk W pr) := by rw [hW]; exact ((unhide HR).below ((Below.refl _ _).alloc (Nat.le_refl _) _)).below ((Below.refl _ _).alloc (Nat.le_refl _) _)
  have HBW : Hid (But (fun x => x = pr) w W) := by rw [hW]; exact ((unhide HB).alloc _).alloc _
  have HOW : Hid (W.ownsRow w.heap.size 3 1 (.slice (some ⟨w1.heap.size + 1, 0, none⟩) 0 0) 0 (([] : List Int).map (Value.int .i64))) := by
    rw [hW]
    have := owns_empty (w1.alloc (.cells #[.int .i64 1, .int .i64 1, .int .i64 1, .int .i64 0, .int .i64 2, .int .i64 2, .int .i64 3, .int .i64 0, .int .i64 2, .int .i64 4, .int .i64 1, .int .i64 5] 3))
    rw [World.size_alloc] at this
    exact owns_mono this (by have := (unhide HB).size; omega)
  rw [← hW]
  clear hW hc HR HB q1' q2' hw12
  generalize w1.heap.size + 1 = g0 at *
  go_loopw [5, 6] (fun v i wr => ∃ (n g cap : Nat) (zs : List Int), n ≤ rk ∧ i = .int .i64 (n : Nat) ∧ v = .slice (some ⟨g, 0, none⟩) n cap ∧ Hid (wr.ownsRow w.heap.size 3 1 (.slice (some ⟨g, 0, none⟩) n cap) n (zs.map (Value.int .i64))) ∧ Hid (RdOk wr pr) ∧ Hid (But (fun x => x = pr) w wr)) (fun _ i _ => rk - (intOf i).toNat)
  case atStart => exact ⟨0, g0, 0, [], Nat.zero_le _, rfl, rfl, HOW, HRW, HBW⟩
  case round =>
    clear HOW HRW HBW
    obtain ⟨n, g, cap, zs, hn, rfl, rfl, ho, hr, hb⟩ := hrel
    by_cases hlt : n < rk
    · have hnz : (n : Int) < (rk : Int) := by omega
      have hcall := next_any pr wr (unhide hr)
      have HNE : Hid (g ≠ pr) := by obtain ⟨_, _, _, _, hp, _⟩ := unhide hr; exact owns_ne (unhide ho) hp
      go_upto_if 25 with (go_at_call 72; refine hcall.mono ?_; rintro e w2 ⟨⟨v, hv, rfl⟩, hr2, hb2⟩; have HR2 := hide hr2; have HB2' := hide hb2; obtain ⟨j5, hj5, q5, q5'⟩ := modN v 5 (by omega); (have r5 : (v : Int).tmod 5 = (j5 : Int) := q5); (have r5' : (v : Int) % 5 = (j5 : Int) := q5'); clear hr2 hb2 q5 q5')
      have HB2 : Hid (But (fun x => x = pr) w w2) := ((unhide hb).trans (unhide HB2')).mono (by rintro x (h | h) <;> exact h)
      have HO2 : Hid (w2.ownsRow w.heap.size 3 1 (.slice (some ⟨g, 0, none⟩) n cap) n (zs.map (Value.int .i64))) := owns_but (unhide ho) (unhide HB2') (unhide HNE)
      clear r5 r5' ho hr hb HB2' hcall
      go_cut [7] (fun v wx => w2 = wx ∧ ∃ m : Nat, m ≤ 4 ∧ v = .int .i64 (m : Nat))
      case first => as_aux_lemma =>
        by_cases h3 : 3 < rk
        · have h3z : (3 : Int) < (rk : Int) := by omega
          obtain ⟨j2, hj2, q2, q2'⟩ := modN j5 2 (by omega)
          have r2 : (j5 : Int).tmod 2 = (j2 : Int) := q2
          have r2' : (j5 : Int) % 2 = (j2 : Int) := q2'
          clear q2 q2'
          go_wp2_with fail
          go_meet
          case rel => exact ⟨rfl, j2 + 1, by omega, by simp⟩
        · have h3z : ¬ (3 : Int) < (rk : Int) := by omega
          go_wp2_with fail
          go_meet
          case rel => exact ⟨rfl, j5, by omega, rfl⟩
      case rest =>
        obtain ⟨rfl, m, hm4, rfl⟩ := hcut
        go_upto_region 10 with fail
        go_cut [34] (fun v wx => w2 = wx ∧ ∃ b : Bool, v = .bool b)
        case first => as_aux_lemma =>
          by_cases hm0 : m = 0
          · have g0 : ((m : Int) == 0) = true := by simp [hm0]
            go_wp2_with fail
            go_meet
            case rel => exact ⟨rfl, _, rfl⟩
          · have g0 : ((m : Int) == 0) = false := by simp; omega
            go_wp2_with fail
            go_meet
            case rel => exact ⟨rfl, _, rfl⟩
        case rest =>
          obtain ⟨rfl, b, rfl⟩ := hcut
          go_upto_if 34 with fail
          go_cut [7] (fun v wx => w2 = wx ∧ ∃ m : Nat, m ≤ 4 ∧ v = .int .i64 (m : Nat))
          case first => as_aux_lemma =>
            cases b
            · go_wp2_with fail
              go_meet
              case rel => exact ⟨rfl, m, by omega, rfl⟩
            · go_wp2_with fail
              go_meet
              case rel => exact ⟨rfl, 2, by omega, rfl⟩
          case rest =>
            obtain ⟨rfl, m', hm4', rfl⟩ := hcut
            have hsz2 := (unhide HB2).size
            go_wp2_with (at_builtin; refine wpList_append_lies _ rfl _ _ 23 rfl w.heap.size 3 i0 (.int .i64 0) 1 8 Tryz.underlying23 hi hz0 hz1 hz2 rfl (by decide) _ _ _ rfl (owns_below (unhide HO2) (Nat.le_refl _) ((Below.refl _ _).alloc (Nat.le_refl _) _)) ⟨w2.heap.size, 0, none⟩ 1 1 [.int .i64 (m' : Nat)] rfl rfl (cells_new _ _) (one_one _) (by omega) (by unfold maxLen; omega) (by omega) (by simp; omega) (w2.heap.size + 1) (by simp) ?_; intro g' cap' w7 hown' hgrow hat hlt7; have HOW := hide hown'; have HD := hide (draw_grown (unhide HR2) (unhide HB2) hlw (owns_from (unhide HO2)) hgrow); clear hown' hgrow hat hlt7)
            go_roundw
            case rel => exact ⟨n + 1, g', cap', zs ++ [(m' : Int)], by omega, by go_num, rfl, by show World.ownsRow _ _ _ _ _ _ _; rw [List.map_append]; exact unhide HOW, hide (unhide HD).1, hide (unhide HD).2⟩
            case measure => simp [intOf]; omega
    · have e : n = rk := by omega
      subst e
      go_wp2_with fail
      go_ret
      exact ⟨⟨g, n, cap, zs, rfl, hrk5, unhide ho⟩, unhide hr, unhide hb⟩

end Go.Proofs.YtkgcmpmgaghdhaaGreatDoor
namespace Go.Proofs.YtkgcmpmgaghdhaaGreatDoor
open Go.RowKit

theorem Box.free' {w : World} {p : Nat} {c : Bool} {v1 v2 : Value} (h : Box w p c v1 v2) : w.cell? ⟨p, 0, none⟩ = some (.bool c) ∧ w.cell? ⟨p, 1, none⟩ = some v1 ∧ w.cell? ⟨p, 2, none⟩ = some v2 ∧ w.frozen? ⟨p, 0, none⟩ = false ∧ w.frozen? ⟨p, 1, none⟩ = false ∧ w.frozen? ⟨p, 2, none⟩ = false ∧ p < w.heap.size :=
  ⟨h.cells.1, h.cells.2.1, h.cells.2.2, frozen_of_row w p _ _ _ h, frozen_of_row w p _ _ _ h, frozen_of_row w p _ _ _ h, h.lt⟩

theorem Box.sets {w : World} {p : Nat} {c c' : Bool} {v1 v2 u1 u2 : Value} (h : Box w p c v1 v2) : Box (((w.setCell ⟨p, 0, none⟩ (.bool c')).setCell ⟨p, 1, none⟩ u1).setCell ⟨p, 2, none⟩ u2) p c' u1 u2 := by
  unfold Box at h ⊢
  have h1 := heap_setCell_same w p 0 _ _ (.bool c') h
  have h2 := heap_setCell_same _ p 1 _ _ u1 h1
  have h3 := heap_setCell_same _ p 2 _ _ u2 h2
  simpa using h3

theorem Row.notBox {w : World} {a : Option Addr} {n p : Nat} {zs : List Int} {c : Bool} {a1 a2 : Option Addr} {l1 l2 c1 c2 : Nat} (h : Row w a n zs) (hb : Box w p c (.slice a1 l1 c1) (.slice a2 l2 c2)) {k : Nat} (hk : At a n k) : k ≠ p := by
  rcases h.at_ with h0 | ⟨g, off, rfl, hg, hc⟩
  · exact absurd h0 hk.1
  · have e := at_eq hk
    subst e
    rintro rfl
    have h1 := hc 0 (by have := hk.1; omega)
    unfold Box at hb
    simp only [World.cell?, hb] at h1
    simp at h1
    match off, h1 with
    | 0, h1 => simp at h1
    | 1, h1 => simp at h1
    | 2, h1 => simp at h1

theorem Row.otherB {w : World} {a : Option Addr} {n : Nat} {zs : List Int} (h : Row w a n zs) {q : Addr} (ha : ∀ k, At a n k → k ≠ q.block) (v : Value) : Row (w.setCell q v) a n zs :=
  ((But.refl (fun k => k = q.block) w).setCell rfl v).row h (fun k hk hk' => ha k hk' hk)

theorem Row.sets {w : World} {a : Option Addr} {n p : Nat} {zs : List Int} {c : Bool} {a1 a2 : Option Addr} {l1 l2 c1 c2 : Nat} (h : Row w a n zs) (hb : Box w p c (.slice a1 l1 c1) (.slice a2 l2 c2)) (u0 u1 u2 : Value) : Row (((w.setCell ⟨p, 0, none⟩ u0).setCell ⟨p, 1, none⟩ u1).setCell ⟨p, 2, none⟩ u2) a n zs :=
  ((h.otherB (fun _ hk => h.notBox hb hk) _).otherB (fun _ hk => h.notBox hb hk) _).otherB (fun _ hk => h.notBox hb hk) _

end Go.Proofs.YtkgcmpmgaghdhaaGreatDoor
namespace Go.Proofs.YtkgcmpmgaghdhaaGreatDoor
open Go.RowKit

/-- What a spec function's answer of an array and a code is. -/
def GivesRow (w : World) (r : Ans) (e : Ending) (w' : World) : Prop :=
  ∃ b1 m1 d1 b2 m2 d2, e = .returned (.tuple #[.agg #[.bool r.c, .slice b1 m1 d1, .slice b2 m2 d2], .int .i64 r.code]) ∧ Row w' b1 m1 r.sh ∧ Row w' b2 m2 r.dt ∧ Below w.heap.size w w'

theorem dataOk_bd {c : Bool} {sh dt : List Int} (h : arrOk c sh dt = true) {k : Nat} (hk : k < dt.length) : -1000000000000000 ≤ dt.getD k 0 ∧ dt.getD k 0 ≤ 1000000000000000 := by
  have h1 : dt.all (dataOk c) = true := by simp [arrOk] at h; simpa using h.2.2
  have h2 := List.all_eq_true.mp h1 (dt.getD k 0) (by simp [hk])
  simp [dataOk] at h2
  simpa using h2.2

theorem boxes2 {w w1 : World} {c : Bool} {v1 v2 : Value} (hb : Below ((w.alloc (.cells #[.bool c, v1, v2] 25)).alloc (.cells #[.bool false, .slice none 0 0, .slice none 0 0] 25)).heap.size ((w.alloc (.cells #[.bool c, v1, v2] 25)).alloc (.cells #[.bool false, .slice none 0 0, .slice none 0 0] 25)) w1) :
    Box w1 w.heap.size c v1 v2 ∧ Box w1 (w.heap.size + 1) false (.slice none 0 0) (.slice none 0 0) ∧ Below w.heap.size w w1 := by
  have e : (w.alloc (.cells #[.bool c, v1, v2] 25)).heap.size = w.heap.size + 1 := by simp
  refine ⟨((Box.new w c v1 v2).alloc _).below (Nat.le_refl _) hb, ?_, (((Below.refl _ _).alloc (Nat.le_refl _) _).alloc (by simp) _).trans (hb.mono (by simp; omega))⟩
  have := (Box.new (w.alloc (.cells #[.bool c, v1, v2] 25)) false (.slice none 0 0) (.slice none 0 0)).below (Nat.le_refl _) hb
  rwa [e] at this

theorem boxes3 {w w1 : World} {c d : Bool} {v1 v2 u1 u2 : Value} (hb : Below (((w.alloc (.cells #[.bool c, v1, v2] 25)).alloc (.cells #[.bool d, u1, u2] 25)).alloc (.cells #[.bool false, .slice none 0 0, .slice none 0 0] 25)).heap.size (((w.alloc (.cells #[.bool c, v1, v2] 25)).alloc (.cells #[.bool d, u1, u2] 25)).alloc (.cells #[.bool false, .slice none 0 0, .slice none 0 0] 25)) w1) :
    Box w1 w.heap.size c v1 v2 ∧ Box w1 (w.heap.size + 1) d u1 u2 ∧ Box w1 (w.heap.size + 2) false (.slice none 0 0) (.slice none 0 0) ∧ Below w.heap.size w w1 := by
  have e1 : (w.alloc (.cells #[.bool c, v1, v2] 25)).heap.size = w.heap.size + 1 := by simp
  have e2 : ((w.alloc (.cells #[.bool c, v1, v2] 25)).alloc (.cells #[.bool d, u1, u2] 25)).heap.size = w.heap.size + 2 := by simp
  refine ⟨(((Box.new w c v1 v2).alloc _).alloc _).below (Nat.le_refl _) hb, ?_, ?_, ((((Below.refl _ _).alloc (Nat.le_refl _) _).alloc (by simp) _).alloc (by simp <;> omega) _).trans (hb.mono (by simp; omega))⟩
  · have := ((Box.new (w.alloc (.cells #[.bool c, v1, v2] 25)) d u1 u2).alloc _).below (Nat.le_refl _) hb
    rwa [e1] at this
  · have := (Box.new ((w.alloc (.cells #[.bool c, v1, v2] 25)).alloc (.cells #[.bool d, u1, u2] 25)) false (.slice none 0 0) (.slice none 0 0)).below (Nat.le_refl _) hb
    rwa [e2] at this

end Go.Proofs.YtkgcmpmgaghdhaaGreatDoor
namespace Go.Proofs.YtkgcmpmgaghdhaaGreatDoor
open Go.RowKit

theorem Blk.new (w : World) : Blk (w.alloc (.cells #[] 3)) w.heap.size [] := by
  show (w.heap.push _)[w.heap.size]? = _
  simp

theorem Blk.owns {w : World} {g base : Nat} (h : Blk w g []) (hb : base ≤ g) : w.ownsRow base 3 1 (.slice (some ⟨g, 0, none⟩) 0 0) 0 [] :=
  ⟨by simp, .inr ⟨g, 0, #[], rfl, hb, h, by simp, by unfold maxLen; omega, by simp, by simp⟩⟩

theorem Own.grown {w w1 : World} {B g n : Nat} {a : Option Addr} {zs : List Int} (h : Own w B a n zs) (o : Obj) (hg : (w.alloc o).grownBy w1 (some g)) (hne : ∀ x, At a n x → x ≠ g) : Own w1 B a n zs := by
  refine ⟨h.len, h.small, ?_⟩
  rcases h.at_ with h0 | ⟨b, off, rfl, hb, hlt, hc, hf⟩
  · exact .inl h0
  · by_cases hn : n = 0
    · exact .inl hn
    have hk : w1.heap[b]? = w.heap[b]? := (hg.block b (by simp; omega) (fun e => hne b (at_self hn) (by simpa using e))).trans (Below.heap_alloc w o b hlt)
    refine .inr ⟨b, off, rfl, hb, ?_, fun i hi => (World.cell?_of_block (w := w) (a := ⟨b, off + i, none⟩) hk).trans (hc i hi), fun i hi => (World.frozen?_of_block (w := w) (a := ⟨b, off + i, none⟩) hk).trans (hf i hi)⟩
    rcases Nat.lt_or_ge b w1.heap.size with h1 | h1
    · exact h1
    · rw [Array.getElem?_eq_none h1, Array.getElem?_eq_getElem hlt] at hk; cases hk

/-- A struct of an array is laid whose shape reads as zs and whose numbers are none yet; all of it is new. -/
def Laid (w2 : World) (c : Bool) (m : Nat) (zs : List Int) (r : Value) (wx : World) : Prop :=
  ∃ p g ash csh, r = .pointer (some ⟨p, 0, none⟩) ∧ Box wx p c (.slice ash m csh) (.slice (some ⟨g, 0, none⟩) 0 0) ∧ Blk wx g [] ∧ Own wx w2.heap.size ash m zs ∧ Below w2.heap.size w2 wx ∧ w2.heap.size ≤ p ∧ w2.heap.size ≤ g ∧ ∀ x, At ash m x → x ≠ g

theorem laid_cbz {w2 wA : World} {c : Bool} {m csh : Nat} {zs : List Int} {ash : Option Addr} (hO : Own wA w2.heap.size ash m zs) (hK : Below w2.heap.size w2 wA) : Laid w2 c m zs (.pointer (some ⟨wA.heap.size + 1, 0, none⟩)) ((wA.alloc (.cells #[] 3)).alloc (.cells #[.bool c, .slice ash m csh, .slice (some ⟨wA.heap.size, 0, none⟩) 0 0] 25)) := by
  have hs := hK.size
  refine ⟨wA.heap.size + 1, wA.heap.size, ash, csh, rfl, ?_, (Blk.new wA).alloc _, (hO.alloc _).alloc _, (hK.alloc hs _).alloc (by simp; omega) _, by omega, by omega, fun x hx => by have := hO.row.hi hx; omega⟩
  have := Box.new (wA.alloc (.cells #[] 3)) c (.slice ash m csh) (.slice (some ⟨wA.heap.size, 0, none⟩) 0 0)
  simpa using this

theorem laid_czb {w2 wA : World} {c : Bool} {m csh : Nat} {zs : List Int} {ash : Option Addr} (hO : Own wA w2.heap.size ash m zs) (hK : Below w2.heap.size w2 wA) : Laid w2 c m zs (.pointer (some ⟨wA.heap.size, 0, none⟩)) ((wA.alloc (.cells #[.bool c, .slice ash m csh, .slice (some ⟨wA.heap.size + 1, 0, none⟩) 0 0] 25)).alloc (.cells #[] 3)) := by
  have hs := hK.size
  refine ⟨wA.heap.size, wA.heap.size + 1, ash, csh, rfl, (Box.new _ _ _ _).alloc _, ?_, (hO.alloc _).alloc _, (hK.alloc hs _).alloc (by simp; omega) _, by omega, by omega, fun x hx => by have := hO.row.hi hx; omega⟩
  have := Blk.new (wA.alloc (.cells #[.bool c, .slice ash m csh, .slice (some ⟨wA.heap.size + 1, 0, none⟩) 0 0] 25))
  simpa using this

theorem laid_bcz {w2 wA : World} {c : Bool} {m csh : Nat} {zs : List Int} {ash : Option Addr} {g : Nat} (hO : Own wA w2.heap.size ash m zs) (hK : Below w2.heap.size w2 wA) (hQ : Blk wA g []) (hg : w2.heap.size ≤ g) (hne : ∀ x, At ash m x → x ≠ g) : Laid w2 c m zs (.pointer (some ⟨wA.heap.size, 0, none⟩)) (wA.alloc (.cells #[.bool c, .slice ash m csh, .slice (some ⟨g, 0, none⟩) 0 0] 25)) :=
  ⟨wA.heap.size, g, ash, csh, rfl, Box.new _ _ _ _, hQ.alloc _, hO.alloc _, hK.alloc hK.size _, hK.size, hg, hne⟩

theorem Blk.notBox {w : World} {g p : Nat} {c : Bool} {v1 v2 : Value} (h : Blk w g []) (hb : Box w p c v1 v2) : g ≠ p := by
  rintro rfl
  unfold Blk at h
  unfold Box at hb
  rw [h] at hb
  simp at hb

theorem laid_zc {w2 wA : World} {c : Bool} {m csh : Nat} {zs : List Int} {ash : Option Addr} {g p : Nat} {c' : Bool} {a1 a2 : Option Addr} {l1 l2 k1 k2 : Nat} (hO : Own wA w2.heap.size ash m zs) (hK : Below w2.heap.size w2 wA) (hP : Box wA p c' (.slice a1 l1 k1) (.slice a2 l2 k2)) (hp : w2.heap.size ≤ p) (hQ : Blk wA g []) (hg : w2.heap.size ≤ g) (hne : ∀ x, At ash m x → x ≠ g) :
    Laid w2 c m zs (.pointer (some ⟨p, 0, none⟩)) (((wA.setCell ⟨p, 0, none⟩ (.bool c)).setCell ⟨p, 1, none⟩ (.slice ash m csh)).setCell ⟨p, 2, none⟩ (.slice (some ⟨g, 0, none⟩) 0 0)) := by
  have hn : ∀ x, At ash m x → x ≠ p := fun x hx => hO.row.notBox hP hx
  have hgp := hQ.notBox hP
  exact ⟨p, g, ash, csh, rfl, hP.sets, ((hQ.other hgp _).other hgp _).other hgp _, ((hO.other hn _).other hn _).other hn _, ((hK.setCell hp _).setCell hp _).setCell hp _, hp, hg, hne⟩

theorem laid_zcb {w2 wA : World} {c : Bool} {m csh : Nat} {zs : List Int} {ash : Option Addr} {p : Nat} {c' : Bool} {a1 a2 : Option Addr} {l1 l2 k1 k2 : Nat} (hO : Own wA w2.heap.size ash m zs) (hK : Below w2.heap.size w2 wA) (hP : Box wA p c' (.slice a1 l1 k1) (.slice a2 l2 k2)) (hp : w2.heap.size ≤ p) :
    Laid w2 c m zs (.pointer (some ⟨p, 0, none⟩)) ((((wA.setCell ⟨p, 0, none⟩ (.bool c)).setCell ⟨p, 1, none⟩ (.slice ash m csh)).setCell ⟨p, 2, none⟩ (.slice (some ⟨wA.heap.size, 0, none⟩) 0 0)).alloc (.cells #[] 3)) := by
  have hn : ∀ x, At ash m x → x ≠ p := fun x hx => hO.row.notBox hP hx
  refine ⟨p, wA.heap.size, ash, csh, rfl, hP.sets.alloc _, ?_, (((hO.other hn _).other hn _).other hn _).alloc _, (((hK.setCell hp _).setCell hp _).setCell hp _).alloc (by simpa using hK.size) _, hp, hK.size, fun x hx => by have := hO.row.hi hx; omega⟩
  have := Blk.new (((wA.setCell ⟨p, 0, none⟩ (.bool c)).setCell ⟨p, 1, none⟩ (.slice ash m csh)).setCell ⟨p, 2, none⟩ (.slice (some ⟨wA.heap.size, 0, none⟩) 0 0))
  simpa using this

end Go.Proofs.YtkgcmpmgaghdhaaGreatDoor
namespace Go.Proofs.YtkgcmpmgaghdhaaGreatDoor
open Go.RowKit

/-- An array that is being drawn lies in box p7, the answer's box p0 is untouched. -/
structure DG (w : World) (pr p0 p7 : Nat) (c : Bool) (v1 : Value) (wr : World) (l : List Int) (n g cap : Nat) : Prop where
  box : Box wr p7 c v1 (.slice (some ⟨g, 0, none⟩) n cap)
  owns : wr.ownsRow w.heap.size 3 1 (.slice (some ⟨g, 0, none⟩) n cap) n (l.map (Value.int .i64))
  res : Box wr p0 false (.slice none 0 0) (.slice none 0 0)
  rd : RdOk wr pr
  but : But (fun x => x = pr) w wr
  h0 : w.heap.size ≤ p0
  h7 : w.heap.size ≤ p7
  hp : pr < w.heap.size

section
variable {w wr w' : World} {pr p0 p7 n g cap g' cap' : Nat} {c : Bool} {v1 : Value} {l : List Int}
theorem DG.next (h : DG w pr p0 p7 c v1 wr l n g cap) (hb : But (fun x => x = pr) wr w') (hr : RdOk w' pr) : DG w pr p0 p7 c v1 w' l n g cap :=
  ⟨h.box.but hb (by have := h.h7; have := h.hp; omega), owns_but h.owns hb (by have := owns_from h.owns; have := h.hp; omega), h.res.but hb (by have := h.h0; have := h.hp; omega), hr, (h.but.trans hb).mono (by rintro x (h | h) <;> exact h), h.h0, h.h7, h.hp⟩

theorem DG.below (h : DG w pr p0 p7 c v1 wr l n g cap) (hb : Below wr.heap.size wr w') : DG w pr p0 p7 c v1 w' l n g cap := h.next (But.of_below hb) (h.rd.below hb)

theorem DG.push (h : DG w pr p0 p7 c v1 wr l n g cap) {x : Int} {o : Obj} (hown : w'.ownsRow w.heap.size 3 1 (.slice (some ⟨g', 0, none⟩) (n + 1) cap') (n + 1) (l.map (Value.int .i64) ++ [.int .i64 x])) (hg : (wr.alloc o).grownBy w' (Value.ownBlock (.slice (some ⟨g, 0, none⟩) n cap))) :
    Box w' p7 c v1 (.slice (some ⟨g, 0, none⟩) n cap) ∧ DG w pr p0 p7 c v1 (w'.setCell ⟨p7, 2, none⟩ (.slice (some ⟨g', 0, none⟩) (n + 1) cap')) (l ++ [x]) (n + 1) g' cap' := by
  have hg' : (wr.alloc o).grownBy w' (some g) := hg
  have hb6 := h.box.grown h.owns o hg
  have hr6 := h.res.grown h.owns o hg
  obtain ⟨hrd, hbt⟩ := draw_grown h.rd h.but h.hp (owns_from h.owns) hg'
  have hs : But (fun x => x = p7) w' (w'.setCell ⟨p7, 2, none⟩ (.slice (some ⟨g', 0, none⟩) (n + 1) cap')) := (But.refl (fun x => x = p7) w').setCell (p := ⟨p7, 2, none⟩) rfl _
  have hp7 := h.h7
  have hp := h.hp
  have hne : p0 ≠ p7 ∨ p0 = p7 := by omega
  refine ⟨hb6, hb6.set2 _, ?_, ?_, hrd.but hs (by rintro k rfl; omega), ?_, h.h0, h.h7, h.hp⟩
  · rw [List.map_append]
    exact owns_box_set hown hb6 _ _
  · by_cases e : p0 = p7
    · subst e
      exfalso
      have h1 := h.box
      have h2 := h.res
      unfold Box at h1 h2
      rw [h1] at h2
      simp at h2
    · exact hr6.other (by simpa using e) _
  · exact ⟨hbt.os, hbt.tape, hbt.output, by have := hbt.size; simpa using this, fun k hk hn => (heap_setCell_other _ _ k _ (by simp; omega)).trans (hbt.block k hk hn)⟩
end

theorem But.setNew {S : Nat → Prop} {w w' : World} (h : But S w w') {p : Addr} (hp : w.heap.size ≤ p.block) (v : Value) : But S w (w'.setCell p v) :=
  ⟨h.os, h.tape, h.output, by have := h.size; simpa using this, fun k hk hn => (heap_setCell_other _ _ k _ (by omega)).trans (h.block k hk hn)⟩

theorem owns_nebox {w : World} {base n g cap p : Nat} {xs : List Value} {c : Bool} {v1 v2 : Value} (h : w.ownsRow base 3 1 (.slice (some ⟨g, 0, none⟩) n cap) n xs) (hp : Box w p c v1 v2) : g ≠ p := by
  rcases h.2 with ⟨e, _⟩ | ⟨g', cap', cur, e, hge, hh, hr⟩
  · cases e
  · cases e
    intro e
    subst e
    unfold Box at hp
    rw [hp] at hh
    have := congrArg (fun o => match o with | some (.cells _ t _) => t | _ => 0) hh
    simp at this

set_option maxRecDepth 20000 in
set_option maxHeartbeats 4000000 in
theorem l3Of_any (pr g1 n1 cap1 : Nat) (c : Bool) (zs : List Int) (w : World) (h : RdOk w pr) (hz : Row w (some ⟨g1, 0, none⟩) n1 zs) (hgp : g1 ≠ pr) :
    Calls Tryz.prog 111 #[.pointer (some ⟨pr, 0, none⟩), .slice (some ⟨g1, 0, none⟩) n1 cap1, .bool c] w fun e w' => (∃ (g n cap : Nat) (l : List Int), e = .returned (.agg #[.bool c, .slice (some ⟨g1, 0, none⟩) n1 cap1, .slice (some ⟨g, 0, none⟩) n cap]) ∧ n ≤ 10000 ∧ w'.ownsRow w.heap.size 3 1 (.slice (some ⟨g, 0, none⟩) n cap) n (l.map (Value.int .i64))) ∧ RdOk w' pr ∧ But (fun x => x = pr) w w' := by
  have hlw := h.lt
  obtain ⟨i0, hi, hz0, hz1, hz2⟩ := info_parts info_int
  obtain ⟨N, hN⟩ : ∃ N, countOf zs = N := ⟨_, rfl⟩
  have HN := hide hN
  have hNb : N ≤ 10000 := by
    rw [← hN]
    unfold countOf
    split
    · rename_i ha
      cases hp : prodFrom zs 1 with
      | none => simp
      | some m =>
        have := prodFrom_bd zs 1 m ha (by omega) (by omega) hp
        simp only
        split <;> omega
    · omega
  obtain ⟨NN, hNN⟩ : ∃ NN : Nat, NN = N.toNat := ⟨_, rfl⟩
  have hN1 : NN ≤ 10000 := by omega
  have HLT : Hid (∀ n : Nat, n < NN → (n : Int) < N) := fun n hn => by omega
  have HGE : Hid (∀ n : Nat, ¬ n < NN → ¬ (n : Int) < N) := fun n hn => by omega
  clear hNN hNb
  have HR := hide h
  have HZ := hide hz
  clear h hz hN
  go_enter Tryz.func111, Tryz.ntmps111
  go_upto_region 2 with fail
  obtain ⟨W, hW⟩ : ∃ W, W = ((w.alloc (.cells #[.bool false, .slice none 0 0, .slice none 0 0] 25)).alloc (.cells #[] 3)).alloc (.cells #[.bool c, .slice (some ⟨g1, 0, none⟩) n1 cap1, .slice (some ⟨w.heap.size + 1, 0, none⟩) 0 0] 25) := ⟨_, rfl⟩
  have HD : Hid (DG w pr w.heap.size (w.heap.size + 1 + 1) c (.slice (some ⟨g1, 0, none⟩) n1 cap1) W [] 0 (w.heap.size + 1) 0) := by
    have hb : Below w.heap.size w W := by rw [hW]; exact (((Below.refl _ w).alloc (Nat.le_refl _) _).alloc (by simp) _).alloc (by simp; omega) _
    have b1 : Box W w.heap.size false (.slice none 0 0) (.slice none 0 0) := by rw [hW]; exact ((Box.new w _ _ _).alloc _).alloc _
    have b2 : Box W (w.heap.size + 1 + 1) c (.slice (some ⟨g1, 0, none⟩) n1 cap1) (.slice (some ⟨w.heap.size + 1, 0, none⟩) 0 0) := by
      rw [hW]
      have := Box.new ((w.alloc (.cells #[.bool false, .slice none 0 0, .slice none 0 0] 25)).alloc (.cells #[] 3)) c (.slice (some ⟨g1, 0, none⟩) n1 cap1) (.slice (some ⟨w.heap.size + 1, 0, none⟩) 0 0)
      rw [World.size_alloc, World.size_alloc] at this
      exact this
    have b3 : Blk W (w.heap.size + 1) [] := by
      rw [hW]
      have := Blk.new (w.alloc (.cells #[.bool false, .slice none 0 0, .slice none 0 0] 25))
      rw [World.size_alloc] at this
      exact this.alloc _
    exact ⟨b2, b3.owns (by omega), b1, (unhide HR).below hb, But.of_below hb, Nat.le_refl _, by omega, hlw⟩
  rw [← hW]
  clear hW
  have HZW : Hid (Row W (some ⟨g1, 0, none⟩) n1 zs) := (unhide HD).but.row (unhide HZ) (by rintro k rfl hk; exact hgp (at_eq hk))
  generalize w.heap.size + 1 + 1 = p7 at *
  generalize w.heap.size + 1 = g0 at *
  go_upto_region 3 with (go_at_call 41; refine (l3Count_eq _ _ _ zs _ (unhide HZW) _ HN).mono ?_; rintro e wq ⟨rfl, hwq⟩; obtain rfl := hwq.symm)
  clear HZW HR HZ
  go_wp2_with fail
  go_loopw [9] (fun i wr => ∃ (n g cap : Nat) (l : List Int), n ≤ NN ∧ i = .int .i64 (n : Nat) ∧ Hid (DG w pr w.heap.size p7 c (.slice (some ⟨g1, 0, none⟩) n1 cap1) wr l n g cap)) (fun i _ => NN - (intOf i).toNat)
  case atStart => exact ⟨0, g0, 0, [], Nat.zero_le _, rfl, HD⟩
  case round =>
    clear HD
    obtain ⟨n, g, cap, l, hn, rfl, hd⟩ := hrel
    by_cases hlt : n < NN
    · have hnz : (n : Int) < N := unhide HLT n hlt
      have hcall := l3Num_any pr wr (unhide hd).rd
      go_upto_if 24 with (go_at_call 141; refine hcall.mono ?_; rintro e w2 ⟨⟨v, hv1, hv2, rfl⟩, hr2, hb2⟩; have HD2 := hide ((unhide hd).next hb2 hr2); clear hr2 hb2)
      clear hd hcall
      go_cut [10] (fun v wx => (∃ x : Int, v = .int .i64 x) ∧ Below w2.heap.size w2 wx)
      case first =>
        cases c with
        | true =>
          obtain ⟨y, hy⟩ : ∃ y : Nat, (y : Int) = v + 1000000000000000 := ⟨(v + 1000000000000000).toNat, by omega⟩
          obtain ⟨j, hj, q1, q2⟩ := modN y 8 (by omega)
          have q1' : (y : Int).tmod 8 = (j : Int) := q1
          have q2' : (y : Int) % 8 = (j : Int) := q2
          have hyb : y ≤ 2000000000000000 := by omega
          have hw0 : v + 1000000000000000 = (y : Int) := hy.symm
          have hw1 : IntKind.i64.wrap (y : Int) = (y : Int) := by rw [IntKind.wrap_i64]; omega
          have hw2 : IntKind.i64.wrap (j : Int) = (j : Int) := by rw [IntKind.wrap_i64]; omega
          have hc := lits w2 [97, 98, 99, 32, 9077, 120, 128512, 233] j (by simpa using hj)
          obtain ⟨x, hx⟩ : ∃ x, x = ([97, 98, 99, 32, 9077, 120, 128512, 233] : List Int).getD j 0 := ⟨_, rfl⟩
          rw [← hx] at hc
          simp only [List.map_cons, List.map_nil] at hc
          have hjz : (j : Int) < 8 := by omega
          clear hx q1 q2 hy hv1 hv2
          go_wp2_with fail
          go_meet
          case rel => exact ⟨⟨x, rfl⟩, (Below.refl _ _).alloc (Nat.le_refl _) _⟩
        | false =>
          go_wp2_with fail
          go_meet
          case rel => exact ⟨⟨v, rfl⟩, Below.refl _ _⟩
      case rest =>
        obtain ⟨w3, hw3⟩ : ∃ x, x = wc := ⟨_, rfl⟩
        subst hw3
        obtain ⟨⟨x, rfl⟩, hb3⟩ := hcut
        have HD3 := hide ((unhide HD2).below hb3)
        clear HD2 hb3
        obtain ⟨y0, y1, y2, y3, y4, y5, y6⟩ := (unhide HD3).box.all
        have hsz3 := (unhide HD3).but.size
        go_wp2_with (at_builtin; refine wpList_append_lies _ rfl _ _ 23 rfl w.heap.size 3 i0 (.int .i64 0) 1 8 Tryz.underlying23 hi hz0 hz1 hz2 rfl (by decide) _ _ _ rfl (owns_below (unhide HD3).owns (Nat.le_refl _) ((Below.refl _ _).alloc (Nat.le_refl _) _)) ⟨w3.heap.size, 0, none⟩ 1 1 [.int .i64 x] rfl rfl (cells_new _ _) (one_one _) (by omega) (by unfold maxLen; omega) (by omega) (by simp; omega) (w3.heap.size + 1) (by simp) ?_; intro g' cap' w7 hown' hgrow hat hlt7; have HD7 := hide ((unhide HD3).push hown' hgrow); clear hown' hgrow hat hlt7 y0 y1 y2 y3 y4 y5 y6; obtain ⟨y0, y1, y2, y3, y4, y5, y6⟩ := (unhide HD7).1.all)
        go_roundw
        case rel => exact ⟨n + 1, g', cap', l ++ [x], by omega, by go_num, hide (unhide HD7).2⟩
        case measure => simp [intOf]; omega
    · have hnz := unhide HGE n hlt
      have hd' := unhide hd
      obtain ⟨y0, y1, y2, y3, y4, y5, y6⟩ := hd'.box.all
      obtain ⟨q0, q1, q2, q3, q4, q5, q6⟩ := hd'.res.all
      clear hd'
      go_wp2_with fail
      have hx := (unhide hd).res.sets (c' := c) (u1 := .slice (some ⟨g1, 0, none⟩) n1 cap1) (u2 := .slice (some ⟨g, 0, none⟩) n cap)
      obtain ⟨r0, r1, r2, _, _, _⟩ := hx.all
      refine bodyPost_ret (v := .agg #[.bool c, .slice (some ⟨g1, 0, none⟩) n1 cap1, .slice (some ⟨g, 0, none⟩) n cap]) (by simp [results, Tryz.results111, go_sem, r0, r1, r2]) rfl ?_
      have hs : But (fun x => x = w.heap.size) wr (((wr.setCell ⟨w.heap.size, 0, none⟩ (.bool c)).setCell ⟨w.heap.size, 1, none⟩ (.slice (some ⟨g1, 0, none⟩) n1 cap1)).setCell ⟨w.heap.size, 2, none⟩ (.slice (some ⟨g, 0, none⟩) n cap)) := (((But.refl (fun x => x = w.heap.size) wr).setCell (p := ⟨w.heap.size, 0, none⟩) rfl _).setCell (p := ⟨w.heap.size, 1, none⟩) rfl _).setCell (p := ⟨w.heap.size, 2, none⟩) rfl _
      exact ⟨⟨g, n, cap, l, rfl, by omega, owns_but (unhide hd).owns hs (owns_nebox (unhide hd).owns (unhide hd).res)⟩, (unhide hd).rd.but hs (by rintro k rfl; omega), (((unhide hd).but.setNew (p := ⟨w.heap.size, 0, none⟩) (Nat.le_refl _) _).setNew (p := ⟨w.heap.size, 1, none⟩) (Nat.le_refl _) _).setNew (p := ⟨w.heap.size, 2, none⟩) (Nat.le_refl _) _⟩

end Go.Proofs.YtkgcmpmgaghdhaaGreatDoor
namespace Go.Proofs.YtkgcmpmgaghdhaaGreatDoor
open Go.RowKit

theorem madeList (z : Value) (n : Nat) : madeCells #[z] n = (List.replicate n z).toArray := by
  apply Array.toList_inj.mp
  simpa using toList_madeCells_one z n

theorem Blk.made (w : World) (n g : Nat) (hg : g = w.heap.size) : Blk (w.alloc (.cells (madeCells #[.int .i64 0] n) 3)) g (List.replicate n 0) := by
  subst hg
  show (w.heap.push _)[w.heap.size]? = _
  rw [madeList]
  simp

end Go.Proofs.YtkgcmpmgaghdhaaGreatDoor
namespace Go.Proofs.YtkgcmpmgaghdhaaGreatDoor
open Go.RowKit

/-- An array of the draw's own lies in box p4, the answer's box p0 is untouched. -/
def AG (w : World) (pr p0 p4 : Nat) (wx : World) : Prop :=
  ∃ (c : Bool) (a1 a2 : Addr) (n1 n2 c1 c2 : Nat) (sh dt : List Int), Box wx p4 c (.slice (some a1) n1 c1) (.slice (some a2) n2 c2) ∧ Own wx w.heap.size (some a1) n1 sh ∧ Own wx w.heap.size (some a2) n2 dt ∧ n1 ≤ 6 ∧ n2 ≤ 10001 ∧ RdOk wx pr ∧ But (fun x => x = pr) w wx ∧ Box wx p0 false (.slice none 0 0) (.slice none 0 0)

theorem ag_set {w wx : World} {pr p0 p4 : Nat} {c c' : Bool} {v1 v2 : Value} {a1 a2 : Addr} {n1 n2 c1 c2 : Nat} {sh dt : List Int} (hb : Box wx p4 c v1 v2) (o1 : Own wx w.heap.size (some a1) n1 sh) (o2 : Own wx w.heap.size (some a2) n2 dt) (ne1 : ∀ k, At (some a1) n1 k → k ≠ p4) (ne2 : ∀ k, At (some a2) n2 k → k ≠ p4) (h1 : n1 ≤ 6) (h2 : n2 ≤ 10001) (hr : RdOk wx pr) (hbut : But (fun x => x = pr) w wx) (h0 : Box wx p0 false (.slice none 0 0) (.slice none 0 0)) (hp4 : w.heap.size ≤ p4) (hpr : pr < w.heap.size) (hne : p0 ≠ p4) :
    AG w pr p0 p4 (((wx.setCell ⟨p4, 0, none⟩ (.bool c')).setCell ⟨p4, 1, none⟩ (.slice (some a1) n1 c1)).setCell ⟨p4, 2, none⟩ (.slice (some a2) n2 c2)) := by
  have hs : But (fun x => x = p4) wx (((wx.setCell ⟨p4, 0, none⟩ (.bool c')).setCell ⟨p4, 1, none⟩ (.slice (some a1) n1 c1)).setCell ⟨p4, 2, none⟩ (.slice (some a2) n2 c2)) := (((But.refl (fun x => x = p4) wx).setCell (p := ⟨p4, 0, none⟩) rfl _).setCell (p := ⟨p4, 1, none⟩) rfl _).setCell (p := ⟨p4, 2, none⟩) rfl _
  exact ⟨c', a1, a2, n1, n2, c1, c2, sh, dt, hb.sets, hs.own o1 (by rintro k rfl hk; exact ne1 _ hk rfl), hs.own o2 (by rintro k rfl hk; exact ne2 _ hk rfl), h1, h2, hr.but hs (by rintro k rfl; omega), ((hbut.setNew (p := ⟨p4, 0, none⟩) hp4 _).setNew (p := ⟨p4, 1, none⟩) hp4 _).setNew (p := ⟨p4, 2, none⟩) hp4 _, h0.but hs (by show ¬ p0 = p4; exact hne)⟩

theorem own_of_lits (w : World) (B : Nat) (l : List Int) (hB : B ≤ w.heap.size) (hl : l.length ≤ 100) : Own (w.alloc (.cells (l.map (Value.int .i64)).toArray 3)) B (some ⟨w.heap.size, 0, none⟩) l.length l :=
  (show Blk (w.alloc _) w.heap.size l from World.alloc_heap_new w _).own rfl (by omega) hB

theorem divN (k m : Nat) : ∃ j : Nat, j = k / m ∧ (k : Int).tdiv (m : Int) = (j : Int) ∧ (k : Int) / (m : Int) = (j : Int) := ⟨k / m, rfl, by rw [Int.tdiv_eq_ediv_of_nonneg (by omega)]; rfl, rfl⟩

theorem Own.take {w : World} {B n m : Nat} {a : Option Addr} {zs : List Int} (h : Own w B a n zs) (hm : m ≤ n) : Own w B a m (zs.take m) := by
  refine ⟨by rw [List.length_take, h.len]; omega, by have := h.small; omega, ?_⟩
  rcases h.at_ with h0 | ⟨b, off, e, hb, hlt, hc, hf⟩
  · exact .inl (by omega)
  · refine .inr ⟨b, off, e, hb, hlt, fun i hi => ?_, fun i hi => hf i (by omega)⟩
    rw [hc i (by omega)]
    simp [List.getD, hi]

theorem box_set1 {w : World} {p : Nat} {c : Bool} {v1 v2 : Value} (h : Box w p c v1 v2) (v : Value) : Box (w.setCell ⟨p, 1, none⟩ v) p c v v2 := by
  unfold Box at h ⊢
  rw [heap_setCell_same w p 1 _ _ _ h]
  simp

/-- What is known of the array before it is spoilt. -/
structure AW (w : World) (pr p0 p4 : Nat) (c : Bool) (g1 g2 n1 n2 c1 c2 : Nat) (sh dt : List Int) (wx : World) : Prop where
  box : Box wx p4 c (.slice (some ⟨g1, 0, none⟩) n1 c1) (.slice (some ⟨g2, 0, none⟩) n2 c2)
  o1 : wx.ownsRow w.heap.size 3 1 (.slice (some ⟨g1, 0, none⟩) n1 c1) n1 (sh.map (Value.int .i64))
  o2 : wx.ownsRow w.heap.size 3 1 (.slice (some ⟨g2, 0, none⟩) n2 c2) n2 (dt.map (Value.int .i64))
  ne : g1 ≠ g2
  h1 : n1 ≤ 6
  h2 : n2 ≤ 10001
  rd : RdOk wx pr
  but : But (fun x => x = pr) w wx
  b0 : Box wx p0 false (.slice none 0 0) (.slice none 0 0)
  hp : pr < w.heap.size
  h4 : w.heap.size ≤ p4
  h0 : w.heap.size ≤ p0

section
variable {w wx w' : World} {pr p0 p4 g1 g2 n1 n2 c1 c2 : Nat} {c : Bool} {sh dt : List Int}
theorem AW.ag (h : AW w pr p0 p4 c g1 g2 n1 n2 c1 c2 sh dt wx) : AG w pr p0 p4 wx := by
  obtain ⟨_, _, e1, q1⟩ := Own.of_owns h.o1 (by have := h.h1; omega)
  obtain ⟨_, _, e2, q2⟩ := Own.of_owns h.o2 (by have := h.h2; omega)
  cases e1
  cases e2
  exact ⟨c, _, _, n1, n2, c1, c2, sh, dt, h.box, q1, q2, h.h1, h.h2, h.rd, h.but, h.b0⟩

theorem AW.next (h : AW w pr p0 p4 c g1 g2 n1 n2 c1 c2 sh dt wx) (hb : But (fun x => x = pr) wx w') (hr : RdOk w' pr) : AW w pr p0 p4 c g1 g2 n1 n2 c1 c2 sh dt w' :=
  ⟨h.box.but hb (by have := h.h4; have := h.hp; show ¬ p4 = pr; omega), owns_but h.o1 hb (by have := owns_from h.o1; have := h.hp; show ¬ g1 = pr; omega), owns_but h.o2 hb (by have := owns_from h.o2; have := h.hp; show ¬ g2 = pr; omega), h.ne, h.h1, h.h2, hr, (h.but.trans hb).mono (by rintro x (h | h) <;> exact h), h.b0.but hb (by have := h.h0; have := h.hp; show ¬ p0 = pr; omega), h.hp, h.h4, h.h0⟩

theorem AW.p04 (h : AW w pr p0 p4 c g1 g2 n1 n2 c1 c2 sh dt wx) : p0 ≠ p4 := by
  intro e
  subst e
  have h1 := h.box
  have h2 := h.b0
  unfold Box at h1 h2
  rw [h1] at h2
  simp at h2

theorem AW.below (h : AW w pr p0 p4 c g1 g2 n1 n2 c1 c2 sh dt wx) (hb : Below wx.heap.size wx w') : AW w pr p0 p4 c g1 g2 n1 n2 c1 c2 sh dt w' := h.next (But.of_below hb) (h.rd.below hb)

/-- One number more behind the shape. -/
theorem AW.push1 {g' cap' : Nat} {x : Int} {o : Obj} (h : AW w pr p0 p4 c g1 g2 n1 n2 c1 c2 sh dt wx) (hn : n1 ≤ 5) (hown : w'.ownsRow w.heap.size 3 1 (.slice (some ⟨g', 0, none⟩) (n1 + 1) cap') (n1 + 1) (sh.map (Value.int .i64) ++ [.int .i64 x])) (hg : (wx.alloc o).grownBy w' (Value.ownBlock (.slice (some ⟨g1, 0, none⟩) n1 c1))) :
    Box w' p4 c (.slice (some ⟨g1, 0, none⟩) n1 c1) (.slice (some ⟨g2, 0, none⟩) n2 c2) ∧ AG w pr p0 p4 (w'.setCell ⟨p4, 1, none⟩ (.slice (some ⟨g', 0, none⟩) (n1 + 1) cap')) := by
  have hg' : (wx.alloc o).grownBy w' (some g1) := hg
  have hb6 := h.box.grown h.o1 o hg
  have h06 := h.b0.grown h.o1 o hg
  obtain ⟨hrd, hbt⟩ := draw_grown h.rd h.but h.hp (owns_from h.o1) hg'
  have o26 := owns_but h.o2 (but_grown hg') (fun e => h.ne e.symm)
  have hs : But (fun x => x = p4) w' (w'.setCell ⟨p4, 1, none⟩ (.slice (some ⟨g', 0, none⟩) (n1 + 1) cap')) := (But.refl (fun x => x = p4) w').setCell (p := ⟨p4, 1, none⟩) rfl _
  rw [show sh.map (Value.int .i64) ++ [.int .i64 x] = (sh ++ [x]).map (Value.int .i64) by simp] at hown
  obtain ⟨_, _, e1, q1⟩ := Own.of_owns (owns_but hown hs (owns_nebox hown hb6)) (by omega)
  obtain ⟨_, _, e2, q2⟩ := Own.of_owns (owns_but o26 hs (owns_nebox o26 hb6)) (by have := h.h2; omega)
  cases e1
  cases e2
  have hp4 := h.h4
  have hp := h.hp
  exact ⟨hb6, c, _, _, n1 + 1, n2, cap', c2, sh ++ [x], dt, box_set1 hb6 _, q1, q2, by omega, h.h2, hrd.but hs (by rintro k rfl; omega), hbt.setNew (p := ⟨p4, 1, none⟩) hp4 _, h06.but hs (by show ¬ p0 = p4; exact h.p04)⟩

/-- One element more behind the elements. -/
theorem AW.push2 {g' cap' : Nat} {x : Int} {o : Obj} (h : AW w pr p0 p4 c g1 g2 n1 n2 c1 c2 sh dt wx) (hn : n2 ≤ 10000) (hown : w'.ownsRow w.heap.size 3 1 (.slice (some ⟨g', 0, none⟩) (n2 + 1) cap') (n2 + 1) (dt.map (Value.int .i64) ++ [.int .i64 x])) (hg : (wx.alloc o).grownBy w' (Value.ownBlock (.slice (some ⟨g2, 0, none⟩) n2 c2))) :
    Box w' p4 c (.slice (some ⟨g1, 0, none⟩) n1 c1) (.slice (some ⟨g2, 0, none⟩) n2 c2) ∧ AG w pr p0 p4 (w'.setCell ⟨p4, 2, none⟩ (.slice (some ⟨g', 0, none⟩) (n2 + 1) cap')) := by
  have hg' : (wx.alloc o).grownBy w' (some g2) := hg
  have hb6 := h.box.grown h.o2 o hg
  have h06 := h.b0.grown h.o2 o hg
  obtain ⟨hrd, hbt⟩ := draw_grown h.rd h.but h.hp (owns_from h.o2) hg'
  have o16 := owns_but h.o1 (but_grown hg') h.ne
  have hs : But (fun x => x = p4) w' (w'.setCell ⟨p4, 2, none⟩ (.slice (some ⟨g', 0, none⟩) (n2 + 1) cap')) := (But.refl (fun x => x = p4) w').setCell (p := ⟨p4, 2, none⟩) rfl _
  rw [show dt.map (Value.int .i64) ++ [.int .i64 x] = (dt ++ [x]).map (Value.int .i64) by simp] at hown
  obtain ⟨_, _, e1, q1⟩ := Own.of_owns (owns_but o16 hs (owns_nebox o16 hb6)) (by have := h.h1; omega)
  obtain ⟨_, _, e2, q2⟩ := Own.of_owns (owns_but hown hs (owns_nebox hown hb6)) (by omega)
  cases e1
  cases e2
  have hp4 := h.h4
  have hp := h.hp
  exact ⟨hb6, c, _, _, n1, n2 + 1, c1, cap', sh, dt ++ [x], hb6.set2 _, q1, q2, h.h1, by omega, hrd.but hs (by rintro k rfl; omega), hbt.setNew (p := ⟨p4, 2, none⟩) hp4 _, h06.but hs (by show ¬ p0 = p4; exact h.p04)⟩
end

set_option maxRecDepth 20000 in
set_option maxHeartbeats 8000000 in
theorem l3Array_any (pr : Nat) (w : World) (h : RdOk w pr) :
    Calls Tryz.prog 40 #[.pointer (some ⟨pr, 0, none⟩)] w fun e w' => (∃ (c : Bool) (a1 a2 : Addr) (n1 n2 c1 c2 : Nat) (sh dt : List Int), e = .returned (.agg #[.bool c, .slice (some a1) n1 c1, .slice (some a2) n2 c2]) ∧ Own w' w.heap.size (some a1) n1 sh ∧ Own w' w.heap.size (some a2) n2 dt ∧ n1 ≤ 6 ∧ n2 ≤ 10001) ∧ RdOk w' pr ∧ But (fun x => x = pr) w w' := by
  have hlw := h.lt
  obtain ⟨i0, hi, hz0, hz1, hz2⟩ := info_parts info_int
  have hb0 : Below w.heap.size w (w.alloc (.cells #[.bool false, .slice none 0 0, .slice none 0 0] 25)) := (Below.refl _ w).alloc (Nat.le_refl _) _
  have HP0 : Hid (Box (w.alloc (.cells #[.bool false, .slice none 0 0, .slice none 0 0] 25)) w.heap.size false (.slice none 0 0) (.slice none 0 0)) := Box.new w _ _ _
  have HBB : Hid (But (fun x => x = pr) w (w.alloc (.cells #[.bool false, .slice none 0 0, .slice none 0 0] 25))) := But.of_below hb0
  have hcall := next_any pr _ (h.below hb0)
  clear h hb0
  go_enter Tryz.func40, Tryz.ntmps40
  go_upto_region 2 with (go_at_call 72; refine hcall.mono ?_; rintro e w1 ⟨⟨k, hk, rfl⟩, hr1, hb1⟩; have HR1 := hide hr1; have HB1' := hide hb1; clear hr1 hb1)
  clear hcall
  have HP1 := hide ((unhide HP0).but (unhide HB1') (by show ¬ w.heap.size = pr; omega))
  have HB1 : Hid (But (fun x => x = pr) w w1) := ((unhide HBB).trans (unhide HB1')).mono (by rintro x (h | h) <;> exact h)
  clear HP0 HBB HB1'
  obtain ⟨j5, hj5, q5, q5'⟩ := modN k 5 (by omega)
  have r5 : (k : Int).tmod 5 = (j5 : Int) := q5
  have r5' : (k : Int) % 5 = (j5 : Int) := q5'
  obtain ⟨bc, hbc⟩ : ∃ bc, ((j5 : Int) == 4) = bc := ⟨_, rfl⟩
  have hcS := l3Shape_any pr w1 (unhide HR1)
  have hw1 := (unhide HP1).lt
  clear q5 q5'
  go_upto_region 3 with (first
    | (go_at_call 112; refine hcS.mono ?_; rintro e w2 ⟨⟨g1, n1, cap1, zs, rfl, hn1, ho1⟩, hr2, hb2⟩; obtain ⟨_, _, ev, hO1⟩ := Own.of_owns ho1 (by omega); cases ev; have HR2 := hide hr2; have HB2 := hide hb2; have HO2 := hide ho1; have HQ2 := hide hO1; clear hr2 hb2 ho1 hO1)
    | (go_at_call 111; refine (l3Of_any pr g1 n1 cap1 bc zs _ (unhide HR2) (unhide HQ2).row (by have := owns_from (unhide HO2); have := (unhide HR1).lt; omega)).mono ?_; rintro e w3 ⟨⟨g2, n2, cap2, dt, rfl, hn2, ho2⟩, hr3, hb3⟩; have HR3 := hide hr3; have HB3 := hide hb3; have HO3 := hide ho2; clear hr3 hb3 ho2))
  clear hcS
  obtain ⟨p4, hp4⟩ : ∃ p, p = w3.heap.size := ⟨_, rfl⟩
  obtain ⟨W4, hW4⟩ : ∃ W, W = w3.alloc (.cells #[.bool bc, .slice (some ⟨g1, 0, none⟩) n1 cap1, .slice (some ⟨g2, 0, none⟩) n2 cap2] 25) := ⟨_, rfl⟩
  have hz12 := (unhide HB2).size
  have hz23 := (unhide HB3).size
  have HAW : Hid (AW w pr w.heap.size p4 bc g1 g2 n1 n2 cap1 cap2 zs dt W4) := by
    have hge1 := owns_from (unhide HO2)
    have hge2 := owns_from (unhide HO3)
    have hg1l : g1 < w2.heap.size := owns_lt (unhide HO2) rfl
    have hprl := (unhide HR1).lt
    have hb4 : Below w3.heap.size w3 W4 := by rw [hW4]; exact (Below.refl _ _).alloc (Nat.le_refl _) _
    refine ⟨by rw [hW4, hp4]; exact Box.new w3 _ _ _, owns_mono (owns_below (owns_but (unhide HO2) (unhide HB3) (by show ¬ g1 = pr; omega)) (Nat.le_refl _) hb4) (by omega), owns_mono (owns_below (unhide HO3) (Nat.le_refl _) hb4) (by omega), by omega, by omega, by omega, (unhide HR3).below hb4, ?_, ?_, hlw, by omega, Nat.le_refl _⟩
    · exact ((((unhide HB1).trans (unhide HB2)).trans (unhide HB3)).trans (T := fun x => x = pr) (But.of_below hb4)).mono (by rintro x (((h | h) | h) | h) <;> exact h)
    · exact (((unhide HP1).but (unhide HB2) (by show ¬ w.heap.size = pr; omega)).but (unhide HB3) (by show ¬ w.heap.size = pr; omega)).below (Nat.le_refl _) hb4
  rw [← hW4, ← hp4]
  clear hW4 hp4 HR1 HR2 HR3 HB1 HB2 HB3 HP1 HO2 HO3 HQ2 hz12 hz23 hw1
  go_upto_if 17 with fail
  go_cut [] (fun wx => AG w pr w.heap.size p4 wx)
  case first =>
    by_cases h246 : 246 ≤ k
    · have h246z : (246 : Int) ≤ (k : Int) := by omega
      have hcall := next_any pr _ (unhide HAW).rd
      go_upto_region 5 with (go_at_call 72; refine hcall.mono ?_; rintro e w5 ⟨⟨v, hv, rfl⟩, hr5, hb5⟩; have HW5 := hide ((unhide HAW).next hb5 hr5); clear hr5 hb5)
      clear hcall HAW
      obtain ⟨j, hj, q6, q6'⟩ := modN v 6 (by omega)
      have r6 : (v : Int).tmod 6 = (j : Int) := q6
      have r6' : (v : Int) % 6 = (j : Int) := q6'
      obtain ⟨d, hd0, qd, qd'⟩ := divN v 6
      have rd' : (v : Int).tdiv 6 = (d : Int) := qd
      have rd'' : (v : Int) / 6 = (d : Int) := qd'
      have hd255 : d ≤ 255 := by rw [hd0]; exact Nat.le_trans (Nat.div_le_self v 6) hv
      clear q6 q6' qd qd' hd0 h246z h246 r5 r5'
      obtain ⟨y0, y1, y2, y3, y4, y5, y6⟩ := (unhide HW5).box.all
      have hsz5 := (unhide HW5).but.size
      have hn25 := (unhide HW5).h2
      by_cases e0 : j = 0
      · have g0 : ((j : Int) == 0) = true := by simp [e0]
        clear e0
        go_wp2_with (at_builtin; refine wpList_append_lies _ rfl _ _ 23 rfl w.heap.size 3 i0 (.int .i64 0) 1 8 Tryz.underlying23 hi hz0 hz1 hz2 rfl (by decide) _ _ _ rfl (owns_below (unhide HW5).o2 (Nat.le_refl _) ((Below.refl _ _).alloc (Nat.le_refl _) _)) ⟨w5.heap.size, 0, none⟩ 1 1 [.int .i64 1] rfl rfl (cells_new _ _) (one_one _) (by omega) (by unfold maxLen; omega) (by omega) (by simp; omega) (w5.heap.size + 1) (by simp) ?_; intro g' cap' w7 hown' hgrow hat hlt7; have HD7 := hide ((unhide HW5).push2 hn2 hown' hgrow); clear hown' hgrow hat hlt7 y0 y1 y2 y3 y4 y5 y6; obtain ⟨y0, y1, y2, y3, y4, y5, y6⟩ := (unhide HD7).1.all)
        go_meet
        case rel => exact (unhide HD7).2
      · have g0 : ((j : Int) == 0) = false := by simp; omega
        by_cases e1 : j = 1
        · have g1' : ((j : Int) == 1) = true := by simp [e1]
          obtain ⟨t4, ht4, qt, qt'⟩ := modN d 4 (by omega)
          have rt : (d : Int).tmod 4 = (t4 : Int) := qt
          have rt' : (d : Int) % 4 = (t4 : Int) := qt'
          have hwt : IntKind.i64.wrap (t4 : Int) = (t4 : Int) := by rw [IntKind.wrap_i64]; omega
          obtain ⟨x, hx⟩ : ∃ x, x = ([1, 0, -1, 10001] : List Int).getD t4 0 := ⟨_, rfl⟩
          have hc : ∀ W : World, (W.alloc (.cells #[.int .i64 1, .int .i64 0, .int .i64 (-1), .int .i64 10001] 3)).cell? ⟨W.heap.size, t4, none⟩ = some (.int .i64 x) := fun W => by
            rw [hx]; exact lits W [1, 0, -1, 10001] t4 (by simpa using ht4)
          have hc1 := hc w5
          have hc2 := hc w5.drew
          have HRD1 := hide rd'
          have HRT1 := hide rt
          have hn15 : n1 ≤ 5 := hn1
          have hnw : ∀ (u : Int) (j : Nat) (y : Value), ([.int .i64 u] : List Value)[j]? = some y → ((w5.alloc (.cells #[.int .i64 1, .int .i64 0, .int .i64 (-1), .int .i64 10001] 3)).alloc (.cells #[.int .i64 u] 3)).cell? ((⟨w5.heap.size + 1, 0, none⟩ : Addr).add j) = some y := fun u => by
            have h := cells_new (w5.alloc (.cells #[.int .i64 1, .int .i64 0, .int .i64 (-1), .int .i64 10001] 3)) u
            rw [World.size_alloc] at h
            exact h
          have HY : Hid (AW w pr w.heap.size p4 bc g1 g2 n1 n2 cap1 cap2 zs dt (w5.alloc (.cells #[.int .i64 1, .int .i64 0, .int .i64 (-1), .int .i64 10001] 3)).drew) := (unhide HW5).below (((Below.refl _ _).alloc (Nat.le_refl _) _).drew)
          clear hx qt qt' hc
          go_upto_region 9 with fail
          have htz0 : (0 : Int) ≤ (t4 : Int) := by omega
          have htz2 : (t4 : Int) < 4 := by omega
          have rd3 : (v : Int).tdiv 6 = (d : Int) := unhide HRD1
          have rt3 : (d : Int).tmod 4 = (t4 : Int) := unhide HRT1
          have hwd : IntKind.i64.wrap (d : Int) = (d : Int) := by rw [IntKind.wrap_i64]; omega
          go_region_law (first | (refine step_append_lies _ (by rfl) _ _ _ (by rfl) w.heap.size 3 i0 _ 1 8 Tryz.underlying23 hi hz0 hz1 hz2 rfl (by omega) (.slice (some ⟨g1, 0, none⟩) n1 cap1) n1 (zs.map (Value.int .i64)) (by rfl) (by exact (unhide HY).o1.alloc _) ⟨w5.heap.size + 1, 0, none⟩ 1 1 [.int .i64 x] (by rfl) (by rfl) (by exact hnw _) (one_one _) (by omega) (by unfold maxLen; omega) (by omega) (by simp; omega) (w5.heap.size + 2) (by simp) ?_; intro g' cap' w7 hown' hgrow hat hlt7; have HD7 := hide ((unhide HY).push1 hn15 hown' (by exact hgrow)); clear hown' hgrow hat hlt7 y0 y1 y2 y3 y4 y5 y6; obtain ⟨y0, y1, y2, y3, y4, y5, y6⟩ := (unhide HD7).1.all))
          all_goals go_wp2_with fail
          all_goals (go_meet; case rel => exact (unhide HD7).2)
        · have g1' : ((j : Int) == 1) = false := by simp; omega
          by_cases e2 : j = 2
          · have g2' : ((j : Int) == 2) = true := by simp [e2]
            obtain ⟨t2, ht2, qt, qt'⟩ := modN d 2 (by omega)
            have rt : (d : Int).tmod 2 = (t2 : Int) := qt
            have rt' : (d : Int) % 2 = (t2 : Int) := qt'
            obtain ⟨nn, hnn⟩ : ∃ nn : Nat, nn = 10000 + t2 := ⟨_, rfl⟩
            have hsum : (10000 : Int) + (t2 : Int) = (nn : Int) := by omega
            have hnb : nn ≤ 10001 := by omega
            have hwn : IntKind.i64.wrap (nn : Int) = (nn : Int) := by rw [IntKind.wrap_i64]; omega
            have hmk := run_make_row' (P := Tryz.prog) 23 3 (.int .i64 0) 8 Tryz.underlying23 info_int rfl .i64 .i64 nn (by omega) (by omega)
            clear qt qt' hnn e0 e1 e2
            go_wp2_with fail
            go_meet
            case rel =>
              obtain ⟨X, hX⟩ : ∃ X, X = ((w5.setCell ⟨p4, 0, none⟩ (.bool false)).setCell ⟨p4, 1, none⟩ (.slice (some ⟨w5.heap.size, 0, none⟩) 1 1)).setCell ⟨p4, 2, none⟩ (.slice (some ⟨w5.heap.size + 1, 0, none⟩) nn nn) := ⟨_, rfl⟩
              have hXs : X.heap.size = w5.heap.size := by rw [hX]; simp
              have hs : But (fun x => x = p4) w5 X := by rw [hX]; exact (((But.refl (fun x => x = p4) w5).setCell (p := ⟨p4, 0, none⟩) rfl _).setCell (p := ⟨p4, 1, none⟩) rfl _).setCell (p := ⟨p4, 2, none⟩) rfl _
              have hbx : Box X p4 false (.slice (some ⟨w5.heap.size, 0, none⟩) 1 1) (.slice (some ⟨w5.heap.size + 1, 0, none⟩) nn nn) := by rw [hX]; exact (unhide HW5).box.sets
              have hbt : But (fun x => x = pr) w X := by rw [hX]; exact (((unhide HW5).but.setNew (p := ⟨p4, 0, none⟩) (unhide HW5).h4 _).setNew (p := ⟨p4, 1, none⟩) (unhide HW5).h4 _).setNew (p := ⟨p4, 2, none⟩) (unhide HW5).h4 _
              rw [← hX]
              have h44 := (unhide HW5).h4
              have hpp := (unhide HW5).hp
              have hrd := (unhide HW5).rd.but hs (by rintro k rfl; omega)
              have hb0 := (unhide HW5).b0.but hs (by show ¬ w.heap.size = p4; exact (unhide HW5).p04)
              have b1 : Blk ((X.alloc (.cells #[.int .i64 (nn : Nat)] 3)).alloc (.cells (madeCells #[.int .i64 0] nn) 3)) w5.heap.size [(nn : Int)] := by rw [← hXs]; exact (show Blk (X.alloc _) X.heap.size [(nn : Int)] from World.alloc_heap_new X _).alloc _
              have b2 : Blk ((X.alloc (.cells #[.int .i64 (nn : Nat)] 3)).alloc (.cells (madeCells #[.int .i64 0] nn) 3)) (w5.heap.size + 1) (List.replicate nn 0) := Blk.made _ _ _ (by simp [hXs])
              have hbw : Below X.heap.size X ((X.alloc (.cells #[.int .i64 (nn : Nat)] 3)).alloc (.cells (madeCells #[.int .i64 0] nn) 3)) := ((Below.refl _ X).alloc (Nat.le_refl _) _).alloc (by simp) _
              refine ⟨false, ⟨w5.heap.size, 0, none⟩, ⟨w5.heap.size + 1, 0, none⟩, 1, nn, 1, nn, [(nn : Int)], List.replicate nn 0, hbx.below (Nat.le_refl _) hbw, b1.own rfl (by omega) (by omega), b2.own (by simp) (by omega) (by omega), by omega, hnb, hrd.below hbw, ?_, hb0.below (Nat.le_refl _) hbw⟩
              exact (hbt.trans (T := fun x => x = pr) (But.of_below hbw)).mono (by rintro x (h | h) <;> exact h)
          · have g2' : ((j : Int) == 2) = false := by simp; omega
            by_cases e3 : j = 3
            · have g3' : ((j : Int) == 3) = true := by simp [e3]
              obtain ⟨t2, ht2, qt, qt'⟩ := modN d 2 (by omega)
              have rt : (d : Int).tmod 2 = (t2 : Int) := qt
              have rt' : (d : Int) % 2 = (t2 : Int) := qt'
              obtain ⟨nn, hnn⟩ : ∃ nn : Nat, nn = 5 + t2 := ⟨_, rfl⟩
              have hsum : (5 : Int) + (t2 : Int) = (nn : Int) := by omega
              have hnb : nn ≤ 6 := by omega
              have hnz : (nn : Int) ≤ 6 := by omega
              have hwn : IntKind.i64.wrap (nn : Int) = (nn : Int) := by rw [IntKind.wrap_i64]; omega
              have hp4l := (unhide HW5).box.lt
              clear qt qt' hnn e0 e1 e2 e3
              go_wp2_with fail
              go_meet
              case rel =>
                obtain ⟨X, hX⟩ : ∃ X, X = (w5.setCell ⟨p4, 1, none⟩ (.slice (some ⟨w5.heap.size, 0, none⟩) nn 6)).setCell ⟨p4, 2, none⟩ (.slice (some ⟨w5.heap.size + 1, 0, none⟩) 1 1) := ⟨_, rfl⟩
                have hXs : X.heap.size = w5.heap.size := by rw [hX]; simp
                have hs : But (fun x => x = p4) w5 X := by rw [hX]; exact ((But.refl (fun x => x = p4) w5).setCell (p := ⟨p4, 1, none⟩) rfl _).setCell (p := ⟨p4, 2, none⟩) rfl _
                have hbx : Box X p4 bc (.slice (some ⟨w5.heap.size, 0, none⟩) nn 6) (.slice (some ⟨w5.heap.size + 1, 0, none⟩) 1 1) := by rw [hX]; exact (box_set1 (unhide HW5).box _).set2 _
                have hbt : But (fun x => x = pr) w X := by rw [hX]; exact ((unhide HW5).but.setNew (p := ⟨p4, 1, none⟩) (unhide HW5).h4 _).setNew (p := ⟨p4, 2, none⟩) (unhide HW5).h4 _
                rw [← hX]
                have h44 := (unhide HW5).h4
                have hpp := (unhide HW5).hp
                have hrd := (unhide HW5).rd.but hs (by rintro k rfl; omega)
                have hb0 := (unhide HW5).b0.but hs (by show ¬ w.heap.size = p4; exact (unhide HW5).p04)
                have b1 : Own ((X.alloc (.cells #[.int .i64 1, .int .i64 1, .int .i64 1, .int .i64 1, .int .i64 1, .int .i64 1] 3)).alloc (.cells #[.int .i64 1] 3)) w.heap.size (some ⟨w5.heap.size, 0, none⟩) 6 [1, 1, 1, 1, 1, 1] := by
                  rw [← hXs]
                  exact ((show Blk (X.alloc _) X.heap.size [1, 1, 1, 1, 1, 1] from World.alloc_heap_new X _).alloc _).own rfl (by omega) (by omega)
                have b2 : Blk ((X.alloc (.cells #[.int .i64 1, .int .i64 1, .int .i64 1, .int .i64 1, .int .i64 1, .int .i64 1] 3)).alloc (.cells #[.int .i64 1] 3)) (w5.heap.size + 1) [1] := by
                  have h3 := World.alloc_heap_new (X.alloc (.cells #[.int .i64 1, .int .i64 1, .int .i64 1, .int .i64 1, .int .i64 1, .int .i64 1] 3)) (.cells #[.int .i64 1] 3)
                  rw [World.size_alloc, hXs] at h3
                  exact h3
                have hbw : Below X.heap.size X ((X.alloc (.cells #[.int .i64 1, .int .i64 1, .int .i64 1, .int .i64 1, .int .i64 1, .int .i64 1] 3)).alloc (.cells #[.int .i64 1] 3)) := ((Below.refl _ X).alloc (Nat.le_refl _) _).alloc (by simp) _
                refine ⟨bc, ⟨w5.heap.size, 0, none⟩, ⟨w5.heap.size + 1, 0, none⟩, nn, 1, 6, 1, _, [1], hbx.below (Nat.le_refl _) hbw, b1.take hnb, b2.own rfl (by omega) (by omega), hnb, by omega, hrd.below hbw, ?_, hb0.below (Nat.le_refl _) hbw⟩
                exact (hbt.trans (T := fun x => x = pr) (But.of_below hbw)).mono (by rintro x (h | h) <;> exact h)
            · have g3' : ((j : Int) == 3) = false := by simp; omega
              by_cases en : 0 < n2
              · have enz : (0 : Int) < (n2 : Int) := by omega
                obtain ⟨t5, ht5, qt, qt'⟩ := modN d 5 (by omega)
                have rt : (d : Int).tmod 5 = (t5 : Int) := qt
                have rt' : (d : Int) % 5 = (t5 : Int) := qt'
                have htz : (t5 : Int) < 5 := by omega
                have hwt : IntKind.i64.wrap (t5 : Int) = (t5 : Int) := by rw [IntKind.wrap_i64]; omega
                obtain ⟨x, hx⟩ : ∃ x, x = ([1000000000000001, -1000000000000001, 55296, 1114112, -1] : List Int).getD t5 0 := ⟨_, rfl⟩
                have hc : ∀ W : World, (W.alloc (.cells #[.int .i64 1000000000000001, .int .i64 (-1000000000000001), .int .i64 55296, .int .i64 1114112, .int .i64 (-1)] 3)).cell? ⟨W.heap.size, t5, none⟩ = some (.int .i64 x) := fun W => by
                  rw [hx]; exact lits W [1000000000000001, -1000000000000001, 55296, 1114112, -1] t5 (by simpa using ht5)
                obtain ⟨_, _, ev, hOd⟩ := Own.of_owns (unhide HW5).o2 (by omega)
                cases ev
                rcases hOd.at_ with h | ⟨gg, oo, hgg, hgl, hgs, hce, hfr⟩
                · omega
                cases hgg
                have cd0 := hce 0 en
                have fd0 := hfr 0 en
                simp only [Nat.add_zero] at cd0 fd0
                have hgp4 : g2 ≠ p4 := owns_nebox (unhide HW5).o2 (unhide HW5).box
                have hp4l := (unhide HW5).box.lt
                have HKEEP : ∀ wx, But (fun x => x = g2) w5 wx → wx.cell? ⟨p4, 2, none⟩ = some (.slice (some ⟨g2, 0, none⟩) n2 cap2) := fun wx hwx => (hwx.cellAt hp4l (by show ¬ p4 = g2; omega)).trans (unhide HW5).box.cells.2.2
                have hc1 := hc w5
                have hc2 := hc w5.drew
                have HRD1 := hide rd'
                have HRT1 := hide rt
                clear hx qt qt' hce hfr hc
                go_upto_region 16 with fail
                have htz0 : (0 : Int) ≤ (t5 : Int) := by omega
                have htz2 : (t5 : Int) < 5 := by omega
                have enz2 : (0 : Int) < (n2 : Int) := by omega
                have rd3 : (v : Int).tdiv 6 = (d : Int) := unhide HRD1
                have rt3 : (d : Int).tmod 5 = (t5 : Int) := unhide HRT1
                have hwd : IntKind.i64.wrap (d : Int) = (d : Int) := by rw [IntKind.wrap_i64]; omega
                go_region
                all_goals go_wp2_with fail
                go_meet
                case rel =>
                  obtain ⟨_, _, ev, hO1⟩ := Own.of_owns (unhide HW5).o1 (by have := (unhide HW5).h1; omega)
                  cases ev
                  have hb : But (fun x => x = g2) w5 (w5.setCell ⟨g2, 0, none⟩ (.int .i64 x)) := (But.refl (fun x => x = g2) w5).setCell (p := ⟨g2, 0, none⟩) rfl _
                  have hbw : Below (w5.setCell ⟨g2, 0, none⟩ (.int .i64 x)).heap.size (w5.setCell ⟨g2, 0, none⟩ (.int .i64 x)) ((w5.setCell ⟨g2, 0, none⟩ (.int .i64 x)).alloc (.cells #[.int .i64 1000000000000001, .int .i64 (-1000000000000001), .int .i64 55296, .int .i64 1114112, .int .i64 (-1)] 3)).drew := ((Below.refl _ _).alloc (Nat.le_refl _) _).drew
                  have hge2 := owns_from (unhide HW5).o2
                  have hpp := (unhide HW5).hp
                  have hne := (unhide HW5).ne
                  have hO2 := hOd.set en x
                  simp only [Nat.add_zero] at hO2
                  refine ⟨bc, ⟨g1, 0, none⟩, ⟨g2, 0, none⟩, n1, n2, cap1, cap2, zs, dt.set 0 x, ((unhide HW5).box.but hb (by show ¬ p4 = g2; omega)).below (Nat.le_refl _) hbw, (hb.own hO1 (by rintro k rfl hk; have := at_eq hk; omega)).below (Nat.le_refl _) hbw, hO2.below (Nat.le_refl _) hbw, (unhide HW5).h1, (unhide HW5).h2, ((unhide HW5).rd.but hb (by rintro k rfl; omega)).below hbw, ?_, ((unhide HW5).b0.but hb (by show ¬ w.heap.size = g2; exact (owns_nebox (unhide HW5).o2 (unhide HW5).b0).symm)).below (Nat.le_refl _) hbw⟩
                  exact (((unhide HW5).but.setNew (p := ⟨g2, 0, none⟩) hge2 _).trans (T := fun x => x = pr) (But.of_below hbw)).mono (by rintro x (h | h) <;> exact h)
              · have enz : ¬ (0 : Int) < (n2 : Int) := by omega
                go_wp2_with fail
                go_meet
                case rel => exact (unhide HW5).ag
    · have h246z : ¬ (246 : Int) ≤ (k : Int) := by omega
      go_wp2_with fail
      go_meet
      case rel => exact (unhide HAW).ag
  case rest =>
    obtain ⟨w6, hw6⟩ : ∃ x, x = wc := ⟨_, rfl⟩
    subst hw6
    obtain ⟨c, a1, a2, m1, m2, d1, d2, sh, dt2, hb, o1, o2, hm1, hm2, hrd, hbt, hb0⟩ := hcut
    obtain ⟨y0, y1, y2, y3, y4, y5, y6⟩ := hb.all
    obtain ⟨q0, q1, q2, q3, q4, q5, q6⟩ := hb0.all
    have HB0 := hide hb0
    have HO1 := hide o1
    have HO2 := hide o2
    have HRD := hide hrd
    have HBT := hide hbt
    have HNB : Hid ((∀ k, At (some a1) m1 k → k ≠ w.heap.size) ∧ ∀ k, At (some a2) m2 k → k ≠ w.heap.size) := ⟨fun k hk => o1.row.notBox hb0 hk, fun k hk => o2.row.notBox hb0 hk⟩
    clear hb hb0 o1 o2 hrd hbt HAW
    go_wp2_with fail
    have hx := (unhide HB0).sets (c' := c) (u1 := .slice (some a1) m1 d1) (u2 := .slice (some a2) m2 d2)
    obtain ⟨r0, r1, r2, _, _, _⟩ := hx.all
    refine bodyPost_ret (v := .agg #[.bool c, .slice (some a1) m1 d1, .slice (some a2) m2 d2]) (by simp [results, Tryz.results40, go_sem, r0, r1, r2]) rfl ?_
    have hs : But (fun x => x = w.heap.size) w6 (((w6.setCell ⟨w.heap.size, 0, none⟩ (.bool c)).setCell ⟨w.heap.size, 1, none⟩ (.slice (some a1) m1 d1)).setCell ⟨w.heap.size, 2, none⟩ (.slice (some a2) m2 d2)) := (((But.refl (fun x => x = w.heap.size) w6).setCell (p := ⟨w.heap.size, 0, none⟩) rfl _).setCell (p := ⟨w.heap.size, 1, none⟩) rfl _).setCell (p := ⟨w.heap.size, 2, none⟩) rfl _
    exact ⟨⟨c, a1, a2, m1, m2, d1, d2, sh, dt2, rfl, hs.own (unhide HO1) (by rintro k rfl hk; exact (unhide HNB).1 _ hk rfl), hs.own (unhide HO2) (by rintro k rfl hk; exact (unhide HNB).2 _ hk rfl), hm1, hm2⟩, (unhide HRD).but hs (by rintro k rfl; omega), (((unhide HBT).setNew (p := ⟨w.heap.size, 0, none⟩) (Nat.le_refl _) _).setNew (p := ⟨w.heap.size, 1, none⟩) (Nat.le_refl _) _).setNew (p := ⟨w.heap.size, 2, none⟩) (Nat.le_refl _) _⟩

end Go.Proofs.YtkgcmpmgaghdhaaGreatDoor
namespace Go.Proofs.YtkgcmpmgaghdhaaGreatDoor
open Go.RowKit

/-- A slice of bytes lies in memory. -/
def Bytes (w : World) (a : Option Addr) (n : Nat) : Prop :=
  n = 0 ∨ ∃ b off, a = some ⟨b, off, none⟩ ∧ b < w.heap.size ∧ ∀ i, i < n → ∃ v : Nat, v ≤ 255 ∧ w.cell? ⟨b, off + i, none⟩ = some (.int .u8 (v : Nat))

theorem Bytes.below {w w' : World} {a : Option Addr} {n : Nat} (h : Bytes w a n) (hb : Below w.heap.size w w') : Bytes w' a n := by
  rcases h with h | ⟨b, off, e, hbl, hv⟩
  · exact .inl h
  · refine .inr ⟨b, off, e, by have := hb.size; omega, fun i hi => ?_⟩
    obtain ⟨v, h1, h2⟩ := hv i hi
    exact ⟨v, h1, (hb.cell (p := ⟨b, off + i, none⟩) hbl).trans h2⟩

theorem Bytes.take {w : World} {a : Option Addr} {n m : Nat} (h : Bytes w a n) (hm : m ≤ n) : Bytes w a m := by
  rcases h with h | ⟨b, off, e, hbl, hv⟩
  · exact .inl (by omega)
  · exact .inr ⟨b, off, e, hbl, fun i hi => hv i (by omega)⟩

theorem rd_new {w : World} {a : Option Addr} {n c : Nat} (h : Bytes w a n) (hn : n ≤ 1000) : RdOk (w.alloc (.cells #[.slice a n c, .int .i64 0] 115)) w.heap.size := by
  refine ⟨a, n, c, 0, World.alloc_heap_new w _, hn, Nat.zero_le _, ?_⟩
  rcases h with h | ⟨b, off, e, hbl, hv⟩
  · exact .inl h
  · refine .inr ⟨b, off, e, hbl, fun i hi => ?_⟩
    obtain ⟨v, h1, h2⟩ := hv i hi
    exact ⟨v, h1, (((Below.refl w.heap.size w).alloc (Nat.le_refl _) _).cell (p := ⟨b, off + i, none⟩) hbl).trans h2⟩

set_option maxHeartbeats 2000000 in
theorem l1Open_any (a : Option Addr) (n c : Nat) (w : World) (h : Bytes w a n) (hc : n ≤ c) (hn : n ≤ 1048576) :
    Calls Tryz.prog 38 #[.slice a n c] w fun e w' => ∃ pr, e = .returned (.pointer (some ⟨pr, 0, none⟩)) ∧ RdOk w' pr ∧ w.heap.size ≤ pr ∧ Below w.heap.size w w' := by
  by_cases hlt : 1000 < n
  · have hltz : (1000 : Int) < (n : Int) := by omega
    rcases h with h | ⟨b, off, rfl, hbl, hv⟩
    · omega
    have HBY : Hid (Bytes w (some ⟨b, off, none⟩) 1000) := Bytes.take (n := n) (.inr ⟨b, off, rfl, hbl, hv⟩) (by omega)
    have hc1 : (1000 : Int) ≤ (c : Int) := by omega
    clear hv
    go_enter Tryz.func38, Tryz.ntmps38
    go_wp2_with fail
    refine bodyPost_ret (v := .pointer (some ⟨w.heap.size, 0, none⟩)) (by simp [results, Tryz.results38, go_sem]) rfl ⟨w.heap.size, rfl, rd_new (unhide HBY) (Nat.le_refl _), Nat.le_refl _, (Below.refl _ _).alloc (Nat.le_refl _) _⟩
  · have hltz : ¬ (1000 : Int) < (n : Int) := by omega
    have HBY := hide h
    clear h
    go_enter Tryz.func38, Tryz.ntmps38
    go_wp2_with fail
    refine bodyPost_ret (v := .pointer (some ⟨w.heap.size, 0, none⟩)) (by simp [results, Tryz.results38, go_sem]) rfl ⟨w.heap.size, rfl, rd_new (unhide HBY) (by omega), Nat.le_refl _, (Below.refl _ _).alloc (Nat.le_refl _) _⟩

end Go.Proofs.YtkgcmpmgaghdhaaGreatDoor
namespace Go.Proofs.YtkgcmpmgaghdhaaGreatDoor
open Go.RowKit

/-- What a draw of two arrays gives. -/
def DrawnTwo (w : World) (e : Ending) (w' : World) : Prop := ∃ (c d : Bool) (a1 a2 b1 b2 : Addr) (n1 n2 m1 m2 c1 c2 d1 d2 : Nat) (sh dt sh' dt' : List Int), e = .returned (.tuple #[.agg #[.bool c, .slice (some a1) n1 c1, .slice (some a2) n2 c2], .agg #[.bool d, .slice (some b1) m1 d1, .slice (some b2) m2 d2]]) ∧ Row w' (some a1) n1 sh ∧ Row w' (some a2) n2 dt ∧ Row w' (some b1) m1 sh' ∧ Row w' (some b2) m2 dt' ∧ n1 ≤ 6 ∧ n2 ≤ 10001 ∧ m1 ≤ 6 ∧ m2 ≤ 10001 ∧ Below w.heap.size w w'

/-- The two boxes of the answer are written. -/
theorem drawn2_end {w V : World} {x0 x1 : Bool} {c d : Bool} {a1 a2 b1 b2 : Addr} {n1 n2 m1 m2 c1 c2 d1 d2 : Nat} {sh dt sh' dt' : List Int} (h0 : Box V w.heap.size x0 (.slice none 0 0) (.slice none 0 0)) (h1 : Box V (w.heap.size + 1) x1 (.slice none 0 0) (.slice none 0 0)) (r1 : Row V (some a1) n1 sh) (r2 : Row V (some a2) n2 dt) (q1 : Row V (some b1) m1 sh') (q2 : Row V (some b2) m2 dt') (hn1 : n1 ≤ 6) (hn2 : n2 ≤ 10001) (hm1 : m1 ≤ 6) (hm2 : m2 ≤ 10001) (hl : Below w.heap.size w V) :
    DrawnTwo w (.returned (.tuple #[.agg #[.bool c, .slice (some a1) n1 c1, .slice (some a2) n2 c2], .agg #[.bool d, .slice (some b1) m1 d1, .slice (some b2) m2 d2]]))
      ((((((V.setCell ⟨w.heap.size, 0, none⟩ (.bool c)).setCell ⟨w.heap.size, 1, none⟩ (.slice (some a1) n1 c1)).setCell ⟨w.heap.size, 2, none⟩ (.slice (some a2) n2 c2)).setCell ⟨w.heap.size + 1, 0, none⟩ (.bool d)).setCell ⟨w.heap.size + 1, 1, none⟩ (.slice (some b1) m1 d1)).setCell ⟨w.heap.size + 1, 2, none⟩ (.slice (some b2) m2 d2)) := by
  have hb : But (fun x => x = w.heap.size ∨ x = w.heap.size + 1) V ((((((V.setCell ⟨w.heap.size, 0, none⟩ (.bool c)).setCell ⟨w.heap.size, 1, none⟩ (.slice (some a1) n1 c1)).setCell ⟨w.heap.size, 2, none⟩ (.slice (some a2) n2 c2)).setCell ⟨w.heap.size + 1, 0, none⟩ (.bool d)).setCell ⟨w.heap.size + 1, 1, none⟩ (.slice (some b1) m1 d1)).setCell ⟨w.heap.size + 1, 2, none⟩ (.slice (some b2) m2 d2)) :=
    ((((((But.refl _ V).setCell (p := ⟨w.heap.size, 0, none⟩) (.inl rfl) _).setCell (p := ⟨w.heap.size, 1, none⟩) (.inl rfl) _).setCell (p := ⟨w.heap.size, 2, none⟩) (.inl rfl) _).setCell (p := ⟨w.heap.size + 1, 0, none⟩) (.inr rfl) _).setCell (p := ⟨w.heap.size + 1, 1, none⟩) (.inr rfl) _).setCell (p := ⟨w.heap.size + 1, 2, none⟩) (.inr rfl) _
  have hk : ∀ {a : Option Addr} {n : Nat} {zs : List Int}, Row V a n zs → ∀ x, x = w.heap.size ∨ x = w.heap.size + 1 → ¬ At a n x := fun hr x hx hh => by have := hr.notBox h0 hh; have := hr.notBox h1 hh; omega
  exact ⟨c, d, a1, a2, b1, b2, n1, n2, m1, m2, c1, c2, d1, d2, sh, dt, sh', dt', rfl, hb.row r1 (hk r1), hb.row r2 (hk r2), hb.row q1 (hk q1), hb.row q2 (hk q2), hn1, hn2, hm1, hm2, hl.trans (hb.below hl.size (fun x hx => by omega))⟩

end Go.Proofs.YtkgcmpmgaghdhaaGreatDoor
namespace Go.Proofs.YtkgcmpmgaghdhaaGreatDoor
open Go.RowKit

/-- What a function that draws an array by the reader pr gives. -/
def Drawn6 (pr : Nat) (w : World) (e : Ending) (w' : World) : Prop := (∃ (c : Bool) (a1 a2 : Addr) (n1 n2 c1 c2 : Nat) (sh dt : List Int), e = .returned (.agg #[.bool c, .slice (some a1) n1 c1, .slice (some a2) n2 c2]) ∧ Own w' w.heap.size (some a1) n1 sh ∧ Own w' w.heap.size (some a2) n2 dt ∧ n1 ≤ 6 ∧ n2 ≤ 10001) ∧ RdOk w' pr ∧ But (fun x => x = pr) w w'

/-- The answer's box is filled. -/
theorem drawn6_end {w wx : World} {pr p0 : Nat} {c k : Bool} {s1 s2 : Option Addr} {l1 l2 k1 k2 : Nat} {a1 a2 : Addr} {n1 n2 c1 c2 : Nat} {sh dt : List Int} (hp : Box wx p0 c (.slice s1 l1 k1) (.slice s2 l2 k2)) (hp0 : w.heap.size ≤ p0) (o1 : Own wx w.heap.size (some a1) n1 sh) (o2 : Own wx w.heap.size (some a2) n2 dt) (h1 : n1 ≤ 6) (h2 : n2 ≤ 10001) (hr : RdOk wx pr) (hpr : pr < w.heap.size) (hb : But (fun x => x = pr) w wx) :
    Drawn6 pr w (.returned (.agg #[.bool k, .slice (some a1) n1 c1, .slice (some a2) n2 c2])) (((wx.setCell ⟨p0, 0, none⟩ (.bool k)).setCell ⟨p0, 1, none⟩ (.slice (some a1) n1 c1)).setCell ⟨p0, 2, none⟩ (.slice (some a2) n2 c2)) := by
  have hs : But (fun x => x = p0) wx (((wx.setCell ⟨p0, 0, none⟩ (.bool k)).setCell ⟨p0, 1, none⟩ (.slice (some a1) n1 c1)).setCell ⟨p0, 2, none⟩ (.slice (some a2) n2 c2)) := (((But.refl (fun x => x = p0) wx).setCell (p := ⟨p0, 0, none⟩) rfl _).setCell (p := ⟨p0, 1, none⟩) rfl _).setCell (p := ⟨p0, 2, none⟩) rfl _
  have hn1 : ∀ x, x = p0 → ¬ At (some a1) n1 x := fun x e hk => (o1.row.notBox hp hk) e
  have hn2 : ∀ x, x = p0 → ¬ At (some a2) n2 x := fun x e hk => (o2.row.notBox hp hk) e
  exact ⟨⟨k, a1, a2, n1, n2, c1, c2, sh, dt, rfl, hs.own o1 hn1, hs.own o2 hn2, h1, h2⟩, hr.but hs (by rintro x rfl; omega), ((hb.setNew (p := ⟨p0, 0, none⟩) hp0 _).setNew (p := ⟨p0, 1, none⟩) hp0 _).setNew (p := ⟨p0, 2, none⟩) hp0 _⟩

set_option maxRecDepth 20000 in
set_option maxHeartbeats 4000000 in
theorem l6List_any (pr : Nat) (w : World) (h : RdOk w pr) : Calls Tryz.prog 39 #[.pointer (some ⟨pr, 0, none⟩)] w (Drawn6 pr w) := by
  have hlw := h.lt
  have hb0 : Below w.heap.size w (w.alloc (.cells #[.bool false, .slice none 0 0, .slice none 0 0] 25)) := (Below.refl _ w).alloc (Nat.le_refl _) _
  have HP0 : Hid (Box (w.alloc (.cells #[.bool false, .slice none 0 0, .slice none 0 0] 25)) w.heap.size false (.slice none 0 0) (.slice none 0 0)) := Box.new w _ _ _
  have HBB : Hid (But (fun x => x = pr) w (w.alloc (.cells #[.bool false, .slice none 0 0, .slice none 0 0] 25))) := But.of_below hb0
  have hcall := next_any pr _ (h.below hb0)
  clear h hb0
  go_enter Tryz.func39, Tryz.ntmps39
  go_upto_region 2 with (go_at_call 72; refine hcall.mono ?_; rintro e w1 ⟨⟨k, hk, rfl⟩, hr1, hb1⟩; have HR1 := hide hr1; have HB1' := hide hb1; clear hr1 hb1)
  clear hcall
  have HP1 := hide ((unhide HP0).but (unhide HB1') (by show ¬ w.heap.size = pr; omega))
  have HB1 : Hid (But (fun x => x = pr) w w1) := ((unhide HBB).trans (unhide HB1')).mono (by rintro x (h | h) <;> exact h)
  have hw1 := (unhide HP1).lt
  clear HP0 HBB HB1'
  obtain ⟨j8, hj8, q8, q8'⟩ := modN k 8 (by omega)
  have r8 : (k : Int).tmod 8 = (j8 : Int) := q8
  have r8' : (k : Int) % 8 = (j8 : Int) := q8'
  obtain ⟨j9, hj9, q9, q9'⟩ := modN k 9 (by omega)
  have r9 : (k : Int).tmod 9 = (j9 : Int) := q9
  have r9' : (k : Int) % 9 = (j9 : Int) := q9'
  clear q8 q8' q9 q9'
  by_cases h7 : j8 = 7
  · have g7 : ((j8 : Int) == 7) = true := by simp [h7]
    have hcA := l3Array_any pr w1 (unhide HR1)
    clear h7
    go_wp2_with (go_at_call 40; refine hcA.mono ?_; rintro e w2 ⟨⟨c, a1, a2, n1, n2, c1, c2, sh, dt, rfl, o1, o2, h1, h2⟩, hr2, hb2⟩; have HO1 := hide o1; have HO2 := hide o2; have HR2 := hide hr2; have HB2 := hide hb2; have HP2 := hide ((unhide HP1).but hb2 (by show ¬ w.heap.size = pr; omega)); obtain ⟨y0, y1, y2, y3, y4, y5, y6⟩ := (unhide HP2).all; clear o1 o2 hr2 hb2)
    have hx := (unhide HP2).sets (c' := c) (u1 := .slice (some a1) n1 c1) (u2 := .slice (some a2) n2 c2)
    obtain ⟨r0, r1, r2, _, _, _⟩ := hx.all
    refine bodyPost_ret (v := .agg #[.bool c, .slice (some a1) n1 c1, .slice (some a2) n2 c2]) (by simp [results, Tryz.results39, go_sem, r0, r1, r2]) rfl ?_
    exact drawn6_end (unhide HP2) (Nat.le_refl _) ((unhide HO1).mono (by omega)) ((unhide HO2).mono (by omega)) h1 h2 (unhide HR2) hlw (((unhide HB1).trans (unhide HB2)).mono (by rintro x (h | h) <;> exact h))
  · have g7 : ((j8 : Int) == 7) = false := by simp; omega
    obtain ⟨bc, hbc⟩ : ∃ bc, decide ((190 : Int) ≤ (k : Int)) = bc := ⟨_, rfl⟩
    have hown : Own (w1.alloc (.cells #[.int .i64 (j9 : Nat)] 3)) w.heap.size (some ⟨w1.heap.size, 0, none⟩) 1 [(j9 : Int)] := by
      refine Blk.own (zs := [(j9 : Int)]) ?_ rfl (by omega) (by omega)
      show (w1.heap.push _)[w1.heap.size]? = _
      simp
    have hrow := hown.row
    have HOWN := hide hown
    have hprl := (unhide HR1).lt
    have hcO := l3Of_any pr w1.heap.size 1 1 bc [(j9 : Int)] _ ((unhide HR1).below ((Below.refl _ _).alloc (Nat.le_refl _) _)) hrow (by omega)
    have HROW := hide hrow
    have HBA : Hid (Below w1.heap.size w1 (w1.alloc (.cells #[.int .i64 (j9 : Nat)] 3))) := (Below.refl _ _).alloc (Nat.le_refl _) _
    clear h7 hrow hown
    go_wp2_with (go_at_call 111; (try rw [hbc]); refine hcO.mono ?_; rintro e w2 ⟨⟨g, n, cap, l, rfl, hn, ho⟩, hr2, hb2⟩; obtain ⟨_, _, ev, hO2⟩ := Own.of_owns ho (by omega); cases ev; have HO2 := hide hO2; have HR2 := hide hr2; have HB2 := hide hb2; have HP2 := hide (((unhide HP1).alloc _).but hb2 (by show ¬ w.heap.size = pr; omega)); obtain ⟨y0, y1, y2, y3, y4, y5, y6⟩ := (unhide HP2).all; clear ho hO2 hr2 hb2)
    have hx := (unhide HP2).sets (c' := bc) (u1 := .slice (some ⟨w1.heap.size, 0, none⟩) 1 1) (u2 := .slice (some ⟨g, 0, none⟩) n cap)
    obtain ⟨r0, r1, r2, _, _, _⟩ := hx.all
    refine bodyPost_ret (v := .agg #[.bool bc, .slice (some ⟨w1.heap.size, 0, none⟩) 1 1, .slice (some ⟨g, 0, none⟩) n cap]) (by simp [results, Tryz.results39, go_sem, r0, r1, r2]) rfl ?_
    have hsz := (unhide HBA).size
    refine drawn6_end (sh := [(j9 : Int)]) (dt := l) (unhide HP2) (Nat.le_refl _) ((unhide HB2).own (unhide HOWN) (by rintro x rfl hk; have := at_eq hk; omega)) ((unhide HO2).mono (by omega)) (by omega) (by omega) (unhide HR2) hlw ?_
    exact (((unhide HB1).trans (T := fun x => x = pr) (But.of_below (unhide HBA))).trans (unhide HB2)).mono (by rintro x ((h | h) | h) <;> exact h)

end Go.Proofs.YtkgcmpmgaghdhaaGreatDoor
namespace Go.Proofs.YtkgcmpmgaghdhaaGreatDoor
open Go.RowKit

set_option maxRecDepth 20000 in
set_option maxHeartbeats 4000000 in
theorem DrawFind_any (a : Option Addr) (n cn : Nat) (w : World) (h : Bytes w a n) (hc : n ≤ cn) (hn : n ≤ 1048576) :
    Calls Tryz.prog 8 #[.slice a n cn] w (DrawnTwo w) := by
  have HB0 : Hid (Below w.heap.size w ((w.alloc (.cells #[.bool false, .slice none 0 0, .slice none 0 0] 25)).alloc (.cells #[.bool false, .slice none 0 0, .slice none 0 0] 25))) := ((Below.refl _ _).alloc (Nat.le_refl _) _).alloc (by simp) _
  have HX0 : Hid (Box ((w.alloc (.cells #[.bool false, .slice none 0 0, .slice none 0 0] 25)).alloc (.cells #[.bool false, .slice none 0 0, .slice none 0 0] 25)) w.heap.size false (.slice none 0 0) (.slice none 0 0)) := (Box.new w _ _ _).alloc _
  have HX1 : Hid (Box ((w.alloc (.cells #[.bool false, .slice none 0 0, .slice none 0 0] 25)).alloc (.cells #[.bool false, .slice none 0 0, .slice none 0 0] 25)) (w.heap.size + 1) false (.slice none 0 0) (.slice none 0 0)) := by
    have := Box.new (w.alloc (.cells #[.bool false, .slice none 0 0, .slice none 0 0] 25)) false (.slice none 0 0) (.slice none 0 0)
    rw [World.size_alloc] at this
    exact this
  have HBY := hide (h.below (unhide HB0))
  clear h
  go_enter Tryz.func8, Tryz.ntmps8
  go_wp2_with fail
  refine (l1Open_any a n cn _ (unhide HBY) hc hn).mono ?_
  rintro e w1 ⟨pr, rfl, hr1, hpr, hb1⟩
  have hpr2 : w.heap.size + 2 ≤ pr := by simp at hpr; omega
  have HX0' := hide ((unhide HX0).below (Nat.le_refl _) hb1)
  have HX1' := hide ((unhide HX1).below (Nat.le_refl _) hb1)
  have HB1 := hide ((unhide HB0).trans (hb1.mono (by simp; omega)))
  have HR1 := hide hr1
  clear HX0 HX1 HB0 HBY hr1 hpr hb1
  go_wp2_with fail
  refine (l6List_any pr _ (unhide HR1)).mono ?_
  rintro e w3 ⟨⟨c, a1, a2, n1, n2, c1, c2, sh, dt, rfl, o1, o2, hn1, hn2⟩, hr3, hb3⟩
  obtain ⟨X3, hX3⟩ : ∃ X, X = w3.alloc (.cells #[.bool c, .slice (some a1) n1 c1, .slice (some a2) n2 c2] 25) := ⟨_, rfl⟩
  obtain ⟨p7, hp7⟩ : ∃ p, p = w3.heap.size := ⟨_, rfl⟩
  have hsz3 := hb3.size
  have hprl := (unhide HR1).lt
  have HA3 : Hid (Below w3.heap.size w3 X3) := by rw [hX3]; exact (Below.refl _ _).alloc (Nat.le_refl _) _
  have HX0 := hide (((unhide HX0').but hb3 (by show ¬ w.heap.size = pr; omega)).below (Nat.le_refl _) (unhide HA3))
  have HX1 := hide (((unhide HX1').but hb3 (by show ¬ w.heap.size + 1 = pr; omega)).below (Nat.le_refl _) (unhide HA3))
  have hb3' := (unhide HB1).trans (hb3.below (unhide HB1).size (fun x hx => by omega))
  have HB3 := hide (hb3'.trans ((unhide HA3).mono hb3'.size))
  have HR3 := hide (hr3.below (unhide HA3))
  have HX7 : Hid (Box X3 p7 c (.slice (some a1) n1 c1) (.slice (some a2) n2 c2)) := by rw [hX3, hp7]; exact Box.new _ _ _ _
  have HL1 : Hid (∀ x, At (some a1) n1 x → x ≠ pr) := fun x hx => by have := o1.low hx; omega
  have HL2 : Hid (∀ x, At (some a2) n2 x → x ≠ pr) := fun x hx => by have := o2.low hx; omega
  have HO1 := hide (o1.row.below (Nat.le_refl _) (unhide HA3))
  have HO2 := hide (o2.row.below (Nat.le_refl _) (unhide HA3))
  have hq7 : ¬ p7 = pr := by omega
  have HX3 := hide hX3
  have HP7 := hide hp7
  clear HX0' HX1' HB1 HR1 o1 o2 hr3 hb3 hb3' hX3 hp7
  go_upto_region 3 with fail
  rw [← unhide HX3, ← unhide HP7]
  clear HX3 HP7 HA3
  clear hsz3 hprl
  have hKEEP : ∀ wx, But (fun x => x = pr) X3 wx → wx.cell? ⟨p7, 0, none⟩ = some (.bool c) ∧ wx.cell? ⟨p7, 1, none⟩ = some (.slice (some a1) n1 c1) ∧ wx.cell? ⟨p7, 2, none⟩ = some (.slice (some a2) n2 c2) := fun wx hwx => ((unhide HX7).but hwx hq7).cells
  obtain ⟨y0, y1, y2⟩ := hKEEP _ (But.refl _ _)
  go_region_with (go_at_call 40; refine (l3Array_any pr _ (by first | exact unhide HR3 | exact (unhide HR3).below (Below.refl _ _).drew)).mono ?_; rintro e w4 ⟨⟨d, b1, b2, m1, m2, d1, d2, sh', dt', rfl, q1, q2, hm1, hm2⟩, _, hb4⟩; have hb5 : But (fun x => x = pr) X3 w4 := (by first | exact hb4 | exact ((But.of_below (Below.refl _ _).drew).trans hb4).mono (by rintro x (h | h) <;> exact h)); obtain ⟨y0, y1, y2⟩ := hKEEP _ hb5; have HZ0 := hide ((unhide HX0).but hb5 (by show ¬ w.heap.size = pr; omega)); have HZ1 := hide ((unhide HX1).but hb5 (by show ¬ w.heap.size + 1 = pr; omega)); obtain ⟨z0, z1, z2, z3, z4, z5, z6⟩ := (unhide HZ0).all; obtain ⟨u0, u1, u2, u3, u4, u5, u6⟩ := (unhide HZ1).all; have HQ1 := hide q1.row; have HQ2 := hide q2.row; have HB5 := hide hb5; clear q1 q2 hb4 hb5)
  all_goals go_wp2_with fail
  all_goals
    have hF0 := ((((unhide HZ0).sets (c' := c) (u1 := .slice (some a1) n1 c1) (u2 := .slice (some a2) n2 c2)).other (q := ⟨w.heap.size + 1, 0, none⟩) (by simp) (.bool d)).other (q := ⟨w.heap.size + 1, 1, none⟩) (by simp) (.slice (some b1) m1 d1)).other (q := ⟨w.heap.size + 1, 2, none⟩) (by simp) (.slice (some b2) m2 d2)
    have hF1 := ((((unhide HZ1).other (q := ⟨w.heap.size, 0, none⟩) (by simp) (.bool c)).other (q := ⟨w.heap.size, 1, none⟩) (by simp) (.slice (some a1) n1 c1)).other (q := ⟨w.heap.size, 2, none⟩) (by simp) (.slice (some a2) n2 c2)).sets (c' := d) (u1 := .slice (some b1) m1 d1) (u2 := .slice (some b2) m2 d2)
    obtain ⟨t0, t1, t2, _, _, _⟩ := hF0.all
    obtain ⟨v0, v1, v2, _, _, _⟩ := hF1.all
    refine bodyPost_ret (v := .tuple #[.agg #[.bool c, .slice (some a1) n1 c1, .slice (some a2) n2 c2], .agg #[.bool d, .slice (some b1) m1 d1, .slice (some b2) m2 d2]]) (by simp [results, Tryz.results8, go_sem, t0, t1, t2, v0, v1, v2]) rfl ?_
    exact drawn2_end (unhide HZ0) (unhide HZ1) ((unhide HB5).row (unhide HO1) (fun x hx hh => unhide HL1 x hh hx)) ((unhide HB5).row (unhide HO2) (fun x hx hh => unhide HL2 x hh hx)) (unhide HQ1) (unhide HQ2) hn1 hn2 hm1 hm2 ((unhide HB3).trans ((unhide HB5).below (unhide HB3).size (fun x hx => by omega)))

end Go.Proofs.YtkgcmpmgaghdhaaGreatDoor
namespace Go.Proofs.YtkgcmpmgaghdhaaGreatDoor
open Go

section
variable {P : Program} {ops : Array Oper} {Q : Exit → Act → World → Prop} {md : Region.Mode} {S : World → Prop} {st : Nat}

/-- Whatever order is picked from here on, and S holds behind every operation but number st. -/
def wpAnyL (P : Program) (md : Region.Mode) (ops : Array Oper) (Q : Exit → Act → World → Prop) (S : World → Prop) (st : Nat) : Nat → Array Bool → Act → World → Prop
  | 0, listed, a, w => Region.ready md ops listed = [] ∧ Q .normal a w
  | fuel + 1, listed, a, w =>
    (Region.ready md ops listed = [] → Q .normal a w) ∧
    ∀ i ∈ Region.ready md ops listed, wpOp P ops Q i (fun a' w' => (i ≠ st → S w') ∧ wpAnyL P md ops Q S st fuel (listed.setIfInBounds i true) a' w') a w

theorem wpAny_of_L : ∀ (fuel : Nat) (listed : Array Bool) (a : Act) (w : World), wpAnyL P md ops Q S st fuel listed a w → wpAny P md ops Q fuel listed a w
  | 0, _, _, _, h => h
  | fuel + 1, _, _, _, h => ⟨h.1, fun i hi => wpOp_mono (fun a' w' h' => wpAny_of_L fuel _ a' w' h'.2) (h.2 i hi)⟩

/-- Operation st waits for operation i. -/
def waitsFor (md : Region.Mode) (ops : Array Oper) (st i : Nat) : Bool := ((ops[st]?).map (·.after.any fun e => Region.binds md e && e.on == i)).getD false

theorem waits_not {i : Nat} {listed : Array Bool} (hw : waitsFor md ops st i = true) (hi : listed.getD i true = false) : st ∉ Region.ready md ops listed := by
  intro hst
  obtain ⟨_, o, ho, hall⟩ := mem_ready.1 hst
  unfold waitsFor at hw
  rw [ho] at hw
  simp only [Option.map_some, Option.getD_some, Array.any_eq_true'] at hw
  obtain ⟨e, he, hb⟩ := hw
  simp only [Bool.and_eq_true, beq_iff_eq] at hb
  have h1 := hall e he hb.1
  rw [hb.2] at h1
  rcases Nat.lt_or_ge i listed.size with h' | h'
  · simp [h'] at hi h1; rw [hi] at h1; cases h1
  · simp [Array.getElem?_eq_none h'] at h1

theorem wpAnyL_first {i : Nat} {oi : Oper} {v : Value} (hi : ops[i]? = some oi) (hsel : ∀ (j : Nat) (o : Oper) cs b, ops[j]? = some o → o.op ≠ .select cs b)
    (hQ : ∀ c a w, Q (.panic c) (a.put oi.dst v) w → Q (.panic c) a w) (hw : waitsFor md ops st i = true) :
    ∀ (fuel : Nat) (listed : Array Bool) (a : Act) (w : World),
      (∀ j oj, ops[j]? = some oj → j ≠ i → listed.getD j true = false → (∀ e ∈ oj.after, Region.binds md e = true → e.on ≠ i) → oi.apart ops oj = true) →
      i ∈ Region.ready md ops listed → YieldsIf P ops S oi v a → S w →
      wpAnyL P md ops Q S st fuel (listed.setIfInBounds i true) (a.put oi.dst v) w → wpAnyL P md ops Q S st (fuel + 1) listed a w := by
  intro fuel
  induction fuel with
  | zero =>
    intro listed a w _ hr hy hS H
    refine ⟨fun h => (by rw [h] at hr; cases hr), fun j hj => ?_⟩
    by_cases hji : j = i
    · subst hji; exact hy.wpOp hi hS ⟨fun _ => hS, H⟩
    · have := ready_mono hj hji
      rw [H.1] at this
      cases this
  | succ fuel ih =>
    intro listed a w hfree hr hy hS H
    refine ⟨fun h => (by rw [h] at hr; cases hr), fun j hj => ?_⟩
    by_cases hji : j = i
    · subst hji; exact hy.wpOp hi hS ⟨fun _ => hS, H⟩
    · have h1 := H.2 j (ready_mono hj hji)
      have hjst : j ≠ st := fun e => waits_not hw (mem_ready.1 hr).1 (e ▸ hj)
      obtain ⟨hjun, oj, hoj, hall⟩ := mem_ready.1 hj
      have hnot : ∀ e ∈ oj.after, Region.binds md e = true → e.on ≠ i := fun e he hb heq => by
        have h1 := hall e he hb
        have h0 := (mem_ready.1 hr).1
        rw [heq] at h1
        rcases Nat.lt_or_ge i listed.size with h' | h'
        · simp [h'] at h0 h1; rw [h0] at h1; cases h1
        · simp [Array.getElem?_eq_none h'] at h1
      have h2 := wpOp_putIf hoj (hfree j oj hoj hji hjun hnot) (fun cs b => hsel i oi cs b hi) (fun cs b => hsel j oj cs b hoj) hQ hy h1
      have hfree' : ∀ k ok, ops[k]? = some ok → k ≠ i → (listed.setIfInBounds j true).getD k true = false →
          (∀ e ∈ ok.after, Region.binds md e = true → e.on ≠ i) → oi.apart ops ok = true := fun k ok hk hki hun hno => by
        refine hfree k ok hk hki ?_ hno
        by_cases hjk : j = k
        · subst hjk; exact hjun
        · rw [getD_set_ne true hjk] at hun; exact hun
      refine wpOp_mono (fun a' w' h3 => ⟨h3.2.1, ih (listed.setIfInBounds j true) a' w' hfree' (ready_mono hr (Ne.symm hji)) h3.1 (h3.2.1 hjst) ?_⟩) h2
      rw [Array.setIfInBounds_comm _ _ hji]
      exact h3.2.2

/-- Take number i first. -/
theorem wpAnyL_take {i : Nat} {oi : Oper} {v : Value} {fuel : Nat} {listed : Array Bool} {a : Act} {w : World} (hi : ops[i]? = some oi)
    (hs : Region.noSelect ops = true) (hf : Region.free md ops listed i = true) (hr : (Region.ready md ops listed).contains i = true) (hw : waitsFor md ops st i = true)
    (hQ : ∀ c a w, Q (.panic c) (a.put oi.dst v) w → Q (.panic c) a w) (hy : YieldsIf P ops S oi v a) (hS : S w)
    (h : wpAnyL P md ops Q S st fuel (listed.setIfInBounds i true) (a.put oi.dst v) w) : wpAnyL P md ops Q S st (fuel + 1) listed a w :=
  wpAnyL_first hi (Region.noSelect_spec hs) hQ hw fuel listed a w (Region.free_spec hi hf) (by simpa using hr) hy hS h

/-- Take number i first, its value into slot d. -/
theorem wpAnyL_put (i d : Nat) (v : Value) {oi : Oper} {fuel : Nat} {listed : Array Bool} {a : Act} {w : World} (hi : ops[i]? = some oi) (hd : oi.dst = some d)
    (hs : Region.noSelect ops = true) (hf : Region.free md ops listed i = true) (hr : (Region.ready md ops listed).contains i = true) (hw : waitsFor md ops st i = true)
    (hQ : ∀ c a (d : Nat) v w, Q (.panic c) (a.put (some d) v) w → Q (.panic c) a w) (hg : Region.wanted oi (yielded ops a.tmps) = true) (hy : ∀ w, S w → (execOp a.eval oi).run P w = .ok (.value v) w) (hS : S w)
    (h : wpAnyL P md ops Q S st fuel (listed.setIfInBounds i true) (a.put (some d) v) w) : wpAnyL P md ops Q S st (fuel + 1) listed a w :=
  wpAnyL_take hi hs hf hr hw (fun c a w h => by rw [hd] at h; exact hQ c a d v w h) (Or.inl ⟨hg, hy⟩) hS (by rw [hd]; exact h)

/-- One alone may come up. -/
theorem wpAnyL_one {i : Nat} {fuel : Nat} {listed : Array Bool} {a : Act} {w : World} (hr : Region.ready md ops listed = [i])
    (h : wpOp P ops Q i (fun a' w' => (i ≠ st → S w') ∧ wpAnyL P md ops Q S st fuel (listed.setIfInBounds i true) a' w') a w) : wpAnyL P md ops Q S st (fuel + 1) listed a w :=
  ⟨fun h0 => (by rw [hr] at h0; cases h0), fun j hj => (by rw [hr] at hj; simp at hj; subst hj; exact h)⟩

theorem wpAnyL_done {listed : Array Bool} {a : Act} {w : World} (hr : Region.ready md ops listed = []) (h : Q .normal a w) : ∀ fuel, wpAnyL P md ops Q S st fuel listed a w
  | 0 => ⟨hr, h⟩
  | _ + 1 => ⟨fun _ => h, by rw [hr]; simp⟩

theorem wp_region_L {id : Nat} {a : Act} {w : World} (S : World → Prop) (st : Nat) (hm : P.follows .mixedOrders = true)
    (h : wpAnyL P .any ops Q S st ops.size (Array.replicate ops.size false) a { w with drawn := w.drawn + 1 }) : (Code.region id ops true).wp P Q a w :=
  wp_region_any hm (wpAny_of_L _ _ _ _ h)

theorem op_wp {K : Act → World → Prop} {a : Act} {w : World} {i : Nat} {o : Oper} (hi : ops[i]? = some o) (hg : Region.wanted o (yielded ops a.tmps) = true) (h : o.wp P a w K Q) : wpOp P ops Q i K a w := by
  unfold wpOp
  rw [hi]
  show if Region.wanted o (yielded ops a.tmps) = true then _ else _
  rw [if_pos hg]
  exact .inl h

theorem eval_ne {a : Act} {d e : Nat} {v : Value} (h : d ≠ e) : (a.put (some d) v).eval (.tmp e) = a.eval (.tmp e) :=
  Act.eval_put (dst := some d) (x := .tmp e) (by simp; exact fun hy => h hy.symm)

theorem eval_eq {a : Act} {d : Nat} {v : Value} (h : d < a.tmps.size) : (a.put (some d) v).eval (.tmp d) = v := by
  simp [Act.eval, Act.put, h]

theorem put_size {a : Act} {d : Nat} {v : Value} : (a.put (some d) v).tmps.size = a.tmps.size := by simp [Act.put]
end

end Go.Proofs.YtkgcmpmgaghdhaaGreatDoor
namespace Go.Proofs.YtkgcmpmgaghdhaaGreatDoor
open Go.RowKit

section
variable {o : Oper} {a : Act}
theorem rgF0 (x : Operand) (b : Nat) (ho : o.op = .fieldAddr 25 x 0) (hx : a.eval x = .pointer (some ⟨b, 0, none⟩)) (w : World) : (execOp a.eval o).run Tryz.prog w = .ok (.value (.pointer (some ⟨b, 0, none⟩))) w := by
  unfold execOp
  simp only [ho, hx]
  go_simp
theorem rgF1 (x : Operand) (b : Nat) (ho : o.op = .fieldAddr 25 x 1) (hx : a.eval x = .pointer (some ⟨b, 0, none⟩)) (w : World) : (execOp a.eval o).run Tryz.prog w = .ok (.value (.pointer (some ⟨b, 1, none⟩))) w := by
  unfold execOp
  simp only [ho, hx]
  go_simp
theorem rgF2 (x : Operand) (b : Nat) (ho : o.op = .fieldAddr 25 x 2) (hx : a.eval x = .pointer (some ⟨b, 0, none⟩)) (w : World) : (execOp a.eval o).run Tryz.prog w = .ok (.value (.pointer (some ⟨b, 2, none⟩))) w := by
  unfold execOp
  simp only [ho, hx]
  go_simp
theorem rgL (x : Operand) (p : Addr) {s : Option Addr} {l c : Nat} (ho : o.op = .load 23 x) (hx : a.eval x = .pointer (some p)) (w : World) (hc : w.cell? p = some (.slice s l c)) : (execOp a.eval o).run Tryz.prog w = .ok (.value (.slice s l c)) w := by
  unfold execOp
  simp only [ho, hx]
  go_simp
theorem rgI (x : Operand) (p : Addr) {z : Int} (ho : o.op = .load 3 x) (hx : a.eval x = .pointer (some p)) (w : World) (hc : w.cell? p = some (.int .i64 z)) : (execOp a.eval o).run Tryz.prog w = .ok (.value (.int .i64 z)) w := by
  unfold execOp
  simp only [ho, hx]
  go_simp
theorem rgM (x : Operand) {v : Value} (ho : o.op = .move x) (hx : a.eval x = v) (w : World) : (execOp a.eval o).run Tryz.prog w = .ok (.value v) w := by
  unfold execOp
  simp only [ho, hx]
  go_simp
theorem rg_mul (x y : Operand) {i j k : Int} (ho : o.op = .binOp .mul 3 x y 3) (hx : a.eval x = .int .i64 i) (hy : a.eval y = .int .i64 j) (hk : IntKind.i64.wrap (i * j) = k) (w : World) : (execOp a.eval o).run Tryz.prog w = .ok (.value (.int .i64 k)) w := by
  unfold execOp
  simp only [ho, hx, hy]
  go_simp
theorem rg_add (x y : Operand) {i j k : Int} (ho : o.op = .binOp .add 3 x y 3) (hx : a.eval x = .int .i64 i) (hy : a.eval y = .int .i64 j) (hk : IntKind.i64.wrap (i + j) = k) (w : World) : (execOp a.eval o).run Tryz.prog w = .ok (.value (.int .i64 k)) w := by
  unfold execOp
  simp only [ho, hx, hy]
  go_simp
theorem rg_rem (x y : Operand) {i j k : Nat} (ho : o.op = .binOp .rem 3 x y 3) (hx : a.eval x = .int .i64 (i : Nat)) (hy : a.eval y = .int .i64 (j : Nat)) (hk : 0 < j ∧ i % j = k ∧ j ≤ 4611686018427387904) (w : World) : (execOp a.eval o).run Tryz.prog w = .ok (.value (.int .i64 (k : Nat))) w := by
  obtain ⟨h0, hk, hj⟩ := hk
  have hjz : ¬ (j : Int) = 0 := by omega
  have hjn : ¬ j = 0 := by omega
  have h2 : (i : Int).tmod (j : Int) = (k : Int) := by rw [Int.tmod_eq_emod_of_nonneg (by omega), ← hk]; rfl
  have hkj : k < j := by rw [← hk]; exact Nat.mod_lt _ h0
  have h3 : IntKind.i64.wrap (k : Int) = (k : Int) := by rw [IntKind.wrap_i64]; omega
  unfold execOp
  simp only [ho, hx, hy]
  go_simp
theorem rgN (t : Nat) {s : Option Addr} {l c : Nat} (ho : o.op = .call { callee := .builtin .len, args := #[.tmp t], argTypes := #[23] }) (hx : a.eval (.tmp t) = .slice s l c) (w : World) : (execOp a.eval o).run Tryz.prog w = .ok (.value (.int .i64 (l : Nat))) w := by
  have hx' : a.tmps[t]?.getD undef = .slice s l c := by simpa [Act.eval] using hx
  unfold execOp
  simp only [ho]
  go_simp
theorem rgX (x y : Operand) {b off m c J : Nat} (ho : o.op = .indexAddr 23 x y) (hx : a.eval x = .slice (some ⟨b, off, none⟩) m c) (hy : a.eval y = .int .i64 (J : Nat)) (hJ : J < m) (w : World) : (execOp a.eval o).run Tryz.prog w = .ok (.value (.pointer (some ⟨b, off + J, none⟩))) w := by
  have h1 : (J : Int) < (m : Int) := by omega
  unfold execOp
  simp only [ho, hx, hy]
  go_simp
theorem rgS1 (t : Nat) {z : Int} (ho : o.op = .buildSlice 23 1 #[(0, .tmp t)]) (hx : a.eval (.tmp t) = .int .i64 z) (w : World) : (execOp a.eval o).run Tryz.prog w = .ok (.value (.slice (some ⟨w.heap.size, 0, none⟩) 1 1)) (w.alloc (.cells #[.int .i64 z] 3)) := by
  have hx' : a.tmps[t]?.getD undef = .int .i64 z := by simpa [Act.eval] using hx
  unfold execOp
  simp only [ho]
  go_simp
theorem rgSt (x y : Operand) (p : Nat) {v1 : Value} {s : Option Addr} {l c : Nat} (ho : o.op = .store 23 x y) (hx : a.eval x = .pointer (some ⟨p, 2, none⟩)) (hy : a.eval y = .slice s l c) (w : World) (hc : w.cell? ⟨p, 2, none⟩ = some v1) (hf : w.frozen? ⟨p, 2, none⟩ = false) : (execOp a.eval o).run Tryz.prog w = .ok .skip (w.setCell ⟨p, 2, none⟩ (.slice s l c)) := by
  unfold execOp
  simp only [ho, hx, hy]
  go_simp
theorem put_nothing {a : Act} {v : Value} : a.put none v = a := rfl
theorem wanted_free {o : Oper} {y : Nat → Option Bool} (h : o.guard = none) : Region.wanted o y = true := by simp [Region.wanted, h]
end

end Go.Proofs.YtkgcmpmgaghdhaaGreatDoor
namespace Go.Proofs.YtkgcmpmgaghdhaaGreatDoor
open Go.RowKit

/-- k elements have been gathered into the array in box p. -/
structure Stage (w2 : World) (p : Nat) (c : Bool) (ash : Option Addr) (m csh : Nat) (zs : List Int) (f : Nat → Int × Int) (k : Nat) (wr : World) (g cap : Nat) : Prop where
  box : Box wr p c (.slice ash m csh) (.slice (some ⟨g, 0, none⟩) k cap)
  owns : wr.ownsRow w2.heap.size 3 1 (.slice (some ⟨g, 0, none⟩) k cap) k ((vals f k).map (Value.int .i64))
  own : Own wr w2.heap.size ash m zs
  ne : ∀ x, At ash m x → x ≠ g
  low : Below w2.heap.size w2 wr
  code : firstCode f k = 0
  place : w2.heap.size ≤ p

theorem Stage.start {w2 wx : World} {p g : Nat} {c : Bool} {ash : Option Addr} {m csh : Nat} {zs : List Int} (f : Nat → Int × Int) (h1 : Box wx p c (.slice ash m csh) (.slice (some ⟨g, 0, none⟩) 0 0)) (h2 : Blk wx g []) (h3 : Own wx w2.heap.size ash m zs) (h4 : Below w2.heap.size w2 wx) (h7 : w2.heap.size ≤ p) (h5 : w2.heap.size ≤ g) (h6 : ∀ x, At ash m x → x ≠ g) : Stage w2 p c ash m csh zs f 0 wx g 0 :=
  ⟨h1, h2.owns h5, h3, h6, h4, rfl, h7⟩

theorem Stage.below {w2 wr w5 : World} {p g cap k : Nat} {c : Bool} {ash : Option Addr} {m csh : Nat} {zs : List Int} {f : Nat → Int × Int} (h : Stage w2 p c ash m csh zs f k wr g cap) (hb : Below wr.heap.size wr w5) : Stage w2 p c ash m csh zs f k w5 g cap :=
  ⟨h.box.below (Nat.le_refl _) hb, owns_below h.owns (Nat.le_refl _) hb, h.own.below (Nat.le_refl _) hb, h.ne, h.low.trans (hb.mono h.low.size), h.code, h.place⟩

theorem Stage.drew {w2 wr : World} {p g cap k : Nat} {c : Bool} {ash : Option Addr} {m csh : Nat} {zs : List Int} {f : Nat → Int × Int} (h : Stage w2 p c ash m csh zs f k wr g cap) : Stage w2 p c ash m csh zs f k wr.drew g cap := h.below (Below.refl _ _).drew

theorem Stage.push {w2 w5 w6 : World} {p g g' cap cap' k : Nat} {c : Bool} {ash : Option Addr} {m csh : Nat} {zs : List Int} {f : Nat → Int × Int} {r1 : Int} (o : Obj) (h : Stage w2 p c ash m csh zs f k w5 g cap) (hf : f k = (r1, 0))
    (hown : w6.ownsRow w2.heap.size 3 1 (.slice (some ⟨g', 0, none⟩) (k + 1) cap') (k + 1) ((vals f k).map (Value.int .i64) ++ [.int .i64 r1])) (hg : (w5.alloc o).grownBy w6 (Value.ownBlock (.slice (some ⟨g, 0, none⟩) k cap))) (hat : Value.ownBlock (.slice (some ⟨g, 0, none⟩) k cap) = some g' ∨ g' = w5.heap.size + 1) :
    Box w6 p c (.slice ash m csh) (.slice (some ⟨g, 0, none⟩) k cap) ∧ Stage w2 p c ash m csh zs f (k + 1) (w6.setCell ⟨p, 2, none⟩ (.slice (some ⟨g', 0, none⟩) (k + 1) cap')) g' cap' := by
  have hb6 := h.box.grown h.owns o hg
  have hg' : (w5.alloc o).grownBy w6 (some g) := hg
  have ho6 := h.own.grown o hg' h.ne
  have hlow := h.low.trans (below_append o h.owns h.low.size hg)
  have hne' : ∀ x, At ash m x → x ≠ g' := by
    intro x hx
    rcases hat with e | e
    · have e' : g = g' := by simpa [Value.ownBlock] using e
      rw [← e']; exact h.ne x hx
    · have := h.own.row.hi hx; omega
  refine ⟨hb6, hb6.set2 _, ?_, ho6.other (fun x hx => ho6.row.notBox hb6 hx) _, hne', hlow.setCell h.place _, code_step h.code (by rw [hf]), h.place⟩
  · rw [vals_snoc, hf]
    exact owns_box_set hown hb6 _ _

end Go.Proofs.YtkgcmpmgaghdhaaGreatDoor
namespace Go.Proofs.YtkgcmpmgaghdhaaGreatDoor
open Go.RowKit

section
variable {P : Program} (w : World)

/-- append of whatever number of elements to a slice that is there. -/
theorem run_append_some (t ty : TypeId) (base : Nat) (e : TypeId) (i : TypeInfo) (z : Value) (size bytes : Nat) (ht : P.underlying t = some (.slice e)) (hi : P.info? e = some i) (hz : i.zero = some z)
    (hsize : i.size = size) (hby : i.bytes = bytes) (hzs : z.cells.size = size) (hsz : 0 < size)
    (g0 n cap0 : Nat) (xs : List Value) (hown : w.ownsRow base e size (.slice (some ⟨g0, 0, none⟩) n cap0) n xs)
    (ad : Addr) (m c : Nat) (news : List Value) (hl : news.length = m * size) (hnews : ∀ j u, news[j]? = some u → w.cell? (ad.add j) = some u) (h1 : ∀ u ∈ news, u.oneCell' = true)
    (h63 : n + m ≤ maxLen) (hbytes : (n + m) * bytes ≤ 140737488355328) (hbase : base ≤ w.heap.size) :
    ∃ g cap w', (Builtin.append_ #[t, t] ty #[.slice (some ⟨g0, 0, none⟩) n cap0, .slice (some ad) m c]).run P w = .ok (.slice (some ⟨g, 0, none⟩) (n + m) cap) w' ∧
      w'.ownsRow base e size (.slice (some ⟨g, 0, none⟩) (n + m) cap) (n + m) (xs ++ news) ∧ w.grownBy w' (some g0) ∧ (g = g0 ∨ g = w.heap.size) := by
  obtain ⟨v', w', hr, h2, h3, h4, h5⟩ := run_append_own_at (P := P) w base t ty e i z size bytes ht hi hz hsize hby hzs hsz _ n xs hown ad m c news hl hnews h1 h63 hbytes hbase
  have hf : ∃ g cap, v' = .slice (some ⟨g, 0, none⟩) (n + m) cap := by
    rcases h2.2 with ⟨e0, e1⟩ | ⟨g, cap, cur, hv, _⟩
    · exact absurd (h4.1 e0).1 (by simp)
    · exact ⟨g, cap, hv⟩
  obtain ⟨g, cap, rfl⟩ := hf
  refine ⟨g, cap, w', hr, h2, h3, ?_⟩
  rcases h5 with h5 | h5
  · left; simpa [Value.ownBlock] using h5
  · right; simpa [Value.ownBlock] using h5

theorem wp_append_some {o : Oper} {a : Act} {K : Act → World → Prop} {Q : Exit → Act → World → Prop} (s x : Operand) (t : TypeId)
    (ho : o.op = .call { callee := .builtin .append, args := #[s, x], argTypes := #[t, t] })
    (base : Nat) (e : TypeId) (i : TypeInfo) (z : Value) (size bytes : Nat) (ht : P.underlying t = some (.slice e)) (hi : P.info? e = some i) (hz : i.zero = some z)
    (hsize : i.size = size) (hby : i.bytes = bytes) (hzs : z.cells.size = size) (hsz : 0 < size)
    (g0 n cap0 : Nat) (xs : List Value) (hs : a.eval s = .slice (some ⟨g0, 0, none⟩) n cap0) (hown : w.ownsRow base e size (.slice (some ⟨g0, 0, none⟩) n cap0) n xs)
    (ad : Addr) (m c : Nat) (news : List Value) (hx : a.eval x = .slice (some ad) m c) (hl : news.length = m * size) (hnews : ∀ j u, news[j]? = some u → w.cell? (ad.add j) = some u) (h1 : ∀ u ∈ news, u.oneCell' = true)
    (h63 : n + m ≤ maxLen) (hbytes : (n + m) * bytes ≤ 140737488355328) (hbase : base ≤ w.heap.size)
    (h : ∀ g cap w', w'.ownsRow base e size (.slice (some ⟨g, 0, none⟩) (n + m) cap) (n + m) (xs ++ news) → w.grownBy w' (some g0) → (g = g0 ∨ g = w.heap.size) → K (a.put o.dst (.slice (some ⟨g, 0, none⟩) (n + m) cap)) w') : o.wp P a w K Q := by
  obtain ⟨g, cap, w', hr, h2, h3, h4⟩ := run_append_some (P := P) w t o.type base e i z size bytes ht hi hz hsize hby hzs hsz g0 n cap0 xs hown ad m c news hl hnews h1 h63 hbytes hbase
  unfold Oper.wp execOp
  simp only [ho, resolve, invoke, builtin, Sem.run_bind, Sem.run_pure, Result.andThen_ok, List.map_toArray, List.map_cons, List.map_nil, hs, hx, hr]
  exact h g cap w' h2 h3 h4

theorem step_append_some {ops : Array Oper} {o : Oper} {a : Act} {K : Act → World → Prop} {Q : Exit → Act → World → Prop} {E : Prop} (hgd : o.guard = none) (s x : Operand) (t : TypeId)
    (ho : o.op = .call { callee := .builtin .append, args := #[s, x], argTypes := #[t, t] })
    (base : Nat) (e : TypeId) (i : TypeInfo) (z : Value) (size bytes : Nat) (ht : P.underlying t = some (.slice e)) (hi : P.info? e = some i) (hz : i.zero = some z)
    (hsize : i.size = size) (hby : i.bytes = bytes) (hzs : z.cells.size = size) (hsz : 0 < size)
    (g0 n cap0 : Nat) (xs : List Value) (hs : a.eval s = .slice (some ⟨g0, 0, none⟩) n cap0) (hown : w.ownsRow base e size (.slice (some ⟨g0, 0, none⟩) n cap0) n xs)
    (ad : Addr) (m c : Nat) (news : List Value) (hx : a.eval x = .slice (some ad) m c) (hl : news.length = m * size) (hnews : ∀ j u, news[j]? = some u → w.cell? (ad.add j) = some u) (h1 : ∀ u ∈ news, u.oneCell' = true)
    (h63 : n + m ≤ maxLen) (hbytes : (n + m) * bytes ≤ 140737488355328) (hbase : base ≤ w.heap.size)
    (h : ∀ g cap w', w'.ownsRow base e size (.slice (some ⟨g, 0, none⟩) (n + m) cap) (n + m) (xs ++ news) → w.grownBy w' (some g0) → (g = g0 ∨ g = w.heap.size) → K (a.put o.dst (.slice (some ⟨g, 0, none⟩) (n + m) cap)) w') :
    if Region.wanted o (yielded ops a.tmps) = true then Oper.wp P o a w K Q else E := by
  have hw : Region.wanted o (yielded ops a.tmps) = true := by simp [Region.wanted, hgd]
  rw [if_pos hw]
  exact wp_append_some w s x t ho base e i z size bytes ht hi hz hsize hby hzs hsz g0 n cap0 xs hs hown ad m c news hx hl hnews h1 h63 hbytes hbase h

end

theorem Box.grown0 {w w1 : World} {p base n g cap : Nat} {c : Bool} {v1 v2 : Value} {xs : List Value} (h : Box w p c v1 v2) (hown : w.ownsRow base 3 1 (.slice (some ⟨g, 0, none⟩) n cap) n xs) (hg : w.grownBy w1 (some g)) : Box w1 p c v1 v2 := by
  refine (hg.block p h.lt ?_).trans h
  rcases hown.2 with ⟨e, _⟩ | ⟨g', cap', cur, e, _, hh, _⟩
  · cases e
  · cases e
    intro e
    cases e
    unfold Box at h
    rw [h] at hh
    have := congrArg (fun o => match o with | some (.cells _ t _) => t | _ => 0) hh
    simp at this

theorem Own.grown0 {w w1 : World} {B g n : Nat} {a : Option Addr} {zs : List Int} (h : Own w B a n zs) (hg : w.grownBy w1 (some g)) (hne : ∀ x, At a n x → x ≠ g) : Own w1 B a n zs := by
  refine ⟨h.len, h.small, ?_⟩
  rcases h.at_ with h0 | ⟨b, off, rfl, hb, hlt, hc, hf⟩
  · exact .inl h0
  · by_cases hn : n = 0
    · exact .inl hn
    have hk : w1.heap[b]? = w.heap[b]? := hg.block b hlt (fun e => hne b (at_self hn) (by simpa using e))
    refine .inr ⟨b, off, rfl, hb, Nat.lt_of_lt_of_le hlt hg.size, fun i hi => ?_, fun i hi => ?_⟩
    · exact (World.cell?_of_block hk).trans (hc i hi)
    · exact (World.frozen?_of_block hk).trans (hf i hi)

/-- An array in box p, its elements so far l. -/
structure Gat (w2 : World) (p : Nat) (c : Bool) (ash : Option Addr) (m csh : Nat) (zs l : List Int) (n : Nat) (wr : World) (g cap : Nat) : Prop where
  box : Box wr p c (.slice ash m csh) (.slice (some ⟨g, 0, none⟩) n cap)
  owns : wr.ownsRow w2.heap.size 3 1 (.slice (some ⟨g, 0, none⟩) n cap) n (l.map (Value.int .i64))
  own : Own wr w2.heap.size ash m zs
  ne : ∀ x, At ash m x → x ≠ g
  low : Below w2.heap.size w2 wr
  place : w2.heap.size ≤ p

theorem Gat.len {w2 wr : World} {p g cap n : Nat} {c : Bool} {ash : Option Addr} {m csh : Nat} {zs l : List Int} (h : Gat w2 p c ash m csh zs l n wr g cap) : l.length = n := by
  have := h.owns.1
  simpa using this

theorem Gat.drew {w2 wr : World} {p g cap n : Nat} {c : Bool} {ash : Option Addr} {m csh : Nat} {zs l : List Int} (h : Gat w2 p c ash m csh zs l n wr g cap) : Gat w2 p c ash m csh zs l n wr.drew g cap :=
  have hb : Below wr.heap.size wr wr.drew := (Below.refl _ _).drew
  ⟨h.box.below (Nat.le_refl _) hb, owns_below h.owns (Nat.le_refl _) hb, h.own.below (Nat.le_refl _) hb, h.ne, h.low.trans (hb.mono h.low.size), h.place⟩

theorem Gat.push {w2 w5 w6 : World} {p g g' cap cap' n k : Nat} {c : Bool} {ash : Option Addr} {m csh : Nat} {zs l r : List Int} (h : Gat w2 p c ash m csh zs l n w5 g cap)
    (hown : w6.ownsRow w2.heap.size 3 1 (.slice (some ⟨g', 0, none⟩) (n + k) cap') (n + k) (l.map (Value.int .i64) ++ r.map (Value.int .i64))) (hg : w5.grownBy w6 (some g)) (hat : g' = g ∨ g' = w5.heap.size) :
    (Box w6 p c (.slice ash m csh) (.slice (some ⟨g, 0, none⟩) n cap) ∧ Below w2.heap.size w2 w6) ∧ Gat w2 p c ash m csh zs (l ++ r) (n + k) (w6.setCell ⟨p, 2, none⟩ (.slice (some ⟨g', 0, none⟩) (n + k) cap')) g' cap' := by
  have hb6 := h.box.grown0 h.owns hg
  have ho6 := h.own.grown0 hg h.ne
  have hge : w2.heap.size ≤ g := by
    rcases h.owns.2 with ⟨e, _⟩ | ⟨g1, _, _, e, hb, _⟩
    · cases e
    · cases e; exact hb
  have hlow : Below w2.heap.size w2 w6 := h.low.grown hg h.low.size (by intro k hk; cases hk; exact hge)
  have hne' : ∀ x, At ash m x → x ≠ g' := by
    intro x hx
    rcases hat with e | e
    · rw [e]; exact h.ne x hx
    · have := h.own.row.hi hx; omega
  refine ⟨⟨hb6, hlow⟩, hb6.set2 _, ?_, ho6.other (fun x hx => ho6.row.notBox hb6 hx) _, hne', hlow.setCell h.place _, h.place⟩
  rw [List.map_append]
  exact owns_box_set hown hb6 _ _

theorem addr_plus (b o k : Nat) : (⟨b, o, none⟩ : Addr).add k = ⟨b, o + k, none⟩ := by
  unfold Addr.add
  split
  · simp
  · rfl

/-- What a statement reads that appends to the array's elements. -/
theorem holds_of {wx : World} {p b : Nat} {c d : Bool} {v1 v2 u1 u2 : Value} (h : Box wx p c v1 v2) (hb : Box wx b d u1 u2) : wx.cell? ⟨p, 2, none⟩ = some v2 ∧ wx.cell? ⟨b, 2, none⟩ = some u2 ∧ wx.frozen? ⟨p, 2, none⟩ = false := by
  obtain ⟨x0, x1, x2, x3, x4, x5, x6⟩ := h.all
  exact ⟨x2, hb.cells.2.2, by assumption⟩

theorem Gat.holds {w2 wr : World} {p g cap n b : Nat} {c d : Bool} {ash : Option Addr} {m csh : Nat} {zs l : List Int} {u1 u2 : Value} (h : Gat w2 p c ash m csh zs l n wr g cap) (hb : Box wr b d u1 u2) : wr.cell? ⟨p, 2, none⟩ = some (.slice (some ⟨g, 0, none⟩) n cap) ∧ wr.cell? ⟨b, 2, none⟩ = some u2 ∧ wr.frozen? ⟨p, 2, none⟩ = false := holds_of h.box hb

theorem Gat.grew {w2 w5 w6 : World} {p g cap n : Nat} {c : Bool} {ash : Option Addr} {m csh : Nat} {zs l : List Int} (h : Gat w2 p c ash m csh zs l n w5 g cap) (hg : w5.grownBy w6 (some g)) :
    Box w6 p c (.slice ash m csh) (.slice (some ⟨g, 0, none⟩) n cap) ∧ Below w2.heap.size w2 w6 := by
  have hge : w2.heap.size ≤ g := by
    rcases h.owns.2 with ⟨e, _⟩ | ⟨g1, _, _, e, hb, _⟩
    · cases e
    · cases e; exact hb
  exact ⟨h.box.grown0 h.owns hg, h.low.grown hg h.low.size (by intro k hk; cases hk; exact hge)⟩

/-- The cells of a piece of a row. -/
theorem sub_cells {w : World} {a : Addr} {n u m : Nat} {zs : List Int} (h : Row w (some a) n zs) (hu : u + m ≤ n) : ∀ (j : Nat) v, (((zs.drop u).take m).map (Value.int .i64))[j]? = some v → w.cell? ((a.add u).add j) = some v := by
  intro j v hj
  have hlen := h.len
  have hjm : j < m := by
    rcases Nat.lt_or_ge j m with h' | h'
    · exact h'
    · rw [List.getElem?_eq_none (by simp; omega)] at hj; cases hj
  obtain ⟨b, o, e, _, _⟩ := h.get (show 0 < n by omega)
  cases e
  have hc := cells_ints h (u + j) v (by
    rw [← hj]
    simp only [List.getElem?_map, List.getElem?_take_of_lt hjm, List.getElem?_drop])
  rw [addr_plus] at hc
  rw [addr_plus, addr_plus, Nat.add_assoc]
  exact hc

theorem sub_cells' {w : World} {a A : Addr} {n u m e : Nat} {zs : List Int} (hA : (if e = u then some a else some (a.add u)) = some A) (h : Row w (some a) n zs) (hu : u + m ≤ n) (hn : n ≤ e) : ∀ (j : Nat) v, (((zs.drop u).take m).map (Value.int .i64))[j]? = some v → w.cell? (A.add j) = some v := by
  by_cases he : e = u
  · intro j v hj
    have : m = 0 := by omega
    subst this
    simp at hj
  · rw [if_neg he] at hA
    cases hA
    exact sub_cells h hu

theorem sub_len {n u m : Nat} {zs : List Int} (h : zs.length = n) (hu : u + m ≤ n) : (((zs.drop u).take m).map (Value.int .i64)).length = m * 1 := by
  simp; omega

theorem cat_bounds {k B x y p q n : Nat} (hk : k < B) (hp : B * x = p) (hq : B * y = q) (hn : n ≤ k * (x + y)) : k * x + x ≤ p ∧ k * y + y ≤ q ∧ n + x + y ≤ p + q := by
  have h1 : (k + 1) * x ≤ B * x := Nat.mul_le_mul_right _ hk
  have h2 : (k + 1) * y ≤ B * y := Nat.mul_le_mul_right _ hk
  rw [Nat.add_mul, Nat.one_mul] at h1 h2
  rw [Nat.mul_add] at hn
  omega

theorem cat_next {k x y n : Nat} (hn : n ≤ k * (x + y)) : n + x + y ≤ (k + 1) * (x + y) := by
  rw [Nat.add_mul, Nat.one_mul]; omega

end Go.Proofs.YtkgcmpmgaghdhaaGreatDoor
namespace Go.Proofs.YtkgcmpmgaghdhaaGreatDoor
open Go.RowKit

theorem row_none {w : World} {n : Nat} {zs : List Int} (h : Row w none n zs) : n = 0 ∧ zs = [] := by
  obtain ⟨hl, _, h0 | ⟨b, off, hb, _⟩⟩ := h
  · subst h0; exact ⟨rfl, List.length_eq_zero_iff.mp hl⟩
  · cases hb

theorem run_append_nocap {P : Program} {w : World} (base : Nat) (t ty e : TypeId) (i : TypeInfo) (size : Nat) (ht : P.underlying t = some (.slice e)) (hi : P.info? e = some i)
    (v : Value) (n : Nat) (xs : List Value) (hown : w.ownsRow base e size v n xs) (c : Nat) : (Builtin.append_ #[t, t] ty #[v, .slice none 0 c]).run P w = .ok v w := by
  rcases hown.2 with ⟨rfl, rfl⟩ | ⟨g, cap, cur, rfl, _, _, hnc, _⟩
  · simp [Builtin.append_, run_underlying ht, sizeOf, typeInfo, hi, Builtin.lenOf, Builtin.firstCells]
  · simp [Builtin.append_, run_underlying ht, sizeOf, typeInfo, hi, Builtin.lenOf, Builtin.firstCells, hnc, storeCells]

theorem wpList_append_nocap {P : Program} {w : World} {ops : Array Oper} {rest : List Oper} {o : Oper} {a : Act} {Q : Exit → Act → World → Prop} (hgd : o.guard = none) (s x : Operand) (t : TypeId)
    (ho : o.op = .call { callee := .builtin .append, args := #[s, x], argTypes := #[t, t] })
    (base : Nat) (e : TypeId) (i : TypeInfo) (size : Nat) (ht : P.underlying t = some (.slice e)) (hi : P.info? e = some i)
    (v : Value) (n : Nat) (xs : List Value) (hs : a.eval s = v) (hown : w.ownsRow base e size v n xs) (k : Nat) (hk : k = 0) (c : Nat) (hx : a.eval x = .slice none k c)
    (h : wpList P ops Q rest (a.put o.dst v) w) : wpList P ops Q (o :: rest) a w := by
  subst hk
  refine wpList_plain hgd fun K hK => ?_
  have hrun := run_append_nocap (P := P) (w := w) base t o.type e i size ht hi v n xs hown c
  unfold Oper.wp
  simp [execOp, ho, resolve, invoke, builtin, hs, hx, hrun, Result.andThen]
  exact hK _ _ h

end Go.Proofs.YtkgcmpmgaghdhaaGreatDoor
namespace Go.Proofs.YtkgcmpmgaghdhaaGreatDoor
open Go.RowKit

/-- A slice that reads as zs and is nil only where it is empty. -/
def Src (w : World) (s : Option Addr) (n _c : Nat) (zs : List Int) : Prop := Row w s n zs ∧ ((∃ ad, s = some ad) ∨ (s = none ∧ n = 0))
theorem Src.below {w w' : World} {s : Option Addr} {n c B : Nat} {zs : List Int} (h : Src w s n c zs) (hB : w.heap.size ≤ B) (hb : Below B w w') : Src w' s n c zs := ⟨h.1.below hB hb, h.2⟩
theorem Src.some {w : World} {s : Addr} {n c : Nat} {zs : List Int} (h : Row w (some s) n zs) : Src w (some s) n c zs := ⟨h, .inl ⟨s, rfl⟩⟩
theorem Src.none (w : World) : Src w none 0 0 [] := ⟨row_nil _ _, .inr ⟨rfl, rfl⟩⟩
theorem Src.of {w : World} {s : Option Addr} {n c : Nat} {zs : List Int} (h : Row w s n zs) : Src w s n c zs := by
  cases s with
  | some a => exact Src.some h
  | none => exact ⟨h, .inr ⟨rfl, (row_none h).1⟩⟩

def oLw_0 : Oper := { dst := some 3, op := Op.fieldAddr 25 (Operand.tmp 1) 0, type := 0, pos := "laws.go:46", after := #[], guard := none }
def oLw_1 : Oper := { dst := some 4, op := Op.load 4 (Operand.tmp 3), type := 4, pos := "laws.go:46", after := #[{ on := 0, ground := Ground.data }], guard := none }
def oLw_2 : Oper := { dst := some 5, op := Op.buildSlice 23 0 #[], type := 23, pos := "laws.go:46", after := #[], guard := none }
def oLw_3 : Oper := { dst := some 6, op := Op.fieldAddr 25 (Operand.tmp 1) 1, type := 0, pos := "laws.go:46", after := #[], guard := none }
def oLw_4 : Oper := { dst := some 7, op := Op.load 23 (Operand.tmp 6), type := 23, pos := "laws.go:46", after := #[{ on := 3, ground := Ground.data }], guard := none }
def oLw_5 : Oper := { dst := some 8, op := Op.call { callee := Callee.builtin Builtin.append, args := #[Operand.tmp 5, Operand.tmp 7], argTypes := #[23, 23] }, type := 23, pos := "laws.go:46", after := #[{ on := 2, ground := Ground.data }, { on := 4, ground := Ground.data }], guard := none }
def oLw_6 : Oper := { dst := some 9, op := Op.buildSlice 23 0 #[], type := 23, pos := "laws.go:46", after := #[], guard := none }
def oLw_7 : Oper := { dst := some 10, op := Op.fieldAddr 25 (Operand.tmp 1) 2, type := 0, pos := "laws.go:46", after := #[], guard := none }
def oLw_8 : Oper := { dst := some 11, op := Op.load 23 (Operand.tmp 10), type := 23, pos := "laws.go:46", after := #[{ on := 7, ground := Ground.data }], guard := none }
def oLw_9 : Oper := { dst := some 12, op := Op.call { callee := Callee.builtin Builtin.append, args := #[Operand.tmp 9, Operand.tmp 11], argTypes := #[23, 23] }, type := 23, pos := "laws.go:46", after := #[{ on := 6, ground := Ground.data }, { on := 8, ground := Ground.data }, { on := 5, ground := Ground.chain }], guard := none }
def oLw_10 : Oper := { dst := some 13, op := Op.build 25 #[(0, Operand.tmp 4), (1, Operand.tmp 8), (2, Operand.tmp 12)], type := 25, pos := "laws.go:46", after := #[{ on := 1, ground := Ground.data }, { on := 5, ground := Ground.data }, { on := 9, ground := Ground.data }], guard := none }
def oLw_11 : Oper := { dst := none, op := Op.store 25 (Operand.tmp 2) (Operand.tmp 13), type := 0, pos := "laws.go:46", after := #[{ on := 10, ground := Ground.data }, { on := 9, ground := Ground.chain }, { on := 0, ground := Ground.phase }, { on := 1, ground := Ground.phase }, { on := 2, ground := Ground.phase }, { on := 3, ground := Ground.phase }, { on := 4, ground := Ground.phase }, { on := 5, ground := Ground.phase }, { on := 6, ground := Ground.phase }, { on := 7, ground := Ground.phase }, { on := 8, ground := Ground.phase }, { on := 9, ground := Ground.phase }, { on := 10, ground := Ground.phase }], guard := none }

/-- laws.lwArray's region 1. -/
def opsLw : Array Oper := #[oLw_0, oLw_1, oLw_2, oLw_3, oLw_4, oLw_5, oLw_6, oLw_7, oLw_8, oLw_9, oLw_10, oLw_11]

section
variable {P : Program} {ops : Array Oper} {Q : Exit → Act → World → Prop} {md : Region.Mode} {S : World → Prop} {st : Nat}
theorem wpAnyL_two {i j : Nat} {fuel : Nat} {listed : Array Bool} {a : Act} {w : World} (hr : Region.ready md ops listed = [i, j])
    (h : wpOp P ops Q i (fun a' w' => (i ≠ st → S w') ∧ wpAnyL P md ops Q S st fuel (listed.setIfInBounds i true) a' w') a w)
    (h' : wpOp P ops Q j (fun a' w' => (j ≠ st → S w') ∧ wpAnyL P md ops Q S st fuel (listed.setIfInBounds j true) a' w') a w) : wpAnyL P md ops Q S st (fuel + 1) listed a w :=
  ⟨fun h0 => (by rw [hr] at h0; cases h0), fun k hk => (by rw [hr] at hk; simp at hk; rcases hk with rfl | rfl <;> assumption)⟩
end

section
variable {o : Oper} {a : Act}
theorem rgS0 (ho : o.op = .buildSlice 23 0 #[]) (w : World) : (execOp a.eval o).run Tryz.prog w = .ok (.value (.slice (some ⟨w.heap.size, 0, none⟩) 0 0)) (w.alloc (.cells #[] 3)) := by
  unfold execOp
  simp only [ho]
  go_simp
theorem rgBool (x : Operand) (p : Addr) {z : Bool} (ho : o.op = .load 4 x) (hx : a.eval x = .pointer (some p)) (w : World) (hc : w.cell? p = some (.bool z)) : (execOp a.eval o).run Tryz.prog w = .ok (.value (.bool z)) w := by
  unfold execOp
  simp only [ho, hx]
  go_simp
theorem rgStruct (i j k : Nat) {z : Bool} {s1 s2 : Option Addr} {m1 d1 m2 d2 : Nat} (ho : o.op = .build 25 #[(0, .tmp i), (1, .tmp j), (2, .tmp k)]) (h0 : a.eval (.tmp i) = .bool z) (h1 : a.eval (.tmp j) = .slice s1 m1 d1) (h2 : a.eval (.tmp k) = .slice s2 m2 d2) (w : World) : (execOp a.eval o).run Tryz.prog w = .ok (.value (.agg #[.bool z, .slice s1 m1 d1, .slice s2 m2 d2])) w := by
  have h0' : a.tmps[i]?.getD undef = .bool z := by simpa [Act.eval] using h0
  have h1' : a.tmps[j]?.getD undef = .slice s1 m1 d1 := by simpa [Act.eval] using h1
  have h2' : a.tmps[k]?.getD undef = .slice s2 m2 d2 := by simpa [Act.eval] using h2
  unfold execOp
  simp only [ho]
  go_simp
theorem rgStoreA (x y : Operand) (p : Nat) {c c' : Bool} {u1 u2 : Value} {s1 s2 : Option Addr} {m1 d1 m2 d2 : Nat} (ho : o.op = .store 25 x y) (hx : a.eval x = .pointer (some ⟨p, 0, none⟩)) (hy : a.eval y = .agg #[.bool c', .slice s1 m1 d1, .slice s2 m2 d2]) (w : World) (hb : Box w p c u1 u2) : (execOp a.eval o).run Tryz.prog w = .ok .skip (((w.setCell ⟨p, 0, none⟩ (.bool c')).setCell ⟨p, 1, none⟩ (.slice s1 m1 d1)).setCell ⟨p, 2, none⟩ (.slice s2 m2 d2)) := by
  obtain ⟨y0, y1, y2, y3, y4, y5, y6⟩ := hb.all
  unfold execOp
  simp only [ho, hx, hy]
  go_simp
end

theorem row_news {w : World} {s : Addr} {n : Nat} {zs : List Int} (h : Row w (some s) n zs) : ∀ (j : Nat) u, (zs.map (Value.int .i64))[j]? = some u → w.cell? (s.add j) = some u := by
  intro j u hj
  have hl := h.len
  have hjn : j < n := by
    rcases Nat.lt_or_ge j n with h' | h'
    · exact h'
    · rw [List.getElem?_eq_none (by rw [List.length_map]; omega)] at hj
      cases hj
  obtain ⟨b, o, hab, _, hc⟩ := h.get hjn
  cases hab
  have hadd : (⟨b, o, none⟩ : Addr).add j = ⟨b, o + j, none⟩ := by unfold Addr.add; split <;> simp_all
  rw [hadd, hc]
  have hjz : j < zs.length := by omega
  simp [List.getElem?_eq_getElem hjz] at hj
  simp [List.getD, List.getElem?_eq_getElem hjz, hj]

theorem ints_one (zs : List Int) : ∀ u ∈ zs.map (Value.int .i64), u.oneCell' = true := by
  intro u hu
  obtain ⟨x, _, rfl⟩ := List.mem_map.1 hu
  rfl

theorem put_defers {a : Act} {d : Nat} {v : Value} : (a.put (some d) v).defers = a.defers := rfl

theorem wp_append_src {P : Program} (w : World) {o : Oper} {a : Act} {K : Act → World → Prop} {Q : Exit → Act → World → Prop} (s x : Operand) (t : TypeId)
    (ho : o.op = .call { callee := .builtin .append, args := #[s, x], argTypes := #[t, t] })
    (base : Nat) (e : TypeId) (i : TypeInfo) (ht : P.underlying t = some (.slice e)) (hi : P.info? e = some i) (hz : i.zero = some (.int .i64 0))
    (hsize : i.size = 1) (hby : i.bytes = 8)
    (g0 : Nat) (hs : a.eval s = .slice (some ⟨g0, 0, none⟩) 0 0) (hown : w.ownsRow base e 1 (.slice (some ⟨g0, 0, none⟩) 0 0) 0 [])
    (ad : Option Addr) (m c : Nat) (zs : List Int) (hx : a.eval x = .slice ad m c) (hsrc : Src w ad m c zs) (hm : m ≤ 20000) (hbase : base ≤ w.heap.size)
    (h : ∀ g cap w', w'.ownsRow base e 1 (.slice (some ⟨g, 0, none⟩) m cap) m (zs.map (Value.int .i64)) → w.grownBy w' (some g0) → (g = g0 ∨ g = w.heap.size) → K (a.put o.dst (.slice (some ⟨g, 0, none⟩) m cap)) w') : o.wp P a w K Q := by
  obtain ⟨hrow, hk⟩ := hsrc
  have hlen := hrow.len
  rcases hk with ⟨ad, rfl⟩ | ⟨rfl, rfl⟩
  · refine wp_append_some w s x t ho base e i (.int .i64 0) 1 8 ht hi hz hsize hby rfl (by decide) g0 0 0 [] hs hown ad m c (zs.map (Value.int .i64)) hx (by simp [hlen]) (row_news hrow) (ints_one _) (by unfold maxLen; omega) (by omega) hbase ?_
    intro g d w' ho' hg hat
    rw [Nat.zero_add] at ho' ⊢
    exact h g d w' (by simpa using ho') hg hat
  · have hrun := run_append_nocap (P := P) (w := w) base t o.type e i 1 ht hi _ 0 [] hown c
    obtain rfl : zs = [] := List.length_eq_zero_iff.1 hlen
    unfold Oper.wp execOp
    simp only [ho, resolve, invoke, builtin, Sem.run_bind, Sem.run_pure, Result.andThen_ok, List.map_toArray, List.map_cons, List.map_nil, hs, hx, hrun]
    exact h g0 0 w hown ⟨rfl, rfl, rfl, Nat.le_refl _, fun _ _ _ => rfl⟩ (.inl rfl)

/-- How far the two copies have come: 0 not begun, 1 an empty row lies, 2 copied. -/
structure LwS (W : World) (p q : Nat) (c : Bool) (s1 s2 : Option Addr) (n1 n2 c1 c2 : Nat) (sh dt : List Int) (A B gA gB dA dB : Nat) (a : Act) (wx : World) : Prop where
  low : Below W.heap.size W wx
  size : 14 ≤ a.tmps.size
  df : a.defers = []
  e2 : a.eval (.tmp 2) = .pointer (some ⟨q, 0, none⟩)
  e4 : a.eval (.tmp 4) = .bool c
  e7 : a.eval (.tmp 7) = .slice s1 n1 c1
  e11 : a.eval (.tmp 11) = .slice s2 n2 c2
  a1 : A = 1 → a.eval (.tmp 5) = .slice (some ⟨gA, 0, none⟩) 0 0 ∧ wx.ownsRow W.heap.size 3 1 (.slice (some ⟨gA, 0, none⟩) 0 0) 0 []
  a2 : A = 2 → a.eval (.tmp 8) = .slice (some ⟨gA, 0, none⟩) n1 dA ∧ wx.ownsRow W.heap.size 3 1 (.slice (some ⟨gA, 0, none⟩) n1 dA) n1 (sh.map (Value.int .i64))
  b1 : B = 1 → a.eval (.tmp 9) = .slice (some ⟨gB, 0, none⟩) 0 0 ∧ wx.ownsRow W.heap.size 3 1 (.slice (some ⟨gB, 0, none⟩) 0 0) 0 []
  b2 : B = 2 → a.eval (.tmp 12) = .slice (some ⟨gB, 0, none⟩) n2 dB ∧ wx.ownsRow W.heap.size 3 1 (.slice (some ⟨gB, 0, none⟩) n2 dB) n2 (dt.map (Value.int .i64))
  la : A ≠ 0 → gA < wx.heap.size
  lb : B ≠ 0 → gB < wx.heap.size
  ne : A ≠ 0 → B ≠ 0 → gA ≠ gB

section
variable {W wx w' : World} {p q n1 n2 c1 c2 A B gA gB dA dB g d : Nat} {c : Bool} {s1 s2 : Option Addr} {sh dt : List Int} {a : Act}
theorem lw_owns {v : Value} {n : Nat} {xs : List Value} (h : wx.ownsRow W.heap.size 3 1 v n xs) : (wx.alloc (.cells #[] 3)).ownsRow W.heap.size 3 1 v n xs := h.alloc _
theorem lw_grown {n cap k : Nat} {xs : List Value} (h : wx.ownsRow W.heap.size 3 1 (.slice (some ⟨k, 0, none⟩) n cap) n xs) (hg : wx.grownBy w' (some g)) (hk : k ≠ g) : w'.ownsRow W.heap.size 3 1 (.slice (some ⟨k, 0, none⟩) n cap) n xs := by
  refine ⟨h.1, ?_⟩
  rcases h.2 with ⟨e, _⟩ | ⟨g', cap', cur, e, hge, hh, hr⟩
  · cases e
  · cases e
    exact .inr ⟨_, _, cur, rfl, hge, (hg.block _ (lt_of_block hh) (fun e => hk (by simpa using e))).trans hh, hr⟩
theorem lw_low (h : Below W.heap.size W wx) (hg : wx.grownBy w' (some g)) (hge : W.heap.size ≤ g) : Below W.heap.size W w' :=
  ⟨hg.os.trans h.os, hg.tape.trans h.tape, hg.output.trans h.output, Nat.le_trans h.size hg.size, fun k hk => (hg.block k (by have := h.size; omega) (fun e => by have := (Option.some.inj e : k = g); omega)).trans (h.block k hk)⟩
theorem lw_from {n cap k : Nat} {xs : List Value} (h : wx.ownsRow W.heap.size 3 1 (.slice (some ⟨k, 0, none⟩) n cap) n xs) : W.heap.size ≤ k := by
  rcases h.2 with ⟨e, _⟩ | ⟨g', cap', cur, e, hge, hh, hr⟩
  · cases e
  · cases e; exact hge
theorem lw_lt {n cap k : Nat} {xs : List Value} (h : wx.ownsRow W.heap.size 3 1 (.slice (some ⟨k, 0, none⟩) n cap) n xs) : k < wx.heap.size := by
  rcases h.2 with ⟨e, _⟩ | ⟨g', cap', cur, e, hge, hh, hr⟩
  · cases e
  · cases e; exact lt_of_block hh

theorem LwS.buildA (h : LwS W p q c s1 s2 n1 n2 c1 c2 sh dt 0 B gA gB dA dB a wx) : LwS W p q c s1 s2 n1 n2 c1 c2 sh dt 1 B wx.heap.size gB dA dB (a.put (some 5) (.slice (some ⟨wx.heap.size, 0, none⟩) 0 0)) (wx.alloc (.cells #[] 3)) :=
  ⟨h.low.alloc h.low.size _, by rw [put_size]; exact h.size, by rw [put_defers]; exact h.df, by rw [eval_ne (by decide)]; exact h.e2, by rw [eval_ne (by decide)]; exact h.e4, by rw [eval_ne (by decide)]; exact h.e7, by rw [eval_ne (by decide)]; exact h.e11,
    fun _ => ⟨eval_eq (by have := h.size; omega), (Blk.new wx).owns h.low.size⟩, fun e => by omega,
    fun e => ⟨by rw [eval_ne (by decide)]; exact (h.b1 e).1, lw_owns (h.b1 e).2⟩, fun e => ⟨by rw [eval_ne (by decide)]; exact (h.b2 e).1, lw_owns (h.b2 e).2⟩,
    fun _ => by simp, fun e => by have := h.lb e; simp; omega, fun _ e => by have := h.lb e; omega⟩
theorem LwS.buildB (h : LwS W p q c s1 s2 n1 n2 c1 c2 sh dt A 0 gA gB dA dB a wx) : LwS W p q c s1 s2 n1 n2 c1 c2 sh dt A 1 gA wx.heap.size dA dB (a.put (some 9) (.slice (some ⟨wx.heap.size, 0, none⟩) 0 0)) (wx.alloc (.cells #[] 3)) :=
  ⟨h.low.alloc h.low.size _, by rw [put_size]; exact h.size, by rw [put_defers]; exact h.df, by rw [eval_ne (by decide)]; exact h.e2, by rw [eval_ne (by decide)]; exact h.e4, by rw [eval_ne (by decide)]; exact h.e7, by rw [eval_ne (by decide)]; exact h.e11,
    fun e => ⟨by rw [eval_ne (by decide)]; exact (h.a1 e).1, lw_owns (h.a1 e).2⟩, fun e => ⟨by rw [eval_ne (by decide)]; exact (h.a2 e).1, lw_owns (h.a2 e).2⟩,
    fun _ => ⟨eval_eq (by have := h.size; omega), (Blk.new wx).owns h.low.size⟩, fun e => by omega,
    fun e => by have := h.la e; simp; omega, fun _ => by simp, fun e _ => by have := h.la e; omega⟩
theorem LwS.appA (h : LwS W p q c s1 s2 n1 n2 c1 c2 sh dt 1 B gA gB dA dB a wx) (ho : w'.ownsRow W.heap.size 3 1 (.slice (some ⟨g, 0, none⟩) n1 d) n1 (sh.map (Value.int .i64))) (hg : wx.grownBy w' (some gA)) (hat : g = gA ∨ g = wx.heap.size) : LwS W p q c s1 s2 n1 n2 c1 c2 sh dt 2 B g gB d dB (a.put (some 8) (.slice (some ⟨g, 0, none⟩) n1 d)) w' :=
  ⟨lw_low h.low hg (lw_from (h.a1 rfl).2), by rw [put_size]; exact h.size, by rw [put_defers]; exact h.df, by rw [eval_ne (by decide)]; exact h.e2, by rw [eval_ne (by decide)]; exact h.e4, by rw [eval_ne (by decide)]; exact h.e7, by rw [eval_ne (by decide)]; exact h.e11,
    fun e => by omega, fun _ => ⟨eval_eq (by have := h.size; omega), ho⟩,
    fun e => ⟨by rw [eval_ne (by decide)]; exact (h.b1 e).1, lw_grown (h.b1 e).2 hg (h.ne (by omega) (by omega)).symm⟩, fun e => ⟨by rw [eval_ne (by decide)]; exact (h.b2 e).1, lw_grown (h.b2 e).2 hg (h.ne (by omega) (by omega)).symm⟩,
    fun _ => lw_lt ho, fun e => Nat.lt_of_lt_of_le (h.lb e) hg.size, fun _ e => by have h1 := h.lb e; have h2 := h.ne (by omega) e; rcases hat with rfl | rfl <;> omega⟩
theorem LwS.appB (h : LwS W p q c s1 s2 n1 n2 c1 c2 sh dt A 1 gA gB dA dB a wx) (ho : w'.ownsRow W.heap.size 3 1 (.slice (some ⟨g, 0, none⟩) n2 d) n2 (dt.map (Value.int .i64))) (hg : wx.grownBy w' (some gB)) (hat : g = gB ∨ g = wx.heap.size) : LwS W p q c s1 s2 n1 n2 c1 c2 sh dt A 2 gA g dA d (a.put (some 12) (.slice (some ⟨g, 0, none⟩) n2 d)) w' :=
  ⟨lw_low h.low hg (lw_from (h.b1 rfl).2), by rw [put_size]; exact h.size, by rw [put_defers]; exact h.df, by rw [eval_ne (by decide)]; exact h.e2, by rw [eval_ne (by decide)]; exact h.e4, by rw [eval_ne (by decide)]; exact h.e7, by rw [eval_ne (by decide)]; exact h.e11,
    fun e => ⟨by rw [eval_ne (by decide)]; exact (h.a1 e).1, lw_grown (h.a1 e).2 hg (h.ne (by omega) (by omega))⟩, fun e => ⟨by rw [eval_ne (by decide)]; exact (h.a2 e).1, lw_grown (h.a2 e).2 hg (h.ne (by omega) (by omega))⟩,
    fun e => by omega, fun _ => ⟨eval_eq (by have := h.size; omega), ho⟩,
    fun e => Nat.lt_of_lt_of_le (h.la e) hg.size, fun _ => lw_lt ho, fun e _ => by have h1 := h.la e; have h2 := h.ne e (by omega); rcases hat with rfl | rfl <;> omega⟩
end

section
variable {Q : Exit → Act → World → Prop} (W : World) (p q : Nat) (c : Bool) (s1 s2 : Option Addr) (n1 n2 c1 c2 : Nat) (sh dt : List Int)
theorem lw_22 (u1 u2 : Value) (hq : Box W q false u1 u2) (hend : ∀ a g1 g2 d1 d2 wx, LwS W p q c s1 s2 n1 n2 c1 c2 sh dt 2 2 g1 g2 d1 d2 a wx → Q .normal (a.put (some 13) (.agg #[.bool c, .slice (some ⟨g1, 0, none⟩) n1 d1, .slice (some ⟨g2, 0, none⟩) n2 d2])) (((wx.setCell ⟨q, 0, none⟩ (.bool c)).setCell ⟨q, 1, none⟩ (.slice (some ⟨g1, 0, none⟩) n1 d1)).setCell ⟨q, 2, none⟩ (.slice (some ⟨g2, 0, none⟩) n2 d2))) (a : Act) (gA gB dA dB : Nat) (wx : World) (h : LwS W p q c s1 s2 n1 n2 c1 c2 sh dt 2 2 gA gB dA dB a wx) : wpAnyL Tryz.prog .any opsLw Q (fun wx => Below W.heap.size W wx) 11 2 #[true, true, true, true, true, true, true, true, true, true, false, false] a wx := by
  refine wpAnyL_one (i := 10) (by kernel_rfl) ?_
  refine op_wp (o := oLw_10) rfl (wanted_free rfl) ?_
  unfold Oper.wp
  rw [rgStruct (o := oLw_10) 4 8 12 rfl h.e4 (h.a2 rfl).1 (h.b2 rfl).1 wx]
  refine ⟨fun _ => h.low, ?_⟩
  show wpAnyL _ _ _ _ _ _ (0 + 1) _ (Act.put _ (some 13) _) _
  refine wpAnyL_one (i := 11) (by kernel_rfl) ?_
  refine op_wp (o := oLw_11) rfl (wanted_free rfl) ?_
  unfold Oper.wp
  rw [rgStoreA (o := oLw_11) (.tmp 2) (.tmp 13) q (c' := c) (s1 := some ⟨gA, 0, none⟩) (s2 := some ⟨gB, 0, none⟩) (m1 := n1) (d1 := dA) (m2 := n2) (d2 := dB) rfl (by rw [eval_ne (by decide)]; exact h.e2) (eval_eq (by have := h.size; omega)) wx (hq.below (Nat.le_refl _) h.low)]
  refine ⟨fun h => absurd rfl h, ?_⟩
  refine wpAnyL_done (by kernel_rfl) ?_ _
  rw [show oLw_11.dst = none from rfl, put_nothing]
  exact hend a gA gB dA dB wx h

theorem lw_21 (r2 : Src W s2 n2 c2 dt) (h2 : n2 ≤ 20000) (u1 u2 : Value) (hq : Box W q false u1 u2) (hend : ∀ a g1 g2 d1 d2 wx, LwS W p q c s1 s2 n1 n2 c1 c2 sh dt 2 2 g1 g2 d1 d2 a wx → Q .normal (a.put (some 13) (.agg #[.bool c, .slice (some ⟨g1, 0, none⟩) n1 d1, .slice (some ⟨g2, 0, none⟩) n2 d2])) (((wx.setCell ⟨q, 0, none⟩ (.bool c)).setCell ⟨q, 1, none⟩ (.slice (some ⟨g1, 0, none⟩) n1 d1)).setCell ⟨q, 2, none⟩ (.slice (some ⟨g2, 0, none⟩) n2 d2))) (a : Act) (gA gB dA dB : Nat) (wx : World) (h : LwS W p q c s1 s2 n1 n2 c1 c2 sh dt 2 1 gA gB dA dB a wx) : wpAnyL Tryz.prog .any opsLw Q (fun wx => Below W.heap.size W wx) 11 3 #[true, true, true, true, true, true, true, true, true, false, false, false] a wx := by
  obtain ⟨i0, hi, hz0, hz1, hz2⟩ := info_parts info_int
  refine wpAnyL_one (i := 9) (by kernel_rfl) ?_
  ·
    have hL : (#[true, true, true, true, true, true, true, true, true, false, false, false] : Array Bool).setIfInBounds 9 true = #[true, true, true, true, true, true, true, true, true, true, false, false] := by kernel_rfl
    refine op_wp (o := oLw_9) rfl (wanted_free rfl) ?_
    have hrow := r2.below (Nat.le_refl _) h.low
    refine wp_append_src wx (.tmp 9) (.tmp 11) 23 rfl W.heap.size 3 i0 Tryz.underlying23 hi hz0 hz1 hz2 gB (h.b1 rfl).1 (h.b1 rfl).2 s2 n2 c2 dt h.e11 hrow (by omega) h.low.size ?_
    intro g d w' ho hg hat
    have h' := h.appB ho hg hat
    refine ⟨fun _ => h'.low, ?_⟩
    rw [hL]
    exact lw_22 W p q c s1 s2 n1 n2 c1 c2 sh dt u1 u2 hq hend _ _ _ _ _ _ h'

theorem lw_20 (r2 : Src W s2 n2 c2 dt) (h2 : n2 ≤ 20000) (u1 u2 : Value) (hq : Box W q false u1 u2) (hend : ∀ a g1 g2 d1 d2 wx, LwS W p q c s1 s2 n1 n2 c1 c2 sh dt 2 2 g1 g2 d1 d2 a wx → Q .normal (a.put (some 13) (.agg #[.bool c, .slice (some ⟨g1, 0, none⟩) n1 d1, .slice (some ⟨g2, 0, none⟩) n2 d2])) (((wx.setCell ⟨q, 0, none⟩ (.bool c)).setCell ⟨q, 1, none⟩ (.slice (some ⟨g1, 0, none⟩) n1 d1)).setCell ⟨q, 2, none⟩ (.slice (some ⟨g2, 0, none⟩) n2 d2))) (a : Act) (gA gB dA dB : Nat) (wx : World) (h : LwS W p q c s1 s2 n1 n2 c1 c2 sh dt 2 0 gA gB dA dB a wx) : wpAnyL Tryz.prog .any opsLw Q (fun wx => Below W.heap.size W wx) 11 4 #[true, true, true, true, true, true, false, true, true, false, false, false] a wx := by
  obtain ⟨i0, hi, hz0, hz1, hz2⟩ := info_parts info_int
  refine wpAnyL_one (i := 6) (by kernel_rfl) ?_
  ·
    have hL : (#[true, true, true, true, true, true, false, true, true, false, false, false] : Array Bool).setIfInBounds 6 true = #[true, true, true, true, true, true, true, true, true, false, false, false] := by kernel_rfl
    refine op_wp (o := oLw_6) rfl (wanted_free rfl) ?_
    unfold Oper.wp
    rw [rgS0 (o := oLw_6) rfl wx]
    refine ⟨fun _ => h.buildB.low, ?_⟩
    rw [hL]
    exact lw_21 W p q c s1 s2 n1 n2 c1 c2 sh dt r2 h2 u1 u2 hq hend _ _ _ _ _ _ h.buildB

theorem lw_11 (r1 : Src W s1 n1 c1 sh) (r2 : Src W s2 n2 c2 dt) (h1 : n1 ≤ 20000) (h2 : n2 ≤ 20000) (u1 u2 : Value) (hq : Box W q false u1 u2) (hend : ∀ a g1 g2 d1 d2 wx, LwS W p q c s1 s2 n1 n2 c1 c2 sh dt 2 2 g1 g2 d1 d2 a wx → Q .normal (a.put (some 13) (.agg #[.bool c, .slice (some ⟨g1, 0, none⟩) n1 d1, .slice (some ⟨g2, 0, none⟩) n2 d2])) (((wx.setCell ⟨q, 0, none⟩ (.bool c)).setCell ⟨q, 1, none⟩ (.slice (some ⟨g1, 0, none⟩) n1 d1)).setCell ⟨q, 2, none⟩ (.slice (some ⟨g2, 0, none⟩) n2 d2))) (a : Act) (gA gB dA dB : Nat) (wx : World) (h : LwS W p q c s1 s2 n1 n2 c1 c2 sh dt 1 1 gA gB dA dB a wx) : wpAnyL Tryz.prog .any opsLw Q (fun wx => Below W.heap.size W wx) 11 4 #[true, true, true, true, true, false, true, true, true, false, false, false] a wx := by
  obtain ⟨i0, hi, hz0, hz1, hz2⟩ := info_parts info_int
  refine wpAnyL_one (i := 5) (by kernel_rfl) ?_
  ·
    have hL : (#[true, true, true, true, true, false, true, true, true, false, false, false] : Array Bool).setIfInBounds 5 true = #[true, true, true, true, true, true, true, true, true, false, false, false] := by kernel_rfl
    refine op_wp (o := oLw_5) rfl (wanted_free rfl) ?_
    have hrow := r1.below (Nat.le_refl _) h.low
    refine wp_append_src wx (.tmp 5) (.tmp 7) 23 rfl W.heap.size 3 i0 Tryz.underlying23 hi hz0 hz1 hz2 gA (h.a1 rfl).1 (h.a1 rfl).2 s1 n1 c1 sh h.e7 hrow (by omega) h.low.size ?_
    intro g d w' ho hg hat
    have h' := h.appA ho hg hat
    refine ⟨fun _ => h'.low, ?_⟩
    rw [hL]
    exact lw_21 W p q c s1 s2 n1 n2 c1 c2 sh dt r2 h2 u1 u2 hq hend _ _ _ _ _ _ h'

theorem lw_10 (r1 : Src W s1 n1 c1 sh) (r2 : Src W s2 n2 c2 dt) (h1 : n1 ≤ 20000) (h2 : n2 ≤ 20000) (u1 u2 : Value) (hq : Box W q false u1 u2) (hend : ∀ a g1 g2 d1 d2 wx, LwS W p q c s1 s2 n1 n2 c1 c2 sh dt 2 2 g1 g2 d1 d2 a wx → Q .normal (a.put (some 13) (.agg #[.bool c, .slice (some ⟨g1, 0, none⟩) n1 d1, .slice (some ⟨g2, 0, none⟩) n2 d2])) (((wx.setCell ⟨q, 0, none⟩ (.bool c)).setCell ⟨q, 1, none⟩ (.slice (some ⟨g1, 0, none⟩) n1 d1)).setCell ⟨q, 2, none⟩ (.slice (some ⟨g2, 0, none⟩) n2 d2))) (a : Act) (gA gB dA dB : Nat) (wx : World) (h : LwS W p q c s1 s2 n1 n2 c1 c2 sh dt 1 0 gA gB dA dB a wx) : wpAnyL Tryz.prog .any opsLw Q (fun wx => Below W.heap.size W wx) 11 5 #[true, true, true, true, true, false, false, true, true, false, false, false] a wx := by
  obtain ⟨i0, hi, hz0, hz1, hz2⟩ := info_parts info_int
  refine wpAnyL_two (i := 5) (j := 6) (by kernel_rfl) ?_ ?_
  ·
    have hL : (#[true, true, true, true, true, false, false, true, true, false, false, false] : Array Bool).setIfInBounds 5 true = #[true, true, true, true, true, true, false, true, true, false, false, false] := by kernel_rfl
    refine op_wp (o := oLw_5) rfl (wanted_free rfl) ?_
    have hrow := r1.below (Nat.le_refl _) h.low
    refine wp_append_src wx (.tmp 5) (.tmp 7) 23 rfl W.heap.size 3 i0 Tryz.underlying23 hi hz0 hz1 hz2 gA (h.a1 rfl).1 (h.a1 rfl).2 s1 n1 c1 sh h.e7 hrow (by omega) h.low.size ?_
    intro g d w' ho hg hat
    have h' := h.appA ho hg hat
    refine ⟨fun _ => h'.low, ?_⟩
    rw [hL]
    exact lw_20 W p q c s1 s2 n1 n2 c1 c2 sh dt r2 h2 u1 u2 hq hend _ _ _ _ _ _ h'
  ·
    have hL : (#[true, true, true, true, true, false, false, true, true, false, false, false] : Array Bool).setIfInBounds 6 true = #[true, true, true, true, true, false, true, true, true, false, false, false] := by kernel_rfl
    refine op_wp (o := oLw_6) rfl (wanted_free rfl) ?_
    unfold Oper.wp
    rw [rgS0 (o := oLw_6) rfl wx]
    refine ⟨fun _ => h.buildB.low, ?_⟩
    rw [hL]
    exact lw_11 W p q c s1 s2 n1 n2 c1 c2 sh dt r1 r2 h1 h2 u1 u2 hq hend _ _ _ _ _ _ h.buildB

theorem lw_01 (r1 : Src W s1 n1 c1 sh) (r2 : Src W s2 n2 c2 dt) (h1 : n1 ≤ 20000) (h2 : n2 ≤ 20000) (u1 u2 : Value) (hq : Box W q false u1 u2) (hend : ∀ a g1 g2 d1 d2 wx, LwS W p q c s1 s2 n1 n2 c1 c2 sh dt 2 2 g1 g2 d1 d2 a wx → Q .normal (a.put (some 13) (.agg #[.bool c, .slice (some ⟨g1, 0, none⟩) n1 d1, .slice (some ⟨g2, 0, none⟩) n2 d2])) (((wx.setCell ⟨q, 0, none⟩ (.bool c)).setCell ⟨q, 1, none⟩ (.slice (some ⟨g1, 0, none⟩) n1 d1)).setCell ⟨q, 2, none⟩ (.slice (some ⟨g2, 0, none⟩) n2 d2))) (a : Act) (gA gB dA dB : Nat) (wx : World) (h : LwS W p q c s1 s2 n1 n2 c1 c2 sh dt 0 1 gA gB dA dB a wx) : wpAnyL Tryz.prog .any opsLw Q (fun wx => Below W.heap.size W wx) 11 5 #[true, true, false, true, true, false, true, true, true, false, false, false] a wx := by
  obtain ⟨i0, hi, hz0, hz1, hz2⟩ := info_parts info_int
  refine wpAnyL_one (i := 2) (by kernel_rfl) ?_
  ·
    have hL : (#[true, true, false, true, true, false, true, true, true, false, false, false] : Array Bool).setIfInBounds 2 true = #[true, true, true, true, true, false, true, true, true, false, false, false] := by kernel_rfl
    refine op_wp (o := oLw_2) rfl (wanted_free rfl) ?_
    unfold Oper.wp
    rw [rgS0 (o := oLw_2) rfl wx]
    refine ⟨fun _ => h.buildA.low, ?_⟩
    rw [hL]
    exact lw_11 W p q c s1 s2 n1 n2 c1 c2 sh dt r1 r2 h1 h2 u1 u2 hq hend _ _ _ _ _ _ h.buildA

theorem lw_00 (r1 : Src W s1 n1 c1 sh) (r2 : Src W s2 n2 c2 dt) (h1 : n1 ≤ 20000) (h2 : n2 ≤ 20000) (u1 u2 : Value) (hq : Box W q false u1 u2) (hend : ∀ a g1 g2 d1 d2 wx, LwS W p q c s1 s2 n1 n2 c1 c2 sh dt 2 2 g1 g2 d1 d2 a wx → Q .normal (a.put (some 13) (.agg #[.bool c, .slice (some ⟨g1, 0, none⟩) n1 d1, .slice (some ⟨g2, 0, none⟩) n2 d2])) (((wx.setCell ⟨q, 0, none⟩ (.bool c)).setCell ⟨q, 1, none⟩ (.slice (some ⟨g1, 0, none⟩) n1 d1)).setCell ⟨q, 2, none⟩ (.slice (some ⟨g2, 0, none⟩) n2 d2))) (a : Act) (gA gB dA dB : Nat) (wx : World) (h : LwS W p q c s1 s2 n1 n2 c1 c2 sh dt 0 0 gA gB dA dB a wx) : wpAnyL Tryz.prog .any opsLw Q (fun wx => Below W.heap.size W wx) 11 6 #[true, true, false, true, true, false, false, true, true, false, false, false] a wx := by
  obtain ⟨i0, hi, hz0, hz1, hz2⟩ := info_parts info_int
  refine wpAnyL_two (i := 2) (j := 6) (by kernel_rfl) ?_ ?_
  ·
    have hL : (#[true, true, false, true, true, false, false, true, true, false, false, false] : Array Bool).setIfInBounds 2 true = #[true, true, true, true, true, false, false, true, true, false, false, false] := by kernel_rfl
    refine op_wp (o := oLw_2) rfl (wanted_free rfl) ?_
    unfold Oper.wp
    rw [rgS0 (o := oLw_2) rfl wx]
    refine ⟨fun _ => h.buildA.low, ?_⟩
    rw [hL]
    exact lw_10 W p q c s1 s2 n1 n2 c1 c2 sh dt r1 r2 h1 h2 u1 u2 hq hend _ _ _ _ _ _ h.buildA
  ·
    have hL : (#[true, true, false, true, true, false, false, true, true, false, false, false] : Array Bool).setIfInBounds 6 true = #[true, true, false, true, true, false, true, true, true, false, false, false] := by kernel_rfl
    refine op_wp (o := oLw_6) rfl (wanted_free rfl) ?_
    unfold Oper.wp
    rw [rgS0 (o := oLw_6) rfl wx]
    refine ⟨fun _ => h.buildB.low, ?_⟩
    rw [hL]
    exact lw_01 W p q c s1 s2 n1 n2 c1 c2 sh dt r1 r2 h1 h2 u1 u2 hq hend _ _ _ _ _ _ h.buildB

theorem regionLw (r1 : Src W s1 n1 c1 sh) (r2 : Src W s2 n2 c2 dt) (h1 : n1 ≤ 20000) (h2 : n2 ≤ 20000) (u1 u2 : Value) (hq : Box W q false u1 u2) (hend : ∀ a g1 g2 d1 d2 wx, LwS W p q c s1 s2 n1 n2 c1 c2 sh dt 2 2 g1 g2 d1 d2 a wx → Q .normal (a.put (some 13) (.agg #[.bool c, .slice (some ⟨g1, 0, none⟩) n1 d1, .slice (some ⟨g2, 0, none⟩) n2 d2])) (((wx.setCell ⟨q, 0, none⟩ (.bool c)).setCell ⟨q, 1, none⟩ (.slice (some ⟨g1, 0, none⟩) n1 d1)).setCell ⟨q, 2, none⟩ (.slice (some ⟨g2, 0, none⟩) n2 d2))) (a : Act) (hsz : 14 ≤ a.tmps.size) (hdf : a.defers = []) (h1p : a.eval (.tmp 1) = .pointer (some ⟨p, 0, none⟩)) (h2q : a.eval (.tmp 2) = .pointer (some ⟨q, 0, none⟩)) (hp : Box W p c (.slice s1 n1 c1) (.slice s2 n2 c2)) (hQ : ∀ c a (d : Nat) v w, Q (.panic c) (a.put (some d) v) w → Q (.panic c) a w) :
    (Code.region 1 opsLw true).wp Tryz.prog Q a W := by
  have hb0 : Below W.heap.size W W.drew := (Below.refl _ _).drew
  have hS0 : (fun wx => Below W.heap.size W wx) W.drew := hb0
  have hS : ∀ w, Below W.heap.size W w → _ := fun w hw => (hp.below (Nat.le_refl _) hw).cells
  refine wp_region_L (fun wx => Below W.heap.size W wx) 11 (by kernel_rfl) ?_
  show wpAnyL _ _ _ _ _ _ (11 + 1) _ _ W.drew
  refine wpAnyL_put 0 3 (.pointer (some ⟨p, 0, none⟩)) (oi := oLw_0) rfl rfl (by kernel_rfl) (by kernel_rfl) (by kernel_rfl) (by kernel_rfl) hQ (wanted_free rfl) (fun w hw => rgF0 (.tmp 1) p rfl h1p w) hS0 ?_
  refine wpAnyL_put 1 4 (.bool c) (oi := oLw_1) rfl rfl (by kernel_rfl) (by kernel_rfl) (by kernel_rfl) (by kernel_rfl) hQ (wanted_free rfl) (fun w hw => rgBool (.tmp 3) _ rfl (eval_eq (by omega)) w (hS w hw).1) hS0 ?_
  refine wpAnyL_put 3 6 (.pointer (some ⟨p, 1, none⟩)) (oi := oLw_3) rfl rfl (by kernel_rfl) (by kernel_rfl) (by kernel_rfl) (by kernel_rfl) hQ (wanted_free rfl) (fun w hw => rgF1 (.tmp 1) p rfl (by rw [eval_ne (by decide), eval_ne (by decide)]; exact h1p) w) hS0 ?_
  refine wpAnyL_put 4 7 (.slice s1 n1 c1) (oi := oLw_4) rfl rfl (by kernel_rfl) (by kernel_rfl) (by kernel_rfl) (by kernel_rfl) hQ (wanted_free rfl) (fun w hw => rgL (.tmp 6) _ rfl (eval_eq (by rw [put_size, put_size]; omega)) w (hS w hw).2.1) hS0 ?_
  refine wpAnyL_put 7 10 (.pointer (some ⟨p, 2, none⟩)) (oi := oLw_7) rfl rfl (by kernel_rfl) (by kernel_rfl) (by kernel_rfl) (by kernel_rfl) hQ (wanted_free rfl) (fun w hw => rgF2 (.tmp 1) p rfl (by rw [eval_ne (by decide), eval_ne (by decide), eval_ne (by decide), eval_ne (by decide)]; exact h1p) w) hS0 ?_
  refine wpAnyL_put 8 11 (.slice s2 n2 c2) (oi := oLw_8) rfl rfl (by kernel_rfl) (by kernel_rfl) (by kernel_rfl) (by kernel_rfl) hQ (wanted_free rfl) (fun w hw => rgL (.tmp 10) _ rfl (eval_eq (by rw [put_size, put_size, put_size, put_size]; omega)) w (hS w hw).2.2) hS0 ?_
  have hL : ((((((Array.replicate opsLw.size false).setIfInBounds 0 true).setIfInBounds 1 true).setIfInBounds 3 true).setIfInBounds 4 true).setIfInBounds 7 true).setIfInBounds 8 true = #[true, true, false, true, true, false, false, true, true, false, false, false] := by kernel_rfl
  rw [hL]
  refine lw_00 W p q c s1 s2 n1 n2 c1 c2 sh dt r1 r2 h1 h2 u1 u2 hq hend _ 0 0 0 0 _ ⟨hb0, by rw [put_size, put_size, put_size, put_size, put_size, put_size]; exact hsz, by rw [put_defers, put_defers, put_defers, put_defers, put_defers, put_defers]; exact hdf, (by rw [eval_ne (by decide), eval_ne (by decide), eval_ne (by decide), eval_ne (by decide), eval_ne (by decide), eval_ne (by decide)]; exact h2q), (by rw [eval_ne (by decide), eval_ne (by decide), eval_ne (by decide), eval_ne (by decide)]; exact eval_eq (by rw [put_size]; omega)), (by rw [eval_ne (by decide), eval_ne (by decide)]; exact eval_eq (by rw [put_size, put_size, put_size]; omega)), (eval_eq (by rw [put_size, put_size, put_size, put_size, put_size]; omega)), fun e => by omega, fun e => by omega, fun e => by omega, fun e => by omega, fun e => absurd rfl e, fun e => absurd rfl e, fun e => absurd rfl e⟩
end

end Go.Proofs.YtkgcmpmgaghdhaaGreatDoor
namespace Go.Proofs.YtkgcmpmgaghdhaaGreatDoor
open Go.RowKit

set_option maxHeartbeats 2000000 in
theorem lwArray_src (c : Bool) (s1 s2 : Option Addr) (n1 n2 c1 c2 : Nat) (sh dt : List Int) (w : World) (r1 : Src w s1 n1 c1 sh) (r2 : Src w s2 n2 c2 dt) (h1 : n1 ≤ 20000) (h2 : n2 ≤ 20000) :
    Calls Tryz.prog 11 #[.agg #[.bool c, .slice s1 n1 c1, .slice s2 n2 c2]] w fun e w' => ∃ g1 g2 d1 d2, e = .returned (.agg #[.bool c, .slice (some ⟨g1, 0, none⟩) n1 d1, .slice (some ⟨g2, 0, none⟩) n2 d2]) ∧ Own w' w.heap.size (some ⟨g1, 0, none⟩) n1 sh ∧ Own w' w.heap.size (some ⟨g2, 0, none⟩) n2 dt ∧ n1 ≤ d1 ∧ n2 ≤ d2 ∧ Below w.heap.size w w' := by
  obtain ⟨W0, hW0⟩ : ∃ W0, W0 = (w.alloc (.cells #[.bool c, .slice s1 n1 c1, .slice s2 n2 c2] 25)).alloc (.cells #[.bool false, .slice none 0 0, .slice none 0 0] 25) := ⟨_, rfl⟩
  have hz0 : W0.heap.size = w.heap.size + 1 + 1 := by rw [hW0]; simp
  have HB0 : Hid (Below w.heap.size w W0) := by rw [hW0]; exact ((Below.refl _ w).alloc (Nat.le_refl _) _).alloc (by simp) _
  have HX0 : Hid (Box W0 w.heap.size c (.slice s1 n1 c1) (.slice s2 n2 c2)) := by
    rw [hW0]; exact (Box.new w _ _ _).below (Nat.le_refl _) ((Below.refl _ _).alloc (Nat.le_refl _) _)
  have HX1 : Hid (Box W0 (w.heap.size + 1) false (.slice none 0 0) (.slice none 0 0)) := by
    rw [hW0]
    have := Box.new (w.alloc (.cells #[.bool c, .slice s1 n1 c1, .slice s2 n2 c2] 25)) false (.slice none 0 0) (.slice none 0 0)
    rw [World.size_alloc] at this
    exact this
  have HW0 := hide hW0
  have R1 := hide (r1.below (Nat.le_refl _) (unhide HB0))
  have R2 := hide (r2.below (Nat.le_refl _) (unhide HB0))
  have HZ0 := hide hz0
  clear hW0 hz0 r1 r2
  go_enter Tryz.func11, Tryz.ntmps11
  go_upto_region 1 with fail
  rw [← unhide HW0]
  refine regionLw W0 w.heap.size (w.heap.size + 1) c s1 s2 n1 n2 c1 c2 sh dt (unhide R1) (unhide R2) h1 h2 _ _ (unhide HX1) ?_ _ (by simp) rfl rfl rfl (unhide HX0) ?_
  · intro a g1 g2 d1 d2 wx hlw
    apply_assumption
    have hv2 : (a.put (some 13) (.agg #[.bool c, .slice (some ⟨g1, 0, none⟩) n1 d1, .slice (some ⟨g2, 0, none⟩) n2 d2])).eval (.tmp 2) = .pointer (some ⟨w.heap.size + 1, 0, none⟩) := by rw [eval_ne (by decide)]; exact hlw.e2
    obtain ⟨a', ha'⟩ : ∃ a', a' = a.put (some 13) (.agg #[.bool c, .slice (some ⟨g1, 0, none⟩) n1 d1, .slice (some ⟨g2, 0, none⟩) n2 d2]) := ⟨_, rfl⟩
    have hdf : a'.defers = [] := by rw [ha', put_defers]; exact hlw.df
    rw [← ha'] at hv2 ⊢
    have hv3 : a'.tmps[2]?.getD undef = .pointer (some ⟨w.heap.size + 1, 0, none⟩) := by simpa [Act.eval] using hv2
    clear ha'
    have hb := ((unhide HX1).below (Nat.le_refl _) hlw.low).sets (c' := c) (u1 := .slice (some ⟨g1, 0, none⟩) n1 d1) (u2 := .slice (some ⟨g2, 0, none⟩) n2 d2)
    obtain ⟨r0, r1, r2, _, _, _⟩ := hb.all
    have hbx := (unhide HX1).below (Nat.le_refl _) hlw.low
    have hz0 := unhide HZ0
    have o1 := (hlw.a2 rfl).2
    have o2 := (hlw.b2 rfl).2
    have hk1 : n1 ≤ d1 := by
      rcases o1.2 with ⟨e, _⟩ | ⟨g', cap', cur, e, _, _, hr, _⟩
      · cases e
      · cases e; exact hr
    have hk2 : n2 ≤ d2 := by
      rcases o2.2 with ⟨e, _⟩ | ⟨g', cap', cur, e, _, _, hr, _⟩
      · cases e
      · cases e; exact hr
    obtain ⟨_, _, e1, q1⟩ := Own.of_owns o1 (by omega)
    obtain ⟨_, _, e2, q2⟩ := Own.of_owns o2 (by omega)
    cases e1
    cases e2
    have hn1 : ∀ k, At (some ⟨g1, 0, none⟩) n1 k → k ≠ w.heap.size + 1 := fun k hk => q1.row.notBox hbx hk
    have hn2 : ∀ k, At (some ⟨g2, 0, none⟩) n2 k → k ≠ w.heap.size + 1 := fun k hk => q2.row.notBox hbx hk
    have hlow := (unhide HB0).trans (hlw.low.mono (by omega))
    go_wp2_with fail
    refine bodyPost_ret (v := .agg #[.bool c, .slice (some ⟨g1, 0, none⟩) n1 d1, .slice (some ⟨g2, 0, none⟩) n2 d2]) (by simp [results, Tryz.results11, go_sem, hv3, r0, r1, r2]) hdf ?_
    exact ⟨g1, g2, d1, d2, rfl, (((q1.mono (by omega)).other (q := ⟨w.heap.size + 1, 0, none⟩) hn1 _).other (q := ⟨w.heap.size + 1, 1, none⟩) hn1 _).other (q := ⟨w.heap.size + 1, 2, none⟩) hn1 _, (((q2.mono (by omega)).other (q := ⟨w.heap.size + 1, 0, none⟩) hn2 _).other (q := ⟨w.heap.size + 1, 1, none⟩) hn2 _).other (q := ⟨w.heap.size + 1, 2, none⟩) hn2 _, hk1, hk2, ((hlow.setCell (p := ⟨w.heap.size + 1, 0, none⟩) (by simp) _).setCell (p := ⟨w.heap.size + 1, 1, none⟩) (by simp) _).setCell (p := ⟨w.heap.size + 1, 2, none⟩) (by simp) _⟩
  · exact fun _ _ _ _ _ h => h

end Go.Proofs.YtkgcmpmgaghdhaaGreatDoor
namespace Go.Proofs.YtkgcmpmgaghdhaaGreatDoor
open Go.RowKit

/-- What an impl function's answer is. -/
def GivesOwn (w : World) (r : Ans) (e : Ending) (w' : World) : Prop := ∃ b1 m1 d1 b2 m2 d2, e = .returned (.tuple #[.agg #[.bool r.c, .slice b1 m1 d1, .slice b2 m2 d2], .int .i64 r.code]) ∧ Own w' w.heap.size b1 m1 r.sh ∧ Own w' w.heap.size b2 m2 r.dt ∧ Apart b1 m1 b2 m2 ∧ Below w.heap.size w w'

theorem own_none (w : World) (B : Nat) (a : Option Addr) : Own w B a 0 [] := ⟨rfl, by omega, .inl rfl⟩

theorem gives_none {w w' : World} {code : Int} (h : Below w.heap.size w w') : GivesOwn w (noAns code) (.returned (.tuple #[.agg #[.bool false, .slice none 0 0, .slice none 0 0], .int .i64 code])) w' :=
  ⟨none, 0, 0, none, 0, 0, rfl, own_none _ _ _, own_none _ _ _, fun _ h => absurd rfl h.1, h⟩

theorem arr_parts {c : Bool} {sh dt : List Int} (h : arrOk c sh dt = true) : shapeB sh = true ∧ countOf sh = (dt.length : Int) := by
  unfold arrOk at h
  simp only [Bool.and_eq_true, decide_eq_true_eq] at h
  refine ⟨?_, h.2.1⟩
  unfold shapeB
  rw [decide_eq_true h.1, decide_eq_true (by omega)]; rfl

theorem firstCode_zero {f : Nat → Int × Int} {n : Nat} : firstCode f n = 0 ↔ ∀ k, k < n → (f k).2 = 0 := by
  induction n with
  | zero => exact ⟨fun _ k hk => absurd hk (Nat.not_lt_zero _), fun _ => rfl⟩
  | succ n ih =>
    constructor
    · intro h
      have h0 : firstCode f n = 0 := by
        by_cases h0 : firstCode f n = 0
        · exact h0
        · simp only [firstCode, if_neg h0] at h; exact h
      have h1 : (f n).2 = 0 := by simpa only [firstCode, if_pos h0] using h
      intro k hk
      by_cases hkn : k = n
      · subst hkn; exact h1
      · exact ih.mp h0 k (by omega)
    · intro h
      exact code_step (ih.mpr fun k hk => h k (by omega)) (h n (by omega))

end Go.Proofs.YtkgcmpmgaghdhaaGreatDoor
namespace Go.Proofs.YtkgcmpmgaghdhaaGreatDoor
open Go.RowKit

set_option maxHeartbeats 2000000 in
theorem lwScalar_any (v : Int) (w : World) :
    Calls Tryz.prog 14 #[.int .i64 v] w fun e w' => ∃ g, e = .returned (.agg #[.bool false, .slice none 0 0, .slice (some ⟨g, 0, none⟩) 1 1]) ∧ Own w' w.heap.size (some ⟨g, 0, none⟩) 1 [v] ∧ Below w.heap.size w w' := by
  have HP0 : Hid (Box (w.alloc (.cells #[.bool false, .slice none 0 0, .slice none 0 0] 25)) w.heap.size false (.slice none 0 0) (.slice none 0 0)) := Box.new w _ _ _
  obtain ⟨y0, y1, y2, y3, y4, y5, y6⟩ := (unhide HP0).all
  go_enter Tryz.func14, Tryz.ntmps14
  go_wp2_with fail
  have hx := Box.new w false (.slice none 0 0) (.slice (some ⟨w.heap.size + 1, 0, none⟩) 1 1)
  obtain ⟨r0, r1, r2, _, _, _⟩ := (hx.below (Nat.le_refl _) ((Below.refl _ _).alloc (Nat.le_refl _) (.cells #[.int .i64 v] 3))).all
  refine bodyPost_ret (v := .agg #[.bool false, .slice none 0 0, .slice (some ⟨w.heap.size + 1, 0, none⟩) 1 1]) (by simp [results, Tryz.results14, go_sem]) rfl ⟨w.heap.size + 1, rfl, ?_, ((Below.refl _ _).alloc (Nat.le_refl _) _).alloc (by simp) _⟩
  have hb := World.alloc_heap_new (w.alloc (.cells #[.bool false, .slice none 0 0, .slice (some ⟨w.heap.size + 1, 0, none⟩) 1 1] 25)) (.cells #[.int .i64 v] 3)
  rw [World.size_alloc] at hb
  exact (show Blk _ (w.heap.size + 1) [v] from hb).own rfl (by omega) (by omega)

end Go.Proofs.YtkgcmpmgaghdhaaGreatDoor
namespace Go.Proofs.YtkgcmpmgaghdhaaGreatDoor
open Go.RowKit

/-- A variable of a law that holds an array: its box and what its two slices read as. -/
structure Var (W : World) (p : Nat) (c : Bool) (e1 : Option Addr) (k1 f1 : Nat) (e2 : Option Addr) (k2 f2 : Nat) (sh dt : List Int) : Prop where
  box : Box W p c (.slice e1 k1 f1) (.slice e2 k2 f2)
  r1 : Row W e1 k1 sh
  r2 : Row W e2 k2 dt

section
variable {W V : World} {p : Nat} {c : Bool} {e1 e2 : Option Addr} {k1 f1 k2 f2 : Nat} {sh dt : List Int}
theorem Var.below (h : Var W p c e1 k1 f1 e2 k2 f2 sh dt) (hb : Below W.heap.size W V) : Var V p c e1 k1 f1 e2 k2 f2 sh dt :=
  ⟨h.box.below (Nat.le_refl _) hb, h.r1.below (Nat.le_refl _) hb, h.r2.below (Nat.le_refl _) hb⟩
theorem Var.cells (h : Var W p c e1 k1 f1 e2 k2 f2 sh dt) : W.cell? ⟨p, 0, none⟩ = some (.bool c) ∧ W.cell? ⟨p, 1, none⟩ = some (.slice e1 k1 f1) ∧ W.cell? ⟨p, 2, none⟩ = some (.slice e2 k2 f2) := h.box.cells
/-- A new variable, its box laid last. -/
theorem Var.new (r1 : Row W e1 k1 sh) (r2 : Row W e2 k2 dt) : Var (W.alloc (.cells #[.bool c, .slice e1 k1 f1, .slice e2 k2 f2] 25 (0, 0))) W.heap.size c e1 k1 f1 e2 k2 f2 sh dt :=
  ⟨Box.new W _ _ _, r1.alloc _, r2.alloc _⟩
/-- .. or written into a box that lies. -/
theorem Var.put {x : Bool} {a1 a2 : Option Addr} {l1 l2 m1 m2 : Nat} (h : Box W p x (.slice a1 l1 m1) (.slice a2 l2 m2)) (r1 : Row W e1 k1 sh) (r2 : Row W e2 k2 dt) : Var (((W.setCell ⟨p, 0, none⟩ (.bool c)).setCell ⟨p, 1, none⟩ (.slice e1 k1 f1)).setCell ⟨p, 2, none⟩ (.slice e2 k2 f2)) p c e1 k1 f1 e2 k2 f2 sh dt :=
  ⟨h.sets, r1.sets h _ _ _, r2.sets h _ _ _⟩
end

end Go.Proofs.YtkgcmpmgaghdhaaGreatDoor
namespace Go.Proofs.YtkgcmpmgaghdhaaGreatDoor
open Go.RowKit

/-- A function that hands out N rounds, each with its number and a value of which H says what lies there, and that keeps cells of its own from one round to the next. T: the blocks that a round may change. -/
def SeqCells (m : Nat) (P : Program) (g : Nat) (lb : Array Value) (N : Nat) (H : Nat → Value → World → Prop) (T : Nat → Prop) (w0 : World) : Prop :=
  ∀ (l : Nat) (J : Nat → World → Prop) (W : World), Below w0.heap.size w0 W → w0.heap.size + 2 ≤ W.heap.size → (∀ k, T k → k < W.heap.size) → (∀ k A B, J k A → Below W.heap.size A B → J k B) →
    (∀ k v W1, k < N → J k W1 → H k v W1 → YieldAt Fence.wide (m - 1) P l #[.int .i64 (k : Nat), v] W1 fun e W' => e = .returned (.bool true) ∧ J (k + 1) W' ∧ But T W1 W') →
    J 0 W → CallsIn Fence.wide m P g (#[.func (.yield l) #[] #[]] ++ lb) W fun e W' => (∃ v, e = .returned v) ∧ J N W'

/-- How a round's body is left: off its end, with what it wrote in S alone. -/
def roundEnd (S : Nat → Prop) (I : World → Prop) (W : World) : Exit → Act → World → Prop
  | .normal, _, W' => But S W W' ∧ I W'
  | _, _, _ => False

theorem But.putObj {S : Nat → Prop} (W : World) {l : Nat} (hl : S l) (o : Obj) : But S W (W.putObj l o) :=
  ⟨rfl, rfl, rfl, by simp, fun k _ hn => World.putObj_heap_other (fun e => hn (e ▸ hl))⟩

theorem below_putObj {B : Nat} (W : World) {l : Nat} (hl : B ≤ l) (o : Obj) : Below B W (W.putObj l o) :=
  ⟨rfl, rfl, rfl, by simp, fun k hk => World.putObj_heap_other (by omega)⟩

/-- A range over such a function whose body never leaves it. -/
theorem range_cells {P : Program} {m N : Nat} {g : Operand} {ps : Array Tmp} {assign body : Code} {Q : Exit → Act → World → Prop} {a : Act} {w : World}
    {gf : Nat} {lb : Array Value} (hg : a.eval g = .func (.func gf) #[] lb) (eg : ∀ args w, (callFunc gf args).run P w = .ok (.enter gf args) w) (hps : ps.size = 2)
    {H : Nat → Value → World → Prop} (S : Nat → Prop) (hS : ∀ k, S k → k < w.heap.size) (hseq : SeqCells (m - 1) P gf lb N H (fun k => S k ∨ k = w.heap.size + 1) w)
    (hH : ∀ k v A o, H k v A → w.heap.size + 1 < A.heap.size → H k v (A.putObj (w.heap.size + 1) o))
    (I : Nat → World → Prop) (hI : ∀ k A B, I k A → Below w.heap.size A B → I k B) (h0 : I 0 w) (a₁ : Nat → Value → Act)
    (hassign : ∀ (l k : Nat) (v : Value) (W : World) (K : Act → World → Prop), K (a₁ k v) W →
      assign.wpIn (Fence.wide.inRound l) (m - 1 - 1) P (Exit.then K (fun _ _ _ => False)) { tmps := (ps.zip #[.int .i64 (k : Nat), v]).foldl (fun t (p, v) => t.setIfInBounds p v) a.tmps, defers := [] } W)
    (hbody : ∀ (l k : Nat) (v : Value) (W : World), k < N → I k W → H k v W → w.heap.size ≤ W.heap.size → body.wpIn (Fence.wide.inRound l) (m - 1 - 1) P (roundEnd S (I (k + 1)) W) (a₁ k v) W)
    (hdone : ∀ (D : Nat) (W : World), w.heap.size ≤ D → I N W → W.heap[D]? = some (.deferred (some [])) → Q .normal { a with defers := { target := .collected D, args := #[] } :: a.defers } W) :
    (Code.rangeFunc g ps assign body).wpIn Fence.wide m P Q a w := by
  refine wpIn_rangeFunc ?_
  intro fn hfn
  obtain ⟨rec, hrec⟩ : ∃ rec : LoopState → Loop, rec = fun st => { state := st, pending := none, fn, tmps := a.tmps, params := ps, assign, body, defers := w.heap.size } := ⟨_, rfl⟩
  obtain ⟨W1, hW1⟩ : ∃ W1, (w.alloc (.deferred (some []))).alloc (.loop (rec .ready)) = W1 := ⟨_, rfl⟩
  have hL1 : W1.heap[w.heap.size + 1]? = some (.loop (rec .ready)) := by
    rw [← hW1]; have := World.alloc_heap_new (w.alloc (.deferred (some []))) (.loop (rec .ready)); rwa [World.size_alloc] at this
  have hK1 : W1.heap[w.heap.size]? = some (.deferred (some [])) := by rw [← hW1]; exact (Below.heap_alloc _ _ _ (by simp)).trans (World.alloc_heap_new w _)
  have hb1 : Below w.heap.size w W1 := by rw [← hW1]; exact ((Below.refl _ w).alloc (Nat.le_refl _) _).alloc (by simp) _
  have hz1 : W1.heap.size = w.heap.size + 2 := by rw [← hW1]; simp
  refine ⟨w.heap.size + 1, [{ target := .collected w.heap.size, args := #[] }], W1, { target := .fn (.func gf) lb, args := #[.func (.yield (w.heap.size + 1)) #[] #[]] }, W1, gf,
    #[.func (.yield (w.heap.size + 1)) #[] #[]] ++ lb, W1, ?_, ?_, ?_, ?_, ?_, ?_⟩
  · rw [← hW1, hrec]; exact run_enterLoop_outer _ _ _ _ _
  · simp only [resolve, hg]; simp [go_sem]
  · intro _ _; exact trivial
  · simp [invoke, go_sem, eg]
  · intro h; simp [Fence.wide] at h
  · refine (hseq (w.heap.size + 1) (fun k W => I k W ∧ W.heap[w.heap.size + 1]? = some (.loop (rec .ready)) ∧ W.heap[w.heap.size]? = some (.deferred (some []))) W1 hb1 (by omega)
      (by rintro k (h | rfl); exact Nat.lt_of_lt_of_le (hS k h) (by omega); omega) ?_ ?_ ⟨hI _ _ _ h0 hb1, hL1, hK1⟩).mono ?_
    · rintro k A B ⟨i, l, d⟩ hb
      rw [hz1] at hb
      exact ⟨hI _ _ _ i (hb.mono (by omega)), (hb.block _ (by omega)).trans l, (hb.block _ (by omega)).trans d⟩
    · rintro k v W hk ⟨hi, hl, hd⟩ hh
      have hlt : w.heap.size + 1 < W.heap.size := (Array.getElem?_eq_some_iff.1 hl).1
      have hy := run_yield (P := P) (args := #[.int .i64 (k : Nat), v]) hl (by rw [hrec]; simp [hps])
      rw [hrec] at hy
      refine ⟨fn, _, assign, body, hy, roundIn_of_wpIn hfn (hassign _ k v W _ ⟨_, run_beginRound hl (by rw [hrec]), ?_⟩)⟩
      refine wpIn_mono (hbody _ k v _ hk (hI _ _ _ hi (below_putObj W (by omega) _)) (hH _ _ _ _ hh hlt) (by simp; omega)) ?_
      rintro e a3 W3 hp
      cases e with
      | normal =>
        obtain ⟨hbut, hi3⟩ := hp
        have hne : ¬ S (w.heap.size + 1) := fun h => by have := hS _ h; omega
        have hnd : ¬ S w.heap.size := fun h => by have := hS _ h; omega
        have hl3 := (hbut.block (w.heap.size + 1) (by simpa using hlt) hne).trans (World.putObj_heap_same hlt)
        have hd3 := (hbut.block w.heap.size (by simp; omega) hnd).trans ((World.putObj_heap_other (by omega)).trans hd)
        have hr := run_endRound (P := P) none hl3
        have hlt3 : w.heap.size + 1 < W3.heap.size := (Array.getElem?_eq_some_iff.1 hl3).1
        refine ⟨_, _, hr, rfl, ⟨hI _ _ _ hi3 (below_putObj W3 (by omega) _), ?_, (World.putObj_heap_other (by omega)).trans hd3⟩, ?_⟩
        · rw [World.putObj_heap_same hlt3, hrec]; rfl
        · exact (((But.putObj (S := fun k => S k ∨ k = w.heap.size + 1) W (.inr rfl) _).trans (hbut.mono (T := fun k => S k ∨ k = w.heap.size + 1) (fun k hk => Or.inl hk))).trans (But.putObj (S := fun k => S k ∨ k = w.heap.size + 1) W3 (.inr rfl) _)).mono (by rintro k ((h | h) | h) <;> exact h)
      | ret => exact hp.elim
      | exit id => exact hp.elim
      | goto t => exact hp.elim
      | panic ch => exact hp.elim
      | outgrown => exact hp.elim
    · rintro e W2 ⟨⟨v, rfl⟩, hi, hl, hd⟩
      refine ⟨none, _, by have := run_endLoop (P := P) hl (by rw [hrec]; simp); rw [hrec] at this; exact this, hdone w.heap.size _ (Nat.le_refl _) (hI _ _ _ hi (below_putObj W2 (by omega) _)) ((World.putObj_heap_other (by omega)).trans hd)⟩

end Go.Proofs.YtkgcmpmgaghdhaaGreatDoor

namespace Go.Proofs.YtkgcmpmgaghdhaaGreatDoor
open Go.RowKit

/-- A function that hands out N rounds, the k-th with the values ar k, as long as R holds of the world; it writes nothing. -/
def SeqWhen (m : Nat) (P : Program) (g : Nat) (lb : Array Value) (N : Nat) (ar : Nat → Array Value) (R : World → Prop) : Prop :=
  ∀ (l : Nat) (J : Nat → World → Prop) (W : World), (∀ k A, J k A → R A) →
    (∀ k W1, k < N → J k W1 → YieldAt Fence.wide (m - 1) P l (ar k) W1 fun e W' => e = .returned (.bool true) ∧ J (k + 1) W') →
    J 0 W → CallsIn Fence.wide m P g (#[.func (.yield l) #[] #[]] ++ lb) W fun e W' => (∃ v, e = .returned v) ∧ J N W'

/-- How a round's body is left: off its end; whatever holds no cells and lies at or beyond B lies as it lay. -/
def roundEndF (B : Nat) (I : World → Prop) (W : World) : Exit → Act → World → Prop
  | .normal, _, W' => KeepsFrom B W W' ∧ I W'
  | _, _, _ => False

/-- A range over such a function whose body never leaves it. -/
theorem range_when {P : Program} {m N : Nat} {g : Operand} {ps : Array Tmp} {assign body : Code} {Q : Exit → Act → World → Prop} {a : Act} {w : World} {R : World → Prop}
    {gf : Nat} {lb : Array Value} (hg : a.eval g = .func (.func gf) #[] lb) (eg : ∀ args w, (callFunc gf args).run P w = .ok (.enter gf args) w) {ar : Nat → Array Value} (hps : ∀ k, (ar k).size = ps.size)
    (hseq : SeqWhen (m - 1) P gf lb N ar R)
    (I : Nat → World → Prop) (hI : ∀ k A, I k A → R A) (hIp : ∀ k A l o o', I k A → w.heap.size ≤ l → A.heap[l]? = some o → o.isCells = false → I k (A.putObj l o')) (h0 : ∀ o o', I 0 ((w.alloc o).alloc o')) (a₁ : Nat → Act)
    (hassign : ∀ (l k : Nat) (W : World) (K : Act → World → Prop), K (a₁ k) W →
      assign.wpIn (Fence.wide.inRound l) (m - 1 - 1) P (Exit.then K (fun _ _ _ => False)) { tmps := (ps.zip (ar k)).foldl (fun t (p, v) => t.setIfInBounds p v) a.tmps, defers := [] } W)
    (hbody : ∀ (l k : Nat) (W : World), k < N → I k W → body.wpIn (Fence.wide.inRound l) (m - 1 - 1) P (roundEndF w.heap.size (I (k + 1)) W) (a₁ k) W)
    (hdone : ∀ (D : Nat) (W : World), w.heap.size ≤ D → I N W → W.heap[D]? = some (.deferred (some [])) → Q .normal { a with defers := { target := .collected D, args := #[] } :: a.defers } W) :
    (Code.rangeFunc g ps assign body).wpIn Fence.wide m P Q a w := by
  refine wpIn_rangeFunc ?_
  intro fn hfn
  obtain ⟨rec, hrec⟩ : ∃ rec : LoopState → Loop, rec = fun st => { state := st, pending := none, fn, tmps := a.tmps, params := ps, assign, body, defers := w.heap.size } := ⟨_, rfl⟩
  obtain ⟨W1, hW1⟩ : ∃ W1, (w.alloc (.deferred (some []))).alloc (.loop (rec .ready)) = W1 := ⟨_, rfl⟩
  have hL1 : W1.heap[w.heap.size + 1]? = some (.loop (rec .ready)) := by
    rw [← hW1]; have := World.alloc_heap_new (w.alloc (.deferred (some []))) (.loop (rec .ready)); rwa [World.size_alloc] at this
  have hK1 : W1.heap[w.heap.size]? = some (.deferred (some [])) := by rw [← hW1]; exact (Below.heap_alloc _ _ _ (by simp)).trans (World.alloc_heap_new w _)
  refine ⟨w.heap.size + 1, [{ target := .collected w.heap.size, args := #[] }], W1, { target := .fn (.func gf) lb, args := #[.func (.yield (w.heap.size + 1)) #[] #[]] }, W1, gf,
    #[.func (.yield (w.heap.size + 1)) #[] #[]] ++ lb, W1, ?_, ?_, ?_, ?_, ?_, ?_⟩
  · rw [← hW1, hrec]; exact run_enterLoop_outer _ _ _ _ _
  · simp only [resolve, hg]; simp [go_sem]
  · intro _ _; exact trivial
  · simp [invoke, go_sem, eg]
  · intro h; simp [Fence.wide] at h
  · refine (hseq (w.heap.size + 1) (fun k W => I k W ∧ W.heap[w.heap.size + 1]? = some (.loop (rec .ready)) ∧ W.heap[w.heap.size]? = some (.deferred (some []))) W1 (fun k A h => hI k A h.1) ?_ ⟨by rw [← hW1]; exact h0 _ _, hL1, hK1⟩).mono ?_
    · rintro k W hk ⟨hi, hl, hd⟩
      have hlt : w.heap.size + 1 < W.heap.size := (Array.getElem?_eq_some_iff.1 hl).1
      have hy := run_yield (P := P) (args := ar k) hl (by rw [hrec]; exact hps k)
      rw [hrec] at hy
      refine ⟨fn, _, assign, body, hy, roundIn_of_wpIn hfn (hassign _ k W _ ⟨_, run_beginRound hl (by rw [hrec]), ?_⟩)⟩
      refine wpIn_mono (hbody _ k _ hk (hIp _ _ _ _ _ hi (by omega) hl rfl)) ?_
      rintro e a3 W3 hp
      cases e with
      | normal =>
        obtain ⟨hkeep, hi3⟩ := hp
        have hl3 := hkeep.same _ _ (by omega) (World.putObj_heap_same (o := .loop { rec .ready with state := .busy }) hlt) rfl
        have hd3 := hkeep.same _ _ (Nat.le_refl _) ((World.putObj_heap_other (r := w.heap.size + 1) (by omega)).trans hd) rfl
        have hr := run_endRound (P := P) none hl3
        have hlt3 : w.heap.size + 1 < W3.heap.size := (Array.getElem?_eq_some_iff.1 hl3).1
        refine ⟨_, _, hr, rfl, hIp _ _ _ _ _ hi3 (by omega) hl3 rfl, ?_, (World.putObj_heap_other (by omega)).trans hd3⟩
        rw [World.putObj_heap_same hlt3, hrec]; rfl
      | ret => exact hp.elim
      | exit id => exact hp.elim
      | goto t => exact hp.elim
      | panic ch => exact hp.elim
      | outgrown => exact hp.elim
    · rintro e W2 ⟨⟨v, rfl⟩, hi, hl, hd⟩
      refine ⟨none, _, by have := run_endLoop (P := P) hl (by rw [hrec]; simp); rw [hrec] at this; exact this, hdone w.heap.size _ (Nat.le_refl _) (hIp _ _ _ _ _ hi (by omega) hl rfl) ((World.putObj_heap_other (by omega)).trans hd)⟩

end Go.Proofs.YtkgcmpmgaghdhaaGreatDoor

namespace Go.Proofs.YtkgcmpmgaghdhaaGreatDoor
open Go.RowKit

def withinB (v lo hi : Int) : Bool := decide (lo ≤ v ∧ v ≤ hi)

set_option maxHeartbeats 400000 in
theorem isWithin_any (v lo hi : Int) (w : World) : Calls Tryz.prog 115 #[.int .i64 v, .int .i64 lo, .int .i64 hi] w fun e w' => e = .returned (.bool (withinB v lo hi)) ∧ w' = w := by
  by_cases h1 : lo ≤ v
  · by_cases h2 : v ≤ hi
    · have HE : Hid (withinB v lo hi = true) := decide_eq_true ⟨h1, h2⟩
      go_enter Tryz.func115, Tryz.ntmps115
      go_wp2
      go_ret
      exact ⟨ret_bool HE.out.symm, rfl⟩
    · have HE : Hid (withinB v lo hi = false) := decide_eq_false (fun h => by omega)
      go_enter Tryz.func115, Tryz.ntmps115
      go_wp2
      go_ret
      exact ⟨ret_bool HE.out.symm, rfl⟩
  · have HE : Hid (withinB v lo hi = false) := decide_eq_false (fun h => by omega)
    go_enter Tryz.func115, Tryz.ntmps115
    go_wp2
    go_ret
    exact ⟨ret_bool HE.out.symm, rfl⟩

theorem isWithin_eq (v lo hi : Int) (w : World) (b : Bool) (h : Hid (withinB v lo hi = b)) : Calls Tryz.prog 115 #[.int .i64 v, .int .i64 lo, .int .i64 hi] w fun e w' => e = .returned (.bool b) ∧ w' = w := by
  rw [← h.out]; exact isWithin_any v lo hi w

set_option maxHeartbeats 1000000 in
theorem shapeOk_any (a : Option Addr) (n cap : Nat) (sh : List Int) (w : World) (h : Row w a n sh) : Calls Tryz.prog 67 #[.slice a n cap] w fun e w' => e = .returned (.bool (shapeB sh)) ∧ w' = w := by
  have hlen := hide h.len
  have hsm := h.small
  have H := hide h
  clear h
  by_cases h5 : 5 < n
  · have HE := hide (shape_long (unhide hlen) h5)
    go_enter Tryz.func67, Tryz.ntmps67
    go_wp2
    go_ret
    exact ⟨ret_bool HE.out.symm, rfl⟩
  · go_enter Tryz.func67, Tryz.ntmps67
    go_wp2
    go_loop [3, 5, 11] (fun p _ i => ∃ (k : Nat) (m : Int), k ≤ n ∧ i = .int .i64 k ∧ p = .int .i64 m ∧ Hid ((sh.take k).all inCells = true) ∧ Hid (prodFrom (sh.take k) 1 = some m)) (fun _ _ i => n - (intOf i).toNat)
    case atStart => exact ⟨0, 1, Nat.zero_le _, rfl, rfl, rfl, rfl⟩
    case round =>
      obtain ⟨k, m, hk, rfl, rfl, hall, hp⟩ := hrel
      have hmb := prodFrom_bd (sh.take k) 1 m (unhide hall) (by omega) (by omega) (unhide hp)
      obtain ⟨hm1, hm2⟩ := hmb
      by_cases hlt : k < n
      · obtain ⟨b, off, rfl, hblt, hc⟩ := (unhide H).get hlt
        have hks : Hid (k < sh.length) := by show k < sh.length; rw [unhide hlen]; exact hlt
        obtain ⟨x, hx⟩ : ∃ x, x = sh.getD k 0 := ⟨_, rfl⟩
        rw [← hx] at hc
        have HX := hide hx
        clear hx
        by_cases hin : 0 ≤ x ∧ x ≤ 10000
        · have HW : Hid (withinB x 0 10000 = true) := decide_eq_true hin
          have HA : Hid ((sh.take (k + 1)).all inCells = true) := all_step sh inCells k (unhide hks) (unhide hall) (by rw [← unhide HX]; exact decide_eq_true hin)
          obtain ⟨hx0, hx1⟩ := hin
          by_cases h0 : x = 0
          · have HP := hide (prod_step0 sh k (unhide hks) m (unhide hp) (by rw [← unhide HX]; exact h0))
            subst h0
            have hw : wrap64 (m * (if (0 : Int) < 1 then 1 else 0)) = m := by rw [if_pos (by omega), Int.mul_one]; exact (by unfold wrap64; omega)
            go_wp2_with (go_at_call 115; refine (isWithin_eq _ _ _ _ true HW).mono ?_; rintro e w' ⟨rfl, rfl⟩)
            go_round
            case rel => exact ⟨k + 1, m, by omega, by go_num, rfl, HA, HP⟩
            case measure => simp [intOf]; omega
          · have hx2 : ¬ x < 1 := by omega
            have hmx : m * x ≤ 10000 * 10000 := Int.mul_le_mul hm2 hx1 hx0 (by omega)
            have hmx0 : 0 ≤ m * x := Int.mul_nonneg (by omega) hx0
            have hw : wrap64 (m * x) = m * x := (by unfold wrap64; omega)
            by_cases hbig : 10000 < m * x
            · have HE : Hid (shapeB sh = false) := shape_bad (count_big sh (prod_none sh k (unhide hks) m (unhide hp) (by rw [← unhide HX]; exact h0) (by rw [← unhide HX]; exact hbig)))
              clear h0
              go_wp2_with (go_at_call 115; refine (isWithin_eq _ _ _ _ true HW).mono ?_; rintro e w' ⟨rfl, rfl⟩)
              go_ret
              exact ⟨ret_bool HE.out.symm, rfl⟩
            · have HP := hide (prod_step sh k (unhide hks) m (unhide hp) (by rw [← unhide HX]; exact h0) (by rw [← unhide HX]; omega))
              rw [← unhide HX] at HP
              clear h0
              go_wp2_with (go_at_call 115; refine (isWithin_eq _ _ _ _ true HW).mono ?_; rintro e w' ⟨rfl, rfl⟩)
              go_round
              case rel => exact ⟨k + 1, m * x, by omega, by go_num, rfl, HA, HP⟩
              case measure => simp [intOf]; omega
        · have HW : Hid (withinB x 0 10000 = false) := decide_eq_false hin
          have HE : Hid (shapeB sh = false) := shape_bad (count_bad sh (all_not sh inCells k (unhide hks) (by rw [← unhide HX]; exact decide_eq_false hin)))
          clear hin
          go_wp2_with (go_at_call 115; refine (isWithin_eq _ _ _ _ false HW).mono ?_; rintro e w' ⟨rfl, rfl⟩)
          go_ret
          exact ⟨ret_bool HE.out.symm, rfl⟩
      · have htk : sh.take k = sh := List.take_of_length_le (by rw [unhide hlen]; omega)
        have HE := hide (shape_good (unhide hlen) (by omega) m (by have := unhide hall; rwa [htk] at this) (by have := unhide hp; rwa [htk] at this))
        clear htk
        go_wp2
        go_ret
        exact ⟨ret_bool HE.out.symm, rfl⟩

theorem shapeOk_eq (a : Option Addr) (n cap : Nat) (sh : List Int) (w : World) (h : Row w a n sh) (r : Bool) (hr : Hid (shapeB sh = r)) : Calls Tryz.prog 67 #[.slice a n cap] w fun e w' => e = .returned (.bool r) ∧ w' = w := by
  rw [← hr.out]; exact shapeOk_any a n cap sh w h

set_option maxHeartbeats 400000 in
theorem cellsOf_any (a : Option Addr) (n cap : Nat) (sh : List Int) (w : World) (h : Row w a n sh) (hb : ∀ k, 0 ≤ prodAll (sh.take k) ∧ prodAll (sh.take k) ≤ 10000) : Calls Tryz.prog 51 #[.slice a n cap] w fun e w' => e = .returned (.int .i64 (prodAll sh)) ∧ w' = w := by
  have hlen := hide h.len
  have hsm := h.small
  have H := hide h
  have HB := hide hb
  clear h hb
  go_enter Tryz.func51, Tryz.ntmps51
  go_wp2
  go_loop [3, 5, 8] (fun p _ i => ∃ (k : Nat) (m : Int), k ≤ n ∧ i = .int .i64 k ∧ p = .int .i64 m ∧ Hid (prodAll (sh.take k) = m)) (fun _ _ i => n - (intOf i).toNat)
  case atStart => exact ⟨0, 1, Nat.zero_le _, rfl, rfl, rfl⟩
  case round =>
    obtain ⟨k, m, hk, rfl, rfl, hp⟩ := hrel
    by_cases hlt : k < n
    · obtain ⟨b, off, rfl, hblt, hc⟩ := (unhide H).get hlt
      have hks : Hid (k < sh.length) := by show k < sh.length; rw [unhide hlen]; exact hlt
      obtain ⟨x, hx⟩ : ∃ x, x = sh.getD k 0 := ⟨_, rfl⟩
      have HP : Hid (prodAll (sh.take (k + 1)) = m * x) := by show _ = _; rw [prodAll_snoc sh k (unhide hks), unhide hp, hx]
      have hpb := unhide HB (k + 1)
      rw [unhide HP] at hpb
      obtain ⟨hb0, hb1⟩ := hpb
      rw [← hx] at hc
      clear hx
      go_wp2
      go_round
      case rel => exact ⟨k + 1, m * x, by omega, by go_num, rfl, HP⟩
      case measure => simp [intOf]; omega
    · have HE : Hid (prodAll sh = m) := by have := unhide hp; rwa [List.take_of_length_le (by rw [unhide hlen]; omega)] at this
      go_wp2
      go_ret
      exact ⟨ret_int HE.out.symm, rfl⟩

theorem cellsOf_count (a : Option Addr) (n cap : Nat) (sh : List Int) (w : World) (h : Row w a n sh) (hs : shapeB sh = true) (cn : Int) (hc : Hid (countOf sh = cn)) : Calls Tryz.prog 51 #[.slice a n cap] w fun e w' => e = .returned (.int .i64 cn) ∧ w' = w := by
  rw [← hc.out, ← prodAll_count sh hs]; exact cellsOf_any a n cap sh w h (prodAll_bd sh hs)

end Go.Proofs.YtkgcmpmgaghdhaaGreatDoor
namespace Go.Proofs.YtkgcmpmgaghdhaaGreatDoor
open Go.RowKit

set_option maxHeartbeats 400000 in
theorem isNumber_any (v : Int) (w : World) : Calls Tryz.prog 142 #[.int .i64 v] w fun e w' => e = .returned (.bool (dataOk false v)) ∧ w' = w := by
  have HE : Hid (dataOk false v = withinB v (-1000000000000000) 1000000000000000) := by show _ = _; unfold dataOk withinB; simp
  go_enter Tryz.func142, Tryz.ntmps142
  go_wp2_with (go_at_call 115; refine (isWithin_any _ _ _ _).mono ?_; rintro e w' ⟨rfl, rfl⟩)
  go_ret
  exact ⟨ret_bool HE.out.symm, rfl⟩

set_option maxHeartbeats 400000 in
theorem ValidRune_any (v : Int) (w : World) (h0 : 0 ≤ v) (h1 : v ≤ 1114111) : Calls Tryz.prog 172 #[.int .i32 v] w fun e w' => e = .returned (.bool (runeOk v)) ∧ w' = w := by
  by_cases h3 : v < 55296
  · have HE : Hid (runeOk v = true) := decide_eq_true ⟨h0, h1, .inl h3⟩
    go_enter Tryz.func172, Tryz.ntmps172
    go_wp2
    go_ret
    exact ⟨ret_bool HE.out.symm, rfl⟩
  · by_cases h4 : 57343 < v
    · have HE : Hid (runeOk v = true) := decide_eq_true ⟨h0, h1, .inr h4⟩
      go_enter Tryz.func172, Tryz.ntmps172
      go_wp2
      go_ret
      exact ⟨ret_bool HE.out.symm, rfl⟩
    · have HE : Hid (runeOk v = false) := decide_eq_false (fun h => by omega)
      go_enter Tryz.func172, Tryz.ntmps172
      go_wp2
      go_ret
      exact ⟨ret_bool HE.out.symm, rfl⟩

theorem wrap32 (v : Int) (h0 : 0 ≤ v) (h1 : v ≤ 1114111) : IntKind.i32.wrap v = v := by
  unfold IntKind.wrap; simp [IntKind.bits, IntKind.signed]; omega

set_option maxHeartbeats 400000 in
theorem isCharacter_any (v : Int) (w : World) : Calls Tryz.prog 143 #[.int .i64 v] w fun e w' => e = .returned (.bool (dataOk true v)) ∧ w' = w := by
  by_cases h : 0 ≤ v ∧ v ≤ 1114111
  · obtain ⟨h0, h1⟩ := h
    have HE : Hid (dataOk true v = runeOk v) := by show _ = _; unfold dataOk; rw [decide_eq_true (by omega)]; simp
    have HW : Hid (withinB v 0 1114111 = true) := decide_eq_true ⟨h0, h1⟩
    have hw := wrap32 v h0 h1
    go_enter Tryz.func143, Tryz.ntmps143
    go_wp2_with (first | (go_at_call 115; refine (isWithin_eq _ _ _ _ true HW).mono ?_; rintro e w' ⟨rfl, rfl⟩) | (go_at_call 172; refine (ValidRune_any _ _ h0 h1).mono ?_; rintro e w' ⟨rfl, rfl⟩))
    go_ret
    exact ⟨ret_bool HE.out.symm, rfl⟩
  · have HE : Hid (dataOk true v = false) := by show _ = _; unfold dataOk runeOk; rw [decide_eq_false (p := 0 ≤ v ∧ _ ∧ _) (by omega)]; simp
    have HW : Hid (withinB v 0 1114111 = false) := decide_eq_false h
    clear h
    go_enter Tryz.func143, Tryz.ntmps143
    go_wp2_with (go_at_call 115; refine (isWithin_eq _ _ _ _ false HW).mono ?_; rintro e w' ⟨rfl, rfl⟩)
    go_ret
    exact ⟨ret_bool HE.out.symm, rfl⟩

end Go.Proofs.YtkgcmpmgaghdhaaGreatDoor
namespace Go.Proofs.YtkgcmpmgaghdhaaGreatDoor
open Go.RowKit Go.Shelf

attribute [local go_sem] Oper.semAt_some

theorem Backward_any (sa : Option Addr) (n cap : Nat) (w : World) : Calls Tryz.prog 132 #[.slice sa n cap] w fun e w' => e = .returned (.func (.func 170) #[] #[.pointer (some ⟨w.heap.size, 0, none⟩)]) ∧ w' = w.alloc (.cells #[.slice sa n cap] 23) := by
  go_enter Tryz.func132, Tryz.ntmps132
  go_wp2
  go_ret
  exact ⟨rfl, rfl⟩

theorem eg_back : ∀ args w, (callFunc 170 args).run Tryz.prog w = .ok (.enter 170 args) w := enters_of Tryz.func170 (by kernel_rfl) rfl

/-- The k-th round of slices.Backward: the place, and what lies there. -/
def backAr (n : Nat) (zs : List Int) (k : Nat) : Array Value := #[.int .i64 ((n - 1 - k : Nat) : Int), .int .i64 (zs.getD (n - 1 - k) 0)]

set_option maxRecDepth 100000 in
set_option maxHeartbeats 2000000 in
theorem back1_seq (m Bn : Nat) (sa : Option Addr) (n cap : Nat) (zs : List Int) (hsm : n ≤ 17592186044416) :
    SeqWhen m Tryz.prog 170 #[.pointer (some ⟨Bn, 0, none⟩)] n (backAr n zs) (fun A => A.cell? ⟨Bn, 0, none⟩ = some (.slice sa n cap) ∧ Row A sa n zs) := by
  intro l J W hJ hY h0
  have hbox := (hJ _ _ h0).1
  have HBOX : Hid (∀ k A, J k A → A.cell? ⟨Bn, 0, none⟩ = some (.slice sa n cap)) := fun k A h => (hJ _ _ h).1
  have HJ : Hid (∀ k A, J k A → Row A sa n zs) := fun k A h => (hJ _ _ h).2
  have HY : Hid (∀ k W1, k < n → J k W1 → YieldAt Fence.wide (m - 1) Tryz.prog l (backAr n zs k) W1 fun e W' => e = .returned (.bool true) ∧ J (k + 1) W') := hY
  have H0 := hide h0
  clear hJ hY h0
  refine callsIn_of_wp Tryz.func170 rfl trivial ?_ rfl
  simp only [Tryz.ntmps170, List.size_toArray, List.length_cons, List.length_nil, Nat.reduceAdd, Nat.reduceSub, Array.replicate_succ, Array.replicate_zero, List.push_toArray, List.append_toArray, List.nil_append, List.cons_append]
  gi_wp2
  gi_loopw [3] (fun i wr => ∃ k : Nat, k ≤ n ∧ i = .int .i64 ((n : Int) - 1 - (k : Nat)) ∧ Hid (J k wr)) (fun i _ => (intOf i + 1).toNat)
  case atStart => exact ⟨0, Nat.zero_le _, by go_num, H0⟩
  case round =>
    obtain ⟨k, hk, rfl, hj⟩ := hrel
    clear H0 hbox
    by_cases hlt : k < n
    · obtain ⟨j, hjn⟩ : ∃ j : Nat, j = n - 1 - k := ⟨_, rfl⟩
      have hji : (n : Int) - 1 - (k : Nat) = (j : Nat) := by omega
      have hjlt : j < n := by omega
      obtain ⟨b, off, rfl, hblt, hc⟩ := (HJ.out _ _ hj.out).get hjlt
      have hbx := HBOX.out _ _ hj.out
      obtain ⟨fn, tmps, assign, body, hy, hRr⟩ := HY.out k wr hlt hj.out
      obtain ⟨x, hx⟩ : ∃ x, x = zs.getD j 0 := ⟨_, rfl⟩
      unfold backAr at hy
      rw [← hjn, ← hx] at hy
      rw [← hx] at hc
      rw [hji]
      have HJN := hide hjn
      have HJI := hide hji
      clear hx hjn hji
      gi_wp2
      refine ⟨fun h => (by simp [Fence.wide] at h), hRr.mono ?_⟩
      rintro e W3 ⟨rfl, hJ3⟩
      have HJ3 := hide hJ3
      clear hRr hy hJ3 hc
      gi_wp2
      go_roundw
      case rel =>
        have := HJI.out
        exact ⟨k + 1, by omega, by go_num, HJ3⟩
      case measure =>
        have := HJI.out
        (simp [intOf] <;> omega)
    · have : k = n := by omega
      subst this
      have e1 : (k : Int) - 1 - (k : Nat) = -1 := by omega
      rw [e1]
      clear e1
      gi_wp2
      go_end0
      exact ⟨⟨_, rfl⟩, hj.out⟩

end Go.Proofs.YtkgcmpmgaghdhaaGreatDoor
namespace Go.Proofs.YtkgcmpmgaghdhaaGreatDoor
open Go.Maps

/-- What is said of x behind k rounds, from the last place on: its first place, from 1 on, or 0. -/
def seenAt (zs : List Int) (x : Int) : Nat → Int
  | 0 => 0
  | k + 1 => if zs.getD (zs.length - 1 - k) 0 = x then ((zs.length - 1 - k : Nat) : Int) + 1 else seenAt zs x k

theorem seenAt_cases (zs : List Int) (x : Int) (k : Nat) (hk : k ≤ zs.length) :
    (∃ j, zs.length - k ≤ j ∧ j < zs.length ∧ zs.getD j 0 = x ∧ (∀ i, zs.length - k ≤ i → i < j → zs.getD i 0 ≠ x) ∧ seenAt zs x k = (j : Int) + 1) ∨ ((∀ i, zs.length - k ≤ i → i < zs.length → zs.getD i 0 ≠ x) ∧ seenAt zs x k = 0) := by
  induction k with
  | zero => exact .inr ⟨fun i h1 h2 => by omega, rfl⟩
  | succ k ih =>
    unfold seenAt
    by_cases h : zs.getD (zs.length - 1 - k) 0 = x
    · rw [if_pos h]
      exact .inl ⟨zs.length - 1 - k, by omega, by omega, h, fun i h1 h2 => by omega, rfl⟩
    · rw [if_neg h]
      rcases ih (by omega) with ⟨j, h1, h2, h3, h4, h5⟩ | ⟨h1, h2⟩
      · refine .inl ⟨j, by omega, h2, h3, fun i hi hj => ?_, h5⟩
        by_cases e : i = zs.length - 1 - k
        · rw [e]; exact h
        · exact h4 i (by omega) hj
      · refine .inr ⟨fun i hi hj => ?_, h2⟩
        by_cases e : i = zs.length - 1 - k
        · rw [e]; exact h
        · exact h1 i (by omega) hj

theorem seenAt_all (zs : List Int) (x : Int) : seenAt zs x zs.length = if zs.findIdx (fun y => decide (y = x)) < zs.length then ((zs.findIdx (fun y => decide (y = x)) : Nat) : Int) + 1 else 0 := by
  rcases seenAt_cases zs x zs.length (Nat.le_refl _) with ⟨j, _, h2, h3, h4, h5⟩ | ⟨h1, h2⟩
  · rw [first_here (fun i hi => h4 i (by omega) hi) h2 h3, if_pos h2, h5]
  · rw [first_none (fun i hi => h1 i (by omega) hi), if_neg (by omega), h2]

theorem seenAt_bd (zs : List Int) (x : Int) (k : Nat) (hk : k ≤ zs.length) : 0 ≤ seenAt zs x k ∧ seenAt zs x k ≤ zs.length := by
  rcases seenAt_cases zs x k hk with ⟨j, _, h2, _, _, h5⟩ | ⟨_, h2⟩
  · rw [h5]; omega
  · rw [h2]; omega

/-- The map behind k rounds, as a datum. -/
def placesD (zs : List Int) : Nat → DataW Unit
  | 0 => .map []
  | k + 1 => (placesD zs k).put (.int .i64 (zs.getD (zs.length - 1 - k) 0)) (.lit (.int .i64 (((zs.length - 1 - k : Nat) : Int) + 1)))

theorem placesD_isMap (zs : List Int) : ∀ k, IsMap (placesD zs k)
  | 0 => isMap_empty
  | k + 1 => (placesD_isMap zs k).put _ _

theorem placesD_at (zs : List Int) (x : Int) : ∀ k, (placesD zs k).atKey (.int .i64 x) (.lit (.int .i64 0)) = .lit (.int .i64 (seenAt zs x k))
  | 0 => rfl
  | k + 1 => by
    unfold placesD seenAt
    by_cases h : zs.getD (zs.length - 1 - k) 0 = x
    · rw [if_pos h, h, atKey_put_same (placesD_isMap zs k) (show WideAt.IsKeyLit (.int .i64 x) from trivial)]
    · rw [if_neg h, atKey_put_other (fun e => h (by cases e; rfl)), placesD_at zs x k]

end Go.Proofs.YtkgcmpmgaghdhaaGreatDoor
namespace Go.Proofs.YtkgcmpmgaghdhaaGreatDoor
open Go.RowKit Go.Shelf Go.Maps

attribute [local go_sem] Oper.semAt_some

theorem lawInt : Keyed Tryz.prog 3 := int_keyed Tryz.underlying3
theorem zeroInt (w : World) : (zeroValue 3).run Tryz.prog w = .ok (.int .i64 0) w := by kernel_rfl

theorem run_mm (n : Int) (w : World) : (Instr.makeMap 118 (some (.int .i64 n))).run Tryz.prog w = .ok (.map (some w.heap.size)) (w.alloc (.map #[] 0)) := by
  simp [Instr.makeMap, run_underlying Tryz.underlying118, asInt, asIntOf, Result.andThen]

/-- Behind k rounds: the map in block p says of each number its first place so far. -/
def Frst (zs : List Int) (p : Nat) (W : World) (k : Nat) (A : World) : Prop :=
  A.ownsMap Tryz.prog 3 (plainElem Tryz.prog 3) p k (placesD zs k) ∧ But (fun x => x = p) W A

theorem ownsMap_putObj {w : World} {p k l : Nat} {D : DataW Unit} (h : w.ownsMap Tryz.prog 3 (plainElem Tryz.prog 3) p k D) (hl : p ≠ l) (o : Obj) : (w.putObj l o).ownsMap Tryz.prog 3 (plainElem Tryz.prog 3) p k D := by
  obtain ⟨es, clock, hb, r⟩ := h
  exact ⟨es, clock, (World.putObj_heap_other hl).trans hb, r⟩

theorem Frst.putObj {zs : List Int} {p : Nat} {W : World} {k : Nat} {A : World} {l : Nat} (h : Frst zs p W k A) (hl : W.heap.size ≤ l) (hp : p < l) (o' : Obj) : Frst zs p W k (A.putObj l o') := by
  obtain ⟨h1, h3⟩ := h
  have hb := below_putObj A hl o'
  exact ⟨ownsMap_putObj h1 (by omega) o', hb.os.trans h3.os, hb.tape.trans h3.tape, hb.output.trans h3.output, Nat.le_trans h3.size hb.size, fun x hx hn => (hb.block x hx).trans (h3.block x hx hn)⟩

theorem Frst.alloc {zs : List Int} {p : Nat} {W : World} {k : Nat} {A : World} (h : Frst zs p W k A) (o : Obj) : Frst zs p W k (A.alloc o) := ⟨h.1.alloc o, h.2.alloc o⟩

theorem But.of_grown {S : Nat → Prop} {A B : World} {p : Nat} (h : A.grownBy B (some p)) (hp : S p) : But S A B :=
  ⟨h.os, h.tape, h.output, h.size, fun k hk hn => h.block k hk (fun e => by cases e; exact hn hp)⟩

set_option maxRecDepth 100000 in
set_option maxHeartbeats 4000000 in
theorem firstPlaces_in (sa : Option Addr) (n cap : Nat) (zs : List Int) (w : World) (h : Row w sa n zs) (hn : n ≤ 10000) (hd : ∀ k, k < zs.length → -1000000000000000 ≤ zs.getD k 0 ∧ zs.getD k 0 ≤ 1000000000000000) :
    CallsIn Fence.wide 9 Tryz.prog 114 #[.slice sa n cap] w fun e w' => ∃ B, e = .returned (.map (some B)) ∧ w.heap.size ≤ B ∧ w'.ownsMap Tryz.prog 3 (plainElem Tryz.prog 3) B n (placesD zs n) ∧ Below w.heap.size w w' := by
  have hlen := h.len
  have H := hide h
  have HD := hide hd
  have HAT : Hid (∀ k, At sa n k → k < w.heap.size) := fun k hk => h.hi hk
  clear h hd
  have hmm := run_mm
  refine callsIn_of_wp_marks Tryz.func114 rfl trivial ?_ rfl
  simp only [Tryz.ntmps114, List.size_toArray, List.length_cons, List.length_nil, Nat.reduceAdd, Nat.reduceSub, Array.replicate_succ, Array.replicate_zero, List.push_toArray, List.append_toArray, List.nil_append, List.cons_append]
  gi_wp2_with (refine ⟨trivial, ?_⟩; gi_at_call 132; refine (callsIn_wide.2 (Backward_any _ _ _ _)).mono ?_; rintro e wI ⟨rfl, hwI⟩; obtain rfl := hwI.symm)
  clear hmm
  obtain ⟨p, hp⟩ : ∃ p, p = w.heap.size := ⟨_, rfl⟩
  obtain ⟨W, hW⟩ : ∃ W, W = ((w.alloc (.map #[] 0)).alloc (.cells #[.map (some w.heap.size)] 118)).alloc (.cells #[.slice sa n cap] 23) := ⟨_, rfl⟩
  have hzW : W.heap.size = p + 1 + 1 + 1 := by rw [hW, hp]; simp
  have HBW : Hid (Below p w W) := by rw [hW, hp]; exact (((Below.refl _ w).alloc (Nat.le_refl _) _).alloc (by simp) _).alloc (by simp; omega) _
  have HY0 : Hid (W.ownsMap Tryz.prog 3 (plainElem Tryz.prog 3) p 0 (placesD zs 0)) := by rw [hW, hp]; exact ((World.ownsMap_made w _ _ _).alloc _).alloc _
  have HY1 : Hid (W.heap[p + 1]? = some (.cells #[.map (some p)] 118 (0, 0))) := by
    rw [hW, hp]
    have := World.alloc_heap_new (w.alloc (.map #[] 0)) (.cells #[.map (some w.heap.size)] 118)
    exact (Below.heap_alloc _ _ _ (by simp)).trans (by simpa using this)
  have HY2 : Hid (W.heap[p + 1 + 1]? = some (.cells #[.slice sa n cap] 23 (0, 0))) := by
    rw [hW, hp]
    have := World.alloc_heap_new ((w.alloc (.map #[] 0)).alloc (.cells #[.map (some w.heap.size)] 118)) (.cells #[.slice sa n cap] 23)
    rwa [World.size_alloc, World.size_alloc] at this
  have HW := hide (H.out.below (by omega) HBW.out)
  rw [← hW, ← hp]
  have HAT' : Hid (∀ k, At sa n k → k < p) := by rw [hp]; exact HAT
  have HP := hide hp
  clear hW hp HAT H hwI
  have h0 : Frst zs p W 0 W := ⟨HY0.out, But.refl _ _⟩
  have HC3 : Hid (∀ k A, Frst zs p W k A → A.cell? ⟨p + 1 + 1, 0, none⟩ = some (.slice sa n cap) ∧ Row A sa n zs) := fun k A hA => by
    obtain ⟨_, hbut⟩ := hA
    refine ⟨?_, hbut.row HW.out (by rintro x rfl hx; have := HAT'.out _ hx; omega)⟩
    have h3 := (hbut.block (p + 1 + 1) (by omega) (by omega)).trans HY2.out
    simp [World.cell?, h3]
  refine range_when (gf := 170) (lb := #[.pointer (some ⟨p + 1 + 1, 0, none⟩)]) rfl eg_back (ar := backAr n zs) (fun _ => rfl) (back1_seq _ (p + 1 + 1) sa n cap zs (by omega))
    (Frst zs p W) HC3.out (fun k A l o o' h hl ho hc => h.putObj (by omega) (by omega) o') (fun o o' => (h0.alloc o).alloc o')
    (fun k => { tmps := #[.slice sa n cap, undef, .map none, .pointer (some ⟨p + 1, 0, none⟩), .int .i64 ((n - 1 - k : Nat) : Int), .int .i64 (zs.getD (n - 1 - k) 0), .slice sa n cap, .int .i64 (n : Nat), .map (some p), .slice sa n cap, .func (.func 170) #[] #[.pointer (some ⟨p + 1 + 1, 0, none⟩)], .int .i64 ((n - 1 - k : Nat) : Int), .int .i64 (zs.getD (n - 1 - k) 0), undef, undef, undef, undef, undef], defers := [] }) ?assign ?body ?done
  case assign =>
    intro l k A K hK
    unfold backAr
    gi_wp2
    exact hK
  case body =>
    rintro l k A hk ⟨hM, hbut⟩
    clear h0 HC3
    obtain ⟨j, hj⟩ : ∃ j : Nat, j = n - 1 - k := ⟨_, rfl⟩
    obtain ⟨a, ha⟩ : ∃ a, a = zs.getD j 0 := ⟨_, rfl⟩
    have hab := HD.out j (by omega)
    rw [← ha] at hab
    have HPD : Hid (placesD zs (k + 1) = (placesD zs k).put (.int .i64 a) (.lit (.int .i64 ((j : Int) + 1)))) := by
      show _ = _
      rw [placesD, hlen, ← hj, ← ha]
    rw [← hj, ← ha]
    have h3 := (hbut.block (p + 1) (by omega) (by omega)).trans HY1.out
    have cP : A.cell? ⟨p + 1, 0, none⟩ = some (.map (some p)) := by simp [World.cell?, h3]
    have hj1 : j < 10000 := by omega
    have hkey : keyOf Tryz.prog 3 (.int .i64 a) = some (.int .i64 a) := keyOf_int_mk Tryz.underlying3 (WalkArith.wf_i64 (by omega))
    have HM := hide hM
    have HBT := hide hbut
    clear h3 hj ha hM hbut
    gi_wp2_with (gi_at_mapUpdate; refine wpListIn_mapUpdate_own _ rfl _ _ _ 118 rfl 3 3 lawInt Tryz.underlying118 _ p k _ rfl HM.out (by unfold maxLen; omega) _ _ _ rfl rfl hkey (.lit (.int .i64 ((j : Int) + 1))) [] (plainElem_int Tryz.underlying3 (WalkArith.wf_i64 (by omega))) ?_; intro w1 hown1 hgrow1)
    refine ⟨KeepsFrom.of_grownBy hgrow1 (by intro q e; cases e; omega), ?_, ?_⟩
    · rw [HPD.out]; exact hown1
    · exact (HBT.out.trans (But.of_grown (S := fun x => x = p) hgrow1 rfl)).mono (by rintro x (h | h) <;> exact h)
  case done =>
    rintro D A hD ⟨hM, hbut⟩ hK
    have h3 := (hbut.block (p + 1) (by omega) (by omega)).trans HY1.out
    have cP : A.cell? ⟨p + 1, 0, none⟩ = some (.map (some p)) := by simp [World.cell?, h3]
    have HBT := hide hbut
    have HM := hide hM
    clear hM hbut h3 h0
    gi_wp2
    refine ⟨by simp, .inl ⟨_, _, rfl, run_takeDeferred hK, ?_⟩⟩
    refine ⟨_, results_tmp rfl _ _ _, p, rfl, by rw [← HP.out]; exact Nat.le_refl _, ownsMap_putObj HM.out (by omega) _, ?_⟩
    rw [← HP.out]
    exact (HBW.out.trans (HBT.out.below (B := p) (by omega) (by rintro x rfl; omega))).trans (below_putObj A (by omega) _)

theorem firstPlaces_any (sa : Option Addr) (n cap : Nat) (zs : List Int) (w : World) (h : Row w sa n zs) (hn : n ≤ 10000) (hd : ∀ k, k < zs.length → -1000000000000000 ≤ zs.getD k 0 ∧ zs.getD k 0 ≤ 1000000000000000) :
    Calls Tryz.prog 114 #[.slice sa n cap] w fun e w' => ∃ B, e = .returned (.map (some B)) ∧ w.heap.size ≤ B ∧ w'.ownsMap Tryz.prog 3 (plainElem Tryz.prog 3) B n (placesD zs n) ∧ Below w.heap.size w w' :=
  callsIn_wide.1 (firstPlaces_in sa n cap zs w h hn hd)

end Go.Proofs.YtkgcmpmgaghdhaaGreatDoor
namespace Go.Proofs.YtkgcmpmgaghdhaaGreatDoor

/-- What is left of b behind t digits, from the last base on. -/
def encLeft (dt : List Int) (b : Int) : Nat → Int
  | 0 => b
  | t + 1 => if dt.getD (dt.length - 1 - t) 0 = 0 then 0 else encLeft dt b t / dt.getD (dt.length - 1 - t) 0

def encDigit (dt : List Int) (b : Int) (i : Nat) : Int := modOf (dt.getD i 0) (encLeft dt b (dt.length - 1 - i))

/-- j columns are written, and the last t numbers of the next. -/
def encCell (dt dt' : List Int) (m j t q : Nat) : Int := if q % m < j ∨ (q % m = j ∧ dt.length - t ≤ q / m) then encDigit dt (dt'.getD (q % m) 0) (q / m) else 0
def encMid (dt dt' : List Int) (m j t : Nat) : List Int := (List.range (dt.length * m)).map (encCell dt dt' m j t)
def encAll (dt dt' : List Int) (m : Nat) : List Int := (List.range (dt.length * m)).map fun q => encDigit dt (dt'.getD (q % m) 0) (q / m)

theorem encMid_len (dt dt' : List Int) (m j t : Nat) : (encMid dt dt' m j t).length = dt.length * m := by simp [encMid]

theorem enc_eq {n : Nat} {f g : Nat → Int} (h : ∀ q, q < n → f q = g q) : (List.range n).map f = (List.range n).map g := List.map_congr_left fun q hq => h q (by simpa using hq)

theorem enc_set (n k : Nat) (f : Nat → Int) (x : Int) : ((List.range n).map f).set k x = (List.range n).map fun i => if i = k then x else f i := by
  apply List.ext_getElem
  · simp
  · intro i h1 h2
    simp only [List.getElem_set, List.getElem_map, List.getElem_range]
    by_cases e : k = i
    · subst e; simp
    · rw [if_neg e, if_neg (fun h => e h.symm)]

theorem encMid_zero (dt dt' : List Int) (m : Nat) : encMid dt dt' m 0 0 = List.replicate (dt.length * m) 0 := by
  have e : List.replicate (dt.length * m) (0 : Int) = (List.range (dt.length * m)).map fun _ => 0 := by rw [List.map_const']; simp
  rw [e]
  refine enc_eq fun q hq => ?_
  unfold encCell
  rw [if_neg]
  rintro (h | ⟨_, h⟩)
  · omega
  · have := Nat.div_lt_of_lt_mul (show q < m * dt.length by rw [Nat.mul_comm]; exact hq)
    omega

theorem place_lt {n m i j : Nat} (hi : i < n) (hj : j < m) : i * m + j < n * m := by
  have : (i + 1) * m ≤ n * m := Nat.mul_le_mul_right m hi
  rw [Nat.add_mul, Nat.one_mul] at this
  omega

theorem at_place {m i j : Nat} (hj : j < m) : (i * m + j) / m = i ∧ (i * m + j) % m = j := by
  have hm : 0 < m := by omega
  exact ⟨by rw [Nat.add_comm, Nat.add_mul_div_right _ _ hm, Nat.div_eq_of_lt hj, Nat.zero_add], by rw [Nat.add_comm, Nat.add_mul_mod_self_right, Nat.mod_eq_of_lt hj]⟩

theorem encMid_step (dt dt' : List Int) {m j t : Nat} (hj : j < m) (ht : t < dt.length) : (encMid dt dt' m j t).set ((dt.length - 1 - t) * m + j) (encDigit dt (dt'.getD j 0) (dt.length - 1 - t)) = encMid dt dt' m j (t + 1) := by
  obtain ⟨e1, e2⟩ := at_place (i := dt.length - 1 - t) hj
  unfold encMid
  rw [enc_set]
  refine enc_eq fun q _ => ?_
  by_cases e : q = (dt.length - 1 - t) * m + j
  · rw [if_pos e]
    unfold encCell
    rw [e, e1, e2, if_pos (.inr ⟨rfl, by omega⟩)]
  · rw [if_neg e]
    unfold encCell
    have hq := Nat.div_add_mod q m
    by_cases h : q % m < j ∨ (q % m = j ∧ dt.length - t ≤ q / m)
    · rw [if_pos h, if_pos (h.imp id fun h => ⟨h.1, by omega⟩)]
    · rw [if_neg h, if_neg]
      rintro (h' | ⟨h1, h2⟩)
      · exact h (.inl h')
      · by_cases h3 : dt.length - t ≤ q / m
        · exact h (.inr ⟨h1, h3⟩)
        · have h4 : q / m = dt.length - 1 - t := by omega
          rw [h4, h1, Nat.mul_comm] at hq
          exact e hq.symm

theorem encMid_col (dt dt' : List Int) {m j : Nat} : encMid dt dt' m j dt.length = encMid dt dt' m (j + 1) 0 := by
  refine enc_eq fun q hq => ?_
  have hlt := Nat.div_lt_of_lt_mul (show q < m * dt.length by rw [Nat.mul_comm]; exact hq)
  unfold encCell
  generalize q / m = x at *
  generalize q % m = y at *
  by_cases h : y < j + 1
  · rw [if_pos (by omega), if_pos (.inl h)]
  · rw [if_neg (by omega), if_neg (by omega)]

theorem encMid_all (dt dt' : List Int) (m : Nat) : encMid dt dt' m m 0 = encAll dt dt' m := by
  refine enc_eq fun q hq => ?_
  have hm : 0 < m := by
    rcases Nat.eq_zero_or_pos m with h | h
    · subst h; simp at hq
    · exact h
  unfold encCell
  rw [if_pos (.inl (Nat.mod_lt _ hm))]

theorem encLeft_bd {dt : List Int} {b : Int} (hd : ∀ k, k < dt.length → 0 ≤ dt.getD k 0) (hb : -1000000000000000 ≤ b ∧ b ≤ 1000000000000000) (t : Nat) (ht : t ≤ dt.length) : -1000000000000000 ≤ encLeft dt b t ∧ encLeft dt b t ≤ 1000000000000000 := by
  induction t with
  | zero => exact hb
  | succ t ih =>
    have h := ih (by omega)
    have ha := hd (dt.length - 1 - t) (by omega)
    unfold encLeft
    split
    · omega
    · rename_i h0
      generalize dt.getD (dt.length - 1 - t) 0 = a at *
      generalize encLeft dt b t = x at *
      have hpos : 0 < a := by omega
      constructor
      · exact (Int.le_ediv_iff_mul_le hpos).2 (by
          have : -1000000000000000 * a ≤ -1000000000000000 * 1 := by omega
          omega)
      · by_cases hx : 0 ≤ x
        · exact Int.le_trans (Int.ediv_le_self _ hx) h.2
        · have := Int.ediv_neg_of_neg_of_pos (show x < 0 by omega) hpos
          omega

theorem nonNeg_at {dt : List Int} (h : dt.all nonNeg = true) {q : Nat} (hq : q < dt.length) : 0 ≤ dt.getD q 0 := by
  have hm : dt.getD q 0 ∈ dt := by simp [List.getD, hq]
  have h2 := List.all_eq_true.1 h _ hm
  unfold nonNeg at h2
  exact of_decide_eq_true h2

theorem div_left {x a : Int} (ha : 0 < a) : (x - modOf a x).tdiv a = x / a := by
  have hm : modOf a x = x % a := by
    unfold modOf
    rw [if_neg (by omega)]
    have h1 := Int.tmod_lt_of_pos x ha
    have h2 : -a < x.tmod a := Int.lt_tmod_of_pos x ha
    have h3 := Int.mul_tdiv_add_tmod x a
    split
    · rename_i h
      have h4 : x.tmod a < 0 := by
        by_cases h4 : x.tmod a < 0
        · exact h4
        · exfalso; apply h.2; rw [decide_eq_false h4, decide_eq_false (by omega)]
      have := (Int.ediv_emod_unique (a := x) (r := x.tmod a + a) (q := x.tdiv a - 1) ha).2 ⟨by rw [Int.mul_sub, Int.mul_one]; omega, by omega, by omega⟩
      exact this.2.symm
    · rename_i h
      have h4 : ¬ x.tmod a < 0 := by
        intro h4
        apply h
        refine ⟨by omega, ?_⟩
        rw [decide_eq_true h4, decide_eq_false (by omega)]; simp
      have := (Int.ediv_emod_unique (a := x) (r := x.tmod a) (q := x.tdiv a) ha).2 ⟨by omega, by omega, by omega⟩
      exact this.2.symm
  rw [hm]
  have h := Int.mul_ediv_add_emod x a
  have e : x - x % a = a * (x / a) := by omega
  rw [e, Int.mul_tdiv_cancel_left _ (by omega)]

theorem encDigit_here {dt : List Int} {b : Int} {k : Nat} (hk : k < dt.length) : encDigit dt b (dt.length - 1 - k) = modOf (dt.getD (dt.length - 1 - k) 0) (encLeft dt b k) := by
  unfold encDigit
  rw [show dt.length - 1 - (dt.length - 1 - k) = k by omega]

theorem encLeft_step {dt : List Int} {b : Int} {k : Nat} (ha : 0 ≤ dt.getD (dt.length - 1 - k) 0) : encLeft dt b (k + 1) = (encLeft dt b k - modOf (dt.getD (dt.length - 1 - k) 0) (encLeft dt b k)).tdiv (if dt.getD (dt.length - 1 - k) 0 < 1 then 1 else dt.getD (dt.length - 1 - k) 0) := by
  rw [encLeft]
  generalize dt.getD (dt.length - 1 - k) 0 = a at *
  generalize encLeft dt b k = x
  by_cases h : a = 0
  · subst h; simp [modOf]
  · rw [if_neg h, if_neg (by omega), div_left (by omega)]

/-- The digits of b behind k rounds, from the last base on. -/
def digN (dt : List Int) (b : Int) (k : Nat) : List Int := (List.range dt.length).map fun i => if dt.length - k ≤ i then encDigit dt b i else 0
theorem digN_len (dt : List Int) (b : Int) (k : Nat) : (digN dt b k).length = dt.length := by simp [digN]
theorem digN_zero (dt : List Int) (b : Int) : digN dt b 0 = List.replicate dt.length 0 := by
  have e : List.replicate dt.length (0 : Int) = (List.range dt.length).map fun _ => 0 := by rw [List.map_const']; simp
  rw [e]
  exact enc_eq fun q hq => by rw [if_neg (by omega)]
theorem digN_step (dt : List Int) (b : Int) {k : Nat} (hk : k < dt.length) : (digN dt b k).set (dt.length - 1 - k) (encDigit dt b (dt.length - 1 - k)) = digN dt b (k + 1) := by
  unfold digN
  rw [enc_set]
  refine enc_eq fun q hq => ?_
  by_cases e : q = dt.length - 1 - k
  · rw [if_pos e, if_pos (by omega), e]
  · rw [if_neg e]
    by_cases h : dt.length - k ≤ q
    · rw [if_pos h, if_pos (by omega)]
    · rw [if_neg h, if_neg (by omega)]
theorem digN_all (dt : List Int) (b : Int) : digN dt b dt.length = (List.range dt.length).map (encDigit dt b) := enc_eq fun q _ => by rw [if_pos (by omega)]

def encode (c d : Bool) (sh dt sh' dt' : List Int) : Ans :=
  if arrOk c sh dt = true ∧ arrOk d sh' dt' = true then
    if listCode c sh.length ≠ 0 then noAns (listCode c sh.length)
    else if dt.all nonNeg = false then noAns 3
    else if d = true then noAns 3
    else if shapeB (sh ++ sh') = false then noAns 7
    else ⟨false, sh ++ sh', encAll dt dt' dt'.length, 0⟩
  else noAns 3

section
variable {c d : Bool} {sh dt sh' dt' : List Int}
theorem encode_bad1 (h : arrOk c sh dt = false) : encode c d sh dt sh' dt' = noAns 3 := by unfold encode; rw [if_neg (by simp [h])]
theorem encode_bad2 (h : arrOk d sh' dt' = false) : encode c d sh dt sh' dt' = noAns 3 := by unfold encode; rw [if_neg (by simp [h])]
theorem encode_list (h1 : arrOk c sh dt = true) (h2 : arrOk d sh' dt' = true) (r : Int) (h : listCode c sh.length = r) (hr : r ≠ 0) : encode c d sh dt sh' dt' = noAns r := by
  unfold encode; rw [if_pos ⟨h1, h2⟩, h, if_pos hr]
theorem encode_neg (h1 : arrOk c sh dt = true) (h2 : arrOk d sh' dt' = true) (h : listCode c sh.length = 0) (hn : dt.all nonNeg = false) : encode c d sh dt sh' dt' = noAns 3 := by
  unfold encode; rw [if_pos ⟨h1, h2⟩, if_neg (by simp [h]), if_pos hn]
theorem encode_char (h1 : arrOk c sh dt = true) (h2 : arrOk true sh' dt' = true) (h : listCode c sh.length = 0) (hn : dt.all nonNeg = true) : encode c true sh dt sh' dt' = noAns 3 := by
  unfold encode; rw [if_pos ⟨h1, h2⟩, if_neg (by simp [h]), if_neg (by simp [hn]), if_pos rfl]
theorem encode_big (h1 : arrOk c sh dt = true) (h2 : arrOk false sh' dt' = true) (h : listCode c sh.length = 0) (hn : dt.all nonNeg = true) (hs : shapeB (sh ++ sh') = false) : encode c false sh dt sh' dt' = noAns 7 := by
  unfold encode; rw [if_pos ⟨h1, h2⟩, if_neg (by simp [h]), if_neg (by simp [hn]), if_neg (by simp), if_pos hs]
theorem encode_go (h1 : arrOk c sh dt = true) (h2 : arrOk false sh' dt' = true) (h : listCode c sh.length = 0) (hn : dt.all nonNeg = true) (hs : shapeB (sh ++ sh') = true) : encode c false sh dt sh' dt' = ⟨false, sh ++ sh', encAll dt dt' dt'.length, 0⟩ := by
  unfold encode; rw [if_pos ⟨h1, h2⟩, if_neg (by simp [h]), if_neg (by simp [hn]), if_neg (by simp), if_neg (by simp [hs])]
end

end Go.Proofs.YtkgcmpmgaghdhaaGreatDoor
namespace Go.Proofs.YtkgcmpmgaghdhaaGreatDoor

/-- The first k of n numbers, 0 for the others. -/
def soFar (f : Nat → Int) (n k : Nat) : List Int := (List.range n).map fun i => if i < k then f i else 0

theorem soFar_len (f : Nat → Int) (n k : Nat) : (soFar f n k).length = n := by simp [soFar]
theorem soFar_zero (f : Nat → Int) (n : Nat) : soFar f n 0 = List.replicate n 0 := by
  have e : List.replicate n (0 : Int) = (List.range n).map fun _ => 0 := by rw [List.map_const']; simp
  rw [e]
  exact enc_eq fun q _ => by rw [if_neg (by omega)]
theorem soFar_step (f : Nat → Int) (n k : Nat) : (soFar f n k).set k (f k) = soFar f n (k + 1) := by
  unfold soFar
  rw [enc_set]
  refine enc_eq fun q _ => ?_
  by_cases e : q = k
  · rw [if_pos e, if_pos (by omega), e]
  · rw [if_neg e]
    by_cases h : q < k
    · rw [if_pos h, if_pos (by omega)]
    · rw [if_neg h, if_neg (by omega)]
theorem soFar_all (f : Nat → Int) (n : Nat) : soFar f n n = (List.range n).map f := enc_eq fun q hq => by rw [if_pos hq]

/-- The first place, from 1 on, at which x of kind c stands among numbers of kind d; else 0. -/
def placeAmong (c d : Bool) (dt' : List Int) (x : Int) : Int := if c = d then seenAt dt' x dt'.length else 0

theorem placeAmong_bd (c d : Bool) (dt' : List Int) (x : Int) : 0 ≤ placeAmong c d dt' x ∧ placeAmong c d dt' x ≤ dt'.length := by
  unfold placeAmong
  split
  · exact seenAt_bd _ _ _ (Nat.le_refl _)
  · omega

theorem placeAmong_first (c d : Bool) (dt' : List Int) (x : Int) : placeAmong c d dt' x = if firstOf d dt' x c < dt'.length then ((firstOf d dt' x c : Nat) : Int) + 1 else 0 := by
  unfold placeAmong firstOf
  by_cases h : c = d
  · subst h; rw [if_pos rfl, if_pos rfl, seenAt_all]
  · have h' : ¬ d = c := fun e => h e.symm
    simp [h, h']

end Go.Proofs.YtkgcmpmgaghdhaaGreatDoor
namespace Go.Proofs.YtkgcmpmgaghdhaaGreatDoor
open Go.RowKit

set_option maxHeartbeats 400000 in
theorem Clone_any (ad : Addr) (n cap : Nat) (zs : List Int) (w : World) (h : Row w (some ad) n zs) :
    Calls Tryz.prog 65 #[.slice (some ad) n cap] w fun e w' => ∃ a' cap', e = .returned (.slice a' n cap') ∧ n ≤ cap' ∧ Own w' w.heap.size a' n zs ∧ Below w.heap.size w w' := by
  have hl := h.len
  have hs := h.small
  have H := hide h
  clear h
  obtain ⟨i0, hi, hz0, hz1, hz2⟩ := info_parts info_int
  have qT : ∀ (w : World) (a : Option Addr) (n c n' c' : Nat), (binOp .eql 23 (.slice a n c) (.slice none n' c')).run Tryz.prog w = .ok (.bool a.isNone) w := fun w a n c n' c' => Lib.run_eql_slice_nil w _ _ a n c n' c' Tryz.underlying23
  go_enter Tryz.func65, Tryz.ntmps65
  go_wp2_with (at_builtin; refine wpList_append_own _ rfl _ _ 23 rfl w.heap.size 3 i0 (.int .i64 0) 1 8 Tryz.underlying23 hi hz0 hz1 hz2 rfl (by decide) _ _ _ rfl (owns_empty w) ad n cap (zs.map (Value.int .i64)) rfl (by simpa using hl) (cells_ints ((unhide H).alloc _)) (one_ints zs) (by unfold maxLen; omega) (by omega) (by simp) ?_; intro v1 w1 hown hgrow hnil)
  clear hnil
  have hown' : w1.ownsRow w.heap.size 3 1 v1 n (zs.map (Value.int .i64)) := by simpa using hown
  obtain ⟨a', cap', rfl, ho⟩ := Own.of_owns hown' hs
  have hbel : Below w.heap.size w w1 := ((Below.refl _ _).alloc (Nat.le_refl _) _).grown hgrow (by simp) (by intro k hk; cases hk; exact Nat.le_refl _)
  have hcap : n ≤ cap' := by
    rcases hown'.2 with ⟨h', h0⟩ | ⟨g', c', cur, h', _, _, hle, _⟩
    · simp at h'; omega
    · cases h'; omega
  clear hown hgrow hown'
  go_wp2
  go_ret
  exact ⟨_, _, rfl, hcap, ho, hbel⟩

set_option maxHeartbeats 400000 in
theorem Clone_nil (cap : Nat) (w : World) :
    Calls Tryz.prog 65 #[.slice none 0 cap] w fun e w' => e = .returned (.slice none 0 0) ∧ w' = w := by
  have qT : ∀ (w : World) (a : Option Addr) (n c n' c' : Nat), (binOp .eql 23 (.slice a n c) (.slice none n' c')).run Tryz.prog w = .ok (.bool a.isNone) w := fun w a n c n' c' => Lib.run_eql_slice_nil w _ _ a n c n' c' Tryz.underlying23
  go_enter Tryz.func65, Tryz.ntmps65
  go_wp2
  go_ret
  exact ⟨rfl, rfl⟩

/-- A copy of a slice that may be nil. -/
theorem Clone_opt (ad : Option Addr) (n cap : Nat) (zs : List Int) (w : World) (h : Row w ad n zs) :
    Calls Tryz.prog 65 #[.slice ad n cap] w fun e w' => ∃ a' cap', e = .returned (.slice a' n cap') ∧ n ≤ cap' ∧ Own w' w.heap.size a' n zs ∧ Below w.heap.size w w' := by
  cases ad with
  | some a => exact Clone_any a n cap zs w h
  | none =>
    have h0 : n = 0 := by
      rcases Nat.eq_zero_or_pos n with h0 | h0
      · exact h0
      · obtain ⟨b, o, e, _⟩ := h.get h0
        cases e
    have hl := h.len
    subst h0
    obtain rfl : zs = [] := List.length_eq_zero_iff.1 hl
    refine (Clone_nil cap w).mono ?_
    rintro e w' ⟨rfl, rfl⟩
    exact ⟨none, 0, rfl, Nat.le_refl _, ⟨rfl, by omega, .inl rfl⟩, Below.refl _ _⟩

end Go.Proofs.YtkgcmpmgaghdhaaGreatDoor
namespace Go.Proofs.YtkgcmpmgaghdhaaGreatDoor
open Go.RowKit Go.Shelf Go.Maps

/-- A box of the call's own holds an array of the shape zs with N zeros. -/
def GotS (wz : World) (zs : List Int) (n N : Nat) (v : Value) (wx : World) : Prop :=
  ∃ pb gd ash csh, v = .pointer (some ⟨pb, 0, none⟩) ∧ wz.heap.size ≤ pb ∧ Box wx pb false (.slice ash n csh) (.slice (some ⟨gd, 0, none⟩) N N) ∧ wz.heap.size ≤ gd ∧ gd ≠ pb ∧ Blk wx gd (List.replicate N 0) ∧ Own wx wz.heap.size ash n zs ∧ ¬ At ash n gd ∧ ¬ At ash n pb ∧ Below wz.heap.size wz wx

abbrev madeB (N : Nat) : Obj := .cells (madeCells #[.int .i64 0] N) 3
abbrev boxB (v1 v2 : Value) : Obj := .cells #[.bool false, v1, v2] 25

theorem Below.undrew {B : Nat} {w w' : World} (h : Below B w.drew w') : Below B w w' := ⟨h.os, h.tape, h.output, h.size, h.block⟩

section
variable {wz wy wC : World} {zs : List Int} {n N csh : Nat} {ash : Option Addr}

theorem GotS.set {W : World} {pb gd : Nat} {c : Bool} {v1 v2 : Value} (hpb : wz.heap.size ≤ pb) (hb : Box W pb c v1 v2) (hg : wz.heap.size ≤ gd) (hne : gd ≠ pb) (hB : Blk W gd (List.replicate N 0)) (hO : Own W wz.heap.size ash n zs) (h1 : ¬ At ash n gd) (h2 : ¬ At ash n pb) (hbl : Below wz.heap.size wz W) :
    GotS wz zs n N (.pointer (some ⟨pb, 0, none⟩)) (((W.setCell ⟨pb, 0, none⟩ (.bool false)).setCell ⟨pb, 1, none⟩ (.slice ash n csh)).setCell ⟨pb, 2, none⟩ (.slice (some ⟨gd, 0, none⟩) N N)) := by
  have hk : ∀ k, At ash n k → k ≠ pb := fun k hk e => h2 (e ▸ hk)
  exact ⟨pb, gd, ash, csh, rfl, hpb, hb.sets, hg, hne, ((hB.other (p := ⟨pb, 0, none⟩) hne _).other (p := ⟨pb, 1, none⟩) hne _).other (p := ⟨pb, 2, none⟩) hne _, ((hO.other (q := ⟨pb, 0, none⟩) hk _).other (q := ⟨pb, 1, none⟩) hk _).other (q := ⟨pb, 2, none⟩) hk _, h1, h2, ((hbl.setCell (p := ⟨pb, 0, none⟩) hpb _).setCell (p := ⟨pb, 1, none⟩) hpb _).setCell (p := ⟨pb, 2, none⟩) hpb _⟩

theorem GotS.new {W : World} {gd : Nat} (hz : wz.heap.size ≤ W.heap.size) (hg : wz.heap.size ≤ gd) (hB : Blk W gd (List.replicate N 0)) (hO : Own W wz.heap.size ash n zs) (h1 : ¬ At ash n gd) (hbl : Below wz.heap.size wz W) :
    GotS wz zs n N (.pointer (some ⟨W.heap.size, 0, none⟩)) (W.alloc (boxB (.slice ash n csh) (.slice (some ⟨gd, 0, none⟩) N N))) :=
  ⟨W.heap.size, gd, ash, csh, rfl, hz, Box.new W _ _ _, hg, by have := hB.lt; omega, hB.alloc _, hO.alloc _, h1, fun h => by have := hO.row.hi h; omega, hbl.alloc hz _⟩

theorem ordCMA (hO : Own wC wz.heap.size ash n zs) (hb : Below wz.heap.size wz wC) : GotS wz zs n N (.pointer (some ⟨wC.heap.size + 1, 0, none⟩)) ((wC.alloc (madeB N)).alloc (boxB (.slice ash n csh) (.slice (some ⟨wC.heap.size, 0, none⟩) N N))) := by
  have h := GotS.new (wz := wz) (W := wC.alloc (madeB N)) (gd := wC.heap.size) (csh := csh) (by have := hb.size; simp; omega) hb.size (Blk.made wC N _ rfl) (hO.alloc _) (fun h => by have := hO.row.hi h; omega) (hb.alloc hb.size _)
  rwa [World.size_alloc] at h

theorem ordMCA (hO : Own wC (wy.heap.size + 1) ash n zs) (hy : wy.heap.size = wz.heap.size) (hz : Below wz.heap.size wz wy) (hb : Below (wy.alloc (madeB N)).heap.size (wy.alloc (madeB N)) wC) : GotS wz zs n N (.pointer (some ⟨wC.heap.size, 0, none⟩)) (wC.alloc (boxB (.slice ash n csh) (.slice (some ⟨wz.heap.size, 0, none⟩) N N))) := by
  have hyz : wz.heap.size = wy.heap.size := hy.symm
  suffices hsuf : GotS wz zs n N (.pointer (some ⟨wC.heap.size, 0, none⟩)) (wC.alloc (boxB (.slice ash n csh) (.slice (some ⟨wy.heap.size, 0, none⟩) N N))) by rw [hyz]; exact hsuf
  have hs := hb.size
  rw [World.size_alloc] at hs
  exact GotS.new (by omega) (by omega) ((Blk.made wy N _ rfl).below (Nat.le_refl _) hb) (hO.mono (by omega)) (fun h => by have := hO.low h; omega) ((hz.alloc (by omega) _).trans (hb.mono (by simp; omega)))

theorem ordCAM (hO : Own wC wz.heap.size ash n zs) (hb : Below wz.heap.size wz wC) : GotS wz zs n N (.pointer (some ⟨wC.heap.size, 0, none⟩)) ((wC.alloc (boxB (.slice ash n csh) (.slice (some ⟨wC.heap.size + 1, 0, none⟩) N N))).alloc (madeB N)) :=
  ⟨wC.heap.size, wC.heap.size + 1, ash, csh, rfl, hb.size, (Box.new wC false _ _).alloc _, by have := hb.size; omega, by omega, Blk.made _ N _ (by simp), (hO.alloc _).alloc _, fun h => by have := hO.row.hi h; omega, fun h => by have := hO.row.hi h; omega, (hb.alloc hb.size _).alloc (by have := hb.size; simp; omega) _⟩

theorem ordACM (hO : Own wC (wy.heap.size + 1) ash n zs) (hy : wy.heap.size = wz.heap.size) (hz : Below wz.heap.size wz wy) (hb : Below (wy.alloc (boxB (.slice none 0 0) (.slice none 0 0))).heap.size (wy.alloc (boxB (.slice none 0 0) (.slice none 0 0))) wC) : GotS wz zs n N (.pointer (some ⟨wz.heap.size, 0, none⟩)) ((((wC.setCell ⟨wz.heap.size, 0, none⟩ (.bool false)).setCell ⟨wz.heap.size, 1, none⟩ (.slice ash n csh)).setCell ⟨wz.heap.size, 2, none⟩ (.slice (some ⟨wC.heap.size, 0, none⟩) N N)).alloc (madeB N)) := by
  have hyz : wz.heap.size = wy.heap.size := hy.symm
  suffices hsuf : GotS wz zs n N (.pointer (some ⟨wy.heap.size, 0, none⟩)) ((((wC.setCell ⟨wy.heap.size, 0, none⟩ (.bool false)).setCell ⟨wy.heap.size, 1, none⟩ (.slice ash n csh)).setCell ⟨wy.heap.size, 2, none⟩ (.slice (some ⟨wC.heap.size, 0, none⟩) N N)).alloc (madeB N)) by rw [hyz]; exact hsuf
  have hs := hb.size
  rw [World.size_alloc] at hs
  have hk : ∀ k, At ash n k → k ≠ wy.heap.size := fun k h e => by have := hO.low h; omega
  have hbx := (Box.new wy false (.slice none 0 0) (.slice none 0 0)).below (Nat.le_refl _) hb
  have hzs : (((wC.setCell ⟨wy.heap.size, 0, none⟩ (.bool false)).setCell ⟨wy.heap.size, 1, none⟩ (.slice ash n csh)).setCell ⟨wy.heap.size, 2, none⟩ (.slice (some ⟨wC.heap.size, 0, none⟩) N N)).heap.size = wC.heap.size := by simp
  have hbl : Below wz.heap.size wz wC := (hz.alloc (by omega) _).trans (hb.mono (by simp; omega))
  refine ⟨wy.heap.size, wC.heap.size, ash, csh, rfl, by omega, hbx.sets.alloc _, by omega, by omega, Blk.made _ N _ hzs.symm, ((((hO.mono (by omega)).other (q := ⟨wy.heap.size, 0, none⟩) hk _).other (q := ⟨wy.heap.size, 1, none⟩) hk _).other (q := ⟨wy.heap.size, 2, none⟩) hk _).alloc _, fun h => by have := hO.row.hi h; omega, fun h => hk _ h rfl, ?_⟩
  exact (((hbl.setCell (p := ⟨wy.heap.size, 0, none⟩) (by show _ ≤ wy.heap.size; omega) _).setCell (p := ⟨wy.heap.size, 1, none⟩) (by show _ ≤ wy.heap.size; omega) _).setCell (p := ⟨wy.heap.size, 2, none⟩) (by show _ ≤ wy.heap.size; omega) _).alloc (by rw [hzs]; exact hbl.size) _

theorem ordAMC (hO : Own wC (wy.heap.size + 1 + 1) ash n zs) (hy : wy.heap.size = wz.heap.size) (hz : Below wz.heap.size wz wy) (hb : Below ((wy.alloc (boxB (.slice none 0 0) (.slice none 0 0))).alloc (madeB N)).heap.size ((wy.alloc (boxB (.slice none 0 0) (.slice none 0 0))).alloc (madeB N)) wC) : GotS wz zs n N (.pointer (some ⟨wz.heap.size, 0, none⟩)) (((wC.setCell ⟨wz.heap.size, 0, none⟩ (.bool false)).setCell ⟨wz.heap.size, 1, none⟩ (.slice ash n csh)).setCell ⟨wz.heap.size, 2, none⟩ (.slice (some ⟨wz.heap.size + 1, 0, none⟩) N N)) := by
  have hyz : wz.heap.size = wy.heap.size := hy.symm
  suffices hsuf : GotS wz zs n N (.pointer (some ⟨wy.heap.size, 0, none⟩)) (((wC.setCell ⟨wy.heap.size, 0, none⟩ (.bool false)).setCell ⟨wy.heap.size, 1, none⟩ (.slice ash n csh)).setCell ⟨wy.heap.size, 2, none⟩ (.slice (some ⟨wy.heap.size + 1, 0, none⟩) N N)) by rw [hyz]; exact hsuf
  have hs := hb.size
  rw [World.size_alloc, World.size_alloc] at hs
  refine GotS.set (by omega) (((Box.new wy false _ _).alloc _).below (Nat.le_refl _) hb) (by omega) (by omega) ((Blk.made _ N _ (by simp)).below (Nat.le_refl _) hb) (hO.mono (by omega)) (fun h => by have := hO.low h; omega) (fun h => by have := hO.low h; omega) (((hz.alloc (by omega) _).alloc (by simp; omega) _).trans (hb.mono (by simp; omega)))

theorem ordMAC (hO : Own wC (wy.heap.size + 1 + 1) ash n zs) (hy : wy.heap.size = wz.heap.size) (hz : Below wz.heap.size wz wy) (hb : Below ((wy.alloc (madeB N)).alloc (boxB (.slice none 0 0) (.slice none 0 0))).heap.size ((wy.alloc (madeB N)).alloc (boxB (.slice none 0 0) (.slice none 0 0))) wC) : GotS wz zs n N (.pointer (some ⟨wz.heap.size + 1, 0, none⟩)) (((wC.setCell ⟨wz.heap.size + 1, 0, none⟩ (.bool false)).setCell ⟨wz.heap.size + 1, 1, none⟩ (.slice ash n csh)).setCell ⟨wz.heap.size + 1, 2, none⟩ (.slice (some ⟨wz.heap.size, 0, none⟩) N N)) := by
  have hyz : wz.heap.size = wy.heap.size := hy.symm
  suffices hsuf : GotS wz zs n N (.pointer (some ⟨wy.heap.size + 1, 0, none⟩)) (((wC.setCell ⟨wy.heap.size + 1, 0, none⟩ (.bool false)).setCell ⟨wy.heap.size + 1, 1, none⟩ (.slice ash n csh)).setCell ⟨wy.heap.size + 1, 2, none⟩ (.slice (some ⟨wy.heap.size, 0, none⟩) N N)) by rw [hyz]; exact hsuf
  have hs := hb.size
  rw [World.size_alloc, World.size_alloc] at hs
  have hbx := Box.new (wy.alloc (madeB N)) false (.slice none 0 0) (.slice none 0 0)
  rw [World.size_alloc] at hbx
  refine GotS.set (by omega) (hbx.below (Nat.le_refl _) hb) (by omega) (by omega) (((Blk.made _ N _ rfl).alloc _).below (Nat.le_refl _) hb) (hO.mono (by omega)) (fun h => by have := hO.low h; omega) (fun h => by have := hO.low h; omega) (((hz.alloc (by omega) _).alloc (by simp; omega) _).trans (hb.mono (by simp; omega)))
end

end Go.Proofs.YtkgcmpmgaghdhaaGreatDoor
namespace Go.Proofs.YtkgcmpmgaghdhaaGreatDoor
open Go.RowKit Go.Shelf Go.Maps

/-- The map that v is says of each number what placeAmong says. -/
def MapOf (wz : World) (c d : Bool) (dt' : List Int) (v : Value) (wx : World) : Prop :=
  ∃ B N D, v = .map (some B) ∧ wx.ownsMap Tryz.prog 3 (plainElem (H := Unit) Tryz.prog 3) B N D ∧ (∀ x : Int, D.atKey (.int .i64 x) (.lit (.int .i64 0)) = .lit (.int .i64 (placeAmong c d dt' x))) ∧ Below wz.heap.size wz wx

theorem ownsMap_below {w w' : World} {p k B : Nat} {D : DataW Unit} (h : w.ownsMap Tryz.prog 3 (plainElem Tryz.prog 3) p k D) (hB : p < B) (hb : Below B w w') : w'.ownsMap Tryz.prog 3 (plainElem Tryz.prog 3) p k D := by
  obtain ⟨es, clock, h1, r⟩ := h
  exact ⟨es, clock, (hb.block p hB).trans h1, r⟩

theorem ownsMap_but {S : Nat → Prop} {w w' : World} {p k : Nat} {D : DataW Unit} (h : w.ownsMap Tryz.prog 3 (plainElem Tryz.prog 3) p k D) (hp : p < w.heap.size) (hS : ¬ S p) (hb : But S w w') : w'.ownsMap Tryz.prog 3 (plainElem Tryz.prog 3) p k D := by
  obtain ⟨es, clock, h1, r⟩ := h
  exact ⟨es, clock, (hb.block p hp hS).trans h1, r⟩

theorem map_look {w : World} {p k : Nat} {D : DataW Unit} {x v : Int} (h : w.ownsMap Tryz.prog 3 (plainElem Tryz.prog 3) p k D) (hx : -1000000000000000 ≤ x ∧ x ≤ 1000000000000000) (hv : D.atKey (.int .i64 x) (.lit (.int .i64 0)) = .lit (.int .i64 v)) : (Instr.lookup 118 (.map (some p)) (.int .i64 x) false).run Tryz.prog w = .ok (.int .i64 v) w := by
  obtain ⟨c, hrun, hat, _⟩ := h.lookup_int lawInt Tryz.underlying118 Tryz.underlying3 (zeroInt _) (keyOf_int_mk Tryz.underlying3 (a := x) (WalkArith.wf_i64 (by omega)))
  rw [hv] at hat
  cases hat
  exact hrun

theorem cl_box1 (w : World) {wC : World} (h : Below (w.drew.alloc (boxB (.slice none 0 0) (.slice none 0 0))).heap.size (w.drew.alloc (boxB (.slice none 0 0) (.slice none 0 0))) wC) : Box wC w.heap.size false (.slice none 0 0) (.slice none 0 0) := (Box.new w.drew false _ _).below (Nat.le_refl _) h
theorem cl_box2 (w : World) (N : Nat) {wC : World} (h : Below ((w.drew.alloc (boxB (.slice none 0 0) (.slice none 0 0))).alloc (madeB N)).heap.size ((w.drew.alloc (boxB (.slice none 0 0) (.slice none 0 0))).alloc (madeB N)) wC) : Box wC w.heap.size false (.slice none 0 0) (.slice none 0 0) := ((Box.new w.drew false _ _).alloc _).below (Nat.le_refl _) h
theorem cl_box3 (w : World) (N : Nat) {wC : World} (h : Below ((w.drew.alloc (madeB N)).alloc (boxB (.slice none 0 0) (.slice none 0 0))).heap.size ((w.drew.alloc (madeB N)).alloc (boxB (.slice none 0 0) (.slice none 0 0))) wC) : Box wC (w.heap.size + 1) false (.slice none 0 0) (.slice none 0 0) := by
  have := Box.new (w.drew.alloc (madeB N)) false (.slice none 0 0) (.slice none 0 0)
  rw [World.size_alloc] at this
  exact this.below (Nat.le_refl _) h

theorem Row.drew' {w : World} {a : Option Addr} {n : Nat} {zs : List Int} (h : Row w a n zs) : Row w.drew a n zs := ⟨h.len, h.small, h.at_⟩

set_option maxRecDepth 20000 in
set_option maxHeartbeats 4000000 in
theorem sought_any (c d : Bool) (a1 : Addr) (a2 b1 b2 : Option Addr) (n1 n2 m1 m2 c1 c2 d1 d2 : Nat) (sh dt dt' : List Int) (g : Nat) (lb : Array Value) (eg : ∀ args w, (callFunc g args).run Tryz.prog w = .ok (.enter g args) w) (f : Nat → Int) (w : World)
    (h1 : Row w (some a1) n1 sh) (h2 : Row w a2 n2 dt) (k2 : Row w b2 m2 dt') (hn2 : n2 ≤ 10000) (hm2 : m2 ≤ 10000)
    (hdt : ∀ k, k < dt.length → -1000000000000000 ≤ dt.getD k 0 ∧ dt.getD k 0 ≤ 1000000000000000) (hdt' : ∀ k, k < dt'.length → -1000000000000000 ≤ dt'.getD k 0 ∧ dt'.getD k 0 ≤ 1000000000000000)
    (hsaid : ∀ k W, k < n2 → Below w.heap.size w W → Calls Tryz.prog g (#[.int .i64 (placeAmong c d dt' (dt.getD k 0))] ++ lb) W fun e w' => e = .returned (.int .i64 (f k)) ∧ Below W.heap.size W w') :
    Calls Tryz.prog 44 #[.agg #[.bool c, .slice (some a1) n1 c1, .slice a2 n2 c2], .agg #[.bool d, .slice b1 m1 d1, .slice b2 m2 d2], .func (.func g) #[] lb] w fun e w' => ∃ ash csh gd, e = .returned (.agg #[.bool false, .slice ash n1 csh, .slice (some ⟨gd, 0, none⟩) n2 n2]) ∧ Own w' w.heap.size ash n1 sh ∧ w.heap.size ≤ gd ∧ Blk w' gd ((List.range n2).map f) ∧ ¬ At ash n1 gd ∧ Below w.heap.size w w' := by
  have hl2 := hide h2.len
  have H1 := hide h1
  have H2 := hide h2
  have K2 := hide k2
  have HDT := hide hdt
  have HDT' := hide hdt'
  have HSD := hide hsaid
  clear h1 h2 k2 hdt hdt' hsaid
  obtain ⟨wz, hwz⟩ : ∃ wz, wz = (((w.alloc (.cells #[.bool c, .slice (some a1) n1 c1, .slice a2 n2 c2] 25)).alloc (.cells #[.bool d, .slice b1 m1 d1, .slice b2 m2 d2] 25)).alloc (.cells #[.bool false, .slice none 0 0, .slice none 0 0] 25)).alloc (.map #[] 0) := ⟨_, rfl⟩
  obtain ⟨p, hp⟩ : ∃ p, p = w.heap.size := ⟨_, rfl⟩
  have hzz : wz.heap.size = p + 1 + 1 + 1 + 1 := by rw [hwz, hp]; simp
  have HZ0 : Hid (Box wz p c (.slice (some a1) n1 c1) (.slice a2 n2 c2)) := by rw [hwz, hp]; exact (((Box.new w _ _ _).alloc _).alloc _).alloc _
  have HZ1 : Hid (Box wz (p + 1) d (.slice b1 m1 d1) (.slice b2 m2 d2)) := by
    rw [hwz, hp]
    have := Box.new (w.alloc (.cells #[.bool c, .slice (some a1) n1 c1, .slice a2 n2 c2] 25)) d (.slice b1 m1 d1) (.slice b2 m2 d2)
    rw [World.size_alloc] at this
    exact (this.alloc _).alloc _
  have HZ2 : Hid (Box wz (p + 1 + 1) false (.slice none 0 0) (.slice none 0 0)) := by
    rw [hwz, hp]
    have := Box.new ((w.alloc (.cells #[.bool c, .slice (some a1) n1 c1, .slice a2 n2 c2] 25)).alloc (.cells #[.bool d, .slice b1 m1 d1, .slice b2 m2 d2] 25)) false (.slice none 0 0) (.slice none 0 0)
    rw [World.size_alloc, World.size_alloc] at this
    exact this.alloc _
  have HZM : Hid (wz.ownsMap Tryz.prog 3 (plainElem (H := Unit) Tryz.prog 3) (p + 1 + 1 + 1) 0 (.map [])) := by
    rw [hwz, hp]
    have := World.ownsMap_made (H := Unit) (((w.alloc (.cells #[.bool c, .slice (some a1) n1 c1, .slice a2 n2 c2] 25)).alloc (.cells #[.bool d, .slice b1 m1 d1, .slice b2 m2 d2] 25)).alloc (.cells #[.bool false, .slice none 0 0, .slice none 0 0] 25)) Tryz.prog 3 (plainElem Tryz.prog 3)
    rw [World.size_alloc, World.size_alloc, World.size_alloc] at this
    exact this
  have HZB : Hid (Below p w wz) := by rw [hwz, hp]; exact ((((Below.refl _ w).alloc (Nat.le_refl _) _).alloc (by simp) _).alloc (by simp; omega) _).alloc (by simp; omega) _
  have HWZ := hide hwz
  have HP := hide hp
  have hmm := @run_makeMap Tryz.prog
  clear hwz
  go_enter Tryz.func44, Tryz.ntmps44
  go_upto_if 16 with fail
  rw [← hp, ← HWZ.out]
  have hzl : p + 1 + 1 + 1 < wz.heap.size := by omega
  have hmk := run_make_row' (P := Tryz.prog) 23 3 (.int .i64 0) 8 Tryz.underlying23 info_int rfl .i64 .i64 n2 (by omega) (by omega)
  have H1Z := hide (H1.out.below (by omega) HZB.out)
  have H2Z := hide (H2.out.below (by omega) HZB.out)
  have K2Z := hide (K2.out.below (by omega) HZB.out)
  have HP1 : Hid (∀ q, At (some a1) n1 q → q < p) := fun q h => by rw [hp]; exact H1.out.hi h
  have HP2 : Hid (∀ q, At a2 n2 q → q < p) := fun q h => by rw [hp]; exact H2.out.hi h
  clear hp hzz HWZ hmm H1 H2 K2
  go_cut [7] (fun v wx => MapOf wz c d dt' v wx)
  case first =>
    obtain ⟨y0, y1, y2, _, _, _⟩ := HZ1.out.all
    by_cases hcd : c = d
    · subst hcd
      rw [show (c == c) = true by simp]
      go_wp2_with (go_at_call 114; refine (firstPlaces_any b2 m2 d2 dt' _ K2Z.out hm2 HDT'.out).mono ?_; rintro e wF ⟨B, rfl, hB, hown, hbl⟩)
      go_meet
      case rel => exact ⟨B, m2, _, rfl, hown, fun x => by rw [placesD_at]; unfold placeAmong; rw [if_pos rfl, K2Z.out.len], hbl⟩
    · rw [show (c == d) = false by simp [hcd]]
      go_wp2_with fail
      go_meet
      case rel => exact ⟨_, 0, _, rfl, HZM.out, fun x => by unfold placeAmong; rw [if_neg hcd]; rfl, Below.refl _ _⟩
  case rest =>
    obtain ⟨w3, hw3⟩ : ∃ x, x = wc := ⟨_, rfl⟩
    subst hw3
    obtain ⟨B, N, D, rfl, hM, hD, hB3⟩ := hcut
    have hz3 := hB3.size
    have hBl := hM.lt
    have HM := hide hM
    have HD := hide hD
    have HB3 := hide hB3
    have HX0 : Hid (Box w3 p c (.slice (some a1) n1 c1) (.slice a2 n2 c2)) := HZ0.out.below (Nat.le_refl _) hB3
    have HX2 : Hid (Box w3 (p + 1 + 1) false (.slice none 0 0) (.slice none 0 0)) := HZ2.out.below (Nat.le_refl _) hB3
    have H13 := hide (H1Z.out.below (Nat.le_refl _) hB3)
    have H23 := hide (H2Z.out.below (Nat.le_refl _) hB3)
    have HWB : Hid (Below p w w3) := HZB.out.trans (hB3.mono (by omega))
    clear hM hD hB3 HZ0 HZ1 HZ2 HZM HZB H1Z H2Z K2Z HDT'
    go_upto_region 4 with fail
    go_cut [8] (fun v wx => GotS w3 sh n1 n2 v wx)
    case first =>
      have HKEEP : ∀ wx, Below w3.heap.size w3 wx → wx.cell? ⟨p, 1, none⟩ = some (.slice (some a1) n1 c1) ∧ wx.cell? ⟨p, 2, none⟩ = some (.slice a2 n2 c2) := fun wx hwx => by
        obtain ⟨x0, x1, x2, _, _, _⟩ := HX0.out.all
        exact ⟨(hwx.cell (p := ⟨p, 1, none⟩) (by show p < _; omega)).trans x1, (hwx.cell (p := ⟨p, 2, none⟩) (by show p < _; omega)).trans x2⟩
      obtain ⟨x1, x2⟩ := HKEEP _ (Below.refl _ _)
      have hyz : w3.drew.heap.size = w3.heap.size := rfl
      have HYB : Hid (Below w3.heap.size w3 w3.drew) := (Below.refl _ _).drew
      have HYS := hide hyz
      clear hyz
      go_region_held3 (fun wx => wx.cell? ⟨p, 1, none⟩ = some (.slice (some a1) n1 c1) ∧ wx.cell? ⟨p, 2, none⟩ = some (.slice a2 n2 c2)) (first | (refine HKEEP _ ?_; repeat (first | exact hKC | exact Below.refl _ _ | refine Below.drew ?_ | refine Below.alloc ?_ (by first | exact Nat.le_refl _ | exact hKC.size | (have := hKC.size; simp <;> omega) | (simp <;> omega)) _ | refine Below.setCell ?_ (by first | exact hKC.size | (have := hKC.size; simp <;> omega) | (simp <;> omega)) _)))
        (first
        | (go_at_call 65; go_loud (refine (Clone_any a1 n1 c1 sh _ (by first | exact H13.out.drew' | exact H13.out.drew'.alloc _ | exact (H13.out.drew'.alloc _).alloc _)).mono ?_); rintro e wC ⟨ash, csh, rfl, hcap, hO, hbC⟩; have hKC : Below w3.heap.size w3 wC := (by refine Below.trans ?_ (hbC.mono (by first | exact Nat.le_refl _ | (simp <;> omega))); repeat (first | exact Below.refl _ _ | refine Below.drew ?_ | refine Below.alloc ?_ (by first | exact Nat.le_refl _ | (simp <;> omega)) _)); have HO := hide hO; have HBC := hide hbC; (first | (have hPC := hide (cl_box1 w3 hbC)) | (have hPC := hide (cl_box2 w3 n2 hbC)) | (have hPC := hide (cl_box3 w3 n2 hbC)) | skip); (first | (obtain ⟨r0, r1, r2, r3, r4, r5, r6⟩ := hPC.out.all) | skip); clear hcap hO hbC x1 x2; obtain ⟨x1, x2⟩ := HKEEP _ hKC))
      all_goals go_wp2_with fail
      · go_meet
        case rel => exact ordCMA HO.out hKC
      · go_meet
        case rel => exact ordCAM HO.out hKC
      · go_meet
        case rel => exact ordMCA (wy := w3) (HO.out.mono (by simp)) rfl (Below.refl _ _) (Below.undrew HBC.out)
      · go_meet
        case rel => exact ordMAC (wy := w3) (HO.out.mono (by simp)) rfl (Below.refl _ _) (Below.undrew HBC.out)
      · go_meet
        case rel => exact ordACM (wy := w3) (HO.out.mono (by simp)) rfl (Below.refl _ _) (Below.undrew HBC.out)
      · go_meet
        case rel => exact ordAMC (wy := w3) (HO.out.mono (by simp)) rfl (Below.refl _ _) (Below.undrew HBC.out)
    case rest =>
      obtain ⟨w4, hw4⟩ : ∃ x, x = wc := ⟨_, rfl⟩
      subst hw4
      obtain ⟨pb, gd, ash, csh, rfl, hpb, hbx, hgz, hne, hBk, hO, hag, hap, hb4⟩ := hcut
      have hz4 := hb4.size
      have hpl := hbx.all.2.2.2.2.2.2
      have hgl := hBk.lt
      have HBX := hide hbx
      have HBK : Hid (Blk w4 gd (soFar f n2 0)) := by show Blk _ _ _; rw [soFar_zero]; exact hBk
      have HO := hide hO
      have HAG := hide hag
      have HAP := hide hap
      have HB4 := hide hb4
      have HX04 : Hid (Box w4 p c (.slice (some a1) n1 c1) (.slice a2 n2 c2)) := HX0.out.below (Nat.le_refl _) hb4
      have HX24 : Hid (Box w4 (p + 1 + 1) false (.slice none 0 0) (.slice none 0 0)) := HX2.out.below (Nat.le_refl _) hb4
      have H24 := hide (H23.out.below (Nat.le_refl _) hb4)
      have HM4 := hide (ownsMap_below HM.out hBl hb4)
      have HW4 : Hid (Below p w w4) := HWB.out.trans (hb4.mono (by omega))
      have hBg : B < gd := by omega
      clear hbx hBk hO hag hap hb4 HX0 HX2 H23 H13 HM HWB hmk
      obtain ⟨x0, x1, x2, _, _, _⟩ := HX04.out.all
      go_wp2_with fail
      clear x0 x1 x2
      go_loopw [31] (fun i wr => ∃ k : Nat, k ≤ n2 ∧ i = .int .i64 (k : Nat) ∧ Hid (Blk wr gd (soFar f n2 k)) ∧ Hid (But (fun x => x = gd) w4 wr)) (fun i _ => n2 - (intOf i).toNat)
      case atStart => exact ⟨0, Nat.zero_le _, rfl, HBK, hide (But.refl _ _)⟩
      case round =>
        obtain ⟨k, hk, rfl, hb, hbut⟩ := hrel
        have hzr := hbut.out.size
        by_cases hkn : k < n2
        · have hr2 := hbut.out.row H24.out (by rintro x rfl h; have := HP2.out _ h; omega)
          obtain ⟨bb, ob, hbb, _, cb⟩ := hr2.get hkn
          cases hbb
          obtain ⟨x, hx⟩ : ∃ x, dt.getD k 0 = x := ⟨_, rfl⟩
          rw [hx] at cb
          have hxb : -1000000000000000 ≤ x ∧ x ≤ 1000000000000000 := by rw [← hx]; exact HDT.out k (by rw [hl2.out]; exact hkn)
          obtain ⟨q, hq⟩ : ∃ q, placeAmong c d dt' x = q := ⟨_, rfl⟩
          have hMr : wr.ownsMap Tryz.prog 3 (plainElem (H := Unit) Tryz.prog 3) B N D := by
            obtain ⟨es, clock, e1, e2⟩ := HM4.out
            exact ⟨es, clock, (hbut.out.block B (by omega) (by omega)).trans e1, e2⟩
          have hBr : B < wr.heap.size := by omega
          have hDx := HD.out x
          rw [hq] at hDx
          have hZr : Box wr pb false (.slice ash n1 csh) (.slice (some ⟨gd, 0, none⟩) n2 n2) := (hbut.out.block _ (by omega) (by omega)).trans HBX.out
          have hplr : pb < wr.heap.size := by omega
          have HSY : Hid (∀ W, Below w.heap.size w W → Calls Tryz.prog g (#[.int .i64 q] ++ lb) W fun e w' => e = .returned (.int .i64 (f k)) ∧ Below W.heap.size W w') := fun W hW => by have := HSD.out k W hkn hW; rw [hx, hq] at this; exact this
          have HWR : Hid (Below w.heap.size w wr) := by rw [← HP.out]; exact HW4.out.trans (hbut.out.below (B := p) (by omega) (by rintro x rfl; omega))
          have HKEEP : ∀ wx, But (fun b => b = gd) wr wx → wx.cell? ⟨pb, 2, none⟩ = some (.slice (some ⟨gd, 0, none⟩) n2 n2) ∧ (Instr.lookup 118 (.map (some B)) (.int .i64 x) false).run Tryz.prog wx = .ok (.int .i64 q) wx := fun wx hwx =>
            ⟨(hwx.cellAt (b := pb) (o := 2) hplr (by omega)).trans hZr.all.2.2.1, map_look (ownsMap_but hMr hBr (by omega) hwx) hxb hDx⟩
          obtain ⟨fk, hfk⟩ : ∃ fk, fk = f k := ⟨_, rfl⟩
          have HFK := hide hfk
          rw [← hfk] at HSY
          clear hx hq hfk hMr hDx hZr hr2
          obtain ⟨z2, zl⟩ := HKEEP _ (But.refl (fun b => b = gd) _)
          go_upto_region 8 with fail
          go_region_held3 (fun wx => wx.cell? ⟨pb, 2, none⟩ = some (.slice (some ⟨gd, 0, none⟩) n2 n2) ∧ (Instr.lookup 118 (.map (some B)) (.int .i64 x) false).run Tryz.prog wx = .ok (.int .i64 q) wx) (first | exact HKEEP _ (But.refl (fun b => b = gd) wr).drew | exact HKEEP _ hKT | exact HKEEP _ (hKT.setCell (p := ⟨gd, k, none⟩) rfl _))
            (first
            | (go_at_fn g; go_loud (refine (HSY.out _ (by first | exact HWR.out.drew | exact HWR.out)).mono ?_); rintro e wS ⟨rfl, hbS⟩; have hKS : Below wr.heap.size wr wS := (by refine Below.trans ?_ (hbS.mono (Nat.le_refl _)); exact (Below.refl _ _).drew); have hKT : But (fun b => b = gd) wr wS := But.of_below hKS; have HGS := hide (hb.out.below (Nat.le_refl _) hKS); have cg := HGS.out.cell (i := k) (by rw [soFar_len]; exact hkn); have cf := HGS.out.free k; clear hbS z2 zl; obtain ⟨z2, zl⟩ := HKEEP _ hKT))
          all_goals go_wp2_with fail
          all_goals go_roundw
          all_goals first
            | (refine ⟨k + 1, by omega, by go_num, ?_, hide ((hbut.out.trans ((But.of_below (S := fun b => b = gd) hKS).setCell (p := ⟨gd, k, none⟩) rfl _)).mono (by rintro x (h | h) <;> exact h))⟩
               show Blk _ _ _
               rw [← soFar_step, ← HFK.out]
               exact HGS.out.set k fk)
            | (simp [intOf]; omega)
        · have hke : k = n2 := by omega
          subst hke
          have hZr : Box wr pb false (.slice ash n1 csh) (.slice (some ⟨gd, 0, none⟩) k k) := (hbut.out.block _ (by omega) (by omega)).trans HBX.out
          obtain ⟨z0, z1, z2, z3, z4, z5, z6⟩ := hZr.all
          have hB2 : Box wr (p + 1 + 1) false (.slice none 0 0) (.slice none 0 0) := (hbut.out.block _ (by omega) (by omega)).trans HX24.out
          obtain ⟨q0, q1, q2, q3, q4, q5, q6⟩ := hB2.all
          have HB2 := hide hB2
          clear hB2 hZr
          go_wp2_with fail
          have hOr : Own wr w3.heap.size ash n1 sh := hbut.out.own HO.out (by rintro q rfl h; exact HAG.out h)
          have hk2 : ∀ q, At ash n1 q → q ≠ p + 1 + 1 := fun q h e => by have := hOr.low h; omega
          obtain ⟨WX, hWX⟩ : ∃ WX, WX = ((wr.setCell ⟨p + 1 + 1, 0, none⟩ (.bool false)).setCell ⟨p + 1 + 1, 1, none⟩ (.slice ash n1 csh)).setCell ⟨p + 1 + 1, 2, none⟩ (.slice (some ⟨gd, 0, none⟩) k k) := ⟨_, rfl⟩
          have hX : Box WX (p + 1 + 1) false (.slice ash n1 csh) (.slice (some ⟨gd, 0, none⟩) k k) := by rw [hWX]; exact HB2.out.sets
          obtain ⟨q0, q1, q2, q3, q4, q5, q6⟩ := hX.all
          have hOX : Own WX w3.heap.size ash n1 sh := by rw [hWX]; exact ((hOr.other (q := ⟨p + 1 + 1, 0, none⟩) hk2 _).other (q := ⟨p + 1 + 1, 1, none⟩) hk2 _).other (q := ⟨p + 1 + 1, 2, none⟩) hk2 _
          have hGX : Blk WX gd (soFar f k k) := by rw [hWX]; exact ((hb.out.other (p := ⟨p + 1 + 1, 0, none⟩) (by show gd ≠ p + 1 + 1; omega) _).other (p := ⟨p + 1 + 1, 1, none⟩) (by show gd ≠ p + 1 + 1; omega) _).other (p := ⟨p + 1 + 1, 2, none⟩) (by show gd ≠ p + 1 + 1; omega) _
          have hLX : Below p w WX := by rw [hWX]; exact (((HW4.out.trans (hbut.out.below (B := p) (by omega) (by rintro x rfl; omega))).setCell (p := ⟨p + 1 + 1, 0, none⟩) (by show p ≤ p + 1 + 1; omega) _).setCell (p := ⟨p + 1 + 1, 1, none⟩) (by show p ≤ p + 1 + 1; omega) _).setCell (p := ⟨p + 1 + 1, 2, none⟩) (by show p ≤ p + 1 + 1; omega) _
          rw [← hWX]
          refine bodyPost_ret (v := .agg #[.bool false, .slice ash n1 csh, .slice (some ⟨gd, 0, none⟩) k k]) (by simp [results, Tryz.results44, go_sem, q0, q1, q2]) rfl ?_
          rw [← HP.out, ← soFar_all]
          exact ⟨ash, csh, gd, rfl, hOX.mono (by omega), by omega, hGX, HAG.out, hLX⟩

end Go.Proofs.YtkgcmpmgaghdhaaGreatDoor
namespace Go.Proofs.YtkgcmpmgaghdhaaGreatDoor
open Go.RowKit

set_option maxHeartbeats 1000000 in
theorem elementsOk_any (c : Bool) (a1 a2 : Option Addr) (n1 n2 c1 c2 : Nat) (dt : List Int) (w : World) (h2 : Row w a2 n2 dt) :
    Calls Tryz.prog 113 #[.agg #[.bool c, .slice a1 n1 c1, .slice a2 n2 c2]] w fun e w' => e = .returned (.bool (dt.all (dataOk c))) ∧ Below w.heap.size w w' := by
  have hl2 := hide h2.len
  have hs2 := h2.small
  have H2 := hide h2
  clear h2
  have hW : ∀ o, Below w.heap.size w (w.alloc o) := fun o => (Below.refl _ _).alloc (Nat.le_refl _) _
  cases c with
  | true =>
    go_enter Tryz.func113, Tryz.ntmps113
    go_wp2
    go_loop [5, 11] (fun _ i => ∃ k : Nat, k ≤ n2 ∧ i = .int .i64 k ∧ Hid ((dt.take k).all (dataOk true) = true)) (fun _ i => n2 - (intOf i).toNat)
    case atStart => exact ⟨0, Nat.zero_le _, rfl, rfl⟩
    case round =>
      obtain ⟨k, hk, rfl, hall⟩ := hrel
      by_cases hlt : k < n2
      · obtain ⟨b, off, rfl, hblt, hc⟩ := (unhide H2).get hlt
        have hks : Hid (k < dt.length) := by show k < dt.length; rw [unhide hl2]; exact hlt
        obtain ⟨x, hx⟩ : ∃ x, x = dt.getD k 0 := ⟨_, rfl⟩
        rw [← hx] at hc
        have HX := hide hx
        clear hx
        cases hr : dataOk true x with
        | true =>
          have HA := hide (all_step dt (dataOk true) k (unhide hks) (unhide hall) (by rw [← unhide HX, hr]))
          have HR := hide hr
          clear hr
          go_wp2_with (go_at_call 143; refine (isCharacter_any _ _).mono ?_; rintro e w' ⟨rfl, rfl⟩; rw [unhide HR])
          go_round
          case rel => exact ⟨k + 1, by omega, by go_num, HA⟩
          case measure => simp [intOf]; omega
        | false =>
          have HE := hide (all_not dt (dataOk true) k (unhide hks) (by rw [← unhide HX, hr]))
          have HR := hide hr
          clear hr
          go_wp2_with (go_at_call 143; refine (isCharacter_any _ _).mono ?_; rintro e w' ⟨rfl, rfl⟩; rw [unhide HR])
          go_ret
          exact ⟨ret_bool HE.out.symm, hW _⟩
      · have HA : Hid (dt.all (dataOk true) = true) := by
          have := unhide hall
          rwa [List.take_of_length_le (by rw [unhide hl2]; omega)] at this
        go_wp2
        go_ret
        exact ⟨ret_bool HA.out.symm, hW _⟩
  | false =>
    go_enter Tryz.func113, Tryz.ntmps113
    go_wp2
    go_loop [5, 11] (fun _ i => ∃ k : Nat, k ≤ n2 ∧ i = .int .i64 k ∧ Hid ((dt.take k).all (dataOk false) = true)) (fun _ i => n2 - (intOf i).toNat)
    case atStart => exact ⟨0, Nat.zero_le _, rfl, rfl⟩
    case round =>
      obtain ⟨k, hk, rfl, hall⟩ := hrel
      by_cases hlt : k < n2
      · obtain ⟨b, off, rfl, hblt, hc⟩ := (unhide H2).get hlt
        have hks : Hid (k < dt.length) := by show k < dt.length; rw [unhide hl2]; exact hlt
        obtain ⟨x, hx⟩ : ∃ x, x = dt.getD k 0 := ⟨_, rfl⟩
        rw [← hx] at hc
        have HX := hide hx
        clear hx
        cases hr : dataOk false x with
        | true =>
          have HA := hide (all_step dt (dataOk false) k (unhide hks) (unhide hall) (by rw [← unhide HX, hr]))
          have HR := hide hr
          clear hr
          go_wp2_with (go_at_call 142; refine (isNumber_any _ _).mono ?_; rintro e w' ⟨rfl, rfl⟩; rw [unhide HR])
          go_round
          case rel => exact ⟨k + 1, by omega, by go_num, HA⟩
          case measure => simp [intOf]; omega
        | false =>
          have HE := hide (all_not dt (dataOk false) k (unhide hks) (by rw [← unhide HX, hr]))
          have HR := hide hr
          clear hr
          go_wp2_with (go_at_call 142; refine (isNumber_any _ _).mono ?_; rintro e w' ⟨rfl, rfl⟩; rw [unhide HR])
          go_ret
          exact ⟨ret_bool HE.out.symm, hW _⟩
      · have HA : Hid (dt.all (dataOk false) = true) := by
          have := unhide hall
          rwa [List.take_of_length_le (by rw [unhide hl2]; omega)] at this
        go_wp2
        go_ret
        exact ⟨ret_bool HA.out.symm, hW _⟩

theorem elementsOk_eq (c : Bool) (a1 a2 : Option Addr) (n1 n2 c1 c2 : Nat) (dt : List Int) (w : World) (h2 : Row w a2 n2 dt) (r : Bool) (hr : Hid (dt.all (dataOk c) = r)) :
    Calls Tryz.prog 113 #[.agg #[.bool c, .slice a1 n1 c1, .slice a2 n2 c2]] w fun e w' => e = .returned (.bool r) ∧ Below w.heap.size w w' := by
  rw [← hr.out]; exact elementsOk_any c a1 a2 n1 n2 c1 c2 dt w h2

theorem arr_shape {c : Bool} {sh dt : List Int} (h : shapeB sh = false) : arrOk c sh dt = false := by
  unfold arrOk; unfold shapeB at h
  by_cases h1 : sh.length ≤ 5
  · rw [decide_eq_true h1] at h
    have h2 : ¬ 0 ≤ countOf sh := by simpa using h
    rw [decide_eq_false (p := countOf sh = _) (by omega)]; simp
  · rw [decide_eq_false h1]; rfl

set_option maxHeartbeats 1000000 in
theorem implArrayOk_any (c : Bool) (a1 a2 : Option Addr) (n1 n2 c1 c2 : Nat) (sh dt : List Int) (w : World) (h1 : Row w a1 n1 sh) (h2 : Row w a2 n2 dt) :
    Calls Tryz.prog 43 #[.agg #[.bool c, .slice a1 n1 c1, .slice a2 n2 c2]] w fun e w' => e = .returned (.bool (arrOk c sh dt)) ∧ Below w.heap.size w w' := by
  have hl1 := hide h1.len
  have hl2 := hide h2.len
  have hs1 := h1.small
  have hs2 := h2.small
  have H1 := hide h1
  have H2 := hide h2
  clear h1 h2
  have hW : ∀ o, Below w.heap.size w (w.alloc o) := fun o => (Below.refl _ _).alloc (Nat.le_refl _) _
  cases hsb : shapeB sh with
  | false =>
    have HS := hide hsb
    have HE := hide (arr_shape (c := c) (dt := dt) hsb)
    clear hsb
    go_enter Tryz.func43, Tryz.ntmps43
    go_wp2
    go_quiet ((go_at_call 67; exact Calls.quiet_of_same (shapeOk_eq _ _ _ sh _ (((unhide H1).alloc _).drewN _) false HS)))
    go_wp2
    go_ret
    exact ⟨ret_bool HE.out.symm, Below.drewN (hW _) _⟩
  | true =>
    have HS := hide hsb
    clear hsb
    obtain ⟨cn, hcn⟩ : ∃ cn, countOf sh = cn := ⟨_, rfl⟩
    have HC := hide hcn
    clear hcn
    by_cases hcn : cn = n2
    · have hb : ((n2 : Int) == cn) = true := by simp [hcn]
      have HCN := hide hcn
      clear hcn
      obtain ⟨r, hr⟩ : ∃ r, dt.all (dataOk c) = r := ⟨_, rfl⟩
      have HR := hide hr
      clear hr
      have HE : Hid (arrOk c sh dt = r) := by
        show _ = _
        have h5 := unhide HS
        unfold shapeB at h5
        simp only [Bool.and_eq_true, decide_eq_true_eq] at h5
        unfold arrOk
        rw [unhide HR, decide_eq_true h5.1, decide_eq_true (by rw [unhide HC, unhide HCN, unhide hl2])]; rfl
      go_enter Tryz.func43, Tryz.ntmps43
      go_wp2_with fail
      go_cut [2] (fun r' wr => r' = .bool r ∧ Below w.heap.size w wr)
      case first =>
        go_region_with (first
          | (go_at_call 67; refine (shapeOk_eq _ _ _ sh _ (by first | exact ((unhide H1).alloc _).drew | exact (((unhide H1).alloc _).drewN _)) true HS).mono ?_; rintro e w' ⟨rfl, rfl⟩)
          | (go_at_call 51; refine (cellsOf_count _ _ _ sh _ (by first | exact ((unhide H1).alloc _).drew | exact (((unhide H1).alloc _).drewN _)) (unhide HS) cn HC).mono ?_; rintro e w' ⟨rfl, rfl⟩)
          | (go_at_call 113; refine (elementsOk_eq _ _ _ _ _ _ _ dt _ (by first | exact ((unhide H2).alloc _).drew | exact (((unhide H2).alloc _).drewN _)) r HR).mono ?_; rintro e w' ⟨rfl, hbe⟩))
        all_goals go_wp2_with fail
        all_goals (go_meet; case rel => exact ⟨rfl, (hW _).drew.trans (hbe.mono (by simp))⟩)
      case rest =>
        obtain ⟨rfl, hbc⟩ := hcut
        go_wp2
        go_ret
        exact ⟨ret_bool HE.out.symm, hbc⟩
    · have hb : ((n2 : Int) == cn) = false := by simp; omega
      have HE := hide (arr_count (c := c) (sh := sh) (unhide hl2) (by rw [unhide HC]; exact hcn))
      clear hcn
      go_enter Tryz.func43, Tryz.ntmps43
      go_wp2
      go_quiet (first | (go_at_call 67; exact Calls.quiet_of_same (shapeOk_eq _ _ _ sh _ (((unhide H1).alloc _).drewN _) true HS)) | (go_at_call 51; exact Calls.quiet_of_same (cellsOf_count _ _ _ sh _ (((unhide H1).alloc _).drewN _) (unhide HS) cn HC)))
      go_wp2
      go_ret
      exact ⟨ret_bool HE.out.symm, Below.drewN (hW _) _⟩

theorem implArrayOk_eq (c : Bool) (a1 a2 : Option Addr) (n1 n2 c1 c2 : Nat) (sh dt : List Int) (w : World) (h1 : Row w a1 n1 sh) (h2 : Row w a2 n2 dt) (r : Bool) (hr : Hid (arrOk c sh dt = r)) :
    Calls Tryz.prog 43 #[.agg #[.bool c, .slice a1 n1 c1, .slice a2 n2 c2]] w fun e w' => e = .returned (.bool r) ∧ Below w.heap.size w w' := by
  rw [← hr.out]; exact implArrayOk_any c a1 a2 n1 n2 c1 c2 sh dt w h1 h2

end Go.Proofs.YtkgcmpmgaghdhaaGreatDoor
namespace Go.Proofs.YtkgcmpmgaghdhaaGreatDoor
open Go.RowKit

/-- The box of the answer holds an array of the call's own. -/
def Res5 (w : World) (d : Bool) (zs ys : List Int) (n N box : Nat) (wx : World) : Prop :=
  ∃ ash csh gd, Box wx box d (.slice ash n csh) (.slice (some ⟨gd, 0, none⟩) N N) ∧ Own wx w.heap.size ash n zs ∧ w.heap.size ≤ gd ∧ Blk wx gd ys ∧ ¬ At ash n gd ∧ Below w.heap.size w wx

theorem Res5.set {w W : World} {d : Bool} {zs ys : List Int} {n N box gd csh : Nat} {ash : Option Addr} {v1 v2 : Value} {c : Bool} (hb : Box W box c v1 v2) (hO : Own W w.heap.size ash n zs) (hg : w.heap.size ≤ gd) (hB : Blk W gd ys) (hne : ¬ At ash n gd) (hbl : Below w.heap.size w W) (hb1 : ¬ At ash n box) (hb2 : gd ≠ box) (hw : w.heap.size ≤ box) :
    Res5 w d zs ys n N box (((W.setCell ⟨box, 0, none⟩ (.bool d)).setCell ⟨box, 1, none⟩ (.slice ash n csh)).setCell ⟨box, 2, none⟩ (.slice (some ⟨gd, 0, none⟩) N N)) := by
  have hk : ∀ k, At ash n k → k ≠ box := fun k hk e => hb1 (e ▸ hk)
  exact ⟨ash, csh, gd, hb.sets, ((hO.other (q := ⟨box, 0, none⟩) hk _).other (q := ⟨box, 1, none⟩) hk _).other (q := ⟨box, 2, none⟩) hk _, hg, ((hB.other (p := ⟨box, 0, none⟩) hb2 _).other (p := ⟨box, 1, none⟩) hb2 _).other (p := ⟨box, 2, none⟩) hb2 _, hne, ((hbl.setCell (p := ⟨box, 0, none⟩) hw _).setCell (p := ⟨box, 1, none⟩) hw _).setCell (p := ⟨box, 2, none⟩) hw _⟩

theorem gives_res {w wx : World} {d : Bool} {zs ys : List Int} {n N gd csh : Nat} {ash : Option Addr} (hl : ys.length = N) (hN : N ≤ 17592186044416) (hO : Own wx w.heap.size ash n zs) (hg : w.heap.size ≤ gd) (hB : Blk wx gd ys) (hne : ¬ At ash n gd) (hbl : Below w.heap.size w wx) :
    GivesOwn w ⟨d, zs, ys, 0⟩ (.returned (.tuple #[.agg #[.bool d, .slice ash n csh, .slice (some ⟨gd, 0, none⟩) N N], .int .i64 0])) wx :=
  ⟨ash, n, csh, some ⟨gd, 0, none⟩, N, N, rfl, hO, hB.own hl hN hg, fun k h1 h2 => by have := at_eq h2; subst this; exact hne h1, hbl⟩

end Go.Proofs.YtkgcmpmgaghdhaaGreatDoor
namespace Go.Proofs.YtkgcmpmgaghdhaaGreatDoor
open Go.RowKit Go.Shelf

theorem eg_find : ∀ args w, (callFunc 47 args).run Tryz.prog w = .ok (.enter 47 args) w := enters_of Tryz.func47 (by kernel_rfl) rfl

def findF (c d : Bool) (dt dt' : List Int) (n : Nat) (k : Nat) : Int := if placeAmong d c dt (dt'.getD k 0) = 0 then (n : Int) + 1 else placeAmong d c dt (dt'.getD k 0)

theorem findClo (q : Int) (pa : Nat) (a2 : Option Addr) (n2 c2 : Nat) (W : World) (hc : W.cell? ⟨pa, 2, none⟩ = some (.slice a2 n2 c2)) (hn : n2 ≤ 10000) : Calls Tryz.prog 47 #[.int .i64 q, .pointer (some ⟨pa, 0, none⟩)] W fun e w' => e = .returned (.int .i64 (if q = 0 then (n2 : Int) + 1 else q)) ∧ w' = W := by
  by_cases h : q = 0
  · subst h
    go_enter Tryz.func47, Tryz.ntmps47
    go_wp2
    go_ret
    exact ⟨rfl, rfl⟩
  · have hq : (q == 0) = false := by simp [h]
    go_enter Tryz.func47, Tryz.ntmps47
    go_wp2
    go_ret
    exact ⟨rfl, rfl⟩

set_option maxRecDepth 20000 in
set_option maxHeartbeats 4000000 in
theorem implFind_bad1 (c d : Bool) (a1 a2 b1 b2 : Addr) (n1 n2 m1 m2 c1 c2 d1 d2 : Nat) (sh dt : List Int) (w : World) (h1 : Row w (some a1) n1 sh) (h2 : Row w (some a2) n2 dt) (hok : arrOk c sh dt = false) :
    Calls Tryz.prog 12 #[.agg #[.bool c, .slice (some a1) n1 c1, .slice (some a2) n2 c2], .agg #[.bool d, .slice (some b1) m1 d1, .slice (some b2) m2 d2]] w (GivesOwn w (noAns 3)) := by
  have HR := hide hok
  have H1 := hide h1
  have H2 := hide h2
  clear h1 h2 hok
  go_enter Tryz.func12, Tryz.ntmps12
  go_wp2_with (first | (go_at_call_of 43 (Value.slice (some a1) n1 c1); refine (implArrayOk_eq _ _ _ _ _ _ _ sh dt _ ((((unhide H1).alloc _).alloc _).alloc _) ((((unhide H2).alloc _).alloc _).alloc _) _ HR).mono ?_; rintro e w1 ⟨rfl, hb1⟩; obtain ⟨B0, B1, B2, hB1⟩ := boxes3 hb1; have HB0 := hide B0; have HB1 := hide B1; have HB2 := hide B2; have HB := hide hB1; obtain ⟨x0, x1, x2, x3, x4, x5, x6⟩ := B0.all; obtain ⟨y0, y1, y2, y3, y4, y5, y6⟩ := B1.all; obtain ⟨q0, q1, q2, q3, q4, q5, q6⟩ := B2.all; clear hb1 hB1 B0 B1 B2))
  refine bodyPost_ret (v := .tuple #[.agg #[.bool false, .slice none 0 0, .slice none 0 0], .int .i64 3]) (by simp [results, Tryz.results12, go_sem, q0, q1, q2]) rfl ?_
  exact gives_none ((((unhide HB).setCell (by simp <;> omega) _).setCell (by simp <;> omega) _).setCell (by simp <;> omega) _)

set_option maxRecDepth 20000 in
set_option maxHeartbeats 4000000 in
theorem implFind_bad2 (c d : Bool) (a1 a2 b1 b2 : Addr) (n1 n2 m1 m2 c1 c2 d1 d2 : Nat) (sh dt sh' dt' : List Int) (w : World) (h1 : Row w (some a1) n1 sh) (h2 : Row w (some a2) n2 dt) (k1 : Row w (some b1) m1 sh') (k2 : Row w (some b2) m2 dt') (hok : arrOk c sh dt = true) (hok' : arrOk d sh' dt' = false) :
    Calls Tryz.prog 12 #[.agg #[.bool c, .slice (some a1) n1 c1, .slice (some a2) n2 c2], .agg #[.bool d, .slice (some b1) m1 d1, .slice (some b2) m2 d2]] w (GivesOwn w (noAns 3)) := by
  have HR := hide hok
  have HR' := hide hok'
  have hs2 := h2.small
  have hs4 := k2.small
  have H1 := hide h1
  have H2 := hide h2
  have K1 := hide k1
  have K2 := hide k2
  clear h1 h2 k1 k2 hok hok'
  go_enter Tryz.func12, Tryz.ntmps12
  go_wp2_with (first | (go_at_call_of 43 (Value.slice (some a1) n1 c1); refine (implArrayOk_eq _ _ _ _ _ _ _ sh dt _ ((((unhide H1).alloc _).alloc _).alloc _) ((((unhide H2).alloc _).alloc _).alloc _) _ HR).mono ?_; rintro e w1 ⟨rfl, hb1⟩; obtain ⟨B0, B1, B2, hB1⟩ := boxes3 hb1; have HB0 := hide B0; have HB1 := hide B1; have HB2 := hide B2; have HB := hide hB1; obtain ⟨x0, x1, x2, x3, x4, x5, x6⟩ := B0.all; obtain ⟨y0, y1, y2, y3, y4, y5, y6⟩ := B1.all; obtain ⟨q0, q1, q2, q3, q4, q5, q6⟩ := B2.all; clear hb1 hB1 B0 B1 B2) | (go_at_call_of 43 (Value.slice (some b1) m1 d1); refine (implArrayOk_eq _ _ _ _ _ _ _ sh' dt' _ ((unhide K1).below (Nat.le_refl _) (unhide HB)) ((unhide K2).below (Nat.le_refl _) (unhide HB)) _ HR').mono ?_; rintro e w2 ⟨rfl, hb2⟩; have HB0' := hide ((unhide HB0).below (Nat.le_refl _) hb2); have HB1' := hide ((unhide HB1).below (Nat.le_refl _) hb2); have HB2' := hide ((unhide HB2).below (Nat.le_refl _) hb2); have HC := hide ((unhide HB).trans (hb2.mono (by omega))); clear hb2 x0 x1 x2 x3 x4 x5 x6 y0 y1 y2 y3 y4 y5 y6 q0 q1 q2 q3 q4 q5 q6 HB0 HB1 HB2 HB; obtain ⟨x0, x1, x2, x3, x4, x5, x6⟩ := (unhide HB0').all; obtain ⟨y0, y1, y2, y3, y4, y5, y6⟩ := (unhide HB1').all; obtain ⟨q0, q1, q2, q3, q4, q5, q6⟩ := (unhide HB2').all))
  refine bodyPost_ret (v := .tuple #[.agg #[.bool false, .slice none 0 0, .slice none 0 0], .int .i64 3]) (by simp [results, Tryz.results12, go_sem, q0, q1, q2]) rfl ?_
  exact gives_none ((((unhide HC).setCell (by simp <;> omega) _).setCell (by simp <;> omega) _).setCell (by simp <;> omega) _)

set_option maxRecDepth 20000 in
set_option maxHeartbeats 4000000 in
theorem implFind_rank (c d : Bool) (a1 a2 b1 b2 : Addr) (n1 n2 m1 m2 c1 c2 d1 d2 : Nat) (sh dt sh' dt' : List Int) (w : World) (h1 : Row w (some a1) n1 sh) (h2 : Row w (some a2) n2 dt) (k1 : Row w (some b1) m1 sh') (k2 : Row w (some b2) m2 dt') (hok : arrOk c sh dt = true) (hok' : arrOk d sh' dt' = true) (hne : n1 ≠ 1) :
    Calls Tryz.prog 12 #[.agg #[.bool c, .slice (some a1) n1 c1, .slice (some a2) n2 c2], .agg #[.bool d, .slice (some b1) m1 d1, .slice (some b2) m2 d2]] w (GivesOwn w (noAns 4)) := by
  have HR := hide hok
  have HR' := hide hok'
  have hs2 := h2.small
  have hs4 := k2.small
  have H1 := hide h1
  have H2 := hide h2
  have K1 := hide k1
  have K2 := hide k2
  clear h1 h2 k1 k2 hok hok'
  have q : ((n1 : Int) != 1) = true := by simp; omega
  go_enter Tryz.func12, Tryz.ntmps12
  go_wp2_with (first | (go_at_call_of 43 (Value.slice (some a1) n1 c1); refine (implArrayOk_eq _ _ _ _ _ _ _ sh dt _ ((((unhide H1).alloc _).alloc _).alloc _) ((((unhide H2).alloc _).alloc _).alloc _) _ HR).mono ?_; rintro e w1 ⟨rfl, hb1⟩; obtain ⟨B0, B1, B2, hB1⟩ := boxes3 hb1; have HB0 := hide B0; have HB1 := hide B1; have HB2 := hide B2; have HB := hide hB1; obtain ⟨x0, x1, x2, x3, x4, x5, x6⟩ := B0.all; obtain ⟨y0, y1, y2, y3, y4, y5, y6⟩ := B1.all; obtain ⟨q0, q1, q2, q3, q4, q5, q6⟩ := B2.all; clear hb1 hB1 B0 B1 B2) | (go_at_call_of 43 (Value.slice (some b1) m1 d1); refine (implArrayOk_eq _ _ _ _ _ _ _ sh' dt' _ ((unhide K1).below (Nat.le_refl _) (unhide HB)) ((unhide K2).below (Nat.le_refl _) (unhide HB)) _ HR').mono ?_; rintro e w2 ⟨rfl, hb2⟩; have HB0' := hide ((unhide HB0).below (Nat.le_refl _) hb2); have HB1' := hide ((unhide HB1).below (Nat.le_refl _) hb2); have HB2' := hide ((unhide HB2).below (Nat.le_refl _) hb2); have HC := hide ((unhide HB).trans (hb2.mono (by omega))); clear hb2 x0 x1 x2 x3 x4 x5 x6 y0 y1 y2 y3 y4 y5 y6 q0 q1 q2 q3 q4 q5 q6 HB0 HB1 HB2 HB; obtain ⟨x0, x1, x2, x3, x4, x5, x6⟩ := (unhide HB0').all; obtain ⟨y0, y1, y2, y3, y4, y5, y6⟩ := (unhide HB1').all; obtain ⟨q0, q1, q2, q3, q4, q5, q6⟩ := (unhide HB2').all))
  refine bodyPost_ret (v := .tuple #[.agg #[.bool false, .slice none 0 0, .slice none 0 0], .int .i64 4]) (by simp [results, Tryz.results12, go_sem, q0, q1, q2]) rfl ?_
  exact gives_none ((((unhide HC).setCell (by simp <;> omega) _).setCell (by simp <;> omega) _).setCell (by simp <;> omega) _)

set_option maxRecDepth 20000 in
set_option maxHeartbeats 4000000 in
theorem implFind_good (c d : Bool) (a1 a2 b1 b2 : Addr) (n2 m1 m2 c1 c2 d1 d2 : Nat) (sh dt sh' dt' : List Int) (w : World) (h1 : Row w (some a1) 1 sh) (h2 : Row w (some a2) n2 dt) (k1 : Row w (some b1) m1 sh') (k2 : Row w (some b2) m2 dt') (hok : arrOk c sh dt = true) (hok' : arrOk d sh' dt' = true) (hn2 : n2 ≤ 10000) (hm2 : m2 ≤ 10000) :
    Calls Tryz.prog 12 #[.agg #[.bool c, .slice (some a1) 1 c1, .slice (some a2) n2 c2], .agg #[.bool d, .slice (some b1) m1 d1, .slice (some b2) m2 d2]] w (GivesOwn w ⟨false, sh', (List.range m2).map (findF c d dt dt' n2), 0⟩) := by
  have HR := hide hok
  have HR' := hide hok'
  have HDT : Hid (∀ k, k < dt.length → -1000000000000000 ≤ dt.getD k 0 ∧ dt.getD k 0 ≤ 1000000000000000) := fun k hk => dataOk_bd hok hk
  have HDT' : Hid (∀ k, k < dt'.length → -1000000000000000 ≤ dt'.getD k 0 ∧ dt'.getD k 0 ≤ 1000000000000000) := fun k hk => dataOk_bd hok' hk
  have hs2 := h2.small
  have hs4 := k2.small
  have H1 := hide h1
  have H2 := hide h2
  have K1 := hide k1
  have K2 := hide k2
  clear h1 h2 k1 k2 hok hok'
  go_enter Tryz.func12, Tryz.ntmps12
  go_wp2_with (first | (go_at_call_of 43 (Value.slice (some a1) 1 c1); refine (implArrayOk_eq _ _ _ _ _ _ _ sh dt _ ((((unhide H1).alloc _).alloc _).alloc _) ((((unhide H2).alloc _).alloc _).alloc _) _ HR).mono ?_; rintro e w1 ⟨rfl, hb1⟩; obtain ⟨B0, B1, B2, hB1⟩ := boxes3 hb1; have HB0 := hide B0; have HB1 := hide B1; have HB2 := hide B2; have HB := hide hB1; obtain ⟨x0, x1, x2, x3, x4, x5, x6⟩ := B0.all; obtain ⟨y0, y1, y2, y3, y4, y5, y6⟩ := B1.all; obtain ⟨q0, q1, q2, q3, q4, q5, q6⟩ := B2.all; clear hb1 hB1 B0 B1 B2) | (go_at_call_of 43 (Value.slice (some b1) m1 d1); refine (implArrayOk_eq _ _ _ _ _ _ _ sh' dt' _ ((unhide K1).below (Nat.le_refl _) (unhide HB)) ((unhide K2).below (Nat.le_refl _) (unhide HB)) _ HR').mono ?_; rintro e w2 ⟨rfl, hb2⟩; have HB0' := hide ((unhide HB0).below (Nat.le_refl _) hb2); have HB1' := hide ((unhide HB1).below (Nat.le_refl _) hb2); have HB2' := hide ((unhide HB2).below (Nat.le_refl _) hb2); have HC := hide ((unhide HB).trans (hb2.mono (by omega))); clear hb2 x0 x1 x2 x3 x4 x5 x6 y0 y1 y2 y3 y4 y5 y6 q0 q1 q2 q3 q4 q5 q6 HB0 HB1 HB2 HB; obtain ⟨x0, x1, x2, x3, x4, x5, x6⟩ := (unhide HB0').all; obtain ⟨y0, y1, y2, y3, y4, y5, y6⟩ := (unhide HB1').all; obtain ⟨q0, q1, q2, q3, q4, q5, q6⟩ := (unhide HB2').all) | (go_at_call 44; refine (sought_any d c b1 (some b2) (some a1) (some a2) m1 m2 1 n2 d1 d2 c1 c2 sh' dt' dt 47 #[.pointer (some ⟨w.heap.size, 0, none⟩)] eg_find (findF c d dt dt' n2) _ ((unhide K1).below (Nat.le_refl _) (unhide HC)) ((unhide K2).below (Nat.le_refl _) (unhide HC)) ((unhide H2).below (Nat.le_refl _) (unhide HC)) hm2 hn2 (unhide HDT') (unhide HDT) (fun k W hk hW => (findClo _ w.heap.size (some a2) n2 c2 W ((hW.cell (p := ⟨w.heap.size, 2, none⟩) x6).trans x2) hn2).mono (by rintro e w' ⟨rfl, rfl⟩; exact ⟨rfl, Below.refl _ _⟩))).mono ?_; rintro e w3 ⟨ash, csh, gd, rfl, hO, hgd, hBk, hag, hb3⟩; have HX := hide ((unhide HB2').below (Nat.le_refl _) hb3); have HD := hide ((unhide HC).trans (hb3.mono (by omega))); have HO := hide hO; have HBK := hide hBk; have HAG := hide hag; have hq6 := q6; clear hO hBk hag hb3 x0 x1 x2 x3 x4 x5 x6 y0 y1 y2 y3 y4 y5 y6 q0 q1 q2 q3 q4 q5 q6; obtain ⟨q0, q1, q2, q3, q4, q5, q6⟩ := (unhide HX).all))
  have hres := Res5.set (w := w) (W := w3) (d := false) (zs := sh') (ys := (List.range m2).map (findF c d dt dt' n2)) (n := m1) (N := m2) (box := w.heap.size + 2) (gd := gd) (csh := csh) (ash := ash) (unhide HX) ((unhide HO).mono (by omega)) (by omega) (unhide HBK) (unhide HAG) (unhide HD) (fun h => by have := (unhide HO).low h; omega) (by omega) (by omega)
  obtain ⟨ash', csh', gd', hbx, hO', hgd', hB', hne', hbl'⟩ := hres
  obtain ⟨r0, r1, r2, r3, r4, r5, r6⟩ := hbx.all
  refine bodyPost_ret (v := .tuple #[.agg #[.bool false, .slice ash' m1 csh', .slice (some ⟨gd', 0, none⟩) m2 m2], .int .i64 0]) (by simp [results, Tryz.results12, go_sem, r0, r1, r2]) rfl ?_
  exact gives_res (by simp) (by omega) hO' hgd' hB' hne' hbl'

end Go.Proofs.YtkgcmpmgaghdhaaGreatDoor
namespace Go.Proofs.YtkgcmpmgaghdhaaGreatDoor
open Go.RowKit

theorem findI_bad1 {c d : Bool} {sh dt sh' dt' : List Int} (h : arrOk c sh dt = false) : find c d sh dt sh' dt' = noAns 3 := by unfold find; rw [if_neg (by simp [h])]
theorem findI_bad2 {c d : Bool} {sh dt sh' dt' : List Int} (h : arrOk d sh' dt' = false) : find c d sh dt sh' dt' = noAns 3 := by unfold find; rw [if_neg (by simp [h])]
theorem findI_rank {c d : Bool} {sh dt sh' dt' : List Int} (h1 : arrOk c sh dt = true) (h2 : arrOk d sh' dt' = true) (h : sh.length ≠ 1) : find c d sh dt sh' dt' = noAns 4 := by unfold find; rw [if_pos ⟨h1, h2⟩, if_pos h]
theorem findI_go {c d : Bool} {sh dt sh' dt' : List Int} (h1 : arrOk c sh dt = true) (h2 : arrOk d sh' dt' = true) (h : sh.length = 1) : find c d sh dt sh' dt' = ⟨false, sh', (List.range dt'.length).map (findF c d dt dt' dt.length), 0⟩ := by
  unfold find
  rw [if_pos ⟨h1, h2⟩, if_neg (by simp [h]), gather_good (firstCode_zero.2 fun k _ => rfl)]
  unfold vals
  congr 1
  refine enc_eq fun k _ => ?_
  have hle := first_le c dt (dt'.getD k 0) d
  unfold findF
  rw [placeAmong_first]
  by_cases hf : firstOf c dt (dt'.getD k 0) d < dt.length
  · rw [if_pos hf, if_neg (by omega)]
  · rw [if_neg hf, if_pos rfl]
    have he : firstOf c dt (dt'.getD k 0) d = dt.length := by omega
    show ((firstOf c dt (dt'.getD k 0) d : Nat) : Int) + 1 = _
    rw [he]

theorem implFind_any (c d : Bool) (a1 a2 b1 b2 : Addr) (n1 n2 m1 m2 c1 c2 d1 d2 : Nat) (sh dt sh' dt' : List Int) (w : World) (h1 : Row w (some a1) n1 sh) (h2 : Row w (some a2) n2 dt) (k1 : Row w (some b1) m1 sh') (k2 : Row w (some b2) m2 dt') :
    Calls Tryz.prog 12 #[.agg #[.bool c, .slice (some a1) n1 c1, .slice (some a2) n2 c2], .agg #[.bool d, .slice (some b1) m1 d1, .slice (some b2) m2 d2]] w (GivesOwn w (find c d sh dt sh' dt')) := by
  cases hok : arrOk c sh dt with
  | false => rw [findI_bad1 hok]; exact implFind_bad1 c d a1 a2 b1 b2 n1 n2 m1 m2 c1 c2 d1 d2 sh dt w h1 h2 hok
  | true =>
    cases hok' : arrOk d sh' dt' with
    | false => rw [findI_bad2 hok']; exact implFind_bad2 c d a1 a2 b1 b2 n1 n2 m1 m2 c1 c2 d1 d2 sh dt sh' dt' w h1 h2 k1 k2 hok hok'
    | true =>
      obtain ⟨i1, p1, _⟩ := shapeIn_of hok
      obtain ⟨i2, p2, _⟩ := shapeIn_of hok'
      have e1 := i1.bd
      have e2 := i2.bd
      rw [p1, h2.len] at e1
      rw [p2, k2.len] at e2
      by_cases hn : n1 = 1
      · subst hn
        rw [findI_go hok hok' h1.len, k2.len, h2.len]
        exact implFind_good c d a1 a2 b1 b2 n2 m1 m2 c1 c2 d1 d2 sh dt sh' dt' w h1 h2 k1 k2 hok hok' (by omega) (by omega)
      · rw [findI_rank hok hok' (by rw [h1.len]; exact hn)]
        exact implFind_rank c d a1 a2 b1 b2 n1 n2 m1 m2 c1 c2 d1 d2 sh dt sh' dt' w h1 h2 k1 k2 hok hok' hn

end Go.Proofs.YtkgcmpmgaghdhaaGreatDoor
namespace Go.Proofs.YtkgcmpmgaghdhaaGreatDoor
open Go.RowKit Go.Shelf

theorem eg_member : ∀ args w, (callFunc 45 args).run Tryz.prog w = .ok (.enter 45 args) w := enters_of Tryz.func45 (by kernel_rfl) rfl

def memberF (c d : Bool) (dt dt' : List Int) (k : Nat) : Int := truth (decide (0 < placeAmong c d dt' (dt.getD k 0)))

theorem truthOf_any (b : Bool) (w : World) : Calls Tryz.prog 46 #[.bool b] w fun e w' => e = .returned (.int .i64 (truth b)) ∧ w' = w := by
  cases b
  · go_enter Tryz.func46, Tryz.ntmps46
    go_wp2
    go_ret
    exact ⟨rfl, rfl⟩
  · go_enter Tryz.func46, Tryz.ntmps46
    go_wp2
    go_ret
    exact ⟨rfl, rfl⟩

theorem memberClo (q : Int) (W : World) : Calls Tryz.prog 45 #[.int .i64 q] W fun e w' => e = .returned (.int .i64 (truth (decide (0 < q)))) ∧ w' = W := by
  obtain ⟨b, hb⟩ : ∃ b, decide (0 < q) = b := ⟨_, rfl⟩
  rw [hb]
  go_enter Tryz.func45, Tryz.ntmps45
  go_wp2_with (go_at_call 46; refine (truthOf_any _ _).mono ?_; rintro e w' ⟨rfl, rfl⟩)
  go_ret
  exact ⟨by rw [← hb]; rfl, rfl⟩

set_option maxRecDepth 20000 in
set_option maxHeartbeats 4000000 in
theorem implMember_bad1 (c d : Bool) (a1 a2 b1 b2 : Addr) (n1 n2 m1 m2 c1 c2 d1 d2 : Nat) (sh dt : List Int) (w : World) (h1 : Row w (some a1) n1 sh) (h2 : Row w (some a2) n2 dt) (hok : arrOk c sh dt = false) :
    Calls Tryz.prog 10 #[.agg #[.bool c, .slice (some a1) n1 c1, .slice (some a2) n2 c2], .agg #[.bool d, .slice (some b1) m1 d1, .slice (some b2) m2 d2]] w (GivesOwn w (noAns 3)) := by
  have HR := hide hok
  have H1 := hide h1
  have H2 := hide h2
  clear h1 h2 hok
  go_enter Tryz.func10, Tryz.ntmps10
  go_wp2_with (first | (go_at_call_of 43 (Value.slice (some a1) n1 c1); refine (implArrayOk_eq _ _ _ _ _ _ _ sh dt _ ((((unhide H1).alloc _).alloc _).alloc _) ((((unhide H2).alloc _).alloc _).alloc _) _ HR).mono ?_; rintro e w1 ⟨rfl, hb1⟩; obtain ⟨B0, B1, B2, hB1⟩ := boxes3 hb1; have HB0 := hide B0; have HB1 := hide B1; have HB2 := hide B2; have HB := hide hB1; obtain ⟨x0, x1, x2, x3, x4, x5, x6⟩ := B0.all; obtain ⟨y0, y1, y2, y3, y4, y5, y6⟩ := B1.all; obtain ⟨q0, q1, q2, q3, q4, q5, q6⟩ := B2.all; clear hb1 hB1 B0 B1 B2))
  refine bodyPost_ret (v := .tuple #[.agg #[.bool false, .slice none 0 0, .slice none 0 0], .int .i64 3]) (by simp [results, Tryz.results10, go_sem, q0, q1, q2]) rfl ?_
  exact gives_none ((((unhide HB).setCell (by simp <;> omega) _).setCell (by simp <;> omega) _).setCell (by simp <;> omega) _)

set_option maxRecDepth 20000 in
set_option maxHeartbeats 4000000 in
theorem implMember_bad2 (c d : Bool) (a1 a2 b1 b2 : Addr) (n1 n2 m1 m2 c1 c2 d1 d2 : Nat) (sh dt sh' dt' : List Int) (w : World) (h1 : Row w (some a1) n1 sh) (h2 : Row w (some a2) n2 dt) (k1 : Row w (some b1) m1 sh') (k2 : Row w (some b2) m2 dt') (hok : arrOk c sh dt = true) (hok' : arrOk d sh' dt' = false) :
    Calls Tryz.prog 10 #[.agg #[.bool c, .slice (some a1) n1 c1, .slice (some a2) n2 c2], .agg #[.bool d, .slice (some b1) m1 d1, .slice (some b2) m2 d2]] w (GivesOwn w (noAns 3)) := by
  have HR := hide hok
  have HR' := hide hok'
  have hs2 := h2.small
  have hs4 := k2.small
  have H1 := hide h1
  have H2 := hide h2
  have K1 := hide k1
  have K2 := hide k2
  clear h1 h2 k1 k2 hok hok'
  go_enter Tryz.func10, Tryz.ntmps10
  go_wp2_with (first | (go_at_call_of 43 (Value.slice (some a1) n1 c1); refine (implArrayOk_eq _ _ _ _ _ _ _ sh dt _ ((((unhide H1).alloc _).alloc _).alloc _) ((((unhide H2).alloc _).alloc _).alloc _) _ HR).mono ?_; rintro e w1 ⟨rfl, hb1⟩; obtain ⟨B0, B1, B2, hB1⟩ := boxes3 hb1; have HB0 := hide B0; have HB1 := hide B1; have HB2 := hide B2; have HB := hide hB1; obtain ⟨x0, x1, x2, x3, x4, x5, x6⟩ := B0.all; obtain ⟨y0, y1, y2, y3, y4, y5, y6⟩ := B1.all; obtain ⟨q0, q1, q2, q3, q4, q5, q6⟩ := B2.all; clear hb1 hB1 B0 B1 B2) | (go_at_call_of 43 (Value.slice (some b1) m1 d1); refine (implArrayOk_eq _ _ _ _ _ _ _ sh' dt' _ ((unhide K1).below (Nat.le_refl _) (unhide HB)) ((unhide K2).below (Nat.le_refl _) (unhide HB)) _ HR').mono ?_; rintro e w2 ⟨rfl, hb2⟩; have HB0' := hide ((unhide HB0).below (Nat.le_refl _) hb2); have HB1' := hide ((unhide HB1).below (Nat.le_refl _) hb2); have HB2' := hide ((unhide HB2).below (Nat.le_refl _) hb2); have HC := hide ((unhide HB).trans (hb2.mono (by omega))); clear hb2 x0 x1 x2 x3 x4 x5 x6 y0 y1 y2 y3 y4 y5 y6 q0 q1 q2 q3 q4 q5 q6 HB0 HB1 HB2 HB; obtain ⟨x0, x1, x2, x3, x4, x5, x6⟩ := (unhide HB0').all; obtain ⟨y0, y1, y2, y3, y4, y5, y6⟩ := (unhide HB1').all; obtain ⟨q0, q1, q2, q3, q4, q5, q6⟩ := (unhide HB2').all))
  refine bodyPost_ret (v := .tuple #[.agg #[.bool false, .slice none 0 0, .slice none 0 0], .int .i64 3]) (by simp [results, Tryz.results10, go_sem, q0, q1, q2]) rfl ?_
  exact gives_none ((((unhide HC).setCell (by simp <;> omega) _).setCell (by simp <;> omega) _).setCell (by simp <;> omega) _)

set_option maxRecDepth 20000 in
set_option maxHeartbeats 4000000 in
theorem implMember_good (c d : Bool) (a1 a2 b1 b2 : Addr) (n1 n2 m1 m2 c1 c2 d1 d2 : Nat) (sh dt sh' dt' : List Int) (w : World) (h1 : Row w (some a1) n1 sh) (h2 : Row w (some a2) n2 dt) (k1 : Row w (some b1) m1 sh') (k2 : Row w (some b2) m2 dt') (hok : arrOk c sh dt = true) (hok' : arrOk d sh' dt' = true) (hn2 : n2 ≤ 10000) (hm2 : m2 ≤ 10000) :
    Calls Tryz.prog 10 #[.agg #[.bool c, .slice (some a1) n1 c1, .slice (some a2) n2 c2], .agg #[.bool d, .slice (some b1) m1 d1, .slice (some b2) m2 d2]] w (GivesOwn w ⟨false, sh, (List.range n2).map (memberF c d dt dt'), 0⟩) := by
  have HR := hide hok
  have HR' := hide hok'
  have HDT : Hid (∀ k, k < dt.length → -1000000000000000 ≤ dt.getD k 0 ∧ dt.getD k 0 ≤ 1000000000000000) := fun k hk => dataOk_bd hok hk
  have HDT' : Hid (∀ k, k < dt'.length → -1000000000000000 ≤ dt'.getD k 0 ∧ dt'.getD k 0 ≤ 1000000000000000) := fun k hk => dataOk_bd hok' hk
  have hs2 := h2.small
  have hs4 := k2.small
  have H1 := hide h1
  have H2 := hide h2
  have K1 := hide k1
  have K2 := hide k2
  clear h1 h2 k1 k2 hok hok'
  go_enter Tryz.func10, Tryz.ntmps10
  go_wp2_with (first | (go_at_call_of 43 (Value.slice (some a1) n1 c1); refine (implArrayOk_eq _ _ _ _ _ _ _ sh dt _ ((((unhide H1).alloc _).alloc _).alloc _) ((((unhide H2).alloc _).alloc _).alloc _) _ HR).mono ?_; rintro e w1 ⟨rfl, hb1⟩; obtain ⟨B0, B1, B2, hB1⟩ := boxes3 hb1; have HB0 := hide B0; have HB1 := hide B1; have HB2 := hide B2; have HB := hide hB1; obtain ⟨x0, x1, x2, x3, x4, x5, x6⟩ := B0.all; obtain ⟨y0, y1, y2, y3, y4, y5, y6⟩ := B1.all; obtain ⟨q0, q1, q2, q3, q4, q5, q6⟩ := B2.all; clear hb1 hB1 B0 B1 B2) | (go_at_call_of 43 (Value.slice (some b1) m1 d1); refine (implArrayOk_eq _ _ _ _ _ _ _ sh' dt' _ ((unhide K1).below (Nat.le_refl _) (unhide HB)) ((unhide K2).below (Nat.le_refl _) (unhide HB)) _ HR').mono ?_; rintro e w2 ⟨rfl, hb2⟩; have HB0' := hide ((unhide HB0).below (Nat.le_refl _) hb2); have HB1' := hide ((unhide HB1).below (Nat.le_refl _) hb2); have HB2' := hide ((unhide HB2).below (Nat.le_refl _) hb2); have HC := hide ((unhide HB).trans (hb2.mono (by omega))); clear hb2 x0 x1 x2 x3 x4 x5 x6 y0 y1 y2 y3 y4 y5 y6 q0 q1 q2 q3 q4 q5 q6 HB0 HB1 HB2 HB; obtain ⟨x0, x1, x2, x3, x4, x5, x6⟩ := (unhide HB0').all; obtain ⟨y0, y1, y2, y3, y4, y5, y6⟩ := (unhide HB1').all; obtain ⟨q0, q1, q2, q3, q4, q5, q6⟩ := (unhide HB2').all) | (go_at_call 44; refine (sought_any c d a1 (some a2) (some b1) (some b2) n1 n2 m1 m2 c1 c2 d1 d2 sh dt dt' 45 #[] eg_member (memberF c d dt dt') _ ((unhide H1).below (Nat.le_refl _) (unhide HC)) ((unhide H2).below (Nat.le_refl _) (unhide HC)) ((unhide K2).below (Nat.le_refl _) (unhide HC)) hn2 hm2 (unhide HDT) (unhide HDT') (fun k W hk hW => (memberClo _ W).mono (by rintro e w' ⟨rfl, rfl⟩; exact ⟨rfl, Below.refl _ _⟩))).mono ?_; rintro e w3 ⟨ash, csh, gd, rfl, hO, hgd, hBk, hag, hb3⟩; have HX := hide ((unhide HB2').below (Nat.le_refl _) hb3); have HD := hide ((unhide HC).trans (hb3.mono (by omega))); have HO := hide hO; have HBK := hide hBk; have HAG := hide hag; have hq6 := q6; clear hO hBk hag hb3 x0 x1 x2 x3 x4 x5 x6 y0 y1 y2 y3 y4 y5 y6 q0 q1 q2 q3 q4 q5 q6; obtain ⟨q0, q1, q2, q3, q4, q5, q6⟩ := (unhide HX).all))
  have hres := Res5.set (w := w) (W := w3) (d := false) (zs := sh) (ys := (List.range n2).map (memberF c d dt dt')) (n := n1) (N := n2) (box := w.heap.size + 2) (gd := gd) (csh := csh) (ash := ash) (unhide HX) ((unhide HO).mono (by omega)) (by omega) (unhide HBK) (unhide HAG) (unhide HD) (fun h => by have := (unhide HO).low h; omega) (by omega) (by omega)
  obtain ⟨ash', csh', gd', hbx, hO', hgd', hB', hne', hbl'⟩ := hres
  obtain ⟨r0, r1, r2, r3, r4, r5, r6⟩ := hbx.all
  refine bodyPost_ret (v := .tuple #[.agg #[.bool false, .slice ash' n1 csh', .slice (some ⟨gd', 0, none⟩) n2 n2], .int .i64 0]) (by simp [results, Tryz.results10, go_sem, r0, r1, r2]) rfl ?_
  exact gives_res (by simp) (by omega) hO' hgd' hB' hne' hbl'

end Go.Proofs.YtkgcmpmgaghdhaaGreatDoor
namespace Go.Proofs.YtkgcmpmgaghdhaaGreatDoor
open Go.RowKit

theorem memberI_bad1 {c d : Bool} {sh dt sh' dt' : List Int} (h : arrOk c sh dt = false) : member c d sh dt sh' dt' = noAns 3 := by unfold member; rw [if_neg (by simp [h])]
theorem memberI_bad2 {c d : Bool} {sh dt sh' dt' : List Int} (h : arrOk d sh' dt' = false) : member c d sh dt sh' dt' = noAns 3 := by unfold member; rw [if_neg (by simp [h])]
theorem memberI_go {c d : Bool} {sh dt sh' dt' : List Int} (h1 : arrOk c sh dt = true) (h2 : arrOk d sh' dt' = true) : member c d sh dt sh' dt' = ⟨false, sh, (List.range dt.length).map (memberF c d dt dt'), 0⟩ := by
  unfold member
  rw [if_pos ⟨h1, h2⟩, gather_good (firstCode_zero.2 fun k _ => rfl)]
  unfold vals
  congr 1
  refine enc_eq fun k _ => ?_
  unfold memberF
  rw [placeAmong_first]
  show truth _ = truth _
  congr 1
  by_cases hf : firstOf d dt' (dt.getD k 0) c < dt'.length
  · rw [if_pos hf, decide_eq_true hf, decide_eq_true (by omega)]
  · rw [if_neg hf, decide_eq_false hf, decide_eq_false (by omega)]

theorem implMember_any (c d : Bool) (a1 a2 b1 b2 : Addr) (n1 n2 m1 m2 c1 c2 d1 d2 : Nat) (sh dt sh' dt' : List Int) (w : World) (h1 : Row w (some a1) n1 sh) (h2 : Row w (some a2) n2 dt) (k1 : Row w (some b1) m1 sh') (k2 : Row w (some b2) m2 dt') :
    Calls Tryz.prog 10 #[.agg #[.bool c, .slice (some a1) n1 c1, .slice (some a2) n2 c2], .agg #[.bool d, .slice (some b1) m1 d1, .slice (some b2) m2 d2]] w (GivesOwn w (member c d sh dt sh' dt')) := by
  cases hok : arrOk c sh dt with
  | false => rw [memberI_bad1 hok]; exact implMember_bad1 c d a1 a2 b1 b2 n1 n2 m1 m2 c1 c2 d1 d2 sh dt w h1 h2 hok
  | true =>
    cases hok' : arrOk d sh' dt' with
    | false => rw [memberI_bad2 hok']; exact implMember_bad2 c d a1 a2 b1 b2 n1 n2 m1 m2 c1 c2 d1 d2 sh dt sh' dt' w h1 h2 k1 k2 hok hok'
    | true =>
      obtain ⟨i1, p1, _⟩ := shapeIn_of hok
      obtain ⟨i2, p2, _⟩ := shapeIn_of hok'
      have e1 := i1.bd
      have e2 := i2.bd
      rw [p1, h2.len] at e1
      rw [p2, k2.len] at e2
      rw [memberI_go hok hok', h2.len]
      exact implMember_good c d a1 a2 b1 b2 n1 n2 m1 m2 c1 c2 d1 d2 sh dt sh' dt' w h1 h2 k1 k2 hok hok' (by omega) (by omega)

end Go.Proofs.YtkgcmpmgaghdhaaGreatDoor
namespace Go.Proofs.YtkgcmpmgaghdhaaGreatDoor
open Go.RowKit

set_option maxHeartbeats 1000000 in
theorem l6First_any (c ch : Bool) (v1 : Value) (a2 : Option Addr) (n2 c2 : Nat) (dt : List Int) (v : Int) (w : World) (h2 : Row w a2 n2 dt) :
    Calls Tryz.prog 58 #[.agg #[.bool c, v1, .slice a2 n2 c2], .int .i64 v, .bool ch] w fun e w' => e = .returned (.int .i64 (firstOf c dt v ch)) ∧ Below w.heap.size w w' := by
  have hlen := hide h2.len
  have hsm := h2.small
  have H2 := hide h2
  clear h2
  have hW : ∀ o, Below w.heap.size w (w.alloc o) := fun o => (Below.refl _ _).alloc (Nat.le_refl _) _
  by_cases hc : c = ch
  · subst hc
    have HF : Hid (firstOf c dt v c = dt.findIdx (fun x => decide (x = v))) := by show _ = _; unfold firstOf; rw [if_pos rfl]
    cases c
    all_goals
      go_enter Tryz.func58, Tryz.ntmps58
      go_wp2
      go_loop [7] (fun i => ∃ k : Nat, k ≤ n2 ∧ i = .int .i64 k ∧ Hid (∀ j, j < k → dt.getD j 0 ≠ v)) (fun i => n2 - (intOf i).toNat)
      case atStart => exact ⟨0, Nat.zero_le _, rfl, fun j hj => absurd hj (Nat.not_lt_zero _)⟩
      case round =>
        obtain ⟨k, hk, rfl, hne⟩ := hrel
        by_cases hlt : k < n2
        · obtain ⟨b, off, rfl, hblt, hc⟩ := (unhide H2).get hlt
          obtain ⟨x, hx⟩ : ∃ x, x = dt.getD k 0 := ⟨_, rfl⟩
          rw [← hx] at hc
          by_cases hxv : x = v
          · have hb : (x != v) = false := by simp [hxv]
            have HE : Hid (dt.findIdx (fun x => decide (x = v)) = k) := first_here (unhide hne) (by rw [unhide hlen]; exact hlt) (by rw [← hx]; exact hxv)
            clear hxv hx
            go_wp2
            go_ret
            exact ⟨ret_int (by rw [unhide HF, unhide HE]), hW _⟩
          · have hb : (x != v) = true := by simp [hxv]
            have HN : Hid (∀ j, j < k + 1 → dt.getD j 0 ≠ v) := by
              intro j hj
              by_cases e : j = k
              · rw [e, ← hx]; exact hxv
              · exact unhide hne j (by omega)
            clear hxv hx
            go_wp2
            go_round
            case rel => exact ⟨k + 1, by omega, by go_num, HN⟩
            case measure => simp [intOf]; omega
        · have hkn : k = n2 := by omega
          subst hkn
          have HE : Hid (dt.findIdx (fun x => decide (x = v)) = k) := by
            show _ = _
            rw [first_none (by rw [unhide hlen]; exact unhide hne)]
            exact unhide hlen
          go_wp2
          go_ret
          exact ⟨ret_int (by rw [unhide HF, unhide HE]), hW _⟩
  · have HF : Hid (firstOf c dt v ch = n2) := by show _ = _; unfold firstOf; rw [if_neg hc]; exact unhide hlen
    have hcd : (c = true ∧ ch = false) ∨ (c = false ∧ ch = true) := by cases c <;> cases ch <;> simp_all
    clear hc
    rcases hcd with ⟨rfl, rfl⟩ | ⟨rfl, rfl⟩
    all_goals
      go_enter Tryz.func58, Tryz.ntmps58
      go_wp2
      go_loop [7] (fun i => ∃ k : Nat, k ≤ n2 ∧ i = .int .i64 k) (fun i => n2 - (intOf i).toNat)
      case atStart => exact ⟨0, Nat.zero_le _, rfl⟩
      case round =>
        obtain ⟨k, hk, rfl⟩ := hrel
        by_cases hlt : k < n2
        · go_wp2
          go_round
          case rel => exact ⟨k + 1, by omega, by go_num⟩
          case measure => simp [intOf]; omega
        · have hkn : k = n2 := by omega
          subst hkn
          go_wp2
          go_ret
          exact ⟨ret_int (by rw [unhide HF]), hW _⟩

end Go.Proofs.YtkgcmpmgaghdhaaGreatDoor
namespace Go.Proofs.YtkgcmpmgaghdhaaGreatDoor
open Go.RowKit

set_option maxHeartbeats 400000 in
theorem l4Truth_any (b : Bool) (w : World) : Calls Tryz.prog 57 #[.bool b] w fun e w' => e = .returned (.int .i64 (truth b)) ∧ w' = w := by
  cases b
  all_goals
    go_enter Tryz.func57, Tryz.ntmps57
    go_wp2
    go_ret
    exact ⟨rfl, rfl⟩

end Go.Proofs.YtkgcmpmgaghdhaaGreatDoor
namespace Go.Proofs.YtkgcmpmgaghdhaaGreatDoor
open Go.RowKit

/-- The statement that appends whether an element stands in b. -/
def opsM : Array Oper :=
  #[
    { dst := some 29, op := Op.fieldAddr 25 (Operand.tmp 6) 2, type := 0, pos := "l6_prim.go:94", after := #[], guard := none }, 
    { dst := some 30, op := Op.load 23 (Operand.tmp 29), type := 23, pos := "l6_prim.go:94", after := #[{ on := 0, ground := Ground.data }], guard := none }, 
    { dst := some 31, op := Op.load 25 (Operand.tmp 3), type := 25, pos := "l6_prim.go:94", after := #[], guard := none }, 
    { dst := some 32, op := Op.fieldAddr 25 (Operand.tmp 2) 2, type := 0, pos := "l6_prim.go:94", after := #[], guard := none }, 
    { dst := some 33, op := Op.load 23 (Operand.tmp 32), type := 23, pos := "l6_prim.go:94", after := #[{ on := 3, ground := Ground.data }], guard := none }, 
    { dst := some 34, op := Op.move (Operand.tmp 7), type := 3, pos := "l6_prim.go:94", after := #[], guard := none }, 
    { dst := some 35, op := Op.indexAddr 23 (Operand.tmp 33) (Operand.tmp 34), type := 0, pos := "l6_prim.go:94", after := #[{ on := 4, ground := Ground.data }, { on := 5, ground := Ground.data }], guard := none }, 
    { dst := some 36, op := Op.load 3 (Operand.tmp 35), type := 3, pos := "l6_prim.go:94", after := #[{ on := 6, ground := Ground.data }], guard := none }, 
    { dst := some 37, op := Op.fieldAddr 25 (Operand.tmp 2) 0, type := 0, pos := "l6_prim.go:94", after := #[], guard := none }, 
    { dst := some 38, op := Op.load 4 (Operand.tmp 37), type := 4, pos := "l6_prim.go:94", after := #[{ on := 8, ground := Ground.data }], guard := none }, 
    { dst := some 39, op := Op.call { callee := Callee.value (Operand.func 58), args := #[Operand.tmp 31, Operand.tmp 36, Operand.tmp 38], argTypes := #[25, 3, 4] }, type := 3, pos := "l6_prim.go:94", after := #[{ on := 2, ground := Ground.data }, { on := 7, ground := Ground.data }, { on := 9, ground := Ground.data }], guard := none }, 
    { dst := some 40, op := Op.fieldAddr 25 (Operand.tmp 3) 2, type := 0, pos := "l6_prim.go:94", after := #[], guard := none }, 
    { dst := some 41, op := Op.load 23 (Operand.tmp 40), type := 23, pos := "l6_prim.go:94", after := #[{ on := 11, ground := Ground.data }], guard := none }, 
    { dst := some 42, op := Op.call { callee := Callee.builtin Builtin.len, args := #[Operand.tmp 41], argTypes := #[23] }, type := 3, pos := "l6_prim.go:94", after := #[{ on := 12, ground := Ground.data }], guard := none }, 
    { dst := some 43, op := Op.binOp BinOp.lss 3 (Operand.tmp 39) (Operand.tmp 42) 3, type := 4, pos := "l6_prim.go:94", after := #[{ on := 10, ground := Ground.data }, { on := 13, ground := Ground.data }], guard := none }, 
    { dst := some 44, op := Op.call { callee := Callee.value (Operand.func 57), args := #[Operand.tmp 43], argTypes := #[4] }, type := 3, pos := "l6_prim.go:94", after := #[{ on := 14, ground := Ground.data }, { on := 10, ground := Ground.chain }], guard := none }, 
    { dst := some 45, op := Op.buildSlice 23 1 #[(0, Operand.tmp 44)], type := 23, pos := "l6_prim.go:94", after := #[{ on := 15, ground := Ground.data }], guard := none }, 
    { dst := some 46, op := Op.call { callee := Callee.builtin Builtin.append, args := #[Operand.tmp 30, Operand.tmp 45], argTypes := #[23, 23] }, type := 23, pos := "l6_prim.go:94", after := #[{ on := 1, ground := Ground.data }, { on := 16, ground := Ground.data }, { on := 15, ground := Ground.chain }], guard := none }, 
    { dst := some 47, op := Op.fieldAddr 25 (Operand.tmp 6) 2, type := 0, pos := "l6_prim.go:94", after := #[{ on := 0, ground := Ground.phase }, { on := 1, ground := Ground.phase }, { on := 2, ground := Ground.phase }, { on := 3, ground := Ground.phase }, { on := 4, ground := Ground.phase }, { on := 5, ground := Ground.phase }, { on := 6, ground := Ground.phase }, { on := 7, ground := Ground.phase }, { on := 8, ground := Ground.phase }, { on := 9, ground := Ground.phase }, { on := 10, ground := Ground.phase }, { on := 11, ground := Ground.phase }, { on := 12, ground := Ground.phase }, { on := 13, ground := Ground.phase }, { on := 14, ground := Ground.phase }, { on := 15, ground := Ground.phase }, { on := 16, ground := Ground.phase }, { on := 17, ground := Ground.phase }], guard := none }, 
    { dst := none, op := Op.store 23 (Operand.tmp 47) (Operand.tmp 46), type := 0, pos := "l6_prim.go:94", after := #[{ on := 18, ground := Ground.data }, { on := 17, ground := Ground.data }, { on := 17, ground := Ground.chain }, { on := 0, ground := Ground.phase }, { on := 1, ground := Ground.phase }, { on := 2, ground := Ground.phase }, { on := 3, ground := Ground.phase }, { on := 4, ground := Ground.phase }, { on := 5, ground := Ground.phase }, { on := 6, ground := Ground.phase }, { on := 7, ground := Ground.phase }, { on := 8, ground := Ground.phase }, { on := 9, ground := Ground.phase }, { on := 10, ground := Ground.phase }, { on := 11, ground := Ground.phase }, { on := 12, ground := Ground.phase }, { on := 13, ground := Ground.phase }, { on := 14, ground := Ground.phase }, { on := 15, ground := Ground.phase }, { on := 16, ground := Ground.phase }, { on := 17, ground := Ground.phase }], guard := none }]

section
variable {o : Oper} {a : Act}
theorem mF (x : Operand) (b k : Nat) (hk : k = 2) (ho : o.op = .fieldAddr 25 x k) (hx : a.eval x = .pointer (some ⟨b, 0, none⟩)) (w : World) : (execOp a.eval o).run Tryz.prog w = .ok (.value (.pointer (some ⟨b, k, none⟩))) w := by
  subst hk
  unfold execOp
  simp only [ho, hx]
  go_simp
theorem mF0 (x : Operand) (b : Nat) (ho : o.op = .fieldAddr 25 x 0) (hx : a.eval x = .pointer (some ⟨b, 0, none⟩)) (w : World) : (execOp a.eval o).run Tryz.prog w = .ok (.value (.pointer (some ⟨b, 0, none⟩))) w := by
  unfold execOp
  simp only [ho, hx]
  go_simp
theorem mL (x : Operand) (p : Addr) {s : Option Addr} {l c : Nat} (ho : o.op = .load 23 x) (hx : a.eval x = .pointer (some p)) (w : World) (hc : w.cell? p = some (.slice s l c)) : (execOp a.eval o).run Tryz.prog w = .ok (.value (.slice s l c)) w := by
  unfold execOp
  simp only [ho, hx]
  go_simp
theorem mB (x : Operand) (p : Addr) {z : Bool} (ho : o.op = .load 4 x) (hx : a.eval x = .pointer (some p)) (w : World) (hc : w.cell? p = some (.bool z)) : (execOp a.eval o).run Tryz.prog w = .ok (.value (.bool z)) w := by
  unfold execOp
  simp only [ho, hx]
  go_simp
theorem mA (x : Operand) (p : Nat) {z : Bool} {s1 s2 : Option Addr} {l1 e1 l2 e2 : Nat} (ho : o.op = .load 25 x) (hx : a.eval x = .pointer (some ⟨p, 0, none⟩)) (w : World) (c0 : w.cell? ⟨p, 0, none⟩ = some (.bool z)) (c1 : w.cell? ⟨p, 1, none⟩ = some (.slice s1 l1 e1)) (c2 : w.cell? ⟨p, 2, none⟩ = some (.slice s2 l2 e2)) : (execOp a.eval o).run Tryz.prog w = .ok (.value (.agg #[.bool z, .slice s1 l1 e1, .slice s2 l2 e2])) w := by
  unfold execOp
  simp only [ho, hx]
  go_simp
theorem mI (x : Operand) (p : Addr) {z : Int} (ho : o.op = .load 3 x) (hx : a.eval x = .pointer (some p)) (w : World) (hc : w.cell? p = some (.int .i64 z)) : (execOp a.eval o).run Tryz.prog w = .ok (.value (.int .i64 z)) w := by
  unfold execOp
  simp only [ho, hx]
  go_simp
theorem mM (x : Operand) {v : Value} (ho : o.op = .move x) (hx : a.eval x = v) (w : World) : (execOp a.eval o).run Tryz.prog w = .ok (.value v) w := by
  unfold execOp
  simp only [ho, hx]
  go_simp
theorem mN (t : Nat) {s : Option Addr} {l c : Nat} (ho : o.op = .call { callee := .builtin .len, args := #[.tmp t], argTypes := #[23] }) (hx : a.eval (.tmp t) = .slice s l c) (w : World) : (execOp a.eval o).run Tryz.prog w = .ok (.value (.int .i64 (l : Nat))) w := by
  have hx' : a.tmps[t]?.getD undef = .slice s l c := by simpa [Act.eval] using hx
  unfold execOp
  simp only [ho]
  go_simp
theorem mLt (x y : Operand) {u v : Nat} {r : Bool} (ho : o.op = .binOp .lss 3 x y 3) (hx : a.eval x = .int .i64 (u : Nat)) (hy : a.eval y = .int .i64 (v : Nat)) (hr : decide (u < v) = r) (w : World) : (execOp a.eval o).run Tryz.prog w = .ok (.value (.bool r)) w := by
  unfold execOp
  simp only [ho, hx, hy]
  go_simp
theorem mX (x y : Operand) {b off m c J : Nat} (ho : o.op = .indexAddr 23 x y) (hx : a.eval x = .slice (some ⟨b, off, none⟩) m c) (hy : a.eval y = .int .i64 (J : Nat)) (hJ : J < m) (w : World) : (execOp a.eval o).run Tryz.prog w = .ok (.value (.pointer (some ⟨b, off + J, none⟩))) w := by
  have h1 : (J : Int) < (m : Int) := by omega
  unfold execOp
  simp only [ho, hx, hy]
  go_simp
theorem mS1 (t : Nat) {z : Int} (ho : o.op = .buildSlice 23 1 #[(0, .tmp t)]) (hx : a.eval (.tmp t) = .int .i64 z) (w : World) : (execOp a.eval o).run Tryz.prog w = .ok (.value (.slice (some ⟨w.heap.size, 0, none⟩) 1 1)) (w.alloc (.cells #[.int .i64 z] 3)) := by
  have hx' : a.tmps[t]?.getD undef = .int .i64 z := by simpa [Act.eval] using hx
  unfold execOp
  simp only [ho]
  go_simp
theorem mSt (x y : Operand) (p : Nat) {v1 : Value} {s : Option Addr} {l c : Nat} (ho : o.op = .store 23 x y) (hx : a.eval x = .pointer (some ⟨p, 2, none⟩)) (hy : a.eval y = .slice s l c) (w : World) (hc : w.cell? ⟨p, 2, none⟩ = some v1) (hf : w.frozen? ⟨p, 2, none⟩ = false) : (execOp a.eval o).run Tryz.prog w = .ok .skip (w.setCell ⟨p, 2, none⟩ (.slice s l c)) := by
  unfold execOp
  simp only [ho, hx, hy]
  go_simp
end

theorem mCall3 {K : Act → World → Prop} {Q : Exit → Act → World → Prop} {o : Oper} {a : Act} {w : World} (x y z : Nat) {u v s : Value} (ho : o.op = .call { callee := .value (.func 58), args := #[.tmp x, .tmp y, .tmp z], argTypes := #[25, 3, 4] }) (hx : a.eval (.tmp x) = u) (hy : a.eval (.tmp y) = v) (hz : a.eval (.tmp z) = s)
    (h : Calls Tryz.prog 58 #[u, v, s] w fun | .returned r, w' => K (a.put o.dst r) w' | .panicked c, w' => Q (.panic c) a w' | .outgrown, _ => LetsOut Q) : o.wp Tryz.prog a w K Q := by
  have hx' : a.tmps[x]?.getD undef = u := by simpa [Act.eval] using hx
  have hy' : a.tmps[y]?.getD undef = v := by simpa [Act.eval] using hy
  have hz' : a.tmps[z]?.getD undef = s := by simpa [Act.eval] using hz
  have e : (execOp a.eval o).run Tryz.prog w = .ok (.enter 58 #[u, v, s]) w := by
    unfold execOp
    simp only [ho]
    go_simp
  unfold Oper.wp
  rw [e]
  exact h
theorem mCall1 {K : Act → World → Prop} {Q : Exit → Act → World → Prop} {o : Oper} {a : Act} {w : World} (x : Nat) {u : Value} (ho : o.op = .call { callee := .value (.func 57), args := #[.tmp x], argTypes := #[4] }) (hx : a.eval (.tmp x) = u)
    (h : Calls Tryz.prog 57 #[u] w fun | .returned r, w' => K (a.put o.dst r) w' | .panicked c, w' => Q (.panic c) a w' | .outgrown, _ => LetsOut Q) : o.wp Tryz.prog a w K Q := by
  have hx' : a.tmps[x]?.getD undef = u := by simpa [Act.eval] using hx
  have e : (execOp a.eval o).run Tryz.prog w = .ok (.enter 57 #[u]) w := by
    unfold execOp
    simp only [ho]
    go_simp
  unfold Oper.wp
  rw [e]
  exact h

/-- The frame behind the statement. -/
def outM (a : Act) (p pa pb : Nat) (c d : Bool) (b1 b2 : Option Addr) (g P cap bd od n2 c2 m1 d1 m2 d2 : Nat) (x : Int) (q : Nat) (r : Bool) (hb : Nat) (v' : Value) : Act :=
  (((((((((((((((((((a.put (some 29) (.pointer (some ⟨p, 2, none⟩))).put (some 30) (.slice (some ⟨g, 0, none⟩) P cap)).put (some 31) (.agg #[.bool d, .slice b1 m1 d1, .slice b2 m2 d2])).put (some 32) (.pointer (some ⟨pa, 2, none⟩))).put (some 33) (.slice (some ⟨bd, od, none⟩) n2 c2)).put (some 34) (.int .i64 (P : Nat))).put (some 35) (.pointer (some ⟨bd, od + P, none⟩))).put (some 36) (.int .i64 x)).put (some 37) (.pointer (some ⟨pa, 0, none⟩))).put (some 38) (.bool c)).put (some 40) (.pointer (some ⟨pb, 2, none⟩))).put (some 41) (.slice b2 m2 d2)).put (some 42) (.int .i64 (m2 : Nat))).put (some 39) (.int .i64 (q : Nat))).put (some 43) (.bool r)).put (some 44) (.int .i64 (truth r))).put (some 45) (.slice (some ⟨hb, 0, none⟩) 1 1)).put (some 46) (v')).put (some 47) (.pointer (some ⟨p, 2, none⟩))).put none undef

set_option maxHeartbeats 4000000 in
set_option maxRecDepth 20000 in
theorem regionM {Q : Exit → Act → World → Prop} (a : Act) (W : World) (hsz : 49 ≤ a.tmps.size) (p pa pb : Nat) (h6 : a.eval (.tmp 6) = .pointer (some ⟨p, 0, none⟩)) (h2 : a.eval (.tmp 2) = .pointer (some ⟨pa, 0, none⟩)) (h3 : a.eval (.tmp 3) = .pointer (some ⟨pb, 0, none⟩))
    (c d : Bool) (b1 b2 : Option Addr) (g P cap bd od n2 c2 m1 d1 m2 d2 : Nat) (h7 : a.eval (.tmp 7) = .int .i64 (P : Nat)) (xs : List Value) (x : Int) (base q : Nat) (r : Bool) (hr : decide (q < m2) = r) (hP : P < n2) (hPb : P ≤ 1000000) (S : World → Prop)
    (hS : ∀ wx, S wx → wx.cell? ⟨p, 2, none⟩ = some (.slice (some ⟨g, 0, none⟩) P cap) ∧ wx.frozen? ⟨p, 2, none⟩ = false ∧ wx.cell? ⟨pb, 0, none⟩ = some (.bool d) ∧ wx.cell? ⟨pb, 1, none⟩ = some (.slice b1 m1 d1) ∧ wx.cell? ⟨pb, 2, none⟩ = some (.slice b2 m2 d2) ∧ wx.cell? ⟨pa, 2, none⟩ = some (.slice (some ⟨bd, od, none⟩) n2 c2) ∧ wx.cell? ⟨pa, 0, none⟩ = some (.bool c) ∧ wx.cell? ⟨bd, od + P, none⟩ = some (.int .i64 x))
    (HK : ∀ wx, Below W.heap.size W wx → S wx)
    (HC : ∀ wx, Below W.heap.size W wx → Calls Tryz.prog 58 #[.agg #[.bool d, .slice b1 m1 d1, .slice b2 m2 d2], .int .i64 x, .bool c] wx fun e w' => e = .returned (.int .i64 (q : Nat)) ∧ Below wx.heap.size wx w')
    (hown : W.ownsRow base 3 1 (.slice (some ⟨g, 0, none⟩) P cap) P xs) (hbase : base ≤ W.heap.size)
    (HA : ∀ wx w7, Below W.heap.size W wx → (wx.alloc (.cells #[.int .i64 (truth r)] 3)).grownBy w7 (some g) → S w7)
    (hQ : ∀ c a (d : Nat) v w, Q (.panic c) (a.put (some d) v) w → Q (.panic c) a w)
    (hend : ∀ wx g' cap' w7, Below W.heap.size W wx → w7.ownsRow base 3 1 (.slice (some ⟨g', 0, none⟩) (P + 1) cap') (P + 1) (xs ++ [.int .i64 (truth r)]) → (wx.alloc (.cells #[.int .i64 (truth r)] 3)).grownBy w7 (Value.ownBlock (.slice (some ⟨g, 0, none⟩) P cap)) → (Value.ownBlock (.slice (some ⟨g, 0, none⟩) P cap) = some g' ∨ g' = wx.heap.size + 1) →
      Q .normal (outM a p pa pb c d b1 b2 g P cap bd od n2 c2 m1 d1 m2 d2 x q r wx.heap.size (.slice (some ⟨g', 0, none⟩) (P + 1) cap')) (w7.setCell ⟨p, 2, none⟩ (.slice (some ⟨g', 0, none⟩) (P + 1) cap'))) :
    (Code.region 7 opsM true).wp Tryz.prog Q a W := by
  have hb0 : Below W.heap.size W { W with drawn := W.drawn + 1 } := (Below.refl _ _).drew
  have hS0 := HK _ hb0
  obtain ⟨i0, hi, hz0, hz1, hz2⟩ := info_parts info_int
  refine wp_region_L S 19 (by kernel_rfl) ?_
  show wpAnyL _ _ _ _ _ _ (19 + 1) _ _ _
  refine wpAnyL_put 0 29 (.pointer (some ⟨p, 2, none⟩)) rfl rfl (by kernel_rfl) (by kernel_rfl) (by kernel_rfl) (by kernel_rfl) hQ rfl (fun w hw => mF (.tmp 6) p 2 (by omega) rfl h6 w) hS0 ?_
  refine wpAnyL_put 1 30 (.slice (some ⟨g, 0, none⟩) P cap) rfl rfl (by kernel_rfl) (by kernel_rfl) (by kernel_rfl) (by kernel_rfl) hQ rfl (fun w hw => mL (.tmp 29) _ rfl (eval_eq (by omega)) w (hS w hw).1) hS0 ?_
  refine wpAnyL_put 2 31 (.agg #[.bool d, .slice b1 m1 d1, .slice b2 m2 d2]) rfl rfl (by kernel_rfl) (by kernel_rfl) (by kernel_rfl) (by kernel_rfl) hQ rfl (fun w hw => mA (.tmp 3) pb rfl (by rw [eval_ne (by decide), eval_ne (by decide)]; exact h3) w (hS w hw).2.2.1 (hS w hw).2.2.2.1 (hS w hw).2.2.2.2.1) hS0 ?_
  refine wpAnyL_put 3 32 (.pointer (some ⟨pa, 2, none⟩)) rfl rfl (by kernel_rfl) (by kernel_rfl) (by kernel_rfl) (by kernel_rfl) hQ rfl (fun w hw => mF (.tmp 2) pa 2 (by omega) rfl (by rw [eval_ne (by decide), eval_ne (by decide), eval_ne (by decide)]; exact h2) w) hS0 ?_
  refine wpAnyL_put 4 33 (.slice (some ⟨bd, od, none⟩) n2 c2) rfl rfl (by kernel_rfl) (by kernel_rfl) (by kernel_rfl) (by kernel_rfl) hQ rfl (fun w hw => mL (.tmp 32) _ rfl (eval_eq (by rw [put_size, put_size, put_size]; omega)) w (hS w hw).2.2.2.2.2.1) hS0 ?_
  refine wpAnyL_put 5 34 (.int .i64 (P : Nat)) rfl rfl (by kernel_rfl) (by kernel_rfl) (by kernel_rfl) (by kernel_rfl) hQ rfl (fun w hw => mM (.tmp 7) rfl (by rw [eval_ne (by decide), eval_ne (by decide), eval_ne (by decide), eval_ne (by decide), eval_ne (by decide)]; exact h7) w) hS0 ?_
  refine wpAnyL_put 6 35 (.pointer (some ⟨bd, od + P, none⟩)) rfl rfl (by kernel_rfl) (by kernel_rfl) (by kernel_rfl) (by kernel_rfl) hQ rfl (fun w hw => mX (.tmp 33) (.tmp 34) rfl (by rw [eval_ne (by decide)]; exact eval_eq (by rw [put_size, put_size, put_size, put_size]; omega)) (eval_eq (by rw [put_size, put_size, put_size, put_size, put_size]; omega)) hP w) hS0 ?_
  refine wpAnyL_put 7 36 (.int .i64 x) rfl rfl (by kernel_rfl) (by kernel_rfl) (by kernel_rfl) (by kernel_rfl) hQ rfl (fun w hw => mI (.tmp 35) _ rfl (eval_eq (by rw [put_size, put_size, put_size, put_size, put_size, put_size]; omega)) w (hS w hw).2.2.2.2.2.2.2) hS0 ?_
  refine wpAnyL_put 8 37 (.pointer (some ⟨pa, 0, none⟩)) rfl rfl (by kernel_rfl) (by kernel_rfl) (by kernel_rfl) (by kernel_rfl) hQ rfl (fun w hw => mF0 (.tmp 2) pa rfl (by rw [eval_ne (by decide), eval_ne (by decide), eval_ne (by decide), eval_ne (by decide), eval_ne (by decide), eval_ne (by decide), eval_ne (by decide), eval_ne (by decide)]; exact h2) w) hS0 ?_
  refine wpAnyL_put 9 38 (.bool c) rfl rfl (by kernel_rfl) (by kernel_rfl) (by kernel_rfl) (by kernel_rfl) hQ rfl (fun w hw => mB (.tmp 37) _ rfl (eval_eq (by rw [put_size, put_size, put_size, put_size, put_size, put_size, put_size, put_size]; omega)) w (hS w hw).2.2.2.2.2.2.1) hS0 ?_
  refine wpAnyL_put 11 40 (.pointer (some ⟨pb, 2, none⟩)) rfl rfl (by kernel_rfl) (by kernel_rfl) (by kernel_rfl) (by kernel_rfl) hQ rfl (fun w hw => mF (.tmp 3) pb 2 (by omega) rfl (by rw [eval_ne (by decide), eval_ne (by decide), eval_ne (by decide), eval_ne (by decide), eval_ne (by decide), eval_ne (by decide), eval_ne (by decide), eval_ne (by decide), eval_ne (by decide), eval_ne (by decide)]; exact h3) w) hS0 ?_
  refine wpAnyL_put 12 41 (.slice b2 m2 d2) rfl rfl (by kernel_rfl) (by kernel_rfl) (by kernel_rfl) (by kernel_rfl) hQ rfl (fun w hw => mL (.tmp 40) _ rfl (eval_eq (by rw [put_size, put_size, put_size, put_size, put_size, put_size, put_size, put_size, put_size, put_size]; omega)) w (hS w hw).2.2.2.2.1) hS0 ?_
  refine wpAnyL_put 13 42 (.int .i64 (m2 : Nat)) rfl rfl (by kernel_rfl) (by kernel_rfl) (by kernel_rfl) (by kernel_rfl) hQ rfl (fun w hw => mN 41 rfl (eval_eq (by rw [put_size, put_size, put_size, put_size, put_size, put_size, put_size, put_size, put_size, put_size, put_size]; omega)) w) hS0 ?_
  refine wpAnyL_one (i := 10) (by kernel_rfl) ?_
  refine op_wp rfl rfl ?_
  have q1 : (((((((((((((a.put (some 29) (.pointer (some ⟨p, 2, none⟩))).put (some 30) (.slice (some ⟨g, 0, none⟩) P cap)).put (some 31) (.agg #[.bool d, .slice b1 m1 d1, .slice b2 m2 d2])).put (some 32) (.pointer (some ⟨pa, 2, none⟩))).put (some 33) (.slice (some ⟨bd, od, none⟩) n2 c2)).put (some 34) (.int .i64 (P : Nat))).put (some 35) (.pointer (some ⟨bd, od + P, none⟩))).put (some 36) (.int .i64 x)).put (some 37) (.pointer (some ⟨pa, 0, none⟩))).put (some 38) (.bool c)).put (some 40) (.pointer (some ⟨pb, 2, none⟩))).put (some 41) (.slice b2 m2 d2)).put (some 42) (.int .i64 (m2 : Nat))).eval (.tmp 31) = .agg #[.bool d, .slice b1 m1 d1, .slice b2 m2 d2] := (by rw [eval_ne (by decide), eval_ne (by decide), eval_ne (by decide), eval_ne (by decide), eval_ne (by decide), eval_ne (by decide), eval_ne (by decide), eval_ne (by decide), eval_ne (by decide), eval_ne (by decide)]; exact eval_eq (by rw [put_size, put_size]; omega))
  have q2 : (((((((((((((a.put (some 29) (.pointer (some ⟨p, 2, none⟩))).put (some 30) (.slice (some ⟨g, 0, none⟩) P cap)).put (some 31) (.agg #[.bool d, .slice b1 m1 d1, .slice b2 m2 d2])).put (some 32) (.pointer (some ⟨pa, 2, none⟩))).put (some 33) (.slice (some ⟨bd, od, none⟩) n2 c2)).put (some 34) (.int .i64 (P : Nat))).put (some 35) (.pointer (some ⟨bd, od + P, none⟩))).put (some 36) (.int .i64 x)).put (some 37) (.pointer (some ⟨pa, 0, none⟩))).put (some 38) (.bool c)).put (some 40) (.pointer (some ⟨pb, 2, none⟩))).put (some 41) (.slice b2 m2 d2)).put (some 42) (.int .i64 (m2 : Nat))).eval (.tmp 36) = .int .i64 x := (by rw [eval_ne (by decide), eval_ne (by decide), eval_ne (by decide), eval_ne (by decide), eval_ne (by decide)]; exact eval_eq (by rw [put_size, put_size, put_size, put_size, put_size, put_size, put_size]; omega))
  have q3 : (((((((((((((a.put (some 29) (.pointer (some ⟨p, 2, none⟩))).put (some 30) (.slice (some ⟨g, 0, none⟩) P cap)).put (some 31) (.agg #[.bool d, .slice b1 m1 d1, .slice b2 m2 d2])).put (some 32) (.pointer (some ⟨pa, 2, none⟩))).put (some 33) (.slice (some ⟨bd, od, none⟩) n2 c2)).put (some 34) (.int .i64 (P : Nat))).put (some 35) (.pointer (some ⟨bd, od + P, none⟩))).put (some 36) (.int .i64 x)).put (some 37) (.pointer (some ⟨pa, 0, none⟩))).put (some 38) (.bool c)).put (some 40) (.pointer (some ⟨pb, 2, none⟩))).put (some 41) (.slice b2 m2 d2)).put (some 42) (.int .i64 (m2 : Nat))).eval (.tmp 38) = .bool c := (by rw [eval_ne (by decide), eval_ne (by decide), eval_ne (by decide)]; exact eval_eq (by rw [put_size, put_size, put_size, put_size, put_size, put_size, put_size, put_size, put_size]; omega))
  have q4 : (((((((((((((a.put (some 29) (.pointer (some ⟨p, 2, none⟩))).put (some 30) (.slice (some ⟨g, 0, none⟩) P cap)).put (some 31) (.agg #[.bool d, .slice b1 m1 d1, .slice b2 m2 d2])).put (some 32) (.pointer (some ⟨pa, 2, none⟩))).put (some 33) (.slice (some ⟨bd, od, none⟩) n2 c2)).put (some 34) (.int .i64 (P : Nat))).put (some 35) (.pointer (some ⟨bd, od + P, none⟩))).put (some 36) (.int .i64 x)).put (some 37) (.pointer (some ⟨pa, 0, none⟩))).put (some 38) (.bool c)).put (some 40) (.pointer (some ⟨pb, 2, none⟩))).put (some 41) (.slice b2 m2 d2)).put (some 42) (.int .i64 (m2 : Nat))).eval (.tmp 30) = .slice (some ⟨g, 0, none⟩) P cap := (by rw [eval_ne (by decide), eval_ne (by decide), eval_ne (by decide), eval_ne (by decide), eval_ne (by decide), eval_ne (by decide), eval_ne (by decide), eval_ne (by decide), eval_ne (by decide), eval_ne (by decide), eval_ne (by decide)]; exact eval_eq (by rw [put_size]; omega))
  have q5 : (((((((((((((a.put (some 29) (.pointer (some ⟨p, 2, none⟩))).put (some 30) (.slice (some ⟨g, 0, none⟩) P cap)).put (some 31) (.agg #[.bool d, .slice b1 m1 d1, .slice b2 m2 d2])).put (some 32) (.pointer (some ⟨pa, 2, none⟩))).put (some 33) (.slice (some ⟨bd, od, none⟩) n2 c2)).put (some 34) (.int .i64 (P : Nat))).put (some 35) (.pointer (some ⟨bd, od + P, none⟩))).put (some 36) (.int .i64 x)).put (some 37) (.pointer (some ⟨pa, 0, none⟩))).put (some 38) (.bool c)).put (some 40) (.pointer (some ⟨pb, 2, none⟩))).put (some 41) (.slice b2 m2 d2)).put (some 42) (.int .i64 (m2 : Nat))).eval (.tmp 42) = .int .i64 (m2 : Nat) := (eval_eq (by rw [put_size, put_size, put_size, put_size, put_size, put_size, put_size, put_size, put_size, put_size, put_size, put_size]; omega))
  have q6 : (((((((((((((a.put (some 29) (.pointer (some ⟨p, 2, none⟩))).put (some 30) (.slice (some ⟨g, 0, none⟩) P cap)).put (some 31) (.agg #[.bool d, .slice b1 m1 d1, .slice b2 m2 d2])).put (some 32) (.pointer (some ⟨pa, 2, none⟩))).put (some 33) (.slice (some ⟨bd, od, none⟩) n2 c2)).put (some 34) (.int .i64 (P : Nat))).put (some 35) (.pointer (some ⟨bd, od + P, none⟩))).put (some 36) (.int .i64 x)).put (some 37) (.pointer (some ⟨pa, 0, none⟩))).put (some 38) (.bool c)).put (some 40) (.pointer (some ⟨pb, 2, none⟩))).put (some 41) (.slice b2 m2 d2)).put (some 42) (.int .i64 (m2 : Nat))).eval (.tmp 6) = .pointer (some ⟨p, 0, none⟩) := (by rw [eval_ne (by decide), eval_ne (by decide), eval_ne (by decide), eval_ne (by decide), eval_ne (by decide), eval_ne (by decide), eval_ne (by decide), eval_ne (by decide), eval_ne (by decide), eval_ne (by decide), eval_ne (by decide), eval_ne (by decide), eval_ne (by decide)]; exact h6)
  have q7 : 49 ≤ (((((((((((((a.put (some 29) (.pointer (some ⟨p, 2, none⟩))).put (some 30) (.slice (some ⟨g, 0, none⟩) P cap)).put (some 31) (.agg #[.bool d, .slice b1 m1 d1, .slice b2 m2 d2])).put (some 32) (.pointer (some ⟨pa, 2, none⟩))).put (some 33) (.slice (some ⟨bd, od, none⟩) n2 c2)).put (some 34) (.int .i64 (P : Nat))).put (some 35) (.pointer (some ⟨bd, od + P, none⟩))).put (some 36) (.int .i64 x)).put (some 37) (.pointer (some ⟨pa, 0, none⟩))).put (some 38) (.bool c)).put (some 40) (.pointer (some ⟨pb, 2, none⟩))).put (some 41) (.slice b2 m2 d2)).put (some 42) (.int .i64 (m2 : Nat))).tmps.size := by rw [put_size, put_size, put_size, put_size, put_size, put_size, put_size, put_size, put_size, put_size, put_size, put_size, put_size]; exact hsz
  unfold outM at hend
  generalize (((((((((((((a.put (some 29) (.pointer (some ⟨p, 2, none⟩))).put (some 30) (.slice (some ⟨g, 0, none⟩) P cap)).put (some 31) (.agg #[.bool d, .slice b1 m1 d1, .slice b2 m2 d2])).put (some 32) (.pointer (some ⟨pa, 2, none⟩))).put (some 33) (.slice (some ⟨bd, od, none⟩) n2 c2)).put (some 34) (.int .i64 (P : Nat))).put (some 35) (.pointer (some ⟨bd, od + P, none⟩))).put (some 36) (.int .i64 x)).put (some 37) (.pointer (some ⟨pa, 0, none⟩))).put (some 38) (.bool c)).put (some 40) (.pointer (some ⟨pb, 2, none⟩))).put (some 41) (.slice b2 m2 d2)).put (some 42) (.int .i64 (m2 : Nat))) = A at *
  refine mCall3 31 36 38 rfl q1 q2 q3 ((HC _ hb0).mono ?_)
  rintro e w2 ⟨rfl, hb2⟩
  have hbw : Below W.heap.size W w2 := hb0.trans hb2
  have hS2 := HK _ hbw
  refine ⟨fun _ => hS2, ?_⟩
  show wpAnyL _ _ _ _ _ _ (5 + 1) _ (A.put (some 39) _) _
  refine wpAnyL_put 14 43 (.bool r) rfl rfl (by kernel_rfl) (by kernel_rfl) (by kernel_rfl) (by kernel_rfl) hQ rfl (fun w hw => mLt (.tmp 39) (.tmp 42) rfl (eval_eq (by omega)) (by rw [eval_ne (by decide)]; exact q5) hr w) hS2 ?_
  refine wpAnyL_one (i := 15) (by kernel_rfl) ?_
  refine op_wp rfl rfl ?_
  refine mCall1 43 rfl (eval_eq (by rw [put_size]; omega)) ((l4Truth_any r w2).mono ?_)
  rintro e w3 ⟨rfl, rfl⟩
  refine ⟨fun _ => hS2, ?_⟩
  show wpAnyL _ _ _ _ _ _ (3 + 1) _ (((A.put (some 39) _).put (some 43) _).put (some 44) _) _
  refine wpAnyL_one (i := 16) (by kernel_rfl) ?_
  refine op_wp rfl rfl ?_
  unfold Oper.wp
  rw [mS1 44 rfl (eval_eq (by rw [put_size, put_size]; omega)) w3]
  have hbx : Below W.heap.size W (w3.alloc (.cells #[.int .i64 (truth r)] 3)) := hbw.alloc hbw.size _
  refine ⟨fun _ => HK _ hbx, ?_⟩
  show wpAnyL _ _ _ _ _ _ (2 + 1) _ ((((A.put (some 39) _).put (some 43) _).put (some 44) _).put (some 45) _) _
  refine wpAnyL_one (i := 17) (by kernel_rfl) ?_
  refine op_wp rfl rfl ?_
  refine wp_append_lies _ (.tmp 30) (.tmp 45) 23 rfl base 3 i0 (.int .i64 0) 1 8 Tryz.underlying23 hi hz0 hz1 hz2 rfl (by decide) (.slice (some ⟨g, 0, none⟩) P cap) P xs (by rw [eval_ne (by decide), eval_ne (by decide), eval_ne (by decide), eval_ne (by decide)]; exact q4) (owns_below hown (Nat.le_refl _) hbx) ⟨w3.heap.size, 0, none⟩ 1 1 [.int .i64 (truth r)] (eval_eq (by rw [put_size, put_size, put_size]; omega)) rfl (cells_new _ _) (one_one _) (by omega) (by unfold maxLen; omega) (by omega) (by have := hbw.size; simp; omega) (w3.heap.size + 1) (by simp) ?_
  intro g' cap' w7 hown7 hgrow hat hlt
  have hS7 := HA w3 w7 hbw hgrow
  refine ⟨fun _ => hS7, ?_⟩
  show wpAnyL _ _ _ _ _ _ (1 + 1) _ (((((A.put (some 39) _).put (some 43) _).put (some 44) _).put (some 45) _).put (some 46) _) _
  refine wpAnyL_put 18 47 (.pointer (some ⟨p, 2, none⟩)) rfl rfl (by kernel_rfl) (by kernel_rfl) (by kernel_rfl) (by kernel_rfl) hQ rfl (fun w hw => mF (.tmp 6) p 2 (by omega) rfl (by rw [eval_ne (by decide), eval_ne (by decide), eval_ne (by decide), eval_ne (by decide), eval_ne (by decide)]; exact q6) w) hS7 ?_
  refine wpAnyL_one (i := 19) (by kernel_rfl) ?_
  refine op_wp rfl rfl ?_
  unfold Oper.wp
  rw [mSt (.tmp 47) (.tmp 46) p (s := some ⟨g', 0, none⟩) (l := P + 1) (c := cap') rfl (eval_eq (by rw [put_size, put_size, put_size, put_size, put_size]; omega)) (by rw [eval_ne (by decide)]; exact eval_eq (by rw [put_size, put_size, put_size, put_size]; omega)) w7 (hS w7 hS7).1 (hS w7 hS7).2.1]
  refine ⟨fun h => absurd rfl h, ?_⟩
  refine wpAnyL_done (by kernel_rfl) ?_ _
  exact hend w3 g' cap' w7 hbw hown7 hgrow hat

end Go.Proofs.YtkgcmpmgaghdhaaGreatDoor
namespace Go.Proofs.YtkgcmpmgaghdhaaGreatDoor
open Go.RowKit

set_option maxHeartbeats 400000 in
theorem l4None_any (w : World) : Calls Tryz.prog 55 #[] w fun e w' => e = .returned (.agg #[.bool false, .slice none 0 0, .slice none 0 0]) ∧ Below w.heap.size w w' := by
  go_enter Tryz.func55, Tryz.ntmps55
  go_wp2
  exact bodyPost_ret (v := .agg #[.bool false, .slice none 0 0, .slice none 0 0]) (by simp [results, Tryz.results55, go_sem]) rfl ⟨rfl, (Below.refl _ _).alloc (Nat.le_refl _) _⟩

end Go.Proofs.YtkgcmpmgaghdhaaGreatDoor
namespace Go.Proofs.YtkgcmpmgaghdhaaGreatDoor
open Go.RowKit

theorem member_bad1 {c d : Bool} {sh dt sh' dt' : List Int} (h : arrOk c sh dt = false) : member c d sh dt sh' dt' = noAns 3 := by unfold member; rw [if_neg (by simp [h])]
theorem member_bad2 {c d : Bool} {sh dt sh' dt' : List Int} (h : arrOk d sh' dt' = false) : member c d sh dt sh' dt' = noAns 3 := by unfold member; rw [if_neg (by simp [h])]
theorem member_go {c d : Bool} {sh dt sh' dt' : List Int} (h1 : arrOk c sh dt = true) (h2 : arrOk d sh' dt' = true) : member c d sh dt sh' dt' = gatherAns false sh (fun k => (truth (decide (firstOf d dt' (dt.getD k 0) c < dt'.length)), 0)) dt.length := by unfold member; rw [if_pos ⟨h1, h2⟩]

theorem mem_cell {w w1 : World} {g b o : Nat} (ob : Obj) (hg : (w.alloc ob).grownBy w1 (some g)) (hb : b < w.heap.size) (hne : b ≠ g) : w1.cell? ⟨b, o, none⟩ = w.cell? ⟨b, o, none⟩ :=
  World.cell?_of_block (w := w) (a := ⟨b, o, none⟩) ((hg.block b (by simp; omega) (fun e => by cases e; exact hne rfl)).trans (Below.heap_alloc w ob b hb))

set_option maxRecDepth 20000 in
set_option maxHeartbeats 8000000 in
theorem Member_any (c d : Bool) (a1 a2 b1 b2 : Addr) (n1 n2 m1 m2 c1 c2 d1 d2 : Nat) (sh dt sh' dt' : List Int) (w : World) (h1 : Row w (some a1) n1 sh) (h2 : Row w (some a2) n2 dt) (k1 : Row w (some b1) m1 sh') (k2 : Row w (some b2) m2 dt') :
    Calls Tryz.prog 15 #[.agg #[.bool c, .slice (some a1) n1 c1, .slice (some a2) n2 c2], .agg #[.bool d, .slice (some b1) m1 d1, .slice (some b2) m2 d2]] w (GivesRow w (member c d sh dt sh' dt')) := by
  have hl1 := hide h1.len
  have hl2 := hide h2.len
  have hl3 := hide k1.len
  have hl4 := hide k2.len
  have hs1 := h1.small
  have hs2 := h2.small
  have hs3 := k1.small
  have hs4 := k2.small
  have H1 := hide h1
  have H2 := hide h2
  have K1 := hide k1
  have K2 := hide k2
  clear h1 h2 k1 k2
  obtain ⟨r1, hr1⟩ : ∃ r, arrOk c sh dt = r := ⟨_, rfl⟩
  obtain ⟨r2, hr2⟩ : ∃ r, arrOk d sh' dt' = r := ⟨_, rfl⟩
  have HR1 := hide hr1
  have HR2 := hide hr2
  clear hr1 hr2
  go_enter Tryz.func15, Tryz.ntmps15
  go_wp2_with fail
  refine (ArrayOk_eq _ _ _ _ _ _ _ sh dt _ ((((unhide H1).alloc _).alloc _).alloc _) ((((unhide H2).alloc _).alloc _).alloc _) _ HR1).mono ?_
  rintro e w1 ⟨rfl, hb1⟩
  obtain ⟨B4, B5, B6, hB1⟩ := boxes3 hb1
  have hz1 := B6.lt
  clear hb1
  obtain ⟨x0, x1, x2, x3, x4, x5, x6⟩ := B4.all
  obtain ⟨y0, y1, y2, y3, y4, y5, y6⟩ := B5.all
  cases r1 with
  | false =>
    have HS : Hid (member c d sh dt sh' dt' = noAns 3) := member_bad1 (unhide HR1)
    go_wp2_with fail
    refine (l4None_any _).mono ?_
    rintro e w9 ⟨rfl, hb9⟩
    obtain ⟨q0, q1, q2, q3, q4, q5, q6⟩ := ((B6).below (Nat.le_refl _) hb9).all
    have hB9 := hide ((hB1).trans (hb9.mono (hB1).size))
    clear hb9 hB1 B4 B5 B6 hz1 x0 x1 x2 x3 x4 x5 x6 y0 y1 y2 y3 y4 y5 y6
    go_wp2
    refine bodyPost_ret (v := .tuple #[.agg #[.bool false, .slice none 0 0, .slice none 0 0], .int .i64 3]) (by simp [results, Tryz.results15, go_sem, q0, q1, q2]) rfl ?_
    rw [unhide HS]
    exact ⟨none, 0, 0, none, 0, 0, rfl, row_nil _ _, row_nil _ _, (((unhide hB9).setCell (by simp <;> omega) _).setCell (by simp <;> omega) _).setCell (by simp <;> omega) _⟩
  | true =>
    go_wp2_with fail
    refine (ArrayOk_eq _ _ _ _ _ _ _ sh' dt' _ ((unhide K1).below (Nat.le_refl _) hB1) ((unhide K2).below (Nat.le_refl _) hB1) _ HR2).mono ?_
    rintro e w2 ⟨rfl, hb2⟩
    have C4 := hide (B4.below (Nat.le_refl _) hb2)
    have C5 := hide (B5.below (Nat.le_refl _) hb2)
    have C6 := hide (B6.below (Nat.le_refl _) hb2)
    have hB2 := hide (hB1.trans (hb2.mono hB1.size))
    clear hb2 hB1 B4 B5 B6 hz1 x0 x1 x2 x3 x4 x5 x6 y0 y1 y2 y3 y4 y5 y6 w1
    cases r2 with
    | false =>
      have HS : Hid (member c d sh dt sh' dt' = noAns 3) := member_bad2 (unhide HR2)
      go_wp2_with fail
      refine (l4None_any _).mono ?_
      rintro e w9 ⟨rfl, hb9⟩
      obtain ⟨q0, q1, q2, q3, q4, q5, q6⟩ := ((unhide C6).below (Nat.le_refl _) hb9).all
      have hB9 := hide ((unhide hB2).trans (hb9.mono (unhide hB2).size))
      clear hb9 C4 C5 C6 hB2
      go_wp2
      refine bodyPost_ret (v := .tuple #[.agg #[.bool false, .slice none 0 0, .slice none 0 0], .int .i64 3]) (by simp [results, Tryz.results15, go_sem, q0, q1, q2]) rfl ?_
      rw [unhide HS]
      exact ⟨none, 0, 0, none, 0, 0, rfl, row_nil _ _, row_nil _ _, (((unhide hB9).setCell (by simp <;> omega) _).setCell (by simp <;> omega) _).setCell (by simp <;> omega) _⟩
    | true =>
      obtain ⟨x0, x1, x2, x3, x4, x5, x6⟩ := (unhide C4).all
      obtain ⟨y0, y1, y2, y3, y4, y5, y6⟩ := (unhide C5).all
      obtain ⟨f, hf⟩ : ∃ f : Nat → Int × Int, f = fun k => (truth (decide (firstOf d dt' (dt.getD k 0) c < dt'.length)), 0) := ⟨_, rfl⟩
      have HGO : Hid (member c d sh dt sh' dt' = gatherAns false sh f n2) := by
        show _ = _
        rw [member_go (unhide HR1) (unhide HR2), hf, unhide hl2]
      have HFK : Hid (∀ k, f k = (truth (decide (firstOf d dt' (dt.getD k 0) c < dt'.length)), 0)) := by intro k; rw [hf]
      obtain ⟨_, pr1, _⟩ := shapeIn_of (unhide HR1)
      have hbd1 := (shapeIn_of (unhide HR1)).1.bd
      rw [pr1, unhide hl2] at hbd1
      have hn2b : n2 ≤ 10000 := by omega
      clear hf pr1 hbd1
      go_wp2_with fail
      refine (l3Ints_any _ _ _ sh _ ((unhide H1).below (Nat.le_refl _) (unhide hB2))).mono ?_
      rintro e w3 ⟨ash, csh, rfl, hOJ, hb3⟩
      have hlaid := laid_cbz (c := false) (csh := csh) hOJ hb3
      obtain ⟨p, g0, ash', csh', e1, hbx, hblk, hO, hb4, hp, hg, hne⟩ := hlaid
      have hpe : p = w3.heap.size + 1 := by simpa using e1.symm
      subst hpe
      have hst0 := hide (Stage.start f hbx hblk hO hb4 hp hg hne)
      have hB2z := (unhide hB2).size
      have hz4 := (unhide C4).lt
      have hz5 := (unhide C5).lt
      have hz6' := (unhide C6).lt
      clear e1 hbx hblk hO hb4 hg hne hOJ hb3 x0 x1 x2 x3 x4 x5 x6 y0 y1 y2 y3 y4 y5 y6
      go_wp2_with fail
      go_loopw [7] (fun i wr => ∃ P g cap, P ≤ n2 ∧ i = .int .i64 (P : Nat) ∧ Hid (Stage w2 (w3.heap.size + 1) false ash' n1 csh' sh f P wr g cap)) (fun i _ => n2 - (intOf i).toNat)
      case atStart => exact ⟨0, g0, 0, Nat.zero_le _, rfl, hst0⟩
      case round =>
        obtain ⟨P, g, cap, hP, rfl, hst⟩ := hrel
        clear hst0
        have hA : Box wr w.heap.size c (.slice (some a1) n1 c1) (.slice (some a2) n2 c2) := (unhide C4).low hz4 (unhide hst).low
        have hBb : Box wr (w.heap.size + 1) d (.slice (some b1) m1 d1) (.slice (some b2) m2 d2) := (unhide C5).low hz5 (unhide hst).low
        have HWy := hide ((unhide hB2).trans ((unhide hst).low.mono hB2z))
        by_cases hlt : P < n2
        · obtain ⟨bd, od, hab, hblt, hc⟩ := (unhide H2).get hlt
          cases hab
          have hc' := ((unhide HWy).cell (p := ⟨bd, od + P, none⟩) hblt).trans hc
          obtain ⟨x, hx⟩ : ∃ x, x = dt.getD P 0 := ⟨_, rfl⟩
          rw [← hx] at hc'
          obtain ⟨q, hq⟩ : ∃ q : Nat, firstOf d dt' x c = q := ⟨_, rfl⟩
          obtain ⟨r, hr⟩ : ∃ r, decide (q < m2) = r := ⟨_, rfl⟩
          have HFP : Hid (f P = (truth r, 0)) := by show _ = _; rw [unhide HFK P, ← hx, hq, unhide hl4, hr]
          have hst' := unhide hst
          have hwl := (unhide HWy).size
          have hbdl : bd < wr.heap.size := by omega
          have hgw : w2.heap.size ≤ g := by
            rcases hst'.owns.2 with ⟨hv, _⟩ | ⟨g', cp, cur, hv, hbg, _⟩
            · simp at hv
            · simp at hv; omega
          have HKK : Hid (∀ wx, Below wr.heap.size wr wx → wx.cell? ⟨w3.heap.size + 1, 2, none⟩ = some (.slice (some ⟨g, 0, none⟩) P cap) ∧ wx.frozen? ⟨w3.heap.size + 1, 2, none⟩ = false ∧ wx.cell? ⟨w.heap.size + 1, 0, none⟩ = some (.bool d) ∧ wx.cell? ⟨w.heap.size + 1, 1, none⟩ = some (.slice (some b1) m1 d1) ∧ wx.cell? ⟨w.heap.size + 1, 2, none⟩ = some (.slice (some b2) m2 d2) ∧ wx.cell? ⟨w.heap.size, 2, none⟩ = some (.slice (some ⟨bd, od, none⟩) n2 c2) ∧ wx.cell? ⟨w.heap.size, 0, none⟩ = some (.bool c) ∧ wx.cell? ⟨bd, od + P, none⟩ = some (.int .i64 x)) := fun wx hwx => by
            obtain ⟨b0, b1', b2', _⟩ := (hBb.below (Nat.le_refl _) hwx).all
            obtain ⟨a0, _, a2', _⟩ := (hA.below (Nat.le_refl _) hwx).all
            exact ⟨(hst'.box.below (Nat.le_refl _) hwx).all.2.2.1, (hst'.box.below (Nat.le_refl _) hwx).free _, b0, b1', b2', a2', a0, (hwx.cell (p := ⟨bd, od + P, none⟩) hbdl).trans hc'⟩
          have HCC : Hid (∀ wx, Below wr.heap.size wr wx → Calls Tryz.prog 58 #[.agg #[.bool d, .slice (some b1) m1 d1, .slice (some b2) m2 d2], .int .i64 x, .bool c] wx fun e w' => e = .returned (.int .i64 (q : Nat)) ∧ Below wx.heap.size wx w') := fun wx hwx => by
            rw [← hq]
            exact l6First_any d c _ _ m2 _ dt' x wx (((unhide K2).below (Nat.le_refl _) (unhide HWy)).below (Nat.le_refl _) hwx)
          have HAA : Hid (∀ wx w7, Below wr.heap.size wr wx → (wx.alloc (.cells #[.int .i64 (truth r)] 3)).grownBy w7 (some g) → w7.cell? ⟨w3.heap.size + 1, 2, none⟩ = some (.slice (some ⟨g, 0, none⟩) P cap) ∧ w7.frozen? ⟨w3.heap.size + 1, 2, none⟩ = false ∧ w7.cell? ⟨w.heap.size + 1, 0, none⟩ = some (.bool d) ∧ w7.cell? ⟨w.heap.size + 1, 1, none⟩ = some (.slice (some b1) m1 d1) ∧ w7.cell? ⟨w.heap.size + 1, 2, none⟩ = some (.slice (some b2) m2 d2) ∧ w7.cell? ⟨w.heap.size, 2, none⟩ = some (.slice (some ⟨bd, od, none⟩) n2 c2) ∧ w7.cell? ⟨w.heap.size, 0, none⟩ = some (.bool c) ∧ w7.cell? ⟨bd, od + P, none⟩ = some (.int .i64 x)) := fun wx w7 hwx hg => by
            have ho := owns_below hst'.owns (Nat.le_refl _) hwx
            have q1 := (hst'.box.below (Nat.le_refl _) hwx).grown ho _ hg
            have q2 := (hBb.below (Nat.le_refl _) hwx).grown ho _ hg
            have q3 := (hA.below (Nat.le_refl _) hwx).grown ho _ hg
            exact ⟨q1.all.2.2.1, q1.free _, q2.all.1, q2.all.2.1, q2.all.2.2.1, q3.all.2.2.1, q3.all.1, (mem_cell _ hg (Nat.lt_of_lt_of_le hbdl hwx.size) (by omega)).trans ((hwx.cell (p := ⟨bd, od + P, none⟩) hbdl).trans hc')⟩
          have HR := hide hr
          have HST := hide hst'
          have hbase := hst'.low.size
          clear hx hq hr hst' hc hc'
          obtain ⟨y0, y1, y2, y3, y4, y5, y6⟩ := hA.all
          go_upto_region 7 with fail
          clear y0 y1 y2 y3 y4 y5 y6
          refine regionM _ wr (by simp) (w3.heap.size + 1) w.heap.size (w.heap.size + 1) rfl rfl rfl c d (some b1) (some b2) g P cap bd od n2 c2 m1 d1 m2 d2 rfl ((vals f P).map (Value.int .i64)) x w2.heap.size q r HR.out hlt (by omega) (fun wx => wx.cell? ⟨w3.heap.size + 1, 2, none⟩ = some (.slice (some ⟨g, 0, none⟩) P cap) ∧ wx.frozen? ⟨w3.heap.size + 1, 2, none⟩ = false ∧ wx.cell? ⟨w.heap.size + 1, 0, none⟩ = some (.bool d) ∧ wx.cell? ⟨w.heap.size + 1, 1, none⟩ = some (.slice (some b1) m1 d1) ∧ wx.cell? ⟨w.heap.size + 1, 2, none⟩ = some (.slice (some b2) m2 d2) ∧ wx.cell? ⟨w.heap.size, 2, none⟩ = some (.slice (some ⟨bd, od, none⟩) n2 c2) ∧ wx.cell? ⟨w.heap.size, 0, none⟩ = some (.bool c) ∧ wx.cell? ⟨bd, od + P, none⟩ = some (.int .i64 x)) (fun _ h => h) HKK.out HCC.out HST.out.owns hbase HAA.out (fun _ _ _ _ _ h => h) ?_
          intro wx g' cap' w7 hbx hown7 hgrow hat
          simp only [outM, Act.put, List.setIfInBounds_toArray, List.set_cons_zero, List.set_cons_succ]
          obtain ⟨hb7, hst7⟩ := (HST.out.below hbx).push _ HFP.out hown7 hgrow hat
          clear hb7 hown7 hgrow hat hbx
          go_wp2_with fail
          go_roundw
          case rel => exact ⟨P + 1, g', cap', by omega, by go_num, hst7⟩
          case measure => simp [intOf]; omega
        · have hPB : P = n2 := by omega
          subst hPB
          have HS : Hid (member c d sh dt sh' dt' = ⟨false, sh, vals f P, 0⟩) := (unhide HGO).trans (gather_good (unhide hst).code)
          obtain ⟨ad', cd, hv, hD⟩ := Own.of_owns (unhide hst).owns (by omega)
          cases hv
          obtain ⟨y0, y1, y2, y3, y4, y5, y6⟩ := hA.all
          obtain ⟨z0, z1, z2, z3, z4, z5, z6⟩ := (unhide hst).box.all
          have G6 := hide ((unhide C6).low hz6' (unhide hst).low)
          obtain ⟨q0, q1, q2, q3, q4, q5, q6⟩ := (unhide G6).all
          have HW6 := hide ((unhide hB2).trans ((unhide hst).low.mono hB2z))
          have HO6 := hide (unhide hst).own
          have HD := hide hD
          clear hst hD HGO HFK HWy hA hBb
          go_wp2
          refine bodyPost_ret (v := .tuple #[.agg #[.bool false, .slice ash' n1 csh', .slice (some ⟨g, 0, none⟩) P cap], .int .i64 0]) (by simp [results, Tryz.results15, go_sem, q0, q1, q2]) rfl ?_
          rw [unhide HS]
          refine ⟨ash', n1, csh', some ⟨g, 0, none⟩, P, cap, rfl, ?_, ?_, (((unhide HW6).setCell (by simp <;> omega) _).setCell (by simp <;> omega) _).setCell (by simp <;> omega) _⟩
          · exact (unhide HO6).row.sets (unhide G6) _ _ _
          · exact (unhide HD).row.sets (unhide G6) _ _ _

end Go.Proofs.YtkgcmpmgaghdhaaGreatDoor
namespace Go.Proofs.YtkgcmpmgaghdhaaGreatDoor

theorem vals_set (f : Nat → Int × Int) (m k : Nat) : (vals f k ++ List.replicate (m + 1) (0 : Int)).set k (f k).1 = vals f (k + 1) ++ List.replicate m 0 := by
  have hk : (vals f k).length = k := vals_len f k
  rw [List.replicate_succ, List.set_append_right _ _ (by omega), hk, Nat.sub_self, List.set_cons_zero]
  simp [vals, List.range_succ]

theorem vals_pre_len (f : Nat → Int × Int) (n k : Nat) (h : k ≤ n) : (vals f k ++ List.replicate (n - k) (0 : Int)).length = n := by
  simp [vals_len]; omega

end Go.Proofs.YtkgcmpmgaghdhaaGreatDoor
namespace Go.Proofs.YtkgcmpmgaghdhaaGreatDoor
open Go.RowKit

/-- The two sentinels lie as their initialisers lay them: errNoResult points to a, errTooGreat to b. -/
structure Gl (w : World) (a b : Addr) : Prop where
  no : w.cell? ⟨2, 0, none⟩ = some (.iface 175 (.pointer (some a)))
  big : w.cell? ⟨1, 0, none⟩ = some (.iface 175 (.pointer (some b)))
  ne : a ≠ b
  rowA : ∃ ca ta, w.heap[a.block]? = some (.cells ca ta (0, 0))
  rowB : ∃ cb tb, w.heap[b.block]? = some (.cells cb tb (0, 0))

theorem Gl.below {w w' : World} {a b : Addr} (h : Gl w a b) (hb : Below w.heap.size w w') : Gl w' a b := by
  obtain ⟨h1, h2, h3, ⟨ca, ta, h4⟩, ⟨cb, tb, h5⟩⟩ := h
  exact ⟨(hb.cell (p := ⟨2, 0, none⟩) (World.block_lt_of_cell? _ _ h1)).trans h1, (hb.cell (p := ⟨1, 0, none⟩) (World.block_lt_of_cell? _ _ h2)).trans h2, h3,
    ⟨ca, ta, (hb.block _ (lt_of_block h4)).trans h4⟩, ⟨cb, tb, (hb.block _ (lt_of_block h5)).trans h5⟩⟩

theorem Gl.alloc {w : World} {a b : Addr} (h : Gl w a b) (o : Obj) : Gl (w.alloc o) a b := h.below ((Below.refl _ _).alloc (Nat.le_refl _) _)
theorem Gl.drewN {w : World} {a b : Addr} (h : Gl w a b) (q : Nat) : Gl (w.drewN q) a b := h.below (Below.drewN (Below.refl _ _) _)

/-- What an axis of no elements gives for the ops 1 to 16. -/
def emptyTab : List Int := [0, 0, 1, 1, 1000000000000000, -1000000000000000, 0, 1, 1, 0, 0, 1, 1, 0, 1, 0]

/-- The sentinels and the table emptyFolds lie as laid. -/
structure GlF (w : World) (a b : Addr) : Prop where
  gl : Gl w a b
  tab : ∀ i, i < 16 → w.cell? ⟨0, i, none⟩ = some (.int .i64 (emptyTab.getD i 0))

theorem GlF.below {w w' : World} {a b : Addr} (h : GlF w a b) (hb : Below w.heap.size w w') : GlF w' a b :=
  ⟨h.gl.below hb, fun i hi => (hb.cell (p := ⟨0, i, none⟩) (World.block_lt_of_cell? _ _ (h.tab i hi))).trans (h.tab i hi)⟩
theorem GlF.alloc {w : World} {a b : Addr} (h : GlF w a b) (o : Obj) : GlF (w.alloc o) a b := h.below ((Below.refl _ _).alloc (Nat.le_refl _) _)

/-- What an element's function gives for a code: nil, errTooGreat or errNoResult. -/
def errV (a b : Addr) (code : Int) : Value := if code = 0 then .nilIface else if code = 7 then .iface 175 (.pointer (some b)) else .iface 175 (.pointer (some a))

theorem errV_0 (a b : Addr) : errV a b 0 = .nilIface := rfl
theorem errV_7 (a b : Addr) : errV a b 7 = .iface 175 (.pointer (some b)) := rfl
theorem errV_3 (a b : Addr) : errV a b 3 = .iface 175 (.pointer (some a)) := rfl

/-- The codes that elements can have. -/
def codeIn (code : Int) : Prop := code = 0 ∨ code = 3 ∨ code = 7

end Go.Proofs.YtkgcmpmgaghdhaaGreatDoor
namespace Go.Proofs.YtkgcmpmgaghdhaaGreatDoor
open Go.RowKit Go.Extern.Stop Go.Stop Go.Extern

theorem is_typeOf (v : Value) (w : World) : (Extern.ReflectliteType.typeOf #[.iface 175 v]).run Tryz.prog w = .ok (.iface 165 (.agg #[.pointer (some ⟨3, 175, none⟩)])) w := by kernel_rfl
/-- The model's entry for (rtype).Comparable, under a name of its own. -/
def cmpEntry : Array Value → Sem Value := Extern.ReflectliteType.method fun t => do Extern.Rtype.noPackHeld "Comparable" t; pure (.bool (← typeInfo t).comparable)
theorem is_comparable (w : World) : (cmpEntry #[.agg #[.pointer (some ⟨3, 175, none⟩)]]).run Tryz.prog w = .ok (.bool true) w := by kernel_rfl
theorem is_methodComparable (v : Value) (w : World) : (Go.method 311 165 v "Comparable").run Tryz.prog w = .ok (198, v) w := by kernel_rfl
theorem is_comp : (Tryz.prog.info? 175).map (·.comparable) = some true := by kernel_rfl
theorem is_size : (Tryz.prog.info? 199).map (·.size) = some 1 := by kernel_rfl
theorem is_noIs (v : Value) (xT : TypeId) (w : World) : (Instr.typeAssert (.iface 175 v) xT 167 true).run Tryz.prog w = .ok (.tuple #[.nilIface, .bool false]) w := run_typeAssert_lacksB Tryz.underlying167 (by kernel_rfl) (by kernel_rfl) v xT w
theorem is_noUnwrap (v : Value) (xT : TypeId) (w : World) : (Instr.typeAssert (.iface 175 v) xT 170 true).run Tryz.prog w = .ok (.tuple #[.nilIface, .bool false]) w := run_typeAssert_lacksB Tryz.underlying170 (by kernel_rfl) (by kernel_rfl) v xT w
theorem is_noUnwraps (v : Value) (xT : TypeId) (w : World) : (Instr.typeAssert (.iface 175 v) xT 172 true).run Tryz.prog w = .ok (.tuple #[.nilIface, .bool false]) w := run_typeAssert_lacksB Tryz.underlying172 (by kernel_rfl) (by kernel_rfl) v xT w

/-- errors.Is(x, x), x a pointer to an errors.errorString. -/
theorem is_same (a : Addr) (w : World) :
    Calls Tryz.prog 160 #[.iface 175 (.pointer (some a)), .iface 175 (.pointer (some a))] w fun e w' => e = .returned (.bool true) ∧ w' = w := by
  obtain ⟨i, hi, hcmp⟩ := Option.map_eq_some_iff.1 is_comp
  obtain ⟨j, hj, hjs⟩ := Option.map_eq_some_iff.1 is_size
  have h8 := @run_callFunc_extern Tryz.prog 175 _ Extern.ReflectliteType.typeOf Tryz.func175 (by kernel_rfl) (by kernel_rfl) (by kernel_rfl) (by kernel_rfl)
  have h32 := @run_callFunc_extern Tryz.prog 198 _ cmpEntry Tryz.func198 (by kernel_rfl) (by kernel_rfl) (by kernel_rfl) (by kernel_rfl)
  have tT := is_typeOf
  have cT := is_comparable
  have mR := is_methodComparable
  have heq := run_eql_iface_ptr_same (P := Tryz.prog) w a Tryz.underlying92 Tryz.underlying175 hi hcmp hj
  go_enter Tryz.func160, Tryz.ntmps160
  go_wp2
  refine wp_loop_rounds 1 ?_
  rw [rounds_succ]
  go_wp2
  go_ret
  exact ⟨rfl, rfl⟩

/-- errors.Is(x, y), two different pointers to errors.errorString. -/
theorem is_other (a b : Addr) (ca cb : Array Value) (ta tb : TypeId) (w : World) (hne : a ≠ b) (ha : w.heap[a.block]? = some (.cells ca ta (0, 0))) (hb : w.heap[b.block]? = some (.cells cb tb (0, 0))) :
    Calls Tryz.prog 160 #[.iface 175 (.pointer (some a)), .iface 175 (.pointer (some b))] w fun e w' => e = .returned (.bool false) ∧ w' = w := by
  obtain ⟨i, hi, hcmp⟩ := Option.map_eq_some_iff.1 is_comp
  obtain ⟨j, hj, hjs⟩ := Option.map_eq_some_iff.1 is_size
  have h8 := @run_callFunc_extern Tryz.prog 175 _ Extern.ReflectliteType.typeOf Tryz.func175 (by kernel_rfl) (by kernel_rfl) (by kernel_rfl) (by kernel_rfl)
  have h32 := @run_callFunc_extern Tryz.prog 198 _ cmpEntry Tryz.func198 (by kernel_rfl) (by kernel_rfl) (by kernel_rfl) (by kernel_rfl)
  have tT := is_typeOf
  have cT := is_comparable
  have mR := is_methodComparable
  have nE := is_noIs
  have uE := is_noUnwrap
  have vE := is_noUnwraps
  have heq := run_eql_iface_ptr_other (P := Tryz.prog) w Tryz.underlying92 Tryz.underlying175 hi hcmp hj (by rw [hjs]; decide) hne ha hb
  go_enter Tryz.func160, Tryz.ntmps160
  go_wp2
  refine wp_loop_rounds 1 ?_
  rw [rounds_succ]
  go_wp2
  go_ret
  exact ⟨rfl, rfl⟩

set_option maxHeartbeats 400000 in
theorem codeOf_big (a b : Addr) (w : World) (hG : Gl w a b) : Calls Tryz.prog 119 #[errV a b 7] w fun e w' => e = .returned (.int .i64 7) ∧ w' = w := by
  have hc := hG.big
  rw [errV_7]
  go_enter Tryz.func119, Tryz.ntmps119
  go_wp2_with (go_at_call 160; refine (is_same b _).mono ?_; rintro e w' ⟨rfl, rfl⟩)
  go_ret
  exact ⟨rfl, rfl⟩

set_option maxHeartbeats 400000 in
theorem codeOf_no (a b : Addr) (w : World) (hG : Gl w a b) : Calls Tryz.prog 119 #[errV a b 3] w fun e w' => e = .returned (.int .i64 3) ∧ w' = w := by
  have hc := hG.big
  obtain ⟨ca, ta, h4⟩ := hG.rowA
  obtain ⟨cb, tb, h5⟩ := hG.rowB
  have HN := hide hG.ne
  have H4 := hide h4
  have H5 := hide h5
  clear h4 h5 hG
  rw [errV_3]
  go_enter Tryz.func119, Tryz.ntmps119
  go_wp2_with (go_at_call 160; refine (is_other a b _ _ _ _ _ (unhide HN) (unhide H4) (unhide H5)).mono ?_; rintro e w' ⟨rfl, rfl⟩)
  go_ret
  exact ⟨rfl, rfl⟩

theorem codeOf_any (a b : Addr) (code : Int) (w : World) (hG : Gl w a b) (hc : codeIn code) (h0 : code ≠ 0) : Calls Tryz.prog 119 #[errV a b code] w fun e w' => e = .returned (.int .i64 code) ∧ w' = w := by
  rcases hc with h | rfl | rfl
  · exact absurd h h0
  · exact codeOf_no a b w hG
  · exact codeOf_big a b w hG

end Go.Proofs.YtkgcmpmgaghdhaaGreatDoor
namespace Go.Proofs.YtkgcmpmgaghdhaaGreatDoor
open Go.RowKit Go.Shelf

/-- The function value (g, lb) gives at each place below n what f says, in whatever world holds what lay in w. -/
def ElemOk (a b : Addr) (g : Nat) (lb : Array Value) (f : Nat → Int × Int) (n : Nat) (w : World) : Prop :=
  ∀ k, k < n → ∀ W, Below w.heap.size w W → Calls Tryz.prog g (#[.int .i64 (k : Nat)] ++ lb) W fun e w' => e = .returned (.tuple #[.int .i64 (f k).1, errV a b (f k).2]) ∧ Below W.heap.size W w'

theorem ElemOk.low {a b : Addr} {g : Nat} {lb : Array Value} {f : Nat → Int × Int} {n : Nat} {w w1 : World} (h : ElemOk a b g lb f n w) (hb : Below w.heap.size w w1) : ElemOk a b g lb f n w1 :=
  fun k hk W hW => h k hk W (hb.trans (hW.mono hb.size))

theorem neq_nil_nil (w : World) : (binOp .neq 92 .nilIface .nilIface).run Tryz.prog w = .ok (.bool false) w := by kernel_rfl

set_option maxHeartbeats 2000000 in
theorem listOf_any (a b : Addr) (g : Nat) (lb : Array Value) (eg : ∀ args w, (callFunc g args).run Tryz.prog w = .ok (.enter g args) w) (f : Nat → Int × Int) (n : Nat) (w : World) (hn : n ≤ 17592186044416) (hf : ∀ k, k < n → codeIn (f k).2) (hE : ElemOk a b g lb f n w) :
    Calls Tryz.prog 98 #[.int .i64 (n : Nat), .func (.func g) #[] lb] w fun e w' =>
      ((firstCode f n = 0 ∧ e = .returned (.tuple #[.slice (some ⟨w.heap.size, 0, none⟩) n n, .nilIface]) ∧ Blk w' w.heap.size (vals f n)) ∨ (firstCode f n ≠ 0 ∧ codeIn (firstCode f n) ∧ e = .returned (.tuple #[.slice none 0 0, errV a b (firstCode f n)]))) ∧ Below w.heap.size w w' := by
  have HE := hide hE
  have HF := hide hf
  clear hE hf
  obtain ⟨i0, hi, hz0, hz1, hz2⟩ := info_parts info_int
  go_enter Tryz.func98, Tryz.ntmps98
  go_wp2_with (at_make; refine wpList_make_full _ rfl _ _ 23 rfl w.heap.size 3 i0 (.int .i64 0) 1 Tryz.underlying23 hi hz0 hz1 _ _ _ _ n rfl rfl rfl rfl (by rw [hz2]; omega) (by unfold maxLen; omega) (Nat.le_refl _) ?_; intro w1 hown hgrow)
  have hblk : Blk w1 w.heap.size (vals f 0 ++ List.replicate (n - 0) 0) := Blk.of_owns (n := n) (base := w.heap.size) (by simpa [toList_madeCells_one, Value.cells, vals] using hown)
  have hbel : Below w.heap.size w w1 := (Below.refl _ _).grown hgrow (Nat.le_refl _) (by simp)
  clear hown hgrow hi hz0 hz1 hz2
  have HBK := hide hblk
  have HBL := hide hbel
  clear hblk hbel
  go_wp2
  go_loopw [7, 8, 9, 14] (fun _ _ _ i wr => ∃ k : Nat, k ≤ n ∧ i = .int .i64 k ∧ Hid (Blk wr w.heap.size (vals f k ++ List.replicate (n - k) 0)) ∧ Hid (Below w.heap.size w wr) ∧ Hid (firstCode f k = 0)) (fun _ _ _ i _ => n - (intOf i).toNat)
  case atStart => exact ⟨0, Nat.zero_le _, rfl, HBK, HBL, rfl⟩
  case round =>
    obtain ⟨k, hk, rfl, hb, hbl, hfc⟩ := hrel
    clear HBK HBL w1
    by_cases hlt : k < n
    · obtain ⟨r, hr⟩ : ∃ r, r = f k := ⟨_, rfl⟩
      obtain ⟨r1, r2⟩ := r
      have hcall := unhide HE k hlt wr (unhide hbl)
      rw [← hr] at hcall
      have hcode := unhide HF k hlt
      rw [← hr] at hcode
      have HR := hide hr
      clear hr
      by_cases h0 : r2 = 0
      · subst h0
        clear hcode
        rw [errV_0] at hcall
        have hnn := neq_nil_nil
        go_wp2_with (go_at_fn g; refine hcall.mono ?_; rintro e w2 ⟨rfl, hb2⟩; have HB := hide ((unhide hb).below (Nat.le_refl _) hb2); have HL := hide ((unhide hbl).trans (hb2.mono (unhide hbl).size)); have hc2 := (unhide HB).cell (i := k) (by simp [vals_len]; omega); have hf2 := (unhide HB).free k; clear hb2)
        have HS : Hid (Blk (w2.setCell ⟨w.heap.size, k, none⟩ (.int .i64 r1)) w.heap.size (vals f (k + 1) ++ List.replicate (n - (k + 1)) 0)) := by
          have hs := (unhide HB).set k r1
          have e : n - k = n - (k + 1) + 1 := by omega
          have e1 : r1 = (f k).1 := by rw [← unhide HR]
          rw [e] at hs
          rw [e1] at hs ⊢
          rw [vals_set] at hs
          exact hs
        go_roundw
        case rel => exact ⟨k + 1, by omega, by go_num, HS, (unhide HL).setCell (Nat.le_refl _) _, code_step (unhide hfc) (by rw [← unhide HR])⟩
        case measure => simp [intOf]; omega
      · have HC : Hid (firstCode f n = r2) := by
          show _ = _
          have e2 : (f k).2 = r2 := by rw [← unhide HR]
          rw [code_found (unhide hfc) hlt (by rw [e2]; exact h0), e2]
        have HI := hide hcode
        have HZ := hide h0
        have hrv : ∃ p, errV a b r2 = .iface 175 (.pointer (some p)) := by
          rcases hcode with h | rfl | rfl
          · exact absurd h h0
          · exact ⟨a, rfl⟩
          · exact ⟨b, rfl⟩
        obtain ⟨p, hp⟩ := hrv
        rw [hp] at hcall
        have HP := hide hp
        clear hcode h0 hp
        go_wp2_with (go_at_fn g; refine hcall.mono ?_; rintro e w2 ⟨rfl, hb2⟩; have HL := hide ((unhide hbl).trans (hb2.mono (unhide hbl).size)); clear hb2)
        go_ret2
        refine ⟨.inr ⟨by rw [unhide HC]; exact unhide HZ, by rw [unhide HC]; exact unhide HI, ?_⟩, unhide HL⟩
        rw [unhide HC, unhide HP]
        rfl
    · have hkn : k = n := by omega
      subst hkn
      go_wp2
      go_ret2
      exact ⟨.inl ⟨unhide hfc, rfl, by simpa using unhide hb⟩, unhide hbl⟩

end Go.Proofs.YtkgcmpmgaghdhaaGreatDoor
namespace Go.Proofs.YtkgcmpmgaghdhaaGreatDoor
open Go.RowKit Go.Shelf

/-- What reckoned answers: the shape that it was given and new elements, or nothing and the first code. -/
def Reck (w : World) (f : Nat → Int × Int) (n : Nat) (a1 : Option Addr) (n1 c1 : Nat) (e : Ending) (w' : World) : Prop :=
  ((firstCode f n = 0 ∧ ∃ p, w.heap.size ≤ p ∧ e = .returned (.tuple #[.agg #[.bool false, .slice a1 n1 c1, .slice (some ⟨p, 0, none⟩) n n], .int .i64 0]) ∧ Blk w' p (vals f n))
    ∨ (firstCode f n ≠ 0 ∧ e = .returned (.tuple #[.agg #[.bool false, .slice none 0 0, .slice none 0 0], .int .i64 (firstCode f n)]))) ∧ Below w.heap.size w w'

set_option maxHeartbeats 1000000 in
theorem reckoned_any (a b : Addr) (g : Nat) (lb : Array Value) (eg : ∀ args w, (callFunc g args).run Tryz.prog w = .ok (.enter g args) w) (f : Nat → Int × Int) (n : Nat) (a1 : Option Addr) (n1 c1 : Nat) (sh : List Int) (w : World) (h1 : Row w a1 n1 sh) (hsh : shapeB sh = true) (hc : countOf sh = (n : Int))
    (hG : Gl w a b) (hf : ∀ k, k < n → codeIn (f k).2) (hE : ElemOk a b g lb f n w) :
    Calls Tryz.prog 52 #[.slice a1 n1 c1, .func (.func g) #[] lb] w (Reck w f n a1 n1 c1) := by
  have hn : n ≤ 17592186044416 := by
    have := (prodAll_bd sh hsh sh.length).2
    rw [List.take_length, prodAll_count sh hsh, hc] at this
    omega
  have HE : Hid (∀ o, ElemOk a b g lb f n (w.alloc o)) := fun o => hE.low ((Below.refl _ _).alloc (Nat.le_refl _) _)
  have HF := hide hf
  have H1 := hide h1
  have HS := hide hsh
  have HC := hide hc
  have HG := hide hG
  clear hE hf h1 hsh hc hG
  have HW : Hid (∀ o, Below w.heap.size w (w.alloc o)) := fun o => (Below.refl _ _).alloc (Nat.le_refl _) _
  by_cases h0 : firstCode f n = 0
  · have HZ := hide h0
    clear h0
    go_enter Tryz.func52, Tryz.ntmps52
    go_wp2_with (first
      | (go_at_call 51; refine (cellsOf_count _ _ _ sh _ ((unhide H1).alloc _) (unhide HS) _ HC).mono ?_; rintro e w1 ⟨rfl, rfl⟩)
      | (go_at_call 98; refine (listOf_any a b g lb eg f n _ hn (unhide HF) (unhide HE _)).mono ?_; rintro e w2 ⟨hr, hb2⟩; obtain ⟨_, rfl, hblk⟩ | ⟨hne, _⟩ := hr; rotate_left; exact absurd (unhide HZ) hne; have hB := Box.below (Box.new w false (.slice none 0 0) (.slice none 0 0)) (Nat.le_refl _) hb2; obtain ⟨q0, q1, q2, q3, q4, q5, q6⟩ := hB.all; have HK := hide hblk; have HL := hide ((unhide HW _).trans (hb2.mono (by simp))); clear hblk hb2 hB))
    refine bodyPost_ret (v := .tuple #[.agg #[.bool false, .slice a1 n1 c1, .slice (some ⟨w.heap.size + 1, 0, none⟩) n n], .int .i64 0]) (by simp [results, Tryz.results52, go_sem, q0, q1, q2]) rfl ?_
    refine ⟨.inl ⟨unhide HZ, w.heap.size + 1, by omega, rfl, ?_⟩, (((unhide HL).setCell (Nat.le_refl _) _).setCell (Nat.le_refl _) _).setCell (Nat.le_refl _) _⟩
    have hk : Blk w2 (w.heap.size + 1) (vals f n) := by simpa using unhide HK
    exact ((hk.other (by simp) _).other (by simp) _).other (by simp) _
  · have HZ := hide h0
    clear h0
    go_enter Tryz.func52, Tryz.ntmps52
    go_wp2_with (first
      | (go_at_call 51; refine (cellsOf_count _ _ _ sh _ ((unhide H1).alloc _) (unhide HS) _ HC).mono ?_; rintro e w1 ⟨rfl, rfl⟩)
      | (go_at_call 98; refine (listOf_any a b g lb eg f n _ hn (unhide HF) (unhide HE _)).mono ?_; rintro e w2 ⟨hr, hb2⟩; obtain ⟨hne, _⟩ | ⟨_, hci, rfl⟩ := hr; exact absurd hne (unhide HZ); have hB := Box.below (Box.new w false (.slice none 0 0) (.slice none 0 0)) (Nat.le_refl _) hb2; obtain ⟨q0, q1, q2, q3, q4, q5, q6⟩ := hB.all; have HI := hide hci; have HL := hide ((unhide HW _).trans (hb2.mono (by simp))); clear hb2 hB hci; obtain ⟨c, hcc⟩ : ∃ c, c = firstCode f n := ⟨_, rfl⟩; rw [← hcc]; have HCC := hide hcc; clear hcc; obtain ⟨ev, hev⟩ : ∃ ev, ev = errV a b c := ⟨_, rfl⟩; rw [← hev]; have hev2 : ∃ p, ev = .iface 175 (.pointer (some p)) := (by rw [hev, unhide HCC]; rcases unhide HI with h | h | h; exact absurd h (unhide HZ); exact ⟨a, by rw [h]; rfl⟩; exact ⟨b, by rw [h]; rfl⟩); have HEV := hide hev; clear hev; obtain ⟨p, rfl⟩ := hev2)
      | (go_at_call 119; rw [unhide HEV]; refine (codeOf_any a b c _ ((unhide HG).below (unhide HL)) (by rw [unhide HCC]; exact unhide HI) (by rw [unhide HCC]; exact unhide HZ)).mono ?_; rintro e w3 ⟨rfl, rfl⟩))
    refine bodyPost_ret (v := .tuple #[.agg #[.bool false, .slice none 0 0, .slice none 0 0], .int .i64 c]) (by simp [results, Tryz.results52, go_sem, q0, q1, q2]) rfl ?_
    exact ⟨.inr ⟨unhide HZ, by rw [← unhide HCC]⟩, (((unhide HL).setCell (Nat.le_refl _) _).setCell (Nat.le_refl _) _).setCell (Nat.le_refl _) _⟩

end Go.Proofs.YtkgcmpmgaghdhaaGreatDoor
