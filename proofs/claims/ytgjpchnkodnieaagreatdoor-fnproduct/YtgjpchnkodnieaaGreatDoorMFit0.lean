import Derived.WalkKit
import Derived.WalkSpells
import Derived.Test.YtgjpchnkodnieaaGreatDoorChecked
import Derived.Deep.QuietTactic
import Derived.BigQuiet
import Derived.Deep.Draws
import Derived.Deep.RegionWith
import Derived.Deep.DeepCutAuto
import Derived.RangeFuncRecord
import Derived.Deep.AppendLies
import Derived.Deep.OwnRows
import Derived.Deep.RegionHeld3
import Derived.BigRegion
import Derived.Deep.RegionLaw
import Derived.Deep.RegionHeld
namespace Go.Proofs.YtgjpchnkodnieaaGreatDoor

def runeOk (v : Int) : Bool := decide (0 ≤ v ∧ v ≤ 1114111 ∧ (v < 55296 ∨ 57343 < v))

def inCells (v : Int) : Bool := decide (0 ≤ v ∧ v ≤ 10000)

/-- The product of the numbers of a shape that are not 0, going from the front; none when it passes 10000. -/
def prodFrom : List Int → Int → Option Int
  | [], n => some n
  | x :: r, n => if x = 0 then prodFrom r n else if 10000 < n * x then none else prodFrom r (n * x)

def countOf (sh : List Int) : Int :=
  if sh.all inCells then
    match prodFrom sh 1 with
    | none => -1
    | some n => if 0 ∈ sh then 0 else n
  else -1

def dataOk (c : Bool) (v : Int) : Bool := (!c || runeOk v) && decide (-1000000000000000 ≤ v ∧ v ≤ 1000000000000000)

def arrOk (c : Bool) (sh dt : List Int) : Bool := decide (sh.length ≤ 5) && (decide (countOf sh = dt.length) && dt.all (dataOk c))

theorem prodFrom_snoc (xs : List Int) (x n : Int) : prodFrom (xs ++ [x]) n = (prodFrom xs n).bind (fun m => prodFrom [x] m) := by
  induction xs generalizing n with
  | nil => simp [prodFrom]
  | cons y r ih =>
    simp only [List.cons_append, prodFrom]
    split
    · exact ih n
    · split
      · simp
      · exact ih _

theorem prodFrom_bd (xs : List Int) (n m : Int) (hx : xs.all inCells = true) (h1 : 1 ≤ n) (h2 : n ≤ 10000) (h : prodFrom xs n = some m) : 1 ≤ m ∧ m ≤ 10000 := by
  induction xs generalizing n with
  | nil => simp [prodFrom] at h; omega
  | cons y r ih =>
    simp only [List.all_cons, Bool.and_eq_true] at hx
    have hy : 0 ≤ y ∧ y ≤ 10000 := by simpa [inCells] using hx.1
    simp only [prodFrom] at h
    split at h
    · exact ih n hx.2 h1 h2 h
    · split at h
      · simp at h
      · rename_i h0 hle
        refine ih (n * y) hx.2 ?_ (by omega) h
        have : 1 * 1 ≤ n * y := Int.mul_le_mul h1 (by omega) (by omega) (by omega)
        omega

theorem prodFrom_none_append (xs ys : List Int) (n : Int) (h : prodFrom xs n = none) : prodFrom (xs ++ ys) n = none := by
  induction xs generalizing n with
  | nil => simp [prodFrom] at h
  | cons y r ih =>
    simp only [List.cons_append, prodFrom] at h ⊢
    split at h
    · rename_i h0; rw [if_pos h0]; exact ih n h
    · rename_i h0; rw [if_neg h0]
      split at h
      · rename_i h1; rw [if_pos h1]
      · rename_i h1; rw [if_neg h1]; exact ih _ h

theorem take_snoc (xs : List Int) (k : Nat) (h : k < xs.length) : xs.take (k + 1) = xs.take k ++ [xs.getD k 0] := by
  rw [List.take_succ_eq_append_getElem h]; simp [h]

theorem all_step (xs : List Int) (p : Int → Bool) (k : Nat) (h : k < xs.length) (ha : (xs.take k).all p = true) (hp : p (xs.getD k 0) = true) : (xs.take (k + 1)).all p = true := by
  rw [take_snoc xs k h, List.all_append, ha]; simpa using hp

theorem all_not (xs : List Int) (p : Int → Bool) (k : Nat) (h : k < xs.length) (hp : p (xs.getD k 0) = false) : xs.all p = false := by
  rw [← Bool.not_eq_true, List.all_eq_true]
  intro hh
  have := hh (xs.getD k 0) (by simp [h])
  rw [hp] at this
  exact absurd this (by simp)

theorem zero_step (xs : List Int) (k : Nat) (h : k < xs.length) : decide (0 ∈ xs.take (k + 1)) = (decide (0 ∈ xs.take k) || decide (xs.getD k 0 = 0)) := by
  rw [take_snoc xs k h]
  generalize xs.take k = t
  generalize xs.getD k 0 = y
  by_cases h1 : 0 ∈ t <;> by_cases h2 : y = 0 <;> simp [h1, h2]
  exact fun e => h2 e.symm

theorem prod_step0 (xs : List Int) (k : Nat) (h : k < xs.length) (n : Int) (hp : prodFrom (xs.take k) 1 = some n) (h0 : xs.getD k 0 = 0) : prodFrom (xs.take (k + 1)) 1 = some n := by
  rw [take_snoc xs k h, prodFrom_snoc, hp, h0]; simp [prodFrom]

theorem prod_step (xs : List Int) (k : Nat) (h : k < xs.length) (n : Int) (hp : prodFrom (xs.take k) 1 = some n) (h0 : xs.getD k 0 ≠ 0) (hl : n * xs.getD k 0 ≤ 10000) : prodFrom (xs.take (k + 1)) 1 = some (n * xs.getD k 0) := by
  rw [take_snoc xs k h, prodFrom_snoc, hp]; simp only [Option.bind_some, prodFrom, if_neg h0]; rw [if_neg (by omega)]

theorem prod_none (xs : List Int) (k : Nat) (h : k < xs.length) (n : Int) (hp : prodFrom (xs.take k) 1 = some n) (h0 : xs.getD k 0 ≠ 0) (hl : 10000 < n * xs.getD k 0) : prodFrom xs 1 = none := by
  have : prodFrom (xs.take (k + 1)) 1 = none := by
    rw [take_snoc xs k h, prodFrom_snoc, hp]; simp only [Option.bind_some, prodFrom, if_neg h0]; rw [if_pos hl]
  rw [← List.take_append_drop (k + 1) xs]
  exact prodFrom_none_append _ _ _ this

theorem count_bad (sh : List Int) (h : sh.all inCells = false) : countOf sh = -1 := by simp [countOf, h]
theorem count_big (sh : List Int) (h : prodFrom sh 1 = none) : countOf sh = -1 := by unfold countOf; rw [h]; split <;> rfl
theorem count_zero (sh : List Int) (n : Int) (ha : sh.all inCells = true) (h : prodFrom sh 1 = some n) (h0 : decide (0 ∈ sh) = true) : countOf sh = 0 := by
  unfold countOf; rw [h, if_pos ha]; simp only []; rw [if_pos (of_decide_eq_true h0)]
theorem count_n (sh : List Int) (n : Int) (ha : sh.all inCells = true) (h : prodFrom sh 1 = some n) (h0 : decide (0 ∈ sh) = false) : countOf sh = n := by
  unfold countOf; rw [h, if_pos ha]; simp only []; rw [if_neg (of_decide_eq_false h0)]

theorem count_bd (sh : List Int) : -1 ≤ countOf sh ∧ countOf sh ≤ 10000 := by
  unfold countOf
  split
  · rename_i ha
    split
    · omega
    · rename_i n hn
      have := prodFrom_bd sh 1 n ha (by omega) (by omega) hn
      split <;> omega
  · omega

end Go.Proofs.YtgjpchnkodnieaaGreatDoor
namespace Go.Proofs.YtgjpchnkodnieaaGreatDoor

def inM (v : Int) : Bool := decide (-1000000000000000 ≤ v ∧ v ≤ 1000000000000000)

def truth (b : Bool) : Int := if b then 1 else 0
theorem truth_bd (b : Bool) : 0 ≤ truth b ∧ truth b ≤ 1 := by cases b <;> simp [truth]

def timesOf (a b : Int) : Int × Bool := if inM (a * b) = true then (a * b, true) else (0, false)
def powOf (a b : Int) : Int × Bool := if inM (a ^ b.toNat) = true then (a ^ b.toNat, true) else (0, false)
def modOf (a b : Int) : Int := if a = 0 then b else if b.tmod a ≠ 0 ∧ decide (b.tmod a < 0) ≠ decide (a < 0) then b.tmod a + a else b.tmod a
def orderOf (op a b : Int) : Int :=
  if op = 5 then (if a < b then a else b) else if op = 6 then (if a < b then b else a)
  else if op = 9 then truth (decide (a = b)) else if op = 10 then truth (decide (a ≠ b))
  else if op = 11 then truth (decide (a < b)) else if op = 13 then truth (decide (b ≤ a)) else if op = 12 then truth (decide (a ≤ b)) else truth (decide (b < a))

def limited (r : Int × Bool) : Int × Int := if r.2 = true ∧ inM r.1 = true then (r.1, 0) else (0, 7)

/-- A scalar function on two numbers: what it gives and its code. -/
def twoOf (op a b : Int) : Int × Int :=
  if op = 1 then limited (a + b, true) else if op = 2 then limited (a - b, true) else if op = 3 then limited (timesOf a b)
  else if op = 4 then (if a = 0 ∧ b = 0 then (1, 0) else if b = 0 ∨ a.tmod b ≠ 0 then (0, 3) else limited (a.tdiv b, true))
  else if op = 7 then limited (modOf a b, true)
  else if op = 8 then (if b < 0 then (0, 3) else limited (powOf a b))
  else if op = 15 ∨ op = 16 then (if (a ≠ 0 ∧ a ≠ 1) ∨ (b ≠ 0 ∧ b ≠ 1) then (0, 3) else limited (truth (decide (truth (decide (op = 15)) < a + b)), true))
  else limited (orderOf op a b, true)

theorem tdiv_lt {x y : Int} (hy : 0 < y) : (1000000000000000 : Int).tdiv y < x ↔ 1000000000000000 < x * y := by
  rw [Int.tdiv_eq_ediv_of_nonneg (by omega)]
  constructor
  · intro h
    by_cases h' : 1000000000000000 < x * y
    · exact h'
    · exact absurd (Int.le_ediv_of_mul_le hy (by omega : x * y ≤ 1000000000000000)) (by omega)
  · intro h
    by_cases h' : (1000000000000000 : Int) / y < x
    · exact h'
    · have := Int.mul_le_of_le_ediv hy (by omega : x ≤ (1000000000000000 : Int) / y)
      omega

theorem times_big {a b : Int} (h : inM (a * b) = false) : timesOf a b = (0, false) := by simp [timesOf, h]
theorem times_ok {a b : Int} (h : inM (a * b) = true) : timesOf a b = (a * b, true) := by simp [timesOf, h]
theorem inM_of {v : Int} (h1 : -1000000000000000 ≤ v) (h2 : v ≤ 1000000000000000) : inM v = true := decide_eq_true ⟨h1, h2⟩
theorem inM_not {v : Int} (h : v < -1000000000000000 ∨ 1000000000000000 < v) : inM v = false := decide_eq_false (by omega)
theorem inM_bd {v : Int} (h : inM v = true) : -1000000000000000 ≤ v ∧ v ≤ 1000000000000000 := of_decide_eq_true h

theorem abs_ge_two {a : Int} (h0 : a ≠ 0) (h1 : a ≠ 1) (hm : a ≠ -1) : 2 ≤ a.natAbs := by omega

/-- Beyond the bound a power of a number of two or more stays there. -/
theorem pow_step_big {a : Int} (ha : 2 ≤ a.natAbs) (k n : Nat) (hk : k ≤ n) (h : inM (a ^ k) = false) : inM (a ^ n) = false := by
  have hb : ∀ v : Int, inM v = false ↔ 1000000000000000 < v.natAbs := by
    intro v; simp only [inM, decide_eq_false_iff_not]; omega
  rw [hb] at h ⊢
  rw [Int.natAbs_pow] at h ⊢
  exact Nat.lt_of_lt_of_le h (Nat.pow_le_pow_right (by omega) hk)

theorem pow_bound {a : Int} (ha : 2 ≤ a.natAbs) (k : Nat) (h : inM (a ^ k) = true) : k < 50 := by
  have hb := inM_bd h
  have h1 : (a ^ k).natAbs ≤ 1000000000000000 := by omega
  rw [Int.natAbs_pow] at h1
  rcases Nat.lt_or_ge k 50 with h' | h'
  · exact h'
  · have : 2 ^ 50 ≤ a.natAbs ^ k := Nat.le_trans (Nat.pow_le_pow_right (by omega) h') (Nat.pow_le_pow_left ha k)
    have e : (2 : Nat) ^ 50 = 1125899906842624 := by decide
    omega

end Go.Proofs.YtgjpchnkodnieaaGreatDoor
namespace Go.Proofs.YtgjpchnkodnieaaGreatDoor

/-- An array and a code, as a function of the document answers them. -/
structure Ans where
  c : Bool
  sh : List Int
  dt : List Int
  code : Int

end Go.Proofs.YtgjpchnkodnieaaGreatDoor
namespace Go.Proofs.YtgjpchnkodnieaaGreatDoor

/-- The first code other than 0 among the first n; 0 if there is none. -/
def firstCode (f : Nat → Int × Int) : Nat → Int
  | 0 => 0
  | n + 1 => if firstCode f n = 0 then (f n).2 else firstCode f n

def vals (f : Nat → Int × Int) (n : Nat) : List Int := (List.range n).map fun i => (f i).1

theorem vals_len (f : Nat → Int × Int) (n : Nat) : (vals f n).length = n := by simp [vals]

theorem vals_snoc (f : Nat → Int × Int) (n : Nat) : (vals f (n + 1)).map (Value.int .i64) = (vals f n).map (Value.int .i64) ++ [.int .i64 (f n).1] := by
  simp [vals, List.range_succ]

theorem code_step {f : Nat → Int × Int} {n : Nat} (h : firstCode f n = 0) (h2 : (f n).2 = 0) : firstCode f (n + 1) = 0 := by
  simp [firstCode, h, h2]

theorem code_stays {f : Nat → Int × Int} {n m : Nat} (h : firstCode f n ≠ 0) (hm : n ≤ m) : firstCode f m = firstCode f n := by
  induction m with
  | zero => have : n = 0 := by omega
            subst this; rfl
  | succ m ih =>
    rcases Nat.lt_or_ge n (m + 1) with h' | h'
    · have := ih (by omega)
      simp only [firstCode]
      rw [this, if_neg h]
    · have : n = m + 1 := by omega
      subst this; rfl

theorem code_found {f : Nat → Int × Int} {k n : Nat} (h : firstCode f k = 0) (hk : k < n) (h2 : (f k).2 ≠ 0) : firstCode f n = (f k).2 := by
  have e : firstCode f (k + 1) = (f k).2 := by simp [firstCode, h]
  rw [code_stays (n := k + 1) (by rw [e]; exact h2) (by omega), e]

def noAns (code : Int) : Ans := ⟨false, [], [], code⟩

/-- n elements, or the first code. -/
def gatherAns (c : Bool) (sh : List Int) (f : Nat → Int × Int) (n : Nat) : Ans := if firstCode f n = 0 then ⟨c, sh, vals f n, 0⟩ else noAns (firstCode f n)

theorem gather_good {c : Bool} {sh : List Int} {f : Nat → Int × Int} {n : Nat} (h : firstCode f n = 0) : gatherAns c sh f n = ⟨c, sh, vals f n, 0⟩ := by simp [gatherAns, h]
theorem gather_bad {c : Bool} {sh : List Int} {f : Nat → Int × Int} {k n : Nat} (h : firstCode f k = 0) (hk : k < n) (h2 : (f k).2 ≠ 0) : gatherAns c sh f n = noAns (f k).2 := by
  have e := code_found h hk h2
  unfold gatherAns; rw [if_neg (by rw [e]; exact h2), e]

/-- A scalar function on elements of arrays that may be Char. -/
def elemOf (op : Int) (c : Bool) (dt : List Int) (i : Nat) (d : Bool) (dt' : List Int) (j : Nat) : Int × Int :=
  if c ≠ d then (truth (decide (op = 10)), 0) else twoOf op (dt.getD i 0) (dt'.getD j 0)

def opIn (op : Int) : Bool := decide (1 ≤ op ∧ op ≤ 16)
def opEq (op : Int) : Bool := decide (op = 9 ∨ op = 10)

def wideB (n1 n2 m1 m2 : Nat) : Bool := decide (n2 = 1) && (decide (m2 ≠ 1) || decide (n1 < m1))

def scalar2 (op : Int) (c d : Bool) (sh dt sh' dt' : List Int) : Ans :=
  if arrOk c sh dt = true ∧ arrOk d sh' dt' = true ∧ opIn op = true then
    let wide := wideB sh.length dt.length sh'.length dt'.length
    let tall := decide (dt'.length = 1) && !wide
    if (!wide && !tall) = true ∧ sh.length ≠ sh'.length then noAns 4
    else if (!wide && !tall) = true ∧ sh ≠ sh' then noAns 5
    else if (c || d) = true ∧ opEq op = false then noAns 3
    else gatherAns false (if wide then sh' else sh) (fun i => elemOf op c dt (i % dt.length) d dt' (i % dt'.length)) (countOf (if wide then sh' else sh)).toNat
  else noAns 3

end Go.Proofs.YtgjpchnkodnieaaGreatDoor
namespace Go.Proofs.YtgjpchnkodnieaaGreatDoor

def shapeB (sh : List Int) : Bool := decide (sh.length ≤ 5) && decide (0 ≤ countOf sh)

theorem shape_long {sh : List Int} {n : Nat} (hl : sh.length = n) (h : 5 < n) : shapeB sh = false := by unfold shapeB; rw [decide_eq_false (by omega)]; rfl
theorem shape_bad {sh : List Int} (h : countOf sh = -1) : shapeB sh = false := by unfold shapeB; rw [h]; simp
theorem shape_good {sh : List Int} {n : Nat} (hl : sh.length = n) (h : n ≤ 5) (m : Int) (ha : sh.all inCells = true) (hp : prodFrom sh 1 = some m) : shapeB sh = true := by
  have hb := prodFrom_bd sh 1 m ha (by omega) (by omega) hp
  unfold shapeB; rw [decide_eq_true (by omega)]
  by_cases h0 : decide (0 ∈ sh) = true
  · rw [count_zero sh m ha hp h0]; rfl
  · rw [count_n sh m ha hp (by simpa using h0), decide_eq_true (by omega)]; rfl

/-- The product of all numbers of a shape. -/
def prodAll (sh : List Int) : Int := sh.foldl (· * ·) 1

theorem prodAll_snoc (sh : List Int) (k : Nat) (h : k < sh.length) : prodAll (sh.take (k + 1)) = prodAll (sh.take k) * sh.getD k 0 := by
  rw [take_snoc sh k h]; simp [prodAll]

theorem prodAll_of (sh : List Int) (n m : Int) (h : prodFrom sh n = some m) : sh.foldl (· * ·) n = if 0 ∈ sh then 0 else m := by
  induction sh generalizing n with
  | nil => simp [prodFrom] at h; simp [h]
  | cons x r ih =>
    simp only [prodFrom] at h
    by_cases h0 : x = 0
    · subst h0
      have hz : ∀ (l : List Int), l.foldl (· * ·) 0 = 0 := by intro l; induction l with
        | nil => rfl
        | cons y s ih => simpa using ih
      simp [hz]
    · rw [if_neg h0] at h
      split at h
      · simp at h
      · rw [List.foldl_cons, ih _ h]
        have : (0 ∈ x :: r) ↔ 0 ∈ r := by simp; intro e; exact absurd e.symm h0
        simp only [this]

theorem prodAll_count (sh : List Int) (h : shapeB sh = true) : prodAll sh = countOf sh := by
  unfold shapeB at h
  simp only [Bool.and_eq_true, decide_eq_true_eq] at h
  have h2 := h.2
  unfold countOf at h2 ⊢
  split at h2
  · rename_i ha
    rw [if_pos ha]
    split at h2
    · omega
    · rename_i m hm
      exact prodAll_of sh 1 m hm
  · omega

theorem prodAll_bd (sh : List Int) (h : shapeB sh = true) (k : Nat) : 0 ≤ prodAll (sh.take k) ∧ prodAll (sh.take k) ≤ 10000 := by
  unfold shapeB at h
  simp only [Bool.and_eq_true, decide_eq_true_eq] at h
  have h2 := h.2
  unfold countOf at h2
  split at h2
  · rename_i ha
    split at h2
    · omega
    · rename_i m hm
      have hat : (sh.take k).all inCells = true := by rw [List.all_eq_true]; exact fun x hx => List.all_eq_true.1 ha x (List.mem_of_mem_take hx)
      cases hpt : prodFrom (sh.take k) 1 with
      | none =>
        have := prodFrom_none_append (sh.take k) (sh.drop k) 1 hpt
        rw [List.take_append_drop] at this
        rw [this] at hm; simp at hm
      | some m' =>
        have hb := prodFrom_bd _ 1 m' hat (by omega) (by omega) hpt
        unfold prodAll
        rw [prodAll_of _ 1 m' hpt]
        split <;> omega
  · omega

/-- Numbers that a valid array may have in its shape, but for how many they are. -/
def ShapeIn (sh : List Int) : Prop := sh.all inCells = true ∧ ∃ m, prodFrom sh 1 = some m

theorem prodFrom_less (ys : List Int) (n m k : Int) (hy : ys.all inCells = true) (hk : 1 ≤ k) (hkn : k ≤ n) (h : prodFrom ys n = some m) : ∃ m', prodFrom ys k = some m' := by
  induction ys generalizing n k with
  | nil => exact ⟨k, rfl⟩
  | cons y r ih =>
    simp only [List.all_cons, Bool.and_eq_true] at hy
    have hyb : 0 ≤ y ∧ y ≤ 10000 := by simpa [inCells] using hy.1
    simp only [prodFrom] at h ⊢
    by_cases h0 : y = 0
    · rw [if_pos h0] at h ⊢; exact ih n k hy.2 hk hkn h
    · rw [if_neg h0] at h ⊢
      split at h
      · simp at h
      · rename_i hle
        have h1 : k * y ≤ n * y := Int.mul_le_mul_of_nonneg_right hkn (by omega)
        have h2 : 1 * 1 ≤ k * y := Int.mul_le_mul hk (by omega) (by omega) (by omega)
        rw [if_neg (by omega)]
        exact ih (n * y) (k * y) hy.2 (by omega) h1 h

theorem ShapeIn.take {sh : List Int} (h : ShapeIn sh) (k : Nat) : ShapeIn (sh.take k) := by
  obtain ⟨ha, m, hm⟩ := h
  refine ⟨by rw [List.all_eq_true]; exact fun x hx => List.all_eq_true.1 ha x (List.mem_of_mem_take hx), ?_⟩
  cases hpt : prodFrom (sh.take k) 1 with
  | none =>
    have := prodFrom_none_append (sh.take k) (sh.drop k) 1 hpt
    rw [List.take_append_drop] at this
    rw [this] at hm; simp at hm
  | some m' => exact ⟨m', rfl⟩

theorem prodFrom_append (xs ys : List Int) (n : Int) : prodFrom (xs ++ ys) n = (prodFrom xs n).bind (prodFrom ys) := by
  induction xs generalizing n with
  | nil => simp [prodFrom]
  | cons y r ih =>
    simp only [List.cons_append, prodFrom]
    split
    · exact ih n
    · split
      · simp
      · exact ih _

theorem ShapeIn.drop {sh : List Int} (h : ShapeIn sh) (k : Nat) : ShapeIn (sh.drop k) := by
  have ht := h.take k
  obtain ⟨ha, m, hm⟩ := h
  have hd : (sh.drop k).all inCells = true := by rw [List.all_eq_true]; exact fun x hx => List.all_eq_true.1 ha x (List.mem_of_mem_drop hx)
  refine ⟨hd, ?_⟩
  obtain ⟨hta, p, hp⟩ := ht
  have hb := prodFrom_bd _ 1 p hta (by omega) (by omega) hp
  rw [← List.take_append_drop k sh, prodFrom_append, hp, Option.bind_some] at hm
  exact prodFrom_less _ p m 1 hd (by omega) hb.1 hm

theorem ShapeIn.bd {sh : List Int} (h : ShapeIn sh) : 0 ≤ prodAll sh ∧ prodAll sh ≤ 10000 := by
  obtain ⟨ha, m, hm⟩ := h
  have hb := prodFrom_bd sh 1 m ha (by omega) (by omega) hm
  unfold prodAll
  rw [prodAll_of sh 1 m hm]
  split <;> omega

theorem ShapeIn.cell {sh : List Int} (h : ShapeIn sh) (k : Nat) : 0 ≤ sh.getD k 0 ∧ sh.getD k 0 ≤ 10000 := by
  by_cases hk : k < sh.length
  · have := List.all_eq_true.1 h.1 (sh.getD k 0) (by simp [hk])
    simpa [inCells] using this
  · have e : sh.getD k 0 = 0 := by simp [List.getD, List.getElem?_eq_none (by omega : sh.length ≤ k)]
    rw [e]; omega

theorem shapeIn_of {c : Bool} {sh dt : List Int} (h : arrOk c sh dt = true) : ShapeIn sh ∧ prodAll sh = dt.length ∧ sh.length ≤ 5 := by
  unfold arrOk at h
  simp only [Bool.and_eq_true, decide_eq_true_eq] at h
  obtain ⟨h5, hc, _⟩ := h
  have hs : shapeB sh = true := by unfold shapeB; rw [decide_eq_true h5, decide_eq_true (by omega)]; rfl
  refine ⟨?_, by rw [prodAll_count sh hs, hc], h5⟩
  unfold countOf at hc
  split at hc
  · rename_i ha
    split at hc
    · omega
    · rename_i m hm; exact ⟨ha, m, hm⟩
  · omega

theorem prodAll_append (xs ys : List Int) : prodAll (xs ++ ys) = prodAll xs * prodAll ys := by
  have key : ∀ (ys : List Int) (n : Int), ys.foldl (· * ·) n = n * ys.foldl (· * ·) 1 := by
    intro ys
    induction ys with
    | nil => intro n; simp
    | cons y r ih => intro n; rw [List.foldl_cons, List.foldl_cons, ih (n * y), ih (1 * y), Int.one_mul, Int.mul_assoc]
  unfold prodAll
  rw [List.foldl_append, key]

end Go.Proofs.YtgjpchnkodnieaaGreatDoor
namespace Go.Proofs.YtgjpchnkodnieaaGreatDoor

/-- The place of the last axis, or of the first. -/
def axisAt (sh : List Int) (first : Bool) : Nat := if first then 0 else sh.length - 1
def axisB (sh : List Int) (first : Bool) : Int := prodAll (sh.take (axisAt sh first))
def axisN (sh : List Int) (first : Bool) : Int := sh.getD (axisAt sh first) 0
def axisA (sh : List Int) (first : Bool) : Int := prodAll (sh.drop (axisAt sh first + 1))
def without (sh : List Int) (first : Bool) : List Int := if first then sh.drop 1 else sh.take (sh.length - 1)

theorem axis_all (sh : List Int) (first : Bool) (h : sh ≠ []) : axisB sh first * axisN sh first * axisA sh first = prodAll sh := by
  have hl : 0 < sh.length := List.length_pos_iff.mpr h
  have hat : axisAt sh first < sh.length := by unfold axisAt; split <;> omega
  have e : sh = sh.take (axisAt sh first) ++ ([sh.getD (axisAt sh first) 0] ++ sh.drop (axisAt sh first + 1)) := by
    have h1 := List.take_append_drop (axisAt sh first + 1) sh
    rw [take_snoc sh _ hat, List.append_assoc] at h1
    exact h1.symm
  have e1 : prodAll [sh.getD (axisAt sh first) 0] = sh.getD (axisAt sh first) 0 := by simp [prodAll]
  have e2 := congrArg prodAll e
  rw [prodAll_append, prodAll_append, e1, ← Int.mul_assoc] at e2
  exact e2.symm

/-- What folding nothing gives. -/
def emptyOf (op : Int) : Int := [0, 0, 0, 1, 1, 1000000000000000, -1000000000000000, 0, 1, 1, 0, 0, 1, 1, 0, 1, 0].getD op.toNat 0

/-- Numbers folded from the right, and the code. -/
def foldR (op : Int) : List Int → Int × Int
  | [] => (emptyOf op, 0)
  | [x] => (x, 0)
  | x :: y :: r => if (foldR op (y :: r)).2 ≠ 0 then (0, (foldR op (y :: r)).2) else twoOf op x (foldR op (y :: r)).1

theorem foldR_cons {op x : Int} {r : List Int} (h : r ≠ []) : foldR op (x :: r) = if (foldR op r).2 ≠ 0 then (0, (foldR op r).2) else twoOf op x (foldR op r).1 := by
  cases r with
  | nil => exact absurd rfl h
  | cons y s => rfl

theorem foldR_code {op : Int} (xs : List Int) {r : List Int} {c : Int} (hr : r ≠ []) (h : foldR op r = (0, c)) (hc : c ≠ 0) : foldR op (xs ++ r) = (0, c) := by
  induction xs with
  | nil => exact h
  | cons x s ih =>
    rw [List.cons_append, foldR_cons (by simp [hr]), ih]
    simp [hc]

theorem two_code {op a b : Int} (h : (twoOf op a b).2 ≠ 0) : (twoOf op a b).1 = 0 := by
  unfold twoOf limited at h ⊢
  repeat' split
  all_goals simp_all

theorem two_bd (op a b : Int) : -1000000000000000 ≤ (twoOf op a b).1 ∧ (twoOf op a b).1 ≤ 1000000000000000 := by
  have hl : ∀ r : Int × Bool, -1000000000000000 ≤ (limited r).1 ∧ (limited r).1 ≤ 1000000000000000 := by
    intro r; unfold limited; split
    · rename_i h; exact inM_bd h.2
    · simp
  unfold twoOf
  repeat' split
  all_goals first | exact hl _ | simp

/-- The numbers along an axis. -/
def lineOf (dt : List Int) (p n after q : Nat) : List Int := (List.range n).map fun i => dt.getD ((p * n + i) * after + q) 0

theorem line_len (dt : List Int) (p n after q : Nat) : (lineOf dt p n after q).length = n := by simp [lineOf]
theorem line_get (dt : List Int) (p n after q i : Nat) (h : i < n) : (lineOf dt p n after q).getD i 0 = dt.getD ((p * n + i) * after + q) 0 := by simp [lineOf, h]
theorem line_snoc (dt : List Int) (p n after q k : Nat) (h : k < n) : ((lineOf dt p n after q).take (k + 1)).map (Value.int .i64) = ((lineOf dt p n after q).take k).map (Value.int .i64) ++ [.int .i64 (dt.getD ((p * n + k) * after + q) 0)] := by
  rw [take_snoc _ _ (by rw [line_len]; exact h), line_get _ _ _ _ _ _ h]; simp

theorem line_in {B n A p q i L : Nat} (hL : B * n * A = L) (hp : p < B) (hq : q < A) (hi : i < n) : (p * n + i) * A + q < L := by
  have h1 : p * n + i < B * n := by
    have : (p + 1) * n ≤ B * n := Nat.mul_le_mul_right n hp
    rw [Nat.add_mul] at this; omega
  have h2 : (p * n + i + 1) * A ≤ B * n * A := Nat.mul_le_mul_right A h1
  rw [Nat.add_mul] at h2; omega

def fold (op : Int) (c : Bool) (sh dt : List Int) (first : Bool) : Ans :=
  if arrOk c sh dt = true ∧ opIn op = true then
    if sh = [] then ⟨c, [], dt, 0⟩
    else if c = true ∧ axisN sh first ≠ 1 then noAns 3
    else gatherAns c (without sh first) (fun k => foldR op (lineOf dt (k / (axisA sh first).toNat) (axisN sh first).toNat (axisA sh first).toNat (k % (axisA sh first).toNat))) ((axisB sh first).toNat * (axisA sh first).toNat)
  else noAns 3

def scan (op : Int) (c : Bool) (sh dt : List Int) (first : Bool) : Ans :=
  if arrOk c sh dt = true ∧ opIn op = true then
    if sh = [] then ⟨c, [], dt, 0⟩
    else if c = true ∧ 1 < axisN sh first then noAns 3
    else gatherAns c sh (fun k => foldR op ((lineOf dt (k / (axisA sh first).toNat / (axisN sh first).toNat) (axisN sh first).toNat (axisA sh first).toNat (k % (axisA sh first).toNat)).take (k / (axisA sh first).toNat % (axisN sh first).toNat + 1))) ((axisB sh first).toNat * (axisN sh first).toNat * (axisA sh first).toNat)
  else noAns 3

end Go.Proofs.YtgjpchnkodnieaaGreatDoor
namespace Go.Proofs.YtgjpchnkodnieaaGreatDoor

/-- The length along which Inner goes. -/
def innN (sh sh' : List Int) : Int := if sh' = [] then (if sh = [] then 1 else sh.getD (sh.length - 1) 0) else sh'.getD 0 0
/-- A scalar as a vector of n. -/
def stSh (n : Int) (sh : List Int) : List Int := if sh = [] then [n] else sh
def stDt (n : Int) (sh dt : List Int) : List Int := if sh = [] then List.replicate n.toNat (dt.getD 0 0) else dt

/-- g of the i-th elements of row k / A and column k % A. -/
def innPair (g : Int) (c d : Bool) (xs ys : List Int) (n A k i : Nat) : Int × Int := elemOf g c (lineOf xs (k / A) n 1 0) i d (lineOf ys 0 n A (k % A)) i

def innBad (g : Int) (c d : Bool) : Bool := (c || d) && !opEq g

def innEl (f g : Int) (c d : Bool) (xs ys : List Int) (n A k : Nat) : Int × Int :=
  if innBad g c d = true then (0, 3)
  else if firstCode (innPair g c d xs ys n A k) n = 0 then foldR f (vals (innPair g c d xs ys n A k) n) else (0, firstCode (innPair g c d xs ys n A k) n)

def innCore (f g : Int) (c d : Bool) (s x s' y : List Int) (n : Int) : Ans :=
  if axisN s false ≠ n then noAns 5
  else if shapeB (without s false ++ without s' true) = false then noAns 7
  else gatherAns false (without s false ++ without s' true) (innEl f g c d x y n.toNat (axisA s' true).toNat) ((axisB s false).toNat * (axisA s' true).toNat)

def inner (f g : Int) (c d : Bool) (sh dt sh' dt' : List Int) : Ans :=
  if arrOk c sh dt = true ∧ arrOk d sh' dt' = true ∧ opIn f = true ∧ opIn g = true then
    innCore f g c d (stSh (innN sh sh') sh) (stDt (innN sh sh') sh dt) (stSh (innN sh sh') sh') (stDt (innN sh sh') sh' dt') (innN sh sh')
  else noAns 3

theorem inner_bad {f g : Int} {c d : Bool} {sh dt sh' dt' : List Int} (h : ¬ (arrOk c sh dt = true ∧ arrOk d sh' dt' = true ∧ opIn f = true ∧ opIn g = true)) : inner f g c d sh dt sh' dt' = noAns 3 := by unfold inner; rw [if_neg h]
theorem inner_go {f g : Int} {c d : Bool} {sh dt sh' dt' : List Int} (h1 : arrOk c sh dt = true) (h2 : arrOk d sh' dt' = true) (h3 : opIn f = true) (h4 : opIn g = true) : inner f g c d sh dt sh' dt' = innCore f g c d (stSh (innN sh sh') sh) (stDt (innN sh sh') sh dt) (stSh (innN sh sh') sh') (stDt (innN sh sh') sh' dt') (innN sh sh') := by
  unfold inner; rw [if_pos ⟨h1, h2, h3, h4⟩]

theorem innN_bd {sh sh' : List Int} (h : ShapeIn sh) (h' : ShapeIn sh') : 0 ≤ innN sh sh' ∧ innN sh sh' ≤ 10000 := by
  unfold innN
  split
  · split
    · omega
    · exact h.cell _
  · exact h'.cell _

theorem stSh_ne (n : Int) (sh : List Int) : stSh n sh ≠ [] := by
  unfold stSh
  split
  · simp
  · assumption

theorem count_one (n : Nat) (h : n ≤ 10000) : countOf [(n : Int)] = n := by
  unfold countOf
  have ha : [(n : Int)].all inCells = true := by simp [inCells]; omega
  rw [if_pos ha]
  by_cases h0 : n = 0
  · subst h0; simp [prodFrom]
  · have e : ¬ ((n : Int) = 0) := by omega
    simp only [prodFrom, if_neg e, Int.one_mul]
    rw [if_neg (by omega)]
    simp
    try omega

theorem st_ok {c : Bool} {sh dt : List Int} {n : Int} (h : arrOk c sh dt = true) (h0 : 0 ≤ n) (h1 : n ≤ 10000) : arrOk c (stSh n sh) (stDt n sh dt) = true := by
  unfold stSh stDt
  by_cases hs : sh = []
  · rw [if_pos hs, if_pos hs]
    subst hs
    obtain ⟨m, rfl⟩ : ∃ m : Nat, n = m := ⟨n.toNat, by omega⟩
    unfold arrOk at h ⊢
    simp only [Bool.and_eq_true, decide_eq_true_eq] at h ⊢
    refine ⟨by simp, ?_, ?_⟩
    · rw [count_one m (by omega)]; simp
    · rw [List.all_eq_true]
      intro v hv
      have hv' := List.eq_of_mem_replicate hv
      have hl : 0 < dt.length := by have := h.2.1; simp [countOf, prodFrom] at this; omega
      rw [hv']
      exact List.all_eq_true.mp h.2.2 _ (by simp [hl])
  · rw [if_neg hs, if_neg hs]; exact h

theorem inn_axes {c : Bool} {sh dt : List Int} (fl : Bool) (hok : arrOk c sh dt = true) (hne : sh ≠ []) : ∃ B L A : Nat, (axisB sh fl = B ∧ axisN sh fl = L ∧ axisA sh fl = A) ∧ B * L * A = dt.length ∧ B ≤ 10000 ∧ L ≤ 10000 ∧ A ≤ 10000 := by
  obtain ⟨hin, hp, _⟩ := shapeIn_of hok
  have h1 := (hin.take (axisAt sh fl)).bd
  have h2 := hin.cell (axisAt sh fl)
  have h3 := (hin.drop (axisAt sh fl + 1)).bd
  have e := axis_all sh fl hne
  rw [hp] at e
  obtain ⟨B, hB⟩ : ∃ B : Nat, axisB sh fl = B := ⟨(axisB sh fl).toNat, by unfold axisB; omega⟩
  obtain ⟨L, hL⟩ : ∃ L : Nat, axisN sh fl = L := ⟨(axisN sh fl).toNat, by unfold axisN; omega⟩
  obtain ⟨A, hA⟩ : ∃ A : Nat, axisA sh fl = A := ⟨(axisA sh fl).toNat, by unfold axisA; omega⟩
  refine ⟨B, L, A, ⟨hB, hL, hA⟩, ?_, ?_, ?_, ?_⟩
  · rw [hB, hL, hA] at e
    exact_mod_cast e
  · unfold axisB at hB; omega
  · unfold axisN at hL; omega
  · unfold axisA at hA; omega

theorem axisA_last {sh : List Int} (h : sh ≠ []) : axisA sh false = 1 := by
  have hl : 0 < sh.length := List.length_pos_iff.mpr h
  unfold axisA axisAt
  simp only [Bool.false_eq_true, if_false]
  rw [show sh.length - 1 + 1 = sh.length by omega, List.drop_of_length_le (Nat.le_refl _)]; rfl

theorem axisB_first (sh : List Int) : axisB sh true = 1 := by simp [axisB, axisAt, prodAll]

theorem axisN_first {sh sh' : List Int} : axisN (stSh (innN sh sh') sh') true = innN sh sh' := by
  by_cases h : sh' = []
  · simp [axisN, axisAt, stSh, h]
  · simp [axisN, axisAt, stSh, h, innN]

theorem data_ok {c : Bool} {sh dt : List Int} (h : arrOk c sh dt = true) {k : Nat} (hk : k < dt.length) : dataOk c (dt.getD k 0) = true := by
  have h1 : dt.all (dataOk c) = true := by simp [arrOk] at h; simpa using h.2.2
  exact List.all_eq_true.mp h1 (dt.getD k 0) (by simp [hk])

theorem line_ok {c : Bool} {sh dt : List Int} (h : arrOk c sh dt = true) {B n A p q : Nat} (hL : B * n * A = dt.length) (hp : p < B) (hq : q < A) (hn : n ≤ 10000) : arrOk c [(n : Int)] (lineOf dt p n A q) = true := by
  unfold arrOk
  simp only [Bool.and_eq_true, decide_eq_true_eq]
  refine ⟨by simp, ?_, ?_⟩
  · rw [count_one n hn, line_len]
  · rw [List.all_eq_true]
    intro v hv
    obtain ⟨i, hi, rfl⟩ := List.mem_map.mp hv
    exact data_ok h (line_in hL hp hq (List.mem_range.mp hi))

theorem firstCode_congr {f g : Nat → Int × Int} {n : Nat} (h : ∀ k, k < n → f k = g k) : firstCode f n = firstCode g n := by
  induction n with
  | zero => rfl
  | succ n ih => simp only [firstCode]; rw [ih fun k hk => h k (by omega), h n (by omega)]

theorem vals_congr {f g : Nat → Int × Int} {n : Nat} (h : ∀ k, k < n → f k = g k) : vals f n = vals g n := by
  unfold vals
  apply List.map_congr_left
  intro i hi
  rw [h i (List.mem_range.mp hi)]

theorem gather_congr {c : Bool} {sh : List Int} {f g : Nat → Int × Int} {n : Nat} (h : ∀ k, k < n → f k = g k) : gatherAns c sh f n = gatherAns c sh g n := by
  unfold gatherAns; rw [firstCode_congr h, vals_congr h]

theorem scalar2_line {g : Int} {c d : Bool} {l1 l2 : List Int} {n : Nat} (hn : n ≤ 10000) (h1 : arrOk c [(n : Int)] l1 = true) (h2 : arrOk d [(n : Int)] l2 = true) (hg : opIn g = true) (e1 : l1.length = n) (e2 : l2.length = n) :
    scalar2 g c d [(n : Int)] l1 [(n : Int)] l2 = if innBad g c d = true then noAns 3 else gatherAns false [(n : Int)] (fun i => elemOf g c l1 i d l2 i) n := by
  have hw : wideB 1 n 1 n = false := by unfold wideB; by_cases h : n = 1 <;> simp [h]
  unfold scalar2
  rw [if_pos ⟨h1, h2, hg⟩]
  simp only [List.length_singleton, e1, e2, hw, ne_eq, not_true_eq_false, and_false, if_false, Bool.false_eq_true]
  by_cases hb : innBad g c d = true
  · rw [if_pos hb, if_pos (by unfold innBad at hb; simpa using hb)]
  · rw [if_neg hb, if_neg (fun e => hb (by unfold innBad; rw [e.1, e.2]; rfl)), count_one n hn, Int.toNat_natCast]
    exact gather_congr fun k hk => by rw [Nat.mod_eq_of_lt hk]

/-- What the specification reckons at a place, out of Scalar2's answer. -/
theorem innEl_eq {f g : Int} {c d : Bool} {xs ys : List Int} {n A k : Nat} (hn : n ≤ 10000) (h1 : arrOk c [(n : Int)] (lineOf xs (k / A) n 1 0) = true) (h2 : arrOk d [(n : Int)] (lineOf ys 0 n A (k % A)) = true) (hg : opIn g = true) (z : Ans) (hz : z = scalar2 g c d [(n : Int)] (lineOf xs (k / A) n 1 0) [(n : Int)] (lineOf ys 0 n A (k % A))) :
    innEl f g c d xs ys n A k = if z.code = 0 then foldR f z.dt else (0, z.code) := by
  rw [hz, scalar2_line hn h1 h2 hg (line_len _ _ _ _ _) (line_len _ _ _ _ _)]
  unfold innEl
  by_cases hb : innBad g c d = true
  · rw [if_pos hb, if_pos hb]; rfl
  · rw [if_neg hb, if_neg hb]
    by_cases h0 : firstCode (innPair g c d xs ys n A k) n = 0
    · rw [if_pos h0, gather_good (f := fun i => elemOf g c (lineOf xs (k / A) n 1 0) i d (lineOf ys 0 n A (k % A)) i) h0]; rfl
    · have e : gatherAns false [(n : Int)] (fun i => elemOf g c (lineOf xs (k / A) n 1 0) i d (lineOf ys 0 n A (k % A)) i) n = noAns (firstCode (innPair g c d xs ys n A k) n) := by unfold gatherAns; exact if_neg h0
      rw [if_neg h0, e, if_neg (show ¬ (noAns (firstCode (innPair g c d xs ys n A k) n)).code = 0 from h0)]; rfl

theorem elem_bd (op : Int) (c d : Bool) (xs ys : List Int) (i j : Nat) : -1000000000000000 ≤ (elemOf op c xs i d ys j).1 ∧ (elemOf op c xs i d ys j).1 ≤ 1000000000000000 := by
  unfold elemOf
  split
  · unfold truth; split <;> omega
  · exact two_bd _ _ _

theorem vals_bd {f : Nat → Int × Int} (h : ∀ k, -1000000000000000 ≤ (f k).1 ∧ (f k).1 ≤ 1000000000000000) (n k : Nat) : -1000000000000000 ≤ (vals f n).getD k 0 ∧ (vals f n).getD k 0 ≤ 1000000000000000 := by
  by_cases hk : k < n
  · have : (vals f n).getD k 0 = (f k).1 := by simp [vals, hk]
    rw [this]; exact h k
  · have e : (vals f n).getD k 0 = 0 := by simp [List.getD, List.getElem?_eq_none (by rw [vals_len]; omega : (vals f n).length ≤ k)]
    rw [e]; omega

theorem scalar2_bd {g : Int} {c d : Bool} {l1 l2 : List Int} {n : Nat} (hn : n ≤ 10000) (h1 : arrOk c [(n : Int)] l1 = true) (h2 : arrOk d [(n : Int)] l2 = true) (hg : opIn g = true) (e1 : l1.length = n) (e2 : l2.length = n) (k : Nat) :
    -1000000000000000 ≤ (scalar2 g c d [(n : Int)] l1 [(n : Int)] l2).dt.getD k 0 ∧ (scalar2 g c d [(n : Int)] l1 [(n : Int)] l2).dt.getD k 0 ≤ 1000000000000000 := by
  have hz : -1000000000000000 ≤ ([] : List Int).getD k 0 ∧ ([] : List Int).getD k 0 ≤ 1000000000000000 := by simp
  rw [scalar2_line hn h1 h2 hg e1 e2]
  by_cases hb : innBad g c d = true
  · rw [if_pos hb]; exact hz
  · rw [if_neg hb]
    unfold gatherAns
    split
    · exact vals_bd (fun k => elem_bd _ _ _ _ _ _ _) _ _
    · exact hz

end Go.Proofs.YtgjpchnkodnieaaGreatDoor
namespace Go.Proofs.YtgjpchnkodnieaaGreatDoor

/-- The place of an index, by its first k numbers. -/
def placeN (sh ix : List Int) : Nat → Int
  | 0 => 0
  | k + 1 => placeN sh ix k * sh.getD k 0 + ix.getD k 0

def place (sh ix : List Int) : Int := placeN sh ix sh.length

/-- Each number of an index is below its axis. -/
def IxIn (sh ix : List Int) : Prop := ∀ k, k < sh.length → 0 ≤ ix.getD k 0 ∧ ix.getD k 0 < sh.getD k 0

theorem placeN_bd {sh ix : List Int} (hi : IxIn sh ix) (k : Nat) (hk : k ≤ sh.length) : 0 ≤ placeN sh ix k ∧ placeN sh ix k < prodAll (sh.take k) := by
  induction k with
  | zero => simp [placeN, prodAll]
  | succ k ih =>
    obtain ⟨h1, h2⟩ := ih (by omega)
    obtain ⟨h3, h4⟩ := hi k (by omega)
    rw [prodAll_snoc sh k (by omega)]
    show 0 ≤ placeN sh ix k * sh.getD k 0 + ix.getD k 0 ∧ placeN sh ix k * sh.getD k 0 + ix.getD k 0 < _
    have h5 : 0 ≤ placeN sh ix k * sh.getD k 0 := Int.mul_nonneg h1 (by omega)
    have h6 : (placeN sh ix k + 1) * sh.getD k 0 ≤ prodAll (sh.take k) * sh.getD k 0 := Int.mul_le_mul_of_nonneg_right (by omega) (by omega)
    rw [Int.add_mul, Int.one_mul] at h6
    omega

theorem place_bd {sh ix : List Int} (hi : IxIn sh ix) : 0 ≤ place sh ix ∧ place sh ix < prodAll sh := by
  have := placeN_bd hi sh.length (Nat.le_refl _)
  rwa [List.take_length] at this

/-- What is left of a place behind j axes, going from the last. -/
def restN (sh : List Int) (p : Int) : Nat → Int
  | 0 => p
  | j + 1 => restN sh p j / sh.getD (sh.length - 1 - j) 0

def digit (sh : List Int) (p : Int) (i : Nat) : Int := restN sh p (sh.length - 1 - i) % sh.getD i 0

/-- The index of a place. -/
def digits (sh : List Int) (p : Int) : List Int := (List.range sh.length).map (digit sh p)

theorem digits_len (sh : List Int) (p : Int) : (digits sh p).length = sh.length := by simp [digits]

theorem digits_get (sh : List Int) (p : Int) (k : Nat) (hk : k < sh.length) : (digits sh p).getD k 0 = digit sh p k := by simp [digits, hk]

/-- No axis of length 0. -/
def Full (sh : List Int) : Prop := ∀ k, k < sh.length → 0 < sh.getD k 0

theorem restN_nn {sh : List Int} (hf : Full sh) {p : Int} (hp : 0 ≤ p) (j : Nat) (hj : j ≤ sh.length) : 0 ≤ restN sh p j ∧ restN sh p j ≤ p := by
  induction j with
  | zero => exact ⟨hp, Int.le_refl _⟩
  | succ j ih =>
    obtain ⟨h1, h2⟩ := ih (by omega)
    have hs := hf (sh.length - 1 - j) (by omega)
    show 0 ≤ restN sh p j / sh.getD (sh.length - 1 - j) 0 ∧ restN sh p j / sh.getD (sh.length - 1 - j) 0 ≤ p
    exact ⟨Int.ediv_nonneg h1 (by omega), Int.le_trans (Int.ediv_le_self _ h1) h2⟩

theorem digits_in {sh : List Int} (hf : Full sh) (p : Int) : IxIn sh (digits sh p) := by
  intro k hk
  rw [digits_get sh p k hk]
  have hs := hf k hk
  exact ⟨Int.emod_nonneg _ (by omega), Int.emod_lt_of_pos _ hs⟩

theorem restN_lt {sh : List Int} (hf : Full sh) {p : Int} (hl : p < prodAll sh) (j : Nat) (hj : j ≤ sh.length) : restN sh p j < prodAll (sh.take (sh.length - j)) := by
  induction j with
  | zero => simpa [restN] using hl
  | succ j ih =>
    have h1 := ih (by omega)
    have hs := hf (sh.length - 1 - j) (by omega)
    have e : sh.length - j = sh.length - 1 - j + 1 := by omega
    rw [e, prodAll_snoc sh _ (by omega)] at h1
    have e2 : sh.length - (j + 1) = sh.length - 1 - j := by omega
    rw [e2]
    exact Int.ediv_lt_of_lt_mul hs h1

theorem place_digits_aux {sh : List Int} (hf : Full sh) {p : Int} (hp : 0 ≤ p) (hl : p < prodAll sh) (k : Nat) (hk : k ≤ sh.length) : placeN sh (digits sh p) k = restN sh p (sh.length - k) := by
  induction k with
  | zero =>
    have h1 := (restN_nn hf hp sh.length (Nat.le_refl _)).1
    have h2 := restN_lt hf hl sh.length (Nat.le_refl _)
    simp [prodAll] at h2
    show (0 : Int) = _
    simp
    omega
  | succ k ih =>
    have h1 := ih (by omega)
    show placeN sh (digits sh p) k * sh.getD k 0 + (digits sh p).getD k 0 = _
    rw [h1, digits_get sh p k (by omega)]
    have e : sh.length - k = sh.length - (k + 1) + 1 := by omega
    have e2 : sh.length - 1 - (sh.length - (k + 1)) = k := by omega
    have e3 : sh.length - 1 - k = sh.length - (k + 1) := by omega
    rw [e]
    show restN sh p (sh.length - (k + 1)) / sh.getD (sh.length - 1 - (sh.length - (k + 1))) 0 * sh.getD k 0 + digit sh p k = _
    rw [e2]
    unfold digit
    rw [e3, Int.mul_comm]
    exact Int.mul_ediv_add_emod _ _

/-- The index of a place is the index of that place. -/
theorem place_digits {sh : List Int} (hf : Full sh) {p : Int} (hp : 0 ≤ p) (hl : p < prodAll sh) : place sh (digits sh p) = p := by
  have := place_digits_aux hf hp hl sh.length (Nat.le_refl _)
  simpa [place, restN] using this

theorem full_of {sh : List Int} (h : ShapeIn sh) (hp : 0 < prodAll sh) : Full sh := by
  intro k hk
  have h1 := (h.cell k).1
  by_cases h0 : sh.getD k 0 = 0
  · exfalso
    have e : sh = sh.take k ++ sh.getD k 0 :: sh.drop (k + 1) := by simp [List.getD, hk]
    have hz : prodAll sh = 0 := by
      rw [e, prodAll_append, h0]
      have : prodAll (0 :: sh.drop (k + 1)) = prodAll [0] * prodAll (sh.drop (k + 1)) := by rw [← prodAll_append]; rfl
      rw [this]
      simp [prodAll]
    omega
  · omega

theorem drop_set {D : List Int} {m : Nat} (hm : m < D.length) : (List.replicate (m + 1) (0 : Int) ++ D.drop (m + 1)).set m (D.getD m 0) = List.replicate m 0 ++ D.drop m := by
  have e : D.drop m = D.getD m 0 :: D.drop (m + 1) := by simp [List.getD, hm]
  rw [e, List.replicate_succ', List.append_assoc, List.set_append_right _ _ (by simp)]
  simp

end Go.Proofs.YtgjpchnkodnieaaGreatDoor
namespace Go.Proofs.YtgjpchnkodnieaaGreatDoor

/-- The code of an array that should be a list of numbers. -/
def listCode (c : Bool) (n : Nat) : Int := if 1 < n then 4 else if c then 3 else 0

def fillOf (c : Bool) : Int := if c then 32 else 0

def reshapeAt (d : Bool) (dt' : List Int) (m2 k : Nat) : Int × Int := (if m2 = 0 then fillOf d else dt'.getD (k % m2) 0, 0)

def nonNeg (v : Int) : Bool := decide (0 ≤ v)

def reshape (c d : Bool) (sh dt sh' dt' : List Int) : Ans :=
  if arrOk c sh dt = true ∧ arrOk d sh' dt' = true then
    if listCode c sh.length ≠ 0 then noAns (listCode c sh.length)
    else if dt.all nonNeg = false then noAns 3
    else if shapeB dt = false then noAns 7
    else gatherAns d dt (reshapeAt d dt' dt'.length) (countOf dt).toNat
  else noAns 3

theorem reshape_bad1 {c d : Bool} {sh dt sh' dt' : List Int} (h : arrOk c sh dt = false) : reshape c d sh dt sh' dt' = noAns 3 := by unfold reshape; rw [if_neg (by simp [h])]
theorem reshape_bad2 {c d : Bool} {sh dt sh' dt' : List Int} (h : arrOk d sh' dt' = false) : reshape c d sh dt sh' dt' = noAns 3 := by unfold reshape; rw [if_neg (by simp [h])]
theorem reshape_list {c d : Bool} {sh dt sh' dt' : List Int} (h1 : arrOk c sh dt = true) (h2 : arrOk d sh' dt' = true) (r : Int) (h : listCode c sh.length = r) (hr : r ≠ 0) : reshape c d sh dt sh' dt' = noAns r := by
  unfold reshape; rw [if_pos ⟨h1, h2⟩, h, if_pos hr]
theorem reshape_neg {c d : Bool} {sh dt sh' dt' : List Int} (h1 : arrOk c sh dt = true) (h2 : arrOk d sh' dt' = true) (h : listCode c sh.length = 0) (h3 : dt.all nonNeg = false) : reshape c d sh dt sh' dt' = noAns 3 := by
  unfold reshape; rw [if_pos ⟨h1, h2⟩, if_neg (by simp [h]), if_pos h3]
theorem reshape_big {c d : Bool} {sh dt sh' dt' : List Int} (h1 : arrOk c sh dt = true) (h2 : arrOk d sh' dt' = true) (h : listCode c sh.length = 0) (h3 : dt.all nonNeg = true) (h4 : shapeB dt = false) : reshape c d sh dt sh' dt' = noAns 7 := by
  unfold reshape; rw [if_pos ⟨h1, h2⟩, if_neg (by simp [h]), if_neg (by simp [h3]), if_pos h4]
theorem reshape_go {c d : Bool} {sh dt sh' dt' : List Int} (h1 : arrOk c sh dt = true) (h2 : arrOk d sh' dt' = true) (h : listCode c sh.length = 0) (h3 : dt.all nonNeg = true) (h4 : shapeB dt = true) (m2 N : Nat) (l4 : dt'.length = m2) (hN : countOf dt = N) : reshape c d sh dt sh' dt' = gatherAns d dt (reshapeAt d dt' m2) N := by
  unfold reshape; rw [if_pos ⟨h1, h2⟩, if_neg (by simp [h]), if_neg (by simp [h3]), if_neg (by simp [h4]), l4, hN]; rfl

theorem shapeB_count {sh : List Int} (h : shapeB sh = true) : 0 ≤ countOf sh ∧ countOf sh ≤ 10000 := by
  unfold shapeB at h
  simp only [Bool.and_eq_true, decide_eq_true_eq] at h
  exact ⟨h.2, (count_bd sh).2⟩

end Go.Proofs.YtgjpchnkodnieaaGreatDoor
namespace Go.Proofs.YtgjpchnkodnieaaGreatDoor

/-- An index moved by a start. -/
def addIx (ix st : List Int) : List Int := (List.range ix.length).map fun i => ix.getD i 0 + st.getD i 0

theorem addIx_len (ix st : List Int) : (addIx ix st).length = ix.length := by simp [addIx]
theorem addIx_get (ix st : List Int) (k : Nat) (hk : k < ix.length) : (addIx ix st).getD k 0 = ix.getD k 0 + st.getD k 0 := by simp [addIx, hk]

/-- The first k numbers of an index lie within their axes. -/
def insideN (sh ix : List Int) : Nat → Bool
  | 0 => true
  | k + 1 => insideN sh ix k && (decide (0 ≤ ix.getD k 0) && decide (ix.getD k 0 < sh.getD k 0))

theorem inside_each {sh ix : List Int} {n : Nat} (h : insideN sh ix n = true) (k : Nat) (hk : k < n) : 0 ≤ ix.getD k 0 ∧ ix.getD k 0 < sh.getD k 0 := by
  induction n with
  | zero => omega
  | succ n ih =>
    simp only [insideN, Bool.and_eq_true, decide_eq_true_eq] at h
    by_cases e : k = n
    · subst e; exact h.2
    · exact ih h.1 (by omega)

theorem inside_in {sh ix : List Int} (h : insideN sh ix sh.length = true) : IxIn sh ix := fun k hk => inside_each h k hk

/-- What stands at place k of a window. -/
def windowAt (c : Bool) (sh dt st zs : List Int) (k : Nat) : Int × Int :=
  if insideN sh (addIx (digits zs k) st) sh.length = true then (dt.getD (place sh (addIx (digits zs k) st)).toNat 0, 0) else (fillOf c, 0)

theorem window_code (c : Bool) (sh dt st zs : List Int) (k : Nat) : (windowAt c sh dt st zs k).2 = 0 := by unfold windowAt; split <;> rfl

theorem mix_set {A D : List Int} {k : Nat} (hl : A.length = D.length) (hk : k < D.length) : (A.take k ++ D.drop k).set k (A.getD k 0) = A.take (k + 1) ++ D.drop (k + 1) := by
  have e : D.drop k = D.getD k 0 :: D.drop (k + 1) := by simp [List.getD, hk]
  have e2 : A.take (k + 1) = A.take k ++ [A.getD k 0] := take_snoc A k (by omega)
  rw [e, e2, List.append_assoc, List.set_append_right _ _ (by simp; omega)]
  have e3 : k - (A.take k).length = 0 := by simp; omega
  rw [e3]
  rfl

theorem mix_get {A D : List Int} {k : Nat} (hl : A.length = D.length) (hk : k < D.length) : (A.take k ++ D.drop k).getD k 0 = D.getD k 0 := by
  have e3 : min k A.length = k := by omega
  simp [List.getD, List.getElem?_append, e3]

theorem mix_got {A D : List Int} {k : Nat} (hk : k < A.length) : (A.take (k + 1) ++ D.drop (k + 1)).getD k 0 = A.getD k 0 := by
  have e : k < min (k + 1) A.length := by omega
  simp [List.getD, List.getElem?_append, e, hk]

theorem mix_len {A D : List Int} {k : Nat} (hl : A.length = D.length) (hk : k ≤ D.length) : (A.take k ++ D.drop k).length = D.length := by simp; omega

theorem shapeB_in {sh : List Int} (h : shapeB sh = true) : ShapeIn sh ∧ sh.length ≤ 5 := by
  unfold shapeB at h
  simp only [Bool.and_eq_true, decide_eq_true_eq] at h
  refine ⟨?_, h.1⟩
  have h2 := h.2
  unfold countOf at h2
  split at h2
  · rename_i ha
    split at h2
    · omega
    · rename_i m hm; exact ⟨ha, m, hm⟩
  · omega

end Go.Proofs.YtgjpchnkodnieaaGreatDoor
namespace Go.Proofs.YtgjpchnkodnieaaGreatDoor

/-- The axis that number i of an order names, from 0 on. -/
def axNo (dt : List Int) (i : Nat) : Nat := (dt.getD i 0 - 1).toNat

def seenN (dt : List Int) (r : Nat) : Nat → List Bool
  | 0 => List.replicate r false
  | i + 1 => (seenN dt r i).set (axNo dt i) true

def turnN (dt sh : List Int) (r : Nat) : Nat → List Int
  | 0 => List.replicate r 0
  | i + 1 => (turnN dt sh r i).set (axNo dt i) (sh.getD i 0)

/-- Number i of an order is in 1 .. r and has not been there. -/
def stepOk (dt : List Int) (r i : Nat) : Bool := decide (1 ≤ dt.getD i 0 ∧ dt.getD i 0 ≤ r) && !(seenN dt r i).getD (axNo dt i) false

def orderOk (dt : List Int) (r : Nat) : Nat → Bool
  | 0 => true
  | i + 1 => orderOk dt r i && stepOk dt r i

theorem seenN_len (dt : List Int) (r i : Nat) : (seenN dt r i).length = r := by
  induction i with
  | zero => simp [seenN]
  | succ i ih => simp [seenN, ih]

theorem turnN_len (dt sh : List Int) (r i : Nat) : (turnN dt sh r i).length = r := by
  induction i with
  | zero => simp [turnN]
  | succ i ih => simp [turnN, ih]

theorem orderOk_le {dt : List Int} {r m i : Nat} (h : orderOk dt r m = true) (hi : i ≤ m) : orderOk dt r i = true := by
  induction m with
  | zero => have : i = 0 := by omega
            subst this; exact h
  | succ m ih =>
    simp only [orderOk, Bool.and_eq_true] at h
    by_cases e : i = m + 1
    · subst e; simp only [orderOk, Bool.and_eq_true]; exact h
    · exact ih h.1 (by omega)

theorem order_step {dt : List Int} {r m i : Nat} (h : orderOk dt r m = true) (hi : i < m) : stepOk dt r i = true := by
  have := orderOk_le h (by omega : i + 1 ≤ m)
  simp only [orderOk, Bool.and_eq_true] at this
  exact this.2

theorem stepOk_lt {dt : List Int} {r i : Nat} (h : stepOk dt r i = true) : axNo dt i < r := by
  unfold stepOk at h
  simp only [Bool.and_eq_true, decide_eq_true_eq] at h
  unfold axNo
  omega

theorem stepOk_new {dt : List Int} {r i : Nat} (h : stepOk dt r i = true) : (seenN dt r i).getD (axNo dt i) false = false := by
  unfold stepOk at h
  simp only [Bool.and_eq_true, Bool.not_eq_true'] at h
  exact h.2

theorem getD_set {α : Type} (l : List α) (k j : Nat) (x d : α) (hk : k < l.length) : (l.set k x).getD j d = if j = k then x else l.getD j d := by
  by_cases e : j = k
  · subst e; simp [List.getD, hk]
  · rw [if_neg e]; simp [List.getD, List.getElem?_set_ne (Ne.symm e)]

/-- What has been laid stays. -/
theorem turned {dt sh : List Int} {r m : Nat} (h : orderOk dt r m = true) : ∀ i, i < m → (turnN dt sh r m).getD (axNo dt i) 0 = sh.getD i 0 ∧ (seenN dt r m).getD (axNo dt i) false = true := by
  induction m with
  | zero => intro i hi; omega
  | succ m ih =>
    intro i hi
    have h1 := orderOk_le h (by omega : m ≤ m + 1)
    have h2 := order_step h (by omega : m < m + 1)
    have hl := stepOk_lt h2
    simp only [turnN, seenN]
    rw [getD_set _ _ _ _ _ (by rw [turnN_len]; exact hl), getD_set _ _ _ _ _ (by rw [seenN_len]; exact hl)]
    by_cases e : i = m
    · subst e; simp
    · obtain ⟨a, b⟩ := ih h1 i (by omega)
      have hne : axNo dt i ≠ axNo dt m := fun e => by rw [e, stepOk_new h2] at b; cases b
      rw [if_neg hne, if_neg hne]
      exact ⟨a, b⟩

theorem count_set (l : List Bool) (k : Nat) (hk : k < l.length) (h : l.getD k false = false) : (l.set k true).count true = l.count true + 1 := by
  induction l generalizing k with
  | nil => simp at hk
  | cons x r ih =>
    cases k with
    | zero =>
      have : x = false := by simpa using h
      subst this
      simp
    | succ k =>
      have := ih k (by simpa using hk) (by simpa using h)
      simp only [List.set_cons_succ, List.count_cons, this]
      omega

theorem seen_count {dt : List Int} {r m : Nat} (h : orderOk dt r m = true) : (seenN dt r m).count true = m := by
  induction m with
  | zero => simp [seenN, List.count_replicate]
  | succ m ih =>
    have h1 := orderOk_le h (by omega : m ≤ m + 1)
    have h2 := order_step h (by omega : m < m + 1)
    simp only [seenN]
    rw [count_set _ _ (by rw [seenN_len]; exact stepOk_lt h2) (stepOk_new h2), ih h1]

theorem seen_from {dt : List Int} {r m k : Nat} (h : (seenN dt r m).getD k false = true) : ∃ i, i < m ∧ axNo dt i = k := by
  induction m with
  | zero => simp [seenN, List.getD, List.getElem?_replicate] at h; split at h <;> simp at h
  | succ m ih =>
    simp only [seenN] at h
    by_cases e : axNo dt m = k
    · exact ⟨m, by omega, e⟩
    · have : ((seenN dt r m).set (axNo dt m) true).getD k false = (seenN dt r m).getD k false := by simp [List.getD, List.getElem?_set_ne e]
      rw [this] at h
      obtain ⟨i, hi, he⟩ := ih h
      exact ⟨i, by omega, he⟩

/-- Every axis is named. -/
theorem all_named {dt : List Int} {r k : Nat} (h : orderOk dt r r = true) (hk : k < r) : ∃ i, i < r ∧ axNo dt i = k := by
  apply seen_from (r := r)
  have hc := seen_count h
  have hl := seenN_len dt r r
  have hall := List.count_eq_length.mp (hc.trans hl.symm)
  have hm : (seenN dt r r).getD k false ∈ seenN dt r r := by simp [List.getD, hl, hk]
  exact (hall _ hm).symm

/-- An index of the turned array, as one of the array. -/
def backIx (dt D : List Int) (r : Nat) : List Int := (List.range r).map fun i => D.getD (axNo dt i) 0

theorem backIx_len (dt D : List Int) (r : Nat) : (backIx dt D r).length = r := by simp [backIx]
theorem backIx_get (dt D : List Int) (r i : Nat) (hi : i < r) : (backIx dt D r).getD i 0 = D.getD (axNo dt i) 0 := by simp [backIx, hi]

theorem back_in {dt sh D : List Int} {r : Nat} (h : orderOk dt r r = true) (hl : sh.length = r) (hD : IxIn (turnN dt sh r r) D) : IxIn sh (backIx dt D r) := by
  intro i hi
  rw [hl] at hi
  rw [backIx_get _ _ _ _ hi]
  have := hD (axNo dt i) (by rw [turnN_len]; exact stepOk_lt (order_step h hi))
  rw [(turned h i hi).1] at this
  exact this

theorem turn_cell {dt sh : List Int} {r : Nat} (h : orderOk dt r r = true) {k : Nat} (hk : k < r) : ∃ i, i < r ∧ (turnN dt sh r r).getD k 0 = sh.getD i 0 := by
  obtain ⟨i, hi, he⟩ := all_named h hk
  exact ⟨i, hi, by rw [← he]; exact (turned h i hi).1⟩

theorem turn_full {dt sh : List Int} {r : Nat} (h : orderOk dt r r = true) (hl : sh.length = r) (hf : Full sh) : Full (turnN dt sh r r) := by
  intro k hk
  rw [turnN_len] at hk
  obtain ⟨i, hi, he⟩ := turn_cell (sh := sh) h hk
  rw [he]
  exact hf i (by rw [hl]; exact hi)

theorem turn_le {dt sh : List Int} {r : Nat} (h : orderOk dt r r = true) (hs : ∀ k, sh.getD k 0 ≤ 10000) (k : Nat) : (turnN dt sh r r).getD k 0 ≤ 10000 := by
  by_cases hk : k < r
  · obtain ⟨i, _, he⟩ := turn_cell (sh := sh) h hk
    rw [he]; exact hs i
  · have : (turnN dt sh r r).getD k 0 = 0 := by simp [List.getD, List.getElem?_eq_none (by rw [turnN_len]; omega : (turnN dt sh r r).length ≤ k)]
    omega

def transAt (dt sh' dt' : List Int) (k : Nat) : Int × Int := (dt'.getD (place sh' (backIx dt (digits (turnN dt sh' sh'.length sh'.length) k) sh'.length)).toNat 0, 0)

def transpose (c d : Bool) (sh dt sh' dt' : List Int) : Ans :=
  if arrOk c sh dt = true ∧ arrOk d sh' dt' = true then
    if listCode c sh.length ≠ 0 then noAns (listCode c sh.length)
    else if dt.length ≠ sh'.length then noAns 5
    else if orderOk dt sh'.length sh'.length = false then noAns 3
    else ⟨d, turnN dt sh' sh'.length sh'.length, vals (transAt dt sh' dt') dt'.length, 0⟩
  else noAns 3

section
variable {c d : Bool} {sh dt sh' dt' : List Int}
theorem transpose_bad1 (h : arrOk c sh dt = false) : transpose c d sh dt sh' dt' = noAns 3 := by unfold transpose; rw [if_neg (by simp [h])]
theorem transpose_bad2 (h : arrOk d sh' dt' = false) : transpose c d sh dt sh' dt' = noAns 3 := by unfold transpose; rw [if_neg (by simp [h])]
theorem transpose_list (h1 : arrOk c sh dt = true) (h2 : arrOk d sh' dt' = true) (r : Int) (h : listCode c sh.length = r) (hr : r ≠ 0) : transpose c d sh dt sh' dt' = noAns r := by
  unfold transpose; rw [if_pos ⟨h1, h2⟩, h, if_pos hr]
theorem transpose_len (h1 : arrOk c sh dt = true) (h2 : arrOk d sh' dt' = true) (h : listCode c sh.length = 0) (hl : dt.length ≠ sh'.length) : transpose c d sh dt sh' dt' = noAns 5 := by
  unfold transpose; rw [if_pos ⟨h1, h2⟩, if_neg (by simp [h]), if_pos hl]
theorem transpose_dom (h1 : arrOk c sh dt = true) (h2 : arrOk d sh' dt' = true) (h : listCode c sh.length = 0) (hl : dt.length = sh'.length) (ho : orderOk dt sh'.length sh'.length = false) : transpose c d sh dt sh' dt' = noAns 3 := by
  unfold transpose; rw [if_pos ⟨h1, h2⟩, if_neg (by simp [h]), if_neg (by simp [hl]), if_pos ho]
theorem transpose_go (h1 : arrOk c sh dt = true) (h2 : arrOk d sh' dt' = true) (h : listCode c sh.length = 0) (hl : dt.length = sh'.length) (ho : orderOk dt sh'.length sh'.length = true) : transpose c d sh dt sh' dt' = ⟨d, turnN dt sh' sh'.length sh'.length, vals (transAt dt sh' dt') dt'.length, 0⟩ := by
  unfold transpose; rw [if_pos ⟨h1, h2⟩, if_neg (by simp [h]), if_neg (by simp [hl]), if_neg (by simp [ho])]
end

theorem order_bad {dt : List Int} {r i : Nat} (hi : i < r) (h : stepOk dt r i = false) : orderOk dt r r = false := by
  cases e : orderOk dt r r with
  | false => rfl
  | true => rw [order_step e hi] at h; cases h

end Go.Proofs.YtgjpchnkodnieaaGreatDoor
namespace Go.Proofs.YtgjpchnkodnieaaGreatDoor

/-- The sum of numbers, from the right. -/
def sumL : List Int → Int
  | [] => 0
  | x :: r => x + sumL r

theorem sumL_bd (l : List Int) (h : ∀ x, x ∈ l → -998001 ≤ x ∧ x ≤ 998001) : -998001 * (l.length : Int) ≤ sumL l ∧ sumL l ≤ 998001 * (l.length : Int) := by
  induction l with
  | nil => simp [sumL]
  | cons x r ih =>
    have h1 := h x (by simp)
    have h2 := ih (fun y hy => h y (by simp [hy]))
    simp only [sumL, List.length_cons]
    push_cast
    omega

theorem limited_in {v : Int} (h : -1000000000000000 ≤ v ∧ v ≤ 1000000000000000) : limited (v, true) = (v, 0) := by
  unfold limited
  rw [if_pos ⟨rfl, by simp [inM]; omega⟩]

theorem fold_sum (l : List Int) (h : ∀ x, x ∈ l → -998001 ≤ x ∧ x ≤ 998001) (hl : l.length ≤ 10000) : foldR 1 l = (sumL l, 0) := by
  induction l with
  | nil => rfl
  | cons x r ih =>
    have h1 := h x (by simp)
    have hr : ∀ y, y ∈ r → -998001 ≤ y ∧ y ≤ 998001 := fun y hy => h y (by simp [hy])
    have hl' : r.length ≤ 10000 := by simp at hl; omega
    have h2 := sumL_bd r hr
    have h3 := ih hr hl'
    by_cases he : r = []
    · subst he; simp [foldR, sumL]
    · rw [foldR_cons he, h3]
      simp only [ne_eq, not_true_eq_false, if_false, sumL]
      show twoOf 1 x (sumL r) = _
      unfold twoOf
      rw [if_pos rfl, limited_in (by omega)]

theorem mul_bd {a b : Int} (ha : -999 ≤ a ∧ a ≤ 999) (hb : -999 ≤ b ∧ b ≤ 999) : -998001 ≤ a * b ∧ a * b ≤ 998001 := by
  have h1 : a * b ≤ 998001 := by
    rcases Int.le_total 0 a with h | h <;> rcases Int.le_total 0 b with k | k
    · have := Int.mul_le_mul ha.2 hb.2 k (by omega); omega
    · have := Int.mul_nonpos_of_nonneg_of_nonpos h k; omega
    · have := Int.mul_nonpos_of_nonpos_of_nonneg h k; omega
    · have := Int.mul_le_mul (show -a ≤ 999 by omega) (show -b ≤ 999 by omega) (by omega) (by omega)
      rw [Int.neg_mul_neg] at this; omega
  have h2 : -(a * b) ≤ 998001 := by
    rcases Int.le_total 0 a with h | h <;> rcases Int.le_total 0 b with k | k
    · have := Int.mul_nonneg h k; omega
    · have := Int.mul_le_mul ha.2 (show -b ≤ 999 by omega) (by omega) (by omega)
      rw [Int.mul_neg] at this; omega
    · have := Int.mul_le_mul (show -a ≤ 999 by omega) hb.2 k (by omega)
      rw [Int.neg_mul] at this; omega
    · have := Int.mul_nonneg_of_nonpos_of_nonpos h k; omega
  omega

theorem times_small {a b : Int} (ha : -999 ≤ a ∧ a ≤ 999) (hb : -999 ≤ b ∧ b ≤ 999) : twoOf 3 a b = (a * b, 0) := by
  have := mul_bd ha hb
  unfold twoOf
  rw [if_neg (by omega), if_neg (by omega), if_pos rfl, times_ok (by simp [inM]; omega), limited_in (by omega)]

/-- Numbers that are small. -/
def Small3 (l : List Int) : Prop := ∀ k, -999 ≤ l.getD k 0 ∧ l.getD k 0 ≤ 999

/-- A row of one matrix against a column of another. -/
def dotN (x y : List Int) (C S p q : Nat) : Int := sumL ((List.range C).map fun i => x.getD (p * C + i) 0 * y.getD (i * S + q) 0)

theorem shapeB_two (R S : Nat) : shapeB [(R : Int), (S : Int)] = shapeB [(S : Int), (R : Int)] := by
  have hc : countOf [(R : Int), (S : Int)] = countOf [(S : Int), (R : Int)] := by
    unfold countOf
    by_cases hR : R ≤ 10000
    · by_cases hS : S ≤ 10000
      · have a1 : inCells (R : Int) = true := by simp [inCells]; omega
        have a2 : inCells (S : Int) = true := by simp [inCells]; omega
        simp only [List.all_cons, List.all_nil, a1, a2, Bool.and_self, if_true, prodFrom, Int.one_mul]
        have m1 : ((0 : Int) ∈ [(R : Int), (S : Int)]) ↔ ((0 : Int) ∈ [(S : Int), (R : Int)]) := by simp [or_comm]
        by_cases r0 : (R : Int) = 0
        · by_cases s0 : (S : Int) = 0
          · simp [r0, s0]
          · simp [r0]
        · by_cases s0 : (S : Int) = 0
          · simp [s0]
          · have gR : ¬ (10000 < (R : Int)) := by omega
            have gS : ¬ (10000 < (S : Int)) := by omega
            simp only [r0, s0, gR, gS, if_false, m1]
            rw [Int.mul_comm (S : Int) (R : Int)]
      · have a2 : inCells (S : Int) = false := by simp [inCells]; omega
        simp [a2]
    · have a1 : inCells (R : Int) = false := by simp [inCells]; omega
      simp [a1]
  unfold shapeB
  rw [hc]
  rfl

theorem two_len {c : Bool} {R C : Nat} {x : List Int} (h : arrOk c [(R : Int), (C : Int)] x = true) : x.length = R * C ∧ R ≤ 10000 ∧ C ≤ 10000 := by
  obtain ⟨hin, hp, _⟩ := shapeIn_of h
  have h1 := hin.cell 0
  have h2 := hin.cell 1
  simp only [List.getD_cons_zero, List.getD_cons_succ] at h1 h2
  refine ⟨?_, by omega, by omega⟩
  simp only [prodAll, List.foldl_cons, List.foldl_nil, Int.one_mul] at hp
  exact_mod_cast hp.symm

theorem inner2 {R C S : Nat} {x y : List Int} (h1 : arrOk false [(R : Int), (C : Int)] x = true) (h2 : arrOk false [(C : Int), (S : Int)] y = true) (bx : Small3 x) (hy : Small3 y) :
    inner 1 3 false false [(R : Int), (C : Int)] x [(C : Int), (S : Int)] y = if shapeB [(R : Int), (S : Int)] = true then ⟨false, [(R : Int), (S : Int)], vals (fun k => (dotN x y C S (k / S) (k % S), 0)) (R * S), 0⟩ else noAns 7 := by
  have hC := (two_len h1).2.2
  rw [inner_go h1 h2 rfl rfl]
  have eN : innN [(R : Int), (C : Int)] [(C : Int), (S : Int)] = (C : Int) := by simp [innN]
  rw [eN]
  have e1 : stSh (C : Int) [(R : Int), (C : Int)] = [(R : Int), (C : Int)] := by simp [stSh]
  have e2 : stSh (C : Int) [(C : Int), (S : Int)] = [(C : Int), (S : Int)] := by simp [stSh]
  have e3 : stDt (C : Int) [(R : Int), (C : Int)] x = x := by simp [stDt]
  have e4 : stDt (C : Int) [(C : Int), (S : Int)] y = y := by simp [stDt]
  rw [e1, e2, e3, e4]
  unfold innCore
  have g1 : axisN [(R : Int), (C : Int)] false = (C : Int) := by simp [axisN, axisAt]
  have g2 : without [(R : Int), (C : Int)] false ++ without [(C : Int), (S : Int)] true = [(R : Int), (S : Int)] := by simp [without]
  have g3 : (axisA [(C : Int), (S : Int)] true).toNat = S := by simp [axisA, axisAt, prodAll]
  have g4 : (axisB [(R : Int), (C : Int)] false).toNat = R := by simp [axisB, axisAt, prodAll]
  rw [g1, g2, g3, g4, Int.toNat_natCast, if_neg (by simp)]
  cases hs : shapeB [(R : Int), (S : Int)] with
  | false => simp
  | true =>
    rw [if_neg (by simp), if_pos rfl]
    have hpair : ∀ k i, i < C → innPair 3 false false x y C S k i = (x.getD (k / S * C + i) 0 * y.getD (i * S + k % S) 0, 0) := by
      intro k i hi
      unfold innPair elemOf
      rw [if_neg (by simp), line_get _ _ _ _ _ _ hi, line_get _ _ _ _ _ _ hi, Nat.mul_one, Nat.add_zero, Nat.zero_mul, Nat.zero_add]
      exact times_small (bx _) (hy _)
    have hel : ∀ k, k < R * S → innEl 1 3 false false x y C S k = (dotN x y C S (k / S) (k % S), 0) := by
      intro k _
      unfold innEl
      rw [if_neg (by simp [innBad])]
      have hf : firstCode (innPair 3 false false x y C S k) C = 0 := by
        have e : firstCode (innPair 3 false false x y C S k) C = firstCode (fun _ => ((0 : Int), (0 : Int))) C := by
          clear hs
          have : ∀ n, n ≤ C → firstCode (innPair 3 false false x y C S k) n = 0 := by
            intro n
            induction n with
            | zero => intro _; rfl
            | succ n ih => intro hn; exact code_step (ih (by omega)) (by rw [hpair k n (by omega)])
          rw [this C (Nat.le_refl _)]
          have : ∀ n, firstCode (fun _ => ((0 : Int), (0 : Int))) n = 0 := by
            intro n
            induction n with
            | zero => rfl
            | succ n ih => exact code_step ih rfl
          rw [this]
        rw [e]
        have : ∀ n, firstCode (fun _ => ((0 : Int), (0 : Int))) n = 0 := by
          intro n
          induction n with
          | zero => rfl
          | succ n ih => exact code_step ih rfl
        exact this C
      rw [if_pos hf]
      have ev : vals (innPair 3 false false x y C S k) C = (List.range C).map fun i => x.getD (k / S * C + i) 0 * y.getD (i * S + k % S) 0 := by
        unfold vals
        apply List.map_congr_left
        intro i hi
        rw [hpair k i (List.mem_range.1 hi)]
      rw [ev]
      refine fold_sum _ ?_ (by simp; omega)
      intro v hv
      obtain ⟨i, _, rfl⟩ := List.mem_map.1 hv
      exact mul_bd (bx _) (hy _)
    have hfc : ∀ n, n ≤ R * S → firstCode (innEl 1 3 false false x y C S) n = 0 := by
      intro n
      induction n with
      | zero => intro _; rfl
      | succ n ih => intro hn; exact code_step (ih (by omega)) (by rw [hel n (by omega)])
    rw [gather_good (hfc _ (Nat.le_refl _)), vals_congr hel]

/-- A matrix turned. -/
def tr2 (x : List Int) (R C : Nat) : List Int := (List.range (R * C)).map fun k => x.getD (k % R * C + k / R) 0

theorem tr2_get {x : List Int} {R C p q : Nat} (hp : p < C) (hq : q < R) : (tr2 x R C).getD (p * R + q) 0 = x.getD (q * C + p) 0 := by
  have hk : p * R + q < R * C := by
    have : (p + 1) * R ≤ C * R := Nat.mul_le_mul_right R hp
    rw [Nat.add_mul, Nat.mul_comm C R] at this
    omega
  have e1 : (p * R + q) % R = q := by rw [Nat.mul_comm, Nat.mul_add_mod, Nat.mod_eq_of_lt hq]
  have e2 : (p * R + q) / R = p := by rw [Nat.mul_comm, Nat.mul_add_div (by omega), Nat.div_eq_of_lt hq, Nat.add_zero]
  simp [tr2, hk, e1, e2]

theorem tr2_small {x : List Int} (h : Small3 x) (R C : Nat) : Small3 (tr2 x R C) := by
  intro k
  by_cases hk : k < R * C
  · have e : (tr2 x R C).getD k 0 = x.getD (k % R * C + k / R) 0 := by simp [tr2, hk]
    rw [e]; exact h _
  · have e : (tr2 x R C).getD k 0 = 0 := by rw [List.getD_eq_getElem?_getD, List.getElem?_eq_none (by simp [tr2]; omega)]; rfl
    rw [e]; omega

theorem ok_turn {c : Bool} {R C : Nat} {x : List Int} (h : arrOk c [(R : Int), (C : Int)] x = true) : arrOk c [(C : Int), (R : Int)] (tr2 x R C) = true := by
  have hl := two_len h
  have hs : shapeB [(C : Int), (R : Int)] = true := by
    rw [shapeB_two]
    unfold arrOk at h
    unfold shapeB
    simp only [Bool.and_eq_true, decide_eq_true_eq] at h ⊢
    exact ⟨h.1, by rw [h.2.1]; omega⟩
  have hc := prodAll_count _ hs
  have hd : ∀ k, dataOk c (x.getD k 0) = true ∨ x.length ≤ k := by
    intro k
    by_cases hk : k < x.length
    · exact .inl (data_ok h hk)
    · exact .inr (by omega)
  unfold arrOk
  simp only [Bool.and_eq_true, decide_eq_true_eq, List.all_eq_true]
  refine ⟨by simp, ?_, ?_⟩
  · rw [← hc]
    simp [prodAll, tr2]
    rw [Int.mul_comm]
  · intro v hv
    simp only [tr2, List.mem_map, List.mem_range] at hv
    obtain ⟨k, hk, rfl⟩ := hv
    have hR : 0 < R := by rcases Nat.eq_zero_or_pos R with h0 | h0; · subst h0; simp at hk
                          · exact h0
    have h1 : k % R < R := Nat.mod_lt _ hR
    have h2 : k / R < C := by rw [Nat.div_lt_iff_lt_mul hR, Nat.mul_comm]; exact hk
    have h3 : k % R * C + k / R < x.length := by
      rw [hl.1]
      have : (k % R + 1) * C ≤ R * C := Nat.mul_le_mul_right C h1
      rw [Nat.add_mul] at this
      omega
    exact data_ok h h3

theorem turn2 {c : Bool} {R C : Nat} {x : List Int} (h : arrOk c [(R : Int), (C : Int)] x = true) : transpose false c [2] [2, 1] [(R : Int), (C : Int)] x = ⟨c, [(C : Int), (R : Int)], tr2 x R C, 0⟩ := by
  have hl := two_len h
  have h0 : arrOk false [2] [2, 1] = true := by decide
  have ho : orderOk [2, 1] 2 2 = true := by decide
  rw [transpose_go h0 h rfl rfl ho]
  have et : turnN [2, 1] [(R : Int), (C : Int)] 2 2 = [(C : Int), (R : Int)] := by rfl
  show Ans.mk c (turnN [2, 1] [(R : Int), (C : Int)] 2 2) _ 0 = _
  rw [et]
  congr 1
  unfold vals tr2
  rw [hl.1]
  apply List.map_congr_left
  intro k hk
  have hk' := List.mem_range.1 hk
  have hR : 0 < R := by rcases Nat.eq_zero_or_pos R with h0 | h0; · subst h0; simp at hk'
                        · exact h0
  have h2 : k / R < C := by rw [Nat.div_lt_iff_lt_mul hR, Nat.mul_comm]; exact hk'
  unfold transAt
  show x.getD (place [(R : Int), (C : Int)] (backIx [2, 1] (digits (turnN [2, 1] [(R : Int), (C : Int)] 2 2) k) 2)).toNat 0 = _
  rw [et]
  congr 1
  have ed : digits [(C : Int), (R : Int)] k = [((k / R : Nat) : Int), ((k % R : Nat) : Int)] := by
    have d0 : digit [(C : Int), (R : Int)] k 0 = ((k / R : Nat) : Int) := by
      show ((k : Int) / (R : Int)) % (C : Int) = _
      have : ((k : Int) / (R : Int)) = ((k / R : Nat) : Int) := by simp
      rw [this]
      exact Int.emod_eq_of_lt (Int.natCast_nonneg _) (Int.ofNat_lt.2 h2)
    have d1 : digit [(C : Int), (R : Int)] k 1 = ((k % R : Nat) : Int) := by
      show (k : Int) % (R : Int) = _
      simp
    show [digit [(C : Int), (R : Int)] k 0, digit [(C : Int), (R : Int)] k 1] = _
    rw [d0, d1]
  rw [ed]
  show (((0 : Int) * (R : Int) + ((k % R : Nat) : Int)) * (C : Int) + ((k / R : Nat) : Int)).toNat = _
  rw [Int.zero_mul, Int.zero_add]
  have : (((k % R : Nat) : Int) * (C : Int) + ((k / R : Nat) : Int)) = ((k % R * C + k / R : Nat) : Int) := by push_cast; rfl
  rw [this, Int.toNat_natCast]

theorem dot_turn {x y : List Int} {R C S p q : Nat} (hp : p < R) (hq : q < S) : dotN (tr2 y C S) (tr2 x R C) C R q p = dotN x y C S p q := by
  unfold dotN
  congr 1
  apply List.map_congr_left
  intro i hi
  have hi' := List.mem_range.1 hi
  rw [tr2_get hq hi', tr2_get hi' hp, Int.mul_comm]

theorem product {R C S : Nat} {x y : List Int} (h1 : arrOk false [(R : Int), (C : Int)] x = true) (h2 : arrOk false [(C : Int), (S : Int)] y = true) (bx : Small3 x) (hy : Small3 y) :
    (inner 1 3 false false [(R : Int), (C : Int)] x [(C : Int), (S : Int)] y = noAns 7 ∧ inner 1 3 false false [(S : Int), (C : Int)] (tr2 y C S) [(C : Int), (R : Int)] (tr2 x R C) = noAns 7) ∨
    (∃ z zt, inner 1 3 false false [(R : Int), (C : Int)] x [(C : Int), (S : Int)] y = ⟨false, [(R : Int), (S : Int)], z, 0⟩ ∧ inner 1 3 false false [(S : Int), (C : Int)] (tr2 y C S) [(C : Int), (R : Int)] (tr2 x R C) = ⟨false, [(S : Int), (R : Int)], zt, 0⟩ ∧ arrOk false [(R : Int), (S : Int)] z = true ∧ transpose false false [2] [2, 1] [(R : Int), (S : Int)] z = ⟨false, [(S : Int), (R : Int)], zt, 0⟩) := by
  have hC := (two_len h1).2.2
  have e1 := inner2 h1 h2 bx hy
  have e2 := inner2 (ok_turn h2) (ok_turn h1) (tr2_small hy C S) (tr2_small bx R C)
  rw [shapeB_two S R] at e2
  cases hs : shapeB [(R : Int), (S : Int)] with
  | false => rw [hs] at e1 e2; exact .inl ⟨by simpa using e1, by simpa using e2⟩
  | true =>
    rw [hs, if_pos rfl] at e1 e2
    have hok : arrOk false [(R : Int), (S : Int)] (vals (fun k => (dotN x y C S (k / S) (k % S), 0)) (R * S)) = true := by
      have hc := prodAll_count _ hs
      unfold arrOk
      simp only [Bool.and_eq_true, decide_eq_true_eq, List.all_eq_true]
      refine ⟨by simp, ?_, ?_⟩
      · rw [← hc, vals_len]
        simp [prodAll]
      · intro v hv
        simp only [vals, List.mem_map, List.mem_range] at hv
        obtain ⟨k, _, rfl⟩ := hv
        have hb := sumL_bd ((List.range C).map fun i => x.getD (k / S * C + i) 0 * y.getD (i * S + k % S) 0) (by intro v hv; obtain ⟨i, _, rfl⟩ := List.mem_map.1 hv; exact mul_bd (bx _) (hy _))
        simp only [List.length_map, List.length_range] at hb
        show dataOk false (dotN x y C S (k / S) (k % S)) = true
        unfold dataOk dotN
        simp only [Bool.not_false, Bool.true_or, Bool.true_and, decide_eq_true_eq]
        omega
    refine .inr ⟨_, _, e1, e2, hok, ?_⟩
    rw [turn2 hok]
    congr 1
    unfold tr2 vals
    rw [Nat.mul_comm S R]
    apply List.map_congr_left
    intro k hk
    have hk' := List.mem_range.1 hk
    have hR : 0 < R := by rcases Nat.eq_zero_or_pos R with h0 | h0; · subst h0; simp at hk'
                          · exact h0
    have q1 : k % R < R := Nat.mod_lt _ hR
    have q2 : k / R < S := by rw [Nat.div_lt_iff_lt_mul hR, Nat.mul_comm]; exact hk'
    have q3 : k % R * S + k / R < R * S := by
      have : (k % R + 1) * S ≤ R * S := Nat.mul_le_mul_right S q1
      rw [Nat.add_mul] at this
      omega
    have e3 : (k % R * S + k / R) / S = k % R := by rw [Nat.mul_comm, Nat.mul_add_div (Nat.lt_of_le_of_lt (Nat.zero_le _) q2), Nat.div_eq_of_lt q2, Nat.add_zero]
    have e4 : (k % R * S + k / R) % S = k / R := by rw [Nat.mul_comm, Nat.mul_add_mod, Nat.mod_eq_of_lt q2]
    have e5 := dot_turn (x := x) (y := y) (C := C) q1 q2
    show ((List.range (R * S)).map fun i => dotN x y C S (i / S) (i % S)).getD (k % R * S + k / R) 0 = dotN (tr2 y C S) (tr2 x R C) C R (k / R) (k % R)
    rw [e5]
    simp [q3, e3, e4]

end Go.Proofs.YtgjpchnkodnieaaGreatDoor
namespace Go.Proofs.YtgjpchnkodnieaaGreatDoor
open Go.RowKit

/-- The slice (a, n, _) reads as the numbers zs. -/
structure Row (w : World) (a : Option Addr) (n : Nat) (zs : List Int) : Prop where
  len : zs.length = n
  small : n ≤ 17592186044416
  at_ : n = 0 ∨ ∃ b off, a = some ⟨b, off, none⟩ ∧ b < w.heap.size ∧ ∀ i, i < n → w.cell? ⟨b, off + i, none⟩ = some (.int .i64 (zs.getD i 0))

theorem Row.below {w w' : World} {a : Option Addr} {n : Nat} {zs : List Int} {B : Nat} (h : Row w a n zs) (hB : w.heap.size ≤ B) (hb : Below B w w') : Row w' a n zs := by
  refine ⟨h.len, h.small, ?_⟩
  rcases h.at_ with h0 | ⟨b, off, rfl, hlt, hc⟩
  · exact .inl h0
  · exact .inr ⟨b, off, rfl, Nat.lt_of_lt_of_le hlt hb.size, fun i hi => (hb.cell (p := ⟨b, off + i, none⟩) (Nat.lt_of_lt_of_le hlt hB)).trans (hc i hi)⟩

/-- Block g holds just the numbers zs. -/
def Blk (w : World) (g : Nat) (zs : List Int) : Prop := w.heap[g]? = some (.cells (zs.map (Value.int .i64)).toArray 3 (0, 0))

theorem Blk.lt {w : World} {g : Nat} {zs : List Int} (h : Blk w g zs) : g < w.heap.size := lt_of_block h

theorem Blk.cell {w : World} {g : Nat} {zs : List Int} (h : Blk w g zs) {i : Nat} (hi : i < zs.length) : w.cell? ⟨g, i, none⟩ = some (.int .i64 (zs.getD i 0)) := by
  unfold Blk at h
  simp [World.cell?, h, hi]

theorem Blk.free {w : World} {g : Nat} {zs : List Int} (h : Blk w g zs) (i : Nat) : w.frozen? ⟨g, i, none⟩ = false := frozen_of_row w g i _ _ h

theorem Blk.row {w : World} {g n : Nat} {zs : List Int} (h : Blk w g zs) (hn : zs.length = n) (hs : n ≤ 17592186044416) : Row w (some ⟨g, 0, none⟩) n zs :=
  ⟨hn, hs, .inr ⟨g, 0, rfl, h.lt, fun i hi => by simpa using h.cell (i := i) (by omega)⟩⟩

theorem Blk.below {w w' : World} {g : Nat} {zs : List Int} {B : Nat} (h : Blk w g zs) (hB : w.heap.size ≤ B) (hb : Below B w w') : Blk w' g zs := (hb.block g (Nat.lt_of_lt_of_le h.lt hB)).trans h

theorem Blk.set {w : World} {g : Nat} {zs : List Int} (h : Blk w g zs) (i : Nat) (x : Int) : Blk (w.setCell ⟨g, i, none⟩ (.int .i64 x)) g (zs.set i x) := by
  unfold Blk at h ⊢
  rw [heap_setCell_same w g i _ _ _ h]
  simp [List.map_set]

theorem Blk.of_owns {w : World} {base g n : Nat} {zs : List Int} (h : w.ownsRow base 3 1 (.slice (some ⟨g, 0, none⟩) n n) n (zs.map (Value.int .i64))) : Blk w g zs := by
  rcases h.2 with ⟨h', _⟩ | ⟨g', cap', cur, h', _, hg, _, _, hs, ht⟩
  · simp at h'
  · simp only [Value.slice.injEq, Option.some.injEq, Addr.mk.injEq, and_true, true_and] at h'
    obtain ⟨rfl, rfl⟩ := h'
    unfold Blk
    rw [hg, ← ht, List.take_of_length_le (by simp; omega)]

theorem Blk.other {w : World} {g : Nat} {zs : List Int} (h : Blk w g zs) {p : Addr} (hp : g ≠ p.block) (v : Value) : Blk (w.setCell p v) g zs := (heap_setCell_other w p g v hp).trans h
theorem Blk.drew {w : World} {g : Nat} {zs : List Int} (h : Blk w g zs) : Blk w.drew g zs := h
theorem Blk.alloc {w : World} {g : Nat} {zs : List Int} (h : Blk w g zs) (o : Obj) : Blk (w.alloc o) g zs := (Below.heap_alloc w o g h.lt).trans h

theorem bcell {W w1 : World} (hb : Below W.heap.size W w1) : (∀ b o, b < W.heap.size → w1.cell? ⟨b, o, none⟩ = W.cell? ⟨b, o, none⟩) ∧ (∀ b o, b < W.heap.size → w1.frozen? ⟨b, o, none⟩ = W.frozen? ⟨b, o, none⟩) :=
  ⟨fun b o h => hb.cell (p := ⟨b, o, none⟩) h, fun b o h => hb.frozen (p := ⟨b, o, none⟩) h⟩

theorem hide {p : Prop} (h : p) : Hid p := h
theorem unhide {p : Prop} (h : Hid p) : p := h
theorem ret_bool {a b : Bool} (h : a = b) : Ending.returned (.bool a) = .returned (.bool b) := by rw [h]
theorem ret_int {k : IntKind} {a b : Int} (h : a = b) : Ending.returned (.int k a) = .returned (.int k b) := by rw [h]
theorem ret_ib {a a' : Int} {b b' : Bool} (ha : a = a') (hb : b = b') : Ending.returned (.tuple #[.int .i64 a, .bool b]) = .returned (.tuple #[.int .i64 a', .bool b']) := by rw [ha, hb]
theorem ret_two {a b a' b' : Int} (ha : a = a') (hb : b = b') : Ending.returned (.tuple #[.int .i64 a, .int .i64 b]) = .returned (.tuple #[.int .i64 a', .int .i64 b']) := by rw [ha, hb]

end Go.Proofs.YtgjpchnkodnieaaGreatDoor
namespace Go.Proofs.YtgjpchnkodnieaaGreatDoor
open Go.RowKit

theorem info_int : (Tryz.prog.info? 3).map (fun i => (i.zero, i.size, i.bytes)) = some (some (.int .i64 0), 1, 8) := by kernel_rfl

theorem take_set (zs : List Int) (m k : Nat) (h : k < zs.length) : (zs.take k ++ List.replicate (m + 1) (0 : Int)).set k (zs.getD k 0) = zs.take (k + 1) ++ List.replicate m 0 := by
  have hk : (zs.take k).length = k := by simp; omega
  have hx : zs.getD k 0 = zs[k] := by simp [h]
  rw [List.replicate_succ, List.set_append_right _ _ (by omega), hk, Nat.sub_self, List.set_cons_zero, hx, List.take_succ_eq_append_getElem h, List.append_assoc]
  rfl

end Go.Proofs.YtgjpchnkodnieaaGreatDoor
namespace Go.Proofs.YtgjpchnkodnieaaGreatDoor
open Go.RowKit

/-- The slice (a, n, _) reads as the numbers zs, lies in a block from B on, and may be written. -/
structure Own (w : World) (B : Nat) (a : Option Addr) (n : Nat) (zs : List Int) : Prop where
  len : zs.length = n
  small : n ≤ 17592186044416
  at_ : n = 0 ∨ ∃ g off, a = some ⟨g, off, none⟩ ∧ B ≤ g ∧ g < w.heap.size ∧ (∀ i, i < n → w.cell? ⟨g, off + i, none⟩ = some (.int .i64 (zs.getD i 0))) ∧ (∀ i, i < n → w.frozen? ⟨g, off + i, none⟩ = false)

theorem Own.row {w : World} {B : Nat} {a : Option Addr} {n : Nat} {zs : List Int} (h : Own w B a n zs) : Row w a n zs := by
  refine ⟨h.len, h.small, ?_⟩
  rcases h.at_ with h0 | ⟨g, off, rfl, _, hlt, hc, _⟩
  · exact .inl h0
  · exact .inr ⟨g, off, rfl, hlt, hc⟩

theorem Own.mono {w : World} {B B' : Nat} {a : Option Addr} {n : Nat} {zs : List Int} (h : Own w B a n zs) (hB : B' ≤ B) : Own w B' a n zs := by
  refine ⟨h.len, h.small, ?_⟩
  rcases h.at_ with h0 | ⟨g, off, rfl, hg, r⟩
  · exact .inl h0
  · exact .inr ⟨g, off, rfl, by omega, r⟩

theorem Own.below {w w' : World} {a : Option Addr} {n : Nat} {zs : List Int} {B C : Nat} (h : Own w C a n zs) (hB : w.heap.size ≤ B) (hb : Below B w w') : Own w' C a n zs := by
  refine ⟨h.len, h.small, ?_⟩
  rcases h.at_ with h0 | ⟨g, off, rfl, hg, hlt, hc, hf⟩
  · exact .inl h0
  · exact .inr ⟨g, off, rfl, hg, Nat.lt_of_lt_of_le hlt hb.size, fun i hi => (hb.cell (p := ⟨g, off + i, none⟩) (Nat.lt_of_lt_of_le hlt hB)).trans (hc i hi), fun i hi => (hb.frozen (p := ⟨g, off + i, none⟩) (Nat.lt_of_lt_of_le hlt hB)).trans (hf i hi)⟩

theorem Blk.own {w : World} {B g n : Nat} {zs : List Int} (h : Blk w g zs) (hn : zs.length = n) (hs : n ≤ 17592186044416) (hg : B ≤ g) : Own w B (some ⟨g, 0, none⟩) n zs :=
  ⟨hn, hs, .inr ⟨g, 0, rfl, hg, h.lt, fun i hi => by simpa using h.cell (i := i) (by omega), fun i hi => h.free _⟩⟩

/-- Block k holds cells of the slice (a, n, _). -/
def At (a : Option Addr) (n k : Nat) : Prop := n ≠ 0 ∧ ∃ p, a = some p ∧ p.block = k

theorem at_self {g off n : Nat} (h : n ≠ 0) : At (some ⟨g, off, none⟩) n g := ⟨h, _, rfl, rfl⟩
theorem at_eq {g off n k : Nat} (h : At (some ⟨g, off, none⟩) n k) : g = k := by obtain ⟨_, p, hp, hk⟩ := h; cases hp; exact hk

/-- w' is w but for the blocks in S, and for new ones. -/
structure But (S : Nat → Prop) (w w' : World) : Prop where
  os : w'.os = w.os
  tape : w'.tape = w.tape
  output : w'.output = w.output
  size : w.heap.size ≤ w'.heap.size
  block : ∀ k, k < w.heap.size → ¬ S k → w'.heap[k]? = w.heap[k]?

theorem But.refl (S : Nat → Prop) (w : World) : But S w w := ⟨rfl, rfl, rfl, Nat.le_refl _, fun _ _ _ => rfl⟩

theorem But.trans {S T : Nat → Prop} {w w1 w2 : World} (h : But S w w1) (k : But T w1 w2) : But (fun x => S x ∨ T x) w w2 :=
  ⟨k.os.trans h.os, k.tape.trans h.tape, k.output.trans h.output, Nat.le_trans h.size k.size, fun i hi hn => (k.block i (Nat.lt_of_lt_of_le hi h.size) (fun e => hn (.inr e))).trans (h.block i hi (fun e => hn (.inl e)))⟩

theorem But.mono {S T : Nat → Prop} {w w1 : World} (h : But S w w1) (hs : ∀ k, S k → T k) : But T w w1 := ⟨h.os, h.tape, h.output, h.size, fun k hk hn => h.block k hk (fun e => hn (hs k e))⟩

theorem But.of_below {S : Nat → Prop} {w w' : World} (h : Below w.heap.size w w') : But S w w' := ⟨h.os, h.tape, h.output, h.size, fun k hk _ => h.block k hk⟩

theorem But.setCell {S : Nat → Prop} {w w' : World} (h : But S w w') {p : Addr} (hp : S p.block) (v : Value) : But S w (w'.setCell p v) :=
  ⟨h.os, h.tape, h.output, by simpa using h.size, fun k hk hn => by
    rw [heap_setCell_other w' p k v (fun e => hn (by rw [e]; exact hp))]
    exact h.block k hk hn⟩

theorem But.alloc {S : Nat → Prop} {w w' : World} (h : But S w w') (o : Obj) : But S w (w'.alloc o) :=
  ⟨h.os, h.tape, h.output, by have := h.size; simp; omega, fun k hk hn => (Below.heap_alloc w' o k (Nat.lt_of_lt_of_le hk h.size)).trans (h.block k hk hn)⟩

theorem But.below {S : Nat → Prop} {B : Nat} {w w' : World} (h : But S w w') (hB : B ≤ w.heap.size) (hs : ∀ k, S k → B ≤ k) : Below B w w' :=
  ⟨h.os, h.tape, h.output, h.size, fun k hk => h.block k (Nat.lt_of_lt_of_le hk hB) (fun e => by have := hs k e; omega)⟩

/-- Two slices with cells lie in different blocks. -/
def Apart (a : Option Addr) (n : Nat) (b : Option Addr) (m : Nat) : Prop := ∀ k, At a n k → ¬ At b m k

theorem Apart.symm {a b : Option Addr} {n m : Nat} (h : Apart a n b m) : Apart b m a n := fun k h1 h2 => h k h2 h1

theorem But.own {S : Nat → Prop} {b : Option Addr} {m B : Nat} {w w' : World} {ys : List Int} (h : But S w w') (ho : Own w B b m ys) (hap : ∀ k, S k → ¬ At b m k) : Own w' B b m ys := by
  refine ⟨ho.len, ho.small, ?_⟩
  rcases ho.at_ with h0 | ⟨g, off, rfl, hg, hlt, hc, hf⟩
  · exact .inl h0
  · by_cases hm : m = 0
    · exact .inl hm
    have hb := h.block g hlt (fun e => hap g e ⟨hm, _, rfl, rfl⟩)
    exact .inr ⟨g, off, rfl, hg, Nat.lt_of_lt_of_le hlt h.size, fun i hi => (World.cell?_of_block (w := w) (a := ⟨g, off + i, none⟩) hb).trans (hc i hi), fun i hi => (World.frozen?_of_block (w := w) (a := ⟨g, off + i, none⟩) hb).trans (hf i hi)⟩

theorem But.row {S : Nat → Prop} {b : Option Addr} {m : Nat} {w w' : World} {ys : List Int} (h : But S w w') (ho : Row w b m ys) (hap : ∀ k, S k → ¬ At b m k) : Row w' b m ys := by
  refine ⟨ho.len, ho.small, ?_⟩
  rcases ho.at_ with h0 | ⟨g, off, rfl, hlt, hc⟩
  · exact .inl h0
  · by_cases hm : m = 0
    · exact .inl hm
    have hb := h.block g hlt (fun e => hap g e ⟨hm, _, rfl, rfl⟩)
    exact .inr ⟨g, off, rfl, Nat.lt_of_lt_of_le hlt h.size, fun i hi => (World.cell?_of_block (w := w) (a := ⟨g, off + i, none⟩) hb).trans (hc i hi)⟩

theorem Own.low {w : World} {B : Nat} {a : Option Addr} {n : Nat} {zs : List Int} (h : Own w B a n zs) {k : Nat} (hk : At a n k) : B ≤ k := by
  rcases h.at_ with h0 | ⟨g, off, rfl, hg, _⟩
  · exact absurd h0 hk.1
  · have := at_eq hk; omega

theorem Row.hi {w : World} {a : Option Addr} {n : Nat} {zs : List Int} (h : Row w a n zs) {k : Nat} (hk : At a n k) : k < w.heap.size := by
  rcases h.at_ with h0 | ⟨g, off, rfl, hg, _⟩
  · exact absurd h0 hk.1
  · have := at_eq hk; omega

/-- n marks from k on. -/
def marks (k : Int) (n : Nat) : List Int := (List.range n).map fun (i : Nat) => k + (i : Int)

theorem marks_len (k : Int) (n : Nat) : (marks k n).length = n := by simp [marks]
theorem marks_get (k : Int) (n i : Nat) (h : i < n) : (marks k n).getD i 0 = k + i := by simp [marks, h]

end Go.Proofs.YtgjpchnkodnieaaGreatDoor
namespace Go.Proofs.YtgjpchnkodnieaaGreatDoor
open Go.RowKit

set_option maxHeartbeats 400000 in
theorem markIntS_any (a : Option Addr) (n cap B : Nat) (zs : List Int) (k : Int) (w : World) (h : Own w B a n zs) (hk0 : 0 ≤ k) (hk : k ≤ 4611686018427387904) :
    Calls Tryz.prog 77 #[.slice a n cap, .int .i64 k] w fun e w' => e = .returned (.int .i64 (k + n)) ∧ Own w' B a n (marks k n) ∧ But (At a n) w w' := by
  obtain ⟨hlen, hsm, hat⟩ := h
  go_enter Tryz.func77, Tryz.ntmps77
  go_wp2
  go_loopw [1, 5] (fun c i wr => ∃ j : Nat, j ≤ n ∧ i = .int .i64 j ∧ c = .int .i64 (k + j) ∧ But (At a n) w wr ∧
    (n = 0 ∨ ∃ g off, a = some ⟨g, off, none⟩ ∧ B ≤ g ∧ g < wr.heap.size ∧ (∀ i, i < j → wr.cell? ⟨g, off + i, none⟩ = some (.int .i64 (k + i))) ∧ (∀ i, i < n → (wr.cell? ⟨g, off + i, none⟩).isSome = true) ∧ (∀ i, i < n → wr.frozen? ⟨g, off + i, none⟩ = false))) (fun _ i _ => n - (intOf i).toNat)
  case atStart =>
    refine ⟨0, Nat.zero_le _, rfl, by simp, But.refl _ _, ?_⟩
    rcases hat with h0 | ⟨g, off, rfl, hg, hlt, hc, hf⟩
    · exact .inl h0
    · exact .inr ⟨g, off, rfl, hg, hlt, fun i hi => absurd hi (Nat.not_lt_zero _), fun i hi => by rw [hc i hi]; rfl, hf⟩
  case round =>
    obtain ⟨j, hj, rfl, rfl, hbut, hst⟩ := hrel
    by_cases hlt : j < n
    · rcases hst with h0 | ⟨g, off, rfl, hg, hgl, hc, hs, hf⟩
      · omega
      · clear hat
        have hs1 := hs j hlt
        have hf1 := hf j hlt
        obtain ⟨u, hu⟩ := Option.isSome_iff_exists.mp hs1
        have HB := hide hbut
        have HS := hide hs
        have HF := hide hf
        have HC := hide hc
        clear hbut hs hf hc
        go_wp2
        go_roundw
        case rel =>
          refine ⟨j + 1, by omega, by go_num, by go_num, (unhide HB).setCell (at_self (by omega)) _, .inr ⟨g, off, rfl, hg, by simpa using hgl, fun i hi => ?_, fun i hi => ?_, fun i hi => ?_⟩⟩
          · by_cases hij : i = j
            · subst hij
              exact World.cell?_setCell_same _ _ _ hu
            · rw [World.cell?_setCell_other _ _ _ _ (by simp <;> omega)]
              exact unhide HC i (by omega)
          · by_cases hij : i = j
            · subst hij
              rw [World.cell?_setCell_same _ _ _ hu]; rfl
            · rw [World.cell?_setCell_other _ _ _ _ (by simp <;> omega)]
              exact unhide HS i hi
          · simpa using unhide HF i hi
        case measure => simp [intOf]; omega
    · have hjn : j = n := by omega
      subst hjn
      have HB := hide hbut
      have HT := hide hst
      clear hbut hst hat
      go_wp2
      go_ret
      refine ⟨rfl, ⟨marks_len _ _, hsm, ?_⟩, unhide HB⟩
      rcases unhide HT with h0 | ⟨g, off, rfl, hg, hgl, hc, hs, hf⟩
      · exact .inl h0
      · exact .inr ⟨g, off, rfl, hg, hgl, fun i hi => by rw [marks_get _ _ _ hi]; exact hc i hi, hf⟩

end Go.Proofs.YtgjpchnkodnieaaGreatDoor
namespace Go.Proofs.YtgjpchnkodnieaaGreatDoor
open Go.RowKit

set_option maxHeartbeats 400000 in
theorem heldIntS_marks (a : Option Addr) (n cap : Nat) (k : Int) (w : World) (h : Row w a n (marks k n)) (hk0 : 0 ≤ k) (hk : k ≤ 4611686018427387904) :
    Calls Tryz.prog 78 #[.slice a n cap, .int .i64 k] w fun e w' => e = .returned (.int .i64 (k + n)) ∧ w' = w := by
  obtain ⟨hlen, hsm, hat⟩ := h
  clear hlen
  go_enter Tryz.func78, Tryz.ntmps78
  go_wp2
  go_loop [1, 5] (fun c i => ∃ j : Nat, j ≤ n ∧ i = .int .i64 j ∧ c = .int .i64 (k + j)) (fun _ i => n - (intOf i).toNat)
  case atStart => exact ⟨0, Nat.zero_le _, rfl, by simp⟩
  case round =>
    obtain ⟨j, hj, rfl, rfl⟩ := hrel
    by_cases hlt : j < n
    · have ha : ∃ b off, a = some ⟨b, off, none⟩ ∧ w.cell? ⟨b, off + j, none⟩ = some (.int .i64 (k + j)) := by
        rcases hat with h0 | ⟨b, off, rfl, hlt', hc⟩
        · omega
        · exact ⟨b, off, rfl, by rw [← marks_get k n j hlt]; exact hc j hlt⟩
      obtain ⟨b, off, rfl, hc⟩ := ha
      clear hat
      go_wp2
      go_round
      case rel => exact ⟨j + 1, by omega, by go_num, by go_num⟩
      case measure => simp [intOf]; omega
    · have hjn : j = n := by omega
      subst hjn
      clear hat
      go_wp2
      go_ret
      exact ⟨rfl, rfl⟩

end Go.Proofs.YtgjpchnkodnieaaGreatDoor
namespace Go.Proofs.YtgjpchnkodnieaaGreatDoor
open Go.RowKit

theorem szIntS_big (a : Option Addr) (n cap : Nat) (left : Int) (w : World) (hn : n ≤ 9223372036854775807) (hl : 0 ≤ left) (hl2 : left ≤ 1048576) (h : left < n) :
    Calls Tryz.prog 67 #[.slice a n cap, .int .i64 left] w fun e w' => e = .returned (.int .i64 (-1)) ∧ w' = w := by
  go_enter Tryz.func67, Tryz.ntmps67
  go_wp2
  go_ret
  exact ⟨rfl, rfl⟩

theorem szIntS_ok (a : Option Addr) (n cap : Nat) (left : Int) (w : World) (hl2 : left ≤ 1048576) (h : n ≤ left) :
    Calls Tryz.prog 67 #[.slice a n cap, .int .i64 left] w fun e w' => e = .returned (.int .i64 (left - n)) ∧ w' = w := by
  go_enter Tryz.func67, Tryz.ntmps67
  go_wp2
  go_ret
  exact ⟨rfl, rfl⟩

set_option maxHeartbeats 400000 in
theorem toIntS_any (a : Option Addr) (n cap : Nat) (zs : List Int) (w : World) (h : Row w a n zs) :
    Calls Tryz.prog 76 #[.slice a n cap] w fun e w' => ∃ g, e = .returned (.slice (some ⟨g, 0, none⟩) n n) ∧ w.heap.size ≤ g ∧ Blk w' g zs ∧ Below w.heap.size w w' := by
  obtain ⟨hlen, hsm, hat⟩ := h
  obtain ⟨i0, hi, hz0, hz1, hz2⟩ := info_parts info_int
  go_enter Tryz.func76, Tryz.ntmps76
  go_wp2_with (at_make; refine wpList_make_full _ rfl _ _ 23 rfl w.heap.size 3 i0 (.int .i64 0) 1 Tryz.underlying23 hi hz0 hz1 _ _ _ _ n rfl rfl rfl rfl (by rw [hz2]; omega) (by unfold maxLen; omega) (Nat.le_refl _) ?_; intro w1 hown hgrow)
  have hblk : Blk w1 w.heap.size (zs.take 0 ++ List.replicate (n - 0) 0) := Blk.of_owns (n := n) (base := w.heap.size) (by simpa [toList_madeCells_one, Value.cells] using hown)
  have hbel : Below w.heap.size w w1 := (Below.refl _ _).grown hgrow (Nat.le_refl _) (by simp)
  clear hown hgrow hi hz0 hz1 hz2
  go_wp2
  go_loopw [4] (fun i wr => ∃ k : Nat, k ≤ n ∧ i = .int .i64 k ∧ Blk wr w.heap.size (zs.take k ++ List.replicate (n - k) 0) ∧ Below w.heap.size w wr) (fun i _ => n - (intOf i).toNat)
  case atStart => exact ⟨0, Nat.zero_le _, rfl, hblk, hbel⟩
  case round =>
    obtain ⟨k, hk, rfl, hb, hbl⟩ := hrel
    clear hblk hbel
    by_cases hlt : k < n
    · have hat' : ∃ b off, a = some ⟨b, off, none⟩ ∧ wr.cell? ⟨b, off + k, none⟩ = some (.int .i64 (zs.getD k 0)) := by
        rcases hat with h0 | ⟨b, off, rfl, hlt', hc⟩
        · omega
        · exact ⟨b, off, rfl, (hbl.cell (p := ⟨b, off + k, none⟩) hlt').trans (hc k hlt)⟩
      obtain ⟨b, off, rfl, hc⟩ := hat'
      clear hat
      obtain ⟨x, hx⟩ : ∃ x, x = zs.getD k 0 := ⟨_, rfl⟩
      rw [← hx] at hc
      have hc2 := hb.cell (i := k) (by simp; omega)
      have hf2 := hb.free k
      have hs := hb.set k x
      have HR : Hid (Blk (wr.setCell ⟨w.heap.size, k, none⟩ (.int .i64 x)) w.heap.size (zs.take (k + 1) ++ List.replicate (n - (k + 1)) 0)) := by
        have e : n - k = n - (k + 1) + 1 := by omega
        rw [e, hx, take_set zs _ k (by omega)] at hs
        rw [hx]
        exact hs
      clear hs hb hx
      go_wp2
      go_roundw
      case rel => exact ⟨k + 1, by omega, by go_num, HR.out, hbl.setCell (Nat.le_refl _) _⟩
      case measure => simp [intOf]; omega
    · have hkn : k = n := by omega
      subst hkn
      go_wp2
      go_ret
      exact ⟨_, rfl, Nat.le_refl _, by simpa [List.take_of_length_le (Nat.le_of_eq hlen)] using hb, hbl⟩

theorem take_step {xs ys : List Int} {n k : Nat} (hx : xs.length = n) (hy : ys.length = n) (hk : k < n) (h : xs.take k = ys.take k) (he : xs.getD k 0 = ys.getD k 0) : xs.take (k + 1) = ys.take (k + 1) := by
  have e1 : xs.getD k 0 = xs[k] := by simp [hx, hk]
  have e2 : ys.getD k 0 = ys[k] := by simp [hy, hk]
  rw [List.take_succ_eq_append_getElem (by omega), List.take_succ_eq_append_getElem (by omega), h, ← e1, ← e2, he]

set_option maxHeartbeats 400000 in
theorem eqIntS_any (a b : Option Addr) (n m ca cb : Nat) (xs ys : List Int) (w : World) (hx : Row w a n xs) (hy : Row w b m ys) :
    Calls Tryz.prog 28 #[.slice a n ca, .slice b m cb] w fun e w' => e = .returned (.bool (decide (xs = ys))) ∧ ∃ q, w' = w.drewN q := by
  obtain ⟨hxl, hxs, hxa⟩ := hx
  obtain ⟨hyl, hys, hya⟩ := hy
  by_cases hne : n = m
  · subst hne
    have hn : ((n : Int) != (n : Int)) = false := by simp
    go_enter Tryz.func28, Tryz.ntmps28
    go_wp2
    go_loopw [5] (fun i wr => ∃ k : Nat, k ≤ n ∧ i = .int .i64 k ∧ xs.take k = ys.take k ∧ ∃ q, wr = w.drewN q) (fun i _ => n - (intOf i).toNat)
    case atStart => exact ⟨0, Nat.zero_le _, rfl, rfl, 0, rfl⟩
    case round =>
      obtain ⟨k, hk, rfl, htk, q, rfl⟩ := hrel
      by_cases hlt : k < n
      · have ha : ∃ b off, a = some ⟨b, off, none⟩ ∧ w.cell? ⟨b, off + k, none⟩ = some (.int .i64 (xs.getD k 0)) := by
          rcases hxa with h0 | ⟨b, off, rfl, hlt', hc⟩
          · omega
          · exact ⟨b, off, rfl, hc k hlt⟩
        have hb : ∃ b' off, b = some ⟨b', off, none⟩ ∧ w.cell? ⟨b', off + k, none⟩ = some (.int .i64 (ys.getD k 0)) := by
          rcases hya with h0 | ⟨b, off, rfl, hlt', hc⟩
          · omega
          · exact ⟨b, off, rfl, hc k hlt⟩
        obtain ⟨b1, o1, rfl, hc1⟩ := ha
        obtain ⟨b2, o2, rfl, hc2⟩ := hb
        clear hxa hya
        obtain ⟨x, hx⟩ : ∃ x, x = xs.getD k 0 := ⟨_, rfl⟩
        obtain ⟨y, hy⟩ : ∃ y, y = ys.getD k 0 := ⟨_, rfl⟩
        rw [← hx] at hc1
        rw [← hy] at hc2
        have HX : Hid (x = xs.getD k 0) := hx
        have HY : Hid (y = ys.getD k 0) := hy
        have HT : Hid (xs.take k = ys.take k) := htk
        have HL : Hid (xs.length = n ∧ ys.length = n) := ⟨hxl, hyl⟩
        clear hx hy htk hxl hyl
        by_cases hxy : x = y
        · have hb : (x != y) = false := by simp [hxy]
          have HXY : Hid (x = y) := hxy
          clear hxy
          go_wp2
          go_quiet (fail)
          go_wp2
          go_roundw
          case rel => exact ⟨k + 1, by omega, by go_num, take_step HL.out.1 HL.out.2 hlt HT.out (HX.out.symm.trans (HXY.out.trans HY.out)), _, by first | rfl | exact World.drewN_drewN _ _ _⟩
          case measure => simp [intOf]; omega
        · have hb : (x != y) = true := by simp [hxy]
          have HN : Hid (¬ xs = ys) := fun e => hxy (by rw [HX.out, HY.out, e])
          clear hxy
          go_wp2
          go_quiet (fail)
          go_wp2
          go_ret
          exact ⟨ret_bool (decide_eq_false HN.out).symm, _, World.drewN_drewN _ _ _⟩
      · have hkn : k = n := by omega
        have HE : Hid (xs = ys) := by
          show xs = ys
          rwa [List.take_of_length_le (by omega), List.take_of_length_le (by omega)] at htk
        clear htk
        subst hkn
        go_wp2
        go_ret
        exact ⟨ret_bool (decide_eq_true HE.out).symm, _, rfl⟩
  · have hn : ((n : Int) != (m : Int)) = true := by simp; omega
    have HN : Hid (¬ xs = ys) := fun e => hne (by rw [← hxl, ← hyl, e])
    clear hne
    go_enter Tryz.func28, Tryz.ntmps28
    go_wp2
    go_ret
    exact ⟨ret_bool (decide_eq_false HN.out).symm, 0, rfl⟩

end Go.Proofs.YtgjpchnkodnieaaGreatDoor
namespace Go.Proofs.YtgjpchnkodnieaaGreatDoor
open Go.RowKit

theorem Row.alloc {w : World} {a : Option Addr} {n : Nat} {zs : List Int} (h : Row w a n zs) (o : Obj) : Row (w.alloc o) a n zs := h.below (Nat.le_refl _) ((Below.refl _ _).alloc (Nat.le_refl _) _)
theorem Row.drewN {w : World} {a : Option Addr} {n : Nat} {zs : List Int} (h : Row w a n zs) (q : Nat) : Row (w.drewN q) a n zs := ⟨h.len, h.small, h.at_⟩
theorem Below.drewN {B : Nat} {a w : World} (h : Below B a w) (q : Nat) : Below B a (w.drewN q) := h.trans ⟨rfl, rfl, rfl, Nat.le_refl _, fun _ _ => rfl⟩

theorem Row.get {w : World} {a : Option Addr} {n : Nat} {zs : List Int} (h : Row w a n zs) {k : Nat} (hk : k < n) : ∃ b off, a = some ⟨b, off, none⟩ ∧ b < w.heap.size ∧ w.cell? ⟨b, off + k, none⟩ = some (.int .i64 (zs.getD k 0)) := by
  rcases h.at_ with h0 | ⟨b, off, rfl, hlt, hc⟩
  · omega
  · exact ⟨b, off, rfl, hlt, hc k hk⟩

end Go.Proofs.YtgjpchnkodnieaaGreatDoor

namespace Go.Proofs.YtgjpchnkodnieaaGreatDoor
open Go.RowKit

set_option maxHeartbeats 400000 in
theorem szArray_big (c : Bool) (a1 a2 : Option Addr) (n1 n2 c1 c2 : Nat) (left : Int) (w : World) (h1 : n1 ≤ 9223372036854775807) (h2 : n2 ≤ 9223372036854775807) (hl : 0 ≤ left) (hl2 : left ≤ 1048576) (hA : left < n1 + n2) :
    Calls Tryz.prog 19 #[.agg #[.bool c, .slice a1 n1 c1, .slice a2 n2 c2], .int .i64 left] w fun e w' => e = .returned (.int .i64 (-1)) ∧ Below w.heap.size w w' := by
  by_cases hB : left < n1
  · go_enter Tryz.func19, Tryz.ntmps19
    go_wp2_with fail
    refine (szIntS_big _ _ _ _ _ h1 hl hl2 hB).mono ?_
    rintro e w' ⟨rfl, rfl⟩
    go_wp2
    go_ret
    exact ⟨rfl, (Below.refl _ _).alloc (Nat.le_refl _) _⟩
  · go_enter Tryz.func19, Tryz.ntmps19
    go_wp2_with fail
    refine (szIntS_ok _ _ _ _ _ hl2 (by omega)).mono ?_
    rintro e w' ⟨rfl, rfl⟩
    go_wp2_with fail
    refine (szIntS_big _ _ _ _ _ h2 (by omega) (by omega) (by omega)).mono ?_
    rintro e w' ⟨rfl, rfl⟩
    go_wp2
    go_ret
    exact ⟨rfl, (Below.refl _ _).alloc (Nat.le_refl _) _⟩

set_option maxHeartbeats 400000 in
theorem szArray_ok (c : Bool) (a1 a2 : Option Addr) (n1 n2 c1 c2 : Nat) (left : Int) (w : World) (hl2 : left ≤ 1048576) (hA : n1 + n2 ≤ left) :
    Calls Tryz.prog 19 #[.agg #[.bool c, .slice a1 n1 c1, .slice a2 n2 c2], .int .i64 left] w fun e w' => e = .returned (.int .i64 (left - n1 - n2)) ∧ Below w.heap.size w w' := by
  go_enter Tryz.func19, Tryz.ntmps19
  go_wp2_with fail
  refine (szIntS_ok _ _ _ _ _ hl2 (by omega)).mono ?_
  rintro e w' ⟨rfl, rfl⟩
  go_wp2_with fail
  refine (szIntS_ok _ _ _ _ _ (by omega) (by omega)).mono ?_
  rintro e w' ⟨rfl, rfl⟩
  go_wp2
  go_ret
  exact ⟨rfl, (Below.refl _ _).alloc (Nat.le_refl _) _⟩

set_option maxHeartbeats 400000 in
theorem toArray_any (c : Bool) (a1 a2 : Option Addr) (n1 n2 c1 c2 : Nat) (sh dt : List Int) (w : World) (h1 : Row w a1 n1 sh) (h2 : Row w a2 n2 dt) :
    Calls Tryz.prog 21 #[.agg #[.bool c, .slice a1 n1 c1, .slice a2 n2 c2]] w fun e w' => ∃ g1 g2, e = .returned (.agg #[.bool c, .slice (some ⟨g1, 0, none⟩) n1 n1, .slice (some ⟨g2, 0, none⟩) n2 n2]) ∧ w.heap.size ≤ g1 ∧ g1 < g2 ∧ Blk w' g1 sh ∧ Blk w' g2 dt ∧ Below w.heap.size w w' := by
  go_enter Tryz.func21, Tryz.ntmps21
  go_wp2_with fail
  refine (toIntS_any _ _ _ sh _ (by exact h1.below (Nat.le_refl _) (by repeat (first | exact Below.refl _ _ | refine Below.alloc ?_ (by simp <;> omega) _)))).mono ?_
  rintro e w1 ⟨g1, rfl, hg1, hb1, hbe1⟩
  obtain ⟨hc, hf⟩ := bcell hbe1
  have hz := hbe1.size
  have hbW : Below w.heap.size w w1 := Below.trans (by repeat (first | exact Below.refl _ _ | refine Below.alloc ?_ (by simp <;> omega) _)) (hbe1.mono (by simp <;> omega))
  simp at hc hf hz hg1
  have hz0 : w.heap.size < w1.heap.size := by omega
  have hz1 : w.heap.size + 1 < w1.heap.size := by omega
  have hz3 : w.heap.size + 1 + 1 < w1.heap.size := by omega
  clear hbe1
  go_wp2_with fail
  refine (toIntS_any _ _ _ dt _ (by exact h2.below (Nat.le_refl _) (hbW.setCell (by simp <;> omega) _))).mono ?_
  rintro e w2 ⟨g2, rfl, hg2, hb2, hbe2⟩
  obtain ⟨hc2, hf2⟩ := bcell hbe2
  have hz2 := hbe2.size
  have hbW2 : Below w.heap.size w w2 := (hbW.setCell (p := ⟨w.heap.size + 1 + 1, 1, none⟩) (by simp <;> omega) _).trans (hbe2.mono (by simp <;> omega))
  have hb1' : Blk w2 g1 sh := (hb1.other (p := ⟨w.heap.size + 1 + 1, 1, none⟩) (by simp; omega) _).below (Nat.le_refl _) hbe2
  simp at hc2 hf2 hz2 hg2
  clear hbe2
  go_wp2
  refine bodyPost_ret (v := .agg #[.bool c, .slice (some ⟨g1, 0, none⟩) n1 n1, .slice (some ⟨g2, 0, none⟩) n2 n2]) (by simp [results, Tryz.results21, go_sem, hc2, hc, hz1]) rfl ⟨g1, g2, rfl, by omega, ?_, ?_, ?_, ?_⟩
  · have := hb1.lt; omega
  · exact (((hb1'.other (by simp; omega) _).other (by simp; omega) _).other (by simp; omega) _).other (by simp; omega) _
  · exact (((hb2.other (by simp; omega) _).other (by simp; omega) _).other (by simp; omega) _).other (by simp; omega) _
  · exact (((hbW2.setCell (by simp <;> omega) _).setCell (by simp) _).setCell (by simp) _).setCell (by simp) _

set_option maxHeartbeats 400000 in
theorem eqArray_any (c d : Bool) (a1 a2 b1 b2 : Option Addr) (n1 n2 m1 m2 c1 c2 d1 d2 : Nat) (sh dt sh' dt' : List Int) (w : World) (h1 : Row w a1 n1 sh) (h2 : Row w a2 n2 dt) (k1 : Row w b1 m1 sh') (k2 : Row w b2 m2 dt') :
    Calls Tryz.prog 13 #[.agg #[.bool c, .slice a1 n1 c1, .slice a2 n2 c2], .agg #[.bool d, .slice b1 m1 d1, .slice b2 m2 d2]] w fun e w' => e = .returned (.bool (decide (c = d ∧ sh = sh' ∧ dt = dt'))) ∧ Below w.heap.size w w' := by
  have hW : ∀ o1 o2, Below w.heap.size w ((w.alloc o1).alloc o2) := fun o1 o2 => ((Below.refl _ _).alloc (Nat.le_refl _) _).alloc (by simp) _
  by_cases hcd : c = d
  · subst hcd
    have hb : (c == c) = true := by simp
    by_cases hs : sh = sh'
    · have HS := hs
      have hd1 : decide (sh = sh') = true := by simp [hs]
      clear hs
      by_cases ht : dt = dt'
      · have hd2 : decide (dt = dt') = true := by simp [ht]
        have HE : Hid (decide (c = c ∧ sh = sh' ∧ dt = dt') = true) := decide_eq_true ⟨rfl, HS, ht⟩
        clear ht HS
        go_enter Tryz.func13, Tryz.ntmps13
        go_wp2_with fail
        refine (eqIntS_any _ _ _ _ _ _ sh sh' _ ((h1.alloc _).alloc _) ((k1.alloc _).alloc _)).mono ?_
        rintro e w1 ⟨rfl, q, rfl⟩
        rw [hd1]
        go_wp2_with fail
        refine (eqIntS_any _ _ _ _ _ _ dt dt' _ (((h2.alloc _).alloc _).drewN _) (((k2.alloc _).alloc _).drewN _)).mono ?_
        rintro e w1 ⟨rfl, q, rfl⟩
        rw [hd2]
        go_wp2
        go_ret
        exact ⟨ret_bool HE.out.symm, Below.drewN (hW _ _) _⟩
      · have hd2 : decide (dt = dt') = false := by simp [ht]
        have HE : Hid (decide (c = c ∧ sh = sh' ∧ dt = dt') = false) := decide_eq_false (fun h => ht h.2.2)
        clear ht HS
        go_enter Tryz.func13, Tryz.ntmps13
        go_wp2_with fail
        refine (eqIntS_any _ _ _ _ _ _ sh sh' _ ((h1.alloc _).alloc _) ((k1.alloc _).alloc _)).mono ?_
        rintro e w1 ⟨rfl, q, rfl⟩
        rw [hd1]
        go_wp2_with fail
        refine (eqIntS_any _ _ _ _ _ _ dt dt' _ (((h2.alloc _).alloc _).drewN _) (((k2.alloc _).alloc _).drewN _)).mono ?_
        rintro e w1 ⟨rfl, q, rfl⟩
        rw [hd2]
        go_wp2
        go_ret
        exact ⟨ret_bool HE.out.symm, Below.drewN (hW _ _) _⟩
    · have hd1 : decide (sh = sh') = false := by simp [hs]
      have HE : Hid (decide (c = c ∧ sh = sh' ∧ dt = dt') = false) := decide_eq_false (fun h => hs h.2.1)
      clear hs
      go_enter Tryz.func13, Tryz.ntmps13
      go_wp2_with fail
      refine (eqIntS_any _ _ _ _ _ _ sh sh' _ ((h1.alloc _).alloc _) ((k1.alloc _).alloc _)).mono ?_
      rintro e w1 ⟨rfl, q, rfl⟩
      rw [hd1]
      go_wp2
      go_ret
      exact ⟨ret_bool HE.out.symm, Below.drewN (hW _ _) _⟩
  · have hb : (c == d) = false := by simp [hcd]
    have HE : Hid (decide (c = d ∧ sh = sh' ∧ dt = dt') = false) := decide_eq_false (fun h => hcd h.1)
    clear hcd
    go_enter Tryz.func13, Tryz.ntmps13
    go_wp2
    go_ret
    exact ⟨ret_bool HE.out.symm, hW _ _⟩

end Go.Proofs.YtgjpchnkodnieaaGreatDoor
namespace Go.Proofs.YtgjpchnkodnieaaGreatDoor
open Go.RowKit

set_option maxHeartbeats 1000000 in
theorem markArray_any (c : Bool) (a1 a2 : Option Addr) (n1 n2 c1 c2 B : Nat) (sh dt : List Int) (k : Int) (w : World) (h1 : Own w B a1 n1 sh) (h2 : Own w B a2 n2 dt) (hap : Apart a1 n1 a2 n2) (hk0 : 0 ≤ k) (hk : k ≤ 2305843009213693952) :
    Calls Tryz.prog 22 #[.agg #[.bool c, .slice a1 n1 c1, .slice a2 n2 c2], .int .i64 k] w fun e w' => e = .returned (.int .i64 (k + n1 + n2)) ∧ Own w' B a1 n1 (marks k n1) ∧ Own w' B a2 n2 (marks (k + n1) n2) ∧ But (fun x => At a1 n1 x ∨ At a2 n2 x) w w' := by
  have hs1 := h1.small
  have hs2 := h2.small
  have hi1 : Hid (∀ x, At a1 n1 x → x < w.heap.size) := fun x hx => h1.row.hi hx
  have H1 := hide h1
  have H2 := hide h2
  have HA := hide hap
  clear h1 h2 hap
  go_enter Tryz.func22, Tryz.ntmps22
  go_wp2_with fail
  refine (markIntS_any _ _ _ B sh _ _ (by exact (unhide H1).below (Nat.le_refl _) ((Below.refl _ _).alloc (Nat.le_refl _) _)) (by omega) (by omega)).mono ?_
  rintro e w1 ⟨rfl, ho1, hb1⟩
  have hz1 := hb1.size
  have hcell : w1.heap[w.heap.size]? = _ := hb1.block w.heap.size (by simp) (fun hx => by have := unhide hi1 _ hx; omega)
  have hc0 := World.cell?_of_block (a := ⟨w.heap.size, 0, none⟩) hcell
  have hc1 := World.cell?_of_block (a := ⟨w.heap.size, 1, none⟩) hcell
  have hc2 := World.cell?_of_block (a := ⟨w.heap.size, 2, none⟩) hcell
  have hf := fun o => World.frozen?_of_block (a := ⟨w.heap.size, o, none⟩) hcell
  simp at hc0 hc1 hc2 hz1
  have ho2 : Own w1 B a2 n2 dt := hb1.own ((unhide H2).below (Nat.le_refl _) ((Below.refl _ _).alloc (Nat.le_refl _) _)) (unhide HA)
  have HO1 := hide ho1
  have HB1 := hide hb1
  clear hcell hf ho1 hb1
  go_wp2_with fail
  refine (markIntS_any _ _ _ B dt _ _ ho2 (by omega) (by omega)).mono ?_
  rintro e w2 ⟨rfl, ho3, hb2⟩
  have HO3 := hide ho3
  have HB2 := hide hb2
  have ho4 : Hid (Own w2 B a1 n1 (marks k n1)) := hb2.own (unhide HO1) (unhide HA).symm
  clear ho3 hb2
  go_wp2
  go_ret
  exact ⟨rfl, unhide ho4, unhide HO3, (((But.refl _ _).alloc _).trans ((unhide HB1).trans (unhide HB2))).mono (fun x hx => by rcases hx with hx | hx; exact absurd hx id; exact hx)⟩

end Go.Proofs.YtgjpchnkodnieaaGreatDoor
namespace Go.Proofs.YtgjpchnkodnieaaGreatDoor
open Go.RowKit

set_option maxHeartbeats 1000000 in
theorem heldArray_marks (c : Bool) (a1 a2 : Option Addr) (n1 n2 c1 c2 : Nat) (k : Int) (w : World) (h1 : Row w a1 n1 (marks k n1)) (h2 : Row w a2 n2 (marks (k + n1) n2)) (hk0 : 0 ≤ k) (hk : k ≤ 2305843009213693952) :
    Calls Tryz.prog 23 #[.agg #[.bool c, .slice a1 n1 c1, .slice a2 n2 c2], .int .i64 k] w fun e w' => e = .returned (.int .i64 (k + n1 + n2)) ∧ Below w.heap.size w w' := by
  have hs1 := h1.small
  have hs2 := h2.small
  have H1 := hide h1
  have H2 := hide h2
  clear h1 h2
  go_enter Tryz.func23, Tryz.ntmps23
  go_wp2_with fail
  refine (heldIntS_marks _ _ _ _ _ (by exact (unhide H1).below (Nat.le_refl _) ((Below.refl _ _).alloc (Nat.le_refl _) _)) (by omega) (by omega)).mono ?_
  rintro e w1 ⟨rfl, rfl⟩
  go_wp2_with fail
  refine (heldIntS_marks _ _ _ _ _ (by exact (unhide H2).below (Nat.le_refl _) ((Below.refl _ _).alloc (Nat.le_refl _) _)) (by omega) (by omega)).mono ?_
  rintro e w1 ⟨rfl, rfl⟩
  go_wp2
  go_ret
  exact ⟨rfl, (Below.refl _ _).alloc (Nat.le_refl _) _⟩

end Go.Proofs.YtgjpchnkodnieaaGreatDoor
namespace Go.Proofs.YtgjpchnkodnieaaGreatDoor
open Go.RowKit

theorem box1 {w wr : World} {o1 : Obj} (hK : Below (w.heap.size + 1) (w.alloc o1) wr) :
    Below w.heap.size w wr ∧ w.heap.size + 1 ≤ wr.heap.size ∧ (∀ b o, b < w.heap.size + 1 → wr.cell? ⟨b, o, none⟩ = (w.alloc o1).cell? ⟨b, o, none⟩) :=
  ⟨((Below.refl _ _).alloc (Nat.le_refl _) _).trans (hK.mono (by omega)), by have := hK.size; simp at this; omega, fun b o hb => hK.cell (p := ⟨b, o, none⟩) hb⟩

theorem box2 {w wr : World} {o1 o2 : Obj} (hK : Below (w.heap.size + 2) ((w.alloc o1).alloc o2) wr) :
    Below w.heap.size w wr ∧ w.heap.size + 2 ≤ wr.heap.size ∧ (∀ b o, b < w.heap.size + 2 → wr.cell? ⟨b, o, none⟩ = ((w.alloc o1).alloc o2).cell? ⟨b, o, none⟩) :=
  ⟨(((Below.refl _ _).alloc (Nat.le_refl _) _).alloc (by simp) _).trans (hK.mono (by omega)), by have := hK.size; simp at this; omega, fun b o hb => hK.cell (p := ⟨b, o, none⟩) hb⟩

/-- What a slice argument is known to be: its cells, and that its length is an int. -/
structure Raw (w : World) (a : Option Addr) (n : Nat) (zs : List Int) : Prop where
  len : zs.length = n
  max : n ≤ 9223372036854775807
  at_ : n = 0 ∨ ∃ b off, a = some ⟨b, off, none⟩ ∧ b < w.heap.size ∧ ∀ i, i < n → w.cell? ⟨b, off + i, none⟩ = some (.int .i64 (zs.getD i 0))

theorem Raw.row {w : World} {a : Option Addr} {n : Nat} {zs : List Int} (h : Raw w a n zs) (hn : n ≤ 17592186044416) : Row w a n zs := ⟨h.len, hn, h.at_⟩

end Go.Proofs.YtgjpchnkodnieaaGreatDoor
namespace Go.Proofs.YtgjpchnkodnieaaGreatDoor
open Go.RowKit

theorem eqArray_refl (c : Bool) (a1 a2 b1 b2 : Option Addr) (n1 n2 m1 m2 c1 c2 d1 d2 : Nat) (sh dt : List Int) (w : World) (h1 : Row w a1 n1 sh) (h2 : Row w a2 n2 dt) (k1 : Row w b1 m1 sh) (k2 : Row w b2 m2 dt) :
    Calls Tryz.prog 13 #[.agg #[.bool c, .slice a1 n1 c1, .slice a2 n2 c2], .agg #[.bool c, .slice b1 m1 d1, .slice b2 m2 d2]] w fun e w' => e = .returned (.bool true) ∧ Below w.heap.size w w' := by
  have := eqArray_any c c a1 a2 b1 b2 n1 n2 m1 m2 c1 c2 d1 d2 sh dt sh dt w h1 h2 k1 k2
  rwa [decide_eq_true ⟨rfl, rfl, rfl⟩] at this

end Go.Proofs.YtgjpchnkodnieaaGreatDoor
namespace Go.Proofs.YtgjpchnkodnieaaGreatDoor
open Go.RowKit

theorem Own.alloc {w : World} {B : Nat} {a : Option Addr} {n : Nat} {zs : List Int} (h : Own w B a n zs) (o : Obj) : Own (w.alloc o) B a n zs := h.below (Nat.le_refl _) ((Below.refl _ _).alloc (Nat.le_refl _) _)

end Go.Proofs.YtgjpchnkodnieaaGreatDoor
namespace Go.Proofs.YtgjpchnkodnieaaGreatDoor
open Go.RowKit

/-- Block p holds a struct of an array. -/
def Box (w : World) (p : Nat) (c : Bool) (v1 v2 : Value) : Prop := w.heap[p]? = some (.cells #[.bool c, v1, v2] 25 (0, 0))

theorem Box.lt {w : World} {p : Nat} {c : Bool} {v1 v2 : Value} (h : Box w p c v1 v2) : p < w.heap.size := lt_of_block h

theorem Box.cells {w : World} {p : Nat} {c : Bool} {v1 v2 : Value} (h : Box w p c v1 v2) : w.cell? ⟨p, 0, none⟩ = some (.bool c) ∧ w.cell? ⟨p, 1, none⟩ = some v1 ∧ w.cell? ⟨p, 2, none⟩ = some v2 := by
  unfold Box at h
  simp [World.cell?, h]

theorem Box.below {w w' : World} {p B : Nat} {c : Bool} {v1 v2 : Value} (h : Box w p c v1 v2) (hB : w.heap.size ≤ B) (hb : Below B w w') : Box w' p c v1 v2 := (hb.block p (Nat.lt_of_lt_of_le h.lt hB)).trans h

theorem Box.but {S : Nat → Prop} {w w' : World} {p : Nat} {c : Bool} {v1 v2 : Value} (h : Box w p c v1 v2) (hb : But S w w') (hn : ¬ S p) : Box w' p c v1 v2 := (hb.block p h.lt hn).trans h

theorem Box.alloc {w : World} {p : Nat} {c : Bool} {v1 v2 : Value} (h : Box w p c v1 v2) (o : Obj) : Box (w.alloc o) p c v1 v2 := (Below.heap_alloc w o p h.lt).trans h

theorem Box.drew {w : World} {p : Nat} {c : Bool} {v1 v2 : Value} (h : Box w p c v1 v2) : Box w.drew p c v1 v2 := h

theorem Box.new (w : World) (c : Bool) (v1 v2 : Value) : Box (w.alloc (.cells #[.bool c, v1, v2] 25 (0, 0))) w.heap.size c v1 v2 := by
  show (w.heap.push _)[w.heap.size]? = _
  simp

end Go.Proofs.YtgjpchnkodnieaaGreatDoor

namespace Go.Proofs.YtgjpchnkodnieaaGreatDoor
open Go.RowKit

theorem Box.free' {w : World} {p : Nat} {c : Bool} {v1 v2 : Value} (h : Box w p c v1 v2) : w.cell? ⟨p, 0, none⟩ = some (.bool c) ∧ w.cell? ⟨p, 1, none⟩ = some v1 ∧ w.cell? ⟨p, 2, none⟩ = some v2 ∧ w.frozen? ⟨p, 0, none⟩ = false ∧ w.frozen? ⟨p, 1, none⟩ = false ∧ w.frozen? ⟨p, 2, none⟩ = false ∧ p < w.heap.size :=
  ⟨h.cells.1, h.cells.2.1, h.cells.2.2, frozen_of_row w p _ _ _ h, frozen_of_row w p _ _ _ h, frozen_of_row w p _ _ _ h, h.lt⟩

theorem Box.sets {w : World} {p : Nat} {c c' : Bool} {v1 v2 u1 u2 : Value} (h : Box w p c v1 v2) : Box (((w.setCell ⟨p, 0, none⟩ (.bool c')).setCell ⟨p, 1, none⟩ u1).setCell ⟨p, 2, none⟩ u2) p c' u1 u2 := by
  unfold Box at h ⊢
  have h1 := heap_setCell_same w p 0 _ _ (.bool c') h
  have h2 := heap_setCell_same _ p 1 _ _ u1 h1
  have h3 := heap_setCell_same _ p 2 _ _ u2 h2
  simpa using h3

theorem Row.notBox {w : World} {a : Option Addr} {n p : Nat} {zs : List Int} {c : Bool} {a1 a2 : Option Addr} {l1 l2 c1 c2 : Nat} (h : Row w a n zs) (hb : Box w p c (.slice a1 l1 c1) (.slice a2 l2 c2)) {k : Nat} (hk : At a n k) : k ≠ p := by
  rcases h.at_ with h0 | ⟨g, off, rfl, hg, hc⟩
  · exact absurd h0 hk.1
  · have e := at_eq hk
    subst e
    rintro rfl
    have h1 := hc 0 (by have := hk.1; omega)
    unfold Box at hb
    simp only [World.cell?, hb] at h1
    simp at h1
    match off, h1 with
    | 0, h1 => simp at h1
    | 1, h1 => simp at h1
    | 2, h1 => simp at h1

theorem Row.otherB {w : World} {a : Option Addr} {n : Nat} {zs : List Int} (h : Row w a n zs) {q : Addr} (ha : ∀ k, At a n k → k ≠ q.block) (v : Value) : Row (w.setCell q v) a n zs :=
  ((But.refl (fun k => k = q.block) w).setCell rfl v).row h (fun k hk hk' => ha k hk' hk)

theorem Row.sets {w : World} {a : Option Addr} {n p : Nat} {zs : List Int} {c : Bool} {a1 a2 : Option Addr} {l1 l2 c1 c2 : Nat} (h : Row w a n zs) (hb : Box w p c (.slice a1 l1 c1) (.slice a2 l2 c2)) (u0 u1 u2 : Value) : Row (((w.setCell ⟨p, 0, none⟩ u0).setCell ⟨p, 1, none⟩ u1).setCell ⟨p, 2, none⟩ u2) a n zs :=
  ((h.otherB (fun _ hk => h.notBox hb hk) _).otherB (fun _ hk => h.notBox hb hk) _).otherB (fun _ hk => h.notBox hb hk) _

end Go.Proofs.YtgjpchnkodnieaaGreatDoor
namespace Go.Proofs.YtgjpchnkodnieaaGreatDoor
open Go.RowKit

set_option maxHeartbeats 1000000 in
theorem l3Count_any (a : Option Addr) (n cap : Nat) (sh : List Int) (w : World) (h : Row w a n sh) : Calls Tryz.prog 48 #[.slice a n cap] w fun e w' => e = .returned (.int .i64 (countOf sh)) ∧ w' = w := by
  have hlen := hide h.len
  have hsm := h.small
  have H := hide h
  clear h
  go_enter Tryz.func48, Tryz.ntmps48
  go_wp2
  go_loop [4] (fun i => ∃ k : Nat, k ≤ n ∧ i = .int .i64 k ∧ Hid ((sh.take k).all inCells = true)) (fun i => n - (intOf i).toNat)
  case atStart => exact ⟨0, Nat.zero_le _, rfl, rfl⟩
  case round =>
    obtain ⟨k, hk, rfl, hall⟩ := hrel
    by_cases hlt : k < n
    · obtain ⟨b, off, rfl, hblt, hc⟩ := (unhide H).get hlt
      have hks : Hid (k < sh.length) := by show k < sh.length; rw [unhide hlen]; exact hlt
      obtain ⟨x, hx⟩ : ∃ x, x = sh.getD k 0 := ⟨_, rfl⟩
      rw [← hx] at hc
      have HX := hide hx
      clear hx
      by_cases hneg : x < 0
      · have HE : Hid (countOf sh = -1) := count_bad sh (all_not sh inCells k (unhide hks) (by rw [← unhide HX]; exact decide_eq_false (by omega)))
        go_wp2
        go_ret
        exact ⟨ret_int HE.out.symm, rfl⟩
      · by_cases hbig : 10000 < x
        · have HE : Hid (countOf sh = -1) := count_bad sh (all_not sh inCells k (unhide hks) (by rw [← unhide HX]; exact decide_eq_false (by omega)))
          go_wp2
          go_ret
          exact ⟨ret_int HE.out.symm, rfl⟩
        · have HA : Hid ((sh.take (k + 1)).all inCells = true) := all_step sh inCells k (unhide hks) (unhide hall) (by rw [← unhide HX]; exact decide_eq_true (by omega))
          go_wp2
          go_round
          case rel => exact ⟨k + 1, by omega, by go_num, HA⟩
          case measure => simp [intOf]; omega
    · have HA : Hid (sh.all inCells = true) := by
        have := unhide hall
        rwa [List.take_of_length_le (by rw [unhide hlen]; omega)] at this
      clear hall
      go_wp2
      go_loop [3, 5, 6] (fun p z i => ∃ (k : Nat) (m : Int), k ≤ n ∧ i = .int .i64 k ∧ p = .int .i64 m ∧ Hid (prodFrom (sh.take k) 1 = some m) ∧ z = .bool (decide (0 ∈ sh.take k))) (fun _ _ i => n - (intOf i).toNat)
      case atStart => exact ⟨0, 1, Nat.zero_le _, rfl, rfl, rfl, rfl⟩
      case round =>
        obtain ⟨k, m, hk, rfl, rfl, hp, rfl⟩ := hrel
        have hmb := prodFrom_bd (sh.take k) 1 m (by rw [List.all_eq_true]; exact fun x hx => List.all_eq_true.1 (unhide HA) x (List.mem_of_mem_take hx)) (by omega) (by omega) (unhide hp)
        obtain ⟨hm1, hm2⟩ := hmb
        by_cases hlt : k < n
        · obtain ⟨b, off, rfl, hblt, hc⟩ := (unhide H).get hlt
          have hks : Hid (k < sh.length) := by show k < sh.length; rw [unhide hlen]; exact hlt
          have hxb : 0 ≤ sh.getD k 0 ∧ sh.getD k 0 ≤ 10000 := of_decide_eq_true (List.all_eq_true.1 (unhide HA) (sh.getD k 0) (by simp [unhide hks]))
          have HZ := hide (zero_step sh k (unhide hks))
          obtain ⟨x, hx⟩ : ∃ x, x = sh.getD k 0 := ⟨_, rfl⟩
          rw [← hx] at hc hxb
          obtain ⟨hx0, hx1⟩ := hxb
          have HX := hide hx
          clear hx
          generalize decide (0 ∈ sh.take k) = z0 at *
          by_cases h0 : x = 0
          · have hb : (x == 0) = true := by simp [h0]
            have HP := hide (prod_step0 sh k (unhide hks) m (unhide hp) (by rw [← unhide HX]; exact h0))
            have HZ2 : Hid (true = decide (0 ∈ sh.take (k + 1))) := by show _ = _; rw [unhide HZ, ← unhide HX, decide_eq_true h0, Bool.or_true]
            clear h0 HZ
            go_wp2
            go_round
            case rel => exact ⟨k + 1, m, by omega, by go_num, rfl, HP, by rw [← unhide HZ2]⟩
            case measure => simp [intOf]; omega
          · have hb : (x == 0) = false := by simp [h0]
            have HZ2 : Hid (z0 = decide (0 ∈ sh.take (k + 1))) := by show _ = _; rw [unhide HZ, ← unhide HX, decide_eq_false h0, Bool.or_false]
            have hmx : m * x ≤ 10000 * 10000 := Int.mul_le_mul hm2 hx1 hx0 (by omega)
            have hmx0 : 0 ≤ m * x := Int.mul_nonneg (by omega) hx0
            by_cases hbig : 10000 < m * x
            · have HE : Hid (countOf sh = -1) := count_big sh (prod_none sh k (unhide hks) m (unhide hp) (by rw [← unhide HX]; exact h0) (by rw [← unhide HX]; exact hbig))
              clear h0 HZ
              go_wp2
              go_ret
              exact ⟨ret_int HE.out.symm, rfl⟩
            · have HP := hide (prod_step sh k (unhide hks) m (unhide hp) (by rw [← unhide HX]; exact h0) (by rw [← unhide HX]; omega))
              rw [← unhide HX] at HP
              clear h0 HZ
              go_wp2
              go_round
              case rel => exact ⟨k + 1, m * x, by omega, by go_num, rfl, HP, by rw [← unhide HZ2]⟩
              case measure => simp [intOf]; omega
        · have HP : Hid (prodFrom sh 1 = some m) := by
            have := unhide hp
            rwa [List.take_of_length_le (by rw [unhide hlen]; omega)] at this
          rw [List.take_of_length_le (by rw [unhide hlen]; omega)]
          by_cases hz : 0 ∈ sh
          · have hd : decide (0 ∈ sh) = true := decide_eq_true hz
            have HE := hide (count_zero sh m (unhide HA) (unhide HP) hd)
            clear hz
            rw [hd]
            go_wp2
            go_ret
            exact ⟨ret_int HE.out.symm, rfl⟩
          · have hd : decide (0 ∈ sh) = false := decide_eq_false hz
            have HE := hide (count_n sh m (unhide HA) (unhide HP) hd)
            clear hz
            rw [hd]
            go_wp2
            go_ret
            exact ⟨ret_int HE.out.symm, rfl⟩

theorem l3Count_eq (a : Option Addr) (n cap : Nat) (sh : List Int) (w : World) (h : Row w a n sh) (cn : Int) (hc : Hid (countOf sh = cn)) : Calls Tryz.prog 48 #[.slice a n cap] w fun e w' => e = .returned (.int .i64 cn) ∧ w' = w := by
  rw [← hc.out]; exact l3Count_any a n cap sh w h

end Go.Proofs.YtgjpchnkodnieaaGreatDoor
namespace Go.Proofs.YtgjpchnkodnieaaGreatDoor
open Go.RowKit

theorem Own.of_owns {w : World} {base n : Nat} {v : Value} {zs : List Int} (h : w.ownsRow base 3 1 v n (zs.map (Value.int .i64))) (hs : n ≤ 17592186044416) : ∃ a cap, v = .slice a n cap ∧ Own w base a n zs := by
  have hl : zs.length = n := by simpa using h.1
  rcases h.2 with ⟨rfl, h0⟩ | ⟨g, cap, cur, rfl, hb, hg, _, _, hcs, ht⟩
  · exact ⟨none, 0, by rw [h0], hl, hs, .inl h0⟩
  · refine ⟨some ⟨g, 0, none⟩, cap, rfl, hl, hs, .inr ⟨g, 0, rfl, hb, lt_of_block hg, fun i hi => ?_, fun i hi => frozen_of_row w g _ _ _ hg⟩⟩
    have e : cur.toList[i]? = some (.int .i64 (zs.getD i 0)) := by
      have : (cur.toList.take (n * 1))[i]? = (zs.map (Value.int .i64))[i]? := by rw [ht]
      rw [List.getElem?_take, if_pos (by omega)] at this
      rw [this]
      simp [hl, hi]
    simpa [World.cell?, hg] using e

theorem cells_ints {w : World} {ad : Addr} {n : Nat} {zs : List Int} (h : Row w (some ad) n zs) : ∀ (j : Nat) u, (zs.map (Value.int .i64))[j]? = some u → w.cell? (ad.add j) = some u := by
  intro j u hj
  have hl := h.len
  have hj' : j < n := by
    rcases Nat.lt_or_ge j n with h' | h'
    · exact h'
    · rw [List.getElem?_eq_none (by simp; omega)] at hj; cases hj
  obtain ⟨b, off, hab, hblt, hc⟩ := h.get hj'
  cases hab
  have hadd : (⟨b, off, none⟩ : Addr).add j = ⟨b, off + j, none⟩ := by by_cases h : j = 0 <;> simp [Addr.add, h]
  rw [hadd, hc]
  simpa [hl, hj'] using hj

theorem one_ints (zs : List Int) : ∀ u ∈ zs.map (Value.int .i64), u.oneCell' = true := by
  intro u hu
  obtain ⟨x, _, rfl⟩ := List.mem_map.mp hu
  rfl

theorem owns_empty (w : World) : (w.alloc (.cells #[] 3)).ownsRow w.heap.size 3 1 (.slice (some ⟨w.heap.size, 0, none⟩) 0 0) 0 [] := by
  refine ⟨by simp, .inr ⟨w.heap.size, 0, #[], rfl, Nat.le_refl _, ?_, by simp, by unfold maxLen; omega, by simp, by simp⟩⟩
  show (w.heap.push _)[w.heap.size]? = _
  simp

set_option maxHeartbeats 400000 in
theorem l3Ints_owns (ad : Addr) (n cap : Nat) (zs : List Int) (w : World) (h : Row w (some ad) n zs) :
    Calls Tryz.prog 71 #[.slice (some ad) n cap] w fun e w' => ∃ a' cap', e = .returned (.slice a' n cap') ∧ w'.ownsRow w.heap.size 3 1 (.slice a' n cap') n (zs.map (Value.int .i64)) ∧ Below w.heap.size w w' := by
  have hl := h.len
  have hs := h.small
  have H := hide h
  clear h
  obtain ⟨i0, hi, hz0, hz1, hz2⟩ := info_parts info_int
  go_enter Tryz.func71, Tryz.ntmps71
  go_wp2_with (at_builtin; refine wpList_append_own _ rfl _ _ 23 rfl w.heap.size 3 i0 (.int .i64 0) 1 8 Tryz.underlying23 hi hz0 hz1 hz2 rfl (by decide) _ _ _ rfl (owns_empty w) ad n cap (zs.map (Value.int .i64)) rfl (by simpa using hl) (cells_ints ((unhide H).alloc _)) (one_ints zs) (by unfold maxLen; omega) (by omega) (by simp) ?_; intro v1 w1 hown hgrow hnil)
  clear hnil
  have hown' : w1.ownsRow w.heap.size 3 1 v1 n (zs.map (Value.int .i64)) := by simpa using hown
  obtain ⟨a', cap', rfl, ho⟩ := Own.of_owns hown' hs
  have hbel : Below w.heap.size w w1 := ((Below.refl _ _).alloc (Nat.le_refl _) _).grown hgrow (by simp) (by intro k hk; cases hk; exact Nat.le_refl _)
  clear hown hgrow ho
  go_wp2
  go_ret
  exact ⟨_, _, rfl, hown', hbel⟩

theorem l3Ints_any (ad : Addr) (n cap : Nat) (zs : List Int) (w : World) (h : Row w (some ad) n zs) :
    Calls Tryz.prog 71 #[.slice (some ad) n cap] w fun e w' => ∃ a' cap', e = .returned (.slice a' n cap') ∧ Own w' w.heap.size a' n zs ∧ Below w.heap.size w w' := by
  refine (l3Ints_owns ad n cap zs w h).mono ?_
  rintro e w' ⟨a', cap', rfl, ho, hb⟩
  obtain ⟨a2, c2, e2, ho2⟩ := Own.of_owns ho h.small
  cases e2
  exact ⟨a', cap', rfl, ho2, hb⟩

end Go.Proofs.YtgjpchnkodnieaaGreatDoor
namespace Go.Proofs.YtgjpchnkodnieaaGreatDoor
open Go.RowKit

theorem Own.low' {w w' : World} {a : Option Addr} {n : Nat} {zs : List Int} {B C : Nat} (h : Own w C a n zs) (ha : ∀ k, At a n k → k < B) (hb : Below B w w') : Own w' C a n zs := by
  refine ⟨h.len, h.small, ?_⟩
  rcases h.at_ with h0 | ⟨g, off, rfl, hg, hlt, hc, hf⟩
  · exact .inl h0
  · by_cases h0 : n = 0
    · exact .inl h0
    have hgB := ha g (at_self h0)
    exact .inr ⟨g, off, rfl, hg, Nat.lt_of_lt_of_le hlt hb.size, fun i hi => (hb.cell (p := ⟨g, off + i, none⟩) hgB).trans (hc i hi), fun i hi => (hb.frozen (p := ⟨g, off + i, none⟩) hgB).trans (hf i hi)⟩

theorem Own.other {w : World} {a : Option Addr} {n C : Nat} {zs : List Int} (h : Own w C a n zs) {q : Addr} (ha : ∀ k, At a n k → k ≠ q.block) (v : Value) : Own (w.setCell q v) C a n zs :=
  ((But.refl (fun k => k = q.block) w).setCell rfl v).own h (fun k hk hk' => ha k hk' hk)

/-- An append to a slice of the call's own leaves all blocks below its base. -/
theorem below_append {w w1 : World} {base n : Nat} {v : Value} {xs : List Value} (o : Obj) (hown : w.ownsRow base 3 1 v n xs) (hb : base ≤ w.heap.size) (hg : (w.alloc o).grownBy w1 v.ownBlock) : Below base w w1 :=
  ((Below.refl _ _).alloc hb _).grown hg (by simp; omega) (by
    intro k hk
    rcases hown.2 with ⟨rfl, _⟩ | ⟨g, cap, cur, rfl, hbg, _⟩
    · cases hk
    · cases hk; exact hbg)

theorem owns_slice {w : World} {base e size n : Nat} {v : Value} {xs : List Value} (h : w.ownsRow base e size v n xs) : ∃ a cap, v = .slice a n cap := by
  rcases h.2 with ⟨rfl, h0⟩ | ⟨g, cap, cur, rfl, _⟩
  · exact ⟨none, 0, by rw [h0]⟩
  · exact ⟨_, _, rfl⟩

theorem take_map_snoc (f : Int → Int) (xs : List Int) (k : Nat) (h : k < xs.length) : ((xs.take (k + 1)).map f).map (Value.int .i64) = ((xs.take k).map f).map (Value.int .i64) ++ [.int .i64 (f (xs.getD k 0))] := by
  rw [take_snoc xs k h]; simp

theorem row_nil (w : World) (a : Option Addr) : Row w a 0 [] := ⟨rfl, by omega, .inl rfl⟩

theorem cells_new (w : World) (x : Int) : ∀ (j : Nat) u, ([.int .i64 x] : List Value)[j]? = some u → (w.alloc (.cells #[.int .i64 x] 3)).cell? ((⟨w.heap.size, 0, none⟩ : Addr).add j) = some u := by
  intro j u hj
  match j, hj with
  | 0, hj => simp at hj; subst hj; simp [Addr.add]

theorem one_one (x : Int) : ∀ u ∈ ([.int .i64 x] : List Value), u.oneCell' = true := by intro u hu; simp at hu; subst hu; rfl

theorem owns_below {w w' : World} {base e size n B : Nat} {v : Value} {xs : List Value} (h : w.ownsRow base e size v n xs) (hB : w.heap.size ≤ B) (hb : Below B w w') : w'.ownsRow base e size v n xs := by
  obtain ⟨h1, h2⟩ := h
  refine ⟨h1, ?_⟩
  rcases h2 with h2 | ⟨g, cap, cur, hv, hg, hh, r⟩
  · exact Or.inl h2
  · exact Or.inr ⟨g, cap, cur, hv, hg, (hb.block g (Nat.lt_of_lt_of_le (lt_of_block hh) hB)).trans hh, r⟩

theorem owns_low_set {w : World} {base n p o : Nat} {v : Value} {xs : List Value} (h : w.ownsRow base 3 1 v n xs) (hp : p < base) (u : Value) : (w.setCell ⟨p, o, none⟩ u).ownsRow base 3 1 v n xs := by
  obtain ⟨h1, h2⟩ := h
  refine ⟨h1, ?_⟩
  rcases h2 with h2 | ⟨g, cap, cur, hv, hg, hh, r⟩
  · exact Or.inl h2
  · refine Or.inr ⟨g, cap, cur, hv, hg, ?_, r⟩
    rw [Below.heap_setCell _ _ _ _ (by
      intro e
      have e' : g = p := e
      omega)]
    exact hh

theorem owns_lt {w : World} {base e size n g : Nat} {v : Value} {xs : List Value} (h : w.ownsRow base e size v n xs) (hg : v.ownBlock = some g) : g < w.heap.size := by
  rcases h.2 with ⟨rfl, _⟩ | ⟨g', cap, cur, rfl, _, hh, _⟩
  · cases hg
  · cases hg; exact lt_of_block hh

theorem Own.grownO {w w1 : World} {B n : Nat} {a : Option Addr} {zs : List Int} (h : Own w B a n zs) (o : Obj) {ob : Option Nat} (hg : (w.alloc o).grownBy w1 ob) (hne : ∀ x, At a n x → ob ≠ some x) : Own w1 B a n zs := by
  refine ⟨h.len, h.small, ?_⟩
  rcases h.at_ with h0 | ⟨b, off, rfl, hb, hlt, hc, hf⟩
  · exact .inl h0
  · by_cases hn : n = 0
    · exact .inl hn
    have hk : w1.heap[b]? = w.heap[b]? := (hg.block b (by simp; omega) (fun e => hne b (at_self hn) e.symm)).trans (Below.heap_alloc w o b hlt)
    refine .inr ⟨b, off, rfl, hb, ?_, fun i hi => (World.cell?_of_block (w := w) (a := ⟨b, off + i, none⟩) hk).trans (hc i hi), fun i hi => (World.frozen?_of_block (w := w) (a := ⟨b, off + i, none⟩) hk).trans (hf i hi)⟩
    rcases Nat.lt_or_ge b w1.heap.size with h1 | h1
    · exact h1
    · rw [Array.getElem?_eq_none h1, Array.getElem?_eq_getElem hlt] at hk; cases hk

theorem owns_mono {w : World} {base base' e size n : Nat} {v : Value} {xs : List Value} (h : w.ownsRow base e size v n xs) (hb : base' ≤ base) : w.ownsRow base' e size v n xs := by
  obtain ⟨h1, h2⟩ := h
  refine ⟨h1, ?_⟩
  rcases h2 with h2 | ⟨g, cap, cur, hv, hg, hh, r⟩
  · exact Or.inl h2
  · exact Or.inr ⟨g, cap, cur, hv, by omega, hh, r⟩

theorem owns_grown {w w1 : World} {base base' n g g2 cap : Nat} {xs : List Value} (h : w.ownsRow base 3 1 (.slice (some ⟨g, 0, none⟩) n cap) n xs) (o : Obj) (hg : (w.alloc o).grownBy w1 (some g2)) (hne : g ≠ g2) (hb : base' ≤ base) : w1.ownsRow base' 3 1 (.slice (some ⟨g, 0, none⟩) n cap) n xs := by
  obtain ⟨h1, h2⟩ := h
  refine ⟨h1, ?_⟩
  rcases h2 with ⟨h2, _⟩ | ⟨g', cap', cur, hv, hg', hh, r⟩
  · simp at h2
  · have e : g = g' := by simp at hv; exact hv.1
    subst e
    refine Or.inr ⟨g, cap', cur, hv, by omega, ?_, r⟩
    have hlt := lt_of_block hh
    exact (hg.block g (by simp; omega) (fun e => hne (by simpa using e))).trans ((Below.heap_alloc w o g hlt).trans hh)

theorem Own.set {w : World} {B g off n k : Nat} {zs : List Int} (h : Own w B (some ⟨g, off, none⟩) n zs) (hk : k < n) (x : Int) : Own (w.setCell ⟨g, off + k, none⟩ (.int .i64 x)) B (some ⟨g, off, none⟩) n (zs.set k x) := by
  refine ⟨by rw [List.length_set]; exact h.len, h.small, ?_⟩
  rcases h.at_ with h0 | ⟨g', off', e, hg, hlt, hc, hf⟩
  · omega
  · cases e
    refine .inr ⟨g, off, rfl, hg, by simpa using hlt, fun i hi => ?_, fun i hi => ?_⟩
    · by_cases e : i = k
      · subst e
        rw [World.cell?_setCell_same _ _ _ (hc i hi)]
        have hl := h.len
        simp [List.getD, hl, hk]
      · rw [World.cell?_setCell_other _ _ _ _ (by simp <;> omega), hc i hi]
        simp [List.getD, List.getElem?_set_ne (Ne.symm e)]
    · simpa using hf i hi

theorem But.drew {S : Nat → Prop} {w w' : World} (h : But S w w') : But S w w'.drew := ⟨h.os, h.tape, h.output, h.size, h.block⟩

theorem But.cellAt {S : Nat → Prop} {w w' : World} (h : But S w w') {b o : Nat} (hb : b < w.heap.size) (hn : ¬ S b) : w'.cell? ⟨b, o, none⟩ = w.cell? ⟨b, o, none⟩ := World.cell?_of_block (w := w) (a := ⟨b, o, none⟩) (h.block b hb hn)

end Go.Proofs.YtgjpchnkodnieaaGreatDoor
namespace Go.Proofs.YtgjpchnkodnieaaGreatDoor
open Go.RowKit

set_option maxHeartbeats 400000 in
theorem l1RuneOk_any (v : Int) (w : World) : Calls Tryz.prog 49 #[.int .i64 v] w fun e w' => e = .returned (.bool (runeOk v)) ∧ w' = w := by
  by_cases h1 : 0 ≤ v
  · by_cases h2 : v ≤ 1114111
    · by_cases h3 : v < 55296
      · have HE : Hid (runeOk v = true) := decide_eq_true ⟨h1, h2, .inl h3⟩
        go_enter Tryz.func49, Tryz.ntmps49
        go_wp2
        go_ret
        exact ⟨ret_bool HE.out.symm, rfl⟩
      · by_cases h4 : 57343 < v
        · have HE : Hid (runeOk v = true) := decide_eq_true ⟨h1, h2, .inr h4⟩
          go_enter Tryz.func49, Tryz.ntmps49
          go_wp2
          go_ret
          exact ⟨ret_bool HE.out.symm, rfl⟩
        · have HE : Hid (runeOk v = false) := decide_eq_false (fun h => by omega)
          go_enter Tryz.func49, Tryz.ntmps49
          go_wp2
          go_ret
          exact ⟨ret_bool HE.out.symm, rfl⟩
    · have HE : Hid (runeOk v = false) := decide_eq_false (fun h => by omega)
      go_enter Tryz.func49, Tryz.ntmps49
      go_wp2
      go_ret
      exact ⟨ret_bool HE.out.symm, rfl⟩
  · have HE : Hid (runeOk v = false) := decide_eq_false (fun h => by omega)
    go_enter Tryz.func49, Tryz.ntmps49
    go_wp2
    go_ret
    exact ⟨ret_bool HE.out.symm, rfl⟩

theorem l1RuneOk_eq (v : Int) (w : World) (b : Bool) (h : Hid (runeOk v = b)) : Calls Tryz.prog 49 #[.int .i64 v] w fun e w' => e = .returned (.bool b) ∧ w' = w := by
  rw [← h.out]; exact l1RuneOk_any v w

end Go.Proofs.YtgjpchnkodnieaaGreatDoor
namespace Go.Proofs.YtgjpchnkodnieaaGreatDoor
open Go.RowKit

theorem arr_long {c : Bool} {sh dt : List Int} {n1 : Nat} (hl : sh.length = n1) (h : 5 < n1) : arrOk c sh dt = false := by
  unfold arrOk; rw [decide_eq_false (by omega)]; rfl
theorem arr_count {c : Bool} {sh dt : List Int} {n2 : Nat} (hl : dt.length = n2) (h : countOf sh ≠ n2) : arrOk c sh dt = false := by
  unfold arrOk; rw [decide_eq_false (p := countOf sh = _) (by rw [hl]; exact h)]; simp
theorem arr_data {c : Bool} {sh dt : List Int} (h : dt.all (dataOk c) = false) : arrOk c sh dt = false := by
  unfold arrOk; rw [h]; simp
theorem arr_good {c : Bool} {sh dt : List Int} {n1 n2 : Nat} (hl1 : sh.length = n1) (hl2 : dt.length = n2) (h5 : n1 ≤ 5) (hc : countOf sh = n2) (h : dt.all (dataOk c) = true) : arrOk c sh dt = true := by
  unfold arrOk; rw [h, decide_eq_true (by omega), decide_eq_true (by rw [hl2]; exact hc)]; rfl

set_option maxHeartbeats 1000000 in
theorem ArrayOk_any (c : Bool) (a1 a2 : Option Addr) (n1 n2 c1 c2 : Nat) (sh dt : List Int) (w : World) (h1 : Row w a1 n1 sh) (h2 : Row w a2 n2 dt) :
    Calls Tryz.prog 10 #[.agg #[.bool c, .slice a1 n1 c1, .slice a2 n2 c2]] w fun e w' => e = .returned (.bool (arrOk c sh dt)) ∧ Below w.heap.size w w' := by
  have hl1 := hide h1.len
  have hl2 := hide h2.len
  have hs1 := h1.small
  have hs2 := h2.small
  have H1 := hide h1
  have H2 := hide h2
  clear h1 h2
  have hW : ∀ o, Below w.heap.size w (w.alloc o) := fun o => (Below.refl _ _).alloc (Nat.le_refl _) _
  have hcb := count_bd sh
  obtain ⟨hcb1, hcb2⟩ := hcb
  by_cases h5 : 5 < n1
  · have hd : decide ((5 : Int) < (n1 : Int)) = true := by simp; omega
    have HE := hide (arr_long (c := c) (dt := dt) (unhide hl1) h5)
    go_enter Tryz.func10, Tryz.ntmps10
    go_wp2
    go_quiet (fail)
    go_wp2
    go_ret
    exact ⟨ret_bool HE.out.symm, Below.drewN (hW _) _⟩
  · have hd : decide ((5 : Int) < (n1 : Int)) = false := by simp; omega
    obtain ⟨cn, hcn⟩ : ∃ cn, countOf sh = cn := ⟨_, rfl⟩
    rw [hcn] at hcb1 hcb2
    have HC := hide hcn
    clear hcn
    by_cases hcn : cn = n2
    · have hb : (cn != (n2 : Int)) = false := by simp [hcn]
      have HCN := hide hcn
      clear hcn
      go_enter Tryz.func10, Tryz.ntmps10
      go_wp2
      go_quiet ((go_at_call 48; exact Calls.quiet_of_same (l3Count_eq _ _ _ sh _ (((unhide H1).alloc _).drewN _) cn HC)))
      go_wp2
      go_loopw [3, 4] (fun i v wr => ∃ k : Nat, k ≤ n2 ∧ i = .int .i64 k ∧ Hid ((dt.take k).all (dataOk c) = true) ∧ wr = (w.alloc (.cells #[.bool c, .slice a1 n1 c1, .slice a2 n2 c2] 25)).drewN nq) (fun i _ _ => n2 - (intOf i).toNat)
      case atStart => exact ⟨0, Nat.zero_le _, rfl, rfl, rfl⟩
      case round =>
        obtain ⟨k, hk, rfl, hall, rfl⟩ := hrel
        by_cases hlt : k < n2
        · obtain ⟨b, off, rfl, hblt, hc⟩ := (unhide H2).get hlt
          have hks : Hid (k < dt.length) := by show k < dt.length; rw [unhide hl2]; exact hlt
          obtain ⟨x, hx⟩ : ∃ x, x = dt.getD k 0 := ⟨_, rfl⟩
          rw [← hx] at hc
          have HX := hide hx
          clear hx
          have hN : ∀ {r : Bool}, dataOk c x = r → r = false → Hid (arrOk c sh dt = false) := fun h1 h2 => arr_data (all_not dt (dataOk c) k (unhide hks) (by rw [← unhide HX, h1, h2]))
          have hY : ∀ {r : Bool}, dataOk c x = r → r = true → Hid ((dt.take (k + 1)).all (dataOk c) = true) := fun h1 h2 => all_step dt (dataOk c) k (unhide hks) (unhide hall) (by rw [← unhide HX, h1, h2])
          cases c with
          | true =>
            cases hr : runeOk x with
            | true =>
              have hxb := of_decide_eq_true hr
              have HR := hide hr
              have HA := hY (show dataOk true x = true by unfold dataOk; rw [hr, decide_eq_true (by omega)]; rfl) rfl
              have hx1 : x ≤ 1000000000000000 := by omega
              have hx2 : -1000000000000000 ≤ x := by omega
              clear hr hxb hN hY
              go_wp2_with (go_at_call 49; refine (l1RuneOk_eq _ _ true HR).mono ?_; rintro e w' ⟨rfl, rfl⟩)
              go_roundw
              case rel => exact ⟨k + 1, by omega, by go_num, HA, by first | exact trivial | rfl⟩
              case measure => simp [intOf]; omega
            | false =>
              have HR := hide hr
              have HE := hN (show dataOk true x = false by unfold dataOk; rw [hr]; rfl) rfl
              clear hr hN hY
              go_wp2_with (go_at_call 49; refine (l1RuneOk_eq _ _ false HR).mono ?_; rintro e w' ⟨rfl, rfl⟩)
              go_ret
              exact ⟨ret_bool HE.out.symm, Below.drewN (hW _) _⟩
          | false =>
            by_cases hx1 : 1000000000000000 < x
            · have HE := hN (show dataOk false x = false by unfold dataOk; rw [decide_eq_false (by omega)]; rfl) rfl
              clear hN hY
              go_wp2
              go_ret
              exact ⟨ret_bool HE.out.symm, Below.drewN (hW _) _⟩
            · by_cases hx2 : x < -1000000000000000
              · have HE := hN (show dataOk false x = false by unfold dataOk; rw [decide_eq_false (by omega)]; rfl) rfl
                clear hN hY
                go_wp2
                go_ret
                exact ⟨ret_bool HE.out.symm, Below.drewN (hW _) _⟩
              · have HA := hY (show dataOk false x = true by unfold dataOk; rw [decide_eq_true (by omega)]; rfl) rfl
                clear hN hY
                go_wp2
                go_roundw
                case rel => exact ⟨k + 1, by omega, by go_num, HA, by first | exact trivial | rfl⟩
                case measure => simp [intOf]; omega
        · have HA : Hid (dt.all (dataOk c) = true) := by
            have := unhide hall
            rwa [List.take_of_length_le (by rw [unhide hl2]; omega)] at this
          have HE := hide (arr_good (unhide hl1) (unhide hl2) (by omega) ((unhide HC).trans (unhide HCN)) (unhide HA))
          go_wp2
          go_ret
          exact ⟨ret_bool HE.out.symm, Below.drewN (hW _) _⟩
    · have hb : (cn != (n2 : Int)) = true := by simp [hcn]
      have HE := hide (arr_count (c := c) (sh := sh) (unhide hl2) (by rw [unhide HC]; exact hcn))
      clear hcn
      go_enter Tryz.func10, Tryz.ntmps10
      go_wp2
      go_quiet ((go_at_call 48; exact Calls.quiet_of_same (l3Count_eq _ _ _ sh _ (((unhide H1).alloc _).drewN _) cn HC)))
      go_wp2
      go_ret
      exact ⟨ret_bool HE.out.symm, Below.drewN (hW _) _⟩

theorem ArrayOk_eq (c : Bool) (a1 a2 : Option Addr) (n1 n2 c1 c2 : Nat) (sh dt : List Int) (w : World) (h1 : Row w a1 n1 sh) (h2 : Row w a2 n2 dt) (r : Bool) (hr : Hid (arrOk c sh dt = r)) :
    Calls Tryz.prog 10 #[.agg #[.bool c, .slice a1 n1 c1, .slice a2 n2 c2]] w fun e w' => e = .returned (.bool r) ∧ Below w.heap.size w w' := by
  rw [← hr.out]; exact ArrayOk_any c a1 a2 n1 n2 c1 c2 sh dt w h1 h2

end Go.Proofs.YtgjpchnkodnieaaGreatDoor
namespace Go.Proofs.YtgjpchnkodnieaaGreatDoor
open Go.RowKit

theorem Box.free {w : World} {p : Nat} {c : Bool} {v1 v2 : Value} (h : Box w p c v1 v2) (o : Nat) : w.frozen? ⟨p, o, none⟩ = false := frozen_of_row w p o _ _ h

theorem Box.all {w : World} {p : Nat} {c : Bool} {v1 v2 : Value} (h : Box w p c v1 v2) : w.cell? ⟨p, 0, none⟩ = some (.bool c) ∧ w.cell? ⟨p, 1, none⟩ = some v1 ∧ w.cell? ⟨p, 2, none⟩ = some v2 ∧ w.frozen? ⟨p, 0, none⟩ = false ∧ w.frozen? ⟨p, 1, none⟩ = false ∧ w.frozen? ⟨p, 2, none⟩ = false ∧ p < w.heap.size :=
  ⟨h.cells.1, h.cells.2.1, h.cells.2.2, h.free _, h.free _, h.free _, h.lt⟩

theorem Box.set2 {w : World} {p : Nat} {c : Bool} {v1 v2 : Value} (h : Box w p c v1 v2) (v : Value) : Box (w.setCell ⟨p, 2, none⟩ v) p c v1 v := by
  unfold Box at h ⊢
  rw [heap_setCell_same w p 2 _ _ _ h]
  simp

theorem Box.other {w : World} {p : Nat} {c : Bool} {v1 v2 : Value} (h : Box w p c v1 v2) {q : Addr} (hq : p ≠ q.block) (v : Value) : Box (w.setCell q v) p c v1 v2 := (heap_setCell_other w q p v hq).trans h

theorem Box.low {w w' : World} {p B : Nat} {c : Bool} {v1 v2 : Value} (h : Box w p c v1 v2) (hp : p < B) (hb : Below B w w') : Box w' p c v1 v2 := (hb.block p hp).trans h

theorem Box.grown {w w1 : World} {p base n : Nat} {c : Bool} {v1 v2 v : Value} {xs : List Value} (h : Box w p c v1 v2) (hown : w.ownsRow base 3 1 v n xs) (o : Obj) (hg : (w.alloc o).grownBy w1 v.ownBlock) : Box w1 p c v1 v2 := by
  refine (hg.block p (by have := h.lt; simp; omega) ?_).trans (h.alloc o)
  rcases hown.2 with ⟨rfl, _⟩ | ⟨g, cap, cur, rfl, _, hh, _⟩
  · exact fun e => by cases e
  · intro e
    have e' : p = g := by simpa [Value.ownBlock] using e
    subst e'
    unfold Box at h
    rw [hh] at h
    simp at h

theorem owns_box_set {w : World} {base n p : Nat} {v : Value} {xs : List Value} {c : Bool} {v1 v2 : Value} (h : w.ownsRow base 3 1 v n xs) (hb : Box w p c v1 v2) (o : Nat) (u : Value) : (w.setCell ⟨p, o, none⟩ u).ownsRow base 3 1 v n xs := by
  obtain ⟨h1, h2⟩ := h
  refine ⟨h1, ?_⟩
  rcases h2 with h2 | ⟨g, cap, cur, hv, hg, hh, r⟩
  · exact Or.inl h2
  · refine Or.inr ⟨g, cap, cur, hv, hg, ?_, r⟩
    rw [Below.heap_setCell _ _ _ _ (by
      intro e
      have e' : g = p := e
      subst e'
      unfold Box at hb
      rw [hh] at hb
      simp at hb)]
    exact hh

end Go.Proofs.YtgjpchnkodnieaaGreatDoor
namespace Go.Proofs.YtgjpchnkodnieaaGreatDoor
open Go.RowKit

/-- What an impl function's answer is. -/
def GivesOwn (w : World) (r : Ans) (e : Ending) (w' : World) : Prop := ∃ b1 m1 d1 b2 m2 d2, e = .returned (.tuple #[.agg #[.bool r.c, .slice b1 m1 d1, .slice b2 m2 d2], .int .i64 r.code]) ∧ Own w' w.heap.size b1 m1 r.sh ∧ Own w' w.heap.size b2 m2 r.dt ∧ Apart b1 m1 b2 m2 ∧ Below w.heap.size w w'

theorem own_none (w : World) (B : Nat) (a : Option Addr) : Own w B a 0 [] := ⟨rfl, by omega, .inl rfl⟩

theorem gives_none {w w' : World} {code : Int} (h : Below w.heap.size w w') : GivesOwn w (noAns code) (.returned (.tuple #[.agg #[.bool false, .slice none 0 0, .slice none 0 0], .int .i64 code])) w' :=
  ⟨none, 0, 0, none, 0, 0, rfl, own_none _ _ _, own_none _ _ _, fun _ h => absurd rfl h.1, h⟩

theorem arr_parts {c : Bool} {sh dt : List Int} (h : arrOk c sh dt = true) : shapeB sh = true ∧ countOf sh = (dt.length : Int) := by
  unfold arrOk at h
  simp only [Bool.and_eq_true, decide_eq_true_eq] at h
  refine ⟨?_, h.2.1⟩
  unfold shapeB
  rw [decide_eq_true h.1, decide_eq_true (by omega)]; rfl

theorem firstCode_zero {f : Nat → Int × Int} {n : Nat} : firstCode f n = 0 ↔ ∀ k, k < n → (f k).2 = 0 := by
  induction n with
  | zero => exact ⟨fun _ k hk => absurd hk (Nat.not_lt_zero _), fun _ => rfl⟩
  | succ n ih =>
    constructor
    · intro h
      have h0 : firstCode f n = 0 := by
        by_cases h0 : firstCode f n = 0
        · exact h0
        · simp only [firstCode, if_neg h0] at h; exact h
      have h1 : (f n).2 = 0 := by simpa only [firstCode, if_pos h0] using h
      intro k hk
      by_cases hkn : k = n
      · subst hkn; exact h1
      · exact ih.mp h0 k (by omega)
    · intro h
      exact code_step (ih.mpr fun k hk => h k (by omega)) (h n (by omega))

end Go.Proofs.YtgjpchnkodnieaaGreatDoor
namespace Go.Proofs.YtgjpchnkodnieaaGreatDoor
open Go.RowKit

/-- What a spec function's answer of an array and a code is. -/
def GivesRow (w : World) (r : Ans) (e : Ending) (w' : World) : Prop :=
  ∃ b1 m1 d1 b2 m2 d2, e = .returned (.tuple #[.agg #[.bool r.c, .slice b1 m1 d1, .slice b2 m2 d2], .int .i64 r.code]) ∧ Row w' b1 m1 r.sh ∧ Row w' b2 m2 r.dt ∧ Below w.heap.size w w'

theorem dataOk_bd {c : Bool} {sh dt : List Int} (h : arrOk c sh dt = true) {k : Nat} (hk : k < dt.length) : -1000000000000000 ≤ dt.getD k 0 ∧ dt.getD k 0 ≤ 1000000000000000 := by
  have h1 : dt.all (dataOk c) = true := by simp [arrOk] at h; simpa using h.2.2
  have h2 := List.all_eq_true.mp h1 (dt.getD k 0) (by simp [hk])
  simp [dataOk] at h2
  simpa using h2.2

theorem boxes2 {w w1 : World} {c : Bool} {v1 v2 : Value} (hb : Below ((w.alloc (.cells #[.bool c, v1, v2] 25)).alloc (.cells #[.bool false, .slice none 0 0, .slice none 0 0] 25)).heap.size ((w.alloc (.cells #[.bool c, v1, v2] 25)).alloc (.cells #[.bool false, .slice none 0 0, .slice none 0 0] 25)) w1) :
    Box w1 w.heap.size c v1 v2 ∧ Box w1 (w.heap.size + 1) false (.slice none 0 0) (.slice none 0 0) ∧ Below w.heap.size w w1 := by
  have e : (w.alloc (.cells #[.bool c, v1, v2] 25)).heap.size = w.heap.size + 1 := by simp
  refine ⟨((Box.new w c v1 v2).alloc _).below (Nat.le_refl _) hb, ?_, (((Below.refl _ _).alloc (Nat.le_refl _) _).alloc (by simp) _).trans (hb.mono (by simp; omega))⟩
  have := (Box.new (w.alloc (.cells #[.bool c, v1, v2] 25)) false (.slice none 0 0) (.slice none 0 0)).below (Nat.le_refl _) hb
  rwa [e] at this

theorem boxes3 {w w1 : World} {c d : Bool} {v1 v2 u1 u2 : Value} (hb : Below (((w.alloc (.cells #[.bool c, v1, v2] 25)).alloc (.cells #[.bool d, u1, u2] 25)).alloc (.cells #[.bool false, .slice none 0 0, .slice none 0 0] 25)).heap.size (((w.alloc (.cells #[.bool c, v1, v2] 25)).alloc (.cells #[.bool d, u1, u2] 25)).alloc (.cells #[.bool false, .slice none 0 0, .slice none 0 0] 25)) w1) :
    Box w1 w.heap.size c v1 v2 ∧ Box w1 (w.heap.size + 1) d u1 u2 ∧ Box w1 (w.heap.size + 2) false (.slice none 0 0) (.slice none 0 0) ∧ Below w.heap.size w w1 := by
  have e1 : (w.alloc (.cells #[.bool c, v1, v2] 25)).heap.size = w.heap.size + 1 := by simp
  have e2 : ((w.alloc (.cells #[.bool c, v1, v2] 25)).alloc (.cells #[.bool d, u1, u2] 25)).heap.size = w.heap.size + 2 := by simp
  refine ⟨(((Box.new w c v1 v2).alloc _).alloc _).below (Nat.le_refl _) hb, ?_, ?_, ((((Below.refl _ _).alloc (Nat.le_refl _) _).alloc (by simp) _).alloc (by simp <;> omega) _).trans (hb.mono (by simp; omega))⟩
  · have := ((Box.new (w.alloc (.cells #[.bool c, v1, v2] 25)) d u1 u2).alloc _).below (Nat.le_refl _) hb
    rwa [e1] at this
  · have := (Box.new ((w.alloc (.cells #[.bool c, v1, v2] 25)).alloc (.cells #[.bool d, u1, u2] 25)) false (.slice none 0 0) (.slice none 0 0)).below (Nat.le_refl _) hb
    rwa [e2] at this

end Go.Proofs.YtgjpchnkodnieaaGreatDoor
namespace Go.Proofs.YtgjpchnkodnieaaGreatDoor
open Go.RowKit

/-- A variable of a law that holds an array: its box and what its two slices read as. -/
structure Var (W : World) (p : Nat) (c : Bool) (e1 : Option Addr) (k1 f1 : Nat) (e2 : Option Addr) (k2 f2 : Nat) (sh dt : List Int) : Prop where
  box : Box W p c (.slice e1 k1 f1) (.slice e2 k2 f2)
  r1 : Row W e1 k1 sh
  r2 : Row W e2 k2 dt

section
variable {W V : World} {p : Nat} {c : Bool} {e1 e2 : Option Addr} {k1 f1 k2 f2 : Nat} {sh dt : List Int}
theorem Var.below (h : Var W p c e1 k1 f1 e2 k2 f2 sh dt) (hb : Below W.heap.size W V) : Var V p c e1 k1 f1 e2 k2 f2 sh dt :=
  ⟨h.box.below (Nat.le_refl _) hb, h.r1.below (Nat.le_refl _) hb, h.r2.below (Nat.le_refl _) hb⟩
theorem Var.cells (h : Var W p c e1 k1 f1 e2 k2 f2 sh dt) : W.cell? ⟨p, 0, none⟩ = some (.bool c) ∧ W.cell? ⟨p, 1, none⟩ = some (.slice e1 k1 f1) ∧ W.cell? ⟨p, 2, none⟩ = some (.slice e2 k2 f2) := h.box.cells
/-- A new variable, its box laid last. -/
theorem Var.new (r1 : Row W e1 k1 sh) (r2 : Row W e2 k2 dt) : Var (W.alloc (.cells #[.bool c, .slice e1 k1 f1, .slice e2 k2 f2] 25 (0, 0))) W.heap.size c e1 k1 f1 e2 k2 f2 sh dt :=
  ⟨Box.new W _ _ _, r1.alloc _, r2.alloc _⟩
/-- .. or written into a box that lies. -/
theorem Var.put {x : Bool} {a1 a2 : Option Addr} {l1 l2 m1 m2 : Nat} (h : Box W p x (.slice a1 l1 m1) (.slice a2 l2 m2)) (r1 : Row W e1 k1 sh) (r2 : Row W e2 k2 dt) : Var (((W.setCell ⟨p, 0, none⟩ (.bool c)).setCell ⟨p, 1, none⟩ (.slice e1 k1 f1)).setCell ⟨p, 2, none⟩ (.slice e2 k2 f2)) p c e1 k1 f1 e2 k2 f2 sh dt :=
  ⟨h.sets, r1.sets h _ _ _, r2.sets h _ _ _⟩
/-- Another variable's box is written. -/
theorem Var.but {q : Nat} {x : Bool} {a1 a2 : Option Addr} {l1 l2 m1 m2 : Nat} (h : Var W p c e1 k1 f1 e2 k2 f2 sh dt) (hq : Box W q x (.slice a1 l1 m1) (.slice a2 l2 m2)) (hb : But (fun y => y = q) W V) (hp : ¬ p = q) : Var V p c e1 k1 f1 e2 k2 f2 sh dt :=
  ⟨h.box.but hb hp, hb.row h.r1 (fun _ hx hh => h.r1.notBox hq hh hx), hb.row h.r2 (fun _ hx hh => h.r2.notBox hq hh hx)⟩
end

end Go.Proofs.YtgjpchnkodnieaaGreatDoor
namespace Go.Proofs.YtgjpchnkodnieaaGreatDoor
open Go.RowKit

/-- Block pr holds a reader of at most 1000 bytes, which lie below it. -/
def RdOk (w : World) (pr : Nat) : Prop :=
  ∃ (a : Option Addr) (n c p : Nat), w.heap[pr]? = some (.cells #[.slice a n c, .int .i64 (p : Nat)] 157 (0, 0)) ∧ n ≤ 1000 ∧ p ≤ n ∧ (n = 0 ∨ ∃ b off, a = some ⟨b, off, none⟩ ∧ b < pr ∧ ∀ i, i < n → ∃ v : Nat, v ≤ 255 ∧ w.cell? ⟨b, off + i, none⟩ = some (.int .u8 (v : Nat)))

theorem RdOk.lt {w : World} {pr : Nat} (h : RdOk w pr) : pr < w.heap.size := by obtain ⟨a, n, c, p, hc, _⟩ := h; exact lt_of_block hc

theorem RdOk.but {S : Nat → Prop} {w w' : World} {pr : Nat} (h : RdOk w pr) (hb : But S w w') (hs : ∀ k, S k → pr < k) : RdOk w' pr := by
  have hl := h.lt
  obtain ⟨a, n, c, p, hc, h1, h2, h3⟩ := h
  refine ⟨a, n, c, p, (hb.block pr hl (fun e => by have := hs _ e; omega)).trans hc, h1, h2, ?_⟩
  rcases h3 with h3 | ⟨b, off, e, hbl, hv⟩
  · exact .inl h3
  · refine .inr ⟨b, off, e, hbl, fun i hi => ?_⟩
    obtain ⟨v, hv1, hv2⟩ := hv i hi
    exact ⟨v, hv1, (hb.cellAt (by omega) (fun e => by have := hs _ e; omega)).trans hv2⟩

theorem RdOk.below {w w' : World} {pr : Nat} (h : RdOk w pr) (hb : Below w.heap.size w w') : RdOk w' pr := h.but (S := fun _ => False) (But.of_below hb) (fun _ h => h.elim)

theorem RdOk.set {w : World} {pr : Nat} {a : Option Addr} {n c p q : Nat} (hc : w.heap[pr]? = some (.cells #[.slice a n c, .int .i64 (p : Nat)] 157 (0, 0))) (h1 : n ≤ 1000) (h2 : q ≤ n) (h3 : n = 0 ∨ ∃ b off, a = some ⟨b, off, none⟩ ∧ b < pr ∧ ∀ i, i < n → ∃ v : Nat, v ≤ 255 ∧ w.cell? ⟨b, off + i, none⟩ = some (.int .u8 (v : Nat))) : RdOk (w.setCell ⟨pr, 1, none⟩ (.int .i64 (q : Nat))) pr := by
  refine ⟨a, n, c, q, ?_, h1, h2, ?_⟩
  · rw [heap_setCell_same w pr 1 _ _ _ hc]
    simp
  · rcases h3 with h3 | ⟨b, off, e, hbl, hv⟩
    · exact .inl h3
    · refine .inr ⟨b, off, e, hbl, fun i hi => ?_⟩
      obtain ⟨v, hv1, hv2⟩ := hv i hi
      exact ⟨v, hv1, (World.cell?_setCell_other _ _ _ _ (by simp)).trans hv2⟩

set_option maxHeartbeats 2000000 in
theorem next_any (pr : Nat) (w : World) (h : RdOk w pr) :
    Calls Tryz.prog 45 #[.pointer (some ⟨pr, 0, none⟩)] w fun e w' => (∃ v : Nat, v ≤ 255 ∧ e = .returned (.int .i64 (v : Nat))) ∧ RdOk w' pr ∧ But (fun x => x = pr) w w' := by
  have hl := h.lt
  have HR := hide h
  obtain ⟨a, n, c, p, hc, h1, h2, h3⟩ := h
  have HC := hide hc
  have H3 := hide h3
  have c0 : w.cell? ⟨pr, 0, none⟩ = some (.slice a n c) := by simp [World.cell?, hc]
  have c1 : w.cell? ⟨pr, 1, none⟩ = some (.int .i64 (p : Nat)) := by simp [World.cell?, hc]
  have f1 : w.frozen? ⟨pr, 1, none⟩ = false := frozen_of_row w pr 1 _ _ hc
  by_cases hlt : p < n
  · rcases h3 with h0 | ⟨b, off, rfl, hbl, hv⟩
    · omega
    obtain ⟨v, hv1, hv2⟩ := hv p hlt
    have hw : IntKind.i64.wrap (v : Int) = (v : Int) := by rw [IntKind.wrap_i64]; omega
    have HLT := hide hlt
    clear hlt hv hc
    go_enter Tryz.func45, Tryz.ntmps45
    go_wp2_with fail
    have hd : decide ((p : Int) < (n : Int)) = true := decide_eq_true (by have := unhide HLT; omega)
    go_big_quiet (fail)
    have hlt := unhide HLT
    clear hd
    go_wp2_with fail
    have hpz : (p : Int) < (n : Int) := by omega
    go_quiet (fail)
    go_wp2_with fail
    go_ret
    refine ⟨⟨v, hv1, rfl⟩, ?_, ?_⟩
    · exact RdOk.set (q := p + 1) (unhide HC) h1 (by omega) (unhide H3)
    · first | exact (But.of_below (S := fun x => x = pr) (Below.drewN (Below.refl _ w) _)).setCell (p := ⟨pr, 1, none⟩) rfl _ | exact (But.of_below (S := fun x => x = pr) (Below.drewN (Below.drewN (Below.refl _ w) _) _)).setCell (p := ⟨pr, 1, none⟩) rfl _
  · have HLT := hide hlt
    clear hlt h3 hc
    go_enter Tryz.func45, Tryz.ntmps45
    go_wp2_with fail
    have hd : decide ((p : Int) < (n : Int)) = false := decide_eq_false (by have := unhide HLT; omega)
    go_big_quiet (fail)
    have hlt := unhide HLT
    clear hd
    go_wp2_with fail
    go_ret
    exact ⟨⟨0, by omega, rfl⟩, (unhide HR).below (Below.drewN (Below.refl _ _) _), But.of_below (Below.drewN (Below.refl _ _) _)⟩

end Go.Proofs.YtgjpchnkodnieaaGreatDoor
namespace Go.Proofs.YtgjpchnkodnieaaGreatDoor
open Go.RowKit

theorem modN (k m : Nat) (hm : 0 < m) : ∃ j : Nat, j < m ∧ (k : Int).tmod (m : Int) = (j : Int) ∧ (k : Int) % (m : Int) = (j : Int) := ⟨k % m, Nat.mod_lt _ hm, by rw [Int.tmod_eq_emod_of_nonneg (by omega)]; rfl, rfl⟩

theorem lits (w : World) (l : List Int) (j : Nat) (hj : j < l.length) : (w.alloc (.cells (l.map (Value.int .i64)).toArray 3)).cell? ⟨w.heap.size, j, none⟩ = some (.int .i64 (l.getD j 0)) :=
  Blk.cell (show Blk _ _ l from World.alloc_heap_new w _) hj

theorem rank_lit (j : Nat) (hj : j < 12) : ∃ rk : Nat, (rk : Int) = ([1, 1, 1, 0, 2, 2, 3, 0, 2, 4, 1, 5] : List Int).getD j 0 ∧ rk ≤ 5 := by
  have : j = 0 ∨ j = 1 ∨ j = 2 ∨ j = 3 ∨ j = 4 ∨ j = 5 ∨ j = 6 ∨ j = 7 ∨ j = 8 ∨ j = 9 ∨ j = 10 ∨ j = 11 := by omega
  rcases this with rfl | rfl | rfl | rfl | rfl | rfl | rfl | rfl | rfl | rfl | rfl | rfl <;>
    first | (refine ⟨0, ?_⟩; simp; done) | (refine ⟨1, ?_⟩; simp; done) | (refine ⟨2, ?_⟩; simp; done) | (refine ⟨3, ?_⟩; simp; done) | (refine ⟨4, ?_⟩; simp; done) | (refine ⟨5, ?_⟩; simp; done)

set_option maxRecDepth 20000 in
set_option maxHeartbeats 2000000 in
theorem l3Num_any (pr : Nat) (w : World) (h : RdOk w pr) :
    Calls Tryz.prog 178 #[.pointer (some ⟨pr, 0, none⟩)] w fun e w' => (∃ v : Int, -1000000000000000 ≤ v ∧ v ≤ 1000000000000000 ∧ e = .returned (.int .i64 v)) ∧ RdOk w' pr ∧ But (fun x => x = pr) w w' := by
  have hcall := next_any pr w h
  clear h
  go_enter Tryz.func178, Tryz.ntmps178
  go_wp2_with fail
  refine hcall.mono ?_
  rintro e w1 ⟨⟨k, hk, rfl⟩, hr, hb⟩
  have HR := hide hr
  have HB := hide hb
  clear hr hb hcall
  by_cases h8 : 248 ≤ k
  · have h8z : (248 : Int) ≤ (k : Int) := by omega
    obtain ⟨j, hj, q1, q2⟩ := modN k 4 (by omega)
    have hc := lits w1 [1000000000000000, -1000000000000000, 999999999, 40000000] j (by simpa using hj)
    obtain ⟨x, hx⟩ : ∃ x, x = ([1000000000000000, -1000000000000000, 999999999, 40000000] : List Int).getD j 0 := ⟨_, rfl⟩
    have hxb : -1000000000000000 ≤ x ∧ x ≤ 1000000000000000 := by
      rw [hx]
      have : j = 0 ∨ j = 1 ∨ j = 2 ∨ j = 3 := by omega
      rcases this with rfl | rfl | rfl | rfl <;> simp
    rw [← hx] at hc
    simp only [List.map_cons, List.map_nil] at hc
    have hjz : (j : Int) < 4 := by omega
    have q1' : (k : Int).tmod 4 = (j : Int) := q1
    have q2' : (k : Int) % 4 = (j : Int) := q2
    have hw4 : IntKind.i64.wrap (j : Int) = (j : Int) := by rw [IntKind.wrap_i64]; omega
    clear hx q1 q2
    go_wp2_with fail
    go_ret
    exact ⟨⟨x, hxb.1, hxb.2, rfl⟩, (unhide HR).below ((Below.refl _ _).alloc (Nat.le_refl _) _), (unhide HB).alloc _⟩
  · have h8z : ¬ (248 : Int) ≤ (k : Int) := by omega
    obtain ⟨j, hj, q1, q2⟩ := modN k 23 (by omega)
    have q1' : (k : Int).tmod 23 = (j : Int) := q1
    have q2' : (k : Int) % 23 = (j : Int) := q2
    have hw : IntKind.i64.wrap ((j : Int) - 6) = (j : Int) - 6 := by rw [IntKind.wrap_i64]; omega
    clear q1 q2
    go_wp2_with fail
    go_ret
    exact ⟨⟨(j : Int) - 6, by omega, by omega, rfl⟩, unhide HR, unhide HB⟩

theorem owns_but {S : Nat → Prop} {w w' : World} {base n g cap : Nat} {xs : List Value} (h : w.ownsRow base 3 1 (.slice (some ⟨g, 0, none⟩) n cap) n xs) (hb : But S w w') (hs : ¬ S g) : w'.ownsRow base 3 1 (.slice (some ⟨g, 0, none⟩) n cap) n xs := by
  refine ⟨h.1, ?_⟩
  rcases h.2 with h0 | ⟨g', cap', cur, e, hge, hh, hr⟩
  · exact .inl h0
  · cases e
    exact .inr ⟨g, cap, cur, rfl, hge, (hb.block g (lt_of_block hh) hs).trans hh, hr⟩

theorem owns_ne {w : World} {base n g cap pr : Nat} {xs : List Value} {a : Option Addr} {l c p : Nat} (h : w.ownsRow base 3 1 (.slice (some ⟨g, 0, none⟩) n cap) n xs) (hp : w.heap[pr]? = some (.cells #[.slice a l c, .int .i64 (p : Nat)] 157 (0, 0))) : g ≠ pr := by
  rcases h.2 with ⟨e, _⟩ | ⟨g', cap', cur, e, hge, hh, hr⟩
  · cases e
  · cases e
    intro e
    subst e
    rw [hp] at hh
    have := congrArg (fun o => match o with | some (.cells _ t _) => t | _ => 0) hh
    simp at this

theorem but_grown {w w1 : World} {o : Obj} {g : Nat} (hg : (w.alloc o).grownBy w1 (some g)) : But (fun x => x = g) w w1 :=
  ⟨hg.os, hg.tape, hg.output, by have := hg.size; simp at this; omega, fun k hk hn => (hg.block k (by simp; omega) (fun e => hn (by simpa using e))).trans (Below.heap_alloc w o k hk)⟩

theorem owns_from {w : World} {base n g cap : Nat} {xs : List Value} (h : w.ownsRow base 3 1 (.slice (some ⟨g, 0, none⟩) n cap) n xs) : base ≤ g := by
  rcases h.2 with ⟨e, _⟩ | ⟨g', cap', cur, e, hge, hh, hr⟩
  · cases e
  · cases e; exact hge

/-- What an append to a list of the draw's own leaves. -/
theorem draw_grown {w w2 w3 : World} {o : Obj} {pr g : Nat} (hr : RdOk w2 pr) (hb : But (fun x => x = pr) w w2) (hp : pr < w.heap.size) (hge : w.heap.size ≤ g) (hg : (w2.alloc o).grownBy w3 (some g)) : RdOk w3 pr ∧ But (fun x => x = pr) w w3 := by
  have h := but_grown hg
  refine ⟨hr.but h (by rintro k rfl; omega), ?_⟩
  exact ⟨h.os.trans hb.os, h.tape.trans hb.tape, h.output.trans hb.output, by have := h.size; have := hb.size; omega, fun k hk hn => (h.block k (by have := hb.size; omega) (by rintro rfl; omega)).trans (hb.block k hk hn)⟩

set_option maxRecDepth 20000 in
set_option maxHeartbeats 4000000 in
theorem l3Shape_any (pr : Nat) (w : World) (h : RdOk w pr) :
    Calls Tryz.prog 134 #[.pointer (some ⟨pr, 0, none⟩)] w fun e w' => (∃ (g n cap : Nat) (zs : List Int), e = .returned (.slice (some ⟨g, 0, none⟩) n cap) ∧ n ≤ 5 ∧ w'.ownsRow w.heap.size 3 1 (.slice (some ⟨g, 0, none⟩) n cap) n (zs.map (Value.int .i64))) ∧ RdOk w' pr ∧ But (fun x => x = pr) w w' := by
  have hcall := next_any pr w h
  have hlw := h.lt
  clear h
  obtain ⟨i0, hi, hz0, hz1, hz2⟩ := info_parts info_int
  go_enter Tryz.func134, Tryz.ntmps134
  go_wp2_with fail
  refine hcall.mono ?_
  rintro e w1 ⟨⟨k, hk, rfl⟩, hr, hb⟩
  have HR := hide hr
  have HB := hide hb
  clear hr hb hcall
  obtain ⟨j, hj, q1, q2⟩ := modN k 12 (by omega)
  have q1' : (k : Int).tmod 12 = (j : Int) := q1
  have q2' : (k : Int) % 12 = (j : Int) := q2
  have hc := lits w1 [1, 1, 1, 0, 2, 2, 3, 0, 2, 4, 1, 5] j (by simpa using hj)
  obtain ⟨rk, hrk, hrk5⟩ := rank_lit j hj
  rw [← hrk] at hc
  simp only [List.map_cons, List.map_nil] at hc
  have hjz : (j : Int) < 12 := by omega
  have hw12 : IntKind.i64.wrap (j : Int) = (j : Int) := by rw [IntKind.wrap_i64]; omega
  clear hrk q1 q2
  go_wp2_with fail
  obtain ⟨W, hW⟩ : ∃ W, W = (w1.alloc (.cells #[.int .i64 1, .int .i64 1, .int .i64 1, .int .i64 0, .int .i64 2, .int .i64 2, .int .i64 3, .int .i64 0, .int .i64 2, .int .i64 4, .int .i64 1, .int .i64 5] 3)).alloc (.cells #[] 3) := ⟨_, rfl⟩
  have HRW : Hid (RdOk W pr) := by rw [hW]; exact ((unhide HR).below ((Below.refl _ _).alloc (Nat.le_refl _) _)).below ((Below.refl _ _).alloc (Nat.le_refl _) _)
  have HBW : Hid (But (fun x => x = pr) w W) := by rw [hW]; exact ((unhide HB).alloc _).alloc _
  have HOW : Hid (W.ownsRow w.heap.size 3 1 (.slice (some ⟨w1.heap.size + 1, 0, none⟩) 0 0) 0 (([] : List Int).map (Value.int .i64))) := by
    rw [hW]
    have := owns_empty (w1.alloc (.cells #[.int .i64 1, .int .i64 1, .int .i64 1, .int .i64 0, .int .i64 2, .int .i64 2, .int .i64 3, .int .i64 0, .int .i64 2, .int .i64 4, .int .i64 1, .int .i64 5] 3))
    rw [World.size_alloc] at this
    exact owns_mono this (by have := (unhide HB).size; omega)
  rw [← hW]
  clear hW hc HR HB q1' q2' hw12
  generalize w1.heap.size + 1 = g0 at *
  go_loopw [5, 6] (fun v i wr => ∃ (n g cap : Nat) (zs : List Int), n ≤ rk ∧ i = .int .i64 (n : Nat) ∧ v = .slice (some ⟨g, 0, none⟩) n cap ∧ Hid (wr.ownsRow w.heap.size 3 1 (.slice (some ⟨g, 0, none⟩) n cap) n (zs.map (Value.int .i64))) ∧ Hid (RdOk wr pr) ∧ Hid (But (fun x => x = pr) w wr)) (fun _ i _ => rk - (intOf i).toNat)
  case atStart => exact ⟨0, g0, 0, [], Nat.zero_le _, rfl, rfl, HOW, HRW, HBW⟩
  case round =>
    clear HOW HRW HBW
    obtain ⟨n, g, cap, zs, hn, rfl, rfl, ho, hr, hb⟩ := hrel
    by_cases hlt : n < rk
    · have hnz : (n : Int) < (rk : Int) := by omega
      have hcall := next_any pr wr (unhide hr)
      have HNE : Hid (g ≠ pr) := by obtain ⟨_, _, _, _, hp, _⟩ := unhide hr; exact owns_ne (unhide ho) hp
      go_upto_if 25 with (go_at_call 45; refine hcall.mono ?_; rintro e w2 ⟨⟨v, hv, rfl⟩, hr2, hb2⟩; have HR2 := hide hr2; have HB2' := hide hb2; obtain ⟨j5, hj5, q5, q5'⟩ := modN v 5 (by omega); (have r5 : (v : Int).tmod 5 = (j5 : Int) := q5); (have r5' : (v : Int) % 5 = (j5 : Int) := q5'); clear hr2 hb2 q5 q5')
      have HB2 : Hid (But (fun x => x = pr) w w2) := ((unhide hb).trans (unhide HB2')).mono (by rintro x (h | h) <;> exact h)
      have HO2 : Hid (w2.ownsRow w.heap.size 3 1 (.slice (some ⟨g, 0, none⟩) n cap) n (zs.map (Value.int .i64))) := owns_but (unhide ho) (unhide HB2') (unhide HNE)
      clear r5 r5' ho hr hb HB2' hcall
      go_cut [7] (fun v wx => w2 = wx ∧ ∃ m : Nat, m ≤ 4 ∧ v = .int .i64 (m : Nat))
      case first => as_aux_lemma =>
        by_cases h3 : 3 < rk
        · have h3z : (3 : Int) < (rk : Int) := by omega
          obtain ⟨j2, hj2, q2, q2'⟩ := modN j5 2 (by omega)
          have r2 : (j5 : Int).tmod 2 = (j2 : Int) := q2
          have r2' : (j5 : Int) % 2 = (j2 : Int) := q2'
          clear q2 q2'
          go_wp2_with fail
          go_meet
          case rel => exact ⟨rfl, j2 + 1, by omega, by simp⟩
        · have h3z : ¬ (3 : Int) < (rk : Int) := by omega
          go_wp2_with fail
          go_meet
          case rel => exact ⟨rfl, j5, by omega, rfl⟩
      case rest =>
        obtain ⟨rfl, m, hm4, rfl⟩ := hcut
        go_upto_region 10 with fail
        go_cut [34] (fun v wx => w2 = wx ∧ ∃ b : Bool, v = .bool b)
        case first => as_aux_lemma =>
          by_cases hm0 : m = 0
          · have g0 : ((m : Int) == 0) = true := by simp [hm0]
            go_wp2_with fail
            go_meet
            case rel => exact ⟨rfl, _, rfl⟩
          · have g0 : ((m : Int) == 0) = false := by simp; omega
            go_wp2_with fail
            go_meet
            case rel => exact ⟨rfl, _, rfl⟩
        case rest =>
          obtain ⟨rfl, b, rfl⟩ := hcut
          go_upto_if 34 with fail
          go_cut [7] (fun v wx => w2 = wx ∧ ∃ m : Nat, m ≤ 4 ∧ v = .int .i64 (m : Nat))
          case first => as_aux_lemma =>
            cases b
            · go_wp2_with fail
              go_meet
              case rel => exact ⟨rfl, m, by omega, rfl⟩
            · go_wp2_with fail
              go_meet
              case rel => exact ⟨rfl, 2, by omega, rfl⟩
          case rest =>
            obtain ⟨rfl, m', hm4', rfl⟩ := hcut
            have hsz2 := (unhide HB2).size
            go_wp2_with (at_builtin; refine wpList_append_lies _ rfl _ _ 23 rfl w.heap.size 3 i0 (.int .i64 0) 1 8 Tryz.underlying23 hi hz0 hz1 hz2 rfl (by decide) _ _ _ rfl (owns_below (unhide HO2) (Nat.le_refl _) ((Below.refl _ _).alloc (Nat.le_refl _) _)) ⟨w2.heap.size, 0, none⟩ 1 1 [.int .i64 (m' : Nat)] rfl rfl (cells_new _ _) (one_one _) (by omega) (by unfold maxLen; omega) (by omega) (by simp; omega) (w2.heap.size + 1) (by simp) ?_; intro g' cap' w7 hown' hgrow hat hlt7; have HOW := hide hown'; have HD := hide (draw_grown (unhide HR2) (unhide HB2) hlw (owns_from (unhide HO2)) hgrow); clear hown' hgrow hat hlt7)
            go_roundw
            case rel => exact ⟨n + 1, g', cap', zs ++ [(m' : Int)], by omega, by go_num, rfl, by show World.ownsRow _ _ _ _ _ _ _; rw [List.map_append]; exact unhide HOW, hide (unhide HD).1, hide (unhide HD).2⟩
            case measure => simp [intOf]; omega
    · have e : n = rk := by omega
      subst e
      go_wp2_with fail
      go_ret
      exact ⟨⟨g, n, cap, zs, rfl, hrk5, unhide ho⟩, unhide hr, unhide hb⟩

end Go.Proofs.YtgjpchnkodnieaaGreatDoor
namespace Go.Proofs.YtgjpchnkodnieaaGreatDoor
open Go.RowKit

theorem Blk.new (w : World) : Blk (w.alloc (.cells #[] 3)) w.heap.size [] := by
  show (w.heap.push _)[w.heap.size]? = _
  simp

theorem Blk.owns {w : World} {g base : Nat} (h : Blk w g []) (hb : base ≤ g) : w.ownsRow base 3 1 (.slice (some ⟨g, 0, none⟩) 0 0) 0 [] :=
  ⟨by simp, .inr ⟨g, 0, #[], rfl, hb, h, by simp, by unfold maxLen; omega, by simp, by simp⟩⟩

theorem Own.grown {w w1 : World} {B g n : Nat} {a : Option Addr} {zs : List Int} (h : Own w B a n zs) (o : Obj) (hg : (w.alloc o).grownBy w1 (some g)) (hne : ∀ x, At a n x → x ≠ g) : Own w1 B a n zs := by
  refine ⟨h.len, h.small, ?_⟩
  rcases h.at_ with h0 | ⟨b, off, rfl, hb, hlt, hc, hf⟩
  · exact .inl h0
  · by_cases hn : n = 0
    · exact .inl hn
    have hk : w1.heap[b]? = w.heap[b]? := (hg.block b (by simp; omega) (fun e => hne b (at_self hn) (by simpa using e))).trans (Below.heap_alloc w o b hlt)
    refine .inr ⟨b, off, rfl, hb, ?_, fun i hi => (World.cell?_of_block (w := w) (a := ⟨b, off + i, none⟩) hk).trans (hc i hi), fun i hi => (World.frozen?_of_block (w := w) (a := ⟨b, off + i, none⟩) hk).trans (hf i hi)⟩
    rcases Nat.lt_or_ge b w1.heap.size with h1 | h1
    · exact h1
    · rw [Array.getElem?_eq_none h1, Array.getElem?_eq_getElem hlt] at hk; cases hk

/-- A struct of an array is laid whose shape reads as zs and whose numbers are none yet; all of it is new. -/
def Laid (w2 : World) (c : Bool) (m : Nat) (zs : List Int) (r : Value) (wx : World) : Prop :=
  ∃ p g ash csh, r = .pointer (some ⟨p, 0, none⟩) ∧ Box wx p c (.slice ash m csh) (.slice (some ⟨g, 0, none⟩) 0 0) ∧ Blk wx g [] ∧ Own wx w2.heap.size ash m zs ∧ Below w2.heap.size w2 wx ∧ w2.heap.size ≤ p ∧ w2.heap.size ≤ g ∧ ∀ x, At ash m x → x ≠ g

theorem laid_cbz {w2 wA : World} {c : Bool} {m csh : Nat} {zs : List Int} {ash : Option Addr} (hO : Own wA w2.heap.size ash m zs) (hK : Below w2.heap.size w2 wA) : Laid w2 c m zs (.pointer (some ⟨wA.heap.size + 1, 0, none⟩)) ((wA.alloc (.cells #[] 3)).alloc (.cells #[.bool c, .slice ash m csh, .slice (some ⟨wA.heap.size, 0, none⟩) 0 0] 25)) := by
  have hs := hK.size
  refine ⟨wA.heap.size + 1, wA.heap.size, ash, csh, rfl, ?_, (Blk.new wA).alloc _, (hO.alloc _).alloc _, (hK.alloc hs _).alloc (by simp; omega) _, by omega, by omega, fun x hx => by have := hO.row.hi hx; omega⟩
  have := Box.new (wA.alloc (.cells #[] 3)) c (.slice ash m csh) (.slice (some ⟨wA.heap.size, 0, none⟩) 0 0)
  simpa using this

theorem laid_czb {w2 wA : World} {c : Bool} {m csh : Nat} {zs : List Int} {ash : Option Addr} (hO : Own wA w2.heap.size ash m zs) (hK : Below w2.heap.size w2 wA) : Laid w2 c m zs (.pointer (some ⟨wA.heap.size, 0, none⟩)) ((wA.alloc (.cells #[.bool c, .slice ash m csh, .slice (some ⟨wA.heap.size + 1, 0, none⟩) 0 0] 25)).alloc (.cells #[] 3)) := by
  have hs := hK.size
  refine ⟨wA.heap.size, wA.heap.size + 1, ash, csh, rfl, (Box.new _ _ _ _).alloc _, ?_, (hO.alloc _).alloc _, (hK.alloc hs _).alloc (by simp; omega) _, by omega, by omega, fun x hx => by have := hO.row.hi hx; omega⟩
  have := Blk.new (wA.alloc (.cells #[.bool c, .slice ash m csh, .slice (some ⟨wA.heap.size + 1, 0, none⟩) 0 0] 25))
  simpa using this

theorem laid_bcz {w2 wA : World} {c : Bool} {m csh : Nat} {zs : List Int} {ash : Option Addr} {g : Nat} (hO : Own wA w2.heap.size ash m zs) (hK : Below w2.heap.size w2 wA) (hQ : Blk wA g []) (hg : w2.heap.size ≤ g) (hne : ∀ x, At ash m x → x ≠ g) : Laid w2 c m zs (.pointer (some ⟨wA.heap.size, 0, none⟩)) (wA.alloc (.cells #[.bool c, .slice ash m csh, .slice (some ⟨g, 0, none⟩) 0 0] 25)) :=
  ⟨wA.heap.size, g, ash, csh, rfl, Box.new _ _ _ _, hQ.alloc _, hO.alloc _, hK.alloc hK.size _, hK.size, hg, hne⟩

theorem Blk.notBox {w : World} {g p : Nat} {c : Bool} {v1 v2 : Value} (h : Blk w g []) (hb : Box w p c v1 v2) : g ≠ p := by
  rintro rfl
  unfold Blk at h
  unfold Box at hb
  rw [h] at hb
  simp at hb

theorem laid_zc {w2 wA : World} {c : Bool} {m csh : Nat} {zs : List Int} {ash : Option Addr} {g p : Nat} {c' : Bool} {a1 a2 : Option Addr} {l1 l2 k1 k2 : Nat} (hO : Own wA w2.heap.size ash m zs) (hK : Below w2.heap.size w2 wA) (hP : Box wA p c' (.slice a1 l1 k1) (.slice a2 l2 k2)) (hp : w2.heap.size ≤ p) (hQ : Blk wA g []) (hg : w2.heap.size ≤ g) (hne : ∀ x, At ash m x → x ≠ g) :
    Laid w2 c m zs (.pointer (some ⟨p, 0, none⟩)) (((wA.setCell ⟨p, 0, none⟩ (.bool c)).setCell ⟨p, 1, none⟩ (.slice ash m csh)).setCell ⟨p, 2, none⟩ (.slice (some ⟨g, 0, none⟩) 0 0)) := by
  have hn : ∀ x, At ash m x → x ≠ p := fun x hx => hO.row.notBox hP hx
  have hgp := hQ.notBox hP
  exact ⟨p, g, ash, csh, rfl, hP.sets, ((hQ.other hgp _).other hgp _).other hgp _, ((hO.other hn _).other hn _).other hn _, ((hK.setCell hp _).setCell hp _).setCell hp _, hp, hg, hne⟩

theorem laid_zcb {w2 wA : World} {c : Bool} {m csh : Nat} {zs : List Int} {ash : Option Addr} {p : Nat} {c' : Bool} {a1 a2 : Option Addr} {l1 l2 k1 k2 : Nat} (hO : Own wA w2.heap.size ash m zs) (hK : Below w2.heap.size w2 wA) (hP : Box wA p c' (.slice a1 l1 k1) (.slice a2 l2 k2)) (hp : w2.heap.size ≤ p) :
    Laid w2 c m zs (.pointer (some ⟨p, 0, none⟩)) ((((wA.setCell ⟨p, 0, none⟩ (.bool c)).setCell ⟨p, 1, none⟩ (.slice ash m csh)).setCell ⟨p, 2, none⟩ (.slice (some ⟨wA.heap.size, 0, none⟩) 0 0)).alloc (.cells #[] 3)) := by
  have hn : ∀ x, At ash m x → x ≠ p := fun x hx => hO.row.notBox hP hx
  refine ⟨p, wA.heap.size, ash, csh, rfl, hP.sets.alloc _, ?_, (((hO.other hn _).other hn _).other hn _).alloc _, (((hK.setCell hp _).setCell hp _).setCell hp _).alloc (by simpa using hK.size) _, hp, hK.size, fun x hx => by have := hO.row.hi hx; omega⟩
  have := Blk.new (((wA.setCell ⟨p, 0, none⟩ (.bool c)).setCell ⟨p, 1, none⟩ (.slice ash m csh)).setCell ⟨p, 2, none⟩ (.slice (some ⟨wA.heap.size, 0, none⟩) 0 0))
  simpa using this

end Go.Proofs.YtgjpchnkodnieaaGreatDoor
namespace Go.Proofs.YtgjpchnkodnieaaGreatDoor
open Go.RowKit

/-- An array that is being drawn lies in box p7, the answer's box p0 is untouched. -/
structure DG (w : World) (pr p0 p7 : Nat) (c : Bool) (v1 : Value) (wr : World) (l : List Int) (n g cap : Nat) : Prop where
  box : Box wr p7 c v1 (.slice (some ⟨g, 0, none⟩) n cap)
  owns : wr.ownsRow w.heap.size 3 1 (.slice (some ⟨g, 0, none⟩) n cap) n (l.map (Value.int .i64))
  res : Box wr p0 false (.slice none 0 0) (.slice none 0 0)
  rd : RdOk wr pr
  but : But (fun x => x = pr) w wr
  h0 : w.heap.size ≤ p0
  h7 : w.heap.size ≤ p7
  hp : pr < w.heap.size

section
variable {w wr w' : World} {pr p0 p7 n g cap g' cap' : Nat} {c : Bool} {v1 : Value} {l : List Int}
theorem DG.next (h : DG w pr p0 p7 c v1 wr l n g cap) (hb : But (fun x => x = pr) wr w') (hr : RdOk w' pr) : DG w pr p0 p7 c v1 w' l n g cap :=
  ⟨h.box.but hb (by have := h.h7; have := h.hp; omega), owns_but h.owns hb (by have := owns_from h.owns; have := h.hp; omega), h.res.but hb (by have := h.h0; have := h.hp; omega), hr, (h.but.trans hb).mono (by rintro x (h | h) <;> exact h), h.h0, h.h7, h.hp⟩

theorem DG.below (h : DG w pr p0 p7 c v1 wr l n g cap) (hb : Below wr.heap.size wr w') : DG w pr p0 p7 c v1 w' l n g cap := h.next (But.of_below hb) (h.rd.below hb)

theorem DG.push (h : DG w pr p0 p7 c v1 wr l n g cap) {x : Int} {o : Obj} (hown : w'.ownsRow w.heap.size 3 1 (.slice (some ⟨g', 0, none⟩) (n + 1) cap') (n + 1) (l.map (Value.int .i64) ++ [.int .i64 x])) (hg : (wr.alloc o).grownBy w' (Value.ownBlock (.slice (some ⟨g, 0, none⟩) n cap))) :
    Box w' p7 c v1 (.slice (some ⟨g, 0, none⟩) n cap) ∧ DG w pr p0 p7 c v1 (w'.setCell ⟨p7, 2, none⟩ (.slice (some ⟨g', 0, none⟩) (n + 1) cap')) (l ++ [x]) (n + 1) g' cap' := by
  have hg' : (wr.alloc o).grownBy w' (some g) := hg
  have hb6 := h.box.grown h.owns o hg
  have hr6 := h.res.grown h.owns o hg
  obtain ⟨hrd, hbt⟩ := draw_grown h.rd h.but h.hp (owns_from h.owns) hg'
  have hs : But (fun x => x = p7) w' (w'.setCell ⟨p7, 2, none⟩ (.slice (some ⟨g', 0, none⟩) (n + 1) cap')) := (But.refl (fun x => x = p7) w').setCell (p := ⟨p7, 2, none⟩) rfl _
  have hp7 := h.h7
  have hp := h.hp
  have hne : p0 ≠ p7 ∨ p0 = p7 := by omega
  refine ⟨hb6, hb6.set2 _, ?_, ?_, hrd.but hs (by rintro k rfl; omega), ?_, h.h0, h.h7, h.hp⟩
  · rw [List.map_append]
    exact owns_box_set hown hb6 _ _
  · by_cases e : p0 = p7
    · subst e
      exfalso
      have h1 := h.box
      have h2 := h.res
      unfold Box at h1 h2
      rw [h1] at h2
      simp at h2
    · exact hr6.other (by simpa using e) _
  · exact ⟨hbt.os, hbt.tape, hbt.output, by have := hbt.size; simpa using this, fun k hk hn => (heap_setCell_other _ _ k _ (by simp; omega)).trans (hbt.block k hk hn)⟩
end

theorem But.setNew {S : Nat → Prop} {w w' : World} (h : But S w w') {p : Addr} (hp : w.heap.size ≤ p.block) (v : Value) : But S w (w'.setCell p v) :=
  ⟨h.os, h.tape, h.output, by have := h.size; simpa using this, fun k hk hn => (heap_setCell_other _ _ k _ (by omega)).trans (h.block k hk hn)⟩

theorem owns_nebox {w : World} {base n g cap p : Nat} {xs : List Value} {c : Bool} {v1 v2 : Value} (h : w.ownsRow base 3 1 (.slice (some ⟨g, 0, none⟩) n cap) n xs) (hp : Box w p c v1 v2) : g ≠ p := by
  rcases h.2 with ⟨e, _⟩ | ⟨g', cap', cur, e, hge, hh, hr⟩
  · cases e
  · cases e
    intro e
    subst e
    unfold Box at hp
    rw [hp] at hh
    have := congrArg (fun o => match o with | some (.cells _ t _) => t | _ => 0) hh
    simp at this

set_option maxRecDepth 20000 in
set_option maxHeartbeats 4000000 in
theorem l3Of_any (pr g1 n1 cap1 : Nat) (c : Bool) (zs : List Int) (w : World) (h : RdOk w pr) (hz : Row w (some ⟨g1, 0, none⟩) n1 zs) (hgp : g1 ≠ pr) :
    Calls Tryz.prog 102 #[.pointer (some ⟨pr, 0, none⟩), .slice (some ⟨g1, 0, none⟩) n1 cap1, .bool c] w fun e w' => (∃ (g n cap : Nat) (l : List Int), e = .returned (.agg #[.bool c, .slice (some ⟨g1, 0, none⟩) n1 cap1, .slice (some ⟨g, 0, none⟩) n cap]) ∧ n ≤ 10000 ∧ w'.ownsRow w.heap.size 3 1 (.slice (some ⟨g, 0, none⟩) n cap) n (l.map (Value.int .i64))) ∧ RdOk w' pr ∧ But (fun x => x = pr) w w' := by
  have hlw := h.lt
  obtain ⟨i0, hi, hz0, hz1, hz2⟩ := info_parts info_int
  obtain ⟨N, hN⟩ : ∃ N, countOf zs = N := ⟨_, rfl⟩
  have HN := hide hN
  have hNb : N ≤ 10000 := by
    rw [← hN]
    unfold countOf
    split
    · rename_i ha
      cases hp : prodFrom zs 1 with
      | none => simp
      | some m =>
        have := prodFrom_bd zs 1 m ha (by omega) (by omega) hp
        simp only
        split <;> omega
    · omega
  obtain ⟨NN, hNN⟩ : ∃ NN : Nat, NN = N.toNat := ⟨_, rfl⟩
  have hN1 : NN ≤ 10000 := by omega
  have HLT : Hid (∀ n : Nat, n < NN → (n : Int) < N) := fun n hn => by omega
  have HGE : Hid (∀ n : Nat, ¬ n < NN → ¬ (n : Int) < N) := fun n hn => by omega
  clear hNN hNb
  have HR := hide h
  have HZ := hide hz
  clear h hz hN
  go_enter Tryz.func102, Tryz.ntmps102
  go_upto_region 2 with fail
  obtain ⟨W, hW⟩ : ∃ W, W = ((w.alloc (.cells #[.bool false, .slice none 0 0, .slice none 0 0] 25)).alloc (.cells #[] 3)).alloc (.cells #[.bool c, .slice (some ⟨g1, 0, none⟩) n1 cap1, .slice (some ⟨w.heap.size + 1, 0, none⟩) 0 0] 25) := ⟨_, rfl⟩
  have HD : Hid (DG w pr w.heap.size (w.heap.size + 1 + 1) c (.slice (some ⟨g1, 0, none⟩) n1 cap1) W [] 0 (w.heap.size + 1) 0) := by
    have hb : Below w.heap.size w W := by rw [hW]; exact (((Below.refl _ w).alloc (Nat.le_refl _) _).alloc (by simp) _).alloc (by simp; omega) _
    have b1 : Box W w.heap.size false (.slice none 0 0) (.slice none 0 0) := by rw [hW]; exact ((Box.new w _ _ _).alloc _).alloc _
    have b2 : Box W (w.heap.size + 1 + 1) c (.slice (some ⟨g1, 0, none⟩) n1 cap1) (.slice (some ⟨w.heap.size + 1, 0, none⟩) 0 0) := by
      rw [hW]
      have := Box.new ((w.alloc (.cells #[.bool false, .slice none 0 0, .slice none 0 0] 25)).alloc (.cells #[] 3)) c (.slice (some ⟨g1, 0, none⟩) n1 cap1) (.slice (some ⟨w.heap.size + 1, 0, none⟩) 0 0)
      rw [World.size_alloc, World.size_alloc] at this
      exact this
    have b3 : Blk W (w.heap.size + 1) [] := by
      rw [hW]
      have := Blk.new (w.alloc (.cells #[.bool false, .slice none 0 0, .slice none 0 0] 25))
      rw [World.size_alloc] at this
      exact this.alloc _
    exact ⟨b2, b3.owns (by omega), b1, (unhide HR).below hb, But.of_below hb, Nat.le_refl _, by omega, hlw⟩
  rw [← hW]
  clear hW
  have HZW : Hid (Row W (some ⟨g1, 0, none⟩) n1 zs) := (unhide HD).but.row (unhide HZ) (by rintro k rfl hk; exact hgp (at_eq hk))
  generalize w.heap.size + 1 + 1 = p7 at *
  generalize w.heap.size + 1 = g0 at *
  go_upto_region 3 with (go_at_call 48; refine (l3Count_eq _ _ _ zs _ (unhide HZW) _ HN).mono ?_; rintro e wq ⟨rfl, hwq⟩; obtain rfl := hwq.symm)
  clear HZW HR HZ
  go_wp2_with fail
  go_loopw [9] (fun i wr => ∃ (n g cap : Nat) (l : List Int), n ≤ NN ∧ i = .int .i64 (n : Nat) ∧ Hid (DG w pr w.heap.size p7 c (.slice (some ⟨g1, 0, none⟩) n1 cap1) wr l n g cap)) (fun i _ => NN - (intOf i).toNat)
  case atStart => exact ⟨0, g0, 0, [], Nat.zero_le _, rfl, HD⟩
  case round =>
    clear HD
    obtain ⟨n, g, cap, l, hn, rfl, hd⟩ := hrel
    by_cases hlt : n < NN
    · have hnz : (n : Int) < N := unhide HLT n hlt
      have hcall := l3Num_any pr wr (unhide hd).rd
      go_upto_if 24 with (go_at_call 178; refine hcall.mono ?_; rintro e w2 ⟨⟨v, hv1, hv2, rfl⟩, hr2, hb2⟩; have HD2 := hide ((unhide hd).next hb2 hr2); clear hr2 hb2)
      clear hd hcall
      go_cut [10] (fun v wx => (∃ x : Int, v = .int .i64 x) ∧ Below w2.heap.size w2 wx)
      case first =>
        cases c with
        | true =>
          obtain ⟨y, hy⟩ : ∃ y : Nat, (y : Int) = v + 1000000000000000 := ⟨(v + 1000000000000000).toNat, by omega⟩
          obtain ⟨j, hj, q1, q2⟩ := modN y 8 (by omega)
          have q1' : (y : Int).tmod 8 = (j : Int) := q1
          have q2' : (y : Int) % 8 = (j : Int) := q2
          have hyb : y ≤ 2000000000000000 := by omega
          have hw0 : v + 1000000000000000 = (y : Int) := hy.symm
          have hw1 : IntKind.i64.wrap (y : Int) = (y : Int) := by rw [IntKind.wrap_i64]; omega
          have hw2 : IntKind.i64.wrap (j : Int) = (j : Int) := by rw [IntKind.wrap_i64]; omega
          have hc := lits w2 [97, 98, 99, 32, 9077, 120, 128512, 233] j (by simpa using hj)
          obtain ⟨x, hx⟩ : ∃ x, x = ([97, 98, 99, 32, 9077, 120, 128512, 233] : List Int).getD j 0 := ⟨_, rfl⟩
          rw [← hx] at hc
          simp only [List.map_cons, List.map_nil] at hc
          have hjz : (j : Int) < 8 := by omega
          clear hx q1 q2 hy hv1 hv2
          go_wp2_with fail
          go_meet
          case rel => exact ⟨⟨x, rfl⟩, (Below.refl _ _).alloc (Nat.le_refl _) _⟩
        | false =>
          go_wp2_with fail
          go_meet
          case rel => exact ⟨⟨v, rfl⟩, Below.refl _ _⟩
      case rest =>
        obtain ⟨w3, hw3⟩ : ∃ x, x = wc := ⟨_, rfl⟩
        subst hw3
        obtain ⟨⟨x, rfl⟩, hb3⟩ := hcut
        have HD3 := hide ((unhide HD2).below hb3)
        clear HD2 hb3
        obtain ⟨y0, y1, y2, y3, y4, y5, y6⟩ := (unhide HD3).box.all
        have hsz3 := (unhide HD3).but.size
        go_wp2_with (at_builtin; refine wpList_append_lies _ rfl _ _ 23 rfl w.heap.size 3 i0 (.int .i64 0) 1 8 Tryz.underlying23 hi hz0 hz1 hz2 rfl (by decide) _ _ _ rfl (owns_below (unhide HD3).owns (Nat.le_refl _) ((Below.refl _ _).alloc (Nat.le_refl _) _)) ⟨w3.heap.size, 0, none⟩ 1 1 [.int .i64 x] rfl rfl (cells_new _ _) (one_one _) (by omega) (by unfold maxLen; omega) (by omega) (by simp; omega) (w3.heap.size + 1) (by simp) ?_; intro g' cap' w7 hown' hgrow hat hlt7; have HD7 := hide ((unhide HD3).push hown' hgrow); clear hown' hgrow hat hlt7 y0 y1 y2 y3 y4 y5 y6; obtain ⟨y0, y1, y2, y3, y4, y5, y6⟩ := (unhide HD7).1.all)
        go_roundw
        case rel => exact ⟨n + 1, g', cap', l ++ [x], by omega, by go_num, hide (unhide HD7).2⟩
        case measure => simp [intOf]; omega
    · have hnz := unhide HGE n hlt
      have hd' := unhide hd
      obtain ⟨y0, y1, y2, y3, y4, y5, y6⟩ := hd'.box.all
      obtain ⟨q0, q1, q2, q3, q4, q5, q6⟩ := hd'.res.all
      clear hd'
      go_wp2_with fail
      have hx := (unhide hd).res.sets (c' := c) (u1 := .slice (some ⟨g1, 0, none⟩) n1 cap1) (u2 := .slice (some ⟨g, 0, none⟩) n cap)
      obtain ⟨r0, r1, r2, _, _, _⟩ := hx.all
      refine bodyPost_ret (v := .agg #[.bool c, .slice (some ⟨g1, 0, none⟩) n1 cap1, .slice (some ⟨g, 0, none⟩) n cap]) (by simp [results, Tryz.results102, go_sem, r0, r1, r2]) rfl ?_
      have hs : But (fun x => x = w.heap.size) wr (((wr.setCell ⟨w.heap.size, 0, none⟩ (.bool c)).setCell ⟨w.heap.size, 1, none⟩ (.slice (some ⟨g1, 0, none⟩) n1 cap1)).setCell ⟨w.heap.size, 2, none⟩ (.slice (some ⟨g, 0, none⟩) n cap)) := (((But.refl (fun x => x = w.heap.size) wr).setCell (p := ⟨w.heap.size, 0, none⟩) rfl _).setCell (p := ⟨w.heap.size, 1, none⟩) rfl _).setCell (p := ⟨w.heap.size, 2, none⟩) rfl _
      exact ⟨⟨g, n, cap, l, rfl, by omega, owns_but (unhide hd).owns hs (owns_nebox (unhide hd).owns (unhide hd).res)⟩, (unhide hd).rd.but hs (by rintro k rfl; omega), (((unhide hd).but.setNew (p := ⟨w.heap.size, 0, none⟩) (Nat.le_refl _) _).setNew (p := ⟨w.heap.size, 1, none⟩) (Nat.le_refl _) _).setNew (p := ⟨w.heap.size, 2, none⟩) (Nat.le_refl _) _⟩

end Go.Proofs.YtgjpchnkodnieaaGreatDoor
namespace Go.Proofs.YtgjpchnkodnieaaGreatDoor
open Go.RowKit

theorem madeList (z : Value) (n : Nat) : madeCells #[z] n = (List.replicate n z).toArray := by
  apply Array.toList_inj.mp
  simpa using toList_madeCells_one z n

theorem Blk.made (w : World) (n g : Nat) (hg : g = w.heap.size) : Blk (w.alloc (.cells (madeCells #[.int .i64 0] n) 3)) g (List.replicate n 0) := by
  subst hg
  show (w.heap.push _)[w.heap.size]? = _
  rw [madeList]
  simp

end Go.Proofs.YtgjpchnkodnieaaGreatDoor
namespace Go.Proofs.YtgjpchnkodnieaaGreatDoor
open Go.RowKit

/-- An array of the draw's own lies in box p4, the answer's box p0 is untouched. -/
def AG (w : World) (pr p0 p4 : Nat) (wx : World) : Prop :=
  ∃ (c : Bool) (a1 a2 : Addr) (n1 n2 c1 c2 : Nat) (sh dt : List Int), Box wx p4 c (.slice (some a1) n1 c1) (.slice (some a2) n2 c2) ∧ Own wx w.heap.size (some a1) n1 sh ∧ Own wx w.heap.size (some a2) n2 dt ∧ n1 ≤ 6 ∧ n2 ≤ 10001 ∧ RdOk wx pr ∧ But (fun x => x = pr) w wx ∧ Box wx p0 false (.slice none 0 0) (.slice none 0 0)

theorem ag_set {w wx : World} {pr p0 p4 : Nat} {c c' : Bool} {v1 v2 : Value} {a1 a2 : Addr} {n1 n2 c1 c2 : Nat} {sh dt : List Int} (hb : Box wx p4 c v1 v2) (o1 : Own wx w.heap.size (some a1) n1 sh) (o2 : Own wx w.heap.size (some a2) n2 dt) (ne1 : ∀ k, At (some a1) n1 k → k ≠ p4) (ne2 : ∀ k, At (some a2) n2 k → k ≠ p4) (h1 : n1 ≤ 6) (h2 : n2 ≤ 10001) (hr : RdOk wx pr) (hbut : But (fun x => x = pr) w wx) (h0 : Box wx p0 false (.slice none 0 0) (.slice none 0 0)) (hp4 : w.heap.size ≤ p4) (hpr : pr < w.heap.size) (hne : p0 ≠ p4) :
    AG w pr p0 p4 (((wx.setCell ⟨p4, 0, none⟩ (.bool c')).setCell ⟨p4, 1, none⟩ (.slice (some a1) n1 c1)).setCell ⟨p4, 2, none⟩ (.slice (some a2) n2 c2)) := by
  have hs : But (fun x => x = p4) wx (((wx.setCell ⟨p4, 0, none⟩ (.bool c')).setCell ⟨p4, 1, none⟩ (.slice (some a1) n1 c1)).setCell ⟨p4, 2, none⟩ (.slice (some a2) n2 c2)) := (((But.refl (fun x => x = p4) wx).setCell (p := ⟨p4, 0, none⟩) rfl _).setCell (p := ⟨p4, 1, none⟩) rfl _).setCell (p := ⟨p4, 2, none⟩) rfl _
  exact ⟨c', a1, a2, n1, n2, c1, c2, sh, dt, hb.sets, hs.own o1 (by rintro k rfl hk; exact ne1 _ hk rfl), hs.own o2 (by rintro k rfl hk; exact ne2 _ hk rfl), h1, h2, hr.but hs (by rintro k rfl; omega), ((hbut.setNew (p := ⟨p4, 0, none⟩) hp4 _).setNew (p := ⟨p4, 1, none⟩) hp4 _).setNew (p := ⟨p4, 2, none⟩) hp4 _, h0.but hs (by show ¬ p0 = p4; exact hne)⟩

theorem own_of_lits (w : World) (B : Nat) (l : List Int) (hB : B ≤ w.heap.size) (hl : l.length ≤ 100) : Own (w.alloc (.cells (l.map (Value.int .i64)).toArray 3)) B (some ⟨w.heap.size, 0, none⟩) l.length l :=
  (show Blk (w.alloc _) w.heap.size l from World.alloc_heap_new w _).own rfl (by omega) hB

theorem divN (k m : Nat) : ∃ j : Nat, j = k / m ∧ (k : Int).tdiv (m : Int) = (j : Int) ∧ (k : Int) / (m : Int) = (j : Int) := ⟨k / m, rfl, by rw [Int.tdiv_eq_ediv_of_nonneg (by omega)]; rfl, rfl⟩

theorem Own.take {w : World} {B n m : Nat} {a : Option Addr} {zs : List Int} (h : Own w B a n zs) (hm : m ≤ n) : Own w B a m (zs.take m) := by
  refine ⟨by rw [List.length_take, h.len]; omega, by have := h.small; omega, ?_⟩
  rcases h.at_ with h0 | ⟨b, off, e, hb, hlt, hc, hf⟩
  · exact .inl (by omega)
  · refine .inr ⟨b, off, e, hb, hlt, fun i hi => ?_, fun i hi => hf i (by omega)⟩
    rw [hc i (by omega)]
    simp [List.getD, hi]

theorem box_set1 {w : World} {p : Nat} {c : Bool} {v1 v2 : Value} (h : Box w p c v1 v2) (v : Value) : Box (w.setCell ⟨p, 1, none⟩ v) p c v v2 := by
  unfold Box at h ⊢
  rw [heap_setCell_same w p 1 _ _ _ h]
  simp

/-- What is known of the array before it is spoilt. -/
structure AW (w : World) (pr p0 p4 : Nat) (c : Bool) (g1 g2 n1 n2 c1 c2 : Nat) (sh dt : List Int) (wx : World) : Prop where
  box : Box wx p4 c (.slice (some ⟨g1, 0, none⟩) n1 c1) (.slice (some ⟨g2, 0, none⟩) n2 c2)
  o1 : wx.ownsRow w.heap.size 3 1 (.slice (some ⟨g1, 0, none⟩) n1 c1) n1 (sh.map (Value.int .i64))
  o2 : wx.ownsRow w.heap.size 3 1 (.slice (some ⟨g2, 0, none⟩) n2 c2) n2 (dt.map (Value.int .i64))
  ne : g1 ≠ g2
  h1 : n1 ≤ 6
  h2 : n2 ≤ 10001
  rd : RdOk wx pr
  but : But (fun x => x = pr) w wx
  b0 : Box wx p0 false (.slice none 0 0) (.slice none 0 0)
  hp : pr < w.heap.size
  h4 : w.heap.size ≤ p4
  h0 : w.heap.size ≤ p0

section
variable {w wx w' : World} {pr p0 p4 g1 g2 n1 n2 c1 c2 : Nat} {c : Bool} {sh dt : List Int}
theorem AW.ag (h : AW w pr p0 p4 c g1 g2 n1 n2 c1 c2 sh dt wx) : AG w pr p0 p4 wx := by
  obtain ⟨_, _, e1, q1⟩ := Own.of_owns h.o1 (by have := h.h1; omega)
  obtain ⟨_, _, e2, q2⟩ := Own.of_owns h.o2 (by have := h.h2; omega)
  cases e1
  cases e2
  exact ⟨c, _, _, n1, n2, c1, c2, sh, dt, h.box, q1, q2, h.h1, h.h2, h.rd, h.but, h.b0⟩

theorem AW.next (h : AW w pr p0 p4 c g1 g2 n1 n2 c1 c2 sh dt wx) (hb : But (fun x => x = pr) wx w') (hr : RdOk w' pr) : AW w pr p0 p4 c g1 g2 n1 n2 c1 c2 sh dt w' :=
  ⟨h.box.but hb (by have := h.h4; have := h.hp; show ¬ p4 = pr; omega), owns_but h.o1 hb (by have := owns_from h.o1; have := h.hp; show ¬ g1 = pr; omega), owns_but h.o2 hb (by have := owns_from h.o2; have := h.hp; show ¬ g2 = pr; omega), h.ne, h.h1, h.h2, hr, (h.but.trans hb).mono (by rintro x (h | h) <;> exact h), h.b0.but hb (by have := h.h0; have := h.hp; show ¬ p0 = pr; omega), h.hp, h.h4, h.h0⟩

theorem AW.p04 (h : AW w pr p0 p4 c g1 g2 n1 n2 c1 c2 sh dt wx) : p0 ≠ p4 := by
  intro e
  subst e
  have h1 := h.box
  have h2 := h.b0
  unfold Box at h1 h2
  rw [h1] at h2
  simp at h2

theorem AW.below (h : AW w pr p0 p4 c g1 g2 n1 n2 c1 c2 sh dt wx) (hb : Below wx.heap.size wx w') : AW w pr p0 p4 c g1 g2 n1 n2 c1 c2 sh dt w' := h.next (But.of_below hb) (h.rd.below hb)

/-- One number more behind the shape. -/
theorem AW.push1 {g' cap' : Nat} {x : Int} {o : Obj} (h : AW w pr p0 p4 c g1 g2 n1 n2 c1 c2 sh dt wx) (hn : n1 ≤ 5) (hown : w'.ownsRow w.heap.size 3 1 (.slice (some ⟨g', 0, none⟩) (n1 + 1) cap') (n1 + 1) (sh.map (Value.int .i64) ++ [.int .i64 x])) (hg : (wx.alloc o).grownBy w' (Value.ownBlock (.slice (some ⟨g1, 0, none⟩) n1 c1))) :
    Box w' p4 c (.slice (some ⟨g1, 0, none⟩) n1 c1) (.slice (some ⟨g2, 0, none⟩) n2 c2) ∧ AG w pr p0 p4 (w'.setCell ⟨p4, 1, none⟩ (.slice (some ⟨g', 0, none⟩) (n1 + 1) cap')) := by
  have hg' : (wx.alloc o).grownBy w' (some g1) := hg
  have hb6 := h.box.grown h.o1 o hg
  have h06 := h.b0.grown h.o1 o hg
  obtain ⟨hrd, hbt⟩ := draw_grown h.rd h.but h.hp (owns_from h.o1) hg'
  have o26 := owns_but h.o2 (but_grown hg') (fun e => h.ne e.symm)
  have hs : But (fun x => x = p4) w' (w'.setCell ⟨p4, 1, none⟩ (.slice (some ⟨g', 0, none⟩) (n1 + 1) cap')) := (But.refl (fun x => x = p4) w').setCell (p := ⟨p4, 1, none⟩) rfl _
  rw [show sh.map (Value.int .i64) ++ [.int .i64 x] = (sh ++ [x]).map (Value.int .i64) by simp] at hown
  obtain ⟨_, _, e1, q1⟩ := Own.of_owns (owns_but hown hs (owns_nebox hown hb6)) (by omega)
  obtain ⟨_, _, e2, q2⟩ := Own.of_owns (owns_but o26 hs (owns_nebox o26 hb6)) (by have := h.h2; omega)
  cases e1
  cases e2
  have hp4 := h.h4
  have hp := h.hp
  exact ⟨hb6, c, _, _, n1 + 1, n2, cap', c2, sh ++ [x], dt, box_set1 hb6 _, q1, q2, by omega, h.h2, hrd.but hs (by rintro k rfl; omega), hbt.setNew (p := ⟨p4, 1, none⟩) hp4 _, h06.but hs (by show ¬ p0 = p4; exact h.p04)⟩

/-- One element more behind the elements. -/
theorem AW.push2 {g' cap' : Nat} {x : Int} {o : Obj} (h : AW w pr p0 p4 c g1 g2 n1 n2 c1 c2 sh dt wx) (hn : n2 ≤ 10000) (hown : w'.ownsRow w.heap.size 3 1 (.slice (some ⟨g', 0, none⟩) (n2 + 1) cap') (n2 + 1) (dt.map (Value.int .i64) ++ [.int .i64 x])) (hg : (wx.alloc o).grownBy w' (Value.ownBlock (.slice (some ⟨g2, 0, none⟩) n2 c2))) :
    Box w' p4 c (.slice (some ⟨g1, 0, none⟩) n1 c1) (.slice (some ⟨g2, 0, none⟩) n2 c2) ∧ AG w pr p0 p4 (w'.setCell ⟨p4, 2, none⟩ (.slice (some ⟨g', 0, none⟩) (n2 + 1) cap')) := by
  have hg' : (wx.alloc o).grownBy w' (some g2) := hg
  have hb6 := h.box.grown h.o2 o hg
  have h06 := h.b0.grown h.o2 o hg
  obtain ⟨hrd, hbt⟩ := draw_grown h.rd h.but h.hp (owns_from h.o2) hg'
  have o16 := owns_but h.o1 (but_grown hg') h.ne
  have hs : But (fun x => x = p4) w' (w'.setCell ⟨p4, 2, none⟩ (.slice (some ⟨g', 0, none⟩) (n2 + 1) cap')) := (But.refl (fun x => x = p4) w').setCell (p := ⟨p4, 2, none⟩) rfl _
  rw [show dt.map (Value.int .i64) ++ [.int .i64 x] = (dt ++ [x]).map (Value.int .i64) by simp] at hown
  obtain ⟨_, _, e1, q1⟩ := Own.of_owns (owns_but o16 hs (owns_nebox o16 hb6)) (by have := h.h1; omega)
  obtain ⟨_, _, e2, q2⟩ := Own.of_owns (owns_but hown hs (owns_nebox hown hb6)) (by omega)
  cases e1
  cases e2
  have hp4 := h.h4
  have hp := h.hp
  exact ⟨hb6, c, _, _, n1, n2 + 1, c1, cap', sh, dt ++ [x], hb6.set2 _, q1, q2, h.h1, by omega, hrd.but hs (by rintro k rfl; omega), hbt.setNew (p := ⟨p4, 2, none⟩) hp4 _, h06.but hs (by show ¬ p0 = p4; exact h.p04)⟩
end

set_option maxRecDepth 20000 in
set_option maxHeartbeats 8000000 in
theorem l3Array_any (pr : Nat) (w : World) (h : RdOk w pr) :
    Calls Tryz.prog 46 #[.pointer (some ⟨pr, 0, none⟩)] w fun e w' => (∃ (c : Bool) (a1 a2 : Addr) (n1 n2 c1 c2 : Nat) (sh dt : List Int), e = .returned (.agg #[.bool c, .slice (some a1) n1 c1, .slice (some a2) n2 c2]) ∧ Own w' w.heap.size (some a1) n1 sh ∧ Own w' w.heap.size (some a2) n2 dt ∧ n1 ≤ 6 ∧ n2 ≤ 10001) ∧ RdOk w' pr ∧ But (fun x => x = pr) w w' := by
  have hlw := h.lt
  obtain ⟨i0, hi, hz0, hz1, hz2⟩ := info_parts info_int
  have hb0 : Below w.heap.size w (w.alloc (.cells #[.bool false, .slice none 0 0, .slice none 0 0] 25)) := (Below.refl _ w).alloc (Nat.le_refl _) _
  have HP0 : Hid (Box (w.alloc (.cells #[.bool false, .slice none 0 0, .slice none 0 0] 25)) w.heap.size false (.slice none 0 0) (.slice none 0 0)) := Box.new w _ _ _
  have HBB : Hid (But (fun x => x = pr) w (w.alloc (.cells #[.bool false, .slice none 0 0, .slice none 0 0] 25))) := But.of_below hb0
  have hcall := next_any pr _ (h.below hb0)
  clear h hb0
  go_enter Tryz.func46, Tryz.ntmps46
  go_upto_region 2 with (go_at_call 45; refine hcall.mono ?_; rintro e w1 ⟨⟨k, hk, rfl⟩, hr1, hb1⟩; have HR1 := hide hr1; have HB1' := hide hb1; clear hr1 hb1)
  clear hcall
  have HP1 := hide ((unhide HP0).but (unhide HB1') (by show ¬ w.heap.size = pr; omega))
  have HB1 : Hid (But (fun x => x = pr) w w1) := ((unhide HBB).trans (unhide HB1')).mono (by rintro x (h | h) <;> exact h)
  clear HP0 HBB HB1'
  obtain ⟨j5, hj5, q5, q5'⟩ := modN k 5 (by omega)
  have r5 : (k : Int).tmod 5 = (j5 : Int) := q5
  have r5' : (k : Int) % 5 = (j5 : Int) := q5'
  obtain ⟨bc, hbc⟩ : ∃ bc, ((j5 : Int) == 4) = bc := ⟨_, rfl⟩
  have hcS := l3Shape_any pr w1 (unhide HR1)
  have hw1 := (unhide HP1).lt
  clear q5 q5'
  go_upto_region 3 with (first
    | (go_at_call 134; refine hcS.mono ?_; rintro e w2 ⟨⟨g1, n1, cap1, zs, rfl, hn1, ho1⟩, hr2, hb2⟩; obtain ⟨_, _, ev, hO1⟩ := Own.of_owns ho1 (by omega); cases ev; have HR2 := hide hr2; have HB2 := hide hb2; have HO2 := hide ho1; have HQ2 := hide hO1; clear hr2 hb2 ho1 hO1)
    | (go_at_call 102; refine (l3Of_any pr g1 n1 cap1 bc zs _ (unhide HR2) (unhide HQ2).row (by have := owns_from (unhide HO2); have := (unhide HR1).lt; omega)).mono ?_; rintro e w3 ⟨⟨g2, n2, cap2, dt, rfl, hn2, ho2⟩, hr3, hb3⟩; have HR3 := hide hr3; have HB3 := hide hb3; have HO3 := hide ho2; clear hr3 hb3 ho2))
  clear hcS
  obtain ⟨p4, hp4⟩ : ∃ p, p = w3.heap.size := ⟨_, rfl⟩
  obtain ⟨W4, hW4⟩ : ∃ W, W = w3.alloc (.cells #[.bool bc, .slice (some ⟨g1, 0, none⟩) n1 cap1, .slice (some ⟨g2, 0, none⟩) n2 cap2] 25) := ⟨_, rfl⟩
  have hz12 := (unhide HB2).size
  have hz23 := (unhide HB3).size
  have HAW : Hid (AW w pr w.heap.size p4 bc g1 g2 n1 n2 cap1 cap2 zs dt W4) := by
    have hge1 := owns_from (unhide HO2)
    have hge2 := owns_from (unhide HO3)
    have hg1l : g1 < w2.heap.size := owns_lt (unhide HO2) rfl
    have hprl := (unhide HR1).lt
    have hb4 : Below w3.heap.size w3 W4 := by rw [hW4]; exact (Below.refl _ _).alloc (Nat.le_refl _) _
    refine ⟨by rw [hW4, hp4]; exact Box.new w3 _ _ _, owns_mono (owns_below (owns_but (unhide HO2) (unhide HB3) (by show ¬ g1 = pr; omega)) (Nat.le_refl _) hb4) (by omega), owns_mono (owns_below (unhide HO3) (Nat.le_refl _) hb4) (by omega), by omega, by omega, by omega, (unhide HR3).below hb4, ?_, ?_, hlw, by omega, Nat.le_refl _⟩
    · exact ((((unhide HB1).trans (unhide HB2)).trans (unhide HB3)).trans (T := fun x => x = pr) (But.of_below hb4)).mono (by rintro x (((h | h) | h) | h) <;> exact h)
    · exact (((unhide HP1).but (unhide HB2) (by show ¬ w.heap.size = pr; omega)).but (unhide HB3) (by show ¬ w.heap.size = pr; omega)).below (Nat.le_refl _) hb4
  rw [← hW4, ← hp4]
  clear hW4 hp4 HR1 HR2 HR3 HB1 HB2 HB3 HP1 HO2 HO3 HQ2 hz12 hz23 hw1
  go_upto_if 17 with fail
  go_cut [] (fun wx => AG w pr w.heap.size p4 wx)
  case first =>
    by_cases h246 : 246 ≤ k
    · have h246z : (246 : Int) ≤ (k : Int) := by omega
      have hcall := next_any pr _ (unhide HAW).rd
      go_upto_region 5 with (go_at_call 45; refine hcall.mono ?_; rintro e w5 ⟨⟨v, hv, rfl⟩, hr5, hb5⟩; have HW5 := hide ((unhide HAW).next hb5 hr5); clear hr5 hb5)
      clear hcall HAW
      obtain ⟨j, hj, q6, q6'⟩ := modN v 6 (by omega)
      have r6 : (v : Int).tmod 6 = (j : Int) := q6
      have r6' : (v : Int) % 6 = (j : Int) := q6'
      obtain ⟨d, hd0, qd, qd'⟩ := divN v 6
      have rd' : (v : Int).tdiv 6 = (d : Int) := qd
      have rd'' : (v : Int) / 6 = (d : Int) := qd'
      have hd255 : d ≤ 255 := by rw [hd0]; exact Nat.le_trans (Nat.div_le_self v 6) hv
      clear q6 q6' qd qd' hd0 h246z h246 r5 r5'
      obtain ⟨y0, y1, y2, y3, y4, y5, y6⟩ := (unhide HW5).box.all
      have hsz5 := (unhide HW5).but.size
      have hn25 := (unhide HW5).h2
      by_cases e0 : j = 0
      · have g0 : ((j : Int) == 0) = true := by simp [e0]
        clear e0
        go_wp2_with (at_builtin; refine wpList_append_lies _ rfl _ _ 23 rfl w.heap.size 3 i0 (.int .i64 0) 1 8 Tryz.underlying23 hi hz0 hz1 hz2 rfl (by decide) _ _ _ rfl (owns_below (unhide HW5).o2 (Nat.le_refl _) ((Below.refl _ _).alloc (Nat.le_refl _) _)) ⟨w5.heap.size, 0, none⟩ 1 1 [.int .i64 1] rfl rfl (cells_new _ _) (one_one _) (by omega) (by unfold maxLen; omega) (by omega) (by simp; omega) (w5.heap.size + 1) (by simp) ?_; intro g' cap' w7 hown' hgrow hat hlt7; have HD7 := hide ((unhide HW5).push2 hn2 hown' hgrow); clear hown' hgrow hat hlt7 y0 y1 y2 y3 y4 y5 y6; obtain ⟨y0, y1, y2, y3, y4, y5, y6⟩ := (unhide HD7).1.all)
        go_meet
        case rel => exact (unhide HD7).2
      · have g0 : ((j : Int) == 0) = false := by simp; omega
        by_cases e1 : j = 1
        · have g1' : ((j : Int) == 1) = true := by simp [e1]
          obtain ⟨t4, ht4, qt, qt'⟩ := modN d 4 (by omega)
          have rt : (d : Int).tmod 4 = (t4 : Int) := qt
          have rt' : (d : Int) % 4 = (t4 : Int) := qt'
          have hwt : IntKind.i64.wrap (t4 : Int) = (t4 : Int) := by rw [IntKind.wrap_i64]; omega
          obtain ⟨x, hx⟩ : ∃ x, x = ([1, 0, -1, 10001] : List Int).getD t4 0 := ⟨_, rfl⟩
          have hc : ∀ W : World, (W.alloc (.cells #[.int .i64 1, .int .i64 0, .int .i64 (-1), .int .i64 10001] 3)).cell? ⟨W.heap.size, t4, none⟩ = some (.int .i64 x) := fun W => by
            rw [hx]; exact lits W [1, 0, -1, 10001] t4 (by simpa using ht4)
          have hc1 := hc w5
          have hc2 := hc w5.drew
          have HRD1 := hide rd'
          have HRT1 := hide rt
          have hn15 : n1 ≤ 5 := hn1
          have hnw : ∀ (u : Int) (j : Nat) (y : Value), ([.int .i64 u] : List Value)[j]? = some y → ((w5.alloc (.cells #[.int .i64 1, .int .i64 0, .int .i64 (-1), .int .i64 10001] 3)).alloc (.cells #[.int .i64 u] 3)).cell? ((⟨w5.heap.size + 1, 0, none⟩ : Addr).add j) = some y := fun u => by
            have h := cells_new (w5.alloc (.cells #[.int .i64 1, .int .i64 0, .int .i64 (-1), .int .i64 10001] 3)) u
            rw [World.size_alloc] at h
            exact h
          have HY : Hid (AW w pr w.heap.size p4 bc g1 g2 n1 n2 cap1 cap2 zs dt (w5.alloc (.cells #[.int .i64 1, .int .i64 0, .int .i64 (-1), .int .i64 10001] 3)).drew) := (unhide HW5).below (((Below.refl _ _).alloc (Nat.le_refl _) _).drew)
          clear hx qt qt' hc
          go_upto_region 9 with fail
          have htz0 : (0 : Int) ≤ (t4 : Int) := by omega
          have htz2 : (t4 : Int) < 4 := by omega
          have rd3 : (v : Int).tdiv 6 = (d : Int) := unhide HRD1
          have rt3 : (d : Int).tmod 4 = (t4 : Int) := unhide HRT1
          have hwd : IntKind.i64.wrap (d : Int) = (d : Int) := by rw [IntKind.wrap_i64]; omega
          go_region_law (first | (refine step_append_lies _ (by rfl) _ _ _ (by rfl) w.heap.size 3 i0 _ 1 8 Tryz.underlying23 hi hz0 hz1 hz2 rfl (by omega) (.slice (some ⟨g1, 0, none⟩) n1 cap1) n1 (zs.map (Value.int .i64)) (by rfl) (by exact (unhide HY).o1.alloc _) ⟨w5.heap.size + 1, 0, none⟩ 1 1 [.int .i64 x] (by rfl) (by rfl) (by exact hnw _) (one_one _) (by omega) (by unfold maxLen; omega) (by omega) (by simp; omega) (w5.heap.size + 2) (by simp) ?_; intro g' cap' w7 hown' hgrow hat hlt7; have HD7 := hide ((unhide HY).push1 hn15 hown' (by exact hgrow)); clear hown' hgrow hat hlt7 y0 y1 y2 y3 y4 y5 y6; obtain ⟨y0, y1, y2, y3, y4, y5, y6⟩ := (unhide HD7).1.all))
          all_goals go_wp2_with fail
          all_goals (go_meet; case rel => exact (unhide HD7).2)
        · have g1' : ((j : Int) == 1) = false := by simp; omega
          by_cases e2 : j = 2
          · have g2' : ((j : Int) == 2) = true := by simp [e2]
            obtain ⟨t2, ht2, qt, qt'⟩ := modN d 2 (by omega)
            have rt : (d : Int).tmod 2 = (t2 : Int) := qt
            have rt' : (d : Int) % 2 = (t2 : Int) := qt'
            obtain ⟨nn, hnn⟩ : ∃ nn : Nat, nn = 10000 + t2 := ⟨_, rfl⟩
            have hsum : (10000 : Int) + (t2 : Int) = (nn : Int) := by omega
            have hnb : nn ≤ 10001 := by omega
            have hwn : IntKind.i64.wrap (nn : Int) = (nn : Int) := by rw [IntKind.wrap_i64]; omega
            have hmk := run_make_row' (P := Tryz.prog) 23 3 (.int .i64 0) 8 Tryz.underlying23 info_int rfl .i64 .i64 nn (by omega) (by omega)
            clear qt qt' hnn e0 e1 e2
            go_wp2_with fail
            go_meet
            case rel =>
              obtain ⟨X, hX⟩ : ∃ X, X = ((w5.setCell ⟨p4, 0, none⟩ (.bool false)).setCell ⟨p4, 1, none⟩ (.slice (some ⟨w5.heap.size, 0, none⟩) 1 1)).setCell ⟨p4, 2, none⟩ (.slice (some ⟨w5.heap.size + 1, 0, none⟩) nn nn) := ⟨_, rfl⟩
              have hXs : X.heap.size = w5.heap.size := by rw [hX]; simp
              have hs : But (fun x => x = p4) w5 X := by rw [hX]; exact (((But.refl (fun x => x = p4) w5).setCell (p := ⟨p4, 0, none⟩) rfl _).setCell (p := ⟨p4, 1, none⟩) rfl _).setCell (p := ⟨p4, 2, none⟩) rfl _
              have hbx : Box X p4 false (.slice (some ⟨w5.heap.size, 0, none⟩) 1 1) (.slice (some ⟨w5.heap.size + 1, 0, none⟩) nn nn) := by rw [hX]; exact (unhide HW5).box.sets
              have hbt : But (fun x => x = pr) w X := by rw [hX]; exact (((unhide HW5).but.setNew (p := ⟨p4, 0, none⟩) (unhide HW5).h4 _).setNew (p := ⟨p4, 1, none⟩) (unhide HW5).h4 _).setNew (p := ⟨p4, 2, none⟩) (unhide HW5).h4 _
              rw [← hX]
              have h44 := (unhide HW5).h4
              have hpp := (unhide HW5).hp
              have hrd := (unhide HW5).rd.but hs (by rintro k rfl; omega)
              have hb0 := (unhide HW5).b0.but hs (by show ¬ w.heap.size = p4; exact (unhide HW5).p04)
              have b1 : Blk ((X.alloc (.cells #[.int .i64 (nn : Nat)] 3)).alloc (.cells (madeCells #[.int .i64 0] nn) 3)) w5.heap.size [(nn : Int)] := by rw [← hXs]; exact (show Blk (X.alloc _) X.heap.size [(nn : Int)] from World.alloc_heap_new X _).alloc _
              have b2 : Blk ((X.alloc (.cells #[.int .i64 (nn : Nat)] 3)).alloc (.cells (madeCells #[.int .i64 0] nn) 3)) (w5.heap.size + 1) (List.replicate nn 0) := Blk.made _ _ _ (by simp [hXs])
              have hbw : Below X.heap.size X ((X.alloc (.cells #[.int .i64 (nn : Nat)] 3)).alloc (.cells (madeCells #[.int .i64 0] nn) 3)) := ((Below.refl _ X).alloc (Nat.le_refl _) _).alloc (by simp) _
              refine ⟨false, ⟨w5.heap.size, 0, none⟩, ⟨w5.heap.size + 1, 0, none⟩, 1, nn, 1, nn, [(nn : Int)], List.replicate nn 0, hbx.below (Nat.le_refl _) hbw, b1.own rfl (by omega) (by omega), b2.own (by simp) (by omega) (by omega), by omega, hnb, hrd.below hbw, ?_, hb0.below (Nat.le_refl _) hbw⟩
              exact (hbt.trans (T := fun x => x = pr) (But.of_below hbw)).mono (by rintro x (h | h) <;> exact h)
          · have g2' : ((j : Int) == 2) = false := by simp; omega
            by_cases e3 : j = 3
            · have g3' : ((j : Int) == 3) = true := by simp [e3]
              obtain ⟨t2, ht2, qt, qt'⟩ := modN d 2 (by omega)
              have rt : (d : Int).tmod 2 = (t2 : Int) := qt
              have rt' : (d : Int) % 2 = (t2 : Int) := qt'
              obtain ⟨nn, hnn⟩ : ∃ nn : Nat, nn = 5 + t2 := ⟨_, rfl⟩
              have hsum : (5 : Int) + (t2 : Int) = (nn : Int) := by omega
              have hnb : nn ≤ 6 := by omega
              have hnz : (nn : Int) ≤ 6 := by omega
              have hwn : IntKind.i64.wrap (nn : Int) = (nn : Int) := by rw [IntKind.wrap_i64]; omega
              have hp4l := (unhide HW5).box.lt
              clear qt qt' hnn e0 e1 e2 e3
              go_wp2_with fail
              go_meet
              case rel =>
                obtain ⟨X, hX⟩ : ∃ X, X = (w5.setCell ⟨p4, 1, none⟩ (.slice (some ⟨w5.heap.size, 0, none⟩) nn 6)).setCell ⟨p4, 2, none⟩ (.slice (some ⟨w5.heap.size + 1, 0, none⟩) 1 1) := ⟨_, rfl⟩
                have hXs : X.heap.size = w5.heap.size := by rw [hX]; simp
                have hs : But (fun x => x = p4) w5 X := by rw [hX]; exact ((But.refl (fun x => x = p4) w5).setCell (p := ⟨p4, 1, none⟩) rfl _).setCell (p := ⟨p4, 2, none⟩) rfl _
                have hbx : Box X p4 bc (.slice (some ⟨w5.heap.size, 0, none⟩) nn 6) (.slice (some ⟨w5.heap.size + 1, 0, none⟩) 1 1) := by rw [hX]; exact (box_set1 (unhide HW5).box _).set2 _
                have hbt : But (fun x => x = pr) w X := by rw [hX]; exact ((unhide HW5).but.setNew (p := ⟨p4, 1, none⟩) (unhide HW5).h4 _).setNew (p := ⟨p4, 2, none⟩) (unhide HW5).h4 _
                rw [← hX]
                have h44 := (unhide HW5).h4
                have hpp := (unhide HW5).hp
                have hrd := (unhide HW5).rd.but hs (by rintro k rfl; omega)
                have hb0 := (unhide HW5).b0.but hs (by show ¬ w.heap.size = p4; exact (unhide HW5).p04)
                have b1 : Own ((X.alloc (.cells #[.int .i64 1, .int .i64 1, .int .i64 1, .int .i64 1, .int .i64 1, .int .i64 1] 3)).alloc (.cells #[.int .i64 1] 3)) w.heap.size (some ⟨w5.heap.size, 0, none⟩) 6 [1, 1, 1, 1, 1, 1] := by
                  rw [← hXs]
                  exact ((show Blk (X.alloc _) X.heap.size [1, 1, 1, 1, 1, 1] from World.alloc_heap_new X _).alloc _).own rfl (by omega) (by omega)
                have b2 : Blk ((X.alloc (.cells #[.int .i64 1, .int .i64 1, .int .i64 1, .int .i64 1, .int .i64 1, .int .i64 1] 3)).alloc (.cells #[.int .i64 1] 3)) (w5.heap.size + 1) [1] := by
                  have h3 := World.alloc_heap_new (X.alloc (.cells #[.int .i64 1, .int .i64 1, .int .i64 1, .int .i64 1, .int .i64 1, .int .i64 1] 3)) (.cells #[.int .i64 1] 3)
                  rw [World.size_alloc, hXs] at h3
                  exact h3
                have hbw : Below X.heap.size X ((X.alloc (.cells #[.int .i64 1, .int .i64 1, .int .i64 1, .int .i64 1, .int .i64 1, .int .i64 1] 3)).alloc (.cells #[.int .i64 1] 3)) := ((Below.refl _ X).alloc (Nat.le_refl _) _).alloc (by simp) _
                refine ⟨bc, ⟨w5.heap.size, 0, none⟩, ⟨w5.heap.size + 1, 0, none⟩, nn, 1, 6, 1, _, [1], hbx.below (Nat.le_refl _) hbw, b1.take hnb, b2.own rfl (by omega) (by omega), hnb, by omega, hrd.below hbw, ?_, hb0.below (Nat.le_refl _) hbw⟩
                exact (hbt.trans (T := fun x => x = pr) (But.of_below hbw)).mono (by rintro x (h | h) <;> exact h)
            · have g3' : ((j : Int) == 3) = false := by simp; omega
              by_cases en : 0 < n2
              · have enz : (0 : Int) < (n2 : Int) := by omega
                obtain ⟨t5, ht5, qt, qt'⟩ := modN d 5 (by omega)
                have rt : (d : Int).tmod 5 = (t5 : Int) := qt
                have rt' : (d : Int) % 5 = (t5 : Int) := qt'
                have htz : (t5 : Int) < 5 := by omega
                have hwt : IntKind.i64.wrap (t5 : Int) = (t5 : Int) := by rw [IntKind.wrap_i64]; omega
                obtain ⟨x, hx⟩ : ∃ x, x = ([1000000000000001, -1000000000000001, 55296, 1114112, -1] : List Int).getD t5 0 := ⟨_, rfl⟩
                have hc : ∀ W : World, (W.alloc (.cells #[.int .i64 1000000000000001, .int .i64 (-1000000000000001), .int .i64 55296, .int .i64 1114112, .int .i64 (-1)] 3)).cell? ⟨W.heap.size, t5, none⟩ = some (.int .i64 x) := fun W => by
                  rw [hx]; exact lits W [1000000000000001, -1000000000000001, 55296, 1114112, -1] t5 (by simpa using ht5)
                obtain ⟨_, _, ev, hOd⟩ := Own.of_owns (unhide HW5).o2 (by omega)
                cases ev
                rcases hOd.at_ with h | ⟨gg, oo, hgg, hgl, hgs, hce, hfr⟩
                · omega
                cases hgg
                have cd0 := hce 0 en
                have fd0 := hfr 0 en
                simp only [Nat.add_zero] at cd0 fd0
                have hgp4 : g2 ≠ p4 := owns_nebox (unhide HW5).o2 (unhide HW5).box
                have hp4l := (unhide HW5).box.lt
                have HKEEP : ∀ wx, But (fun x => x = g2) w5 wx → wx.cell? ⟨p4, 2, none⟩ = some (.slice (some ⟨g2, 0, none⟩) n2 cap2) := fun wx hwx => (hwx.cellAt hp4l (by show ¬ p4 = g2; omega)).trans (unhide HW5).box.cells.2.2
                have hc1 := hc w5
                have hc2 := hc w5.drew
                have HRD1 := hide rd'
                have HRT1 := hide rt
                clear hx qt qt' hce hfr hc
                go_upto_region 16 with fail
                have htz0 : (0 : Int) ≤ (t5 : Int) := by omega
                have htz2 : (t5 : Int) < 5 := by omega
                have enz2 : (0 : Int) < (n2 : Int) := by omega
                have rd3 : (v : Int).tdiv 6 = (d : Int) := unhide HRD1
                have rt3 : (d : Int).tmod 5 = (t5 : Int) := unhide HRT1
                have hwd : IntKind.i64.wrap (d : Int) = (d : Int) := by rw [IntKind.wrap_i64]; omega
                go_region
                all_goals go_wp2_with fail
                go_meet
                case rel =>
                  obtain ⟨_, _, ev, hO1⟩ := Own.of_owns (unhide HW5).o1 (by have := (unhide HW5).h1; omega)
                  cases ev
                  have hb : But (fun x => x = g2) w5 (w5.setCell ⟨g2, 0, none⟩ (.int .i64 x)) := (But.refl (fun x => x = g2) w5).setCell (p := ⟨g2, 0, none⟩) rfl _
                  have hbw : Below (w5.setCell ⟨g2, 0, none⟩ (.int .i64 x)).heap.size (w5.setCell ⟨g2, 0, none⟩ (.int .i64 x)) ((w5.setCell ⟨g2, 0, none⟩ (.int .i64 x)).alloc (.cells #[.int .i64 1000000000000001, .int .i64 (-1000000000000001), .int .i64 55296, .int .i64 1114112, .int .i64 (-1)] 3)).drew := ((Below.refl _ _).alloc (Nat.le_refl _) _).drew
                  have hge2 := owns_from (unhide HW5).o2
                  have hpp := (unhide HW5).hp
                  have hne := (unhide HW5).ne
                  have hO2 := hOd.set en x
                  simp only [Nat.add_zero] at hO2
                  refine ⟨bc, ⟨g1, 0, none⟩, ⟨g2, 0, none⟩, n1, n2, cap1, cap2, zs, dt.set 0 x, ((unhide HW5).box.but hb (by show ¬ p4 = g2; omega)).below (Nat.le_refl _) hbw, (hb.own hO1 (by rintro k rfl hk; have := at_eq hk; omega)).below (Nat.le_refl _) hbw, hO2.below (Nat.le_refl _) hbw, (unhide HW5).h1, (unhide HW5).h2, ((unhide HW5).rd.but hb (by rintro k rfl; omega)).below hbw, ?_, ((unhide HW5).b0.but hb (by show ¬ w.heap.size = g2; exact (owns_nebox (unhide HW5).o2 (unhide HW5).b0).symm)).below (Nat.le_refl _) hbw⟩
                  exact (((unhide HW5).but.setNew (p := ⟨g2, 0, none⟩) hge2 _).trans (T := fun x => x = pr) (But.of_below hbw)).mono (by rintro x (h | h) <;> exact h)
              · have enz : ¬ (0 : Int) < (n2 : Int) := by omega
                go_wp2_with fail
                go_meet
                case rel => exact (unhide HW5).ag
    · have h246z : ¬ (246 : Int) ≤ (k : Int) := by omega
      go_wp2_with fail
      go_meet
      case rel => exact (unhide HAW).ag
  case rest =>
    obtain ⟨w6, hw6⟩ : ∃ x, x = wc := ⟨_, rfl⟩
    subst hw6
    obtain ⟨c, a1, a2, m1, m2, d1, d2, sh, dt2, hb, o1, o2, hm1, hm2, hrd, hbt, hb0⟩ := hcut
    obtain ⟨y0, y1, y2, y3, y4, y5, y6⟩ := hb.all
    obtain ⟨q0, q1, q2, q3, q4, q5, q6⟩ := hb0.all
    have HB0 := hide hb0
    have HO1 := hide o1
    have HO2 := hide o2
    have HRD := hide hrd
    have HBT := hide hbt
    have HNB : Hid ((∀ k, At (some a1) m1 k → k ≠ w.heap.size) ∧ ∀ k, At (some a2) m2 k → k ≠ w.heap.size) := ⟨fun k hk => o1.row.notBox hb0 hk, fun k hk => o2.row.notBox hb0 hk⟩
    clear hb hb0 o1 o2 hrd hbt HAW
    go_wp2_with fail
    have hx := (unhide HB0).sets (c' := c) (u1 := .slice (some a1) m1 d1) (u2 := .slice (some a2) m2 d2)
    obtain ⟨r0, r1, r2, _, _, _⟩ := hx.all
    refine bodyPost_ret (v := .agg #[.bool c, .slice (some a1) m1 d1, .slice (some a2) m2 d2]) (by simp [results, Tryz.results46, go_sem, r0, r1, r2]) rfl ?_
    have hs : But (fun x => x = w.heap.size) w6 (((w6.setCell ⟨w.heap.size, 0, none⟩ (.bool c)).setCell ⟨w.heap.size, 1, none⟩ (.slice (some a1) m1 d1)).setCell ⟨w.heap.size, 2, none⟩ (.slice (some a2) m2 d2)) := (((But.refl (fun x => x = w.heap.size) w6).setCell (p := ⟨w.heap.size, 0, none⟩) rfl _).setCell (p := ⟨w.heap.size, 1, none⟩) rfl _).setCell (p := ⟨w.heap.size, 2, none⟩) rfl _
    exact ⟨⟨c, a1, a2, m1, m2, d1, d2, sh, dt2, rfl, hs.own (unhide HO1) (by rintro k rfl hk; exact (unhide HNB).1 _ hk rfl), hs.own (unhide HO2) (by rintro k rfl hk; exact (unhide HNB).2 _ hk rfl), hm1, hm2⟩, (unhide HRD).but hs (by rintro k rfl; omega), (((unhide HBT).setNew (p := ⟨w.heap.size, 0, none⟩) (Nat.le_refl _) _).setNew (p := ⟨w.heap.size, 1, none⟩) (Nat.le_refl _) _).setNew (p := ⟨w.heap.size, 2, none⟩) (Nat.le_refl _) _⟩

end Go.Proofs.YtgjpchnkodnieaaGreatDoor
namespace Go.Proofs.YtgjpchnkodnieaaGreatDoor
open Go.RowKit

/-- A slice of bytes lies in memory. -/
def Bytes (w : World) (a : Option Addr) (n : Nat) : Prop :=
  n = 0 ∨ ∃ b off, a = some ⟨b, off, none⟩ ∧ b < w.heap.size ∧ ∀ i, i < n → ∃ v : Nat, v ≤ 255 ∧ w.cell? ⟨b, off + i, none⟩ = some (.int .u8 (v : Nat))

theorem Bytes.below {w w' : World} {a : Option Addr} {n : Nat} (h : Bytes w a n) (hb : Below w.heap.size w w') : Bytes w' a n := by
  rcases h with h | ⟨b, off, e, hbl, hv⟩
  · exact .inl h
  · refine .inr ⟨b, off, e, by have := hb.size; omega, fun i hi => ?_⟩
    obtain ⟨v, h1, h2⟩ := hv i hi
    exact ⟨v, h1, (hb.cell (p := ⟨b, off + i, none⟩) hbl).trans h2⟩

theorem Bytes.take {w : World} {a : Option Addr} {n m : Nat} (h : Bytes w a n) (hm : m ≤ n) : Bytes w a m := by
  rcases h with h | ⟨b, off, e, hbl, hv⟩
  · exact .inl (by omega)
  · exact .inr ⟨b, off, e, hbl, fun i hi => hv i (by omega)⟩

theorem rd_new {w : World} {a : Option Addr} {n c : Nat} (h : Bytes w a n) (hn : n ≤ 1000) : RdOk (w.alloc (.cells #[.slice a n c, .int .i64 0] 157)) w.heap.size := by
  refine ⟨a, n, c, 0, World.alloc_heap_new w _, hn, Nat.zero_le _, ?_⟩
  rcases h with h | ⟨b, off, e, hbl, hv⟩
  · exact .inl h
  · refine .inr ⟨b, off, e, hbl, fun i hi => ?_⟩
    obtain ⟨v, h1, h2⟩ := hv i hi
    exact ⟨v, h1, (((Below.refl w.heap.size w).alloc (Nat.le_refl _) _).cell (p := ⟨b, off + i, none⟩) hbl).trans h2⟩

set_option maxHeartbeats 2000000 in
theorem l1Open_any (a : Option Addr) (n c : Nat) (w : World) (h : Bytes w a n) (hc : n ≤ c) (hn : n ≤ 1048576) :
    Calls Tryz.prog 44 #[.slice a n c] w fun e w' => ∃ pr, e = .returned (.pointer (some ⟨pr, 0, none⟩)) ∧ RdOk w' pr ∧ w.heap.size ≤ pr ∧ Below w.heap.size w w' := by
  by_cases hlt : 1000 < n
  · have hltz : (1000 : Int) < (n : Int) := by omega
    rcases h with h | ⟨b, off, rfl, hbl, hv⟩
    · omega
    have HBY : Hid (Bytes w (some ⟨b, off, none⟩) 1000) := Bytes.take (n := n) (.inr ⟨b, off, rfl, hbl, hv⟩) (by omega)
    have hc1 : (1000 : Int) ≤ (c : Int) := by omega
    clear hv
    go_enter Tryz.func44, Tryz.ntmps44
    go_wp2_with fail
    refine bodyPost_ret (v := .pointer (some ⟨w.heap.size, 0, none⟩)) (by simp [results, Tryz.results44, go_sem]) rfl ⟨w.heap.size, rfl, rd_new (unhide HBY) (Nat.le_refl _), Nat.le_refl _, (Below.refl _ _).alloc (Nat.le_refl _) _⟩
  · have hltz : ¬ (1000 : Int) < (n : Int) := by omega
    have HBY := hide h
    clear h
    go_enter Tryz.func44, Tryz.ntmps44
    go_wp2_with fail
    refine bodyPost_ret (v := .pointer (some ⟨w.heap.size, 0, none⟩)) (by simp [results, Tryz.results44, go_sem]) rfl ⟨w.heap.size, rfl, rd_new (unhide HBY) (by omega), Nat.le_refl _, (Below.refl _ _).alloc (Nat.le_refl _) _⟩

end Go.Proofs.YtgjpchnkodnieaaGreatDoor
namespace Go.Proofs.YtgjpchnkodnieaaGreatDoor
open Go.RowKit

/-- What a draw of two arrays gives. -/
def DrawnTwo (w : World) (e : Ending) (w' : World) : Prop := ∃ (c d : Bool) (a1 a2 b1 b2 : Addr) (n1 n2 m1 m2 c1 c2 d1 d2 : Nat) (sh dt sh' dt' : List Int), e = .returned (.tuple #[.agg #[.bool c, .slice (some a1) n1 c1, .slice (some a2) n2 c2], .agg #[.bool d, .slice (some b1) m1 d1, .slice (some b2) m2 d2]]) ∧ Row w' (some a1) n1 sh ∧ Row w' (some a2) n2 dt ∧ Row w' (some b1) m1 sh' ∧ Row w' (some b2) m2 dt' ∧ n1 ≤ 6 ∧ n2 ≤ 10001 ∧ m1 ≤ 6 ∧ m2 ≤ 10001 ∧ Below w.heap.size w w'

/-- The two boxes of the answer are written. -/
theorem drawn2_end {w V : World} {x0 x1 : Bool} {c d : Bool} {a1 a2 b1 b2 : Addr} {n1 n2 m1 m2 c1 c2 d1 d2 : Nat} {sh dt sh' dt' : List Int} (h0 : Box V w.heap.size x0 (.slice none 0 0) (.slice none 0 0)) (h1 : Box V (w.heap.size + 1) x1 (.slice none 0 0) (.slice none 0 0)) (r1 : Row V (some a1) n1 sh) (r2 : Row V (some a2) n2 dt) (q1 : Row V (some b1) m1 sh') (q2 : Row V (some b2) m2 dt') (hn1 : n1 ≤ 6) (hn2 : n2 ≤ 10001) (hm1 : m1 ≤ 6) (hm2 : m2 ≤ 10001) (hl : Below w.heap.size w V) :
    DrawnTwo w (.returned (.tuple #[.agg #[.bool c, .slice (some a1) n1 c1, .slice (some a2) n2 c2], .agg #[.bool d, .slice (some b1) m1 d1, .slice (some b2) m2 d2]]))
      ((((((V.setCell ⟨w.heap.size, 0, none⟩ (.bool c)).setCell ⟨w.heap.size, 1, none⟩ (.slice (some a1) n1 c1)).setCell ⟨w.heap.size, 2, none⟩ (.slice (some a2) n2 c2)).setCell ⟨w.heap.size + 1, 0, none⟩ (.bool d)).setCell ⟨w.heap.size + 1, 1, none⟩ (.slice (some b1) m1 d1)).setCell ⟨w.heap.size + 1, 2, none⟩ (.slice (some b2) m2 d2)) := by
  have hb : But (fun x => x = w.heap.size ∨ x = w.heap.size + 1) V ((((((V.setCell ⟨w.heap.size, 0, none⟩ (.bool c)).setCell ⟨w.heap.size, 1, none⟩ (.slice (some a1) n1 c1)).setCell ⟨w.heap.size, 2, none⟩ (.slice (some a2) n2 c2)).setCell ⟨w.heap.size + 1, 0, none⟩ (.bool d)).setCell ⟨w.heap.size + 1, 1, none⟩ (.slice (some b1) m1 d1)).setCell ⟨w.heap.size + 1, 2, none⟩ (.slice (some b2) m2 d2)) :=
    ((((((But.refl _ V).setCell (p := ⟨w.heap.size, 0, none⟩) (.inl rfl) _).setCell (p := ⟨w.heap.size, 1, none⟩) (.inl rfl) _).setCell (p := ⟨w.heap.size, 2, none⟩) (.inl rfl) _).setCell (p := ⟨w.heap.size + 1, 0, none⟩) (.inr rfl) _).setCell (p := ⟨w.heap.size + 1, 1, none⟩) (.inr rfl) _).setCell (p := ⟨w.heap.size + 1, 2, none⟩) (.inr rfl) _
  have hk : ∀ {a : Option Addr} {n : Nat} {zs : List Int}, Row V a n zs → ∀ x, x = w.heap.size ∨ x = w.heap.size + 1 → ¬ At a n x := fun hr x hx hh => by have := hr.notBox h0 hh; have := hr.notBox h1 hh; omega
  exact ⟨c, d, a1, a2, b1, b2, n1, n2, m1, m2, c1, c2, d1, d2, sh, dt, sh', dt', rfl, hb.row r1 (hk r1), hb.row r2 (hk r2), hb.row q1 (hk q1), hb.row q2 (hk q2), hn1, hn2, hm1, hm2, hl.trans (hb.below hl.size (fun x hx => by omega))⟩

theorem drawn2_drew {w w' : World} {e : Ending} (h : DrawnTwo w e w') : DrawnTwo w e w'.drew := by
  obtain ⟨c, d, a1, a2, b1, b2, n1, n2, m1, m2, c1, c2, d1, d2, sh, dt, sh', dt', he, r1, r2, q1, q2, h1, h2, h3, h4, hb⟩ := h
  have hk : Below w'.heap.size w' w'.drew := (Below.refl _ _).drew
  exact ⟨c, d, a1, a2, b1, b2, n1, n2, m1, m2, c1, c2, d1, d2, sh, dt, sh', dt', he, r1.below (Nat.le_refl _) hk, r2.below (Nat.le_refl _) hk, q1.below (Nat.le_refl _) hk, q2.below (Nat.le_refl _) hk, h1, h2, h3, h4, hb.drew⟩

end Go.Proofs.YtgjpchnkodnieaaGreatDoor
namespace Go.Proofs.YtgjpchnkodnieaaGreatDoor
open Go.RowKit

/-- What a function that draws an array by the reader pr gives: its slices read so. -/
def DrawnRow (pr : Nat) (w : World) (e : Ending) (w' : World) : Prop := (∃ (c : Bool) (a1 a2 : Addr) (n1 n2 c1 c2 : Nat) (sh dt : List Int), e = .returned (.agg #[.bool c, .slice (some a1) n1 c1, .slice (some a2) n2 c2]) ∧ Own w' w.heap.size (some a1) n1 sh ∧ Own w' w.heap.size (some a2) n2 dt ∧ n1 ≤ 6 ∧ n2 ≤ 10001) ∧ RdOk w' pr ∧ But (fun x => x = pr) w w'

/-- The answer's box is filled. -/
theorem drawnR_end {w wx : World} {pr p0 : Nat} {c k : Bool} {s1 s2 : Option Addr} {l1 l2 k1 k2 : Nat} {a1 a2 : Addr} {n1 n2 c1 c2 : Nat} {sh dt : List Int} (hp : Box wx p0 c (.slice s1 l1 k1) (.slice s2 l2 k2)) (hp0 : w.heap.size ≤ p0) (o1 : Own wx w.heap.size (some a1) n1 sh) (o2 : Own wx w.heap.size (some a2) n2 dt) (h1 : n1 ≤ 6) (h2 : n2 ≤ 10001) (hr : RdOk wx pr) (hpr : pr < w.heap.size) (hb : But (fun x => x = pr) w wx) :
    DrawnRow pr w (.returned (.agg #[.bool k, .slice (some a1) n1 c1, .slice (some a2) n2 c2])) (((wx.setCell ⟨p0, 0, none⟩ (.bool k)).setCell ⟨p0, 1, none⟩ (.slice (some a1) n1 c1)).setCell ⟨p0, 2, none⟩ (.slice (some a2) n2 c2)) := by
  have hs : But (fun x => x = p0) wx (((wx.setCell ⟨p0, 0, none⟩ (.bool k)).setCell ⟨p0, 1, none⟩ (.slice (some a1) n1 c1)).setCell ⟨p0, 2, none⟩ (.slice (some a2) n2 c2)) := (((But.refl (fun x => x = p0) wx).setCell (p := ⟨p0, 0, none⟩) rfl _).setCell (p := ⟨p0, 1, none⟩) rfl _).setCell (p := ⟨p0, 2, none⟩) rfl _
  have hn1 : ∀ x, x = p0 → ¬ At (some a1) n1 x := fun x e hk => (o1.row.notBox hp hk) e
  have hn2 : ∀ x, x = p0 → ¬ At (some a2) n2 x := fun x e hk => (o2.row.notBox hp hk) e
  exact ⟨⟨k, a1, a2, n1, n2, c1, c2, sh, dt, rfl, hs.own o1 hn1, hs.own o2 hn2, h1, h2⟩, hr.but hs (by rintro x rfl; omega), ((hb.setNew (p := ⟨p0, 0, none⟩) hp0 _).setNew (p := ⟨p0, 1, none⟩) hp0 _).setNew (p := ⟨p0, 2, none⟩) hp0 _⟩

end Go.Proofs.YtgjpchnkodnieaaGreatDoor
namespace Go.Proofs.YtgjpchnkodnieaaGreatDoor
open Go.RowKit


set_option maxRecDepth 20000 in
set_option maxHeartbeats 4000000 in
theorem l3Of_gen (pr : Nat) (sa : Option Addr) (n1 cap1 : Nat) (c : Bool) (zs : List Int) (w : World) (h : RdOk w pr) (hz : Row w sa n1 zs) (hgp : ∀ k, At sa n1 k → k ≠ pr) :
    Calls Tryz.prog 102 #[.pointer (some ⟨pr, 0, none⟩), .slice sa n1 cap1, .bool c] w fun e w' => (∃ (g n cap : Nat) (l : List Int), e = .returned (.agg #[.bool c, .slice sa n1 cap1, .slice (some ⟨g, 0, none⟩) n cap]) ∧ n ≤ 10000 ∧ w'.ownsRow w.heap.size 3 1 (.slice (some ⟨g, 0, none⟩) n cap) n (l.map (Value.int .i64))) ∧ RdOk w' pr ∧ But (fun x => x = pr) w w' := by
  have hlw := h.lt
  obtain ⟨i0, hi, hz0, hz1, hz2⟩ := info_parts info_int
  obtain ⟨N, hN⟩ : ∃ N, countOf zs = N := ⟨_, rfl⟩
  have HN := hide hN
  have hNb : N ≤ 10000 := by
    rw [← hN]
    unfold countOf
    split
    · rename_i ha
      cases hp : prodFrom zs 1 with
      | none => simp
      | some m =>
        have := prodFrom_bd zs 1 m ha (by omega) (by omega) hp
        simp only
        split <;> omega
    · omega
  obtain ⟨NN, hNN⟩ : ∃ NN : Nat, NN = N.toNat := ⟨_, rfl⟩
  have hN1 : NN ≤ 10000 := by omega
  have HLT : Hid (∀ n : Nat, n < NN → (n : Int) < N) := fun n hn => by omega
  have HGE : Hid (∀ n : Nat, ¬ n < NN → ¬ (n : Int) < N) := fun n hn => by omega
  clear hNN hNb
  have HR := hide h
  have HZ := hide hz
  clear h hz hN
  go_enter Tryz.func102, Tryz.ntmps102
  go_upto_region 2 with fail
  obtain ⟨W, hW⟩ : ∃ W, W = ((w.alloc (.cells #[.bool false, .slice none 0 0, .slice none 0 0] 25)).alloc (.cells #[] 3)).alloc (.cells #[.bool c, .slice sa n1 cap1, .slice (some ⟨w.heap.size + 1, 0, none⟩) 0 0] 25) := ⟨_, rfl⟩
  have HD : Hid (DG w pr w.heap.size (w.heap.size + 1 + 1) c (.slice sa n1 cap1) W [] 0 (w.heap.size + 1) 0) := by
    have hb : Below w.heap.size w W := by rw [hW]; exact (((Below.refl _ w).alloc (Nat.le_refl _) _).alloc (by simp) _).alloc (by simp; omega) _
    have b1 : Box W w.heap.size false (.slice none 0 0) (.slice none 0 0) := by rw [hW]; exact ((Box.new w _ _ _).alloc _).alloc _
    have b2 : Box W (w.heap.size + 1 + 1) c (.slice sa n1 cap1) (.slice (some ⟨w.heap.size + 1, 0, none⟩) 0 0) := by
      rw [hW]
      have := Box.new ((w.alloc (.cells #[.bool false, .slice none 0 0, .slice none 0 0] 25)).alloc (.cells #[] 3)) c (.slice sa n1 cap1) (.slice (some ⟨w.heap.size + 1, 0, none⟩) 0 0)
      rw [World.size_alloc, World.size_alloc] at this
      exact this
    have b3 : Blk W (w.heap.size + 1) [] := by
      rw [hW]
      have := Blk.new (w.alloc (.cells #[.bool false, .slice none 0 0, .slice none 0 0] 25))
      rw [World.size_alloc] at this
      exact this.alloc _
    exact ⟨b2, b3.owns (by omega), b1, (unhide HR).below hb, But.of_below hb, Nat.le_refl _, by omega, hlw⟩
  rw [← hW]
  clear hW
  have HZW : Hid (Row W sa n1 zs) := (unhide HD).but.row (unhide HZ) (fun k hk hh => hgp k hh hk)
  generalize w.heap.size + 1 + 1 = p7 at *
  generalize w.heap.size + 1 = g0 at *
  go_upto_region 3 with (go_at_call 48; refine (l3Count_eq _ _ _ zs _ (unhide HZW) _ HN).mono ?_; rintro e wq ⟨rfl, hwq⟩; obtain rfl := hwq.symm)
  clear HZW HR HZ
  go_wp2_with fail
  go_loopw [9] (fun i wr => ∃ (n g cap : Nat) (l : List Int), n ≤ NN ∧ i = .int .i64 (n : Nat) ∧ Hid (DG w pr w.heap.size p7 c (.slice sa n1 cap1) wr l n g cap)) (fun i _ => NN - (intOf i).toNat)
  case atStart => exact ⟨0, g0, 0, [], Nat.zero_le _, rfl, HD⟩
  case round =>
    clear HD
    obtain ⟨n, g, cap, l, hn, rfl, hd⟩ := hrel
    by_cases hlt : n < NN
    · have hnz : (n : Int) < N := unhide HLT n hlt
      have hcall := l3Num_any pr wr (unhide hd).rd
      go_upto_if 24 with (go_at_call 178; refine hcall.mono ?_; rintro e w2 ⟨⟨v, hv1, hv2, rfl⟩, hr2, hb2⟩; have HD2 := hide ((unhide hd).next hb2 hr2); clear hr2 hb2)
      clear hd hcall
      go_cut [10] (fun v wx => (∃ x : Int, v = .int .i64 x) ∧ Below w2.heap.size w2 wx)
      case first =>
        cases c with
        | true =>
          obtain ⟨y, hy⟩ : ∃ y : Nat, (y : Int) = v + 1000000000000000 := ⟨(v + 1000000000000000).toNat, by omega⟩
          obtain ⟨j, hj, q1, q2⟩ := modN y 8 (by omega)
          have q1' : (y : Int).tmod 8 = (j : Int) := q1
          have q2' : (y : Int) % 8 = (j : Int) := q2
          have hyb : y ≤ 2000000000000000 := by omega
          have hw0 : v + 1000000000000000 = (y : Int) := hy.symm
          have hw1 : IntKind.i64.wrap (y : Int) = (y : Int) := by rw [IntKind.wrap_i64]; omega
          have hw2 : IntKind.i64.wrap (j : Int) = (j : Int) := by rw [IntKind.wrap_i64]; omega
          have hc := lits w2 [97, 98, 99, 32, 9077, 120, 128512, 233] j (by simpa using hj)
          obtain ⟨x, hx⟩ : ∃ x, x = ([97, 98, 99, 32, 9077, 120, 128512, 233] : List Int).getD j 0 := ⟨_, rfl⟩
          rw [← hx] at hc
          simp only [List.map_cons, List.map_nil] at hc
          have hjz : (j : Int) < 8 := by omega
          clear hx q1 q2 hy hv1 hv2
          go_wp2_with fail
          go_meet
          case rel => exact ⟨⟨x, rfl⟩, (Below.refl _ _).alloc (Nat.le_refl _) _⟩
        | false =>
          go_wp2_with fail
          go_meet
          case rel => exact ⟨⟨v, rfl⟩, Below.refl _ _⟩
      case rest =>
        obtain ⟨w3, hw3⟩ : ∃ x, x = wc := ⟨_, rfl⟩
        subst hw3
        obtain ⟨⟨x, rfl⟩, hb3⟩ := hcut
        have HD3 := hide ((unhide HD2).below hb3)
        clear HD2 hb3
        obtain ⟨y0, y1, y2, y3, y4, y5, y6⟩ := (unhide HD3).box.all
        have hsz3 := (unhide HD3).but.size
        go_wp2_with (at_builtin; refine wpList_append_lies _ rfl _ _ 23 rfl w.heap.size 3 i0 (.int .i64 0) 1 8 Tryz.underlying23 hi hz0 hz1 hz2 rfl (by decide) _ _ _ rfl (owns_below (unhide HD3).owns (Nat.le_refl _) ((Below.refl _ _).alloc (Nat.le_refl _) _)) ⟨w3.heap.size, 0, none⟩ 1 1 [.int .i64 x] rfl rfl (cells_new _ _) (one_one _) (by omega) (by unfold maxLen; omega) (by omega) (by simp; omega) (w3.heap.size + 1) (by simp) ?_; intro g' cap' w7 hown' hgrow hat hlt7; have HD7 := hide ((unhide HD3).push hown' hgrow); clear hown' hgrow hat hlt7 y0 y1 y2 y3 y4 y5 y6; obtain ⟨y0, y1, y2, y3, y4, y5, y6⟩ := (unhide HD7).1.all)
        go_roundw
        case rel => exact ⟨n + 1, g', cap', l ++ [x], by omega, by go_num, hide (unhide HD7).2⟩
        case measure => simp [intOf]; omega
    · have hnz := unhide HGE n hlt
      have hd' := unhide hd
      obtain ⟨y0, y1, y2, y3, y4, y5, y6⟩ := hd'.box.all
      obtain ⟨q0, q1, q2, q3, q4, q5, q6⟩ := hd'.res.all
      clear hd'
      go_wp2_with fail
      have hx := (unhide hd).res.sets (c' := c) (u1 := .slice sa n1 cap1) (u2 := .slice (some ⟨g, 0, none⟩) n cap)
      obtain ⟨r0, r1, r2, _, _, _⟩ := hx.all
      refine bodyPost_ret (v := .agg #[.bool c, .slice sa n1 cap1, .slice (some ⟨g, 0, none⟩) n cap]) (by simp [results, Tryz.results102, go_sem, r0, r1, r2]) rfl ?_
      have hs : But (fun x => x = w.heap.size) wr (((wr.setCell ⟨w.heap.size, 0, none⟩ (.bool c)).setCell ⟨w.heap.size, 1, none⟩ (.slice sa n1 cap1)).setCell ⟨w.heap.size, 2, none⟩ (.slice (some ⟨g, 0, none⟩) n cap)) := (((But.refl (fun x => x = w.heap.size) wr).setCell (p := ⟨w.heap.size, 0, none⟩) rfl _).setCell (p := ⟨w.heap.size, 1, none⟩) rfl _).setCell (p := ⟨w.heap.size, 2, none⟩) rfl _
      exact ⟨⟨g, n, cap, l, rfl, by omega, owns_but (unhide hd).owns hs (owns_nebox (unhide hd).owns (unhide hd).res)⟩, (unhide hd).rd.but hs (by rintro k rfl; omega), (((unhide hd).but.setNew (p := ⟨w.heap.size, 0, none⟩) (Nat.le_refl _) _).setNew (p := ⟨w.heap.size, 1, none⟩) (Nat.le_refl _) _).setNew (p := ⟨w.heap.size, 2, none⟩) (Nat.le_refl _) _⟩

end Go.Proofs.YtgjpchnkodnieaaGreatDoor
