import Derived.WalkKit
import Derived.WalkSpells
import Derived.Test.YtkgcmpmgaghdhaaGreatDoorChecked
import Derived.Deep.QuietTactic
import Derived.BigQuiet
import Derived.Deep.Draws
import Derived.Deep.RegionWith
import Derived.Deep.DeepCutAuto
import Derived.RangeFuncRecord
import Derived.Deep.AppendLies
namespace Go.Proofs.YtkgcmpmgaghdhaaGreatDoor

def runeOk (v : Int) : Bool := decide (0 ≤ v ∧ v ≤ 1114111 ∧ (v < 55296 ∨ 57343 < v))

def inCells (v : Int) : Bool := decide (0 ≤ v ∧ v ≤ 10000)

/-- The product of the numbers of a shape that are not 0, going from the front; none when it passes 10000. -/
def prodFrom : List Int → Int → Option Int
  | [], n => some n
  | x :: r, n => if x = 0 then prodFrom r n else if 10000 < n * x then none else prodFrom r (n * x)

def countOf (sh : List Int) : Int :=
  if sh.all inCells then
    match prodFrom sh 1 with
    | none => -1
    | some n => if 0 ∈ sh then 0 else n
  else -1

def dataOk (c : Bool) (v : Int) : Bool := (!c || runeOk v) && decide (-1000000000000000 ≤ v ∧ v ≤ 1000000000000000)

def arrOk (c : Bool) (sh dt : List Int) : Bool := decide (sh.length ≤ 5) && (decide (countOf sh = dt.length) && dt.all (dataOk c))

theorem prodFrom_snoc (xs : List Int) (x n : Int) : prodFrom (xs ++ [x]) n = (prodFrom xs n).bind (fun m => prodFrom [x] m) := by
  induction xs generalizing n with
  | nil => simp [prodFrom]
  | cons y r ih =>
    simp only [List.cons_append, prodFrom]
    split
    · exact ih n
    · split
      · simp
      · exact ih _

theorem prodFrom_bd (xs : List Int) (n m : Int) (hx : xs.all inCells = true) (h1 : 1 ≤ n) (h2 : n ≤ 10000) (h : prodFrom xs n = some m) : 1 ≤ m ∧ m ≤ 10000 := by
  induction xs generalizing n with
  | nil => simp [prodFrom] at h; omega
  | cons y r ih =>
    simp only [List.all_cons, Bool.and_eq_true] at hx
    have hy : 0 ≤ y ∧ y ≤ 10000 := by simpa [inCells] using hx.1
    simp only [prodFrom] at h
    split at h
    · exact ih n hx.2 h1 h2 h
    · split at h
      · simp at h
      · rename_i h0 hle
        refine ih (n * y) hx.2 ?_ (by omega) h
        have : 1 * 1 ≤ n * y := Int.mul_le_mul h1 (by omega) (by omega) (by omega)
        omega

theorem prodFrom_none_append (xs ys : List Int) (n : Int) (h : prodFrom xs n = none) : prodFrom (xs ++ ys) n = none := by
  induction xs generalizing n with
  | nil => simp [prodFrom] at h
  | cons y r ih =>
    simp only [List.cons_append, prodFrom] at h ⊢
    split at h
    · rename_i h0; rw [if_pos h0]; exact ih n h
    · rename_i h0; rw [if_neg h0]
      split at h
      · rename_i h1; rw [if_pos h1]
      · rename_i h1; rw [if_neg h1]; exact ih _ h

theorem take_snoc (xs : List Int) (k : Nat) (h : k < xs.length) : xs.take (k + 1) = xs.take k ++ [xs.getD k 0] := by
  rw [List.take_succ_eq_append_getElem h]; simp [h]

theorem all_step (xs : List Int) (p : Int → Bool) (k : Nat) (h : k < xs.length) (ha : (xs.take k).all p = true) (hp : p (xs.getD k 0) = true) : (xs.take (k + 1)).all p = true := by
  rw [take_snoc xs k h, List.all_append, ha]; simpa using hp

theorem all_not (xs : List Int) (p : Int → Bool) (k : Nat) (h : k < xs.length) (hp : p (xs.getD k 0) = false) : xs.all p = false := by
  rw [← Bool.not_eq_true, List.all_eq_true]
  intro hh
  have := hh (xs.getD k 0) (by simp [h])
  rw [hp] at this
  exact absurd this (by simp)

theorem zero_step (xs : List Int) (k : Nat) (h : k < xs.length) : decide (0 ∈ xs.take (k + 1)) = (decide (0 ∈ xs.take k) || decide (xs.getD k 0 = 0)) := by
  rw [take_snoc xs k h]
  generalize xs.take k = t
  generalize xs.getD k 0 = y
  by_cases h1 : 0 ∈ t <;> by_cases h2 : y = 0 <;> simp [h1, h2]
  exact fun e => h2 e.symm

theorem prod_step0 (xs : List Int) (k : Nat) (h : k < xs.length) (n : Int) (hp : prodFrom (xs.take k) 1 = some n) (h0 : xs.getD k 0 = 0) : prodFrom (xs.take (k + 1)) 1 = some n := by
  rw [take_snoc xs k h, prodFrom_snoc, hp, h0]; simp [prodFrom]

theorem prod_step (xs : List Int) (k : Nat) (h : k < xs.length) (n : Int) (hp : prodFrom (xs.take k) 1 = some n) (h0 : xs.getD k 0 ≠ 0) (hl : n * xs.getD k 0 ≤ 10000) : prodFrom (xs.take (k + 1)) 1 = some (n * xs.getD k 0) := by
  rw [take_snoc xs k h, prodFrom_snoc, hp]; simp only [Option.bind_some, prodFrom, if_neg h0]; rw [if_neg (by omega)]

theorem prod_none (xs : List Int) (k : Nat) (h : k < xs.length) (n : Int) (hp : prodFrom (xs.take k) 1 = some n) (h0 : xs.getD k 0 ≠ 0) (hl : 10000 < n * xs.getD k 0) : prodFrom xs 1 = none := by
  have : prodFrom (xs.take (k + 1)) 1 = none := by
    rw [take_snoc xs k h, prodFrom_snoc, hp]; simp only [Option.bind_some, prodFrom, if_neg h0]; rw [if_pos hl]
  rw [← List.take_append_drop (k + 1) xs]
  exact prodFrom_none_append _ _ _ this

theorem count_bad (sh : List Int) (h : sh.all inCells = false) : countOf sh = -1 := by simp [countOf, h]
theorem count_big (sh : List Int) (h : prodFrom sh 1 = none) : countOf sh = -1 := by unfold countOf; rw [h]; split <;> rfl
theorem count_zero (sh : List Int) (n : Int) (ha : sh.all inCells = true) (h : prodFrom sh 1 = some n) (h0 : decide (0 ∈ sh) = true) : countOf sh = 0 := by
  unfold countOf; rw [h, if_pos ha]; simp only []; rw [if_pos (of_decide_eq_true h0)]
theorem count_n (sh : List Int) (n : Int) (ha : sh.all inCells = true) (h : prodFrom sh 1 = some n) (h0 : decide (0 ∈ sh) = false) : countOf sh = n := by
  unfold countOf; rw [h, if_pos ha]; simp only []; rw [if_neg (of_decide_eq_false h0)]

theorem count_bd (sh : List Int) : -1 ≤ countOf sh ∧ countOf sh ≤ 10000 := by
  unfold countOf
  split
  · rename_i ha
    split
    · omega
    · rename_i n hn
      have := prodFrom_bd sh 1 n ha (by omega) (by omega) hn
      split <;> omega
  · omega

end Go.Proofs.YtkgcmpmgaghdhaaGreatDoor
namespace Go.Proofs.YtkgcmpmgaghdhaaGreatDoor

def inM (v : Int) : Bool := decide (-1000000000000000 ≤ v ∧ v ≤ 1000000000000000)

def truth (b : Bool) : Int := if b then 1 else 0
theorem truth_bd (b : Bool) : 0 ≤ truth b ∧ truth b ≤ 1 := by cases b <;> simp [truth]

def timesOf (a b : Int) : Int × Bool := if inM (a * b) = true then (a * b, true) else (0, false)
def powOf (a b : Int) : Int × Bool := if inM (a ^ b.toNat) = true then (a ^ b.toNat, true) else (0, false)
def modOf (a b : Int) : Int := if a = 0 then b else if b.tmod a ≠ 0 ∧ decide (b.tmod a < 0) ≠ decide (a < 0) then b.tmod a + a else b.tmod a
def orderOf (op a b : Int) : Int :=
  if op = 5 then (if a < b then a else b) else if op = 6 then (if a < b then b else a)
  else if op = 9 then truth (decide (a = b)) else if op = 10 then truth (decide (a ≠ b))
  else if op = 11 then truth (decide (a < b)) else if op = 13 then truth (decide (b ≤ a)) else if op = 12 then truth (decide (a ≤ b)) else truth (decide (b < a))

def limited (r : Int × Bool) : Int × Int := if r.2 = true ∧ inM r.1 = true then (r.1, 0) else (0, 7)

/-- A scalar function on two numbers: what it gives and its code. -/
def twoOf (op a b : Int) : Int × Int :=
  if op = 1 then limited (a + b, true) else if op = 2 then limited (a - b, true) else if op = 3 then limited (timesOf a b)
  else if op = 4 then (if a = 0 ∧ b = 0 then (1, 0) else if b = 0 ∨ a.tmod b ≠ 0 then (0, 3) else limited (a.tdiv b, true))
  else if op = 7 then limited (modOf a b, true)
  else if op = 8 then (if b < 0 then (0, 3) else limited (powOf a b))
  else if op = 15 ∨ op = 16 then (if (a ≠ 0 ∧ a ≠ 1) ∨ (b ≠ 0 ∧ b ≠ 1) then (0, 3) else limited (truth (decide (truth (decide (op = 15)) < a + b)), true))
  else limited (orderOf op a b, true)

theorem tdiv_lt {x y : Int} (hy : 0 < y) : (1000000000000000 : Int).tdiv y < x ↔ 1000000000000000 < x * y := by
  rw [Int.tdiv_eq_ediv_of_nonneg (by omega)]
  constructor
  · intro h
    by_cases h' : 1000000000000000 < x * y
    · exact h'
    · exact absurd (Int.le_ediv_of_mul_le hy (by omega : x * y ≤ 1000000000000000)) (by omega)
  · intro h
    by_cases h' : (1000000000000000 : Int) / y < x
    · exact h'
    · have := Int.mul_le_of_le_ediv hy (by omega : x ≤ (1000000000000000 : Int) / y)
      omega

theorem times_big {a b : Int} (h : inM (a * b) = false) : timesOf a b = (0, false) := by simp [timesOf, h]
theorem times_ok {a b : Int} (h : inM (a * b) = true) : timesOf a b = (a * b, true) := by simp [timesOf, h]
theorem inM_of {v : Int} (h1 : -1000000000000000 ≤ v) (h2 : v ≤ 1000000000000000) : inM v = true := decide_eq_true ⟨h1, h2⟩
theorem inM_not {v : Int} (h : v < -1000000000000000 ∨ 1000000000000000 < v) : inM v = false := decide_eq_false (by omega)
theorem inM_bd {v : Int} (h : inM v = true) : -1000000000000000 ≤ v ∧ v ≤ 1000000000000000 := of_decide_eq_true h

theorem abs_ge_two {a : Int} (h0 : a ≠ 0) (h1 : a ≠ 1) (hm : a ≠ -1) : 2 ≤ a.natAbs := by omega

/-- Beyond the bound a power of a number of two or more stays there. -/
theorem pow_step_big {a : Int} (ha : 2 ≤ a.natAbs) (k n : Nat) (hk : k ≤ n) (h : inM (a ^ k) = false) : inM (a ^ n) = false := by
  have hb : ∀ v : Int, inM v = false ↔ 1000000000000000 < v.natAbs := by
    intro v; simp only [inM, decide_eq_false_iff_not]; omega
  rw [hb] at h ⊢
  rw [Int.natAbs_pow] at h ⊢
  exact Nat.lt_of_lt_of_le h (Nat.pow_le_pow_right (by omega) hk)

theorem pow_bound {a : Int} (ha : 2 ≤ a.natAbs) (k : Nat) (h : inM (a ^ k) = true) : k < 50 := by
  have hb := inM_bd h
  have h1 : (a ^ k).natAbs ≤ 1000000000000000 := by omega
  rw [Int.natAbs_pow] at h1
  rcases Nat.lt_or_ge k 50 with h' | h'
  · exact h'
  · have : 2 ^ 50 ≤ a.natAbs ^ k := Nat.le_trans (Nat.pow_le_pow_right (by omega) h') (Nat.pow_le_pow_left ha k)
    have e : (2 : Nat) ^ 50 = 1125899906842624 := by decide
    omega

end Go.Proofs.YtkgcmpmgaghdhaaGreatDoor
namespace Go.Proofs.YtkgcmpmgaghdhaaGreatDoor

/-- An array and a code, as a function of the document answers them. -/
structure Ans where
  c : Bool
  sh : List Int
  dt : List Int
  code : Int

end Go.Proofs.YtkgcmpmgaghdhaaGreatDoor
namespace Go.Proofs.YtkgcmpmgaghdhaaGreatDoor

/-- The first code other than 0 among the first n; 0 if there is none. -/
def firstCode (f : Nat → Int × Int) : Nat → Int
  | 0 => 0
  | n + 1 => if firstCode f n = 0 then (f n).2 else firstCode f n

def vals (f : Nat → Int × Int) (n : Nat) : List Int := (List.range n).map fun i => (f i).1

theorem vals_len (f : Nat → Int × Int) (n : Nat) : (vals f n).length = n := by simp [vals]

theorem vals_snoc (f : Nat → Int × Int) (n : Nat) : (vals f (n + 1)).map (Value.int .i64) = (vals f n).map (Value.int .i64) ++ [.int .i64 (f n).1] := by
  simp [vals, List.range_succ]

theorem code_step {f : Nat → Int × Int} {n : Nat} (h : firstCode f n = 0) (h2 : (f n).2 = 0) : firstCode f (n + 1) = 0 := by
  simp [firstCode, h, h2]

theorem code_stays {f : Nat → Int × Int} {n m : Nat} (h : firstCode f n ≠ 0) (hm : n ≤ m) : firstCode f m = firstCode f n := by
  induction m with
  | zero => have : n = 0 := by omega
            subst this; rfl
  | succ m ih =>
    rcases Nat.lt_or_ge n (m + 1) with h' | h'
    · have := ih (by omega)
      simp only [firstCode]
      rw [this, if_neg h]
    · have : n = m + 1 := by omega
      subst this; rfl

theorem code_found {f : Nat → Int × Int} {k n : Nat} (h : firstCode f k = 0) (hk : k < n) (h2 : (f k).2 ≠ 0) : firstCode f n = (f k).2 := by
  have e : firstCode f (k + 1) = (f k).2 := by simp [firstCode, h]
  rw [code_stays (n := k + 1) (by rw [e]; exact h2) (by omega), e]

def noAns (code : Int) : Ans := ⟨false, [], [], code⟩

/-- n elements, or the first code. -/
def gatherAns (c : Bool) (sh : List Int) (f : Nat → Int × Int) (n : Nat) : Ans := if firstCode f n = 0 then ⟨c, sh, vals f n, 0⟩ else noAns (firstCode f n)

theorem gather_good {c : Bool} {sh : List Int} {f : Nat → Int × Int} {n : Nat} (h : firstCode f n = 0) : gatherAns c sh f n = ⟨c, sh, vals f n, 0⟩ := by simp [gatherAns, h]
theorem gather_bad {c : Bool} {sh : List Int} {f : Nat → Int × Int} {k n : Nat} (h : firstCode f k = 0) (hk : k < n) (h2 : (f k).2 ≠ 0) : gatherAns c sh f n = noAns (f k).2 := by
  have e := code_found h hk h2
  unfold gatherAns; rw [if_neg (by rw [e]; exact h2), e]

/-- A scalar function on elements of arrays that may be Char. -/
def elemOf (op : Int) (c : Bool) (dt : List Int) (i : Nat) (d : Bool) (dt' : List Int) (j : Nat) : Int × Int :=
  if c ≠ d then (truth (decide (op = 10)), 0) else twoOf op (dt.getD i 0) (dt'.getD j 0)

def opIn (op : Int) : Bool := decide (1 ≤ op ∧ op ≤ 16)
def opEq (op : Int) : Bool := decide (op = 9 ∨ op = 10)

def wideB (n1 n2 m1 m2 : Nat) : Bool := decide (n2 = 1) && (decide (m2 ≠ 1) || decide (n1 < m1))

def scalar2 (op : Int) (c d : Bool) (sh dt sh' dt' : List Int) : Ans :=
  if arrOk c sh dt = true ∧ arrOk d sh' dt' = true ∧ opIn op = true then
    let wide := wideB sh.length dt.length sh'.length dt'.length
    let tall := decide (dt'.length = 1) && !wide
    if (!wide && !tall) = true ∧ sh.length ≠ sh'.length then noAns 4
    else if (!wide && !tall) = true ∧ sh ≠ sh' then noAns 5
    else if (c || d) = true ∧ opEq op = false then noAns 3
    else gatherAns false (if wide then sh' else sh) (fun i => elemOf op c dt (i % dt.length) d dt' (i % dt'.length)) (countOf (if wide then sh' else sh)).toNat
  else noAns 3

end Go.Proofs.YtkgcmpmgaghdhaaGreatDoor
namespace Go.Proofs.YtkgcmpmgaghdhaaGreatDoor

def shapeB (sh : List Int) : Bool := decide (sh.length ≤ 5) && decide (0 ≤ countOf sh)

theorem shape_long {sh : List Int} {n : Nat} (hl : sh.length = n) (h : 5 < n) : shapeB sh = false := by unfold shapeB; rw [decide_eq_false (by omega)]; rfl
theorem shape_bad {sh : List Int} (h : countOf sh = -1) : shapeB sh = false := by unfold shapeB; rw [h]; simp
theorem shape_good {sh : List Int} {n : Nat} (hl : sh.length = n) (h : n ≤ 5) (m : Int) (ha : sh.all inCells = true) (hp : prodFrom sh 1 = some m) : shapeB sh = true := by
  have hb := prodFrom_bd sh 1 m ha (by omega) (by omega) hp
  unfold shapeB; rw [decide_eq_true (by omega)]
  by_cases h0 : decide (0 ∈ sh) = true
  · rw [count_zero sh m ha hp h0]; rfl
  · rw [count_n sh m ha hp (by simpa using h0), decide_eq_true (by omega)]; rfl

/-- The product of all numbers of a shape. -/
def prodAll (sh : List Int) : Int := sh.foldl (· * ·) 1

theorem prodAll_snoc (sh : List Int) (k : Nat) (h : k < sh.length) : prodAll (sh.take (k + 1)) = prodAll (sh.take k) * sh.getD k 0 := by
  rw [take_snoc sh k h]; simp [prodAll]

theorem prodAll_of (sh : List Int) (n m : Int) (h : prodFrom sh n = some m) : sh.foldl (· * ·) n = if 0 ∈ sh then 0 else m := by
  induction sh generalizing n with
  | nil => simp [prodFrom] at h; simp [h]
  | cons x r ih =>
    simp only [prodFrom] at h
    by_cases h0 : x = 0
    · subst h0
      have hz : ∀ (l : List Int), l.foldl (· * ·) 0 = 0 := by intro l; induction l with
        | nil => rfl
        | cons y s ih => simpa using ih
      simp [hz]
    · rw [if_neg h0] at h
      split at h
      · simp at h
      · rw [List.foldl_cons, ih _ h]
        have : (0 ∈ x :: r) ↔ 0 ∈ r := by simp; intro e; exact absurd e.symm h0
        simp only [this]

theorem prodAll_count (sh : List Int) (h : shapeB sh = true) : prodAll sh = countOf sh := by
  unfold shapeB at h
  simp only [Bool.and_eq_true, decide_eq_true_eq] at h
  have h2 := h.2
  unfold countOf at h2 ⊢
  split at h2
  · rename_i ha
    rw [if_pos ha]
    split at h2
    · omega
    · rename_i m hm
      exact prodAll_of sh 1 m hm
  · omega

theorem prodAll_bd (sh : List Int) (h : shapeB sh = true) (k : Nat) : 0 ≤ prodAll (sh.take k) ∧ prodAll (sh.take k) ≤ 10000 := by
  unfold shapeB at h
  simp only [Bool.and_eq_true, decide_eq_true_eq] at h
  have h2 := h.2
  unfold countOf at h2
  split at h2
  · rename_i ha
    split at h2
    · omega
    · rename_i m hm
      have hat : (sh.take k).all inCells = true := by rw [List.all_eq_true]; exact fun x hx => List.all_eq_true.1 ha x (List.mem_of_mem_take hx)
      cases hpt : prodFrom (sh.take k) 1 with
      | none =>
        have := prodFrom_none_append (sh.take k) (sh.drop k) 1 hpt
        rw [List.take_append_drop] at this
        rw [this] at hm; simp at hm
      | some m' =>
        have hb := prodFrom_bd _ 1 m' hat (by omega) (by omega) hpt
        unfold prodAll
        rw [prodAll_of _ 1 m' hpt]
        split <;> omega
  · omega

/-- Numbers that a valid array may have in its shape, but for how many they are. -/
def ShapeIn (sh : List Int) : Prop := sh.all inCells = true ∧ ∃ m, prodFrom sh 1 = some m

theorem prodFrom_less (ys : List Int) (n m k : Int) (hy : ys.all inCells = true) (hk : 1 ≤ k) (hkn : k ≤ n) (h : prodFrom ys n = some m) : ∃ m', prodFrom ys k = some m' := by
  induction ys generalizing n k with
  | nil => exact ⟨k, rfl⟩
  | cons y r ih =>
    simp only [List.all_cons, Bool.and_eq_true] at hy
    have hyb : 0 ≤ y ∧ y ≤ 10000 := by simpa [inCells] using hy.1
    simp only [prodFrom] at h ⊢
    by_cases h0 : y = 0
    · rw [if_pos h0] at h ⊢; exact ih n k hy.2 hk hkn h
    · rw [if_neg h0] at h ⊢
      split at h
      · simp at h
      · rename_i hle
        have h1 : k * y ≤ n * y := Int.mul_le_mul_of_nonneg_right hkn (by omega)
        have h2 : 1 * 1 ≤ k * y := Int.mul_le_mul hk (by omega) (by omega) (by omega)
        rw [if_neg (by omega)]
        exact ih (n * y) (k * y) hy.2 (by omega) h1 h

theorem ShapeIn.take {sh : List Int} (h : ShapeIn sh) (k : Nat) : ShapeIn (sh.take k) := by
  obtain ⟨ha, m, hm⟩ := h
  refine ⟨by rw [List.all_eq_true]; exact fun x hx => List.all_eq_true.1 ha x (List.mem_of_mem_take hx), ?_⟩
  cases hpt : prodFrom (sh.take k) 1 with
  | none =>
    have := prodFrom_none_append (sh.take k) (sh.drop k) 1 hpt
    rw [List.take_append_drop] at this
    rw [this] at hm; simp at hm
  | some m' => exact ⟨m', rfl⟩

theorem prodFrom_append (xs ys : List Int) (n : Int) : prodFrom (xs ++ ys) n = (prodFrom xs n).bind (prodFrom ys) := by
  induction xs generalizing n with
  | nil => simp [prodFrom]
  | cons y r ih =>
    simp only [List.cons_append, prodFrom]
    split
    · exact ih n
    · split
      · simp
      · exact ih _

theorem ShapeIn.drop {sh : List Int} (h : ShapeIn sh) (k : Nat) : ShapeIn (sh.drop k) := by
  have ht := h.take k
  obtain ⟨ha, m, hm⟩ := h
  have hd : (sh.drop k).all inCells = true := by rw [List.all_eq_true]; exact fun x hx => List.all_eq_true.1 ha x (List.mem_of_mem_drop hx)
  refine ⟨hd, ?_⟩
  obtain ⟨hta, p, hp⟩ := ht
  have hb := prodFrom_bd _ 1 p hta (by omega) (by omega) hp
  rw [← List.take_append_drop k sh, prodFrom_append, hp, Option.bind_some] at hm
  exact prodFrom_less _ p m 1 hd (by omega) hb.1 hm

theorem ShapeIn.bd {sh : List Int} (h : ShapeIn sh) : 0 ≤ prodAll sh ∧ prodAll sh ≤ 10000 := by
  obtain ⟨ha, m, hm⟩ := h
  have hb := prodFrom_bd sh 1 m ha (by omega) (by omega) hm
  unfold prodAll
  rw [prodAll_of sh 1 m hm]
  split <;> omega

theorem ShapeIn.cell {sh : List Int} (h : ShapeIn sh) (k : Nat) : 0 ≤ sh.getD k 0 ∧ sh.getD k 0 ≤ 10000 := by
  by_cases hk : k < sh.length
  · have := List.all_eq_true.1 h.1 (sh.getD k 0) (by simp [hk])
    simpa [inCells] using this
  · have e : sh.getD k 0 = 0 := by simp [List.getD, List.getElem?_eq_none (by omega : sh.length ≤ k)]
    rw [e]; omega

theorem shapeIn_of {c : Bool} {sh dt : List Int} (h : arrOk c sh dt = true) : ShapeIn sh ∧ prodAll sh = dt.length ∧ sh.length ≤ 5 := by
  unfold arrOk at h
  simp only [Bool.and_eq_true, decide_eq_true_eq] at h
  obtain ⟨h5, hc, _⟩ := h
  have hs : shapeB sh = true := by unfold shapeB; rw [decide_eq_true h5, decide_eq_true (by omega)]; rfl
  refine ⟨?_, by rw [prodAll_count sh hs, hc], h5⟩
  unfold countOf at hc
  split at hc
  · rename_i ha
    split at hc
    · omega
    · rename_i m hm; exact ⟨ha, m, hm⟩
  · omega

theorem prodAll_append (xs ys : List Int) : prodAll (xs ++ ys) = prodAll xs * prodAll ys := by
  have key : ∀ (ys : List Int) (n : Int), ys.foldl (· * ·) n = n * ys.foldl (· * ·) 1 := by
    intro ys
    induction ys with
    | nil => intro n; simp
    | cons y r ih => intro n; rw [List.foldl_cons, List.foldl_cons, ih (n * y), ih (1 * y), Int.one_mul, Int.mul_assoc]
  unfold prodAll
  rw [List.foldl_append, key]

end Go.Proofs.YtkgcmpmgaghdhaaGreatDoor
namespace Go.Proofs.YtkgcmpmgaghdhaaGreatDoor

/-- The place of the last axis, or of the first. -/
def axisAt (sh : List Int) (first : Bool) : Nat := if first then 0 else sh.length - 1
def axisB (sh : List Int) (first : Bool) : Int := prodAll (sh.take (axisAt sh first))
def axisN (sh : List Int) (first : Bool) : Int := sh.getD (axisAt sh first) 0
def axisA (sh : List Int) (first : Bool) : Int := prodAll (sh.drop (axisAt sh first + 1))
def without (sh : List Int) (first : Bool) : List Int := if first then sh.drop 1 else sh.take (sh.length - 1)

theorem axis_all (sh : List Int) (first : Bool) (h : sh ≠ []) : axisB sh first * axisN sh first * axisA sh first = prodAll sh := by
  have hl : 0 < sh.length := List.length_pos_iff.mpr h
  have hat : axisAt sh first < sh.length := by unfold axisAt; split <;> omega
  have e : sh = sh.take (axisAt sh first) ++ ([sh.getD (axisAt sh first) 0] ++ sh.drop (axisAt sh first + 1)) := by
    have h1 := List.take_append_drop (axisAt sh first + 1) sh
    rw [take_snoc sh _ hat, List.append_assoc] at h1
    exact h1.symm
  have e1 : prodAll [sh.getD (axisAt sh first) 0] = sh.getD (axisAt sh first) 0 := by simp [prodAll]
  have e2 := congrArg prodAll e
  rw [prodAll_append, prodAll_append, e1, ← Int.mul_assoc] at e2
  exact e2.symm

/-- What folding nothing gives. -/
def emptyOf (op : Int) : Int := [0, 0, 0, 1, 1, 1000000000000000, -1000000000000000, 0, 1, 1, 0, 0, 1, 1, 0, 1, 0].getD op.toNat 0

/-- Numbers folded from the right, and the code. -/
def foldR (op : Int) : List Int → Int × Int
  | [] => (emptyOf op, 0)
  | [x] => (x, 0)
  | x :: y :: r => if (foldR op (y :: r)).2 ≠ 0 then (0, (foldR op (y :: r)).2) else twoOf op x (foldR op (y :: r)).1

theorem foldR_cons {op x : Int} {r : List Int} (h : r ≠ []) : foldR op (x :: r) = if (foldR op r).2 ≠ 0 then (0, (foldR op r).2) else twoOf op x (foldR op r).1 := by
  cases r with
  | nil => exact absurd rfl h
  | cons y s => rfl

theorem foldR_code {op : Int} (xs : List Int) {r : List Int} {c : Int} (hr : r ≠ []) (h : foldR op r = (0, c)) (hc : c ≠ 0) : foldR op (xs ++ r) = (0, c) := by
  induction xs with
  | nil => exact h
  | cons x s ih =>
    rw [List.cons_append, foldR_cons (by simp [hr]), ih]
    simp [hc]

theorem two_code {op a b : Int} (h : (twoOf op a b).2 ≠ 0) : (twoOf op a b).1 = 0 := by
  unfold twoOf limited at h ⊢
  repeat' split
  all_goals simp_all

theorem two_bd (op a b : Int) : -1000000000000000 ≤ (twoOf op a b).1 ∧ (twoOf op a b).1 ≤ 1000000000000000 := by
  have hl : ∀ r : Int × Bool, -1000000000000000 ≤ (limited r).1 ∧ (limited r).1 ≤ 1000000000000000 := by
    intro r; unfold limited; split
    · rename_i h; exact inM_bd h.2
    · simp
  unfold twoOf
  repeat' split
  all_goals first | exact hl _ | simp

/-- The numbers along an axis. -/
def lineOf (dt : List Int) (p n after q : Nat) : List Int := (List.range n).map fun i => dt.getD ((p * n + i) * after + q) 0

theorem line_len (dt : List Int) (p n after q : Nat) : (lineOf dt p n after q).length = n := by simp [lineOf]
theorem line_get (dt : List Int) (p n after q i : Nat) (h : i < n) : (lineOf dt p n after q).getD i 0 = dt.getD ((p * n + i) * after + q) 0 := by simp [lineOf, h]
theorem line_snoc (dt : List Int) (p n after q k : Nat) (h : k < n) : ((lineOf dt p n after q).take (k + 1)).map (Value.int .i64) = ((lineOf dt p n after q).take k).map (Value.int .i64) ++ [.int .i64 (dt.getD ((p * n + k) * after + q) 0)] := by
  rw [take_snoc _ _ (by rw [line_len]; exact h), line_get _ _ _ _ _ _ h]; simp

theorem line_in {B n A p q i L : Nat} (hL : B * n * A = L) (hp : p < B) (hq : q < A) (hi : i < n) : (p * n + i) * A + q < L := by
  have h1 : p * n + i < B * n := by
    have : (p + 1) * n ≤ B * n := Nat.mul_le_mul_right n hp
    rw [Nat.add_mul] at this; omega
  have h2 : (p * n + i + 1) * A ≤ B * n * A := Nat.mul_le_mul_right A h1
  rw [Nat.add_mul] at h2; omega

def fold (op : Int) (c : Bool) (sh dt : List Int) (first : Bool) : Ans :=
  if arrOk c sh dt = true ∧ opIn op = true then
    if sh = [] then ⟨c, [], dt, 0⟩
    else if c = true ∧ axisN sh first ≠ 1 then noAns 3
    else gatherAns c (without sh first) (fun k => foldR op (lineOf dt (k / (axisA sh first).toNat) (axisN sh first).toNat (axisA sh first).toNat (k % (axisA sh first).toNat))) ((axisB sh first).toNat * (axisA sh first).toNat)
  else noAns 3

def scan (op : Int) (c : Bool) (sh dt : List Int) (first : Bool) : Ans :=
  if arrOk c sh dt = true ∧ opIn op = true then
    if sh = [] then ⟨c, [], dt, 0⟩
    else if c = true ∧ 1 < axisN sh first then noAns 3
    else gatherAns c sh (fun k => foldR op ((lineOf dt (k / (axisA sh first).toNat / (axisN sh first).toNat) (axisN sh first).toNat (axisA sh first).toNat (k % (axisA sh first).toNat)).take (k / (axisA sh first).toNat % (axisN sh first).toNat + 1))) ((axisB sh first).toNat * (axisN sh first).toNat * (axisA sh first).toNat)
  else noAns 3

end Go.Proofs.YtkgcmpmgaghdhaaGreatDoor
namespace Go.Proofs.YtkgcmpmgaghdhaaGreatDoor

/-- The first place of an element, the number of elements when it is not there. -/
def firstOf (c : Bool) (dt : List Int) (v : Int) (ch : Bool) : Nat := if c = ch then dt.findIdx (fun x => decide (x = v)) else dt.length

theorem first_here {dt : List Int} {v : Int} {k : Nat} (h : ∀ j, j < k → dt.getD j 0 ≠ v) (hk : k < dt.length) (he : dt.getD k 0 = v) : dt.findIdx (fun x => decide (x = v)) = k := by
  rw [List.findIdx_eq hk]
  have hg : dt[k] = dt.getD k 0 := by simp [List.getD, hk]
  refine ⟨by rw [hg]; simpa using he, fun j hj => ?_⟩
  have hj' : dt[j]'(by omega) = dt.getD j 0 := by simp [List.getD, Nat.lt_trans hj hk]
  rw [hj']
  simpa using h j hj

theorem first_none {dt : List Int} {v : Int} (h : ∀ j, j < dt.length → dt.getD j 0 ≠ v) : dt.findIdx (fun x => decide (x = v)) = dt.length := by
  rw [List.findIdx_eq_length]
  intro x hx
  obtain ⟨j, hj, rfl⟩ := List.getElem_of_mem hx
  have hj' : dt[j] = dt.getD j 0 := by simp [List.getD, hj]
  rw [hj']
  simpa using h j hj

theorem first_le (c : Bool) (dt : List Int) (v : Int) (ch : Bool) : firstOf c dt v ch ≤ dt.length := by
  unfold firstOf; split
  · exact List.findIdx_le_length
  · exact Nat.le_refl _

def find (c d : Bool) (sh dt sh' dt' : List Int) : Ans :=
  if arrOk c sh dt = true ∧ arrOk d sh' dt' = true then
    if sh.length ≠ 1 then noAns 4 else gatherAns false sh' (fun k => ((firstOf c dt (dt'.getD k 0) d : Int) + 1, 0)) dt'.length
  else noAns 3

def member (c d : Bool) (sh dt sh' dt' : List Int) : Ans :=
  if arrOk c sh dt = true ∧ arrOk d sh' dt' = true then gatherAns false sh (fun k => (truth (decide (firstOf d dt' (dt.getD k 0) c < dt'.length)), 0)) dt.length
  else noAns 3

end Go.Proofs.YtkgcmpmgaghdhaaGreatDoor
namespace Go.Proofs.YtkgcmpmgaghdhaaGreatDoor

/-- The place of an index, by its first k numbers. -/
def placeN (sh ix : List Int) : Nat → Int
  | 0 => 0
  | k + 1 => placeN sh ix k * sh.getD k 0 + ix.getD k 0

def place (sh ix : List Int) : Int := placeN sh ix sh.length

/-- Each number of an index is below its axis. -/
def IxIn (sh ix : List Int) : Prop := ∀ k, k < sh.length → 0 ≤ ix.getD k 0 ∧ ix.getD k 0 < sh.getD k 0

theorem placeN_bd {sh ix : List Int} (hi : IxIn sh ix) (k : Nat) (hk : k ≤ sh.length) : 0 ≤ placeN sh ix k ∧ placeN sh ix k < prodAll (sh.take k) := by
  induction k with
  | zero => simp [placeN, prodAll]
  | succ k ih =>
    obtain ⟨h1, h2⟩ := ih (by omega)
    obtain ⟨h3, h4⟩ := hi k (by omega)
    rw [prodAll_snoc sh k (by omega)]
    show 0 ≤ placeN sh ix k * sh.getD k 0 + ix.getD k 0 ∧ placeN sh ix k * sh.getD k 0 + ix.getD k 0 < _
    have h5 : 0 ≤ placeN sh ix k * sh.getD k 0 := Int.mul_nonneg h1 (by omega)
    have h6 : (placeN sh ix k + 1) * sh.getD k 0 ≤ prodAll (sh.take k) * sh.getD k 0 := Int.mul_le_mul_of_nonneg_right (by omega) (by omega)
    rw [Int.add_mul, Int.one_mul] at h6
    omega

theorem place_bd {sh ix : List Int} (hi : IxIn sh ix) : 0 ≤ place sh ix ∧ place sh ix < prodAll sh := by
  have := placeN_bd hi sh.length (Nat.le_refl _)
  rwa [List.take_length] at this

/-- What is left of a place behind j axes, going from the last. -/
def restN (sh : List Int) (p : Int) : Nat → Int
  | 0 => p
  | j + 1 => restN sh p j / sh.getD (sh.length - 1 - j) 0

def digit (sh : List Int) (p : Int) (i : Nat) : Int := restN sh p (sh.length - 1 - i) % sh.getD i 0

/-- The index of a place. -/
def digits (sh : List Int) (p : Int) : List Int := (List.range sh.length).map (digit sh p)

theorem digits_len (sh : List Int) (p : Int) : (digits sh p).length = sh.length := by simp [digits]

theorem digits_get (sh : List Int) (p : Int) (k : Nat) (hk : k < sh.length) : (digits sh p).getD k 0 = digit sh p k := by simp [digits, hk]

/-- No axis of length 0. -/
def Full (sh : List Int) : Prop := ∀ k, k < sh.length → 0 < sh.getD k 0

theorem restN_nn {sh : List Int} (hf : Full sh) {p : Int} (hp : 0 ≤ p) (j : Nat) (hj : j ≤ sh.length) : 0 ≤ restN sh p j ∧ restN sh p j ≤ p := by
  induction j with
  | zero => exact ⟨hp, Int.le_refl _⟩
  | succ j ih =>
    obtain ⟨h1, h2⟩ := ih (by omega)
    have hs := hf (sh.length - 1 - j) (by omega)
    show 0 ≤ restN sh p j / sh.getD (sh.length - 1 - j) 0 ∧ restN sh p j / sh.getD (sh.length - 1 - j) 0 ≤ p
    exact ⟨Int.ediv_nonneg h1 (by omega), Int.le_trans (Int.ediv_le_self _ h1) h2⟩

theorem digits_in {sh : List Int} (hf : Full sh) (p : Int) : IxIn sh (digits sh p) := by
  intro k hk
  rw [digits_get sh p k hk]
  have hs := hf k hk
  exact ⟨Int.emod_nonneg _ (by omega), Int.emod_lt_of_pos _ hs⟩

theorem restN_lt {sh : List Int} (hf : Full sh) {p : Int} (hl : p < prodAll sh) (j : Nat) (hj : j ≤ sh.length) : restN sh p j < prodAll (sh.take (sh.length - j)) := by
  induction j with
  | zero => simpa [restN] using hl
  | succ j ih =>
    have h1 := ih (by omega)
    have hs := hf (sh.length - 1 - j) (by omega)
    have e : sh.length - j = sh.length - 1 - j + 1 := by omega
    rw [e, prodAll_snoc sh _ (by omega)] at h1
    have e2 : sh.length - (j + 1) = sh.length - 1 - j := by omega
    rw [e2]
    exact Int.ediv_lt_of_lt_mul hs h1

theorem place_digits_aux {sh : List Int} (hf : Full sh) {p : Int} (hp : 0 ≤ p) (hl : p < prodAll sh) (k : Nat) (hk : k ≤ sh.length) : placeN sh (digits sh p) k = restN sh p (sh.length - k) := by
  induction k with
  | zero =>
    have h1 := (restN_nn hf hp sh.length (Nat.le_refl _)).1
    have h2 := restN_lt hf hl sh.length (Nat.le_refl _)
    simp [prodAll] at h2
    show (0 : Int) = _
    simp
    omega
  | succ k ih =>
    have h1 := ih (by omega)
    show placeN sh (digits sh p) k * sh.getD k 0 + (digits sh p).getD k 0 = _
    rw [h1, digits_get sh p k (by omega)]
    have e : sh.length - k = sh.length - (k + 1) + 1 := by omega
    have e2 : sh.length - 1 - (sh.length - (k + 1)) = k := by omega
    have e3 : sh.length - 1 - k = sh.length - (k + 1) := by omega
    rw [e]
    show restN sh p (sh.length - (k + 1)) / sh.getD (sh.length - 1 - (sh.length - (k + 1))) 0 * sh.getD k 0 + digit sh p k = _
    rw [e2]
    unfold digit
    rw [e3, Int.mul_comm]
    exact Int.mul_ediv_add_emod _ _

/-- The index of a place is the index of that place. -/
theorem place_digits {sh : List Int} (hf : Full sh) {p : Int} (hp : 0 ≤ p) (hl : p < prodAll sh) : place sh (digits sh p) = p := by
  have := place_digits_aux hf hp hl sh.length (Nat.le_refl _)
  simpa [place, restN] using this

theorem full_of {sh : List Int} (h : ShapeIn sh) (hp : 0 < prodAll sh) : Full sh := by
  intro k hk
  have h1 := (h.cell k).1
  by_cases h0 : sh.getD k 0 = 0
  · exfalso
    have e : sh = sh.take k ++ sh.getD k 0 :: sh.drop (k + 1) := by simp [List.getD, hk]
    have hz : prodAll sh = 0 := by
      rw [e, prodAll_append, h0]
      have : prodAll (0 :: sh.drop (k + 1)) = prodAll [0] * prodAll (sh.drop (k + 1)) := by rw [← prodAll_append]; rfl
      rw [this]
      simp [prodAll]
    omega
  · omega

theorem drop_set {D : List Int} {m : Nat} (hm : m < D.length) : (List.replicate (m + 1) (0 : Int) ++ D.drop (m + 1)).set m (D.getD m 0) = List.replicate m 0 ++ D.drop m := by
  have e : D.drop m = D.getD m 0 :: D.drop (m + 1) := by simp [List.getD, hm]
  rw [e, List.replicate_succ', List.append_assoc, List.set_append_right _ _ (by simp)]
  simp

end Go.Proofs.YtkgcmpmgaghdhaaGreatDoor
namespace Go.Proofs.YtkgcmpmgaghdhaaGreatDoor

/-- The code of an array that should be a list of numbers. -/
def listCode (c : Bool) (n : Nat) : Int := if 1 < n then 4 else if c then 3 else 0

def fillOf (c : Bool) : Int := if c then 32 else 0

def reshapeAt (d : Bool) (dt' : List Int) (m2 k : Nat) : Int × Int := (if m2 = 0 then fillOf d else dt'.getD (k % m2) 0, 0)

def nonNeg (v : Int) : Bool := decide (0 ≤ v)

def reshape (c d : Bool) (sh dt sh' dt' : List Int) : Ans :=
  if arrOk c sh dt = true ∧ arrOk d sh' dt' = true then
    if listCode c sh.length ≠ 0 then noAns (listCode c sh.length)
    else if dt.all nonNeg = false then noAns 3
    else if shapeB dt = false then noAns 7
    else gatherAns d dt (reshapeAt d dt' dt'.length) (countOf dt).toNat
  else noAns 3

theorem reshape_bad1 {c d : Bool} {sh dt sh' dt' : List Int} (h : arrOk c sh dt = false) : reshape c d sh dt sh' dt' = noAns 3 := by unfold reshape; rw [if_neg (by simp [h])]
theorem reshape_bad2 {c d : Bool} {sh dt sh' dt' : List Int} (h : arrOk d sh' dt' = false) : reshape c d sh dt sh' dt' = noAns 3 := by unfold reshape; rw [if_neg (by simp [h])]
theorem reshape_list {c d : Bool} {sh dt sh' dt' : List Int} (h1 : arrOk c sh dt = true) (h2 : arrOk d sh' dt' = true) (r : Int) (h : listCode c sh.length = r) (hr : r ≠ 0) : reshape c d sh dt sh' dt' = noAns r := by
  unfold reshape; rw [if_pos ⟨h1, h2⟩, h, if_pos hr]
theorem reshape_neg {c d : Bool} {sh dt sh' dt' : List Int} (h1 : arrOk c sh dt = true) (h2 : arrOk d sh' dt' = true) (h : listCode c sh.length = 0) (h3 : dt.all nonNeg = false) : reshape c d sh dt sh' dt' = noAns 3 := by
  unfold reshape; rw [if_pos ⟨h1, h2⟩, if_neg (by simp [h]), if_pos h3]
theorem reshape_big {c d : Bool} {sh dt sh' dt' : List Int} (h1 : arrOk c sh dt = true) (h2 : arrOk d sh' dt' = true) (h : listCode c sh.length = 0) (h3 : dt.all nonNeg = true) (h4 : shapeB dt = false) : reshape c d sh dt sh' dt' = noAns 7 := by
  unfold reshape; rw [if_pos ⟨h1, h2⟩, if_neg (by simp [h]), if_neg (by simp [h3]), if_pos h4]
theorem reshape_go {c d : Bool} {sh dt sh' dt' : List Int} (h1 : arrOk c sh dt = true) (h2 : arrOk d sh' dt' = true) (h : listCode c sh.length = 0) (h3 : dt.all nonNeg = true) (h4 : shapeB dt = true) (m2 N : Nat) (l4 : dt'.length = m2) (hN : countOf dt = N) : reshape c d sh dt sh' dt' = gatherAns d dt (reshapeAt d dt' m2) N := by
  unfold reshape; rw [if_pos ⟨h1, h2⟩, if_neg (by simp [h]), if_neg (by simp [h3]), if_neg (by simp [h4]), l4, hN]; rfl

theorem shapeB_count {sh : List Int} (h : shapeB sh = true) : 0 ≤ countOf sh ∧ countOf sh ≤ 10000 := by
  unfold shapeB at h
  simp only [Bool.and_eq_true, decide_eq_true_eq] at h
  exact ⟨h.2, (count_bd sh).2⟩

end Go.Proofs.YtkgcmpmgaghdhaaGreatDoor
namespace Go.Proofs.YtkgcmpmgaghdhaaGreatDoor

/-- An index moved by a start. -/
def addIx (ix st : List Int) : List Int := (List.range ix.length).map fun i => ix.getD i 0 + st.getD i 0

theorem addIx_len (ix st : List Int) : (addIx ix st).length = ix.length := by simp [addIx]
theorem addIx_get (ix st : List Int) (k : Nat) (hk : k < ix.length) : (addIx ix st).getD k 0 = ix.getD k 0 + st.getD k 0 := by simp [addIx, hk]

/-- The first k numbers of an index lie within their axes. -/
def insideN (sh ix : List Int) : Nat → Bool
  | 0 => true
  | k + 1 => insideN sh ix k && (decide (0 ≤ ix.getD k 0) && decide (ix.getD k 0 < sh.getD k 0))

theorem inside_each {sh ix : List Int} {n : Nat} (h : insideN sh ix n = true) (k : Nat) (hk : k < n) : 0 ≤ ix.getD k 0 ∧ ix.getD k 0 < sh.getD k 0 := by
  induction n with
  | zero => omega
  | succ n ih =>
    simp only [insideN, Bool.and_eq_true, decide_eq_true_eq] at h
    by_cases e : k = n
    · subst e; exact h.2
    · exact ih h.1 (by omega)

theorem inside_in {sh ix : List Int} (h : insideN sh ix sh.length = true) : IxIn sh ix := fun k hk => inside_each h k hk

/-- What stands at place k of a window. -/
def windowAt (c : Bool) (sh dt st zs : List Int) (k : Nat) : Int × Int :=
  if insideN sh (addIx (digits zs k) st) sh.length = true then (dt.getD (place sh (addIx (digits zs k) st)).toNat 0, 0) else (fillOf c, 0)

theorem window_code (c : Bool) (sh dt st zs : List Int) (k : Nat) : (windowAt c sh dt st zs k).2 = 0 := by unfold windowAt; split <;> rfl

theorem mix_set {A D : List Int} {k : Nat} (hl : A.length = D.length) (hk : k < D.length) : (A.take k ++ D.drop k).set k (A.getD k 0) = A.take (k + 1) ++ D.drop (k + 1) := by
  have e : D.drop k = D.getD k 0 :: D.drop (k + 1) := by simp [List.getD, hk]
  have e2 : A.take (k + 1) = A.take k ++ [A.getD k 0] := take_snoc A k (by omega)
  rw [e, e2, List.append_assoc, List.set_append_right _ _ (by simp; omega)]
  have e3 : k - (A.take k).length = 0 := by simp; omega
  rw [e3]
  rfl

theorem mix_get {A D : List Int} {k : Nat} (hl : A.length = D.length) (hk : k < D.length) : (A.take k ++ D.drop k).getD k 0 = D.getD k 0 := by
  have e3 : min k A.length = k := by omega
  simp [List.getD, List.getElem?_append, e3]

theorem mix_got {A D : List Int} {k : Nat} (hk : k < A.length) : (A.take (k + 1) ++ D.drop (k + 1)).getD k 0 = A.getD k 0 := by
  have e : k < min (k + 1) A.length := by omega
  simp [List.getD, List.getElem?_append, e, hk]

theorem mix_len {A D : List Int} {k : Nat} (hl : A.length = D.length) (hk : k ≤ D.length) : (A.take k ++ D.drop k).length = D.length := by simp; omega

theorem shapeB_in {sh : List Int} (h : shapeB sh = true) : ShapeIn sh ∧ sh.length ≤ 5 := by
  unfold shapeB at h
  simp only [Bool.and_eq_true, decide_eq_true_eq] at h
  refine ⟨?_, h.1⟩
  have h2 := h.2
  unfold countOf at h2
  split at h2
  · rename_i ha
    split at h2
    · omega
    · rename_i m hm; exact ⟨ha, m, hm⟩
  · omega

end Go.Proofs.YtkgcmpmgaghdhaaGreatDoor
namespace Go.Proofs.YtkgcmpmgaghdhaaGreatDoor

def front (sh : List Int) : List Int := sh.take (sh.length - 1)
def last (sh : List Int) : Int := sh.getD (sh.length - 1) 0

/-- The shape of an array as Catenate takes it beside another. -/
def sideSh (sh sh' : List Int) : List Int := if sh = [] then front sh' ++ [1] else if sh.length + 1 = sh'.length then sh ++ [1] else sh
def sideDt (sh dt sh' : List Int) : List Int := if sh = [] then List.replicate (countOf (sideSh sh sh')).toNat (dt.getD 0 0) else dt

/-- k rows, each of m elements of one list and of n of another. -/
def catN (x y : List Int) (m n : Nat) : Nat → List Int
  | 0 => []
  | k + 1 => catN x y m n k ++ (x.drop (k * m)).take m ++ (y.drop (k * n)).take n

def catenate (c d : Bool) (sh dt sh' dt' : List Int) : Ans :=
  if arrOk c sh dt = true ∧ arrOk d sh' dt' = true then
    if (sideSh sh sh').length ≠ (sideSh sh' sh).length then noAns 4
    else if front (sideSh sh sh') ≠ front (sideSh sh' sh) then noAns 5
    else if c ≠ d ∧ sideDt sh dt sh' ≠ [] ∧ sideDt sh' dt' sh ≠ [] then noAns 3
    else if shapeB (front (sideSh sh sh') ++ [last (sideSh sh sh') + last (sideSh sh' sh)]) = false then noAns 7
    else ⟨if sideDt sh dt sh' = [] ∧ sideDt sh' dt' sh ≠ [] then d else c, front (sideSh sh sh') ++ [last (sideSh sh sh') + last (sideSh sh' sh)],
      catN (sideDt sh dt sh') (sideDt sh' dt' sh) (last (sideSh sh sh')).toNat (last (sideSh sh' sh)).toNat (prodAll (front (sideSh sh sh'))).toNat, 0⟩
  else noAns 3

section
variable {c d : Bool} {sh dt sh' dt' : List Int}
theorem cat_bad1 (h : arrOk c sh dt = false) : catenate c d sh dt sh' dt' = noAns 3 := by unfold catenate; rw [if_neg (by simp [h])]
theorem cat_bad2 (h : arrOk d sh' dt' = false) : catenate c d sh dt sh' dt' = noAns 3 := by unfold catenate; rw [if_neg (by simp [h])]
theorem cat_rank (h1 : arrOk c sh dt = true) (h2 : arrOk d sh' dt' = true) (h : (sideSh sh sh').length ≠ (sideSh sh' sh).length) : catenate c d sh dt sh' dt' = noAns 4 := by
  unfold catenate; rw [if_pos ⟨h1, h2⟩, if_pos h]
variable {L R x y : List Int}
theorem cat_len (h1 : arrOk c sh dt = true) (h2 : arrOk d sh' dt' = true) (hL : sideSh sh sh' = L) (hR : sideSh sh' sh = R) (h : L.length = R.length) (hf : front L ≠ front R) : catenate c d sh dt sh' dt' = noAns 5 := by
  unfold catenate; rw [if_pos ⟨h1, h2⟩, hL, hR, if_neg (by simp [h]), if_pos hf]
theorem cat_dom (h1 : arrOk c sh dt = true) (h2 : arrOk d sh' dt' = true) (hL : sideSh sh sh' = L) (hR : sideSh sh' sh = R) (hx : sideDt sh dt sh' = x) (hy : sideDt sh' dt' sh = y) (h : L.length = R.length) (hf : front L = front R) (hd : c ≠ d ∧ x ≠ [] ∧ y ≠ []) : catenate c d sh dt sh' dt' = noAns 3 := by
  unfold catenate; rw [if_pos ⟨h1, h2⟩, hL, hR, hx, hy, if_neg (by simp [h]), if_neg (by simp [hf]), if_pos hd]
theorem cat_big (h1 : arrOk c sh dt = true) (h2 : arrOk d sh' dt' = true) (hL : sideSh sh sh' = L) (hR : sideSh sh' sh = R) (hx : sideDt sh dt sh' = x) (hy : sideDt sh' dt' sh = y) (h : L.length = R.length) (hf : front L = front R) (hd : ¬ (c ≠ d ∧ x ≠ [] ∧ y ≠ [])) (hz : shapeB (front L ++ [last L + last R]) = false) : catenate c d sh dt sh' dt' = noAns 7 := by
  unfold catenate; rw [if_pos ⟨h1, h2⟩, hL, hR, hx, hy, if_neg (by simp [h]), if_neg (by simp [hf]), if_neg hd, if_pos hz]
theorem cat_go (h1 : arrOk c sh dt = true) (h2 : arrOk d sh' dt' = true) (hL : sideSh sh sh' = L) (hR : sideSh sh' sh = R) (hx : sideDt sh dt sh' = x) (hy : sideDt sh' dt' sh = y) (h : L.length = R.length) (hf : front L = front R) (hd : ¬ (c ≠ d ∧ x ≠ [] ∧ y ≠ [])) (hz : shapeB (front L ++ [last L + last R]) = true) :
    catenate c d sh dt sh' dt' = ⟨if x = [] ∧ y ≠ [] then d else c, front L ++ [last L + last R], catN x y (last L).toNat (last R).toNat (prodAll (front L)).toNat, 0⟩ := by
  unfold catenate; rw [if_pos ⟨h1, h2⟩, hL, hR, hx, hy, if_neg (by simp [h]), if_neg (by simp [hf]), if_neg hd, if_neg (by simp [hz])]
end

theorem shapeIn_snoc1 {l : List Int} (h : ShapeIn l) : ShapeIn (l ++ [1]) := by
  obtain ⟨ha, m, hm⟩ := h
  refine ⟨by rw [List.all_append, ha]; rfl, m, ?_⟩
  have key : ∀ (l : List Int) (n : Int), 1 ≤ n → n ≤ 10000 → l.all inCells = true → ∀ m, prodFrom l n = some m → prodFrom (l ++ [1]) n = some m := by
    intro l
    induction l with
    | nil => intro n h1 h2 _ m hm; simp only [prodFrom] at hm ⊢; simp [prodFrom]; cases hm; omega
    | cons x r ih =>
      intro n h1 h2 hl m hm
      simp only [List.all_cons, Bool.and_eq_true] at hl
      have hx : 0 ≤ x ∧ x ≤ 10000 := by simpa [inCells] using hl.1
      simp only [prodFrom, List.cons_append] at hm ⊢
      by_cases h0 : x = 0
      · rw [if_pos h0] at hm ⊢; exact ih n h1 h2 hl.2 m hm
      · rw [if_neg h0] at hm ⊢
        split at hm
        · cases hm
        · rename_i hle
          rw [if_neg hle]
          have : 1 * 1 ≤ n * x := Int.mul_le_mul h1 (by omega) (by omega) (by omega)
          exact ih _ (by omega) (by omega) hl.2 m hm
  exact key l 1 (by omega) (by omega) ha m hm

theorem front_snoc (l : List Int) (x : Int) : front (l ++ [x]) = l := by simp [front]
theorem last_snoc (l : List Int) (x : Int) : last (l ++ [x]) = x := by simp [last]
theorem front_last {l : List Int} (h : l ≠ []) : l = front l ++ [last l] := by
  have hl : 0 < l.length := List.length_pos_iff.mpr h
  unfold front last
  have := List.take_append_drop (l.length - 1) l
  have e : l.drop (l.length - 1) = [l.getD (l.length - 1) 0] := by
    rw [List.drop_eq_getElem_cons (by omega)]
    simp [List.getD, show l.length - 1 < l.length by omega, show l.length - 1 + 1 = l.length by omega]
  rw [e] at this
  exact this.symm

/-- The array as it is taken has a valid shape. -/
theorem side_in {c d : Bool} {sh dt sh' dt' : List Int} (h1 : arrOk c sh dt = true) (h2 : arrOk d sh' dt' = true) : ShapeIn (sideSh sh sh') ∧ (sideSh sh sh').length ≤ 5 ∧ 0 < (sideSh sh sh').length ∧ prodAll (sideSh sh sh') = (sideDt sh dt sh').length := by
  obtain ⟨i1, p1, l1⟩ := shapeIn_of h1
  obtain ⟨i2, p2, l2⟩ := shapeIn_of h2
  unfold sideDt
  by_cases e : sh = []
  · have hs : sideSh sh sh' = front sh' ++ [1] := by unfold sideSh; rw [if_pos e]
    have hi : ShapeIn (front sh' ++ [1]) := shapeIn_snoc1 (i2.take _)
    have hl : (front sh' ++ [1]).length ≤ 5 := by simp [front]; omega
    rw [if_pos e, hs]
    refine ⟨hi, hl, by simp, ?_⟩
    have hb : shapeB (front sh' ++ [1]) = true := by
      obtain ⟨ha, m, hm⟩ := hi
      exact shape_good (n := (front sh' ++ [1]).length) rfl hl m ha hm
    have hc := prodAll_count _ hb
    have hn := hi.bd.1
    simp
    omega
  · rw [if_neg e]
    unfold sideSh
    rw [if_neg e]
    by_cases e2 : sh.length + 1 = sh'.length
    · rw [if_pos e2]
      refine ⟨shapeIn_snoc1 i1, by simp; omega, by simp, ?_⟩
      rw [prodAll_append, p1]; simp [prodAll]
    · rw [if_neg e2]
      exact ⟨i1, l1, List.length_pos_iff.mpr e, p1⟩

end Go.Proofs.YtkgcmpmgaghdhaaGreatDoor
namespace Go.Proofs.YtkgcmpmgaghdhaaGreatDoor

/-- How often the element at place i of an axis is taken. -/
def timesAt (dt : List Int) (i : Nat) : Int := dt.getD (i % dt.length) 0
/-- The sum of the first m of them. -/
def timesSum (dt : List Int) : Nat → Int
  | 0 => 0
  | m + 1 => timesSum dt m + timesAt dt m
/-- How many places are gone through. -/
def repCount (n K : Nat) : Nat := if n = 1 then K else n

/-- The elements at number i of the axis behind p elements ahead of it. -/
def repBlk (dt' : List Int) (n A p i : Nat) : List Int := (dt'.drop ((p * n + i % n) * A)).take A
def repCopies (dt' : List Int) (n A p i : Nat) : Nat → List Int
  | 0 => []
  | c + 1 => repCopies dt' n A p i c ++ repBlk dt' n A p i
def repLine (dt dt' : List Int) (n A p : Nat) : Nat → List Int
  | 0 => []
  | i + 1 => repLine dt dt' n A p i ++ repCopies dt' n A p i (timesAt dt i).toNat
def repAll (dt dt' : List Int) (n A m : Nat) : Nat → List Int
  | 0 => []
  | p + 1 => repAll dt dt' n A m p ++ repLine dt dt' n A p m

/-- What has been gathered in p rounds, i of the next, c copies, q elements. -/
def repAt (dt dt' : List Int) (n A m p i c q : Nat) : List Int := repAll dt dt' n A m p ++ repLine dt dt' n A p i ++ repCopies dt' n A p i c ++ (repBlk dt' n A p i).take q

theorem repAt_q {dt dt' : List Int} {n A m p i c q : Nat} (h : (p * n + i % n) * A + q < dt'.length) (hq : q < A) : repAt dt dt' n A m p i c q ++ [dt'.getD ((p * n + i % n) * A + q) 0] = repAt dt dt' n A m p i c (q + 1) := by
  unfold repAt
  rw [List.append_assoc]
  congr 1
  have hl : q < (repBlk dt' n A p i).length := by unfold repBlk; simp; omega
  have e : (repBlk dt' n A p i)[q] = dt'.getD ((p * n + i % n) * A + q) 0 := by
    have e0 : (repBlk dt' n A p i)[q]? = dt'[(p * n + i % n) * A + q]? := by
      unfold repBlk
      rw [List.getElem?_take_of_lt hq, List.getElem?_drop]
    rw [List.getElem?_eq_getElem hl, List.getElem?_eq_getElem h] at e0
    rw [Option.some.inj e0]
    simp [List.getD, h]
  rw [List.take_succ_eq_append_getElem hl, e]

theorem repAt_c {dt dt' : List Int} {n A m p i c : Nat} : repAt dt dt' n A m p i c A = repAt dt dt' n A m p i (c + 1) 0 := by
  unfold repAt
  have h : (repBlk dt' n A p i).take A = repBlk dt' n A p i := by unfold repBlk; rw [List.take_take]; simp
  rw [h]
  simp [repCopies, List.append_assoc]

theorem repAt_i {dt dt' : List Int} {n A m p i : Nat} : repAt dt dt' n A m p i (timesAt dt i).toNat 0 = repAt dt dt' n A m p (i + 1) 0 0 := by
  unfold repAt
  simp [repCopies, repLine, List.append_assoc]

theorem repAt_p {dt dt' : List Int} {n A m p : Nat} : repAt dt dt' n A m p m 0 0 = repAt dt dt' n A m (p + 1) 0 0 0 := by
  unfold repAt
  simp [repCopies, repLine, repAll]

theorem repAt_end {dt dt' : List Int} {n A m p : Nat} : repAt dt dt' n A m p 0 0 0 = repAll dt dt' n A m p := by
  unfold repAt
  simp [repCopies, repLine]

end Go.Proofs.YtkgcmpmgaghdhaaGreatDoor
namespace Go.Proofs.YtkgcmpmgaghdhaaGreatDoor

theorem map_range_set (n k : Nat) (f : Nat → Int) (x : Int) : ((List.range n).map f).set k x = (List.range n).map fun i => if i = k then x else f i := by
  apply List.ext_getElem
  · simp
  · intro i h1 h2
    simp only [List.getElem_set, List.getElem_map, List.getElem_range]
    by_cases e : k = i
    · subst e; simp
    · rw [if_neg e, if_neg (fun h => e h.symm)]

theorem map_range_get (n k : Nat) (f : Nat → Int) (h : k < n) : ((List.range n).map f).getD k 0 = f k := by simp [h]
theorem map_range_len (n : Nat) (f : Nat → Int) : ((List.range n).map f).length = n := by simp
theorem map_range_eq {n : Nat} {f g : Nat → Int} (h : ∀ i, i < n → f i = g i) : (List.range n).map f = (List.range n).map g := List.map_congr_left fun i hi => h i (by simpa using hi)

/-- The index of place p whose last j numbers have gone back to 0. -/
def midDigit (sh : List Int) (p : Int) (j i : Nat) : Int := if sh.length - j ≤ i then 0 else digit sh p i
def mid (sh : List Int) (p : Int) (j : Nat) : List Int := (List.range sh.length).map (midDigit sh p j)

theorem mid_len (sh : List Int) (p : Int) (j : Nat) : (mid sh p j).length = sh.length := by simp [mid]
theorem mid_get (sh : List Int) (p : Int) (j : Nat) (hj : j < sh.length) : (mid sh p j).getD (sh.length - 1 - j) 0 = digit sh p (sh.length - 1 - j) := by
  unfold mid; rw [map_range_get _ _ _ (by omega)]; unfold midDigit; rw [if_neg (by omega)]
theorem mid_zero (sh : List Int) (p : Int) : mid sh p 0 = digits sh p := map_range_eq fun i hi => by unfold midDigit; rw [if_neg (by omega)]
theorem mid_step (sh : List Int) (p : Int) (j : Nat) (hj : j < sh.length) : (mid sh p j).set (sh.length - 1 - j) 0 = mid sh p (j + 1) := by
  unfold mid
  rw [map_range_set]
  refine map_range_eq fun i hi => ?_
  unfold midDigit
  by_cases e : i = sh.length - 1 - j
  · rw [if_pos e, if_pos (by omega)]
  · rw [if_neg e]
    by_cases h : sh.length - j ≤ i
    · rw [if_pos h, if_pos (by omega)]
    · rw [if_neg h, if_neg (by omega)]

def Carry (sh : List Int) (p : Int) (j : Nat) : Prop := restN sh (p + 1) j = restN sh p j + 1 ∧ ∀ i, sh.length - j ≤ i → i < sh.length → digit sh (p + 1) i = 0

theorem carry_zero (sh : List Int) (p : Int) : Carry sh p 0 := ⟨rfl, fun i h1 h2 => by omega⟩

theorem next_same {r s : Int} (hs : 0 < s) (h : r % s + 1 < s) : (r + 1) / s = r / s ∧ (r + 1) % s = r % s + 1 := by
  have h1 := Int.mul_ediv_add_emod r s
  have h2 := Int.emod_nonneg r (by omega : s ≠ 0)
  exact (Int.ediv_emod_unique hs).2 ⟨by omega, by omega, h⟩

theorem next_over {r s : Int} (hs : 0 < s) (h : ¬ r % s + 1 < s) : (r + 1) / s = r / s + 1 ∧ (r + 1) % s = 0 := by
  have h1 := Int.mul_ediv_add_emod r s
  have h2 := Int.emod_nonneg r (by omega : s ≠ 0)
  have h3 := Int.emod_lt_of_pos r hs
  have h4 : r % s + 1 = s := by omega
  refine (Int.ediv_emod_unique hs).2 ⟨?_, by omega, hs⟩
  rw [Int.mul_add, Int.mul_one]
  omega

theorem digit_at (sh : List Int) (p : Int) (j : Nat) (hj : j < sh.length) : digit sh p (sh.length - 1 - j) = restN sh p j % sh.getD (sh.length - 1 - j) 0 := by
  unfold digit; rw [show sh.length - 1 - (sh.length - 1 - j) = j by omega]

theorem carry_step {sh : List Int} (hf : Full sh) {p : Int} {j : Nat} (hc : Carry sh p j) (hj : j < sh.length) (h : ¬ digit sh p (sh.length - 1 - j) + 1 < sh.getD (sh.length - 1 - j) 0) : Carry sh p (j + 1) := by
  rw [digit_at _ _ _ hj] at h
  obtain ⟨h1, h2⟩ := next_over (hf (sh.length - 1 - j) (by omega)) h
  refine ⟨?_, fun i hi hl => ?_⟩
  · show restN sh (p + 1) j / _ = restN sh p j / _ + 1
    rw [hc.1]; exact h1
  · by_cases e : i = sh.length - 1 - j
    · subst e; rw [digit_at _ _ _ hj, hc.1]; exact h2
    · exact hc.2 i (by omega) hl

theorem restN_congr {sh : List Int} {p q : Int} {j : Nat} (h : restN sh p j = restN sh q j) (d : Nat) : restN sh p (j + d) = restN sh q (j + d) := by
  induction d with
  | zero => exact h
  | succ d ih => show restN sh p (j + d) / _ = restN sh q (j + d) / _; rw [ih]

theorem carry_stop {sh : List Int} (hf : Full sh) {p : Int} {j : Nat} (hc : Carry sh p j) (hj : j < sh.length) (h : digit sh p (sh.length - 1 - j) + 1 < sh.getD (sh.length - 1 - j) 0) :
    (mid sh p j).set (sh.length - 1 - j) (digit sh p (sh.length - 1 - j) + 1) = digits sh (p + 1) := by
  have hd := digit_at sh p j hj
  rw [hd] at h ⊢
  obtain ⟨h1, h2⟩ := next_same (hf (sh.length - 1 - j) (by omega)) h
  unfold mid digits
  rw [map_range_set]
  refine map_range_eq fun i hi => ?_
  by_cases e : i = sh.length - 1 - j
  · rw [if_pos e]; subst e; rw [digit_at _ _ _ hj, hc.1, h2]
  · rw [if_neg e]
    unfold midDigit
    by_cases h3 : sh.length - j ≤ i
    · rw [if_pos h3, hc.2 i h3 hi]
    · rw [if_neg h3]
      have e2 : restN sh p (j + 1) = restN sh (p + 1) (j + 1) := by
        show restN sh p j / _ = restN sh (p + 1) j / _
        rw [hc.1, h1]
      have e3 := restN_congr e2 (sh.length - 1 - i - (j + 1))
      rw [show j + 1 + (sh.length - 1 - i - (j + 1)) = sh.length - 1 - i by omega] at e3
      unfold digit
      rw [e3]

theorem carry_end {sh : List Int} {p : Int} {j : Nat} (hc : Carry sh p j) (hj : sh.length ≤ j) : mid sh p j = digits sh (p + 1) :=
  map_range_eq fun i hi => by unfold midDigit; rw [if_pos (by omega), hc.2 i (by omega) hi]

theorem digits_zero (sh : List Int) : digits sh 0 = List.replicate sh.length 0 := by
  have h0 : ∀ j, restN sh 0 j = 0 := by
    intro j
    induction j with
    | zero => rfl
    | succ j ih => show restN sh 0 j / _ = 0; rw [ih]; simp
  have e : List.replicate sh.length (0 : Int) = (List.range sh.length).map fun _ => 0 := by
    rw [List.map_const']; simp
  rw [e]
  exact map_range_eq fun i hi => by unfold digit; rw [h0]; simp

/-- The index of another array that a function of indexes means. -/
def meant (sh : List Int) (f : List Int → Nat → Int) (D : List Int) : List Int := (List.range sh.length).map (f D)

theorem meant_len (sh : List Int) (f : List Int → Nat → Int) (D : List Int) : (meant sh f D).length = sh.length := by simp [meant]
theorem meant_get (sh : List Int) (f : List Int → Nat → Int) (D : List Int) (k : Nat) (h : k < sh.length) : (meant sh f D).getD k 0 = f D k := map_range_get _ _ _ h

/-- What stands at place k of what is gathered. -/
def gatherAt (c : Bool) (sh dt : List Int) (f : List Int → Nat → Int) (zs : List Int) (k : Nat) : Int × Int :=
  if insideN sh (meant sh f (digits zs k)) sh.length = true then (dt.getD (place sh (meant sh f (digits zs k))).toNat 0, 0) else (fillOf c, 0)

/-- k elements have been gathered, the others are the fill. -/
def halfway (c : Bool) (sh dt : List Int) (f : List Int → Nat → Int) (zs : List Int) (N k : Nat) : List Int := (List.range N).map fun i => if i < k then (gatherAt c sh dt f zs i).1 else fillOf c

theorem half_len (c : Bool) (sh dt : List Int) (f : List Int → Nat → Int) (zs : List Int) (N k : Nat) : (halfway c sh dt f zs N k).length = N := by simp [halfway]
theorem half_zero (c : Bool) (sh dt : List Int) (f : List Int → Nat → Int) (zs : List Int) (N : Nat) : halfway c sh dt f zs N 0 = List.replicate N (fillOf c) := by
  have e : List.replicate N (fillOf c) = (List.range N).map fun _ => fillOf c := by rw [List.map_const']; simp
  rw [e]
  exact map_range_eq fun i _ => by rw [if_neg (by omega)]
theorem half_all (c : Bool) (sh dt : List Int) (f : List Int → Nat → Int) (zs : List Int) (N : Nat) : halfway c sh dt f zs N N = vals (gatherAt c sh dt f zs) N := map_range_eq fun i hi => by rw [if_pos hi]
theorem half_in (c : Bool) (sh dt : List Int) (f : List Int → Nat → Int) (zs : List Int) (N k : Nat) (x : Int) (hx : (gatherAt c sh dt f zs k).1 = x) : (halfway c sh dt f zs N k).set k x = halfway c sh dt f zs N (k + 1) := by
  unfold halfway
  rw [map_range_set]
  refine map_range_eq fun i _ => ?_
  by_cases e : i = k
  · subst e; rw [if_pos rfl, if_pos (by omega), hx]
  · rw [if_neg e]
    by_cases h : i < k
    · rw [if_pos h, if_pos (by omega)]
    · rw [if_neg h, if_neg (by omega)]
theorem half_out (c : Bool) (sh dt : List Int) (f : List Int → Nat → Int) (zs : List Int) (N k : Nat) (h : insideN sh (meant sh f (digits zs k)) sh.length = false) : halfway c sh dt f zs N k = halfway c sh dt f zs N (k + 1) := by
  refine map_range_eq fun i _ => ?_
  by_cases e : i = k
  · subst e; rw [if_neg (by omega), if_pos (by omega)]; unfold gatherAt; rw [if_neg (by simp [h])]
  · by_cases h : i < k
    · rw [if_pos h, if_pos (by omega)]
    · rw [if_neg h, if_neg (by omega)]
theorem gather_in {c : Bool} {sh dt : List Int} {f : List Int → Nat → Int} {zs : List Int} {k : Nat} (h : insideN sh (meant sh f (digits zs k)) sh.length = true) : (gatherAt c sh dt f zs k).1 = dt.getD (place sh (meant sh f (digits zs k))).toNat 0 := by unfold gatherAt; rw [if_pos h]

theorem inside_step {sh ix : List Int} {k : Nat} (h : insideN sh ix k = true) (h1 : 0 ≤ ix.getD k 0) (h2 : ix.getD k 0 < sh.getD k 0) : insideN sh ix (k + 1) = true := by
  simp only [insideN, Bool.and_eq_true, decide_eq_true_eq]; exact ⟨h, h1, h2⟩
theorem inside_not {sh ix : List Int} {n k : Nat} (hk : k < n) (h : ¬ (0 ≤ ix.getD k 0 ∧ ix.getD k 0 < sh.getD k 0)) : insideN sh ix n = false := by
  cases e : insideN sh ix n with
  | false => rfl
  | true => exact absurd (inside_each e k hk) h
theorem placeN_bd' {sh ix : List Int} (k : Nat) (hi : insideN sh ix k = true) (hk : k ≤ sh.length) : 0 ≤ placeN sh ix k ∧ placeN sh ix k < prodAll (sh.take k) ∨ k = 0 := by
  by_cases h0 : k = 0
  · exact .inr h0
  refine .inl ?_
  have hin : IxIn (sh.take k) ix := fun i hi' => by
    have hi2 : i < k := by simp at hi'; omega
    have := inside_each hi i hi2
    have e : (sh.take k).getD i 0 = sh.getD i 0 := by simp [List.getD, hi2]
    rw [e]; exact this
  have hb := place_bd hin
  have e2 : ∀ j, j ≤ k → placeN (sh.take k) ix j = placeN sh ix j := by
    intro j
    induction j with
    | zero => intro _; rfl
    | succ j ih =>
      intro hj
      show placeN (sh.take k) ix j * _ + _ = placeN sh ix j * _ + _
      rw [ih (by omega)]
      have e : (sh.take k).getD j 0 = sh.getD j 0 := by simp [List.getD, show j < k by omega]
      rw [e]
  have hlen : (sh.take k).length = k := by simp; omega
  unfold place at hb
  rw [hlen, e2 k (Nat.le_refl _)] at hb
  exact hb

end Go.Proofs.YtkgcmpmgaghdhaaGreatDoor
namespace Go.Proofs.YtkgcmpmgaghdhaaGreatDoor

/-- k elements have been put into those of an array of the shape sh. -/
def putN (sh : List Int) (f : List Int → Nat → Int) (zs : List Int) (g : Nat → Int) (l : List Int) : Nat → List Int
  | 0 => l
  | k + 1 => if insideN sh (meant sh f (digits zs k)) sh.length = true then (putN sh f zs g l k).set (place sh (meant sh f (digits zs k))).toNat (g k) else putN sh f zs g l k

theorem put_len (sh : List Int) (f : List Int → Nat → Int) (zs : List Int) (g : Nat → Int) (l : List Int) (k : Nat) : (putN sh f zs g l k).length = l.length := by
  induction k with
  | zero => rfl
  | succ k ih =>
    simp only [putN]
    split
    · rw [List.length_set, ih]
    · exact ih

theorem put_in {sh : List Int} {f : List Int → Nat → Int} {zs : List Int} {g : Nat → Int} {l : List Int} {k j : Nat} (h : insideN sh (meant sh f (digits zs k)) sh.length = true) (hj : place sh (meant sh f (digits zs k)) = (j : Int)) : (putN sh f zs g l k).set j (g k) = putN sh f zs g l (k + 1) := by
  simp only [putN]
  rw [if_pos h, hj]
  simp

theorem put_out {sh : List Int} {f : List Int → Nat → Int} {zs : List Int} {g : Nat → Int} {l : List Int} {k : Nat} (h : insideN sh (meant sh f (digits zs k)) sh.length = false) : putN sh f zs g l k = putN sh f zs g l (k + 1) := by
  simp only [putN]
  rw [if_neg (by simp [h])]

end Go.Proofs.YtkgcmpmgaghdhaaGreatDoor
namespace Go.Proofs.YtkgcmpmgaghdhaaGreatDoor

/-- The code of an array that should have one number. -/
def singleCode (c : Bool) (n : Nat) : Int := if n ≠ 1 then 5 else if c then 3 else 0

/-- Where element t of the rotated array comes from. -/
def rotFrom (n A d t : Nat) : Nat := (t / A / n * n + (t / A % n + d) % n) * A + t % A

def rotAt (n A d : Nat) (dt : List Int) (t : Nat) : Int × Int := (dt.getD (rotFrom n A d t) 0, 0)

theorem rotFrom_at {n A d p i q : Nat} (hi : i < n) (hq : q < A) : rotFrom n A d ((p * n + i) * A + q) = (p * n + (i + d) % n) * A + q := by
  have hA : 0 < A := by omega
  have hn : 0 < n := by omega
  have e1 : ((p * n + i) * A + q) / A = p * n + i := by rw [Nat.add_comm, Nat.add_mul_div_right _ _ hA, Nat.div_eq_of_lt hq, Nat.zero_add]
  have e2 : ((p * n + i) * A + q) % A = q := by rw [Nat.add_comm, Nat.add_mul_mod_self_right, Nat.mod_eq_of_lt hq]
  have e3 : (p * n + i) / n = p := by rw [Nat.add_comm, Nat.add_mul_div_right _ _ hn, Nat.div_eq_of_lt hi, Nat.zero_add]
  have e4 : (p * n + i) % n = i := by rw [Nat.add_comm, Nat.add_mul_mod_self_right, Nat.mod_eq_of_lt hi]
  unfold rotFrom
  rw [e1, e2, e3, e4]

theorem three_lt {B n A p i q : Nat} (hp : p < B) (hi : i < n) (hq : q < A) : (p * n + i) * A + q < B * n * A := by
  have h1 : p * n + i + 1 ≤ B * n := by
    have : (p + 1) * n ≤ B * n := Nat.mul_le_mul_right n hp
    rw [Nat.add_mul, Nat.one_mul] at this
    omega
  have h2 : (p * n + i + 1) * A ≤ B * n * A := Nat.mul_le_mul_right A h1
  rw [Nat.add_mul, Nat.one_mul] at h2
  omega

def rotate (c d : Bool) (sh dt sh' dt' : List Int) (fl : Bool) : Ans :=
  if arrOk c sh dt = true ∧ arrOk d sh' dt' = true then
    if singleCode c dt.length ≠ 0 then noAns (singleCode c dt.length)
    else if sh' = [] ∨ dt' = [] then ⟨d, sh', dt', 0⟩
    else ⟨d, sh', vals (rotAt (axisN sh' fl).toNat (axisA sh' fl).toNat (modOf (axisN sh' fl) (dt.getD 0 0)).toNat dt') dt'.length, 0⟩
  else noAns 3

section
variable {c d fl : Bool} {sh dt sh' dt' : List Int}
theorem rotate_bad1 (h : arrOk c sh dt = false) : rotate c d sh dt sh' dt' fl = noAns 3 := by unfold rotate; rw [if_neg (by simp [h])]
theorem rotate_bad2 (h : arrOk d sh' dt' = false) : rotate c d sh dt sh' dt' fl = noAns 3 := by unfold rotate; rw [if_neg (by simp [h])]
theorem rotate_code (h1 : arrOk c sh dt = true) (h2 : arrOk d sh' dt' = true) (r : Int) (h : singleCode c dt.length = r) (hr : r ≠ 0) : rotate c d sh dt sh' dt' fl = noAns r := by
  unfold rotate; rw [if_pos ⟨h1, h2⟩, h, if_pos hr]
theorem rotate_none (h1 : arrOk c sh dt = true) (h2 : arrOk d sh' dt' = true) (h : singleCode c dt.length = 0) (h3 : sh' = [] ∨ dt' = []) : rotate c d sh dt sh' dt' fl = ⟨d, sh', dt', 0⟩ := by
  unfold rotate; rw [if_pos ⟨h1, h2⟩, if_neg (by simp [h]), if_pos h3]
theorem rotate_go (h1 : arrOk c sh dt = true) (h2 : arrOk d sh' dt' = true) (h : singleCode c dt.length = 0) (h3 : sh' ≠ []) (h4 : dt' ≠ []) (n A e : Nat) (hn : axisN sh' fl = n) (hA : axisA sh' fl = A) (he : modOf n (dt.getD 0 0) = e) : rotate c d sh dt sh' dt' fl = ⟨d, sh', vals (rotAt n A e dt') dt'.length, 0⟩ := by
  unfold rotate; rw [if_pos ⟨h1, h2⟩, if_neg (by simp [h]), if_neg (by rintro (h | h); exact h3 h; exact h4 h), hn, hA, he]; rfl
end

theorem modOf_pos {n : Nat} (hn : 0 < n) (b : Int) : 0 ≤ modOf n b ∧ modOf n b < n := by
  unfold modOf
  have h1 := Int.tmod_lt_of_pos b (by omega : (0 : Int) < n)
  have h2 : -(n : Int) < b.tmod n := Int.lt_tmod_of_pos b (by omega)
  rw [if_neg (by omega)]
  split
  · rename_i h
    have h3 : b.tmod n < 0 := by
      by_cases h4 : b.tmod n < 0
      · exact h4
      · exfalso; apply h.2; rw [decide_eq_false h4, decide_eq_false (by omega)]
    omega
  · rename_i h
    have : ¬ b.tmod n < 0 := by
      intro h4
      apply h
      refine ⟨by omega, ?_⟩
      rw [decide_eq_true h4, decide_eq_false (by omega)]; simp
    omega

end Go.Proofs.YtkgcmpmgaghdhaaGreatDoor
namespace Go.Proofs.YtkgcmpmgaghdhaaGreatDoor

theorem inside_of {sh ix : List Int} (h : IxIn sh ix) (k : Nat) (hk : k ≤ sh.length) : insideN sh ix k = true := by
  induction k with
  | zero => rfl
  | succ k ih => exact inside_step (ih (by omega)) (h k (by omega)).1 (h k (by omega)).2

theorem getD_drop (l : List Int) (b m : Nat) : (l.drop b).getD m 0 = l.getD (b + m) 0 := by simp [List.getD]

theorem placeN_add (sh ix : List Int) (b m : Nat) (hm : b + m ≤ sh.length) : placeN sh ix (b + m) = placeN sh ix b * prodAll ((sh.drop b).take m) + placeN (sh.drop b) (ix.drop b) m := by
  induction m with
  | zero => simp [placeN, prodAll]
  | succ m ih =>
    show placeN sh ix (b + m) * sh.getD (b + m) 0 + ix.getD (b + m) 0 = _
    rw [ih (by omega), prodAll_snoc _ _ (by simp; omega)]
    show _ = placeN sh ix b * (prodAll ((sh.drop b).take m) * (sh.drop b).getD m 0) + (placeN (sh.drop b) (ix.drop b) m * (sh.drop b).getD m 0 + (ix.drop b).getD m 0)
    rw [getD_drop, getD_drop, Int.add_mul, Int.mul_assoc, Int.add_assoc]

theorem place_split (sh ix : List Int) (a : Nat) (ha : a < sh.length) : place sh ix = (placeN sh ix a * sh.getD a 0 + ix.getD a 0) * prodAll (sh.drop (a + 1)) + place (sh.drop (a + 1)) (ix.drop (a + 1)) := by
  have h := placeN_add sh ix (a + 1) (sh.length - (a + 1)) (by omega)
  rw [show a + 1 + (sh.length - (a + 1)) = sh.length by omega, List.take_of_length_le (by simp)] at h
  unfold place
  rw [h]
  simp [placeN]

theorem placeN_same {sh x y : List Int} (k : Nat) (h : ∀ i, i < k → x.getD i 0 = y.getD i 0) : placeN sh x k = placeN sh y k := by
  induction k with
  | zero => rfl
  | succ k ih => show placeN sh x k * _ + _ = placeN sh y k * _ + _; rw [ih (fun i hi => h i (by omega)), h k (by omega)]

theorem modOf_emod {n : Int} (hn : 0 < n) (b : Int) : modOf n b = b % n := by
  unfold modOf
  rw [if_neg (by omega)]
  have h1 := Int.tmod_lt_of_pos b hn
  have h2 : -n < b.tmod n := Int.lt_tmod_of_pos b hn
  have h3 := Int.mul_tdiv_add_tmod b n
  split
  · rename_i h
    have h4 : b.tmod n < 0 := by
      by_cases h4 : b.tmod n < 0
      · exact h4
      · exfalso; apply h.2; rw [decide_eq_false h4, decide_eq_false (by omega)]
    have := (Int.ediv_emod_unique (a := b) (r := b.tmod n + n) (q := b.tdiv n - 1) hn).2 ⟨by rw [Int.mul_sub, Int.mul_one]; omega, by omega, by omega⟩
    exact this.2.symm
  · rename_i h
    have h4 : ¬ b.tmod n < 0 := by
      intro h4
      apply h
      refine ⟨by omega, ?_⟩
      rw [decide_eq_true h4, decide_eq_false (by omega)]; simp
    have := (Int.ediv_emod_unique (a := b) (r := b.tmod n) (q := b.tdiv n) hn).2 ⟨by omega, by omega, by omega⟩
    exact this.2.symm

theorem wrap_emod {n : Int} (hn : 0 < n) (b : Int) : (b.tmod n + n).tmod n = b % n := by
  have h1 := Int.tmod_lt_of_pos b hn
  have h2 : -n < b.tmod n := Int.lt_tmod_of_pos b hn
  have h3 := Int.mul_tdiv_add_tmod b n
  rw [Int.tmod_eq_emod_of_nonneg (by omega)]
  by_cases h4 : b.tmod n < 0
  · rw [Int.emod_eq_of_lt (by omega) (by omega)]
    have := (Int.ediv_emod_unique (a := b) (r := b.tmod n + n) (q := b.tdiv n - 1) hn).2 ⟨by rw [Int.mul_sub, Int.mul_one]; omega, by omega, by omega⟩
    exact this.2.symm
  · rw [Int.add_emod_right, Int.emod_eq_of_lt (by omega) (by omega)]
    have := (Int.ediv_emod_unique (a := b) (r := b.tmod n) (q := b.tdiv n) hn).2 ⟨by omega, by omega, by omega⟩
    exact this.2.symm

/-- Which element along each axis is meant where axis a is turned by k. -/
def rotF (sh : List Int) (a : Int) (k : Int) (D : List Int) (i : Nat) : Int := if (i : Int) = a then (D.getD i 0 + k) % sh.getD i 0 else D.getD i 0

theorem rot_gather {d : Bool} {sh dt : List Int} {a : Nat} {k : Int} (hf : Full sh) (ha : a < sh.length) (t : Nat) (ht : (t : Int) < prodAll sh) (n A e : Nat) (hn : sh.getD a 0 = n) (hA : prodAll (sh.drop (a + 1)) = A) (he : modOf n k = e) :
    gatherAt d sh dt (rotF sh a k) sh t = rotAt n A e dt t := by
  have hn0 : (0 : Int) < n := by rw [← hn]; exact hf a ha
  have hD := digits_in hf (t : Int)
  have hpl := place_digits hf (p := (t : Int)) (by omega) ht
  have hDl := digits_len sh (t : Int)
  obtain ⟨D, hDD⟩ : ∃ D, digits sh (t : Int) = D := ⟨_, rfl⟩
  rw [hDD] at hD hpl hDl
  have hMg := meant_get sh (rotF sh a k) D
  have hMl := meant_len sh (rotF sh a k) D
  obtain ⟨M, hM⟩ : ∃ M, meant sh (rotF sh a k) D = M := ⟨_, rfl⟩
  rw [hM] at hMg hMl
  have hoth : ∀ i, i < sh.length → i ≠ a → M.getD i 0 = D.getD i 0 := fun i hi hne => by rw [hMg i hi]; unfold rotF; rw [if_neg (by omega)]
  have hat : M.getD a 0 = (D.getD a 0 + k) % n := by rw [hMg a ha]; unfold rotF; rw [if_pos rfl, hn]
  have hMin : IxIn sh M := fun i hi => by
    by_cases e : i = a
    · subst e; rw [hat, hn]; exact ⟨Int.emod_nonneg _ (by omega), Int.emod_lt_of_pos _ hn0⟩
    · rw [hoth i hi e]; exact hD i hi
  have hdrop : M.drop (a + 1) = D.drop (a + 1) := by
    apply List.ext_getElem
    · simp; omega
    · intro i h1 h2
      have hi : a + 1 + i < sh.length := by simp at h1; omega
      have := hoth (a + 1 + i) hi (by omega)
      simp only [List.getElem_drop]
      simpa [List.getD, show a + 1 + i < M.length by omega, show a + 1 + i < D.length by omega] using this
  have hsp := place_split sh M a ha
  have hsd := place_split sh D a ha
  rw [placeN_same a (fun i hi => hoth i (by omega) (by omega)), hat, hdrop, hn, hA] at hsp
  rw [hpl, hn, hA] at hsd
  have hrest : IxIn (sh.drop (a + 1)) (D.drop (a + 1)) := fun i hi => by
    rw [getD_drop, getD_drop]; exact hD _ (by simp at hi; omega)
  have hq := place_bd hrest
  rw [hA] at hq
  have hP := (placeN_bd hD a (by omega)).1
  have hi := hD a ha
  rw [hn] at hi
  obtain ⟨p, hp⟩ : ∃ p : Nat, placeN sh D a = p := ⟨(placeN sh D a).toNat, by omega⟩
  obtain ⟨i, hi'⟩ : ∃ i : Nat, D.getD a 0 = i := ⟨(D.getD a 0).toNat, by omega⟩
  obtain ⟨q, hq'⟩ : ∃ q : Nat, place (sh.drop (a + 1)) (D.drop (a + 1)) = q := ⟨(place (sh.drop (a + 1)) (D.drop (a + 1))).toNat, by omega⟩
  rw [hp, hi', hq'] at hsd hsp
  rw [hi'] at hi
  rw [hq'] at hq
  have he2 : ((i : Int) + k) % n = (((i + e) % n : Nat) : Int) := by
    rw [modOf_emod hn0] at he
    rw [Int.natCast_emod, Int.natCast_add, ← he, Int.add_emod_emod]
  rw [he2] at hsp
  have hts : t = (p * n + i) * A + q := by exact_mod_cast hsd
  have hfrom := rotFrom_at (n := n) (A := A) (d := e) (p := p) (i := i) (q := q) (by omega) (by omega)
  have hpm : place sh M = ((rotFrom n A e t : Nat) : Int) := by rw [hts, hfrom, hsp]; push_cast; rfl
  unfold gatherAt rotAt
  rw [hDD, hM, if_pos (inside_of hMin _ (Nat.le_refl _)), hpm]
  simp

theorem vals_same {f g : Nat → Int × Int} {n : Nat} (h : ∀ i, i < n → (f i).1 = (g i).1) : vals f n = vals g n := map_range_eq h

end Go.Proofs.YtkgcmpmgaghdhaaGreatDoor
namespace Go.Proofs.YtkgcmpmgaghdhaaGreatDoor

/-- The place in rows of t of what stands at place k in rows of s, moved by off. -/
def rowPlace (s t off k : Nat) : Nat := k / s * t + k % s + off

theorem rowPlace_div {s t off k : Nat} (hs : 0 < s) (ht : s + off ≤ t) : rowPlace s t off k / t = k / s ∧ rowPlace s t off k % t = k % s + off := by
  have h1 := Nat.mod_lt k hs
  have e : rowPlace s t off k = (k % s + off) + t * (k / s) := by unfold rowPlace; rw [Nat.mul_comm (k / s) t]; omega
  rw [e]
  exact ⟨by rw [Nat.add_mul_div_left _ _ (by omega), Nat.div_eq_of_lt (by omega)]; omega, by rw [Nat.add_mul_mod_self_left, Nat.mod_eq_of_lt (by omega)]⟩

theorem rowPlace_iff {s t off i k : Nat} (hs : 0 < s) (ht : s + off ≤ t) : i = rowPlace s t off k ↔ (off ≤ i % t ∧ i % t < off + s) ∧ i / t * s + (i % t - off) = k := by
  constructor
  · rintro rfl
    obtain ⟨h1, h2⟩ := rowPlace_div (k := k) hs ht
    rw [h1, h2]
    have h3 := Nat.mod_lt k hs
    have h4 := Nat.div_add_mod k s
    rw [Nat.mul_comm] at h4
    exact ⟨⟨by omega, by omega⟩, by omega⟩
  · rintro ⟨⟨h1, h2⟩, rfl⟩
    have e : i / t * s + (i % t - off) = (i % t - off) + s * (i / t) := by rw [Nat.mul_comm]; omega
    unfold rowPlace
    rw [e, Nat.add_mul_div_left _ _ hs, Nat.add_mul_mod_self_left, Nat.div_eq_of_lt (by omega), Nat.mod_eq_of_lt (show i % t - off < s by omega)]
    have h4 := Nat.div_add_mod i t
    rw [Nat.mul_comm] at h4
    rw [Nat.zero_add]
    omega

/-- What stands at place i when k elements of rows of s have been put into rows of t. -/
def putRow (s t off : Nat) (g : Nat → Int) (l : List Int) (k i : Nat) : Int := if (off ≤ i % t ∧ i % t < off + s) ∧ i / t * s + (i % t - off) < k then g (i / t * s + (i % t - off)) else l.getD i 0

theorem list_range (l : List Int) (M : Nat) (h : l.length = M) : l = (List.range M).map fun i => l.getD i 0 := by
  apply List.ext_getElem
  · simp [h]
  · intro i h1 h2
    simp [List.getD, h1]

theorem put_rows {sh zs : List Int} {f : List Int → Nat → Int} {g : Nat → Int} {l : List Int} {s t off M N : Nat} (hs : 0 < N → 0 < s) (ht : s + off ≤ t) (hl : l.length = M)
    (hin : ∀ k : Nat, k < N → insideN sh (meant sh f (digits zs k)) sh.length = true ∧ place sh (meant sh f (digits zs k)) = ((rowPlace s t off k : Nat) : Int)) (k : Nat) (hk : k ≤ N) :
    putN sh f zs g l k = (List.range M).map (putRow s t off g l k) := by
  induction k with
  | zero =>
    show l = _
    rw [list_range l M hl]
    refine map_range_eq fun i hi => ?_
    unfold putRow
    rw [if_neg (by omega)]
    simp [hi]
  | succ k ih =>
    obtain ⟨h1, h2⟩ := hin k (by omega)
    have hs' := hs (by omega)
    rw [← put_in h1 h2, ih (by omega), map_range_set]
    refine map_range_eq fun i hi => ?_
    by_cases e : i = rowPlace s t off k
    · rw [if_pos e]
      have := (rowPlace_iff hs' ht).1 e
      unfold putRow
      rw [if_pos ⟨this.1, by omega⟩, this.2]
    · rw [if_neg e]
      unfold putRow
      by_cases c : (off ≤ i % t ∧ i % t < off + s) ∧ i / t * s + (i % t - off) < k
      · rw [if_pos c, if_pos ⟨c.1, by omega⟩]
      · rw [if_neg c, if_neg (fun h => c ⟨h.1, by
          rcases Nat.lt_or_ge (i / t * s + (i % t - off)) k with h' | h'
          · exact h'
          · exact absurd ((rowPlace_iff hs' ht).2 ⟨h.1, by omega⟩) e⟩)]

/-- What stands at place i of two lists joined row by row. -/
def joinAt (X Y : List Int) (x y i : Nat) : Int := if i % (x + y) < x then X.getD (i / (x + y) * x + i % (x + y)) 0 else Y.getD (i / (x + y) * y + (i % (x + y) - x)) 0

theorem range_plus (a b : Nat) : List.range (a + b) = List.range a ++ (List.range b).map (a + ·) := List.range_add

theorem catN_range (X Y : List Int) (x y B : Nat) (hX : B * x = X.length) (hY : B * y = Y.length) (k : Nat) (hk : k ≤ B) : catN X Y x y k = (List.range (k * (x + y))).map (joinAt X Y x y) := by
  induction k with
  | zero => simp [catN]
  | succ k ih =>
    have hx : (k + 1) * x ≤ X.length := by rw [← hX]; exact Nat.mul_le_mul_right _ hk
    have hy : (k + 1) * y ≤ Y.length := by rw [← hY]; exact Nat.mul_le_mul_right _ hk
    rw [Nat.add_mul, Nat.one_mul] at hx hy
    simp only [catN]
    rw [ih (by omega), Nat.add_mul, Nat.one_mul, range_plus, List.map_append, List.append_assoc, List.map_map]
    congr 1
    apply List.ext_getElem
    · simp; omega
    · intro c h1 h2
      have hc : c < x + y := by simpa using h2
      have hm : (k * (x + y) + c) % (x + y) = c := by rw [Nat.mul_comm, Nat.mul_add_mod, Nat.mod_eq_of_lt hc]
      have hd : (k * (x + y) + c) / (x + y) = k := by rw [Nat.mul_comm, Nat.mul_add_div (by omega), Nat.div_eq_of_lt hc]; omega
      simp only [List.getElem_map, List.getElem_range, Function.comp]
      unfold joinAt
      rw [hm, hd]
      by_cases h : c < x
      · rw [if_pos h, List.getElem_append_left (by simp; omega)]
        simp [List.getD, show k * x + c < X.length by omega]
      · rw [if_neg h, List.getElem_append_right (by simp; omega)]
        simp [List.getD, show min x (X.length - k * x) = x by omega, show k * y + (c - x) < Y.length by omega]

/-- Both lists put in, one behind the other. -/
theorem put_both {X Y l : List Int} {x y B : Nat} {g1 g2 : Nat → Int} (hX : B * x = X.length) (hY : B * y = Y.length) (h1 : ∀ k, k < X.length → g1 k = X.getD k 0) (h2 : ∀ k, k < Y.length → g2 k = Y.getD k 0) :
    (List.range (B * (x + y))).map (putRow y (x + y) x g2 ((List.range (B * (x + y))).map (putRow x (x + y) 0 g1 l X.length)) Y.length) = catN X Y x y B := by
  rw [catN_range X Y x y B hX hY B (Nat.le_refl _)]
  refine map_range_eq fun i hi => ?_
  have ht : 0 < x + y := by
    rcases Nat.eq_zero_or_pos (x + y) with h | h
    · rw [h] at hi; simp at hi
    · exact h
  have hr : i / (x + y) < B := by rw [Nat.div_lt_iff_lt_mul ht]; exact hi
  have hc := Nat.mod_lt i ht
  have hx : i / (x + y) * x + x ≤ X.length := by rw [← hX]; have := Nat.mul_le_mul_right x hr; rwa [Nat.succ_mul] at this
  have hy : i / (x + y) * y + y ≤ Y.length := by rw [← hY]; have := Nat.mul_le_mul_right y hr; rwa [Nat.succ_mul] at this
  unfold putRow joinAt
  by_cases c : i % (x + y) < x
  · rw [if_neg (by omega), if_pos c, map_range_get _ _ _ hi, if_pos ⟨by omega, by omega⟩, Nat.sub_zero, h1 _ (by omega)]
  · rw [if_neg c, if_pos ⟨by omega, by omega⟩, h2 _ (by omega)]

/-- Where the element at place k of an array lies in one whose last axis is longer. -/
theorem place_longer {fr : List Int} {s t off : Nat} (hst : s + off ≤ t) (f : List Int → Nat → Int) (hf : ∀ D i, i < fr.length → f D i = D.getD i 0) (hl : ∀ D, f D fr.length = D.getD fr.length 0 + (off : Int)) (hF : Full (fr ++ [(s : Int)])) (k : Nat) (hk : (k : Int) < prodAll (fr ++ [(s : Int)])) :
    insideN (fr ++ [(t : Int)]) (meant (fr ++ [(t : Int)]) f (digits (fr ++ [(s : Int)]) k)) (fr ++ [(t : Int)]).length = true ∧ place (fr ++ [(t : Int)]) (meant (fr ++ [(t : Int)]) f (digits (fr ++ [(s : Int)]) k)) = ((rowPlace s t off k : Nat) : Int) := by
  have hD := digits_in hF (k : Int)
  have hpl := place_digits hF (p := (k : Int)) (by omega) hk
  have hDl := digits_len (fr ++ [(s : Int)]) (k : Int)
  obtain ⟨D, hDD⟩ : ∃ D, digits (fr ++ [(s : Int)]) (k : Int) = D := ⟨_, rfl⟩
  rw [hDD] at hD hpl hDl ⊢
  have hMg := meant_get (fr ++ [(t : Int)]) f D
  obtain ⟨M, hM⟩ : ∃ M, meant (fr ++ [(t : Int)]) f D = M := ⟨_, rfl⟩
  rw [hM] at hMg ⊢
  have gs : ∀ i, i < fr.length → ∀ z : Int, (fr ++ [z]).getD i 0 = fr.getD i 0 := fun i hi z => by simp [List.getD, List.getElem?_append_left hi]
  have gl : ∀ z : Int, (fr ++ [z]).getD fr.length 0 = z := fun z => by simp [List.getD]
  have hlast := hD fr.length (by simp)
  rw [gl] at hlast
  have ha : M.getD fr.length 0 = D.getD fr.length 0 + (off : Int) := by rw [hMg fr.length (by simp), hl]
  have ho : ∀ i, i < fr.length → M.getD i 0 = D.getD i 0 := fun i hi => by rw [hMg i (by simp; omega), hf D i hi]
  have hin : IxIn (fr ++ [(t : Int)]) M := fun i hi => by
    have hi' : i < fr.length + 1 := by simpa using hi
    by_cases e : i = fr.length
    · subst e; rw [ha, gl]; omega
    · have h1 := hD i (by simp; omega)
      rw [gs i (by omega)] at h1
      rw [gs i (by omega), ho i (by omega)]; exact h1
  refine ⟨inside_of hin _ (Nat.le_refl _), ?_⟩
  have p1 := place_split (fr ++ [(t : Int)]) M fr.length (by simp)
  have p2 := place_split (fr ++ [(s : Int)]) D fr.length (by simp)
  have hd0 : ∀ z : Int, (fr ++ [z]).drop (fr.length + 1) = [] := fun z => by simp
  rw [hd0, gl, ha] at p1
  rw [hd0, gl, hpl] at p2
  have e0 : ∀ ix : List Int, place [] ix = 0 := fun ix => rfl
  have ep : prodAll [] = 1 := rfl
  rw [e0, ep, Int.mul_one, Int.add_zero] at p1 p2
  have hP : placeN (fr ++ [(t : Int)]) M fr.length = placeN (fr ++ [(s : Int)]) D fr.length := by
    have key : ∀ j, j ≤ fr.length → placeN (fr ++ [(t : Int)]) M j = placeN (fr ++ [(s : Int)]) D j := by
      intro j
      induction j with
      | zero => intro _; rfl
      | succ j ih =>
        intro hj
        show placeN (fr ++ [(t : Int)]) M j * _ + _ = placeN (fr ++ [(s : Int)]) D j * _ + _
        rw [ih (by omega), gs j (by omega), gs j (by omega), ho j (by omega)]
    exact key _ (Nat.le_refl _)
  have hP0 := (placeN_bd hD fr.length (by simp)).1
  obtain ⟨p, hp⟩ : ∃ p : Nat, placeN (fr ++ [(s : Int)]) D fr.length = p := ⟨(placeN (fr ++ [(s : Int)]) D fr.length).toNat, by omega⟩
  obtain ⟨j, hj⟩ : ∃ j : Nat, D.getD fr.length 0 = j := ⟨(D.getD fr.length 0).toNat, by omega⟩
  rw [hP, hp, hj] at p1
  rw [hp, hj] at p2
  rw [hj] at hlast
  have hk2 : k = p * s + j := by exact_mod_cast p2
  have hjs : j < s := by omega
  have q1 : k / s = p := by rw [hk2, Nat.mul_comm, Nat.mul_add_div (by omega), Nat.div_eq_of_lt hjs]; omega
  have q2 : k % s = j := by rw [hk2, Nat.mul_comm, Nat.mul_add_mod, Nat.mod_eq_of_lt hjs]
  rw [p1]
  unfold rowPlace
  rw [q1, q2]
  push_cast
  omega

end Go.Proofs.YtkgcmpmgaghdhaaGreatDoor
namespace Go.Proofs.YtkgcmpmgaghdhaaGreatDoor

/-- Blocks of one length, one behind the other. -/
theorem flat_blocks (f : Nat → List Int) (A K : Nat) (h : ∀ i, i < K → (f i).length = A) : ((List.range K).map f).flatten = (List.range (K * A)).map fun t => (f (t / A)).getD (t % A) 0 := by
  induction K with
  | zero => simp
  | succ K ih =>
    rw [List.range_succ, List.map_append, List.flatten_append, ih (fun i hi => h i (by omega)), Nat.add_mul, Nat.one_mul, range_plus, List.map_append, List.map_map]
    congr 1
    have hK := h K (by omega)
    simp only [List.map_cons, List.map_nil, List.flatten_cons, List.flatten_nil, List.append_nil]
    apply List.ext_getElem
    · simp [hK]
    · intro c h1 h2
      have hc : c < A := by simpa using h2
      simp only [List.getElem_map, List.getElem_range, Function.comp]
      rw [show (K * A + c) / A = K by rw [Nat.mul_comm, Nat.mul_add_div (by omega), Nat.div_eq_of_lt hc]; omega, show (K * A + c) % A = c by rw [Nat.mul_comm, Nat.mul_add_mod, Nat.mod_eq_of_lt hc]]
      simp [List.getD, h1]

/-- Which number of the axis is taken at each place of the new one. -/
def repIdx (dt : List Int) (n : Nat) : Nat → List Nat
  | 0 => []
  | m + 1 => repIdx dt n m ++ List.replicate (timesAt dt m).toNat (m % n)

theorem repIdx_lt {dt : List Int} {n : Nat} (hn : 0 < n) (m : Nat) : ∀ j ∈ repIdx dt n m, j < n := by
  induction m with
  | zero => intro j hj; cases hj
  | succ m ih =>
    intro j hj
    simp only [repIdx, List.mem_append, List.mem_replicate] at hj
    rcases hj with hj | ⟨_, rfl⟩
    · exact ih j hj
    · exact Nat.mod_lt _ hn

theorem repIdx_len {dt : List Int} {n : Nat} (m : Nat) (h : ∀ i, 0 ≤ timesAt dt i) : ((repIdx dt n m).length : Int) = timesSum dt m := by
  induction m with
  | zero => rfl
  | succ m ih =>
    have := h m
    simp only [repIdx, timesSum, List.length_append, List.length_replicate]
    omega

theorem repCopies_flat (dt' : List Int) (n A p i c : Nat) : repCopies dt' n A p i c = ((List.replicate c (i % n)).map fun j => (dt'.drop ((p * n + j) * A)).take A).flatten := by
  induction c with
  | zero => rfl
  | succ c ih => rw [List.replicate_succ', List.map_append, List.flatten_append, ← ih]; simp [repCopies, repBlk]

theorem repLine_flat (dt dt' : List Int) (n A p m : Nat) : repLine dt dt' n A p m = ((repIdx dt n m).map fun j => (dt'.drop ((p * n + j) * A)).take A).flatten := by
  induction m with
  | zero => rfl
  | succ m ih => simp only [repLine, repIdx, List.map_append, List.flatten_append]; rw [ih, repCopies_flat]

theorem repAll_flat (dt dt' : List Int) (n A m B : Nat) : repAll dt dt' n A m B = ((List.range B).map fun p => repLine dt dt' n A p m).flatten := by
  induction B with
  | zero => rfl
  | succ B ih => rw [List.range_succ, List.map_append, List.flatten_append, ← ih]; simp [repAll]

theorem map_idx (l : List Nat) (F : Nat → List Int) : l.map F = (List.range l.length).map fun s => F (l.getD s 0) := by
  apply List.ext_getElem
  · simp
  · intro i h1 h2
    have h : i < l.length := by simpa using h1
    simp [List.getD, h]

/-- What stands at each place of the elements taken several times. -/
theorem repAll_at {dt dt' : List Int} {n A m B : Nat} (hn : 0 < n) (hl : B * n * A = dt'.length) : repAll dt dt' n A m B = (List.range (B * ((repIdx dt n m).length * A))).map fun t => dt'.getD ((t / ((repIdx dt n m).length * A) * n + (repIdx dt n m).getD (t % ((repIdx dt n m).length * A) / A) 0) * A + t % ((repIdx dt n m).length * A) % A) 0 := by
  obtain ⟨I, hI⟩ : ∃ I, repIdx dt n m = I := ⟨_, rfl⟩
  have hlt : ∀ s, s < I.length → I.getD s 0 < n := fun s hs => by
    refine repIdx_lt (dt := dt) hn m _ ?_
    rw [hI]
    simp only [List.getD, List.getElem?_eq_getElem hs, Option.getD_some]
    exact List.getElem_mem hs
  have hblk : ∀ p, p < B → ∀ s, s < I.length → ((dt'.drop ((p * n + I.getD s 0) * A)).take A).length = A := fun p hp s hs => by
    have h1 := hlt s hs
    have h2 : (p * n + I.getD s 0 + 1) * A ≤ B * n * A := Nat.mul_le_mul_right _ (by
      have : (p + 1) * n ≤ B * n := Nat.mul_le_mul_right _ hp
      rw [Nat.add_mul, Nat.one_mul] at this
      omega)
    rw [Nat.add_mul, Nat.one_mul, hl] at h2
    rw [List.length_take, List.length_drop]; omega
  have hline : ∀ p, p < B → repLine dt dt' n A p m = (List.range (I.length * A)).map fun t => dt'.getD ((p * n + I.getD (t / A) 0) * A + t % A) 0 := fun p hp => by
    rw [repLine_flat, hI, map_idx I, flat_blocks _ A I.length (fun s hs => hblk p hp s hs)]
    refine map_range_eq fun t ht => ?_
    have hA : 0 < A := by
      rcases Nat.eq_zero_or_pos A with h | h
      · rw [h] at ht; simp at ht
      · exact h
    have hq := Nat.mod_lt t hA
    have e : ((dt'.drop ((p * n + I.getD (t / A) 0) * A)).take A)[t % A]? = dt'[(p * n + I.getD (t / A) 0) * A + t % A]? := by rw [List.getElem?_take_of_lt hq, List.getElem?_drop]
    show (((dt'.drop ((p * n + I.getD (t / A) 0) * A)).take A)[t % A]?).getD 0 = (dt'[(p * n + I.getD (t / A) 0) * A + t % A]?).getD 0
    rw [e]
  rw [repAll_flat, hI, List.map_congr_left (fun p hp => hline p (by simpa using hp))]
  rw [flat_blocks _ (I.length * A) B (fun p _ => by simp)]
  refine map_range_eq fun t ht => ?_
  have hK : 0 < I.length * A := by
    rcases Nat.eq_zero_or_pos (I.length * A) with h | h
    · rw [h] at ht; simp at ht
    · exact h
  rw [map_range_get _ _ _ (Nat.mod_lt t hK)]

end Go.Proofs.YtkgcmpmgaghdhaaGreatDoor
namespace Go.Proofs.YtkgcmpmgaghdhaaGreatDoor

/-- Along axis a the element that I says is meant, along all others the same. -/
def idxF (a : Nat) (I : List Nat) (D : List Int) (i : Nat) : Int := if i = a then ((I.getD (D.getD i 0).toNat 0 : Nat) : Int) else D.getD i 0

theorem split_at {p S s A q t : Nat} (hs : s < S) (hq : q < A) (ht : t = (p * S + s) * A + q) : t / (S * A) = p ∧ t % (S * A) / A = s ∧ t % (S * A) % A = q := by
  have hA : 0 < A := by omega
  have h1 : s * A + q < S * A := by
    have : (s + 1) * A ≤ S * A := Nat.mul_le_mul_right _ hs
    rw [Nat.add_mul, Nat.one_mul] at this
    omega
  have e : t = (S * A) * p + (s * A + q) := by rw [ht, Nat.add_mul, Nat.mul_assoc, Nat.mul_comm p (S * A)]; omega
  have hm : t % (S * A) = s * A + q := by rw [e, Nat.mul_add_mod, Nat.mod_eq_of_lt h1]
  refine ⟨by rw [e, Nat.mul_add_div (by omega), Nat.div_eq_of_lt h1]; omega, ?_, ?_⟩
  · rw [hm, Nat.mul_comm s A, Nat.mul_add_div hA, Nat.div_eq_of_lt hq]; omega
  · rw [hm, Nat.mul_comm s A, Nat.mul_add_mod, Nat.mod_eq_of_lt hq]

theorem idx_gather {d : Bool} {sh dt' : List Int} {a n A : Nat} {I : List Nat} (ha : a < sh.length) (hn : sh.getD a 0 = (n : Int)) (hA : prodAll (sh.drop (a + 1)) = (A : Int)) (hI : ∀ s, s < I.length → I.getD s 0 < n) (hF : Full (sh.set a (I.length : Int))) (t : Nat) (ht : (t : Int) < prodAll (sh.set a (I.length : Int))) :
    (gatherAt d sh dt' (idxF a I) (sh.set a (I.length : Int)) t).1 = dt'.getD ((t / (I.length * A) * n + I.getD (t % (I.length * A) / A) 0) * A + t % (I.length * A) % A) 0 := by
  obtain ⟨ZS, hZS⟩ : ∃ Z, sh.set a (I.length : Int) = Z := ⟨_, rfl⟩
  have lZ : ZS.length = sh.length := by rw [← hZS]; simp
  have gZ : ∀ i, i ≠ a → ZS.getD i 0 = sh.getD i 0 := fun i hi => by rw [← hZS]; simp [List.getD, List.getElem?_set_ne (Ne.symm hi)]
  have gA : ZS.getD a 0 = (I.length : Int) := by rw [← hZS]; simp [List.getD, ha]
  have dZ : ZS.drop (a + 1) = sh.drop (a + 1) := by rw [← hZS]; simp [List.drop_set_of_lt]
  rw [hZS] at hF ht ⊢
  have hD := digits_in hF (t : Int)
  have hpl := place_digits hF (p := (t : Int)) (by omega) ht
  have hDl := digits_len ZS (t : Int)
  obtain ⟨D, hDD⟩ : ∃ D, digits ZS (t : Int) = D := ⟨_, rfl⟩
  rw [hDD] at hD hpl hDl
  have hMg := meant_get sh (idxF a I) D
  have hMl := meant_len sh (idxF a I) D
  obtain ⟨M, hM⟩ : ∃ M, meant sh (idxF a I) D = M := ⟨_, rfl⟩
  rw [hM] at hMg hMl
  have hDa := hD a (by omega)
  rw [gA] at hDa
  obtain ⟨s, hs⟩ : ∃ s : Nat, D.getD a 0 = s := ⟨(D.getD a 0).toNat, by omega⟩
  rw [hs] at hDa
  have hsI : s < I.length := by omega
  have hoth : ∀ i, i < sh.length → i ≠ a → M.getD i 0 = D.getD i 0 := fun i hi hne => by rw [hMg i hi]; unfold idxF; rw [if_neg hne]
  have hat : M.getD a 0 = ((I.getD s 0 : Nat) : Int) := by rw [hMg a ha]; unfold idxF; rw [if_pos rfl, hs]; simp
  have hMin : IxIn sh M := fun i hi => by
    by_cases e : i = a
    · subst e; rw [hat, hn]; have := hI s hsI; omega
    · rw [hoth i hi e]; have := hD i (by omega); rwa [gZ i e] at this
  have hdrop : M.drop (a + 1) = D.drop (a + 1) := by
    apply List.ext_getElem
    · simp; omega
    · intro i h1 h2
      have hi : a + 1 + i < sh.length := by simp at h1; omega
      have := hoth (a + 1 + i) hi (by omega)
      simp only [List.getElem_drop]
      simpa [List.getD, show a + 1 + i < M.length by omega, show a + 1 + i < D.length by omega] using this
  have hsp := place_split sh M a ha
  have hsd := place_split ZS D a (by omega)
  have hP : placeN sh M a = placeN ZS D a := by
    have key : ∀ j, j ≤ a → placeN sh M j = placeN ZS D j := by
      intro j
      induction j with
      | zero => intro _; rfl
      | succ j ih =>
        intro hj
        show placeN sh M j * _ + _ = placeN ZS D j * _ + _
        rw [ih (by omega), gZ j (by omega), hoth j (by omega) (by omega)]
    exact key a (Nat.le_refl _)
  rw [hP, hat, hdrop, hn, hA] at hsp
  rw [hpl, gA, hs, dZ, hA] at hsd
  have hrest : IxIn (sh.drop (a + 1)) (D.drop (a + 1)) := fun i hi => by
    have h0 : a + 1 + i < sh.length := by simp at hi; omega
    have := hD (a + 1 + i) (by omega)
    rw [gZ _ (by omega)] at this
    rw [getD_drop, getD_drop]; exact this
  have hq := place_bd hrest
  rw [hA] at hq
  have hP0 := (placeN_bd hD a (by omega)).1
  obtain ⟨p, hp⟩ : ∃ p : Nat, placeN ZS D a = p := ⟨(placeN ZS D a).toNat, by omega⟩
  obtain ⟨q, hq'⟩ : ∃ q : Nat, place (sh.drop (a + 1)) (D.drop (a + 1)) = q := ⟨(place (sh.drop (a + 1)) (D.drop (a + 1))).toNat, by omega⟩
  rw [hp, hq'] at hsd hsp
  rw [hq'] at hq
  have hts : t = (p * I.length + s) * A + q := by exact_mod_cast hsd
  obtain ⟨e1, e2, e3⟩ := split_at hsI (show q < A by omega) hts
  have hpm : place sh M = (((p * n + I.getD s 0) * A + q : Nat) : Int) := by rw [hsp]; push_cast; rfl
  unfold gatherAt
  rw [hDD, hM, if_pos (inside_of hMin _ (Nat.le_refl _)), hpm, e1, e2, e3, Int.toNat_natCast]

end Go.Proofs.YtkgcmpmgaghdhaaGreatDoor
namespace Go.Proofs.YtkgcmpmgaghdhaaGreatDoor

/-- The shape that Replicate takes an array to have. -/
def repSh (sh' : List Int) : List Int := if sh' = [] then [1] else sh'
def repAx (W : List Int) (fl : Bool) : Nat := if fl then 0 else W.length - 1
def repN (sh' : List Int) (fl : Bool) : Nat := (axisN (repSh sh') fl).toNat
def repM (dt sh' : List Int) (fl : Bool) : Nat := repCount (repN sh' fl) dt.length
def repZS (dt sh' : List Int) (fl : Bool) : List Int := (repSh sh').set (repAx (repSh sh') fl) (timesSum dt (repM dt sh' fl))

def replicateA (c d : Bool) (sh dt sh' dt' : List Int) (fl : Bool) : Ans :=
  if arrOk c sh dt = true ∧ arrOk d sh' dt' = true then
    if listCode c sh.length ≠ 0 then noAns (listCode c sh.length)
    else if repN sh' fl ≠ 1 ∧ dt.length ≠ 1 ∧ dt.length ≠ repN sh' fl then noAns 5
    else if dt.all nonNeg = false then noAns 3
    else if 10000 < timesSum dt (repM dt sh' fl) ∨ shapeB (repZS dt sh' fl) = false then noAns 7
    else ⟨d, repZS dt sh' fl, repAll dt dt' (repN sh' fl) (axisA (repSh sh') fl).toNat (repM dt sh' fl) (axisB (repSh sh') fl).toNat, 0⟩
  else noAns 3

section
variable {c d : Bool} {sh dt sh' dt' : List Int} {fl : Bool}
theorem rep_bad1 (h : arrOk c sh dt = false) : replicateA c d sh dt sh' dt' fl = noAns 3 := by unfold replicateA; rw [if_neg (by simp [h])]
theorem rep_bad2 (h : arrOk d sh' dt' = false) : replicateA c d sh dt sh' dt' fl = noAns 3 := by unfold replicateA; rw [if_neg (by simp [h])]
theorem rep_list (h1 : arrOk c sh dt = true) (h2 : arrOk d sh' dt' = true) (r : Int) (hr : listCode c sh.length = r) (h0 : r ≠ 0) : replicateA c d sh dt sh' dt' fl = noAns r := by
  unfold replicateA; rw [if_pos ⟨h1, h2⟩, hr, if_pos h0]
theorem rep_len (h1 : arrOk c sh dt = true) (h2 : arrOk d sh' dt' = true) (hr : listCode c sh.length = 0) (hl : repN sh' fl ≠ 1 ∧ dt.length ≠ 1 ∧ dt.length ≠ repN sh' fl) : replicateA c d sh dt sh' dt' fl = noAns 5 := by
  unfold replicateA; rw [if_pos ⟨h1, h2⟩, if_neg (by simp [hr]), if_pos hl]
theorem rep_neg (h1 : arrOk c sh dt = true) (h2 : arrOk d sh' dt' = true) (hr : listCode c sh.length = 0) (hl : ¬ (repN sh' fl ≠ 1 ∧ dt.length ≠ 1 ∧ dt.length ≠ repN sh' fl)) (hn : dt.all nonNeg = false) : replicateA c d sh dt sh' dt' fl = noAns 3 := by
  unfold replicateA; rw [if_pos ⟨h1, h2⟩, if_neg (by simp [hr]), if_neg hl, if_pos hn]
theorem rep_big (h1 : arrOk c sh dt = true) (h2 : arrOk d sh' dt' = true) (hr : listCode c sh.length = 0) (hl : ¬ (repN sh' fl ≠ 1 ∧ dt.length ≠ 1 ∧ dt.length ≠ repN sh' fl)) (hn : dt.all nonNeg = true) (hb : 10000 < timesSum dt (repM dt sh' fl) ∨ shapeB (repZS dt sh' fl) = false) : replicateA c d sh dt sh' dt' fl = noAns 7 := by
  unfold replicateA; rw [if_pos ⟨h1, h2⟩, if_neg (by simp [hr]), if_neg hl, if_neg (by simp [hn]), if_pos hb]
theorem rep_go (h1 : arrOk c sh dt = true) (h2 : arrOk d sh' dt' = true) (hr : listCode c sh.length = 0) (hl : ¬ (repN sh' fl ≠ 1 ∧ dt.length ≠ 1 ∧ dt.length ≠ repN sh' fl)) (hn : dt.all nonNeg = true) (hb : ¬ (10000 < timesSum dt (repM dt sh' fl) ∨ shapeB (repZS dt sh' fl) = false)) :
    replicateA c d sh dt sh' dt' fl = ⟨d, repZS dt sh' fl, repAll dt dt' (repN sh' fl) (axisA (repSh sh') fl).toNat (repM dt sh' fl) (axisB (repSh sh') fl).toNat, 0⟩ := by
  unfold replicateA; rw [if_pos ⟨h1, h2⟩, if_neg (by simp [hr]), if_neg hl, if_neg (by simp [hn]), if_neg hb]
end

end Go.Proofs.YtkgcmpmgaghdhaaGreatDoor
namespace Go.Proofs.YtkgcmpmgaghdhaaGreatDoor

def memV (c d : Bool) (dt dt' : List Int) : List Int := vals (fun k => (truth (decide (firstOf c dt (dt'.getD k 0) d < dt.length)), 0)) dt'.length
def finV (c d : Bool) (dt dt' : List Int) : List Int := vals (fun k => ((firstOf c dt (dt'.getD k 0) d : Int) + 1, 0)) dt'.length

theorem code_none {f : Nat → Int × Int} {n : Nat} (h : ∀ k, (f k).2 = 0) : firstCode f n = 0 := by
  induction n with
  | zero => rfl
  | succ n ih => exact code_step ih (h n)

theorem member_there {c d : Bool} {sh dt sh' dt' : List Int} (h1 : arrOk c sh dt = true) (h2 : arrOk d sh' dt' = true) : member d c sh' dt' sh dt = ⟨false, sh', memV c d dt dt', 0⟩ := by
  unfold member; rw [if_pos ⟨h2, h1⟩, gather_good (code_none fun _ => rfl)]; rfl

theorem find_there {c d : Bool} {sh dt sh' dt' : List Int} (h1 : arrOk c sh dt = true) (h2 : arrOk d sh' dt' = true) (hl : sh.length = 1) : find c d sh dt sh' dt' = ⟨false, sh', finV c d dt dt', 0⟩ := by
  unfold find; rw [if_pos ⟨h1, h2⟩, if_neg (by simp [hl]), gather_good (code_none fun _ => rfl)]; rfl

theorem arr_len {c : Bool} {sh dt : List Int} (h : arrOk c sh dt = true) : sh.length ≤ 5 ∧ countOf sh = (dt.length : Int) := by
  unfold arrOk at h
  simp only [Bool.and_eq_true, decide_eq_true_eq] at h
  exact ⟨h.1, h.2.1⟩

theorem count_le (sh : List Int) : countOf sh ≤ 10000 := by
  unfold countOf
  split
  · rename_i ha
    split
    · omega
    · rename_i m hm
      have := prodFrom_bd sh 1 m ha (by omega) (by omega) hm
      split <;> omega
  · omega

theorem arr_nums {c : Bool} {sh dt zs : List Int} (h : arrOk c sh dt = true) (hl : zs.length = dt.length) (hz : ∀ x ∈ zs, -1000000000000000 ≤ x ∧ x ≤ 1000000000000000) : arrOk false sh zs = true := by
  obtain ⟨h5, hc⟩ := arr_len h
  unfold arrOk
  rw [decide_eq_true h5, decide_eq_true (by rw [hc, hl]), Bool.true_and, Bool.true_and, List.all_eq_true]
  intro x hx
  have := hz x hx
  simp [dataOk]
  omega

theorem fin_ok {c d : Bool} {sh dt sh' dt' : List Int} (h1 : arrOk c sh dt = true) (h2 : arrOk d sh' dt' = true) : arrOk false sh' (finV c d dt dt') = true := by
  refine arr_nums h2 (vals_len _ _) fun x hx => ?_
  unfold finV vals at hx
  obtain ⟨i, _, rfl⟩ := List.mem_map.1 hx
  have := first_le c dt (dt'.getD i 0) d
  have h3 := (arr_len h1).2
  have h4 := count_le sh
  simp only
  omega

theorem one_ok (v : Int) (h : -1000000000000000 ≤ v ∧ v ≤ 1000000000000000) : arrOk false [] [v] = true := by
  unfold arrOk
  simp [countOf, prodFrom, dataOk, h]

theorem le_there {c d : Bool} {sh dt sh' dt' : List Int} (h1 : arrOk c sh dt = true) (h2 : arrOk d sh' dt' = true) (n : Nat) (hn : dt.length = n) : scalar2 12 false false sh' (finV c d dt dt') [] [(n : Int)] = ⟨false, sh', memV c d dt dt', 0⟩ := by
  subst hn
  have h3 := (arr_len h1).2
  have h4 := count_le sh
  have h5 := (arr_len h2).2
  have hL : (finV c d dt dt').length = dt'.length := vals_len _ _
  unfold scalar2
  rw [if_pos ⟨fin_ok h1 h2, one_ok _ (by omega), rfl⟩]
  have hw : wideB sh'.length (finV c d dt dt').length ([] : List Int).length [((dt.length : Nat) : Int)].length = false := by
    unfold wideB
    simp
  simp only [hw]
  rw [if_neg (by simp), if_neg (by simp), if_neg (by simp)]
  simp only [Bool.false_eq_true, if_false, h5, hL, Int.toNat_natCast]
  have e : ∀ k, k < dt'.length → elemOf 12 false (finV c d dt dt') (k % dt'.length) false [((dt.length : Nat) : Int)] (k % [((dt.length : Nat) : Int)].length) = (truth (decide (firstOf c dt (dt'.getD k 0) d < dt.length)), 0) := fun k hk => by
    have hf : (finV c d dt dt').getD k 0 = (firstOf c dt (dt'.getD k 0) d : Int) + 1 := by
      unfold finV vals
      simp [List.getD, hk]
    unfold elemOf
    rw [if_neg (by simp), Nat.mod_eq_of_lt hk, hf]
    have ht := truth_bd (decide ((firstOf c dt (dt'.getD k 0) d : Int) + 1 ≤ ((dt.length : Nat) : Int)))
    have ee : decide ((firstOf c dt (dt'.getD k 0) d : Int) + 1 ≤ ((dt.length : Nat) : Int)) = decide (firstOf c dt (dt'.getD k 0) d < dt.length) := by
      apply decide_eq_decide.mpr
      omega
    simp only [List.length_singleton, Nat.mod_one, List.getD_cons_zero]
    unfold twoOf limited orderOf
    simp only [show (12 : Int) = 1 ↔ False by decide, show (12 : Int) = 2 ↔ False by decide, show (12 : Int) = 3 ↔ False by decide, show (12 : Int) = 4 ↔ False by decide, show (12 : Int) = 7 ↔ False by decide, show (12 : Int) = 8 ↔ False by decide, show (12 : Int) = 15 ↔ False by decide, show (12 : Int) = 16 ↔ False by decide, show (12 : Int) = 5 ↔ False by decide, show (12 : Int) = 6 ↔ False by decide, show (12 : Int) = 9 ↔ False by decide, show (12 : Int) = 10 ↔ False by decide, show (12 : Int) = 11 ↔ False by decide, show (12 : Int) = 13 ↔ False by decide, or_self, if_false, if_true]
    rw [if_pos ⟨trivial, inM_of (by omega) (by omega)⟩, ee]
  have e2 : ∀ m, m ≤ dt'.length → firstCode (fun i => elemOf 12 false (finV c d dt dt') (i % dt'.length) false [((dt.length : Nat) : Int)] (i % [((dt.length : Nat) : Int)].length)) m = 0 := fun m => by
    induction m with
    | zero => intro _; rfl
    | succ m ih => intro hm; exact code_step (ih (by omega)) (by rw [e m (by omega)])
  rw [gather_good (e2 _ (Nat.le_refl _))]
  congr 1
  unfold memV vals
  apply List.map_congr_left
  intro i hi
  exact congrArg Prod.fst (e i (List.mem_range.1 hi))

theorem times_one (m : Nat) : timesSum [1] m = (m : Int) := by
  induction m with
  | zero => rfl
  | succ m ih => simp [timesSum, timesAt, ih, Nat.mod_one]

theorem line_one {dt : List Int} {n : Nat} (m : Nat) (hm : m ≤ n) : repLine [1] dt n 1 0 m = dt.take m := by
  induction m with
  | zero => simp [repLine]
  | succ m ih =>
    rw [repLine, ih (by omega)]
    have h1 : (timesAt [1] m).toNat = 1 := by simp [timesAt, Nat.mod_one]
    rw [h1]
    simp only [repCopies, List.nil_append, repBlk, Nat.zero_mul, Nat.zero_add, Nat.mul_one, Nat.mod_eq_of_lt (show m < n by omega)]
    rw [List.take_add]

theorem rep_there {c : Bool} {dt : List Int} {n : Nat} (hn : dt.length = n) (h1 : arrOk c [(n : Int)] dt = true) : replicateA false c [] [1] [(n : Int)] dt false = ⟨c, [(n : Int)], dt, 0⟩ := by
  have h3 := (arr_len h1).2
  have h4 := count_le [(n : Int)]
  have hs : repSh [(n : Int)] = [(n : Int)] := by simp [repSh]
  have hN : repN [(n : Int)] false = n := by simp [repN, hs, axisN, axisAt]
  have hM : repM [1] [(n : Int)] false = n := by
    simp only [repM, hN, repCount, List.length_singleton]
    split <;> omega
  have hZ : repZS [1] [(n : Int)] false = [(n : Int)] := by simp [repZS, hs, repAx, hM, times_one]
  have hsb : shapeB [(n : Int)] = true := by
    unfold shapeB
    rw [h3]
    simp
  rw [rep_go (one_ok 1 (by omega)) h1 rfl (by simp) rfl (by rw [hM, times_one, hZ, hsb]; simp; omega), hZ, hM, hN, hs]
  have hA : (axisA [(n : Int)] false).toNat = 1 := by simp [axisA, axisAt, prodAll]
  have hB : (axisB [(n : Int)] false).toNat = 1 := by simp [axisB, axisAt, prodAll]
  rw [hA, hB]
  simp only [repAll, List.nil_append]
  rw [line_one n (Nat.le_refl _), ← hn, List.take_length]

theorem line_shapeT {c : Bool} {sh dt : List Int} (h : arrOk c sh dt = true) (hn : sh.length = 1) : sh = [(dt.length : Int)] := by
  have h1 := (arr_len h).2
  obtain ⟨x, rfl⟩ : ∃ x, sh = [x] := by
    cases sh with
    | nil => simp at hn
    | cons x t => cases t with
      | nil => exact ⟨x, rfl⟩
      | cons y u => simp at hn
  have hsb : shapeB [x] = true := by unfold shapeB; rw [decide_eq_true (by simp), h1]; simp
  have h2 := prodAll_count _ hsb
  rw [h1] at h2
  have h3 : prodAll [x] = x := by simp [prodAll]
  rw [← h2, h3]

end Go.Proofs.YtkgcmpmgaghdhaaGreatDoor
namespace Go.Proofs.YtkgcmpmgaghdhaaGreatDoor

/-- The ops that may be done in any grouping. -/
def opJ (op : Int) : Prop := op = 1 ∨ op = 3 ∨ op = 5 ∨ op = 6 ∨ op = 15 ∨ op = 16

/-- What such an op does with numbers of any size. -/
def gP (op a b : Int) : Int := if op = 1 then a + b else if op = 3 then a * b else if op = 5 then (if a < b then a else b) else if op = 6 then (if a < b then b else a) else if op = 15 then a * b else a + b - a * b

def GP (op : Int) : List Int → Int
  | [] => emptyOf op
  | x :: r => gP op x (GP op r)

theorem lim_fst {v : Int} {t : Bool} {c : Int} (h : limited (v, t) = (c, 0)) : c = v := by
  unfold limited at h
  split at h
  · exact (congrArg Prod.fst h).symm
  · exact absurd (show (7 : Int) = 0 from congrArg Prod.snd h) (by decide)

theorem two_gP {op a b v : Int} (ho : opJ op) (h : twoOf op a b = (v, 0)) : v = gP op a b := by
  rcases ho with rfl | rfl | rfl | rfl | rfl | rfl
  · exact lim_fst (show limited (a + b, true) = (v, 0) from h)
  · have h' : limited (timesOf a b) = (v, 0) := h
    by_cases hm : inM (a * b) = true
    · rw [times_ok hm] at h'
      exact lim_fst h'
    · rw [times_big (by simpa using hm)] at h'
      exact absurd (show (7 : Int) = 0 from congrArg Prod.snd h') (by decide)
  · exact lim_fst (show limited ((if a < b then a else b), true) = (v, 0) from h)
  · exact lim_fst (show limited ((if a < b then b else a), true) = (v, 0) from h)
  · have h' : (if (a ≠ 0 ∧ a ≠ 1) ∨ (b ≠ 0 ∧ b ≠ 1) then ((0 : Int), (3 : Int)) else limited (truth (decide (truth (decide ((15 : Int) = 15)) < a + b)), true)) = (v, 0) := h
    split at h'
    · exact absurd (show (3 : Int) = 0 from congrArg Prod.snd h') (by decide)
    · rename_i hn
      have e := lim_fst h'
      have ha : a = 0 ∨ a = 1 := by omega
      have hb : b = 0 ∨ b = 1 := by omega
      rcases ha with rfl | rfl <;> rcases hb with rfl | rfl <;> simpa [gP, truth] using e
  · have h' : (if (a ≠ 0 ∧ a ≠ 1) ∨ (b ≠ 0 ∧ b ≠ 1) then ((0 : Int), (3 : Int)) else limited (truth (decide (truth (decide ((16 : Int) = 15)) < a + b)), true)) = (v, 0) := h
    split at h'
    · exact absurd (show (3 : Int) = 0 from congrArg Prod.snd h') (by decide)
    · rename_i hn
      have e := lim_fst h'
      have ha : a = 0 ∨ a = 1 := by omega
      have hb : b = 0 ∨ b = 1 := by omega
      rcases ha with rfl | rfl <;> rcases hb with rfl | rfl <;> simpa [gP, truth] using e

theorem gP_assoc {op : Int} (ho : opJ op) (a b c : Int) : gP op (gP op a b) c = gP op a (gP op b c) := by
  rcases ho with rfl | rfl | rfl | rfl | rfl | rfl <;> simp only [gP] <;> simp
  · omega
  · exact Int.mul_assoc a b c
  · repeat' split
    all_goals omega
  · repeat' split
    all_goals omega
  · exact Int.mul_assoc a b c
  · rw [Int.sub_mul, Int.mul_sub, Int.mul_add, Int.add_mul, Int.mul_assoc]
    omega

theorem GP_low {zs : List Int} : GP 5 zs ≤ 1000000000000000 := by
  induction zs with
  | nil => simp [GP, emptyOf]
  | cons x r ih => simp only [GP, gP]; simp; split <;> omega
theorem GP_high {zs : List Int} : -1000000000000000 ≤ GP 6 zs := by
  induction zs with
  | nil => simp [GP, emptyOf]
  | cons x r ih => simp only [GP, gP]; simp; split <;> omega

theorem GP_join {op : Int} (ho : opJ op) (xs ys : List Int) : GP op (xs ++ ys) = gP op (GP op xs) (GP op ys) := by
  induction xs with
  | nil =>
    rcases ho with rfl | rfl | rfl | rfl | rfl | rfl
    · simp [GP, gP, emptyOf]
    · simp [GP, gP, emptyOf]
    · have := GP_low (zs := ys)
      simp [GP, gP, emptyOf]
      omega
    · have := GP_high (zs := ys)
      simp [GP, gP, emptyOf]
      omega
    · simp [GP, gP, emptyOf]
    · simp [GP, gP, emptyOf]
  | cons x r ih => simp only [List.cons_append, GP, ih, gP_assoc ho]

theorem unit_right {op x : Int} (ho : opJ op) (hx : -1000000000000000 ≤ x ∧ x ≤ 1000000000000000) : gP op x (emptyOf op) = x := by
  rcases ho with rfl | rfl | rfl | rfl | rfl | rfl
  · simp [gP, emptyOf]
  · simp [gP, emptyOf]
  · simp [gP, emptyOf]; omega
  · simp [gP, emptyOf]; omega
  · simp [gP, emptyOf]
  · simp [gP, emptyOf]

/-- A fold without a code is the fold over numbers of any size. -/
theorem fold_GP {op : Int} (ho : opJ op) : ∀ (zs : List Int) (v : Int), (∀ x ∈ zs, -1000000000000000 ≤ x ∧ x ≤ 1000000000000000) → foldR op zs = (v, 0) → v = GP op zs
  | [], v, _, h => (congrArg Prod.fst h).symm
  | [x], v, hb, h => by
    have e : v = x := (congrArg Prod.fst h).symm
    rw [e, GP, GP, unit_right ho (hb x (by simp))]
  | x :: y :: r, v, hb, h => by
    rw [foldR_cons (by simp)] at h
    split at h
    · rename_i hc
      exact absurd (congrArg Prod.snd h) hc
    · rename_i hc
      have hc0 : (foldR op (y :: r)).2 = 0 := by simpa using hc
      have ih := fold_GP ho (y :: r) (foldR op (y :: r)).1 (fun z hz => hb z (by simp [hz])) (Prod.ext rfl hc0)
      rw [two_gP ho h, ih]
      rfl

/-- Fold of both joined is the op of the folds. -/
theorem fold_join {op : Int} (ho : opJ op) {xs ys : List Int} {p q s v : Int} (hx : ∀ x ∈ xs, -1000000000000000 ≤ x ∧ x ≤ 1000000000000000) (hy : ∀ x ∈ ys, -1000000000000000 ≤ x ∧ x ≤ 1000000000000000) (h1 : foldR op xs = (p, 0)) (h2 : foldR op ys = (q, 0)) (h3 : twoOf op p q = (s, 0)) (h4 : foldR op (xs ++ ys) = (v, 0)) : s = v := by
  rw [two_gP ho h3, fold_GP ho _ _ hx h1, fold_GP ho _ _ hy h2, ← GP_join ho, ← fold_GP ho _ _ (fun z hz => by rcases List.mem_append.1 hz with h | h; exact hx z h; exact hy z h) h4]

end Go.Proofs.YtkgcmpmgaghdhaaGreatDoor
namespace Go.Proofs.YtkgcmpmgaghdhaaGreatDoor

theorem gather_cong1 {c : Bool} {sh : List Int} {f g : Nat → Int × Int} {n : Nat} (h : ∀ k, k < n → f k = g k) : gatherAns c sh f n = gatherAns c sh g n := by
  have h1 : ∀ m, m ≤ n → firstCode f m = firstCode g m := fun m => by
    induction m with
    | zero => intro _; rfl
    | succ m ih => intro hm; simp only [firstCode, ih (by omega), h m (by omega)]
  have h2 : vals f n = vals g n := by
    unfold vals
    apply List.map_congr_left
    intro i hi
    rw [h i (List.mem_range.1 hi)]
  unfold gatherAns
  rw [h1 n (Nat.le_refl _), h2]

theorem line_all {dt : List Int} {n : Nat} (hn : dt.length = n) : lineOf dt 0 n 1 0 = dt := by
  subst hn
  unfold lineOf
  apply List.ext_getElem
  · simp
  · intro i h1 h2
    simp [List.getD, h2]

theorem ax_vec (n : Nat) : (axisA [(n : Int)] false).toNat = 1 ∧ (axisB [(n : Int)] false).toNat = 1 ∧ (axisN [(n : Int)] false).toNat = n ∧ without [(n : Int)] false = [] := by
  refine ⟨by simp [axisA, axisAt, prodAll], by simp [axisB, axisAt, prodAll], by simp [axisN, axisAt], by simp [without]⟩

/-- Fold of a vector. -/
theorem fold_vec {op : Int} {dt : List Int} {n : Nat} (hn : dt.length = n) (h : arrOk false [(n : Int)] dt = true) (hop : opIn op = true) : fold op false [(n : Int)] dt false = gatherAns false [] (fun _ => foldR op dt) 1 := by
  obtain ⟨h1, h2, h3, h4⟩ := ax_vec n
  unfold fold
  rw [if_pos ⟨h, hop⟩, if_neg (by simp), if_neg (by simp), h1, h2, h3, h4]
  exact gather_cong1 fun k hk => by
    have : k = 0 := by omega
    subst this
    simp only [Nat.div_one, Nat.mod_one]
    rw [line_all hn]

/-- Scan of a vector. -/
theorem scan_vec {op : Int} {dt : List Int} {n : Nat} (hn : dt.length = n) (h : arrOk false [(n : Int)] dt = true) (hop : opIn op = true) : scan op false [(n : Int)] dt false = gatherAns false [(n : Int)] (fun k => foldR op (dt.take (k + 1))) n := by
  obtain ⟨h1, h2, h3, h4⟩ := ax_vec n
  unfold scan
  rw [if_pos ⟨h, hop⟩, if_neg (by simp), if_neg (by simp), h1, h2, h3, Nat.one_mul, Nat.mul_one]
  exact gather_cong1 fun k hk => by
    simp only [Nat.div_one, Nat.mod_one]
    rw [Nat.div_eq_of_lt hk, Nat.mod_eq_of_lt hk, line_all hn]

theorem fold_vec_ok {op v : Int} {dt : List Int} {n : Nat} (hn : dt.length = n) (h : arrOk false [(n : Int)] dt = true) (hop : opIn op = true) (hf : foldR op dt = (v, 0)) : fold op false [(n : Int)] dt false = ⟨false, [], [v], 0⟩ := by
  rw [fold_vec hn h hop, gather_good (by show (if (0 : Int) = 0 then (foldR op dt).2 else 0) = 0; rw [hf]; rfl)]
  congr 1
  show [(foldR op dt).1] = _
  rw [hf]

theorem fold_vec_code {op : Int} {dt : List Int} {n : Nat} (hn : dt.length = n) (h : arrOk false [(n : Int)] dt = true) (hop : opIn op = true) (hf : (foldR op dt).2 ≠ 0) : (fold op false [(n : Int)] dt false).code ≠ 0 := by
  rw [fold_vec hn h hop, gather_bad (k := 0) rfl (by omega) hf]
  exact hf

end Go.Proofs.YtkgcmpmgaghdhaaGreatDoor
namespace Go.Proofs.YtkgcmpmgaghdhaaGreatDoor

/-- The shape that Take and Drop begin with. -/
def countedSh (n2 : Nat) (sh' : List Int) : List Int := if sh' = [] then List.replicate n2 1 else sh'

def countedCode (c : Bool) (n1 n2 m1 : Nat) : Int :=
  if listCode c n1 ≠ 0 then listCode c n1 else if m1 = 0 then (if 5 < n2 then 7 else 0) else if n2 ≠ m1 then 5 else 0

theorem counted_list {c : Bool} {n1 n2 m1 : Nat} {r : Int} (h : listCode c n1 = r) (hr : r ≠ 0) : countedCode c n1 n2 m1 = r := by unfold countedCode; rw [h, if_pos hr]
theorem counted_go {c : Bool} {n1 n2 m1 : Nat} (h : listCode c n1 = 0) : countedCode c n1 n2 m1 = if m1 = 0 then (if 5 < n2 then 7 else 0) else if n2 ≠ m1 then 5 else 0 := by unfold countedCode; rw [h]; rfl

theorem ones_snoc (k : Nat) : ((List.replicate (k + 1) (1 : Int)).map (Value.int .i64)) = (List.replicate k (1 : Int)).map (Value.int .i64) ++ [.int .i64 1] := by
  rw [List.replicate_succ']; simp

theorem ones_in (n : Nat) : ShapeIn (List.replicate n 1) ∧ prodAll (List.replicate n 1) = 1 := by
  induction n with
  | zero => exact ⟨⟨rfl, 1, rfl⟩, rfl⟩
  | succ n ih =>
    obtain ⟨⟨h1, m, hm⟩, h2⟩ := ih
    refine ⟨⟨?_, m, ?_⟩, ?_⟩
    · rw [List.replicate_succ, List.all_cons, h1]; rfl
    · rw [List.replicate_succ]; simpa [prodFrom] using hm
    · rw [List.replicate_succ]
      have : (1 : Int) :: List.replicate n 1 = [1] ++ List.replicate n 1 := rfl
      rw [this, prodAll_append, h2]; rfl

/-- The array that Take and Drop begin with is valid too. -/
theorem counted_ok {d : Bool} {n2 : Nat} {sh' dt' : List Int} (h : arrOk d sh' dt' = true) (h5 : n2 ≤ 5) : arrOk d (countedSh n2 sh') dt' = true := by
  unfold countedSh
  split
  · rename_i e
    subst e
    obtain ⟨_, hp, _⟩ := shapeIn_of h
    unfold arrOk at h ⊢
    simp only [Bool.and_eq_true, decide_eq_true_eq] at h ⊢
    refine ⟨by simp; exact h5, ?_, h.2.2⟩
    obtain ⟨hin, hpr⟩ := ones_in n2
    have hb : shapeB (List.replicate n2 (1 : Int)) = true := by
      obtain ⟨ha, m, hm⟩ := hin
      exact shape_good (n := n2) (by simp) h5 m ha hm
    rw [← prodAll_count _ hb, hpr, ← hp]; rfl
  · exact h

end Go.Proofs.YtkgcmpmgaghdhaaGreatDoor
namespace Go.Proofs.YtkgcmpmgaghdhaaGreatDoor

def absI (x : Int) : Int := if x < 0 then -x else x

def takeZ (dt : List Int) : List Int := dt.map absI
def takeSt (bs dt : List Int) : List Int := (List.range dt.length).map fun i => if dt.getD i 0 < 0 then bs.getD i 0 + dt.getD i 0 else 0
def dropZ (bs dt : List Int) : List Int := (List.range dt.length).map fun i => if bs.getD i 0 - absI (dt.getD i 0) < 0 then 0 else bs.getD i 0 - absI (dt.getD i 0)
def dropSt (dt : List Int) : List Int := dt.map fun x => if 0 < x then x else 0

theorem takeZ_len (dt : List Int) : (takeZ dt).length = dt.length := by simp [takeZ]
theorem takeSt_len (bs dt : List Int) : (takeSt bs dt).length = dt.length := by simp [takeSt]
theorem dropZ_len (bs dt : List Int) : (dropZ bs dt).length = dt.length := by simp [dropZ]
theorem dropSt_len (dt : List Int) : (dropSt dt).length = dt.length := by simp [dropSt]
theorem takeZ_get (dt : List Int) (k : Nat) (hk : k < dt.length) : (takeZ dt).getD k 0 = absI (dt.getD k 0) := by simp [takeZ, hk]
theorem takeSt_get (bs dt : List Int) (k : Nat) (hk : k < dt.length) : (takeSt bs dt).getD k 0 = if dt.getD k 0 < 0 then bs.getD k 0 + dt.getD k 0 else 0 := by simp [takeSt, hk]
theorem dropZ_get (bs dt : List Int) (k : Nat) (hk : k < dt.length) : (dropZ bs dt).getD k 0 = if bs.getD k 0 - absI (dt.getD k 0) < 0 then 0 else bs.getD k 0 - absI (dt.getD k 0) := by simp [dropZ, hk]
theorem dropSt_get (dt : List Int) (k : Nat) (hk : k < dt.length) : (dropSt dt).getD k 0 = if 0 < dt.getD k 0 then dt.getD k 0 else 0 := by simp [dropSt, hk]

/-- Take and Drop: which shape and start a window has. -/
def window (lim : Bool) (Z S : List Int → List Int → List Int) (c d : Bool) (sh dt sh' dt' : List Int) : Ans :=
  if arrOk c sh dt = true ∧ arrOk d sh' dt' = true then
    if countedCode c sh.length dt.length sh'.length ≠ 0 then noAns (countedCode c sh.length dt.length sh'.length)
    else
      let bs := countedSh dt.length sh'
      if lim = true ∧ shapeB (Z bs dt) = false then noAns 7
      else ⟨d, Z bs dt, vals (windowAt d bs dt' (S bs dt) (Z bs dt)) (countOf (Z bs dt)).toNat, 0⟩
  else noAns 3

def take (c d : Bool) (sh dt sh' dt' : List Int) : Ans := window true (fun _ => takeZ) takeSt c d sh dt sh' dt'
def drop (c d : Bool) (sh dt sh' dt' : List Int) : Ans := window false dropZ (fun _ => dropSt) c d sh dt sh' dt'

section
variable {lim : Bool} {Z S : List Int → List Int → List Int} {c d : Bool} {sh dt sh' dt' : List Int}
theorem window_bad1 (h : arrOk c sh dt = false) : window lim Z S c d sh dt sh' dt' = noAns 3 := by unfold window; rw [if_neg (by simp [h])]
theorem window_bad2 (h : arrOk d sh' dt' = false) : window lim Z S c d sh dt sh' dt' = noAns 3 := by unfold window; rw [if_neg (by simp [h])]
theorem window_code' (h1 : arrOk c sh dt = true) (h2 : arrOk d sh' dt' = true) (r : Int) (h : countedCode c sh.length dt.length sh'.length = r) (hr : r ≠ 0) : window lim Z S c d sh dt sh' dt' = noAns r := by
  unfold window; rw [if_pos ⟨h1, h2⟩, h, if_pos hr]
theorem window_big (h1 : arrOk c sh dt = true) (h2 : arrOk d sh' dt' = true) (h : countedCode c sh.length dt.length sh'.length = 0) (hl : lim = true) (hz : shapeB (Z (countedSh dt.length sh') dt) = false) : window lim Z S c d sh dt sh' dt' = noAns 7 := by
  unfold window; rw [if_pos ⟨h1, h2⟩, if_neg (by simp [h])]; exact if_pos ⟨hl, hz⟩
theorem window_go (h1 : arrOk c sh dt = true) (h2 : arrOk d sh' dt' = true) (h : countedCode c sh.length dt.length sh'.length = 0) (hz : lim = true → shapeB (Z (countedSh dt.length sh') dt) = true) (N : Nat) (hN : countOf (Z (countedSh dt.length sh') dt) = (N : Int)) :
    window lim Z S c d sh dt sh' dt' = ⟨d, Z (countedSh dt.length sh') dt, vals (windowAt d (countedSh dt.length sh') dt' (S (countedSh dt.length sh') dt) (Z (countedSh dt.length sh') dt)) N, 0⟩ := by
  unfold window
  rw [if_pos ⟨h1, h2⟩, if_neg (by simp [h])]
  show (if lim = true ∧ shapeB (Z (countedSh dt.length sh') dt) = false then noAns 7 else _) = _
  rw [if_neg (by rintro ⟨a, b⟩; rw [hz a] at b; cases b)]
  simp [hN]
end

/-- A shape that is no greater than a valid one, axis by axis, is valid. -/
theorem shape_less {xs ys : List Int} (hy : ShapeIn ys) (hl : xs.length = ys.length) (h : ∀ k, k < ys.length → 0 ≤ xs.getD k 0 ∧ xs.getD k 0 ≤ ys.getD k 0) : ShapeIn xs := by
  have key : ∀ (xs ys : List Int) (n k m : Int), ys.all inCells = true → xs.length = ys.length → (∀ i, i < ys.length → 0 ≤ xs.getD i 0 ∧ xs.getD i 0 ≤ ys.getD i 0) → 1 ≤ k → k ≤ n → prodFrom ys n = some m → xs.all inCells = true ∧ ∃ m', prodFrom xs k = some m' := by
    intro xs
    induction xs with
    | nil => intro ys n k m _ _ _ _ _ _; exact ⟨rfl, k, rfl⟩
    | cons x r ih =>
      intro ys n k m hy hl h hk hkn hp
      cases ys with
      | nil => simp at hl
      | cons y s =>
        simp only [List.all_cons, Bool.and_eq_true] at hy
        have hyb : 0 ≤ y ∧ y ≤ 10000 := by simpa [inCells] using hy.1
        have hx : 0 ≤ x ∧ x ≤ y := by simpa using h 0 (by simp)
        have hr : ∀ i, i < s.length → 0 ≤ r.getD i 0 ∧ r.getD i 0 ≤ s.getD i 0 := fun i hi => by simpa using h (i + 1) (by simpa using hi)
        have hl' : r.length = s.length := by simpa using hl
        have hxc : inCells x = true := by simp [inCells]; omega
        simp only [prodFrom] at hp
        by_cases y0 : y = 0
        · rw [if_pos y0] at hp
          have x0 : x = 0 := by omega
          obtain ⟨a, m', b⟩ := ih s n k m hy.2 hl' hr hk hkn hp
          exact ⟨by rw [List.all_cons, hxc, a]; rfl, m', by simp only [prodFrom]; rw [if_pos x0]; exact b⟩
        · rw [if_neg y0] at hp
          split at hp
          · simp at hp
          · rename_i hle
            by_cases x0 : x = 0
            · have h1 : n ≤ n * y := by have := Int.mul_le_mul_of_nonneg_left (by omega : (1 : Int) ≤ y) (by omega : 0 ≤ n); omega
              obtain ⟨a, m', b⟩ := ih s (n * y) k m hy.2 hl' hr hk (by omega) hp
              exact ⟨by rw [List.all_cons, hxc, a]; rfl, m', by simp only [prodFrom]; rw [if_pos x0]; exact b⟩
            · have h1 : k * x ≤ n * y := Int.mul_le_mul hkn hx.2 hx.1 (by omega)
              have h2 : 1 * 1 ≤ k * x := Int.mul_le_mul hk (by omega) (by omega) (by omega)
              obtain ⟨a, m', b⟩ := ih s (n * y) (k * x) m hy.2 hl' hr (by omega) h1 hp
              exact ⟨by rw [List.all_cons, hxc, a]; rfl, m', by simp only [prodFrom]; rw [if_neg x0, if_neg (by omega)]; exact b⟩
  obtain ⟨ha, m, hm⟩ := hy
  exact key xs ys 1 1 m ha hl h (by omega) (by omega) hm

theorem shapeB_of {xs : List Int} (h : ShapeIn xs) (h5 : xs.length ≤ 5) : shapeB xs = true := by
  obtain ⟨ha, m, hm⟩ := h
  exact shape_good (n := xs.length) rfl h5 m ha hm

end Go.Proofs.YtkgcmpmgaghdhaaGreatDoor
namespace Go.Proofs.YtkgcmpmgaghdhaaGreatDoor

theorem count1 {n : Nat} (h : n ≤ 10000) : countOf [(n : Int)] = (n : Int) := by
  have hi : inCells (n : Int) = true := by unfold inCells; simp; omega
  by_cases h0 : n = 0
  · subst h0; decide
  · have hz : ¬ (n : Int) = 0 := by omega
    have hb : ¬ (10000 : Int) < 1 * (n : Int) := by omega
    have hp : prodFrom [(n : Int)] 1 = some (1 * (n : Int)) := by
      unfold prodFrom
      rw [if_neg hz, if_neg hb]
      rfl
    have hm : ¬ (0 : Int) ∈ [(n : Int)] := by simp; omega
    unfold countOf
    rw [if_pos (by simp [hi]), hp]
    simp only [if_neg hm, Int.one_mul]

theorem shape1 {n : Nat} (h : n ≤ 10000) : shapeB [(n : Int)] = true := by
  unfold shapeB
  rw [count1 h]
  simp

theorem ok_vec {d : Bool} {dt : List Int} {n : Nat} (hl : dt.length = n) (hn : n ≤ 10000) (h : dt.all (dataOk d) = true) : arrOk d [(n : Int)] dt = true := by
  unfold arrOk
  rw [count1 hn, hl, h]
  simp

theorem ok_num {k : Int} (h1 : -10000 ≤ k) (h2 : k ≤ 10000) : arrOk false [] [k] = true := by
  have : dataOk false k = true := by unfold dataOk; simp; omega
  unfold arrOk
  simp [this]
  decide

theorem win1 {d : Bool} {dt : List Int} {n s z i : Nat} (hi : i < z) (hs : i + s < n) : windowAt d [(n : Int)] dt [(s : Int)] [(z : Int)] i = (dt.getD (s + i) 0, 0) := by
  have hd : digits [(z : Int)] (i : Int) = [(i : Int)] := by
    simp [digits, digit, restN]
    exact Int.emod_eq_of_lt (by omega) (by omega)
  have ha : addIx [(i : Int)] [(s : Int)] = [((s + i : Nat) : Int)] := by
    simp [addIx, List.range_succ]
    omega
  unfold windowAt
  rw [hd, ha]
  have hin : insideN [(n : Int)] [((s + i : Nat) : Int)] 1 = true := by
    simp [insideN]
    omega
  rw [show ([(n : Int)] : List Int).length = 1 from rfl, if_pos hin]
  have hp : (place [(n : Int)] [((s + i : Nat) : Int)]).toNat = s + i := by simp [place, placeN]; omega
  rw [hp]

theorem vec_win {d : Bool} {dt : List Int} {n s z : Nat} (hl : dt.length = n) (h : s + z ≤ n) : vals (windowAt d [(n : Int)] dt [(s : Int)] [(z : Int)]) z = (dt.drop s).take z := by
  apply List.ext_getElem
  · simp [vals]; omega
  · intro i h1 h2
    simp [vals] at h1
    simp only [vals, List.getElem_map, List.getElem_range]
    rw [win1 h1 (by omega)]
    simp [List.getD, List.getElem?_eq_getElem (show s + i < dt.length by omega)]

theorem vec_none {d : Bool} {dt S : List Int} {n : Nat} : vals (windowAt d [(n : Int)] dt S [(0 : Int)]) 0 = [] := by simp [vals]

section
variable {d : Bool} {dt : List Int} {n k : Nat}
theorem vec_take (hl : dt.length = n) (hn : n ≤ 10000) (hok : arrOk d [(n : Int)] dt = true) (hk : k ≤ n) : take false d [] [(k : Int)] [(n : Int)] dt = ⟨d, [(k : Int)], dt.take k, 0⟩ := by
  have ha : absI (k : Int) = (k : Int) := by unfold absI; rw [if_neg (by omega)]
  have hz : takeZ [(k : Int)] = [(k : Int)] := by simp [takeZ, ha]
  have hs : takeSt [(n : Int)] [(k : Int)] = [((0 : Nat) : Int)] := by simp [takeSt, List.range_succ]; omega
  unfold take
  rw [window_go (ok_num (by omega) (by omega)) hok rfl (fun _ => by show shapeB (takeZ _) = true; rw [hz]; exact shape1 (by omega)) k (by show countOf (takeZ _) = _; rw [hz]; exact count1 (by omega))]
  show (⟨d, takeZ [(k : Int)], vals (windowAt d [(n : Int)] dt (takeSt [(n : Int)] [(k : Int)]) (takeZ [(k : Int)])) k, 0⟩ : Ans) = _
  rw [hz, hs, vec_win hl (by omega)]
  rfl

theorem vec_takeN (hl : dt.length = n) (hn : n ≤ 10000) (hok : arrOk d [(n : Int)] dt = true) (hk : k ≤ n) : take false d [] [-(k : Int)] [(n : Int)] dt = ⟨d, [(k : Int)], dt.drop (n - k), 0⟩ := by
  by_cases h0 : k = 0
  · subst h0
    have := vec_take (k := 0) hl hn hok (Nat.zero_le _)
    rw [show -((0 : Nat) : Int) = ((0 : Nat) : Int) by simp, this, ← hl]
    simp
  have ha : absI (-(k : Int)) = (k : Int) := by unfold absI; rw [if_pos (by omega)]; omega
  have hz : takeZ [-(k : Int)] = [(k : Int)] := by simp [takeZ, ha]
  have hs : takeSt [(n : Int)] [-(k : Int)] = [((n - k : Nat) : Int)] := by simp [takeSt, List.range_succ]; rw [if_pos (by omega)]; omega
  unfold take
  rw [window_go (ok_num (by omega) (by omega)) hok rfl (fun _ => by show shapeB (takeZ _) = true; rw [hz]; exact shape1 (by omega)) k (by show countOf (takeZ _) = _; rw [hz]; exact count1 (by omega))]
  show (⟨d, takeZ [-(k : Int)], vals (windowAt d [(n : Int)] dt (takeSt [(n : Int)] [-(k : Int)]) (takeZ [-(k : Int)])) k, 0⟩ : Ans) = _
  rw [hz, hs, vec_win hl (by omega), List.take_of_length_le (by simp; omega)]

theorem vec_drop (hl : dt.length = n) (hn : n ≤ 10000) (hok : arrOk d [(n : Int)] dt = true) (hk : k ≤ n) : drop false d [] [(k : Int)] [(n : Int)] dt = ⟨d, [((n - k : Nat) : Int)], dt.drop k, 0⟩ := by
  have ha : absI (k : Int) = (k : Int) := by unfold absI; rw [if_neg (by omega)]
  have hz : dropZ [(n : Int)] [(k : Int)] = [((n - k : Nat) : Int)] := by simp [dropZ, ha, List.range_succ]; rw [if_neg (by omega)]; omega
  have hs : dropSt [(k : Int)] = [(k : Int)] := by simp [dropSt]; omega
  unfold drop
  rw [window_go (ok_num (by omega) (by omega)) hok rfl (fun h => by cases h) (n - k) (by show countOf (dropZ [(n : Int)] _) = _; rw [hz]; exact count1 (by omega))]
  show (⟨d, dropZ [(n : Int)] [(k : Int)], vals (windowAt d [(n : Int)] dt (dropSt [(k : Int)]) (dropZ [(n : Int)] [(k : Int)])) (n - k), 0⟩ : Ans) = _
  rw [hz, hs, vec_win hl (by omega), List.take_of_length_le (by simp; omega)]

theorem vec_dropN (hl : dt.length = n) (hn : n ≤ 10000) (hok : arrOk d [(n : Int)] dt = true) (hk : k ≤ n) : drop false d [] [-(k : Int)] [(n : Int)] dt = ⟨d, [((n - k : Nat) : Int)], dt.take (n - k), 0⟩ := by
  have ha : absI (-(k : Int)) = (k : Int) := by unfold absI; split <;> omega
  have hz : dropZ [(n : Int)] [-(k : Int)] = [((n - k : Nat) : Int)] := by simp [dropZ, ha, List.range_succ]; rw [if_neg (by omega)]; omega
  have hs : dropSt [-(k : Int)] = [((0 : Nat) : Int)] := by simp [dropSt]; omega
  unfold drop
  rw [window_go (ok_num (by omega) (by omega)) hok rfl (fun h => by cases h) (n - k) (by show countOf (dropZ [(n : Int)] _) = _; rw [hz]; exact count1 (by omega))]
  show (⟨d, dropZ [(n : Int)] [-(k : Int)], vals (windowAt d [(n : Int)] dt (dropSt [-(k : Int)]) (dropZ [(n : Int)] [-(k : Int)])) (n - k), 0⟩ : Ans) = _
  rw [hz, hs, vec_win hl (by omega)]
  rfl
end

theorem vec_cat {d : Bool} {X Y : List Int} {x y : Nat} (hx : X.length = x) (hy : Y.length = y) (hn : x + y ≤ 10000) (h1 : X.all (dataOk d) = true) (h2 : Y.all (dataOk d) = true) : catenate d d [(x : Int)] X [(y : Int)] Y = ⟨d, [((x + y : Nat) : Int)], X ++ Y, 0⟩ := by
  have s1 : sideSh [(x : Int)] [(y : Int)] = [(x : Int)] := by simp [sideSh]
  have s2 : sideSh [(y : Int)] [(x : Int)] = [(y : Int)] := by simp [sideSh]
  have s3 : sideDt [(x : Int)] X [(y : Int)] = X := by simp [sideDt]
  have s4 : sideDt [(y : Int)] Y [(x : Int)] = Y := by simp [sideDt]
  have hz : front [(x : Int)] ++ [last [(x : Int)] + last [(y : Int)]] = [((x + y : Nat) : Int)] := by simp [front, last]
  rw [cat_go (ok_vec hx (by omega) h1) (ok_vec hy (by omega) h2) s1 s2 s3 s4 rfl rfl (fun h => h.1 rfl) (by rw [hz]; exact shape1 hn), hz]
  have hc : catN X Y x y 1 = X ++ Y := by simp [catN, ← hx, ← hy]
  have hf : (prodAll (front [(x : Int)])).toNat = 1 := by simp [front, prodAll]
  have hl1 : (last [(x : Int)]).toNat = x := by simp [last]
  have hl2 : (last [(y : Int)]).toNat = y := by simp [last]
  rw [hf, hl1, hl2, hc]
  simp

theorem all_take {p : Int → Bool} {l : List Int} (h : l.all p = true) (k : Nat) : (l.take k).all p = true := by
  rw [List.all_eq_true] at h ⊢
  exact fun x hx => h x (List.mem_of_mem_take hx)

theorem all_drop {p : Int → Bool} {l : List Int} (h : l.all p = true) (k : Nat) : (l.drop k).all p = true := by
  rw [List.all_eq_true] at h ⊢
  exact fun x hx => h x (List.mem_of_mem_drop hx)

/-- Promise 6's cut: forwards and backwards. -/
theorem cut_forth {d : Bool} {dt : List Int} {n k : Nat} (hl : dt.length = n) (hn : n ≤ 10000) (h : dt.all (dataOk d) = true) (hk : k ≤ n) : catenate d d [(k : Int)] (dt.take k) [((n - k : Nat) : Int)] (dt.drop k) = ⟨d, [(n : Int)], dt, 0⟩ := by
  rw [vec_cat (by simp; omega) (by simp; omega) (by omega) (all_take h k) (all_drop h k), List.take_append_drop, show k + (n - k) = n by omega]

theorem cut_back {d : Bool} {dt : List Int} {n k : Nat} (hl : dt.length = n) (hn : n ≤ 10000) (h : dt.all (dataOk d) = true) (hk : k ≤ n) : catenate d d [((n - k : Nat) : Int)] (dt.take (n - k)) [(k : Int)] (dt.drop (n - k)) = ⟨d, [(n : Int)], dt, 0⟩ := by
  rw [vec_cat (by simp; omega) (by simp; omega) (by omega) (all_take h _) (all_drop h _), List.take_append_drop, show n - k + k = n by omega]

theorem ok_parts {d : Bool} {sh dt : List Int} (h : arrOk d sh dt = true) : dt.length ≤ 10000 ∧ dt.all (dataOk d) = true := by
  unfold arrOk at h
  simp only [Bool.and_eq_true, decide_eq_true_eq] at h
  have := (count_bd sh).2
  exact ⟨by omega, h.2.2⟩

end Go.Proofs.YtkgcmpmgaghdhaaGreatDoor
namespace Go.Proofs.YtkgcmpmgaghdhaaGreatDoor

/-- An element as often as an array has elements. -/
def repl (n : Nat) (v : Int) : List Int := List.replicate n v

theorem one_okC {c : Bool} {v : Int} (h : dataOk c v = true) : arrOk c [] [v] = true := by
  unfold arrOk
  simp [countOf, prodFrom, h]

theorem repl_ok {c d : Bool} {v : Int} {sh' dt' : List Int} (h : dataOk c v = true) (h2 : arrOk d sh' dt' = true) : arrOk c sh' (repl dt'.length v) = true := by
  obtain ⟨h5, hc⟩ := arr_len h2
  unfold arrOk repl
  rw [decide_eq_true h5, decide_eq_true (by rw [hc]; simp), Bool.true_and, Bool.true_and, List.all_eq_true]
  intro x hx
  rw [(List.mem_replicate.1 hx).2]
  exact h

theorem vec_ok {d : Bool} {sh' dt' : List Int} (h2 : arrOk d sh' dt' = true) (m : Nat) (hm : sh'.length = m) : arrOk false [(m : Int)] sh' = true := by
  obtain ⟨h5, hc⟩ := arr_len h2
  have hall : sh'.all inCells = true := by
    unfold countOf at hc
    split at hc
    · assumption
    · omega
  unfold arrOk
  rw [decide_eq_true (by simp), Bool.true_and]
  have h1 : countOf [(m : Int)] = (m : Int) := by
    unfold countOf
    have hi : [(m : Int)].all inCells = true := by simp [inCells]; omega
    rw [if_pos hi]
    by_cases h0 : m = 0
    · subst h0; simp [prodFrom]
    · simp only [prodFrom]
      rw [if_neg (by omega), if_neg (by omega)]
      simp [Ne.symm (show ((m : Int)) ≠ 0 by omega)]
  rw [h1, decide_eq_true (by rw [hm]), Bool.true_and, List.all_eq_true]
  intro x hx
  have := List.all_eq_true.1 hall x hx
  simp [inCells] at this
  simp [dataOk]
  omega

theorem wide_is {cs d : Bool} {v : Int} {sh' dt' : List Int} (h : dataOk cs v = true) (h2 : arrOk d sh' dt' = true) (m : Nat) (hm : sh'.length = m) : reshape false cs [(m : Int)] sh' [] [v] = ⟨cs, sh', repl dt'.length v, 0⟩ := by
  obtain ⟨h5, hc⟩ := arr_len h2
  have hall : sh'.all nonNeg = true := by
    unfold countOf at hc
    split at hc
    · rename_i ha
      rw [List.all_eq_true] at ha ⊢
      intro x hx
      have := ha x hx
      simp [inCells] at this
      simp [nonNeg]
      omega
    · omega
  have hsb : shapeB sh' = true := by unfold shapeB; rw [decide_eq_true h5, hc]; simp
  rw [reshape_go (vec_ok h2 m hm) (one_okC h) rfl hall hsb 1 dt'.length rfl hc, gather_good (code_none fun _ => rfl)]
  congr 1
  unfold vals repl
  apply List.ext_getElem
  · simp
  · intro i h1 h2
    simp [reshapeAt, Nat.mod_one]

theorem gather_cong {c : Bool} {sh : List Int} {f g : Nat → Int × Int} {n : Nat} (h : ∀ k, k < n → f k = g k) : gatherAns c sh f n = gatherAns c sh g n := by
  have h1 : ∀ m, m ≤ n → firstCode f m = firstCode g m := fun m => by
    induction m with
    | zero => intro _; rfl
    | succ m ih => intro hm; simp only [firstCode, ih (by omega), h m (by omega)]
  have h2 : vals f n = vals g n := by
    unfold vals
    apply List.map_congr_left
    intro i hi
    rw [h i (List.mem_range.1 hi)]
  unfold gatherAns
  rw [h1 n (Nat.le_refl _), h2]

theorem repl_at {N : Nat} {v : Int} {k : Nat} (hk : k < N) : (repl N v).getD k 0 = v := by
  unfold repl
  simp [List.getD, hk]

theorem elem_left {op : Int} {cs d : Bool} {v : Int} {dt' : List Int} {N k j : Nat} (hk : k < N) : elemOf op cs [v] 0 d dt' j = elemOf op cs (repl N v) k d dt' j := by
  unfold elemOf
  rw [repl_at hk]
  rfl
theorem elem_right {op : Int} {cs d : Bool} {v : Int} {dt' : List Int} {N k j : Nat} (hk : k < N) : elemOf op d dt' j cs [v] 0 = elemOf op d dt' j cs (repl N v) k := by
  unfold elemOf
  rw [repl_at hk]
  rfl

theorem ext_go {op : Int} {c d : Bool} {sh dt sh' dt' : List Int} (h1 : arrOk c sh dt = true) (h2 : arrOk d sh' dt' = true) (hop : opIn op = true) {wide tall : Bool} (hw : wideB sh.length dt.length sh'.length dt'.length = wide) (ht : (decide (dt'.length = 1) && !wide) = tall) :
    scalar2 op c d sh dt sh' dt' = if (!wide && !tall) = true ∧ sh.length ≠ sh'.length then noAns 4 else if (!wide && !tall) = true ∧ sh ≠ sh' then noAns 5 else if (c || d) = true ∧ opEq op = false then noAns 3
      else gatherAns false (if wide then sh' else sh) (fun i => elemOf op c dt (i % dt.length) d dt' (i % dt'.length)) (countOf (if wide then sh' else sh)).toNat := by
  subst hw ht
  unfold scalar2
  rw [if_pos ⟨h1, h2, hop⟩]

theorem ext_one {op : Int} {c d : Bool} {sh dt sh' dt' : List Int} {w1 t1 : Bool} (sx : List Int) (N : Nat) (hN : countOf sx = N) (h1 : arrOk c sh dt = true) (h2 : arrOk d sh' dt' = true) (hop : opIn op = true)
    (hw : wideB sh.length dt.length sh'.length dt'.length = w1) (ht : (decide (dt'.length = 1) && !w1) = t1) (e1 : (!w1 && !t1) = true → sh = sh') (s1 : (if w1 then sh' else sh) = sx) :
    scalar2 op c d sh dt sh' dt' = if (c || d) = true ∧ opEq op = false then noAns 3 else gatherAns false sx (fun i => elemOf op c dt (i % dt.length) d dt' (i % dt'.length)) N := by
  rw [ext_go h1 h2 hop hw ht, if_neg (fun h => h.2 (by rw [e1 h.1])), if_neg (fun h => h.2 (e1 h.1)), s1, hN]
  rfl

theorem ext_same {op : Int} {c d : Bool} {sh dt sh' dt' sh2 dt2 sh2' dt2' : List Int} {w1 t1 w2 t2 : Bool} {c2 d2 : Bool} (sx : List Int) (N : Nat) (hN : countOf sx = N)
    (h1 : arrOk c sh dt = true) (h2 : arrOk d sh' dt' = true) (k1 : arrOk c2 sh2 dt2 = true) (k2 : arrOk d2 sh2' dt2' = true) (hop : opIn op = true)
    (hw : wideB sh.length dt.length sh'.length dt'.length = w1) (ht : (decide (dt'.length = 1) && !w1) = t1) (kw : wideB sh2.length dt2.length sh2'.length dt2'.length = w2) (kt : (decide (dt2'.length = 1) && !w2) = t2)
    (e1 : (!w1 && !t1) = true → sh = sh') (e2 : (!w2 && !t2) = true → sh2 = sh2') (s1 : (if w1 then sh' else sh) = sx) (s2 : (if w2 then sh2' else sh2) = sx) (hcd : (c || d) = (c2 || d2))
    (he : ∀ k, k < N → elemOf op c dt (k % dt.length) d dt' (k % dt'.length) = elemOf op c2 dt2 (k % dt2.length) d2 dt2' (k % dt2'.length)) :
    scalar2 op c d sh dt sh' dt' = scalar2 op c2 d2 sh2 dt2 sh2' dt2' := by
  rw [ext_one sx N hN h1 h2 hop hw ht e1 s1, ext_one sx N hN k1 k2 hop kw kt e2 s2, hcd]
  split
  · rfl
  · exact gather_cong he

theorem ext_left {op : Int} {cs d : Bool} {v : Int} {sh' dt' : List Int} (h : dataOk cs v = true) (h2 : arrOk d sh' dt' = true) : scalar2 op cs d sh' (repl dt'.length v) sh' dt' = scalar2 op cs d [] [v] sh' dt' := by
  obtain ⟨h5, hc⟩ := arr_len h2
  have hl : (repl dt'.length v).length = dt'.length := by simp [repl]
  by_cases hop : opIn op = true
  · by_cases hN : dt'.length = 1
    · have hw1 : wideB sh'.length (repl dt'.length v).length sh'.length dt'.length = false := by simp [wideB, hl]
      by_cases hs : sh' = []
      · refine ext_same sh' dt'.length hc (repl_ok h h2) h2 (one_okC h) h2 hop (w1 := false) (t1 := true) (w2 := false) (t2 := true) hw1 (by simp [hN]) (by simp [wideB, hN, hs]) (by simp [hN]) (by simp) (by simp) rfl (by simp [hs]) rfl fun k hk => ?_
        rw [hl, hN, List.length_singleton, Nat.mod_one]
        exact (elem_left (by omega)).symm
      · have hp : 0 < sh'.length := List.length_pos_iff.mpr hs
        refine ext_same sh' dt'.length hc (repl_ok h h2) h2 (one_okC h) h2 hop (w1 := false) (t1 := true) (w2 := true) (t2 := false) hw1 (by simp [hN]) (by simp [wideB, hN]; omega) (by simp) (by simp) (by simp) rfl rfl rfl fun k hk => ?_
        rw [hl, hN, List.length_singleton, Nat.mod_one]
        exact (elem_left (by omega)).symm
    · refine ext_same sh' dt'.length hc (repl_ok h h2) h2 (one_okC h) h2 hop (w1 := false) (t1 := false) (w2 := true) (t2 := false) (by simp [wideB, hl]) (by simp [hN]) (by simp [wideB, hN]) (by simp) (by simp) (by simp) rfl rfl rfl fun k hk => ?_
      rw [hl, List.length_singleton, Nat.mod_one, Nat.mod_eq_of_lt hk]
      exact (elem_left hk).symm
  · unfold scalar2
    simp [hop]

theorem ext_right {op : Int} {cs d : Bool} {v : Int} {sh' dt' : List Int} (h : dataOk cs v = true) (h2 : arrOk d sh' dt' = true) : scalar2 op d cs sh' dt' sh' (repl dt'.length v) = scalar2 op d cs sh' dt' [] [v] := by
  obtain ⟨h5, hc⟩ := arr_len h2
  have hl : (repl dt'.length v).length = dt'.length := by simp [repl]
  by_cases hop : opIn op = true
  · have hw2 : wideB sh'.length dt'.length ([] : List Int).length [v].length = false := by simp [wideB]
    by_cases hN : dt'.length = 1
    · refine ext_same sh' dt'.length hc h2 (repl_ok h h2) h2 (one_okC h) hop (w1 := false) (t1 := true) (w2 := false) (t2 := true) (by simp [wideB, hl]) (by rw [hl]; simp [hN]) hw2 (by simp) (by simp) (by simp) rfl rfl rfl fun k hk => ?_
      rw [hl, hN, List.length_singleton, Nat.mod_one]
      exact (elem_right (by omega)).symm
    · refine ext_same sh' dt'.length hc h2 (repl_ok h h2) h2 (one_okC h) hop (w1 := false) (t1 := false) (w2 := false) (t2 := true) (by simp [wideB, hl]) (by simp [hl, hN]) hw2 (by simp) (by simp) (by simp) rfl rfl rfl fun k hk => ?_
      rw [hl, List.length_singleton, Nat.mod_one, Nat.mod_eq_of_lt hk]
      exact (elem_right hk).symm
  · unfold scalar2
    simp [hop]

end Go.Proofs.YtkgcmpmgaghdhaaGreatDoor
namespace Go.Proofs.YtkgcmpmgaghdhaaGreatDoor

theorem op_in {op : Int} (ho : opJ op) : opIn op = true := by
  rcases ho with rfl | rfl | rfl | rfl | rfl | rfl <;> rfl

theorem all_bd {X : List Int} (h : X.all (dataOk false) = true) : ∀ x ∈ X, -1000000000000000 ≤ x ∧ x ≤ 1000000000000000 := fun x hx => by
  have := List.all_eq_true.1 h x hx
  simpa [dataOk] using this

/-- Two scalars. -/
theorem two_scalars {op p q : Int} (hop : opIn op = true) (hp : dataOk false p = true) (hq : dataOk false q = true) (hc : (scalar2 op false false [] [p] [] [q]).code = 0) :
    ∃ s, twoOf op p q = (s, 0) ∧ scalar2 op false false [] [p] [] [q] = ⟨false, [], [s], 0⟩ := by
  have e : scalar2 op false false [] [p] [] [q] = gatherAns false [] (fun _ => twoOf op p q) 1 := by
    unfold scalar2
    rw [if_pos ⟨one_okC hp, one_okC hq, hop⟩]
    simp [wideB, elemOf, countOf, prodFrom]
    exact gather_cong1 fun k hk => by
      have : k = 0 := by omega
      subst this
      rfl
  rw [e] at hc
  by_cases h0 : (twoOf op p q).2 = 0
  · refine ⟨(twoOf op p q).1, Prod.ext rfl h0, ?_⟩
    rw [e, gather_good (by show (if (0 : Int) = 0 then (twoOf op p q).2 else 0) = 0; rw [h0]; rfl)]
    rfl
  · rw [gather_bad (k := 0) rfl (by omega) h0] at hc
    exact absurd hc h0

theorem foldR_in {op : Int} {zs : List Int} {n : Nat} (hn : zs.length = n) (h : arrOk false [(n : Int)] zs = true) (hop : opIn op = true) (hc : (fold op false [(n : Int)] zs false).code = 0) : ∃ v, foldR op zs = (v, 0) := by
  by_cases h0 : (foldR op zs).2 = 0
  · exact ⟨_, Prod.ext rfl h0⟩
  · exact absurd hc (fold_vec_code hn h hop h0)

theorem foldR_bd {op : Int} (ho : opJ op) : ∀ (zs : List Int), (∀ x ∈ zs, -1000000000000000 ≤ x ∧ x ≤ 1000000000000000) → -1000000000000000 ≤ (foldR op zs).1 ∧ (foldR op zs).1 ≤ 1000000000000000
  | [], _ => by
    show -1000000000000000 ≤ emptyOf op ∧ emptyOf op ≤ 1000000000000000
    rcases ho with rfl | rfl | rfl | rfl | rfl | rfl <;> decide
  | [x], h => h x (by simp)
  | x :: y :: r, _ => by
    rw [foldR_cons (by simp)]
    split
    · show -1000000000000000 ≤ (0 : Int) ∧ (0 : Int) ≤ 1000000000000000
      omega
    · exact two_bd _ _ _

theorem bd_ok {p : Int} (h : -1000000000000000 ≤ p ∧ p ≤ 1000000000000000) : dataOk false p = true := by simpa [dataOk] using h

/-- What the law speaks of. -/
theorem folded {op : Int} {X Y : List Int} {x y : Nat} (ho : opJ op) (hx : X.length = x) (hy : Y.length = y) (hn : x + y ≤ 10000) (h1 : X.all (dataOk false) = true) (h2 : Y.all (dataOk false) = true) {P Q : Ans}
    (eP : fold op false [(x : Int)] X false = P) (eQ : fold op false [(y : Int)] Y false = Q) (c1 : P.code = 0) (c2 : Q.code = 0) (c3 : (scalar2 op P.c Q.c P.sh P.dt Q.sh Q.dt).code = 0)
    (c4 : (fold op false [((x + y : Nat) : Int)] (X ++ Y) false).code = 0) :
    ∃ p q v, P = ⟨false, [], [p], 0⟩ ∧ Q = ⟨false, [], [q], 0⟩ ∧ scalar2 op false false [] [p] [] [q] = ⟨false, [], [v], 0⟩ ∧ fold op false [((x + y : Nat) : Int)] (X ++ Y) false = ⟨false, [], [v], 0⟩ ∧
      ∀ m : Nat, m + 1 = x + y → (scan op false [((x + y : Nat) : Int)] (X ++ Y) false).code = 0 → ∃ zs, scan op false [((x + y : Nat) : Int)] (X ++ Y) false = ⟨false, [((x + y : Nat) : Int)], zs, 0⟩ ∧ zs.length = x + y ∧ zs.getD m 0 = v := by
  have hop := op_in ho
  have o1 := ok_vec (d := false) hx (by omega) h1
  have o2 := ok_vec (d := false) hy (by omega) h2
  have h12 : (X ++ Y).all (dataOk false) = true := by rw [List.all_append, h1, h2]; rfl
  have hl : (X ++ Y).length = x + y := by simp [hx, hy]
  have o3 := ok_vec (d := false) hl hn h12
  subst eP eQ
  obtain ⟨p, hp⟩ := foldR_in hx o1 hop c1
  obtain ⟨q, hq⟩ := foldR_in hy o2 hop c2
  obtain ⟨v, hv⟩ := foldR_in hl o3 hop c4
  have e1 := fold_vec_ok hx o1 hop hp
  have e2 := fold_vec_ok hy o2 hop hq
  have e3 := fold_vec_ok hl o3 hop hv
  rw [e1, e2] at c3
  have bp : -1000000000000000 ≤ p ∧ p ≤ 1000000000000000 := by have := foldR_bd ho X (all_bd h1); rw [hp] at this; exact this
  have bq : -1000000000000000 ≤ q ∧ q ≤ 1000000000000000 := by have := foldR_bd ho Y (all_bd h2); rw [hq] at this; exact this
  obtain ⟨s, hs, es⟩ := two_scalars hop (bd_ok bp) (bd_ok bq) c3
  have hsv : s = v := fold_join ho (all_bd h1) (all_bd h2) hp hq hs hv
  subst hsv
  refine ⟨p, q, s, e1, e2, es, e3, fun m hm hc => ?_⟩
  have esc := scan_vec hl o3 hop
  have hfc : firstCode (fun k => foldR op ((X ++ Y).take (k + 1))) (x + y) = 0 := by
    rw [esc] at hc
    unfold gatherAns at hc
    split at hc
    · assumption
    · exact hc
  refine ⟨_, by rw [esc, gather_good hfc], vals_len _ _, ?_⟩
  unfold vals
  have hm' : m < x + y := by omega
  simp only [List.getD_eq_getElem?_getD, List.getElem?_map, List.getElem?_range hm', Option.map_some, Option.getD_some]
  rw [List.take_of_length_le (by omega), hv]

end Go.Proofs.YtkgcmpmgaghdhaaGreatDoor
namespace Go.Proofs.YtkgcmpmgaghdhaaGreatDoor
open Go.RowKit

/-- The slice (a, n, _) reads as the numbers zs. -/
structure Row (w : World) (a : Option Addr) (n : Nat) (zs : List Int) : Prop where
  len : zs.length = n
  small : n ≤ 17592186044416
  at_ : n = 0 ∨ ∃ b off, a = some ⟨b, off, none⟩ ∧ b < w.heap.size ∧ ∀ i, i < n → w.cell? ⟨b, off + i, none⟩ = some (.int .i64 (zs.getD i 0))

theorem Row.below {w w' : World} {a : Option Addr} {n : Nat} {zs : List Int} {B : Nat} (h : Row w a n zs) (hB : w.heap.size ≤ B) (hb : Below B w w') : Row w' a n zs := by
  refine ⟨h.len, h.small, ?_⟩
  rcases h.at_ with h0 | ⟨b, off, rfl, hlt, hc⟩
  · exact .inl h0
  · exact .inr ⟨b, off, rfl, Nat.lt_of_lt_of_le hlt hb.size, fun i hi => (hb.cell (p := ⟨b, off + i, none⟩) (Nat.lt_of_lt_of_le hlt hB)).trans (hc i hi)⟩

/-- Block g holds just the numbers zs. -/
def Blk (w : World) (g : Nat) (zs : List Int) : Prop := w.heap[g]? = some (.cells (zs.map (Value.int .i64)).toArray 3 (0, 0))

theorem Blk.lt {w : World} {g : Nat} {zs : List Int} (h : Blk w g zs) : g < w.heap.size := lt_of_block h

theorem Blk.cell {w : World} {g : Nat} {zs : List Int} (h : Blk w g zs) {i : Nat} (hi : i < zs.length) : w.cell? ⟨g, i, none⟩ = some (.int .i64 (zs.getD i 0)) := by
  unfold Blk at h
  simp [World.cell?, h, hi]

theorem Blk.free {w : World} {g : Nat} {zs : List Int} (h : Blk w g zs) (i : Nat) : w.frozen? ⟨g, i, none⟩ = false := frozen_of_row w g i _ _ h

theorem Blk.row {w : World} {g n : Nat} {zs : List Int} (h : Blk w g zs) (hn : zs.length = n) (hs : n ≤ 17592186044416) : Row w (some ⟨g, 0, none⟩) n zs :=
  ⟨hn, hs, .inr ⟨g, 0, rfl, h.lt, fun i hi => by simpa using h.cell (i := i) (by omega)⟩⟩

theorem Blk.below {w w' : World} {g : Nat} {zs : List Int} {B : Nat} (h : Blk w g zs) (hB : w.heap.size ≤ B) (hb : Below B w w') : Blk w' g zs := (hb.block g (Nat.lt_of_lt_of_le h.lt hB)).trans h

theorem Blk.set {w : World} {g : Nat} {zs : List Int} (h : Blk w g zs) (i : Nat) (x : Int) : Blk (w.setCell ⟨g, i, none⟩ (.int .i64 x)) g (zs.set i x) := by
  unfold Blk at h ⊢
  rw [heap_setCell_same w g i _ _ _ h]
  simp [List.map_set]

theorem Blk.of_owns {w : World} {base g n : Nat} {zs : List Int} (h : w.ownsRow base 3 1 (.slice (some ⟨g, 0, none⟩) n n) n (zs.map (Value.int .i64))) : Blk w g zs := by
  rcases h.2 with ⟨h', _⟩ | ⟨g', cap', cur, h', _, hg, _, _, hs, ht⟩
  · simp at h'
  · simp only [Value.slice.injEq, Option.some.injEq, Addr.mk.injEq, and_true, true_and] at h'
    obtain ⟨rfl, rfl⟩ := h'
    unfold Blk
    rw [hg, ← ht, List.take_of_length_le (by simp; omega)]

theorem Blk.other {w : World} {g : Nat} {zs : List Int} (h : Blk w g zs) {p : Addr} (hp : g ≠ p.block) (v : Value) : Blk (w.setCell p v) g zs := (heap_setCell_other w p g v hp).trans h
theorem Blk.drew {w : World} {g : Nat} {zs : List Int} (h : Blk w g zs) : Blk w.drew g zs := h
theorem Blk.alloc {w : World} {g : Nat} {zs : List Int} (h : Blk w g zs) (o : Obj) : Blk (w.alloc o) g zs := (Below.heap_alloc w o g h.lt).trans h

theorem bcell {W w1 : World} (hb : Below W.heap.size W w1) : (∀ b o, b < W.heap.size → w1.cell? ⟨b, o, none⟩ = W.cell? ⟨b, o, none⟩) ∧ (∀ b o, b < W.heap.size → w1.frozen? ⟨b, o, none⟩ = W.frozen? ⟨b, o, none⟩) :=
  ⟨fun b o h => hb.cell (p := ⟨b, o, none⟩) h, fun b o h => hb.frozen (p := ⟨b, o, none⟩) h⟩

theorem hide {p : Prop} (h : p) : Hid p := h
theorem unhide {p : Prop} (h : Hid p) : p := h
theorem ret_bool {a b : Bool} (h : a = b) : Ending.returned (.bool a) = .returned (.bool b) := by rw [h]
theorem ret_int {k : IntKind} {a b : Int} (h : a = b) : Ending.returned (.int k a) = .returned (.int k b) := by rw [h]
theorem ret_ib {a a' : Int} {b b' : Bool} (ha : a = a') (hb : b = b') : Ending.returned (.tuple #[.int .i64 a, .bool b]) = .returned (.tuple #[.int .i64 a', .bool b']) := by rw [ha, hb]
theorem ret_two {a b a' b' : Int} (ha : a = a') (hb : b = b') : Ending.returned (.tuple #[.int .i64 a, .int .i64 b]) = .returned (.tuple #[.int .i64 a', .int .i64 b']) := by rw [ha, hb]

end Go.Proofs.YtkgcmpmgaghdhaaGreatDoor
namespace Go.Proofs.YtkgcmpmgaghdhaaGreatDoor
open Go.RowKit

theorem info_int : (Tryz.prog.info? 3).map (fun i => (i.zero, i.size, i.bytes)) = some (some (.int .i64 0), 1, 8) := by kernel_rfl

theorem take_set (zs : List Int) (m k : Nat) (h : k < zs.length) : (zs.take k ++ List.replicate (m + 1) (0 : Int)).set k (zs.getD k 0) = zs.take (k + 1) ++ List.replicate m 0 := by
  have hk : (zs.take k).length = k := by simp; omega
  have hx : zs.getD k 0 = zs[k] := by simp [h]
  rw [List.replicate_succ, List.set_append_right _ _ (by omega), hk, Nat.sub_self, List.set_cons_zero, hx, List.take_succ_eq_append_getElem h, List.append_assoc]
  rfl

end Go.Proofs.YtkgcmpmgaghdhaaGreatDoor
namespace Go.Proofs.YtkgcmpmgaghdhaaGreatDoor
open Go.RowKit

/-- The slice (a, n, _) reads as the numbers zs, lies in a block from B on, and may be written. -/
structure Own (w : World) (B : Nat) (a : Option Addr) (n : Nat) (zs : List Int) : Prop where
  len : zs.length = n
  small : n ≤ 17592186044416
  at_ : n = 0 ∨ ∃ g off, a = some ⟨g, off, none⟩ ∧ B ≤ g ∧ g < w.heap.size ∧ (∀ i, i < n → w.cell? ⟨g, off + i, none⟩ = some (.int .i64 (zs.getD i 0))) ∧ (∀ i, i < n → w.frozen? ⟨g, off + i, none⟩ = false)

theorem Own.row {w : World} {B : Nat} {a : Option Addr} {n : Nat} {zs : List Int} (h : Own w B a n zs) : Row w a n zs := by
  refine ⟨h.len, h.small, ?_⟩
  rcases h.at_ with h0 | ⟨g, off, rfl, _, hlt, hc, _⟩
  · exact .inl h0
  · exact .inr ⟨g, off, rfl, hlt, hc⟩

theorem Own.mono {w : World} {B B' : Nat} {a : Option Addr} {n : Nat} {zs : List Int} (h : Own w B a n zs) (hB : B' ≤ B) : Own w B' a n zs := by
  refine ⟨h.len, h.small, ?_⟩
  rcases h.at_ with h0 | ⟨g, off, rfl, hg, r⟩
  · exact .inl h0
  · exact .inr ⟨g, off, rfl, by omega, r⟩

theorem Own.below {w w' : World} {a : Option Addr} {n : Nat} {zs : List Int} {B C : Nat} (h : Own w C a n zs) (hB : w.heap.size ≤ B) (hb : Below B w w') : Own w' C a n zs := by
  refine ⟨h.len, h.small, ?_⟩
  rcases h.at_ with h0 | ⟨g, off, rfl, hg, hlt, hc, hf⟩
  · exact .inl h0
  · exact .inr ⟨g, off, rfl, hg, Nat.lt_of_lt_of_le hlt hb.size, fun i hi => (hb.cell (p := ⟨g, off + i, none⟩) (Nat.lt_of_lt_of_le hlt hB)).trans (hc i hi), fun i hi => (hb.frozen (p := ⟨g, off + i, none⟩) (Nat.lt_of_lt_of_le hlt hB)).trans (hf i hi)⟩

theorem Blk.own {w : World} {B g n : Nat} {zs : List Int} (h : Blk w g zs) (hn : zs.length = n) (hs : n ≤ 17592186044416) (hg : B ≤ g) : Own w B (some ⟨g, 0, none⟩) n zs :=
  ⟨hn, hs, .inr ⟨g, 0, rfl, hg, h.lt, fun i hi => by simpa using h.cell (i := i) (by omega), fun i hi => h.free _⟩⟩

/-- Block k holds cells of the slice (a, n, _). -/
def At (a : Option Addr) (n k : Nat) : Prop := n ≠ 0 ∧ ∃ p, a = some p ∧ p.block = k

theorem at_self {g off n : Nat} (h : n ≠ 0) : At (some ⟨g, off, none⟩) n g := ⟨h, _, rfl, rfl⟩
theorem at_eq {g off n k : Nat} (h : At (some ⟨g, off, none⟩) n k) : g = k := by obtain ⟨_, p, hp, hk⟩ := h; cases hp; exact hk

/-- w' is w but for the blocks in S, and for new ones. -/
structure But (S : Nat → Prop) (w w' : World) : Prop where
  os : w'.os = w.os
  tape : w'.tape = w.tape
  output : w'.output = w.output
  size : w.heap.size ≤ w'.heap.size
  block : ∀ k, k < w.heap.size → ¬ S k → w'.heap[k]? = w.heap[k]?

theorem But.refl (S : Nat → Prop) (w : World) : But S w w := ⟨rfl, rfl, rfl, Nat.le_refl _, fun _ _ _ => rfl⟩

theorem But.trans {S T : Nat → Prop} {w w1 w2 : World} (h : But S w w1) (k : But T w1 w2) : But (fun x => S x ∨ T x) w w2 :=
  ⟨k.os.trans h.os, k.tape.trans h.tape, k.output.trans h.output, Nat.le_trans h.size k.size, fun i hi hn => (k.block i (Nat.lt_of_lt_of_le hi h.size) (fun e => hn (.inr e))).trans (h.block i hi (fun e => hn (.inl e)))⟩

theorem But.mono {S T : Nat → Prop} {w w1 : World} (h : But S w w1) (hs : ∀ k, S k → T k) : But T w w1 := ⟨h.os, h.tape, h.output, h.size, fun k hk hn => h.block k hk (fun e => hn (hs k e))⟩

theorem But.of_below {S : Nat → Prop} {w w' : World} (h : Below w.heap.size w w') : But S w w' := ⟨h.os, h.tape, h.output, h.size, fun k hk _ => h.block k hk⟩

theorem But.setCell {S : Nat → Prop} {w w' : World} (h : But S w w') {p : Addr} (hp : S p.block) (v : Value) : But S w (w'.setCell p v) :=
  ⟨h.os, h.tape, h.output, by simpa using h.size, fun k hk hn => by
    rw [heap_setCell_other w' p k v (fun e => hn (by rw [e]; exact hp))]
    exact h.block k hk hn⟩

theorem But.alloc {S : Nat → Prop} {w w' : World} (h : But S w w') (o : Obj) : But S w (w'.alloc o) :=
  ⟨h.os, h.tape, h.output, by have := h.size; simp; omega, fun k hk hn => (Below.heap_alloc w' o k (Nat.lt_of_lt_of_le hk h.size)).trans (h.block k hk hn)⟩

theorem But.below {S : Nat → Prop} {B : Nat} {w w' : World} (h : But S w w') (hB : B ≤ w.heap.size) (hs : ∀ k, S k → B ≤ k) : Below B w w' :=
  ⟨h.os, h.tape, h.output, h.size, fun k hk => h.block k (Nat.lt_of_lt_of_le hk hB) (fun e => by have := hs k e; omega)⟩

/-- Two slices with cells lie in different blocks. -/
def Apart (a : Option Addr) (n : Nat) (b : Option Addr) (m : Nat) : Prop := ∀ k, At a n k → ¬ At b m k

theorem Apart.symm {a b : Option Addr} {n m : Nat} (h : Apart a n b m) : Apart b m a n := fun k h1 h2 => h k h2 h1

theorem But.own {S : Nat → Prop} {b : Option Addr} {m B : Nat} {w w' : World} {ys : List Int} (h : But S w w') (ho : Own w B b m ys) (hap : ∀ k, S k → ¬ At b m k) : Own w' B b m ys := by
  refine ⟨ho.len, ho.small, ?_⟩
  rcases ho.at_ with h0 | ⟨g, off, rfl, hg, hlt, hc, hf⟩
  · exact .inl h0
  · by_cases hm : m = 0
    · exact .inl hm
    have hb := h.block g hlt (fun e => hap g e ⟨hm, _, rfl, rfl⟩)
    exact .inr ⟨g, off, rfl, hg, Nat.lt_of_lt_of_le hlt h.size, fun i hi => (World.cell?_of_block (w := w) (a := ⟨g, off + i, none⟩) hb).trans (hc i hi), fun i hi => (World.frozen?_of_block (w := w) (a := ⟨g, off + i, none⟩) hb).trans (hf i hi)⟩

theorem But.row {S : Nat → Prop} {b : Option Addr} {m : Nat} {w w' : World} {ys : List Int} (h : But S w w') (ho : Row w b m ys) (hap : ∀ k, S k → ¬ At b m k) : Row w' b m ys := by
  refine ⟨ho.len, ho.small, ?_⟩
  rcases ho.at_ with h0 | ⟨g, off, rfl, hlt, hc⟩
  · exact .inl h0
  · by_cases hm : m = 0
    · exact .inl hm
    have hb := h.block g hlt (fun e => hap g e ⟨hm, _, rfl, rfl⟩)
    exact .inr ⟨g, off, rfl, Nat.lt_of_lt_of_le hlt h.size, fun i hi => (World.cell?_of_block (w := w) (a := ⟨g, off + i, none⟩) hb).trans (hc i hi)⟩

theorem Own.low {w : World} {B : Nat} {a : Option Addr} {n : Nat} {zs : List Int} (h : Own w B a n zs) {k : Nat} (hk : At a n k) : B ≤ k := by
  rcases h.at_ with h0 | ⟨g, off, rfl, hg, _⟩
  · exact absurd h0 hk.1
  · have := at_eq hk; omega

theorem Row.hi {w : World} {a : Option Addr} {n : Nat} {zs : List Int} (h : Row w a n zs) {k : Nat} (hk : At a n k) : k < w.heap.size := by
  rcases h.at_ with h0 | ⟨g, off, rfl, hg, _⟩
  · exact absurd h0 hk.1
  · have := at_eq hk; omega

/-- n marks from k on. -/
def marks (k : Int) (n : Nat) : List Int := (List.range n).map fun (i : Nat) => k + (i : Int)

theorem marks_len (k : Int) (n : Nat) : (marks k n).length = n := by simp [marks]
theorem marks_get (k : Int) (n i : Nat) (h : i < n) : (marks k n).getD i 0 = k + i := by simp [marks, h]

end Go.Proofs.YtkgcmpmgaghdhaaGreatDoor
namespace Go.Proofs.YtkgcmpmgaghdhaaGreatDoor
open Go.RowKit

set_option maxHeartbeats 400000 in
theorem markIntS_any (a : Option Addr) (n cap B : Nat) (zs : List Int) (k : Int) (w : World) (h : Own w B a n zs) (hk0 : 0 ≤ k) (hk : k ≤ 4611686018427387904) :
    Calls Tryz.prog 99 #[.slice a n cap, .int .i64 k] w fun e w' => e = .returned (.int .i64 (k + n)) ∧ Own w' B a n (marks k n) ∧ But (At a n) w w' := by
  obtain ⟨hlen, hsm, hat⟩ := h
  go_enter Tryz.func99, Tryz.ntmps99
  go_wp2
  go_loopw [1, 5] (fun c i wr => ∃ j : Nat, j ≤ n ∧ i = .int .i64 j ∧ c = .int .i64 (k + j) ∧ But (At a n) w wr ∧
    (n = 0 ∨ ∃ g off, a = some ⟨g, off, none⟩ ∧ B ≤ g ∧ g < wr.heap.size ∧ (∀ i, i < j → wr.cell? ⟨g, off + i, none⟩ = some (.int .i64 (k + i))) ∧ (∀ i, i < n → (wr.cell? ⟨g, off + i, none⟩).isSome = true) ∧ (∀ i, i < n → wr.frozen? ⟨g, off + i, none⟩ = false))) (fun _ i _ => n - (intOf i).toNat)
  case atStart =>
    refine ⟨0, Nat.zero_le _, rfl, by simp, But.refl _ _, ?_⟩
    rcases hat with h0 | ⟨g, off, rfl, hg, hlt, hc, hf⟩
    · exact .inl h0
    · exact .inr ⟨g, off, rfl, hg, hlt, fun i hi => absurd hi (Nat.not_lt_zero _), fun i hi => by rw [hc i hi]; rfl, hf⟩
  case round =>
    obtain ⟨j, hj, rfl, rfl, hbut, hst⟩ := hrel
    by_cases hlt : j < n
    · rcases hst with h0 | ⟨g, off, rfl, hg, hgl, hc, hs, hf⟩
      · omega
      · clear hat
        have hs1 := hs j hlt
        have hf1 := hf j hlt
        obtain ⟨u, hu⟩ := Option.isSome_iff_exists.mp hs1
        have HB := hide hbut
        have HS := hide hs
        have HF := hide hf
        have HC := hide hc
        clear hbut hs hf hc
        go_wp2
        go_roundw
        case rel =>
          refine ⟨j + 1, by omega, by go_num, by go_num, (unhide HB).setCell (at_self (by omega)) _, .inr ⟨g, off, rfl, hg, by simpa using hgl, fun i hi => ?_, fun i hi => ?_, fun i hi => ?_⟩⟩
          · by_cases hij : i = j
            · subst hij
              exact World.cell?_setCell_same _ _ _ hu
            · rw [World.cell?_setCell_other _ _ _ _ (by simp <;> omega)]
              exact unhide HC i (by omega)
          · by_cases hij : i = j
            · subst hij
              rw [World.cell?_setCell_same _ _ _ hu]; rfl
            · rw [World.cell?_setCell_other _ _ _ _ (by simp <;> omega)]
              exact unhide HS i hi
          · simpa using unhide HF i hi
        case measure => simp [intOf]; omega
    · have hjn : j = n := by omega
      subst hjn
      have HB := hide hbut
      have HT := hide hst
      clear hbut hst hat
      go_wp2
      go_ret
      refine ⟨rfl, ⟨marks_len _ _, hsm, ?_⟩, unhide HB⟩
      rcases unhide HT with h0 | ⟨g, off, rfl, hg, hgl, hc, hs, hf⟩
      · exact .inl h0
      · exact .inr ⟨g, off, rfl, hg, hgl, fun i hi => by rw [marks_get _ _ _ hi]; exact hc i hi, hf⟩

end Go.Proofs.YtkgcmpmgaghdhaaGreatDoor
namespace Go.Proofs.YtkgcmpmgaghdhaaGreatDoor
open Go.RowKit

set_option maxHeartbeats 400000 in
theorem heldIntS_marks (a : Option Addr) (n cap : Nat) (k : Int) (w : World) (h : Row w a n (marks k n)) (hk0 : 0 ≤ k) (hk : k ≤ 4611686018427387904) :
    Calls Tryz.prog 100 #[.slice a n cap, .int .i64 k] w fun e w' => e = .returned (.int .i64 (k + n)) ∧ w' = w := by
  obtain ⟨hlen, hsm, hat⟩ := h
  clear hlen
  go_enter Tryz.func100, Tryz.ntmps100
  go_wp2
  go_loop [1, 5] (fun c i => ∃ j : Nat, j ≤ n ∧ i = .int .i64 j ∧ c = .int .i64 (k + j)) (fun _ i => n - (intOf i).toNat)
  case atStart => exact ⟨0, Nat.zero_le _, rfl, by simp⟩
  case round =>
    obtain ⟨j, hj, rfl, rfl⟩ := hrel
    by_cases hlt : j < n
    · have ha : ∃ b off, a = some ⟨b, off, none⟩ ∧ w.cell? ⟨b, off + j, none⟩ = some (.int .i64 (k + j)) := by
        rcases hat with h0 | ⟨b, off, rfl, hlt', hc⟩
        · omega
        · exact ⟨b, off, rfl, by rw [← marks_get k n j hlt]; exact hc j hlt⟩
      obtain ⟨b, off, rfl, hc⟩ := ha
      clear hat
      go_wp2
      go_round
      case rel => exact ⟨j + 1, by omega, by go_num, by go_num⟩
      case measure => simp [intOf]; omega
    · have hjn : j = n := by omega
      subst hjn
      clear hat
      go_wp2
      go_ret
      exact ⟨rfl, rfl⟩

end Go.Proofs.YtkgcmpmgaghdhaaGreatDoor
namespace Go.Proofs.YtkgcmpmgaghdhaaGreatDoor
open Go.RowKit

theorem szIntS_big (a : Option Addr) (n cap : Nat) (left : Int) (w : World) (hn : n ≤ 9223372036854775807) (hl : 0 ≤ left) (hl2 : left ≤ 1048576) (h : left < n) :
    Calls Tryz.prog 85 #[.slice a n cap, .int .i64 left] w fun e w' => e = .returned (.int .i64 (-1)) ∧ w' = w := by
  go_enter Tryz.func85, Tryz.ntmps85
  go_wp2
  go_ret
  exact ⟨rfl, rfl⟩

theorem szIntS_ok (a : Option Addr) (n cap : Nat) (left : Int) (w : World) (hl2 : left ≤ 1048576) (h : n ≤ left) :
    Calls Tryz.prog 85 #[.slice a n cap, .int .i64 left] w fun e w' => e = .returned (.int .i64 (left - n)) ∧ w' = w := by
  go_enter Tryz.func85, Tryz.ntmps85
  go_wp2
  go_ret
  exact ⟨rfl, rfl⟩

set_option maxHeartbeats 400000 in
theorem toIntS_any (a : Option Addr) (n cap : Nat) (zs : List Int) (w : World) (h : Row w a n zs) :
    Calls Tryz.prog 92 #[.slice a n cap] w fun e w' => ∃ g, e = .returned (.slice (some ⟨g, 0, none⟩) n n) ∧ w.heap.size ≤ g ∧ Blk w' g zs ∧ Below w.heap.size w w' := by
  obtain ⟨hlen, hsm, hat⟩ := h
  obtain ⟨i0, hi, hz0, hz1, hz2⟩ := info_parts info_int
  go_enter Tryz.func92, Tryz.ntmps92
  go_wp2_with (at_make; refine wpList_make_full _ rfl _ _ 23 rfl w.heap.size 3 i0 (.int .i64 0) 1 Tryz.underlying23 hi hz0 hz1 _ _ _ _ n rfl rfl rfl rfl (by rw [hz2]; omega) (by unfold maxLen; omega) (Nat.le_refl _) ?_; intro w1 hown hgrow)
  have hblk : Blk w1 w.heap.size (zs.take 0 ++ List.replicate (n - 0) 0) := Blk.of_owns (n := n) (base := w.heap.size) (by simpa [toList_madeCells_one, Value.cells] using hown)
  have hbel : Below w.heap.size w w1 := (Below.refl _ _).grown hgrow (Nat.le_refl _) (by simp)
  clear hown hgrow hi hz0 hz1 hz2
  go_wp2
  go_loopw [4] (fun i wr => ∃ k : Nat, k ≤ n ∧ i = .int .i64 k ∧ Blk wr w.heap.size (zs.take k ++ List.replicate (n - k) 0) ∧ Below w.heap.size w wr) (fun i _ => n - (intOf i).toNat)
  case atStart => exact ⟨0, Nat.zero_le _, rfl, hblk, hbel⟩
  case round =>
    obtain ⟨k, hk, rfl, hb, hbl⟩ := hrel
    clear hblk hbel
    by_cases hlt : k < n
    · have hat' : ∃ b off, a = some ⟨b, off, none⟩ ∧ wr.cell? ⟨b, off + k, none⟩ = some (.int .i64 (zs.getD k 0)) := by
        rcases hat with h0 | ⟨b, off, rfl, hlt', hc⟩
        · omega
        · exact ⟨b, off, rfl, (hbl.cell (p := ⟨b, off + k, none⟩) hlt').trans (hc k hlt)⟩
      obtain ⟨b, off, rfl, hc⟩ := hat'
      clear hat
      obtain ⟨x, hx⟩ : ∃ x, x = zs.getD k 0 := ⟨_, rfl⟩
      rw [← hx] at hc
      have hc2 := hb.cell (i := k) (by simp; omega)
      have hf2 := hb.free k
      have hs := hb.set k x
      have HR : Hid (Blk (wr.setCell ⟨w.heap.size, k, none⟩ (.int .i64 x)) w.heap.size (zs.take (k + 1) ++ List.replicate (n - (k + 1)) 0)) := by
        have e : n - k = n - (k + 1) + 1 := by omega
        rw [e, hx, take_set zs _ k (by omega)] at hs
        rw [hx]
        exact hs
      clear hs hb hx
      go_wp2
      go_roundw
      case rel => exact ⟨k + 1, by omega, by go_num, HR.out, hbl.setCell (Nat.le_refl _) _⟩
      case measure => simp [intOf]; omega
    · have hkn : k = n := by omega
      subst hkn
      go_wp2
      go_ret
      exact ⟨_, rfl, Nat.le_refl _, by simpa [List.take_of_length_le (Nat.le_of_eq hlen)] using hb, hbl⟩

theorem take_step {xs ys : List Int} {n k : Nat} (hx : xs.length = n) (hy : ys.length = n) (hk : k < n) (h : xs.take k = ys.take k) (he : xs.getD k 0 = ys.getD k 0) : xs.take (k + 1) = ys.take (k + 1) := by
  have e1 : xs.getD k 0 = xs[k] := by simp [hx, hk]
  have e2 : ys.getD k 0 = ys[k] := by simp [hy, hk]
  rw [List.take_succ_eq_append_getElem (by omega), List.take_succ_eq_append_getElem (by omega), h, ← e1, ← e2, he]

set_option maxHeartbeats 400000 in
theorem eqIntS_any (a b : Option Addr) (n m ca cb : Nat) (xs ys : List Int) (w : World) (hx : Row w a n xs) (hy : Row w b m ys) :
    Calls Tryz.prog 21 #[.slice a n ca, .slice b m cb] w fun e w' => e = .returned (.bool (decide (xs = ys))) ∧ ∃ q, w' = w.drewN q := by
  obtain ⟨hxl, hxs, hxa⟩ := hx
  obtain ⟨hyl, hys, hya⟩ := hy
  by_cases hne : n = m
  · subst hne
    have hn : ((n : Int) != (n : Int)) = false := by simp
    go_enter Tryz.func21, Tryz.ntmps21
    go_wp2
    go_loopw [5] (fun i wr => ∃ k : Nat, k ≤ n ∧ i = .int .i64 k ∧ xs.take k = ys.take k ∧ ∃ q, wr = w.drewN q) (fun i _ => n - (intOf i).toNat)
    case atStart => exact ⟨0, Nat.zero_le _, rfl, rfl, 0, rfl⟩
    case round =>
      obtain ⟨k, hk, rfl, htk, q, rfl⟩ := hrel
      by_cases hlt : k < n
      · have ha : ∃ b off, a = some ⟨b, off, none⟩ ∧ w.cell? ⟨b, off + k, none⟩ = some (.int .i64 (xs.getD k 0)) := by
          rcases hxa with h0 | ⟨b, off, rfl, hlt', hc⟩
          · omega
          · exact ⟨b, off, rfl, hc k hlt⟩
        have hb : ∃ b' off, b = some ⟨b', off, none⟩ ∧ w.cell? ⟨b', off + k, none⟩ = some (.int .i64 (ys.getD k 0)) := by
          rcases hya with h0 | ⟨b, off, rfl, hlt', hc⟩
          · omega
          · exact ⟨b, off, rfl, hc k hlt⟩
        obtain ⟨b1, o1, rfl, hc1⟩ := ha
        obtain ⟨b2, o2, rfl, hc2⟩ := hb
        clear hxa hya
        obtain ⟨x, hx⟩ : ∃ x, x = xs.getD k 0 := ⟨_, rfl⟩
        obtain ⟨y, hy⟩ : ∃ y, y = ys.getD k 0 := ⟨_, rfl⟩
        rw [← hx] at hc1
        rw [← hy] at hc2
        have HX : Hid (x = xs.getD k 0) := hx
        have HY : Hid (y = ys.getD k 0) := hy
        have HT : Hid (xs.take k = ys.take k) := htk
        have HL : Hid (xs.length = n ∧ ys.length = n) := ⟨hxl, hyl⟩
        clear hx hy htk hxl hyl
        by_cases hxy : x = y
        · have hb : (x != y) = false := by simp [hxy]
          have HXY : Hid (x = y) := hxy
          clear hxy
          go_wp2
          go_quiet (fail)
          go_wp2
          go_roundw
          case rel => exact ⟨k + 1, by omega, by go_num, take_step HL.out.1 HL.out.2 hlt HT.out (HX.out.symm.trans (HXY.out.trans HY.out)), _, by first | rfl | exact World.drewN_drewN _ _ _⟩
          case measure => simp [intOf]; omega
        · have hb : (x != y) = true := by simp [hxy]
          have HN : Hid (¬ xs = ys) := fun e => hxy (by rw [HX.out, HY.out, e])
          clear hxy
          go_wp2
          go_quiet (fail)
          go_wp2
          go_ret
          exact ⟨ret_bool (decide_eq_false HN.out).symm, _, World.drewN_drewN _ _ _⟩
      · have hkn : k = n := by omega
        have HE : Hid (xs = ys) := by
          show xs = ys
          rwa [List.take_of_length_le (by omega), List.take_of_length_le (by omega)] at htk
        clear htk
        subst hkn
        go_wp2
        go_ret
        exact ⟨ret_bool (decide_eq_true HE.out).symm, _, rfl⟩
  · have hn : ((n : Int) != (m : Int)) = true := by simp; omega
    have HN : Hid (¬ xs = ys) := fun e => hne (by rw [← hxl, ← hyl, e])
    clear hne
    go_enter Tryz.func21, Tryz.ntmps21
    go_wp2
    go_ret
    exact ⟨ret_bool (decide_eq_false HN.out).symm, 0, rfl⟩

end Go.Proofs.YtkgcmpmgaghdhaaGreatDoor
namespace Go.Proofs.YtkgcmpmgaghdhaaGreatDoor
open Go.RowKit

theorem Row.alloc {w : World} {a : Option Addr} {n : Nat} {zs : List Int} (h : Row w a n zs) (o : Obj) : Row (w.alloc o) a n zs := h.below (Nat.le_refl _) ((Below.refl _ _).alloc (Nat.le_refl _) _)
theorem Row.drewN {w : World} {a : Option Addr} {n : Nat} {zs : List Int} (h : Row w a n zs) (q : Nat) : Row (w.drewN q) a n zs := ⟨h.len, h.small, h.at_⟩
theorem Below.drewN {B : Nat} {a w : World} (h : Below B a w) (q : Nat) : Below B a (w.drewN q) := h.trans ⟨rfl, rfl, rfl, Nat.le_refl _, fun _ _ => rfl⟩

theorem Row.get {w : World} {a : Option Addr} {n : Nat} {zs : List Int} (h : Row w a n zs) {k : Nat} (hk : k < n) : ∃ b off, a = some ⟨b, off, none⟩ ∧ b < w.heap.size ∧ w.cell? ⟨b, off + k, none⟩ = some (.int .i64 (zs.getD k 0)) := by
  rcases h.at_ with h0 | ⟨b, off, rfl, hlt, hc⟩
  · omega
  · exact ⟨b, off, rfl, hlt, hc k hk⟩

end Go.Proofs.YtkgcmpmgaghdhaaGreatDoor

namespace Go.Proofs.YtkgcmpmgaghdhaaGreatDoor
open Go.RowKit

theorem Own.alloc {w : World} {B : Nat} {a : Option Addr} {n : Nat} {zs : List Int} (h : Own w B a n zs) (o : Obj) : Own (w.alloc o) B a n zs := h.below (Nat.le_refl _) ((Below.refl _ _).alloc (Nat.le_refl _) _)

end Go.Proofs.YtkgcmpmgaghdhaaGreatDoor
namespace Go.Proofs.YtkgcmpmgaghdhaaGreatDoor
open Go.RowKit

set_option maxHeartbeats 1000000 in
theorem l3Count_any (a : Option Addr) (n cap : Nat) (sh : List Int) (w : World) (h : Row w a n sh) : Calls Tryz.prog 41 #[.slice a n cap] w fun e w' => e = .returned (.int .i64 (countOf sh)) ∧ w' = w := by
  have hlen := hide h.len
  have hsm := h.small
  have H := hide h
  clear h
  go_enter Tryz.func41, Tryz.ntmps41
  go_wp2
  go_loop [4] (fun i => ∃ k : Nat, k ≤ n ∧ i = .int .i64 k ∧ Hid ((sh.take k).all inCells = true)) (fun i => n - (intOf i).toNat)
  case atStart => exact ⟨0, Nat.zero_le _, rfl, rfl⟩
  case round =>
    obtain ⟨k, hk, rfl, hall⟩ := hrel
    by_cases hlt : k < n
    · obtain ⟨b, off, rfl, hblt, hc⟩ := (unhide H).get hlt
      have hks : Hid (k < sh.length) := by show k < sh.length; rw [unhide hlen]; exact hlt
      obtain ⟨x, hx⟩ : ∃ x, x = sh.getD k 0 := ⟨_, rfl⟩
      rw [← hx] at hc
      have HX := hide hx
      clear hx
      by_cases hneg : x < 0
      · have HE : Hid (countOf sh = -1) := count_bad sh (all_not sh inCells k (unhide hks) (by rw [← unhide HX]; exact decide_eq_false (by omega)))
        go_wp2
        go_ret
        exact ⟨ret_int HE.out.symm, rfl⟩
      · by_cases hbig : 10000 < x
        · have HE : Hid (countOf sh = -1) := count_bad sh (all_not sh inCells k (unhide hks) (by rw [← unhide HX]; exact decide_eq_false (by omega)))
          go_wp2
          go_ret
          exact ⟨ret_int HE.out.symm, rfl⟩
        · have HA : Hid ((sh.take (k + 1)).all inCells = true) := all_step sh inCells k (unhide hks) (unhide hall) (by rw [← unhide HX]; exact decide_eq_true (by omega))
          go_wp2
          go_round
          case rel => exact ⟨k + 1, by omega, by go_num, HA⟩
          case measure => simp [intOf]; omega
    · have HA : Hid (sh.all inCells = true) := by
        have := unhide hall
        rwa [List.take_of_length_le (by rw [unhide hlen]; omega)] at this
      clear hall
      go_wp2
      go_loop [3, 5, 6] (fun p z i => ∃ (k : Nat) (m : Int), k ≤ n ∧ i = .int .i64 k ∧ p = .int .i64 m ∧ Hid (prodFrom (sh.take k) 1 = some m) ∧ z = .bool (decide (0 ∈ sh.take k))) (fun _ _ i => n - (intOf i).toNat)
      case atStart => exact ⟨0, 1, Nat.zero_le _, rfl, rfl, rfl, rfl⟩
      case round =>
        obtain ⟨k, m, hk, rfl, rfl, hp, rfl⟩ := hrel
        have hmb := prodFrom_bd (sh.take k) 1 m (by rw [List.all_eq_true]; exact fun x hx => List.all_eq_true.1 (unhide HA) x (List.mem_of_mem_take hx)) (by omega) (by omega) (unhide hp)
        obtain ⟨hm1, hm2⟩ := hmb
        by_cases hlt : k < n
        · obtain ⟨b, off, rfl, hblt, hc⟩ := (unhide H).get hlt
          have hks : Hid (k < sh.length) := by show k < sh.length; rw [unhide hlen]; exact hlt
          have hxb : 0 ≤ sh.getD k 0 ∧ sh.getD k 0 ≤ 10000 := of_decide_eq_true (List.all_eq_true.1 (unhide HA) (sh.getD k 0) (by simp [unhide hks]))
          have HZ := hide (zero_step sh k (unhide hks))
          obtain ⟨x, hx⟩ : ∃ x, x = sh.getD k 0 := ⟨_, rfl⟩
          rw [← hx] at hc hxb
          obtain ⟨hx0, hx1⟩ := hxb
          have HX := hide hx
          clear hx
          generalize decide (0 ∈ sh.take k) = z0 at *
          by_cases h0 : x = 0
          · have hb : (x == 0) = true := by simp [h0]
            have HP := hide (prod_step0 sh k (unhide hks) m (unhide hp) (by rw [← unhide HX]; exact h0))
            have HZ2 : Hid (true = decide (0 ∈ sh.take (k + 1))) := by show _ = _; rw [unhide HZ, ← unhide HX, decide_eq_true h0, Bool.or_true]
            clear h0 HZ
            go_wp2
            go_round
            case rel => exact ⟨k + 1, m, by omega, by go_num, rfl, HP, by rw [← unhide HZ2]⟩
            case measure => simp [intOf]; omega
          · have hb : (x == 0) = false := by simp [h0]
            have HZ2 : Hid (z0 = decide (0 ∈ sh.take (k + 1))) := by show _ = _; rw [unhide HZ, ← unhide HX, decide_eq_false h0, Bool.or_false]
            have hmx : m * x ≤ 10000 * 10000 := Int.mul_le_mul hm2 hx1 hx0 (by omega)
            have hmx0 : 0 ≤ m * x := Int.mul_nonneg (by omega) hx0
            by_cases hbig : 10000 < m * x
            · have HE : Hid (countOf sh = -1) := count_big sh (prod_none sh k (unhide hks) m (unhide hp) (by rw [← unhide HX]; exact h0) (by rw [← unhide HX]; exact hbig))
              clear h0 HZ
              go_wp2
              go_ret
              exact ⟨ret_int HE.out.symm, rfl⟩
            · have HP := hide (prod_step sh k (unhide hks) m (unhide hp) (by rw [← unhide HX]; exact h0) (by rw [← unhide HX]; omega))
              rw [← unhide HX] at HP
              clear h0 HZ
              go_wp2
              go_round
              case rel => exact ⟨k + 1, m * x, by omega, by go_num, rfl, HP, by rw [← unhide HZ2]⟩
              case measure => simp [intOf]; omega
        · have HP : Hid (prodFrom sh 1 = some m) := by
            have := unhide hp
            rwa [List.take_of_length_le (by rw [unhide hlen]; omega)] at this
          rw [List.take_of_length_le (by rw [unhide hlen]; omega)]
          by_cases hz : 0 ∈ sh
          · have hd : decide (0 ∈ sh) = true := decide_eq_true hz
            have HE := hide (count_zero sh m (unhide HA) (unhide HP) hd)
            clear hz
            rw [hd]
            go_wp2
            go_ret
            exact ⟨ret_int HE.out.symm, rfl⟩
          · have hd : decide (0 ∈ sh) = false := decide_eq_false hz
            have HE := hide (count_n sh m (unhide HA) (unhide HP) hd)
            clear hz
            rw [hd]
            go_wp2
            go_ret
            exact ⟨ret_int HE.out.symm, rfl⟩

theorem l3Count_eq (a : Option Addr) (n cap : Nat) (sh : List Int) (w : World) (h : Row w a n sh) (cn : Int) (hc : Hid (countOf sh = cn)) : Calls Tryz.prog 41 #[.slice a n cap] w fun e w' => e = .returned (.int .i64 cn) ∧ w' = w := by
  rw [← hc.out]; exact l3Count_any a n cap sh w h

end Go.Proofs.YtkgcmpmgaghdhaaGreatDoor
namespace Go.Proofs.YtkgcmpmgaghdhaaGreatDoor
open Go.RowKit

theorem Own.of_owns {w : World} {base n : Nat} {v : Value} {zs : List Int} (h : w.ownsRow base 3 1 v n (zs.map (Value.int .i64))) (hs : n ≤ 17592186044416) : ∃ a cap, v = .slice a n cap ∧ Own w base a n zs := by
  have hl : zs.length = n := by simpa using h.1
  rcases h.2 with ⟨rfl, h0⟩ | ⟨g, cap, cur, rfl, hb, hg, _, _, hcs, ht⟩
  · exact ⟨none, 0, by rw [h0], hl, hs, .inl h0⟩
  · refine ⟨some ⟨g, 0, none⟩, cap, rfl, hl, hs, .inr ⟨g, 0, rfl, hb, lt_of_block hg, fun i hi => ?_, fun i hi => frozen_of_row w g _ _ _ hg⟩⟩
    have e : cur.toList[i]? = some (.int .i64 (zs.getD i 0)) := by
      have : (cur.toList.take (n * 1))[i]? = (zs.map (Value.int .i64))[i]? := by rw [ht]
      rw [List.getElem?_take, if_pos (by omega)] at this
      rw [this]
      simp [hl, hi]
    simpa [World.cell?, hg] using e

theorem cells_ints {w : World} {ad : Addr} {n : Nat} {zs : List Int} (h : Row w (some ad) n zs) : ∀ (j : Nat) u, (zs.map (Value.int .i64))[j]? = some u → w.cell? (ad.add j) = some u := by
  intro j u hj
  have hl := h.len
  have hj' : j < n := by
    rcases Nat.lt_or_ge j n with h' | h'
    · exact h'
    · rw [List.getElem?_eq_none (by simp; omega)] at hj; cases hj
  obtain ⟨b, off, hab, hblt, hc⟩ := h.get hj'
  cases hab
  have hadd : (⟨b, off, none⟩ : Addr).add j = ⟨b, off + j, none⟩ := by by_cases h : j = 0 <;> simp [Addr.add, h]
  rw [hadd, hc]
  simpa [hl, hj'] using hj

theorem one_ints (zs : List Int) : ∀ u ∈ zs.map (Value.int .i64), u.oneCell' = true := by
  intro u hu
  obtain ⟨x, _, rfl⟩ := List.mem_map.mp hu
  rfl

theorem owns_empty (w : World) : (w.alloc (.cells #[] 3)).ownsRow w.heap.size 3 1 (.slice (some ⟨w.heap.size, 0, none⟩) 0 0) 0 [] := by
  refine ⟨by simp, .inr ⟨w.heap.size, 0, #[], rfl, Nat.le_refl _, ?_, by simp, by unfold maxLen; omega, by simp, by simp⟩⟩
  show (w.heap.push _)[w.heap.size]? = _
  simp

set_option maxHeartbeats 400000 in
theorem l3Ints_owns (ad : Addr) (n cap : Nat) (zs : List Int) (w : World) (h : Row w (some ad) n zs) :
    Calls Tryz.prog 56 #[.slice (some ad) n cap] w fun e w' => ∃ a' cap', e = .returned (.slice a' n cap') ∧ w'.ownsRow w.heap.size 3 1 (.slice a' n cap') n (zs.map (Value.int .i64)) ∧ Below w.heap.size w w' := by
  have hl := h.len
  have hs := h.small
  have H := hide h
  clear h
  obtain ⟨i0, hi, hz0, hz1, hz2⟩ := info_parts info_int
  go_enter Tryz.func56, Tryz.ntmps56
  go_wp2_with (at_builtin; refine wpList_append_own _ rfl _ _ 23 rfl w.heap.size 3 i0 (.int .i64 0) 1 8 Tryz.underlying23 hi hz0 hz1 hz2 rfl (by decide) _ _ _ rfl (owns_empty w) ad n cap (zs.map (Value.int .i64)) rfl (by simpa using hl) (cells_ints ((unhide H).alloc _)) (one_ints zs) (by unfold maxLen; omega) (by omega) (by simp) ?_; intro v1 w1 hown hgrow hnil)
  clear hnil
  have hown' : w1.ownsRow w.heap.size 3 1 v1 n (zs.map (Value.int .i64)) := by simpa using hown
  obtain ⟨a', cap', rfl, ho⟩ := Own.of_owns hown' hs
  have hbel : Below w.heap.size w w1 := ((Below.refl _ _).alloc (Nat.le_refl _) _).grown hgrow (by simp) (by intro k hk; cases hk; exact Nat.le_refl _)
  clear hown hgrow ho
  go_wp2
  go_ret
  exact ⟨_, _, rfl, hown', hbel⟩

theorem l3Ints_any (ad : Addr) (n cap : Nat) (zs : List Int) (w : World) (h : Row w (some ad) n zs) :
    Calls Tryz.prog 56 #[.slice (some ad) n cap] w fun e w' => ∃ a' cap', e = .returned (.slice a' n cap') ∧ Own w' w.heap.size a' n zs ∧ Below w.heap.size w w' := by
  refine (l3Ints_owns ad n cap zs w h).mono ?_
  rintro e w' ⟨a', cap', rfl, ho, hb⟩
  obtain ⟨a2, c2, e2, ho2⟩ := Own.of_owns ho h.small
  cases e2
  exact ⟨a', cap', rfl, ho2, hb⟩

end Go.Proofs.YtkgcmpmgaghdhaaGreatDoor
namespace Go.Proofs.YtkgcmpmgaghdhaaGreatDoor
open Go.RowKit

theorem Own.low' {w w' : World} {a : Option Addr} {n : Nat} {zs : List Int} {B C : Nat} (h : Own w C a n zs) (ha : ∀ k, At a n k → k < B) (hb : Below B w w') : Own w' C a n zs := by
  refine ⟨h.len, h.small, ?_⟩
  rcases h.at_ with h0 | ⟨g, off, rfl, hg, hlt, hc, hf⟩
  · exact .inl h0
  · by_cases h0 : n = 0
    · exact .inl h0
    have hgB := ha g (at_self h0)
    exact .inr ⟨g, off, rfl, hg, Nat.lt_of_lt_of_le hlt hb.size, fun i hi => (hb.cell (p := ⟨g, off + i, none⟩) hgB).trans (hc i hi), fun i hi => (hb.frozen (p := ⟨g, off + i, none⟩) hgB).trans (hf i hi)⟩

theorem Own.other {w : World} {a : Option Addr} {n C : Nat} {zs : List Int} (h : Own w C a n zs) {q : Addr} (ha : ∀ k, At a n k → k ≠ q.block) (v : Value) : Own (w.setCell q v) C a n zs :=
  ((But.refl (fun k => k = q.block) w).setCell rfl v).own h (fun k hk hk' => ha k hk' hk)

/-- An append to a slice of the call's own leaves all blocks below its base. -/
theorem below_append {w w1 : World} {base n : Nat} {v : Value} {xs : List Value} (o : Obj) (hown : w.ownsRow base 3 1 v n xs) (hb : base ≤ w.heap.size) (hg : (w.alloc o).grownBy w1 v.ownBlock) : Below base w w1 :=
  ((Below.refl _ _).alloc hb _).grown hg (by simp; omega) (by
    intro k hk
    rcases hown.2 with ⟨rfl, _⟩ | ⟨g, cap, cur, rfl, hbg, _⟩
    · cases hk
    · cases hk; exact hbg)

theorem owns_slice {w : World} {base e size n : Nat} {v : Value} {xs : List Value} (h : w.ownsRow base e size v n xs) : ∃ a cap, v = .slice a n cap := by
  rcases h.2 with ⟨rfl, h0⟩ | ⟨g, cap, cur, rfl, _⟩
  · exact ⟨none, 0, by rw [h0]⟩
  · exact ⟨_, _, rfl⟩

theorem take_map_snoc (f : Int → Int) (xs : List Int) (k : Nat) (h : k < xs.length) : ((xs.take (k + 1)).map f).map (Value.int .i64) = ((xs.take k).map f).map (Value.int .i64) ++ [.int .i64 (f (xs.getD k 0))] := by
  rw [take_snoc xs k h]; simp

theorem row_nil (w : World) (a : Option Addr) : Row w a 0 [] := ⟨rfl, by omega, .inl rfl⟩

theorem cells_new (w : World) (x : Int) : ∀ (j : Nat) u, ([.int .i64 x] : List Value)[j]? = some u → (w.alloc (.cells #[.int .i64 x] 3)).cell? ((⟨w.heap.size, 0, none⟩ : Addr).add j) = some u := by
  intro j u hj
  match j, hj with
  | 0, hj => simp at hj; subst hj; simp [Addr.add]

theorem one_one (x : Int) : ∀ u ∈ ([.int .i64 x] : List Value), u.oneCell' = true := by intro u hu; simp at hu; subst hu; rfl

theorem owns_below {w w' : World} {base e size n B : Nat} {v : Value} {xs : List Value} (h : w.ownsRow base e size v n xs) (hB : w.heap.size ≤ B) (hb : Below B w w') : w'.ownsRow base e size v n xs := by
  obtain ⟨h1, h2⟩ := h
  refine ⟨h1, ?_⟩
  rcases h2 with h2 | ⟨g, cap, cur, hv, hg, hh, r⟩
  · exact Or.inl h2
  · exact Or.inr ⟨g, cap, cur, hv, hg, (hb.block g (Nat.lt_of_lt_of_le (lt_of_block hh) hB)).trans hh, r⟩

theorem owns_low_set {w : World} {base n p o : Nat} {v : Value} {xs : List Value} (h : w.ownsRow base 3 1 v n xs) (hp : p < base) (u : Value) : (w.setCell ⟨p, o, none⟩ u).ownsRow base 3 1 v n xs := by
  obtain ⟨h1, h2⟩ := h
  refine ⟨h1, ?_⟩
  rcases h2 with h2 | ⟨g, cap, cur, hv, hg, hh, r⟩
  · exact Or.inl h2
  · refine Or.inr ⟨g, cap, cur, hv, hg, ?_, r⟩
    rw [Below.heap_setCell _ _ _ _ (by
      intro e
      have e' : g = p := e
      omega)]
    exact hh

theorem owns_lt {w : World} {base e size n g : Nat} {v : Value} {xs : List Value} (h : w.ownsRow base e size v n xs) (hg : v.ownBlock = some g) : g < w.heap.size := by
  rcases h.2 with ⟨rfl, _⟩ | ⟨g', cap, cur, rfl, _, hh, _⟩
  · cases hg
  · cases hg; exact lt_of_block hh

theorem Own.grownO {w w1 : World} {B n : Nat} {a : Option Addr} {zs : List Int} (h : Own w B a n zs) (o : Obj) {ob : Option Nat} (hg : (w.alloc o).grownBy w1 ob) (hne : ∀ x, At a n x → ob ≠ some x) : Own w1 B a n zs := by
  refine ⟨h.len, h.small, ?_⟩
  rcases h.at_ with h0 | ⟨b, off, rfl, hb, hlt, hc, hf⟩
  · exact .inl h0
  · by_cases hn : n = 0
    · exact .inl hn
    have hk : w1.heap[b]? = w.heap[b]? := (hg.block b (by simp; omega) (fun e => hne b (at_self hn) e.symm)).trans (Below.heap_alloc w o b hlt)
    refine .inr ⟨b, off, rfl, hb, ?_, fun i hi => (World.cell?_of_block (w := w) (a := ⟨b, off + i, none⟩) hk).trans (hc i hi), fun i hi => (World.frozen?_of_block (w := w) (a := ⟨b, off + i, none⟩) hk).trans (hf i hi)⟩
    rcases Nat.lt_or_ge b w1.heap.size with h1 | h1
    · exact h1
    · rw [Array.getElem?_eq_none h1, Array.getElem?_eq_getElem hlt] at hk; cases hk

theorem owns_mono {w : World} {base base' e size n : Nat} {v : Value} {xs : List Value} (h : w.ownsRow base e size v n xs) (hb : base' ≤ base) : w.ownsRow base' e size v n xs := by
  obtain ⟨h1, h2⟩ := h
  refine ⟨h1, ?_⟩
  rcases h2 with h2 | ⟨g, cap, cur, hv, hg, hh, r⟩
  · exact Or.inl h2
  · exact Or.inr ⟨g, cap, cur, hv, by omega, hh, r⟩

theorem owns_grown {w w1 : World} {base base' n g g2 cap : Nat} {xs : List Value} (h : w.ownsRow base 3 1 (.slice (some ⟨g, 0, none⟩) n cap) n xs) (o : Obj) (hg : (w.alloc o).grownBy w1 (some g2)) (hne : g ≠ g2) (hb : base' ≤ base) : w1.ownsRow base' 3 1 (.slice (some ⟨g, 0, none⟩) n cap) n xs := by
  obtain ⟨h1, h2⟩ := h
  refine ⟨h1, ?_⟩
  rcases h2 with ⟨h2, _⟩ | ⟨g', cap', cur, hv, hg', hh, r⟩
  · simp at h2
  · have e : g = g' := by simp at hv; exact hv.1
    subst e
    refine Or.inr ⟨g, cap', cur, hv, by omega, ?_, r⟩
    have hlt := lt_of_block hh
    exact (hg.block g (by simp; omega) (fun e => hne (by simpa using e))).trans ((Below.heap_alloc w o g hlt).trans hh)

theorem Own.set {w : World} {B g off n k : Nat} {zs : List Int} (h : Own w B (some ⟨g, off, none⟩) n zs) (hk : k < n) (x : Int) : Own (w.setCell ⟨g, off + k, none⟩ (.int .i64 x)) B (some ⟨g, off, none⟩) n (zs.set k x) := by
  refine ⟨by rw [List.length_set]; exact h.len, h.small, ?_⟩
  rcases h.at_ with h0 | ⟨g', off', e, hg, hlt, hc, hf⟩
  · omega
  · cases e
    refine .inr ⟨g, off, rfl, hg, by simpa using hlt, fun i hi => ?_, fun i hi => ?_⟩
    · by_cases e : i = k
      · subst e
        rw [World.cell?_setCell_same _ _ _ (hc i hi)]
        have hl := h.len
        simp [List.getD, hl, hk]
      · rw [World.cell?_setCell_other _ _ _ _ (by simp <;> omega), hc i hi]
        simp [List.getD, List.getElem?_set_ne (Ne.symm e)]
    · simpa using hf i hi

theorem But.drew {S : Nat → Prop} {w w' : World} (h : But S w w') : But S w w'.drew := ⟨h.os, h.tape, h.output, h.size, h.block⟩

theorem But.cellAt {S : Nat → Prop} {w w' : World} (h : But S w w') {b o : Nat} (hb : b < w.heap.size) (hn : ¬ S b) : w'.cell? ⟨b, o, none⟩ = w.cell? ⟨b, o, none⟩ := World.cell?_of_block (w := w) (a := ⟨b, o, none⟩) (h.block b hb hn)

end Go.Proofs.YtkgcmpmgaghdhaaGreatDoor
namespace Go.Proofs.YtkgcmpmgaghdhaaGreatDoor
open Go.RowKit

set_option maxHeartbeats 400000 in
theorem szArray_big (c : Bool) (a1 a2 : Option Addr) (n1 n2 c1 c2 : Nat) (left : Int) (w : World) (h1 : n1 ≤ 9223372036854775807) (h2 : n2 ≤ 9223372036854775807) (hl : 0 ≤ left) (hl2 : left ≤ 1048576) (hA : left < n1 + n2) :
    Calls Tryz.prog 26 #[.agg #[.bool c, .slice a1 n1 c1, .slice a2 n2 c2], .int .i64 left] w fun e w' => e = .returned (.int .i64 (-1)) ∧ Below w.heap.size w w' := by
  by_cases hB : left < n1
  · go_enter Tryz.func26, Tryz.ntmps26
    go_wp2_with fail
    refine (szIntS_big _ _ _ _ _ h1 hl hl2 hB).mono ?_
    rintro e w' ⟨rfl, rfl⟩
    go_wp2
    go_ret
    exact ⟨rfl, (Below.refl _ _).alloc (Nat.le_refl _) _⟩
  · go_enter Tryz.func26, Tryz.ntmps26
    go_wp2_with fail
    refine (szIntS_ok _ _ _ _ _ hl2 (by omega)).mono ?_
    rintro e w' ⟨rfl, rfl⟩
    go_wp2_with fail
    refine (szIntS_big _ _ _ _ _ h2 (by omega) (by omega) (by omega)).mono ?_
    rintro e w' ⟨rfl, rfl⟩
    go_wp2
    go_ret
    exact ⟨rfl, (Below.refl _ _).alloc (Nat.le_refl _) _⟩

set_option maxHeartbeats 400000 in
theorem szArray_ok (c : Bool) (a1 a2 : Option Addr) (n1 n2 c1 c2 : Nat) (left : Int) (w : World) (hl2 : left ≤ 1048576) (hA : n1 + n2 ≤ left) :
    Calls Tryz.prog 26 #[.agg #[.bool c, .slice a1 n1 c1, .slice a2 n2 c2], .int .i64 left] w fun e w' => e = .returned (.int .i64 (left - n1 - n2)) ∧ Below w.heap.size w w' := by
  go_enter Tryz.func26, Tryz.ntmps26
  go_wp2_with fail
  refine (szIntS_ok _ _ _ _ _ hl2 (by omega)).mono ?_
  rintro e w' ⟨rfl, rfl⟩
  go_wp2_with fail
  refine (szIntS_ok _ _ _ _ _ (by omega) (by omega)).mono ?_
  rintro e w' ⟨rfl, rfl⟩
  go_wp2
  go_ret
  exact ⟨rfl, (Below.refl _ _).alloc (Nat.le_refl _) _⟩

set_option maxHeartbeats 400000 in
theorem toArray_any (c : Bool) (a1 a2 : Option Addr) (n1 n2 c1 c2 : Nat) (sh dt : List Int) (w : World) (h1 : Row w a1 n1 sh) (h2 : Row w a2 n2 dt) :
    Calls Tryz.prog 28 #[.agg #[.bool c, .slice a1 n1 c1, .slice a2 n2 c2]] w fun e w' => ∃ g1 g2, e = .returned (.agg #[.bool c, .slice (some ⟨g1, 0, none⟩) n1 n1, .slice (some ⟨g2, 0, none⟩) n2 n2]) ∧ w.heap.size ≤ g1 ∧ g1 < g2 ∧ Blk w' g1 sh ∧ Blk w' g2 dt ∧ Below w.heap.size w w' := by
  go_enter Tryz.func28, Tryz.ntmps28
  go_wp2_with fail
  refine (toIntS_any _ _ _ sh _ (by exact h1.below (Nat.le_refl _) (by repeat (first | exact Below.refl _ _ | refine Below.alloc ?_ (by simp <;> omega) _)))).mono ?_
  rintro e w1 ⟨g1, rfl, hg1, hb1, hbe1⟩
  obtain ⟨hc, hf⟩ := bcell hbe1
  have hz := hbe1.size
  have hbW : Below w.heap.size w w1 := Below.trans (by repeat (first | exact Below.refl _ _ | refine Below.alloc ?_ (by simp <;> omega) _)) (hbe1.mono (by simp <;> omega))
  simp at hc hf hz hg1
  have hz0 : w.heap.size < w1.heap.size := by omega
  have hz1 : w.heap.size + 1 < w1.heap.size := by omega
  have hz3 : w.heap.size + 1 + 1 < w1.heap.size := by omega
  clear hbe1
  go_wp2_with fail
  refine (toIntS_any _ _ _ dt _ (by exact h2.below (Nat.le_refl _) (hbW.setCell (by simp <;> omega) _))).mono ?_
  rintro e w2 ⟨g2, rfl, hg2, hb2, hbe2⟩
  obtain ⟨hc2, hf2⟩ := bcell hbe2
  have hz2 := hbe2.size
  have hbW2 : Below w.heap.size w w2 := (hbW.setCell (p := ⟨w.heap.size + 1 + 1, 1, none⟩) (by simp <;> omega) _).trans (hbe2.mono (by simp <;> omega))
  have hb1' : Blk w2 g1 sh := (hb1.other (p := ⟨w.heap.size + 1 + 1, 1, none⟩) (by simp; omega) _).below (Nat.le_refl _) hbe2
  simp at hc2 hf2 hz2 hg2
  clear hbe2
  go_wp2
  refine bodyPost_ret (v := .agg #[.bool c, .slice (some ⟨g1, 0, none⟩) n1 n1, .slice (some ⟨g2, 0, none⟩) n2 n2]) (by simp [results, Tryz.results28, go_sem, hc2, hc, hz1]) rfl ⟨g1, g2, rfl, by omega, ?_, ?_, ?_, ?_⟩
  · have := hb1.lt; omega
  · exact (((hb1'.other (by simp; omega) _).other (by simp; omega) _).other (by simp; omega) _).other (by simp; omega) _
  · exact (((hb2.other (by simp; omega) _).other (by simp; omega) _).other (by simp; omega) _).other (by simp; omega) _
  · exact (((hbW2.setCell (by simp <;> omega) _).setCell (by simp) _).setCell (by simp) _).setCell (by simp) _

set_option maxHeartbeats 400000 in
theorem eqArray_any (c d : Bool) (a1 a2 b1 b2 : Option Addr) (n1 n2 m1 m2 c1 c2 d1 d2 : Nat) (sh dt sh' dt' : List Int) (w : World) (h1 : Row w a1 n1 sh) (h2 : Row w a2 n2 dt) (k1 : Row w b1 m1 sh') (k2 : Row w b2 m2 dt') :
    Calls Tryz.prog 17 #[.agg #[.bool c, .slice a1 n1 c1, .slice a2 n2 c2], .agg #[.bool d, .slice b1 m1 d1, .slice b2 m2 d2]] w fun e w' => e = .returned (.bool (decide (c = d ∧ sh = sh' ∧ dt = dt'))) ∧ Below w.heap.size w w' := by
  have hW : ∀ o1 o2, Below w.heap.size w ((w.alloc o1).alloc o2) := fun o1 o2 => ((Below.refl _ _).alloc (Nat.le_refl _) _).alloc (by simp) _
  by_cases hcd : c = d
  · subst hcd
    have hb : (c == c) = true := by simp
    by_cases hs : sh = sh'
    · have HS := hs
      have hd1 : decide (sh = sh') = true := by simp [hs]
      clear hs
      by_cases ht : dt = dt'
      · have hd2 : decide (dt = dt') = true := by simp [ht]
        have HE : Hid (decide (c = c ∧ sh = sh' ∧ dt = dt') = true) := decide_eq_true ⟨rfl, HS, ht⟩
        clear ht HS
        go_enter Tryz.func17, Tryz.ntmps17
        go_wp2_with fail
        refine (eqIntS_any _ _ _ _ _ _ sh sh' _ ((h1.alloc _).alloc _) ((k1.alloc _).alloc _)).mono ?_
        rintro e w1 ⟨rfl, q, rfl⟩
        rw [hd1]
        go_wp2_with fail
        refine (eqIntS_any _ _ _ _ _ _ dt dt' _ (((h2.alloc _).alloc _).drewN _) (((k2.alloc _).alloc _).drewN _)).mono ?_
        rintro e w1 ⟨rfl, q, rfl⟩
        rw [hd2]
        go_wp2
        go_ret
        exact ⟨ret_bool HE.out.symm, Below.drewN (hW _ _) _⟩
      · have hd2 : decide (dt = dt') = false := by simp [ht]
        have HE : Hid (decide (c = c ∧ sh = sh' ∧ dt = dt') = false) := decide_eq_false (fun h => ht h.2.2)
        clear ht HS
        go_enter Tryz.func17, Tryz.ntmps17
        go_wp2_with fail
        refine (eqIntS_any _ _ _ _ _ _ sh sh' _ ((h1.alloc _).alloc _) ((k1.alloc _).alloc _)).mono ?_
        rintro e w1 ⟨rfl, q, rfl⟩
        rw [hd1]
        go_wp2_with fail
        refine (eqIntS_any _ _ _ _ _ _ dt dt' _ (((h2.alloc _).alloc _).drewN _) (((k2.alloc _).alloc _).drewN _)).mono ?_
        rintro e w1 ⟨rfl, q, rfl⟩
        rw [hd2]
        go_wp2
        go_ret
        exact ⟨ret_bool HE.out.symm, Below.drewN (hW _ _) _⟩
    · have hd1 : decide (sh = sh') = false := by simp [hs]
      have HE : Hid (decide (c = c ∧ sh = sh' ∧ dt = dt') = false) := decide_eq_false (fun h => hs h.2.1)
      clear hs
      go_enter Tryz.func17, Tryz.ntmps17
      go_wp2_with fail
      refine (eqIntS_any _ _ _ _ _ _ sh sh' _ ((h1.alloc _).alloc _) ((k1.alloc _).alloc _)).mono ?_
      rintro e w1 ⟨rfl, q, rfl⟩
      rw [hd1]
      go_wp2
      go_ret
      exact ⟨ret_bool HE.out.symm, Below.drewN (hW _ _) _⟩
  · have hb : (c == d) = false := by simp [hcd]
    have HE : Hid (decide (c = d ∧ sh = sh' ∧ dt = dt') = false) := decide_eq_false (fun h => hcd h.1)
    clear hcd
    go_enter Tryz.func17, Tryz.ntmps17
    go_wp2
    go_ret
    exact ⟨ret_bool HE.out.symm, hW _ _⟩

end Go.Proofs.YtkgcmpmgaghdhaaGreatDoor
namespace Go.Proofs.YtkgcmpmgaghdhaaGreatDoor
open Go.RowKit

set_option maxHeartbeats 1000000 in
theorem markArray_any (c : Bool) (a1 a2 : Option Addr) (n1 n2 c1 c2 B : Nat) (sh dt : List Int) (k : Int) (w : World) (h1 : Own w B a1 n1 sh) (h2 : Own w B a2 n2 dt) (hap : Apart a1 n1 a2 n2) (hk0 : 0 ≤ k) (hk : k ≤ 2305843009213693952) :
    Calls Tryz.prog 30 #[.agg #[.bool c, .slice a1 n1 c1, .slice a2 n2 c2], .int .i64 k] w fun e w' => e = .returned (.int .i64 (k + n1 + n2)) ∧ Own w' B a1 n1 (marks k n1) ∧ Own w' B a2 n2 (marks (k + n1) n2) ∧ But (fun x => At a1 n1 x ∨ At a2 n2 x) w w' := by
  have hs1 := h1.small
  have hs2 := h2.small
  have hi1 : Hid (∀ x, At a1 n1 x → x < w.heap.size) := fun x hx => h1.row.hi hx
  have H1 := hide h1
  have H2 := hide h2
  have HA := hide hap
  clear h1 h2 hap
  go_enter Tryz.func30, Tryz.ntmps30
  go_wp2_with fail
  refine (markIntS_any _ _ _ B sh _ _ (by exact (unhide H1).below (Nat.le_refl _) ((Below.refl _ _).alloc (Nat.le_refl _) _)) (by omega) (by omega)).mono ?_
  rintro e w1 ⟨rfl, ho1, hb1⟩
  have hz1 := hb1.size
  have hcell : w1.heap[w.heap.size]? = _ := hb1.block w.heap.size (by simp) (fun hx => by have := unhide hi1 _ hx; omega)
  have hc0 := World.cell?_of_block (a := ⟨w.heap.size, 0, none⟩) hcell
  have hc1 := World.cell?_of_block (a := ⟨w.heap.size, 1, none⟩) hcell
  have hc2 := World.cell?_of_block (a := ⟨w.heap.size, 2, none⟩) hcell
  have hf := fun o => World.frozen?_of_block (a := ⟨w.heap.size, o, none⟩) hcell
  simp at hc0 hc1 hc2 hz1
  have ho2 : Own w1 B a2 n2 dt := hb1.own ((unhide H2).below (Nat.le_refl _) ((Below.refl _ _).alloc (Nat.le_refl _) _)) (unhide HA)
  have HO1 := hide ho1
  have HB1 := hide hb1
  clear hcell hf ho1 hb1
  go_wp2_with fail
  refine (markIntS_any _ _ _ B dt _ _ ho2 (by omega) (by omega)).mono ?_
  rintro e w2 ⟨rfl, ho3, hb2⟩
  have HO3 := hide ho3
  have HB2 := hide hb2
  have ho4 : Hid (Own w2 B a1 n1 (marks k n1)) := hb2.own (unhide HO1) (unhide HA).symm
  clear ho3 hb2
  go_wp2
  go_ret
  exact ⟨rfl, unhide ho4, unhide HO3, (((But.refl _ _).alloc _).trans ((unhide HB1).trans (unhide HB2))).mono (fun x hx => by rcases hx with hx | hx; exact absurd hx id; exact hx)⟩

end Go.Proofs.YtkgcmpmgaghdhaaGreatDoor
namespace Go.Proofs.YtkgcmpmgaghdhaaGreatDoor
open Go.RowKit

set_option maxHeartbeats 1000000 in
theorem heldArray_marks (c : Bool) (a1 a2 : Option Addr) (n1 n2 c1 c2 : Nat) (k : Int) (w : World) (h1 : Row w a1 n1 (marks k n1)) (h2 : Row w a2 n2 (marks (k + n1) n2)) (hk0 : 0 ≤ k) (hk : k ≤ 2305843009213693952) :
    Calls Tryz.prog 31 #[.agg #[.bool c, .slice a1 n1 c1, .slice a2 n2 c2], .int .i64 k] w fun e w' => e = .returned (.int .i64 (k + n1 + n2)) ∧ Below w.heap.size w w' := by
  have hs1 := h1.small
  have hs2 := h2.small
  have H1 := hide h1
  have H2 := hide h2
  clear h1 h2
  go_enter Tryz.func31, Tryz.ntmps31
  go_wp2_with fail
  refine (heldIntS_marks _ _ _ _ _ (by exact (unhide H1).below (Nat.le_refl _) ((Below.refl _ _).alloc (Nat.le_refl _) _)) (by omega) (by omega)).mono ?_
  rintro e w1 ⟨rfl, rfl⟩
  go_wp2_with fail
  refine (heldIntS_marks _ _ _ _ _ (by exact (unhide H2).below (Nat.le_refl _) ((Below.refl _ _).alloc (Nat.le_refl _) _)) (by omega) (by omega)).mono ?_
  rintro e w1 ⟨rfl, rfl⟩
  go_wp2
  go_ret
  exact ⟨rfl, (Below.refl _ _).alloc (Nat.le_refl _) _⟩

end Go.Proofs.YtkgcmpmgaghdhaaGreatDoor
namespace Go.Proofs.YtkgcmpmgaghdhaaGreatDoor
open Go.RowKit

theorem box1 {w wr : World} {o1 : Obj} (hK : Below (w.heap.size + 1) (w.alloc o1) wr) :
    Below w.heap.size w wr ∧ w.heap.size + 1 ≤ wr.heap.size ∧ (∀ b o, b < w.heap.size + 1 → wr.cell? ⟨b, o, none⟩ = (w.alloc o1).cell? ⟨b, o, none⟩) :=
  ⟨((Below.refl _ _).alloc (Nat.le_refl _) _).trans (hK.mono (by omega)), by have := hK.size; simp at this; omega, fun b o hb => hK.cell (p := ⟨b, o, none⟩) hb⟩

theorem box2 {w wr : World} {o1 o2 : Obj} (hK : Below (w.heap.size + 2) ((w.alloc o1).alloc o2) wr) :
    Below w.heap.size w wr ∧ w.heap.size + 2 ≤ wr.heap.size ∧ (∀ b o, b < w.heap.size + 2 → wr.cell? ⟨b, o, none⟩ = ((w.alloc o1).alloc o2).cell? ⟨b, o, none⟩) :=
  ⟨(((Below.refl _ _).alloc (Nat.le_refl _) _).alloc (by simp) _).trans (hK.mono (by omega)), by have := hK.size; simp at this; omega, fun b o hb => hK.cell (p := ⟨b, o, none⟩) hb⟩

/-- What a slice argument is known to be: its cells, and that its length is an int. -/
structure Raw (w : World) (a : Option Addr) (n : Nat) (zs : List Int) : Prop where
  len : zs.length = n
  max : n ≤ 9223372036854775807
  at_ : n = 0 ∨ ∃ b off, a = some ⟨b, off, none⟩ ∧ b < w.heap.size ∧ ∀ i, i < n → w.cell? ⟨b, off + i, none⟩ = some (.int .i64 (zs.getD i 0))

theorem Raw.row {w : World} {a : Option Addr} {n : Nat} {zs : List Int} (h : Raw w a n zs) (hn : n ≤ 17592186044416) : Row w a n zs := ⟨h.len, hn, h.at_⟩

end Go.Proofs.YtkgcmpmgaghdhaaGreatDoor
namespace Go.Proofs.YtkgcmpmgaghdhaaGreatDoor
open Go.RowKit

theorem eqArray_refl (c : Bool) (a1 a2 b1 b2 : Option Addr) (n1 n2 m1 m2 c1 c2 d1 d2 : Nat) (sh dt : List Int) (w : World) (h1 : Row w a1 n1 sh) (h2 : Row w a2 n2 dt) (k1 : Row w b1 m1 sh) (k2 : Row w b2 m2 dt) :
    Calls Tryz.prog 17 #[.agg #[.bool c, .slice a1 n1 c1, .slice a2 n2 c2], .agg #[.bool c, .slice b1 m1 d1, .slice b2 m2 d2]] w fun e w' => e = .returned (.bool true) ∧ Below w.heap.size w w' := by
  have := eqArray_any c c a1 a2 b1 b2 n1 n2 m1 m2 c1 c2 d1 d2 sh dt sh dt w h1 h2 k1 k2
  rwa [decide_eq_true ⟨rfl, rfl, rfl⟩] at this

end Go.Proofs.YtkgcmpmgaghdhaaGreatDoor
namespace Go.Proofs.YtkgcmpmgaghdhaaGreatDoor
open Go.RowKit

/-- Block p holds a struct of an array. -/
def Box (w : World) (p : Nat) (c : Bool) (v1 v2 : Value) : Prop := w.heap[p]? = some (.cells #[.bool c, v1, v2] 25 (0, 0))

theorem Box.lt {w : World} {p : Nat} {c : Bool} {v1 v2 : Value} (h : Box w p c v1 v2) : p < w.heap.size := lt_of_block h

theorem Box.cells {w : World} {p : Nat} {c : Bool} {v1 v2 : Value} (h : Box w p c v1 v2) : w.cell? ⟨p, 0, none⟩ = some (.bool c) ∧ w.cell? ⟨p, 1, none⟩ = some v1 ∧ w.cell? ⟨p, 2, none⟩ = some v2 := by
  unfold Box at h
  simp [World.cell?, h]

theorem Box.below {w w' : World} {p B : Nat} {c : Bool} {v1 v2 : Value} (h : Box w p c v1 v2) (hB : w.heap.size ≤ B) (hb : Below B w w') : Box w' p c v1 v2 := (hb.block p (Nat.lt_of_lt_of_le h.lt hB)).trans h

theorem Box.but {S : Nat → Prop} {w w' : World} {p : Nat} {c : Bool} {v1 v2 : Value} (h : Box w p c v1 v2) (hb : But S w w') (hn : ¬ S p) : Box w' p c v1 v2 := (hb.block p h.lt hn).trans h

theorem Box.alloc {w : World} {p : Nat} {c : Bool} {v1 v2 : Value} (h : Box w p c v1 v2) (o : Obj) : Box (w.alloc o) p c v1 v2 := (Below.heap_alloc w o p h.lt).trans h

theorem Box.drew {w : World} {p : Nat} {c : Bool} {v1 v2 : Value} (h : Box w p c v1 v2) : Box w.drew p c v1 v2 := h

theorem Box.new (w : World) (c : Bool) (v1 v2 : Value) : Box (w.alloc (.cells #[.bool c, v1, v2] 25 (0, 0))) w.heap.size c v1 v2 := by
  show (w.heap.push _)[w.heap.size]? = _
  simp

end Go.Proofs.YtkgcmpmgaghdhaaGreatDoor

namespace Go.Proofs.YtkgcmpmgaghdhaaGreatDoor
open Go.RowKit

set_option maxHeartbeats 400000 in
theorem l1RuneOk_any (v : Int) (w : World) : Calls Tryz.prog 42 #[.int .i64 v] w fun e w' => e = .returned (.bool (runeOk v)) ∧ w' = w := by
  by_cases h1 : 0 ≤ v
  · by_cases h2 : v ≤ 1114111
    · by_cases h3 : v < 55296
      · have HE : Hid (runeOk v = true) := decide_eq_true ⟨h1, h2, .inl h3⟩
        go_enter Tryz.func42, Tryz.ntmps42
        go_wp2
        go_ret
        exact ⟨ret_bool HE.out.symm, rfl⟩
      · by_cases h4 : 57343 < v
        · have HE : Hid (runeOk v = true) := decide_eq_true ⟨h1, h2, .inr h4⟩
          go_enter Tryz.func42, Tryz.ntmps42
          go_wp2
          go_ret
          exact ⟨ret_bool HE.out.symm, rfl⟩
        · have HE : Hid (runeOk v = false) := decide_eq_false (fun h => by omega)
          go_enter Tryz.func42, Tryz.ntmps42
          go_wp2
          go_ret
          exact ⟨ret_bool HE.out.symm, rfl⟩
    · have HE : Hid (runeOk v = false) := decide_eq_false (fun h => by omega)
      go_enter Tryz.func42, Tryz.ntmps42
      go_wp2
      go_ret
      exact ⟨ret_bool HE.out.symm, rfl⟩
  · have HE : Hid (runeOk v = false) := decide_eq_false (fun h => by omega)
    go_enter Tryz.func42, Tryz.ntmps42
    go_wp2
    go_ret
    exact ⟨ret_bool HE.out.symm, rfl⟩

theorem l1RuneOk_eq (v : Int) (w : World) (b : Bool) (h : Hid (runeOk v = b)) : Calls Tryz.prog 42 #[.int .i64 v] w fun e w' => e = .returned (.bool b) ∧ w' = w := by
  rw [← h.out]; exact l1RuneOk_any v w

end Go.Proofs.YtkgcmpmgaghdhaaGreatDoor
namespace Go.Proofs.YtkgcmpmgaghdhaaGreatDoor
open Go.RowKit

theorem arr_long {c : Bool} {sh dt : List Int} {n1 : Nat} (hl : sh.length = n1) (h : 5 < n1) : arrOk c sh dt = false := by
  unfold arrOk; rw [decide_eq_false (by omega)]; rfl
theorem arr_count {c : Bool} {sh dt : List Int} {n2 : Nat} (hl : dt.length = n2) (h : countOf sh ≠ n2) : arrOk c sh dt = false := by
  unfold arrOk; rw [decide_eq_false (p := countOf sh = _) (by rw [hl]; exact h)]; simp
theorem arr_data {c : Bool} {sh dt : List Int} (h : dt.all (dataOk c) = false) : arrOk c sh dt = false := by
  unfold arrOk; rw [h]; simp
theorem arr_good {c : Bool} {sh dt : List Int} {n1 n2 : Nat} (hl1 : sh.length = n1) (hl2 : dt.length = n2) (h5 : n1 ≤ 5) (hc : countOf sh = n2) (h : dt.all (dataOk c) = true) : arrOk c sh dt = true := by
  unfold arrOk; rw [h, decide_eq_true (by omega), decide_eq_true (by rw [hl2]; exact hc)]; rfl

set_option maxHeartbeats 1000000 in
theorem ArrayOk_any (c : Bool) (a1 a2 : Option Addr) (n1 n2 c1 c2 : Nat) (sh dt : List Int) (w : World) (h1 : Row w a1 n1 sh) (h2 : Row w a2 n2 dt) :
    Calls Tryz.prog 9 #[.agg #[.bool c, .slice a1 n1 c1, .slice a2 n2 c2]] w fun e w' => e = .returned (.bool (arrOk c sh dt)) ∧ Below w.heap.size w w' := by
  have hl1 := hide h1.len
  have hl2 := hide h2.len
  have hs1 := h1.small
  have hs2 := h2.small
  have H1 := hide h1
  have H2 := hide h2
  clear h1 h2
  have hW : ∀ o, Below w.heap.size w (w.alloc o) := fun o => (Below.refl _ _).alloc (Nat.le_refl _) _
  have hcb := count_bd sh
  obtain ⟨hcb1, hcb2⟩ := hcb
  by_cases h5 : 5 < n1
  · have hd : decide ((5 : Int) < (n1 : Int)) = true := by simp; omega
    have HE := hide (arr_long (c := c) (dt := dt) (unhide hl1) h5)
    go_enter Tryz.func9, Tryz.ntmps9
    go_wp2
    go_quiet (fail)
    go_wp2
    go_ret
    exact ⟨ret_bool HE.out.symm, Below.drewN (hW _) _⟩
  · have hd : decide ((5 : Int) < (n1 : Int)) = false := by simp; omega
    obtain ⟨cn, hcn⟩ : ∃ cn, countOf sh = cn := ⟨_, rfl⟩
    rw [hcn] at hcb1 hcb2
    have HC := hide hcn
    clear hcn
    by_cases hcn : cn = n2
    · have hb : (cn != (n2 : Int)) = false := by simp [hcn]
      have HCN := hide hcn
      clear hcn
      go_enter Tryz.func9, Tryz.ntmps9
      go_wp2
      go_quiet ((go_at_call 41; exact Calls.quiet_of_same (l3Count_eq _ _ _ sh _ (((unhide H1).alloc _).drewN _) cn HC)))
      go_wp2
      go_loopw [3, 4] (fun i v wr => ∃ k : Nat, k ≤ n2 ∧ i = .int .i64 k ∧ Hid ((dt.take k).all (dataOk c) = true) ∧ wr = (w.alloc (.cells #[.bool c, .slice a1 n1 c1, .slice a2 n2 c2] 25)).drewN nq) (fun i _ _ => n2 - (intOf i).toNat)
      case atStart => exact ⟨0, Nat.zero_le _, rfl, rfl, rfl⟩
      case round =>
        obtain ⟨k, hk, rfl, hall, rfl⟩ := hrel
        by_cases hlt : k < n2
        · obtain ⟨b, off, rfl, hblt, hc⟩ := (unhide H2).get hlt
          have hks : Hid (k < dt.length) := by show k < dt.length; rw [unhide hl2]; exact hlt
          obtain ⟨x, hx⟩ : ∃ x, x = dt.getD k 0 := ⟨_, rfl⟩
          rw [← hx] at hc
          have HX := hide hx
          clear hx
          have hN : ∀ {r : Bool}, dataOk c x = r → r = false → Hid (arrOk c sh dt = false) := fun h1 h2 => arr_data (all_not dt (dataOk c) k (unhide hks) (by rw [← unhide HX, h1, h2]))
          have hY : ∀ {r : Bool}, dataOk c x = r → r = true → Hid ((dt.take (k + 1)).all (dataOk c) = true) := fun h1 h2 => all_step dt (dataOk c) k (unhide hks) (unhide hall) (by rw [← unhide HX, h1, h2])
          cases c with
          | true =>
            cases hr : runeOk x with
            | true =>
              have hxb := of_decide_eq_true hr
              have HR := hide hr
              have HA := hY (show dataOk true x = true by unfold dataOk; rw [hr, decide_eq_true (by omega)]; rfl) rfl
              have hx1 : x ≤ 1000000000000000 := by omega
              have hx2 : -1000000000000000 ≤ x := by omega
              clear hr hxb hN hY
              go_wp2_with (go_at_call 42; refine (l1RuneOk_eq _ _ true HR).mono ?_; rintro e w' ⟨rfl, rfl⟩)
              go_roundw
              case rel => exact ⟨k + 1, by omega, by go_num, HA, by first | exact trivial | rfl⟩
              case measure => simp [intOf]; omega
            | false =>
              have HR := hide hr
              have HE := hN (show dataOk true x = false by unfold dataOk; rw [hr]; rfl) rfl
              clear hr hN hY
              go_wp2_with (go_at_call 42; refine (l1RuneOk_eq _ _ false HR).mono ?_; rintro e w' ⟨rfl, rfl⟩)
              go_ret
              exact ⟨ret_bool HE.out.symm, Below.drewN (hW _) _⟩
          | false =>
            by_cases hx1 : 1000000000000000 < x
            · have HE := hN (show dataOk false x = false by unfold dataOk; rw [decide_eq_false (by omega)]; rfl) rfl
              clear hN hY
              go_wp2
              go_ret
              exact ⟨ret_bool HE.out.symm, Below.drewN (hW _) _⟩
            · by_cases hx2 : x < -1000000000000000
              · have HE := hN (show dataOk false x = false by unfold dataOk; rw [decide_eq_false (by omega)]; rfl) rfl
                clear hN hY
                go_wp2
                go_ret
                exact ⟨ret_bool HE.out.symm, Below.drewN (hW _) _⟩
              · have HA := hY (show dataOk false x = true by unfold dataOk; rw [decide_eq_true (by omega)]; rfl) rfl
                clear hN hY
                go_wp2
                go_roundw
                case rel => exact ⟨k + 1, by omega, by go_num, HA, by first | exact trivial | rfl⟩
                case measure => simp [intOf]; omega
        · have HA : Hid (dt.all (dataOk c) = true) := by
            have := unhide hall
            rwa [List.take_of_length_le (by rw [unhide hl2]; omega)] at this
          have HE := hide (arr_good (unhide hl1) (unhide hl2) (by omega) ((unhide HC).trans (unhide HCN)) (unhide HA))
          go_wp2
          go_ret
          exact ⟨ret_bool HE.out.symm, Below.drewN (hW _) _⟩
    · have hb : (cn != (n2 : Int)) = true := by simp [hcn]
      have HE := hide (arr_count (c := c) (sh := sh) (unhide hl2) (by rw [unhide HC]; exact hcn))
      clear hcn
      go_enter Tryz.func9, Tryz.ntmps9
      go_wp2
      go_quiet ((go_at_call 41; exact Calls.quiet_of_same (l3Count_eq _ _ _ sh _ (((unhide H1).alloc _).drewN _) cn HC)))
      go_wp2
      go_ret
      exact ⟨ret_bool HE.out.symm, Below.drewN (hW _) _⟩

theorem ArrayOk_eq (c : Bool) (a1 a2 : Option Addr) (n1 n2 c1 c2 : Nat) (sh dt : List Int) (w : World) (h1 : Row w a1 n1 sh) (h2 : Row w a2 n2 dt) (r : Bool) (hr : Hid (arrOk c sh dt = r)) :
    Calls Tryz.prog 9 #[.agg #[.bool c, .slice a1 n1 c1, .slice a2 n2 c2]] w fun e w' => e = .returned (.bool r) ∧ Below w.heap.size w w' := by
  rw [← hr.out]; exact ArrayOk_any c a1 a2 n1 n2 c1 c2 sh dt w h1 h2

end Go.Proofs.YtkgcmpmgaghdhaaGreatDoor
namespace Go.Proofs.YtkgcmpmgaghdhaaGreatDoor
open Go.RowKit

theorem Box.free {w : World} {p : Nat} {c : Bool} {v1 v2 : Value} (h : Box w p c v1 v2) (o : Nat) : w.frozen? ⟨p, o, none⟩ = false := frozen_of_row w p o _ _ h

theorem Box.all {w : World} {p : Nat} {c : Bool} {v1 v2 : Value} (h : Box w p c v1 v2) : w.cell? ⟨p, 0, none⟩ = some (.bool c) ∧ w.cell? ⟨p, 1, none⟩ = some v1 ∧ w.cell? ⟨p, 2, none⟩ = some v2 ∧ w.frozen? ⟨p, 0, none⟩ = false ∧ w.frozen? ⟨p, 1, none⟩ = false ∧ w.frozen? ⟨p, 2, none⟩ = false ∧ p < w.heap.size :=
  ⟨h.cells.1, h.cells.2.1, h.cells.2.2, h.free _, h.free _, h.free _, h.lt⟩

theorem Box.set2 {w : World} {p : Nat} {c : Bool} {v1 v2 : Value} (h : Box w p c v1 v2) (v : Value) : Box (w.setCell ⟨p, 2, none⟩ v) p c v1 v := by
  unfold Box at h ⊢
  rw [heap_setCell_same w p 2 _ _ _ h]
  simp

theorem Box.other {w : World} {p : Nat} {c : Bool} {v1 v2 : Value} (h : Box w p c v1 v2) {q : Addr} (hq : p ≠ q.block) (v : Value) : Box (w.setCell q v) p c v1 v2 := (heap_setCell_other w q p v hq).trans h

theorem Box.low {w w' : World} {p B : Nat} {c : Bool} {v1 v2 : Value} (h : Box w p c v1 v2) (hp : p < B) (hb : Below B w w') : Box w' p c v1 v2 := (hb.block p hp).trans h

theorem Box.grown {w w1 : World} {p base n : Nat} {c : Bool} {v1 v2 v : Value} {xs : List Value} (h : Box w p c v1 v2) (hown : w.ownsRow base 3 1 v n xs) (o : Obj) (hg : (w.alloc o).grownBy w1 v.ownBlock) : Box w1 p c v1 v2 := by
  refine (hg.block p (by have := h.lt; simp; omega) ?_).trans (h.alloc o)
  rcases hown.2 with ⟨rfl, _⟩ | ⟨g, cap, cur, rfl, _, hh, _⟩
  · exact fun e => by cases e
  · intro e
    have e' : p = g := by simpa [Value.ownBlock] using e
    subst e'
    unfold Box at h
    rw [hh] at h
    simp at h

theorem owns_box_set {w : World} {base n p : Nat} {v : Value} {xs : List Value} {c : Bool} {v1 v2 : Value} (h : w.ownsRow base 3 1 v n xs) (hb : Box w p c v1 v2) (o : Nat) (u : Value) : (w.setCell ⟨p, o, none⟩ u).ownsRow base 3 1 v n xs := by
  obtain ⟨h1, h2⟩ := h
  refine ⟨h1, ?_⟩
  rcases h2 with h2 | ⟨g, cap, cur, hv, hg, hh, r⟩
  · exact Or.inl h2
  · refine Or.inr ⟨g, cap, cur, hv, hg, ?_, r⟩
    rw [Below.heap_setCell _ _ _ _ (by
      intro e
      have e' : g = p := e
      subst e'
      unfold Box at hb
      rw [hh] at hb
      simp at hb)]
    exact hh

end Go.Proofs.YtkgcmpmgaghdhaaGreatDoor
namespace Go.Proofs.YtkgcmpmgaghdhaaGreatDoor
open Go.RowKit

/-- Block pr holds a reader of at most 1000 bytes, which lie below it. -/
def RdOk (w : World) (pr : Nat) : Prop :=
  ∃ (a : Option Addr) (n c p : Nat), w.heap[pr]? = some (.cells #[.slice a n c, .int .i64 (p : Nat)] 115 (0, 0)) ∧ n ≤ 1000 ∧ p ≤ n ∧ (n = 0 ∨ ∃ b off, a = some ⟨b, off, none⟩ ∧ b < pr ∧ ∀ i, i < n → ∃ v : Nat, v ≤ 255 ∧ w.cell? ⟨b, off + i, none⟩ = some (.int .u8 (v : Nat)))

theorem RdOk.lt {w : World} {pr : Nat} (h : RdOk w pr) : pr < w.heap.size := by obtain ⟨a, n, c, p, hc, _⟩ := h; exact lt_of_block hc

theorem RdOk.but {S : Nat → Prop} {w w' : World} {pr : Nat} (h : RdOk w pr) (hb : But S w w') (hs : ∀ k, S k → pr < k) : RdOk w' pr := by
  have hl := h.lt
  obtain ⟨a, n, c, p, hc, h1, h2, h3⟩ := h
  refine ⟨a, n, c, p, (hb.block pr hl (fun e => by have := hs _ e; omega)).trans hc, h1, h2, ?_⟩
  rcases h3 with h3 | ⟨b, off, e, hbl, hv⟩
  · exact .inl h3
  · refine .inr ⟨b, off, e, hbl, fun i hi => ?_⟩
    obtain ⟨v, hv1, hv2⟩ := hv i hi
    exact ⟨v, hv1, (hb.cellAt (by omega) (fun e => by have := hs _ e; omega)).trans hv2⟩

theorem RdOk.below {w w' : World} {pr : Nat} (h : RdOk w pr) (hb : Below w.heap.size w w') : RdOk w' pr := h.but (S := fun _ => False) (But.of_below hb) (fun _ h => h.elim)

theorem RdOk.set {w : World} {pr : Nat} {a : Option Addr} {n c p q : Nat} (hc : w.heap[pr]? = some (.cells #[.slice a n c, .int .i64 (p : Nat)] 115 (0, 0))) (h1 : n ≤ 1000) (h2 : q ≤ n) (h3 : n = 0 ∨ ∃ b off, a = some ⟨b, off, none⟩ ∧ b < pr ∧ ∀ i, i < n → ∃ v : Nat, v ≤ 255 ∧ w.cell? ⟨b, off + i, none⟩ = some (.int .u8 (v : Nat))) : RdOk (w.setCell ⟨pr, 1, none⟩ (.int .i64 (q : Nat))) pr := by
  refine ⟨a, n, c, q, ?_, h1, h2, ?_⟩
  · rw [heap_setCell_same w pr 1 _ _ _ hc]
    simp
  · rcases h3 with h3 | ⟨b, off, e, hbl, hv⟩
    · exact .inl h3
    · refine .inr ⟨b, off, e, hbl, fun i hi => ?_⟩
      obtain ⟨v, hv1, hv2⟩ := hv i hi
      exact ⟨v, hv1, (World.cell?_setCell_other _ _ _ _ (by simp)).trans hv2⟩

set_option maxHeartbeats 2000000 in
theorem next_any (pr : Nat) (w : World) (h : RdOk w pr) :
    Calls Tryz.prog 72 #[.pointer (some ⟨pr, 0, none⟩)] w fun e w' => (∃ v : Nat, v ≤ 255 ∧ e = .returned (.int .i64 (v : Nat))) ∧ RdOk w' pr ∧ But (fun x => x = pr) w w' := by
  have hl := h.lt
  have HR := hide h
  obtain ⟨a, n, c, p, hc, h1, h2, h3⟩ := h
  have HC := hide hc
  have H3 := hide h3
  have c0 : w.cell? ⟨pr, 0, none⟩ = some (.slice a n c) := by simp [World.cell?, hc]
  have c1 : w.cell? ⟨pr, 1, none⟩ = some (.int .i64 (p : Nat)) := by simp [World.cell?, hc]
  have f1 : w.frozen? ⟨pr, 1, none⟩ = false := frozen_of_row w pr 1 _ _ hc
  by_cases hlt : p < n
  · rcases h3 with h0 | ⟨b, off, rfl, hbl, hv⟩
    · omega
    obtain ⟨v, hv1, hv2⟩ := hv p hlt
    have hw : IntKind.i64.wrap (v : Int) = (v : Int) := by rw [IntKind.wrap_i64]; omega
    have HLT := hide hlt
    clear hlt hv hc
    go_enter Tryz.func72, Tryz.ntmps72
    go_wp2_with fail
    have hd : decide ((p : Int) < (n : Int)) = true := decide_eq_true (by have := unhide HLT; omega)
    go_big_quiet (fail)
    have hlt := unhide HLT
    clear hd
    go_wp2_with fail
    have hpz : (p : Int) < (n : Int) := by omega
    go_quiet (fail)
    go_wp2_with fail
    go_ret
    refine ⟨⟨v, hv1, rfl⟩, ?_, ?_⟩
    · exact RdOk.set (q := p + 1) (unhide HC) h1 (by omega) (unhide H3)
    · first | exact (But.of_below (S := fun x => x = pr) (Below.drewN (Below.refl _ w) _)).setCell (p := ⟨pr, 1, none⟩) rfl _ | exact (But.of_below (S := fun x => x = pr) (Below.drewN (Below.drewN (Below.refl _ w) _) _)).setCell (p := ⟨pr, 1, none⟩) rfl _
  · have HLT := hide hlt
    clear hlt h3 hc
    go_enter Tryz.func72, Tryz.ntmps72
    go_wp2_with fail
    have hd : decide ((p : Int) < (n : Int)) = false := decide_eq_false (by have := unhide HLT; omega)
    go_big_quiet (fail)
    have hlt := unhide HLT
    clear hd
    go_wp2_with fail
    go_ret
    exact ⟨⟨0, by omega, rfl⟩, (unhide HR).below (Below.drewN (Below.refl _ _) _), But.of_below (Below.drewN (Below.refl _ _) _)⟩

end Go.Proofs.YtkgcmpmgaghdhaaGreatDoor
namespace Go.Proofs.YtkgcmpmgaghdhaaGreatDoor
open Go.RowKit

theorem modN (k m : Nat) (hm : 0 < m) : ∃ j : Nat, j < m ∧ (k : Int).tmod (m : Int) = (j : Int) ∧ (k : Int) % (m : Int) = (j : Int) := ⟨k % m, Nat.mod_lt _ hm, by rw [Int.tmod_eq_emod_of_nonneg (by omega)]; rfl, rfl⟩

theorem lits (w : World) (l : List Int) (j : Nat) (hj : j < l.length) : (w.alloc (.cells (l.map (Value.int .i64)).toArray 3)).cell? ⟨w.heap.size, j, none⟩ = some (.int .i64 (l.getD j 0)) :=
  Blk.cell (show Blk _ _ l from World.alloc_heap_new w _) hj

theorem rank_lit (j : Nat) (hj : j < 12) : ∃ rk : Nat, (rk : Int) = ([1, 1, 1, 0, 2, 2, 3, 0, 2, 4, 1, 5] : List Int).getD j 0 ∧ rk ≤ 5 := by
  have : j = 0 ∨ j = 1 ∨ j = 2 ∨ j = 3 ∨ j = 4 ∨ j = 5 ∨ j = 6 ∨ j = 7 ∨ j = 8 ∨ j = 9 ∨ j = 10 ∨ j = 11 := by omega
  rcases this with rfl | rfl | rfl | rfl | rfl | rfl | rfl | rfl | rfl | rfl | rfl | rfl <;>
    first | (refine ⟨0, ?_⟩; simp; done) | (refine ⟨1, ?_⟩; simp; done) | (refine ⟨2, ?_⟩; simp; done) | (refine ⟨3, ?_⟩; simp; done) | (refine ⟨4, ?_⟩; simp; done) | (refine ⟨5, ?_⟩; simp; done)

set_option maxRecDepth 20000 in
set_option maxHeartbeats 2000000 in
theorem l3Num_any (pr : Nat) (w : World) (h : RdOk w pr) :
    Calls Tryz.prog 141 #[.pointer (some ⟨pr, 0, none⟩)] w fun e w' => (∃ v : Int, -1000000000000000 ≤ v ∧ v ≤ 1000000000000000 ∧ e = .returned (.int .i64 v)) ∧ RdOk w' pr ∧ But (fun x => x = pr) w w' := by
  have hcall := next_any pr w h
  clear h
  go_enter Tryz.func141, Tryz.ntmps141
  go_wp2_with fail
  refine hcall.mono ?_
  rintro e w1 ⟨⟨k, hk, rfl⟩, hr, hb⟩
  have HR := hide hr
  have HB := hide hb
  clear hr hb hcall
  by_cases h8 : 248 ≤ k
  · have h8z : (248 : Int) ≤ (k : Int) := by omega
    obtain ⟨j, hj, q1, q2⟩ := modN k 4 (by omega)
    have hc := lits w1 [1000000000000000, -1000000000000000, 999999999, 40000000] j (by simpa using hj)
    obtain ⟨x, hx⟩ : ∃ x, x = ([1000000000000000, -1000000000000000, 999999999, 40000000] : List Int).getD j 0 := ⟨_, rfl⟩
    have hxb : -1000000000000000 ≤ x ∧ x ≤ 1000000000000000 := by
      rw [hx]
      have : j = 0 ∨ j = 1 ∨ j = 2 ∨ j = 3 := by omega
      rcases this with rfl | rfl | rfl | rfl <;> simp
    rw [← hx] at hc
    simp only [List.map_cons, List.map_nil] at hc
    have hjz : (j : Int) < 4 := by omega
    have q1' : (k : Int).tmod 4 = (j : Int) := q1
    have q2' : (k : Int) % 4 = (j : Int) := q2
    have hw4 : IntKind.i64.wrap (j : Int) = (j : Int) := by rw [IntKind.wrap_i64]; omega
    clear hx q1 q2
    go_wp2_with fail
    go_ret
    exact ⟨⟨x, hxb.1, hxb.2, rfl⟩, (unhide HR).below ((Below.refl _ _).alloc (Nat.le_refl _) _), (unhide HB).alloc _⟩
  · have h8z : ¬ (248 : Int) ≤ (k : Int) := by omega
    obtain ⟨j, hj, q1, q2⟩ := modN k 23 (by omega)
    have q1' : (k : Int).tmod 23 = (j : Int) := q1
    have q2' : (k : Int) % 23 = (j : Int) := q2
    have hw : IntKind.i64.wrap ((j : Int) - 6) = (j : Int) - 6 := by rw [IntKind.wrap_i64]; omega
    clear q1 q2
    go_wp2_with fail
    go_ret
    exact ⟨⟨(j : Int) - 6, by omega, by omega, rfl⟩, unhide HR, unhide HB⟩

theorem owns_but {S : Nat → Prop} {w w' : World} {base n g cap : Nat} {xs : List Value} (h : w.ownsRow base 3 1 (.slice (some ⟨g, 0, none⟩) n cap) n xs) (hb : But S w w') (hs : ¬ S g) : w'.ownsRow base 3 1 (.slice (some ⟨g, 0, none⟩) n cap) n xs := by
  refine ⟨h.1, ?_⟩
  rcases h.2 with h0 | ⟨g', cap', cur, e, hge, hh, hr⟩
  · exact .inl h0
  · cases e
    exact .inr ⟨g, cap, cur, rfl, hge, (hb.block g (lt_of_block hh) hs).trans hh, hr⟩

theorem owns_ne {w : World} {base n g cap pr : Nat} {xs : List Value} {a : Option Addr} {l c p : Nat} (h : w.ownsRow base 3 1 (.slice (some ⟨g, 0, none⟩) n cap) n xs) (hp : w.heap[pr]? = some (.cells #[.slice a l c, .int .i64 (p : Nat)] 115 (0, 0))) : g ≠ pr := by
  rcases h.2 with ⟨e, _⟩ | ⟨g', cap', cur, e, hge, hh, hr⟩
  · cases e
  · cases e
    intro e
    subst e
    rw [hp] at hh
    have := congrArg (fun o => match o with | some (.cells _ t _) => t | _ => 0) hh
    simp at this

theorem but_grown {w w1 : World} {o : Obj} {g : Nat} (hg : (w.alloc o).grownBy w1 (some g)) : But (fun x => x = g) w w1 :=
  ⟨hg.os, hg.tape, hg.output, by have := hg.size; simp at this; omega, fun k hk hn => (hg.block k (by simp; omega) (fun e => hn (by simpa using e))).trans (Below.heap_alloc w o k hk)⟩

theorem owns_from {w : World} {base n g cap : Nat} {xs : List Value} (h : w.ownsRow base 3 1 (.slice (some ⟨g, 0, none⟩) n cap) n xs) : base ≤ g := by
  rcases h.2 with ⟨e, _⟩ | ⟨g', cap', cur, e, hge, hh, hr⟩
  · cases e
  · cases e; exact hge

/-- What an append to a list of the draw's own leaves. -/
theorem draw_grown {w w2 w3 : World} {o : Obj} {pr g : Nat} (hr : RdOk w2 pr) (hb : But (fun x => x = pr) w w2) (hp : pr < w.heap.size) (hge : w.heap.size ≤ g) (hg : (w2.alloc o).grownBy w3 (some g)) : RdOk w3 pr ∧ But (fun x => x = pr) w w3 := by
  have h := but_grown hg
  refine ⟨hr.but h (by rintro k rfl; omega), ?_⟩
  exact ⟨h.os.trans hb.os, h.tape.trans hb.tape, h.output.trans hb.output, by have := h.size; have := hb.size; omega, fun k hk hn => (h.block k (by have := hb.size; omega) (by rintro rfl; omega)).trans (hb.block k hk hn)⟩

set_option maxRecDepth 20000 in
set_option maxHeartbeats 4000000 in
theorem l3Shape_any (pr : Nat) (w : World) (h : RdOk w pr) :
    Calls Tryz.prog 112 #[.pointer (some ⟨pr, 0, none⟩)] w fun e w' => (∃ (g n cap : Nat) (zs : List Int), e = .returned (.slice (some ⟨g, 0, none⟩) n cap) ∧ n ≤ 5 ∧ w'.ownsRow w.heap.size 3 1 (.slice (some ⟨g, 0, none⟩) n cap) n (zs.map (Value.int .i64))) ∧ RdOk w' pr ∧ But (fun x => x = pr) w w' := by
  have hcall := next_any pr w h
  have hlw := h.lt
  clear h
  obtain ⟨i0, hi, hz0, hz1, hz2⟩ := info_parts info_int
  go_enter Tryz.func112, Tryz.ntmps112
  go_wp2_with fail
  refine hcall.mono ?_
  rintro e w1 ⟨⟨k, hk, rfl⟩, hr, hb⟩
  have HR := hide hr
  have HB := hide hb
  clear hr hb hcall
  obtain ⟨j, hj, q1, q2⟩ := modN k 12 (by omega)
  have q1' : (k : Int).tmod 12 = (j : Int) := q1
  have q2' : (k : Int) % 12 = (j : Int) := q2
  have hc := lits w1 [1, 1, 1, 0, 2, 2, 3, 0, 2, 4, 1, 5] j (by simpa using hj)
  obtain ⟨rk, hrk, hrk5⟩ := rank_lit j hj
  rw [← hrk] at hc
  simp only [List.map_cons, List.map_nil] at hc
  have hjz : (j : Int) < 12 := by omega
  have hw12 : IntKind.i64.wrap (j : Int) = (j : Int) := by rw [IntKind.wrap_i64]; omega
  clear hrk q1 q2
  go_wp2_with fail
  obtain ⟨W, hW⟩ : ∃ W, W = (w1.alloc (.cells #[.int .i64 1, .int .i64 1, .int .i64 1, .int .i64 0, .int .i64 2, .int .i64 2, .int .i64 3, .int .i64 0, .int .i64 2, .int .i64 4, .int .i64 1, .int .i64 5] 3)).alloc (.cells #[] 3) := ⟨_, rfl⟩
  have HRW : Hid (RdOk W pr) := by rw [hW]; exact ((unhide HR).below ((Below.refl _ _).alloc (Nat.le_refl _) _)).below ((Below.refl _ _).alloc (Nat.le_refl _) _)
  have HBW : Hid (But (fun x => x = pr) w W) := by rw [hW]; exact ((unhide HB).alloc _).alloc _
  have HOW : Hid (W.ownsRow w.heap.size 3 1 (.slice (some ⟨w1.heap.size + 1, 0, none⟩) 0 0) 0 (([] : List Int).map (Value.int .i64))) := by
    rw [hW]
    have := owns_empty (w1.alloc (.cells #[.int .i64 1, .int .i64 1, .int .i64 1, .int .i64 0, .int .i64 2, .int .i64 2, .int .i64 3, .int .i64 0, .int .i64 2, .int .i64 4, .int .i64 1, .int .i64 5] 3))
    rw [World.size_alloc] at this
    exact owns_mono this (by have := (unhide HB).size; omega)
  rw [← hW]
  clear hW hc HR HB q1' q2' hw12
  generalize w1.heap.size + 1 = g0 at *
  go_loopw [5, 6] (fun v i wr => ∃ (n g cap : Nat) (zs : List Int), n ≤ rk ∧ i = .int .i64 (n : Nat) ∧ v = .slice (some ⟨g, 0, none⟩) n cap ∧ Hid (wr.ownsRow w.heap.size 3 1 (.slice (some ⟨g, 0, none⟩) n cap) n (zs.map (Value.int .i64))) ∧ Hid (RdOk wr pr) ∧ Hid (But (fun x => x = pr) w wr)) (fun _ i _ => rk - (intOf i).toNat)
  case atStart => exact ⟨0, g0, 0, [], Nat.zero_le _, rfl, rfl, HOW, HRW, HBW⟩
  case round =>
    clear HOW HRW HBW
    obtain ⟨n, g, cap, zs, hn, rfl, rfl, ho, hr, hb⟩ := hrel
    by_cases hlt : n < rk
    · have hnz : (n : Int) < (rk : Int) := by omega
      have hcall := next_any pr wr (unhide hr)
      have HNE : Hid (g ≠ pr) := by obtain ⟨_, _, _, _, hp, _⟩ := unhide hr; exact owns_ne (unhide ho) hp
      go_upto_if 25 with (go_at_call 72; refine hcall.mono ?_; rintro e w2 ⟨⟨v, hv, rfl⟩, hr2, hb2⟩; have HR2 := hide hr2; have HB2' := hide hb2; obtain ⟨j5, hj5, q5, q5'⟩ := modN v 5 (by omega); (have r5 : (v : Int).tmod 5 = (j5 : Int) := q5); (have r5' : (v : Int) % 5 = (j5 : Int) := q5'); clear hr2 hb2 q5 q5')
      have HB2 : Hid (But (fun x => x = pr) w w2) := ((unhide hb).trans (unhide HB2')).mono (by rintro x (h | h) <;> exact h)
      have HO2 : Hid (w2.ownsRow w.heap.size 3 1 (.slice (some ⟨g, 0, none⟩) n cap) n (zs.map (Value.int .i64))) := owns_but (unhide ho) (unhide HB2') (unhide HNE)
      clear r5 r5' ho hr hb HB2' hcall
      go_cut [7] (fun v wx => w2 = wx ∧ ∃ m : Nat, m ≤ 4 ∧ v = .int .i64 (m : Nat))
      case first => as_aux_lemma =>
        by_cases h3 : 3 < rk
        · have h3z : (3 : Int) < (rk : Int) := by omega
          obtain ⟨j2, hj2, q2, q2'⟩ := modN j5 2 (by omega)
          have r2 : (j5 : Int).tmod 2 = (j2 : Int) := q2
          have r2' : (j5 : Int) % 2 = (j2 : Int) := q2'
          clear q2 q2'
          go_wp2_with fail
          go_meet
          case rel => exact ⟨rfl, j2 + 1, by omega, by simp⟩
        · have h3z : ¬ (3 : Int) < (rk : Int) := by omega
          go_wp2_with fail
          go_meet
          case rel => exact ⟨rfl, j5, by omega, rfl⟩
      case rest =>
        obtain ⟨rfl, m, hm4, rfl⟩ := hcut
        go_upto_region 10 with fail
        go_cut [34] (fun v wx => w2 = wx ∧ ∃ b : Bool, v = .bool b)
        case first => as_aux_lemma =>
          by_cases hm0 : m = 0
          · have g0 : ((m : Int) == 0) = true := by simp [hm0]
            go_wp2_with fail
            go_meet
            case rel => exact ⟨rfl, _, rfl⟩
          · have g0 : ((m : Int) == 0) = false := by simp; omega
            go_wp2_with fail
            go_meet
            case rel => exact ⟨rfl, _, rfl⟩
        case rest =>
          obtain ⟨rfl, b, rfl⟩ := hcut
          go_upto_if 34 with fail
          go_cut [7] (fun v wx => w2 = wx ∧ ∃ m : Nat, m ≤ 4 ∧ v = .int .i64 (m : Nat))
          case first => as_aux_lemma =>
            cases b
            · go_wp2_with fail
              go_meet
              case rel => exact ⟨rfl, m, by omega, rfl⟩
            · go_wp2_with fail
              go_meet
              case rel => exact ⟨rfl, 2, by omega, rfl⟩
          case rest =>
            obtain ⟨rfl, m', hm4', rfl⟩ := hcut
            have hsz2 := (unhide HB2).size
            go_wp2_with (at_builtin; refine wpList_append_lies _ rfl _ _ 23 rfl w.heap.size 3 i0 (.int .i64 0) 1 8 Tryz.underlying23 hi hz0 hz1 hz2 rfl (by decide) _ _ _ rfl (owns_below (unhide HO2) (Nat.le_refl _) ((Below.refl _ _).alloc (Nat.le_refl _) _)) ⟨w2.heap.size, 0, none⟩ 1 1 [.int .i64 (m' : Nat)] rfl rfl (cells_new _ _) (one_one _) (by omega) (by unfold maxLen; omega) (by omega) (by simp; omega) (w2.heap.size + 1) (by simp) ?_; intro g' cap' w7 hown' hgrow hat hlt7; have HOW := hide hown'; have HD := hide (draw_grown (unhide HR2) (unhide HB2) hlw (owns_from (unhide HO2)) hgrow); clear hown' hgrow hat hlt7)
            go_roundw
            case rel => exact ⟨n + 1, g', cap', zs ++ [(m' : Int)], by omega, by go_num, rfl, by show World.ownsRow _ _ _ _ _ _ _; rw [List.map_append]; exact unhide HOW, hide (unhide HD).1, hide (unhide HD).2⟩
            case measure => simp [intOf]; omega
    · have e : n = rk := by omega
      subst e
      go_wp2_with fail
      go_ret
      exact ⟨⟨g, n, cap, zs, rfl, hrk5, unhide ho⟩, unhide hr, unhide hb⟩

end Go.Proofs.YtkgcmpmgaghdhaaGreatDoor
namespace Go.Proofs.YtkgcmpmgaghdhaaGreatDoor
open Go.RowKit

theorem Box.free' {w : World} {p : Nat} {c : Bool} {v1 v2 : Value} (h : Box w p c v1 v2) : w.cell? ⟨p, 0, none⟩ = some (.bool c) ∧ w.cell? ⟨p, 1, none⟩ = some v1 ∧ w.cell? ⟨p, 2, none⟩ = some v2 ∧ w.frozen? ⟨p, 0, none⟩ = false ∧ w.frozen? ⟨p, 1, none⟩ = false ∧ w.frozen? ⟨p, 2, none⟩ = false ∧ p < w.heap.size :=
  ⟨h.cells.1, h.cells.2.1, h.cells.2.2, frozen_of_row w p _ _ _ h, frozen_of_row w p _ _ _ h, frozen_of_row w p _ _ _ h, h.lt⟩

theorem Box.sets {w : World} {p : Nat} {c c' : Bool} {v1 v2 u1 u2 : Value} (h : Box w p c v1 v2) : Box (((w.setCell ⟨p, 0, none⟩ (.bool c')).setCell ⟨p, 1, none⟩ u1).setCell ⟨p, 2, none⟩ u2) p c' u1 u2 := by
  unfold Box at h ⊢
  have h1 := heap_setCell_same w p 0 _ _ (.bool c') h
  have h2 := heap_setCell_same _ p 1 _ _ u1 h1
  have h3 := heap_setCell_same _ p 2 _ _ u2 h2
  simpa using h3

theorem Row.notBox {w : World} {a : Option Addr} {n p : Nat} {zs : List Int} {c : Bool} {a1 a2 : Option Addr} {l1 l2 c1 c2 : Nat} (h : Row w a n zs) (hb : Box w p c (.slice a1 l1 c1) (.slice a2 l2 c2)) {k : Nat} (hk : At a n k) : k ≠ p := by
  rcases h.at_ with h0 | ⟨g, off, rfl, hg, hc⟩
  · exact absurd h0 hk.1
  · have e := at_eq hk
    subst e
    rintro rfl
    have h1 := hc 0 (by have := hk.1; omega)
    unfold Box at hb
    simp only [World.cell?, hb] at h1
    simp at h1
    match off, h1 with
    | 0, h1 => simp at h1
    | 1, h1 => simp at h1
    | 2, h1 => simp at h1

theorem Row.otherB {w : World} {a : Option Addr} {n : Nat} {zs : List Int} (h : Row w a n zs) {q : Addr} (ha : ∀ k, At a n k → k ≠ q.block) (v : Value) : Row (w.setCell q v) a n zs :=
  ((But.refl (fun k => k = q.block) w).setCell rfl v).row h (fun k hk hk' => ha k hk' hk)

theorem Row.sets {w : World} {a : Option Addr} {n p : Nat} {zs : List Int} {c : Bool} {a1 a2 : Option Addr} {l1 l2 c1 c2 : Nat} (h : Row w a n zs) (hb : Box w p c (.slice a1 l1 c1) (.slice a2 l2 c2)) (u0 u1 u2 : Value) : Row (((w.setCell ⟨p, 0, none⟩ u0).setCell ⟨p, 1, none⟩ u1).setCell ⟨p, 2, none⟩ u2) a n zs :=
  ((h.otherB (fun _ hk => h.notBox hb hk) _).otherB (fun _ hk => h.notBox hb hk) _).otherB (fun _ hk => h.notBox hb hk) _

end Go.Proofs.YtkgcmpmgaghdhaaGreatDoor
namespace Go.Proofs.YtkgcmpmgaghdhaaGreatDoor
open Go.RowKit

/-- What a spec function's answer of an array and a code is. -/
def GivesRow (w : World) (r : Ans) (e : Ending) (w' : World) : Prop :=
  ∃ b1 m1 d1 b2 m2 d2, e = .returned (.tuple #[.agg #[.bool r.c, .slice b1 m1 d1, .slice b2 m2 d2], .int .i64 r.code]) ∧ Row w' b1 m1 r.sh ∧ Row w' b2 m2 r.dt ∧ Below w.heap.size w w'

theorem dataOk_bd {c : Bool} {sh dt : List Int} (h : arrOk c sh dt = true) {k : Nat} (hk : k < dt.length) : -1000000000000000 ≤ dt.getD k 0 ∧ dt.getD k 0 ≤ 1000000000000000 := by
  have h1 : dt.all (dataOk c) = true := by simp [arrOk] at h; simpa using h.2.2
  have h2 := List.all_eq_true.mp h1 (dt.getD k 0) (by simp [hk])
  simp [dataOk] at h2
  simpa using h2.2

theorem boxes2 {w w1 : World} {c : Bool} {v1 v2 : Value} (hb : Below ((w.alloc (.cells #[.bool c, v1, v2] 25)).alloc (.cells #[.bool false, .slice none 0 0, .slice none 0 0] 25)).heap.size ((w.alloc (.cells #[.bool c, v1, v2] 25)).alloc (.cells #[.bool false, .slice none 0 0, .slice none 0 0] 25)) w1) :
    Box w1 w.heap.size c v1 v2 ∧ Box w1 (w.heap.size + 1) false (.slice none 0 0) (.slice none 0 0) ∧ Below w.heap.size w w1 := by
  have e : (w.alloc (.cells #[.bool c, v1, v2] 25)).heap.size = w.heap.size + 1 := by simp
  refine ⟨((Box.new w c v1 v2).alloc _).below (Nat.le_refl _) hb, ?_, (((Below.refl _ _).alloc (Nat.le_refl _) _).alloc (by simp) _).trans (hb.mono (by simp; omega))⟩
  have := (Box.new (w.alloc (.cells #[.bool c, v1, v2] 25)) false (.slice none 0 0) (.slice none 0 0)).below (Nat.le_refl _) hb
  rwa [e] at this

theorem boxes3 {w w1 : World} {c d : Bool} {v1 v2 u1 u2 : Value} (hb : Below (((w.alloc (.cells #[.bool c, v1, v2] 25)).alloc (.cells #[.bool d, u1, u2] 25)).alloc (.cells #[.bool false, .slice none 0 0, .slice none 0 0] 25)).heap.size (((w.alloc (.cells #[.bool c, v1, v2] 25)).alloc (.cells #[.bool d, u1, u2] 25)).alloc (.cells #[.bool false, .slice none 0 0, .slice none 0 0] 25)) w1) :
    Box w1 w.heap.size c v1 v2 ∧ Box w1 (w.heap.size + 1) d u1 u2 ∧ Box w1 (w.heap.size + 2) false (.slice none 0 0) (.slice none 0 0) ∧ Below w.heap.size w w1 := by
  have e1 : (w.alloc (.cells #[.bool c, v1, v2] 25)).heap.size = w.heap.size + 1 := by simp
  have e2 : ((w.alloc (.cells #[.bool c, v1, v2] 25)).alloc (.cells #[.bool d, u1, u2] 25)).heap.size = w.heap.size + 2 := by simp
  refine ⟨(((Box.new w c v1 v2).alloc _).alloc _).below (Nat.le_refl _) hb, ?_, ?_, ((((Below.refl _ _).alloc (Nat.le_refl _) _).alloc (by simp) _).alloc (by simp <;> omega) _).trans (hb.mono (by simp; omega))⟩
  · have := ((Box.new (w.alloc (.cells #[.bool c, v1, v2] 25)) d u1 u2).alloc _).below (Nat.le_refl _) hb
    rwa [e1] at this
  · have := (Box.new ((w.alloc (.cells #[.bool c, v1, v2] 25)).alloc (.cells #[.bool d, u1, u2] 25)) false (.slice none 0 0) (.slice none 0 0)).below (Nat.le_refl _) hb
    rwa [e2] at this

end Go.Proofs.YtkgcmpmgaghdhaaGreatDoor
