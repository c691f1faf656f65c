import Derived.WalkKit
namespace Go.Proofs.YtcjhbeljhmocbaaDoor

def runeOk (v : Int) : Bool := decide (0 ≤ v ∧ v ≤ 1114111 ∧ (v < 55296 ∨ 57343 < v))

def inCells (v : Int) : Bool := decide (0 ≤ v ∧ v ≤ 10000)

/-- The product of the numbers of a shape that are not 0, going from the front; none when it passes 10000. -/
def prodFrom : List Int → Int → Option Int
  | [], n => some n
  | x :: r, n => if x = 0 then prodFrom r n else if 10000 < n * x then none else prodFrom r (n * x)

def countOf (sh : List Int) : Int :=
  if sh.all inCells then
    match prodFrom sh 1 with
    | none => -1
    | some n => if 0 ∈ sh then 0 else n
  else -1

def dataOk (c : Bool) (v : Int) : Bool := (!c || runeOk v) && decide (-1000000000000000 ≤ v ∧ v ≤ 1000000000000000)

def arrOk (c : Bool) (sh dt : List Int) : Bool := decide (sh.length ≤ 5) && (decide (countOf sh = dt.length) && dt.all (dataOk c))

theorem prodFrom_snoc (xs : List Int) (x n : Int) : prodFrom (xs ++ [x]) n = (prodFrom xs n).bind (fun m => prodFrom [x] m) := by
  induction xs generalizing n with
  | nil => simp [prodFrom]
  | cons y r ih =>
    simp only [List.cons_append, prodFrom]
    split
    · exact ih n
    · split
      · simp
      · exact ih _

theorem prodFrom_bd (xs : List Int) (n m : Int) (hx : xs.all inCells = true) (h1 : 1 ≤ n) (h2 : n ≤ 10000) (h : prodFrom xs n = some m) : 1 ≤ m ∧ m ≤ 10000 := by
  induction xs generalizing n with
  | nil => simp [prodFrom] at h; omega
  | cons y r ih =>
    simp only [List.all_cons, Bool.and_eq_true] at hx
    have hy : 0 ≤ y ∧ y ≤ 10000 := by simpa [inCells] using hx.1
    simp only [prodFrom] at h
    split at h
    · exact ih n hx.2 h1 h2 h
    · split at h
      · simp at h
      · rename_i h0 hle
        refine ih (n * y) hx.2 ?_ (by omega) h
        have : 1 * 1 ≤ n * y := Int.mul_le_mul h1 (by omega) (by omega) (by omega)
        omega

theorem prodFrom_none_append (xs ys : List Int) (n : Int) (h : prodFrom xs n = none) : prodFrom (xs ++ ys) n = none := by
  induction xs generalizing n with
  | nil => simp [prodFrom] at h
  | cons y r ih =>
    simp only [List.cons_append, prodFrom] at h ⊢
    split at h
    · rename_i h0; rw [if_pos h0]; exact ih n h
    · rename_i h0; rw [if_neg h0]
      split at h
      · rename_i h1; rw [if_pos h1]
      · rename_i h1; rw [if_neg h1]; exact ih _ h

theorem take_snoc (xs : List Int) (k : Nat) (h : k < xs.length) : xs.take (k + 1) = xs.take k ++ [xs.getD k 0] := by
  rw [List.take_succ_eq_append_getElem h]; simp [h]

theorem all_step (xs : List Int) (p : Int → Bool) (k : Nat) (h : k < xs.length) (ha : (xs.take k).all p = true) (hp : p (xs.getD k 0) = true) : (xs.take (k + 1)).all p = true := by
  rw [take_snoc xs k h, List.all_append, ha]; simpa using hp

theorem all_not (xs : List Int) (p : Int → Bool) (k : Nat) (h : k < xs.length) (hp : p (xs.getD k 0) = false) : xs.all p = false := by
  rw [← Bool.not_eq_true, List.all_eq_true]
  intro hh
  have := hh (xs.getD k 0) (by simp [h])
  rw [hp] at this
  exact absurd this (by simp)

theorem zero_step (xs : List Int) (k : Nat) (h : k < xs.length) : decide (0 ∈ xs.take (k + 1)) = (decide (0 ∈ xs.take k) || decide (xs.getD k 0 = 0)) := by
  rw [take_snoc xs k h]
  generalize xs.take k = t
  generalize xs.getD k 0 = y
  by_cases h1 : 0 ∈ t <;> by_cases h2 : y = 0 <;> simp [h1, h2]
  exact fun e => h2 e.symm

theorem prod_step0 (xs : List Int) (k : Nat) (h : k < xs.length) (n : Int) (hp : prodFrom (xs.take k) 1 = some n) (h0 : xs.getD k 0 = 0) : prodFrom (xs.take (k + 1)) 1 = some n := by
  rw [take_snoc xs k h, prodFrom_snoc, hp, h0]; simp [prodFrom]

theorem prod_step (xs : List Int) (k : Nat) (h : k < xs.length) (n : Int) (hp : prodFrom (xs.take k) 1 = some n) (h0 : xs.getD k 0 ≠ 0) (hl : n * xs.getD k 0 ≤ 10000) : prodFrom (xs.take (k + 1)) 1 = some (n * xs.getD k 0) := by
  rw [take_snoc xs k h, prodFrom_snoc, hp]; simp only [Option.bind_some, prodFrom, if_neg h0]; rw [if_neg (by omega)]

theorem prod_none (xs : List Int) (k : Nat) (h : k < xs.length) (n : Int) (hp : prodFrom (xs.take k) 1 = some n) (h0 : xs.getD k 0 ≠ 0) (hl : 10000 < n * xs.getD k 0) : prodFrom xs 1 = none := by
  have : prodFrom (xs.take (k + 1)) 1 = none := by
    rw [take_snoc xs k h, prodFrom_snoc, hp]; simp only [Option.bind_some, prodFrom, if_neg h0]; rw [if_pos hl]
  rw [← List.take_append_drop (k + 1) xs]
  exact prodFrom_none_append _ _ _ this

theorem count_bad (sh : List Int) (h : sh.all inCells = false) : countOf sh = -1 := by simp [countOf, h]
theorem count_big (sh : List Int) (h : prodFrom sh 1 = none) : countOf sh = -1 := by unfold countOf; rw [h]; split <;> rfl
theorem count_zero (sh : List Int) (n : Int) (ha : sh.all inCells = true) (h : prodFrom sh 1 = some n) (h0 : decide (0 ∈ sh) = true) : countOf sh = 0 := by
  unfold countOf; rw [h, if_pos ha]; simp only []; rw [if_pos (of_decide_eq_true h0)]
theorem count_n (sh : List Int) (n : Int) (ha : sh.all inCells = true) (h : prodFrom sh 1 = some n) (h0 : decide (0 ∈ sh) = false) : countOf sh = n := by
  unfold countOf; rw [h, if_pos ha]; simp only []; rw [if_neg (of_decide_eq_false h0)]

theorem count_bd (sh : List Int) : -1 ≤ countOf sh ∧ countOf sh ≤ 10000 := by
  unfold countOf
  split
  · rename_i ha
    split
    · omega
    · rename_i n hn
      have := prodFrom_bd sh 1 n ha (by omega) (by omega) hn
      split <;> omega
  · omega

end Go.Proofs.YtcjhbeljhmocbaaDoor
namespace Go.Proofs.YtcjhbeljhmocbaaDoor

def shapeB (sh : List Int) : Bool := decide (sh.length ≤ 5) && decide (0 ≤ countOf sh)

theorem shape_long {sh : List Int} {n : Nat} (hl : sh.length = n) (h : 5 < n) : shapeB sh = false := by unfold shapeB; rw [decide_eq_false (by omega)]; rfl
theorem shape_bad {sh : List Int} (h : countOf sh = -1) : shapeB sh = false := by unfold shapeB; rw [h]; simp
theorem shape_good {sh : List Int} {n : Nat} (hl : sh.length = n) (h : n ≤ 5) (m : Int) (ha : sh.all inCells = true) (hp : prodFrom sh 1 = some m) : shapeB sh = true := by
  have hb := prodFrom_bd sh 1 m ha (by omega) (by omega) hp
  unfold shapeB; rw [decide_eq_true (by omega)]
  by_cases h0 : decide (0 ∈ sh) = true
  · rw [count_zero sh m ha hp h0]; rfl
  · rw [count_n sh m ha hp (by simpa using h0), decide_eq_true (by omega)]; rfl

/-- The product of all numbers of a shape. -/
def prodAll (sh : List Int) : Int := sh.foldl (· * ·) 1

theorem prodAll_snoc (sh : List Int) (k : Nat) (h : k < sh.length) : prodAll (sh.take (k + 1)) = prodAll (sh.take k) * sh.getD k 0 := by
  rw [take_snoc sh k h]; simp [prodAll]

theorem prodAll_of (sh : List Int) (n m : Int) (h : prodFrom sh n = some m) : sh.foldl (· * ·) n = if 0 ∈ sh then 0 else m := by
  induction sh generalizing n with
  | nil => simp [prodFrom] at h; simp [h]
  | cons x r ih =>
    simp only [prodFrom] at h
    by_cases h0 : x = 0
    · subst h0
      have hz : ∀ (l : List Int), l.foldl (· * ·) 0 = 0 := by intro l; induction l with
        | nil => rfl
        | cons y s ih => simpa using ih
      simp [hz]
    · rw [if_neg h0] at h
      split at h
      · simp at h
      · rw [List.foldl_cons, ih _ h]
        have : (0 ∈ x :: r) ↔ 0 ∈ r := by simp; intro e; exact absurd e.symm h0
        simp only [this]

theorem prodAll_count (sh : List Int) (h : shapeB sh = true) : prodAll sh = countOf sh := by
  unfold shapeB at h
  simp only [Bool.and_eq_true, decide_eq_true_eq] at h
  have h2 := h.2
  unfold countOf at h2 ⊢
  split at h2
  · rename_i ha
    rw [if_pos ha]
    split at h2
    · omega
    · rename_i m hm
      exact prodAll_of sh 1 m hm
  · omega

theorem prodAll_bd (sh : List Int) (h : shapeB sh = true) (k : Nat) : 0 ≤ prodAll (sh.take k) ∧ prodAll (sh.take k) ≤ 10000 := by
  unfold shapeB at h
  simp only [Bool.and_eq_true, decide_eq_true_eq] at h
  have h2 := h.2
  unfold countOf at h2
  split at h2
  · rename_i ha
    split at h2
    · omega
    · rename_i m hm
      have hat : (sh.take k).all inCells = true := by rw [List.all_eq_true]; exact fun x hx => List.all_eq_true.1 ha x (List.mem_of_mem_take hx)
      cases hpt : prodFrom (sh.take k) 1 with
      | none =>
        have := prodFrom_none_append (sh.take k) (sh.drop k) 1 hpt
        rw [List.take_append_drop] at this
        rw [this] at hm; simp at hm
      | some m' =>
        have hb := prodFrom_bd _ 1 m' hat (by omega) (by omega) hpt
        unfold prodAll
        rw [prodAll_of _ 1 m' hpt]
        split <;> omega
  · omega

/-- Numbers that a valid array may have in its shape, but for how many they are. -/
def ShapeIn (sh : List Int) : Prop := sh.all inCells = true ∧ ∃ m, prodFrom sh 1 = some m

theorem prodFrom_less (ys : List Int) (n m k : Int) (hy : ys.all inCells = true) (hk : 1 ≤ k) (hkn : k ≤ n) (h : prodFrom ys n = some m) : ∃ m', prodFrom ys k = some m' := by
  induction ys generalizing n k with
  | nil => exact ⟨k, rfl⟩
  | cons y r ih =>
    simp only [List.all_cons, Bool.and_eq_true] at hy
    have hyb : 0 ≤ y ∧ y ≤ 10000 := by simpa [inCells] using hy.1
    simp only [prodFrom] at h ⊢
    by_cases h0 : y = 0
    · rw [if_pos h0] at h ⊢; exact ih n k hy.2 hk hkn h
    · rw [if_neg h0] at h ⊢
      split at h
      · simp at h
      · rename_i hle
        have h1 : k * y ≤ n * y := Int.mul_le_mul_of_nonneg_right hkn (by omega)
        have h2 : 1 * 1 ≤ k * y := Int.mul_le_mul hk (by omega) (by omega) (by omega)
        rw [if_neg (by omega)]
        exact ih (n * y) (k * y) hy.2 (by omega) h1 h

theorem ShapeIn.take {sh : List Int} (h : ShapeIn sh) (k : Nat) : ShapeIn (sh.take k) := by
  obtain ⟨ha, m, hm⟩ := h
  refine ⟨by rw [List.all_eq_true]; exact fun x hx => List.all_eq_true.1 ha x (List.mem_of_mem_take hx), ?_⟩
  cases hpt : prodFrom (sh.take k) 1 with
  | none =>
    have := prodFrom_none_append (sh.take k) (sh.drop k) 1 hpt
    rw [List.take_append_drop] at this
    rw [this] at hm; simp at hm
  | some m' => exact ⟨m', rfl⟩

theorem prodFrom_append (xs ys : List Int) (n : Int) : prodFrom (xs ++ ys) n = (prodFrom xs n).bind (prodFrom ys) := by
  induction xs generalizing n with
  | nil => simp [prodFrom]
  | cons y r ih =>
    simp only [List.cons_append, prodFrom]
    split
    · exact ih n
    · split
      · simp
      · exact ih _

theorem ShapeIn.drop {sh : List Int} (h : ShapeIn sh) (k : Nat) : ShapeIn (sh.drop k) := by
  have ht := h.take k
  obtain ⟨ha, m, hm⟩ := h
  have hd : (sh.drop k).all inCells = true := by rw [List.all_eq_true]; exact fun x hx => List.all_eq_true.1 ha x (List.mem_of_mem_drop hx)
  refine ⟨hd, ?_⟩
  obtain ⟨hta, p, hp⟩ := ht
  have hb := prodFrom_bd _ 1 p hta (by omega) (by omega) hp
  rw [← List.take_append_drop k sh, prodFrom_append, hp, Option.bind_some] at hm
  exact prodFrom_less _ p m 1 hd (by omega) hb.1 hm

theorem ShapeIn.bd {sh : List Int} (h : ShapeIn sh) : 0 ≤ prodAll sh ∧ prodAll sh ≤ 10000 := by
  obtain ⟨ha, m, hm⟩ := h
  have hb := prodFrom_bd sh 1 m ha (by omega) (by omega) hm
  unfold prodAll
  rw [prodAll_of sh 1 m hm]
  split <;> omega

theorem ShapeIn.cell {sh : List Int} (h : ShapeIn sh) (k : Nat) : 0 ≤ sh.getD k 0 ∧ sh.getD k 0 ≤ 10000 := by
  by_cases hk : k < sh.length
  · have := List.all_eq_true.1 h.1 (sh.getD k 0) (by simp [hk])
    simpa [inCells] using this
  · have e : sh.getD k 0 = 0 := by simp [List.getD, List.getElem?_eq_none (by omega : sh.length ≤ k)]
    rw [e]; omega

theorem shapeIn_of {c : Bool} {sh dt : List Int} (h : arrOk c sh dt = true) : ShapeIn sh ∧ prodAll sh = dt.length ∧ sh.length ≤ 5 := by
  unfold arrOk at h
  simp only [Bool.and_eq_true, decide_eq_true_eq] at h
  obtain ⟨h5, hc, _⟩ := h
  have hs : shapeB sh = true := by unfold shapeB; rw [decide_eq_true h5, decide_eq_true (by omega)]; rfl
  refine ⟨?_, by rw [prodAll_count sh hs, hc], h5⟩
  unfold countOf at hc
  split at hc
  · rename_i ha
    split at hc
    · omega
    · rename_i m hm; exact ⟨ha, m, hm⟩
  · omega

theorem prodAll_append (xs ys : List Int) : prodAll (xs ++ ys) = prodAll xs * prodAll ys := by
  have key : ∀ (ys : List Int) (n : Int), ys.foldl (· * ·) n = n * ys.foldl (· * ·) 1 := by
    intro ys
    induction ys with
    | nil => intro n; simp
    | cons y r ih => intro n; rw [List.foldl_cons, List.foldl_cons, ih (n * y), ih (1 * y), Int.one_mul, Int.mul_assoc]
  unfold prodAll
  rw [List.foldl_append, key]

end Go.Proofs.YtcjhbeljhmocbaaDoor
namespace Go.Proofs.YtcjhbeljhmocbaaDoor

/-- The decimal numeral of u, as the numbers of its bytes. -/
def decZ (u : Nat) : List Int := if _h : u < 10 then [48 + (u : Int)] else decZ (u / 10) ++ [48 + ((u % 10 : Nat) : Int)]

theorem decZ_small {u : Nat} (h : u < 10) : decZ u = [48 + (u : Int)] := by rw [decZ, dif_pos h]
theorem decZ_big {u : Nat} (h : ¬ u < 10) : decZ u = decZ (u / 10) ++ [48 + ((u % 10 : Nat) : Int)] := by rw [decZ, dif_neg h]

theorem decZ_pos (u : Nat) : 1 ≤ (decZ u).length := by
  by_cases h : u < 10
  · rw [decZ_small h]; simp
  · rw [decZ_big h]; simp

theorem decZ_le : ∀ (k u : Nat), u < 10 ^ (k + 1) → (decZ u).length ≤ k + 1
  | 0, u, h => by rw [decZ_small (by simpa using h)]; simp
  | k + 1, u, h => by
    by_cases hs : u < 10
    · rw [decZ_small hs]; simp
    · rw [decZ_big hs]
      have := decZ_le k (u / 10) (by rw [Nat.pow_succ] at h; omega)
      simp; omega

theorem decZ_byte (u : Nat) : ∀ x ∈ decZ u, 48 ≤ x ∧ x ≤ 57 := by
  induction u using Nat.strongRecOn with
  | _ u ih =>
    intro x hx
    by_cases h : u < 10
    · rw [decZ_small h] at hx
      simp at hx
      omega
    · rw [decZ_big h] at hx
      rcases List.mem_append.1 hx with hx | hx
      · exact ih (u / 10) (by omega) x hx
      · simp at hx
        omega

/-- A character in its shortest form. -/
def encZ (r : Int) : List Int :=
  if r < 128 then [r] else if r < 2048 then [192 + r / 64, 128 + r % 64] else if r < 65536 then [224 + r / 4096, 128 + r / 64 % 64, 128 + r % 64] else [240 + r / 262144, 128 + r / 4096 % 64, 128 + r / 64 % 64, 128 + r % 64]

/-- A number's text, and how many characters it has. -/
def numT (n : Int) : List Int := (if n < 0 then [194, 175] else []) ++ decZ n.natAbs
def wid (n : Int) : Nat := (if n < 0 then 1 else 0) + (decZ n.natAbs).length

theorem wid_pos (n : Int) : 1 ≤ wid n := by unfold wid; have := decZ_pos n.natAbs; omega
theorem wid_le {n : Int} (h : -1000000000000000 ≤ n ∧ n ≤ 1000000000000000) : wid n ≤ 17 := by
  unfold wid
  have := decZ_le 15 n.natAbs (by omega)
  split <;> omega

/-- What is written of a row's k-th element, ws the widths of the columns. -/
def cellT (c : Bool) (ws row : List Int) (k : Nat) : List Int :=
  if c = true then encZ (row.getD k 0)
  else (if 0 < k then [32] else []) ++ List.replicate ((ws.getD k 0).toNat - wid (row.getD k 0)) 32 ++ numT (row.getD k 0)

/-- What is written of the first k elements of a row. -/
def rowN (c : Bool) (ws row : List Int) (k : Nat) : List Int := (List.range k).flatMap (cellT c ws row)

theorem rowN_zero (c : Bool) (ws row : List Int) : rowN c ws row 0 = [] := rfl
theorem rowN_succ (c : Bool) (ws row : List Int) (k : Nat) : rowN c ws row (k + 1) = rowN c ws row k ++ cellT c ws row k := by
  unfold rowN
  rw [List.range_succ, List.flatMap_append]
  simp

/-- A row as a line. -/
def lineT (c : Bool) (ws row : List Int) : List Int := rowN c ws row row.length ++ [10]

theorem lineT_congr {c : Bool} {ws ws' row : List Int} (h : ∀ k, k < row.length → (ws.getD k 0).toNat - wid (row.getD k 0) = (ws'.getD k 0).toNat - wid (row.getD k 0)) : lineT c ws row = lineT c ws' row := by
  unfold lineT rowN
  congr 1
  have e : (List.range row.length).map (cellT c ws row) = (List.range row.length).map (cellT c ws' row) := List.map_congr_left fun k hk => by
    unfold cellT
    rw [h k (List.mem_range.1 hk)]
  rw [List.flatMap_def, List.flatMap_def, e]

/-- The r-th row of an array of n columns. -/
def rowAt (dt : List Int) (n r : Nat) : List Int := (dt.drop (r * n)).take n

theorem rowAt_len {dt : List Int} {n r R : Nat} (hl : dt.length = R * n) (hr : r < R) : (rowAt dt n r).length = n := by
  unfold rowAt
  have : (r + 1) * n ≤ R * n := Nat.mul_le_mul_right n hr
  rw [Nat.add_mul, Nat.one_mul] at this
  rw [List.length_take, List.length_drop]
  omega

theorem rowAt_get {dt : List Int} {n r k : Nat} (hk : k < n) : (rowAt dt n r).getD k 0 = dt.getD (r * n + k) 0 := by
  unfold rowAt
  simp [List.getD_eq_getElem?_getD, hk]

/-- The first r rows as lines, an empty line ahead of each plane but the first. -/
def textN (c : Bool) (ws dt : List Int) (n height : Nat) : Nat → List Int
  | 0 => []
  | r + 1 => textN c ws dt n height r ++ (if 0 < r ∧ r % height = 0 then [10] else []) ++ lineT c ws (rowAt dt n r)

/-- The widths of the columns behind k elements. -/
def wsN (dt : List Int) (n : Nat) : Nat → List Int
  | 0 => List.replicate n 0
  | k + 1 => (wsN dt n k).set (k % n) (max ((wsN dt n k).getD (k % n) 0) (wid (dt.getD k 0) : Nat))

theorem wsN_len (dt : List Int) (n : Nat) : ∀ k, (wsN dt n k).length = n
  | 0 => by simp [wsN]
  | k + 1 => by simp [wsN, wsN_len dt n k]

/-- An axis from the end, 1 where it is not there. -/
def axisE (sh : List Int) (k : Nat) : Nat := if sh.length < k then 1 else (sh.getD (sh.length - k) 0).toNat

/-- What Show shows. -/
def showT (c : Bool) (sh dt : List Int) : List Int :=
  if arrOk c sh dt = true then
    if dt.length = 0 ∧ 2 < sh.length then []
    else textN c (wsN dt (axisE sh 1) dt.length) dt (axisE sh 1) (axisE sh 2) (prodAll (sh.take (sh.length - 1))).toNat
  else []

end Go.Proofs.YtcjhbeljhmocbaaDoor
namespace Go.Proofs.YtcjhbeljhmocbaaDoor

theorem arr_parts' {c : Bool} {sh dt : List Int} (h : arrOk c sh dt = true) : shapeB sh = true ∧ countOf sh = (dt.length : Int) ∧ sh.length ≤ 5 ∧ dt.all (dataOk c) = true := by
  unfold arrOk at h
  simp only [Bool.and_eq_true, decide_eq_true_eq] at h
  refine ⟨?_, h.2.1, h.1, h.2.2⟩
  unfold shapeB
  rw [decide_eq_true h.1, decide_eq_true (by omega)]; rfl

/-- The elements of an array are so many as its last axis times the others. -/
theorem count_last {c : Bool} {sh dt : List Int} (h : arrOk c sh dt = true) (hl : 0 < sh.length) : 0 ≤ sh.getD (sh.length - 1) 0 ∧ (dt.length : Int) = prodAll (sh.take (sh.length - 1)) * sh.getD (sh.length - 1) 0 := by
  obtain ⟨h1, h2, _⟩ := arr_parts' h
  have h3 := prodAll_count sh h1
  have h4 := prodAll_snoc sh (sh.length - 1) (by omega)
  rw [show sh.length - 1 + 1 = sh.length by omega, List.take_length, h3, h2] at h4
  exact ⟨((shapeIn_of h).1.cell (sh.length - 1)).1, h4⟩

theorem wsN_row (dt : List Int) (n : Nat) : ∀ k, k ≤ n → ∀ i, i < n → (wsN dt n k).getD i 0 = if i < k then (wid (dt.getD i 0) : Int) else 0
  | 0, _, i, hi => by simp [wsN, hi]
  | k + 1, hk, i, hi => by
    have ih := wsN_row dt n k (by omega)
    have hl := wsN_len dt n k
    show ((wsN dt n k).set (k % n) _).getD i 0 = _
    rw [Nat.mod_eq_of_lt (show k < n by omega), List.getD_eq_getElem?_getD, List.getElem?_set]
    by_cases h : k = i
    · subst h
      rw [if_pos rfl, if_pos (by omega), if_pos (by omega), ih k (by omega), if_neg (by omega)]
      simp
    · rw [if_neg h, ← List.getD_eq_getElem?_getD, ih i hi]
      by_cases h2 : i < k
      · rw [if_pos h2, if_pos (by omega)]
      · rw [if_neg h2, if_neg (by omega)]

theorem show_bad {c : Bool} {sh dt : List Int} (h : arrOk c sh dt = false) : showT c sh dt = [] := by unfold showT; rw [if_neg (by rw [h]; decide)]
theorem show_none {c : Bool} {sh dt : List Int} (h : arrOk c sh dt = true) (h0 : dt.length = 0) (h2 : 2 < sh.length) : showT c sh dt = [] := by unfold showT; rw [if_pos h, if_pos ⟨h0, h2⟩]
theorem show_go {c : Bool} {sh dt : List Int} (h : arrOk c sh dt = true) (h0 : ¬ (dt.length = 0 ∧ 2 < sh.length)) : showT c sh dt = textN c (wsN dt (axisE sh 1) dt.length) dt (axisE sh 1) (axisE sh 2) (prodAll (sh.take (sh.length - 1))).toNat := by unfold showT; rw [if_pos h, if_neg h0]

/-- A scalar or a line. -/
theorem show_low {c : Bool} {sh dt : List Int} (h : arrOk c sh dt = true) (h2 : sh.length < 2) : showT c sh dt = lineT c (List.replicate dt.length 0) dt := by
  rw [show_go h (by omega)]
  have hR : (prodAll (sh.take (sh.length - 1))).toNat = 1 := by
    rw [show sh.length - 1 = 0 by omega, List.take_zero]
    rfl
  have hn : axisE sh 1 = dt.length := by
    obtain ⟨h1, hc, _⟩ := arr_parts' h
    have h3 := prodAll_count sh h1
    unfold axisE
    match sh, h2 with
    | [], _ => 
      rw [if_pos (by simp)]
      have : prodAll [] = 1 := rfl
      omega
    | [x], _ =>
      rw [if_neg (by simp)]
      have : prodAll [x] = x := by simp [prodAll]
      simp
      omega
  rw [hR, hn]
  show [] ++ (if 0 < 0 ∧ 0 % axisE sh 2 = 0 then [10] else []) ++ lineT c _ (rowAt dt dt.length 0) = _
  rw [if_neg (by omega)]
  have hrow : rowAt dt dt.length 0 = dt := by unfold rowAt; simp
  rw [hrow, List.nil_append, List.nil_append]
  refine lineT_congr fun k hk => ?_
  rw [wsN_row dt dt.length dt.length (Nat.le_refl _) k hk, if_pos hk]
  simp [hk]

theorem textN_empty {c : Bool} {ws : List Int} {n height : Nat} : ∀ r, r ≤ height → textN c ws [] n height r = List.replicate r 10
  | 0, _ => rfl
  | r + 1, h => by
    have ih := textN_empty (c := c) (ws := ws) (n := n) (height := height) r (by omega)
    show textN c ws [] n height r ++ _ ++ lineT c ws (rowAt [] n r) = _
    have hrow : rowAt [] n r = [] := by simp [rowAt]
    have hno : ¬ (0 < r ∧ r % height = 0) := by
      rintro ⟨h1, h2⟩
      rw [Nat.mod_eq_of_lt (show r < height by omega)] at h2
      omega
    rw [ih, if_neg hno, hrow, List.append_nil]
    show List.replicate r 10 ++ [10] = _
    rw [← List.replicate_succ']

/-- A matrix without elements. -/
theorem show_flat {c : Bool} {sh dt : List Int} (h : arrOk c sh dt = true) (h0 : dt.length = 0) (h2 : sh.length = 2) : showT c sh dt = List.replicate (sh.getD 0 0).toNat 10 := by
  rw [show_go h (by omega)]
  obtain rfl : dt = [] := List.length_eq_zero_iff.1 h0
  match sh, h2 with
  | [x, y], _ =>
    have e1 : (prodAll (List.take ([x, y].length - 1) [x, y])).toNat = x.toNat := by simp [prodAll]
    have e2 : axisE [x, y] 2 = x.toNat := by simp [axisE]
    rw [e1, e2]
    exact textN_empty _ (Nat.le_refl _)

end Go.Proofs.YtcjhbeljhmocbaaDoor
namespace Go.Proofs.YtcjhbeljhmocbaaDoor

theorem wsN_bd {dt : List Int} {n : Nat} (h : ∀ k, k < dt.length → wid (dt.getD k 0) ≤ 100) : ∀ k, k ≤ dt.length → ∀ i, 0 ≤ (wsN dt n k).getD i 0 ∧ (wsN dt n k).getD i 0 ≤ 100
  | 0, _, i => by
    by_cases hi : i < n
    · simp [wsN, hi]
    · simp [wsN, hi]
  | k + 1, hk, i => by
    have ih := wsN_bd (n := n) h k (by omega)
    have hw := h k (by omega)
    show 0 ≤ ((wsN dt n k).set (k % n) _).getD i 0 ∧ ((wsN dt n k).set (k % n) _).getD i 0 ≤ 100
    rw [List.getD_eq_getElem?_getD, List.getElem?_set]
    by_cases hx : k % n = i
    · rw [if_pos hx]
      have := ih (k % n)
      split
      · simp only [Option.getD_some]; omega
      · simp
    · rw [if_neg hx, ← List.getD_eq_getElem?_getD]
      exact ih i

theorem wsN_stay {dt : List Int} {n k : Nat} (h : (wid (dt.getD k 0) : Int) ≤ (wsN dt n k).getD (k % n) 0) : wsN dt n (k + 1) = wsN dt n k := by
  show (wsN dt n k).set (k % n) _ = _
  rw [Int.max_eq_left h]
  apply List.ext_getElem?
  intro i
  rw [List.getElem?_set]
  by_cases hx : k % n = i
  · rw [if_pos hx]
    subst hx
    split
    · rename_i hl
      simp [hl]
    · rename_i hl
      rw [List.getElem?_eq_none (by omega)]
  · rw [if_neg hx]

theorem wsN_take {dt : List Int} {n k : Nat} (h : (wsN dt n k).getD (k % n) 0 < (wid (dt.getD k 0) : Int)) : wsN dt n (k + 1) = (wsN dt n k).set (k % n) (wid (dt.getD k 0) : Nat) := by
  show (wsN dt n k).set (k % n) _ = _
  rw [Int.max_eq_right (by omega)]

/-- An array of two axes or more that has elements: rows of N, planes of M rows. -/
theorem show_high {c : Bool} {sh dt : List Int} {n1 N M : Nat} (h : arrOk c sh dt = true) (hl : sh.length = n1) (h2 : 2 ≤ n1) (hN : sh.getD (n1 - 1) 0 = (N : Int)) (hM : sh.getD (n1 - 2) 0 = (M : Int)) (h0 : dt.length ≠ 0) :
    ∃ R, dt.length = R * N ∧ 0 < N ∧ 0 < M ∧ showT c sh dt = textN c (wsN dt N dt.length) dt N M R := by
  have hc := count_last h (by omega)
  rw [hl, hN] at hc
  have hb := prodAll_bd sh (arr_parts' h).1 (n1 - 1)
  have hs := prodAll_snoc sh (n1 - 2) (by omega)
  rw [show n1 - 2 + 1 = n1 - 1 by omega, hM] at hs
  have hb2 := prodAll_bd sh (arr_parts' h).1 (n1 - 2)
  obtain ⟨R, hR⟩ : ∃ R : Nat, prodAll (sh.take (n1 - 1)) = (R : Int) := ⟨(prodAll (sh.take (n1 - 1))).toNat, by omega⟩
  rw [hR] at hc hs
  have hlen : dt.length = R * N := by
    have := hc.2
    rw [← Int.natCast_mul] at this
    exact_mod_cast this
  refine ⟨R, hlen, ?_, ?_, ?_⟩
  · rcases Nat.eq_zero_or_pos N with hz | hz
    · rw [hz] at hlen; simp at hlen; exact absurd hlen (by simpa using h0)
    · exact hz
  · rcases Nat.eq_zero_or_pos M with hz | hz
    · rw [hz] at hs
      have hR0 : R = 0 := by simp at hs; omega
      rw [hR0] at hlen
      simp at hlen
      exact absurd hlen (by simpa using h0)
    · exact hz
  · rw [show_go h (fun hx => h0 hx.1)]
    have e1 : axisE sh 1 = N := by unfold axisE; rw [if_neg (by omega), hl, hN]; simp
    have e2 : axisE sh 2 = M := by unfold axisE; rw [if_neg (by omega), hl, hM]; simp
    rw [e1, e2, hl, hR]
    simp

theorem cellT_len {c : Bool} {ws row : List Int} {k : Nat} (hw : (ws.getD k 0) ≤ 100) (hr : c = false → -1000000000000000 ≤ row.getD k 0 ∧ row.getD k 0 ≤ 1000000000000000) : (cellT c ws row k).length ≤ 120 := by
  unfold cellT
  generalize row.getD k 0 = v at *
  generalize ws.getD k 0 = y at *
  cases c
  · rw [if_neg (by decide)]
    have h1 : (numT v).length ≤ 18 := by
      have h2 := hr rfl
      unfold numT
      have := decZ_le 15 v.natAbs (by omega)
      rw [List.length_append]
      split <;> simp <;> omega
    simp only [List.length_append, List.length_replicate]
    split <;> simp <;> omega
  · rw [if_pos rfl]
    unfold encZ
    repeat' split
    all_goals simp

theorem rowN_len {c : Bool} {ws row : List Int} (hw : ∀ k, (ws.getD k 0) ≤ 100) (hr : c = false → ∀ k, -1000000000000000 ≤ row.getD k 0 ∧ row.getD k 0 ≤ 1000000000000000) : ∀ k, (rowN c ws row k).length ≤ 120 * k
  | 0 => by simp [rowN_zero]
  | k + 1 => by
    rw [rowN_succ, List.length_append]
    have h1 := rowN_len hw hr k
    have h2 := cellT_len (c := c) (row := row) (hw k) (fun e => hr e k)
    omega

theorem getD_sub {P : Int → Prop} {dt : List Int} (h0 : P 0) (h : ∀ k, k < dt.length → P (dt.getD k 0)) (n r k : Nat) : P ((rowAt dt n r).getD k 0) := by
  by_cases hk : k < n
  · rw [rowAt_get hk]
    by_cases hl : r * n + k < dt.length
    · exact h _ hl
    · rw [List.getD_eq_getElem?_getD, List.getElem?_eq_none (by omega)]
      exact h0
  · have : (rowAt dt n r).getD k 0 = 0 := by
      rw [List.getD_eq_getElem?_getD, List.getElem?_eq_none (by unfold rowAt; rw [List.length_take]; omega)]
      rfl
    rw [this]
    exact h0

theorem textN_len {c : Bool} {ws dt : List Int} {n height R : Nat} (hl : dt.length = R * n) (hw : ∀ k, (ws.getD k 0) ≤ 100) (hr : c = false → ∀ k, k < dt.length → -1000000000000000 ≤ dt.getD k 0 ∧ dt.getD k 0 ≤ 1000000000000000) : ∀ r, r ≤ R → (textN c ws dt n height r).length ≤ 120 * (r * n) + 2 * r
  | 0, _ => by simp [textN]
  | r + 1, h => by
    have ih := textN_len (height := height) hl hw hr r (by omega)
    have h1 : (lineT c ws (rowAt dt n r)).length ≤ 120 * n + 1 := by
      unfold lineT
      rw [List.length_append, rowAt_len hl (by omega)]
      have := rowN_len (c := c) (ws := ws) (row := rowAt dt n r) hw (fun e k => getD_sub (P := fun x => -1000000000000000 ≤ x ∧ x ≤ 1000000000000000) (by omega) (hr e) n r k) n
      simp
      omega
    show (textN c ws dt n height r ++ _ ++ lineT c ws (rowAt dt n r)).length ≤ _
    rw [List.length_append, List.length_append, Nat.add_mul]
    have h2 : (if 0 < r ∧ r % height = 0 then [10] else [] : List Int).length ≤ 1 := by split <;> simp
    omega

theorem textN_succ (c : Bool) (ws dt : List Int) (n height r : Nat) : textN c ws dt n height (r + 1) = textN c ws dt n height r ++ (if 0 < r ∧ r % height = 0 then [10] else []) ++ lineT c ws (rowAt dt n r) := rfl

end Go.Proofs.YtcjhbeljhmocbaaDoor
