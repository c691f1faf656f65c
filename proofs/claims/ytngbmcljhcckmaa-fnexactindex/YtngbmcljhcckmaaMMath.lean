import Derived.WalkKit
namespace Go.Proofs.Ytngbmcljhcckmaa

def runeOk (v : Int) : Bool := decide (0 ≤ v ∧ v ≤ 1114111 ∧ (v < 55296 ∨ 57343 < v))

def inCells (v : Int) : Bool := decide (0 ≤ v ∧ v ≤ 10000)

/-- The product of the numbers of a shape that are not 0, going from the front; none when it passes 10000. -/
def prodFrom : List Int → Int → Option Int
  | [], n => some n
  | x :: r, n => if x = 0 then prodFrom r n else if 10000 < n * x then none else prodFrom r (n * x)

def countOf (sh : List Int) : Int :=
  if sh.all inCells then
    match prodFrom sh 1 with
    | none => -1
    | some n => if 0 ∈ sh then 0 else n
  else -1

def dataOk (c : Bool) (v : Int) : Bool := (!c || runeOk v) && decide (-1000000000000000 ≤ v ∧ v ≤ 1000000000000000)

def arrOk (c : Bool) (sh dt : List Int) : Bool := decide (sh.length ≤ 5) && (decide (countOf sh = dt.length) && dt.all (dataOk c))

theorem prodFrom_snoc (xs : List Int) (x n : Int) : prodFrom (xs ++ [x]) n = (prodFrom xs n).bind (fun m => prodFrom [x] m) := by
  induction xs generalizing n with
  | nil => simp [prodFrom]
  | cons y r ih =>
    simp only [List.cons_append, prodFrom]
    split
    · exact ih n
    · split
      · simp
      · exact ih _

theorem prodFrom_bd (xs : List Int) (n m : Int) (hx : xs.all inCells = true) (h1 : 1 ≤ n) (h2 : n ≤ 10000) (h : prodFrom xs n = some m) : 1 ≤ m ∧ m ≤ 10000 := by
  induction xs generalizing n with
  | nil => simp [prodFrom] at h; omega
  | cons y r ih =>
    simp only [List.all_cons, Bool.and_eq_true] at hx
    have hy : 0 ≤ y ∧ y ≤ 10000 := by simpa [inCells] using hx.1
    simp only [prodFrom] at h
    split at h
    · exact ih n hx.2 h1 h2 h
    · split at h
      · simp at h
      · rename_i h0 hle
        refine ih (n * y) hx.2 ?_ (by omega) h
        have : 1 * 1 ≤ n * y := Int.mul_le_mul h1 (by omega) (by omega) (by omega)
        omega

theorem prodFrom_none_append (xs ys : List Int) (n : Int) (h : prodFrom xs n = none) : prodFrom (xs ++ ys) n = none := by
  induction xs generalizing n with
  | nil => simp [prodFrom] at h
  | cons y r ih =>
    simp only [List.cons_append, prodFrom] at h ⊢
    split at h
    · rename_i h0; rw [if_pos h0]; exact ih n h
    · rename_i h0; rw [if_neg h0]
      split at h
      · rename_i h1; rw [if_pos h1]
      · rename_i h1; rw [if_neg h1]; exact ih _ h

theorem take_snoc (xs : List Int) (k : Nat) (h : k < xs.length) : xs.take (k + 1) = xs.take k ++ [xs.getD k 0] := by
  rw [List.take_succ_eq_append_getElem h]; simp [h]

theorem all_step (xs : List Int) (p : Int → Bool) (k : Nat) (h : k < xs.length) (ha : (xs.take k).all p = true) (hp : p (xs.getD k 0) = true) : (xs.take (k + 1)).all p = true := by
  rw [take_snoc xs k h, List.all_append, ha]; simpa using hp

theorem all_not (xs : List Int) (p : Int → Bool) (k : Nat) (h : k < xs.length) (hp : p (xs.getD k 0) = false) : xs.all p = false := by
  rw [← Bool.not_eq_true, List.all_eq_true]
  intro hh
  have := hh (xs.getD k 0) (by simp [h])
  rw [hp] at this
  exact absurd this (by simp)

theorem zero_step (xs : List Int) (k : Nat) (h : k < xs.length) : decide (0 ∈ xs.take (k + 1)) = (decide (0 ∈ xs.take k) || decide (xs.getD k 0 = 0)) := by
  rw [take_snoc xs k h]
  generalize xs.take k = t
  generalize xs.getD k 0 = y
  by_cases h1 : 0 ∈ t <;> by_cases h2 : y = 0 <;> simp [h1, h2]
  exact fun e => h2 e.symm

theorem prod_step0 (xs : List Int) (k : Nat) (h : k < xs.length) (n : Int) (hp : prodFrom (xs.take k) 1 = some n) (h0 : xs.getD k 0 = 0) : prodFrom (xs.take (k + 1)) 1 = some n := by
  rw [take_snoc xs k h, prodFrom_snoc, hp, h0]; simp [prodFrom]

theorem prod_step (xs : List Int) (k : Nat) (h : k < xs.length) (n : Int) (hp : prodFrom (xs.take k) 1 = some n) (h0 : xs.getD k 0 ≠ 0) (hl : n * xs.getD k 0 ≤ 10000) : prodFrom (xs.take (k + 1)) 1 = some (n * xs.getD k 0) := by
  rw [take_snoc xs k h, prodFrom_snoc, hp]; simp only [Option.bind_some, prodFrom, if_neg h0]; rw [if_neg (by omega)]

theorem prod_none (xs : List Int) (k : Nat) (h : k < xs.length) (n : Int) (hp : prodFrom (xs.take k) 1 = some n) (h0 : xs.getD k 0 ≠ 0) (hl : 10000 < n * xs.getD k 0) : prodFrom xs 1 = none := by
  have : prodFrom (xs.take (k + 1)) 1 = none := by
    rw [take_snoc xs k h, prodFrom_snoc, hp]; simp only [Option.bind_some, prodFrom, if_neg h0]; rw [if_pos hl]
  rw [← List.take_append_drop (k + 1) xs]
  exact prodFrom_none_append _ _ _ this

theorem count_bad (sh : List Int) (h : sh.all inCells = false) : countOf sh = -1 := by simp [countOf, h]
theorem count_big (sh : List Int) (h : prodFrom sh 1 = none) : countOf sh = -1 := by unfold countOf; rw [h]; split <;> rfl
theorem count_zero (sh : List Int) (n : Int) (ha : sh.all inCells = true) (h : prodFrom sh 1 = some n) (h0 : decide (0 ∈ sh) = true) : countOf sh = 0 := by
  unfold countOf; rw [h, if_pos ha]; simp only []; rw [if_pos (of_decide_eq_true h0)]
theorem count_n (sh : List Int) (n : Int) (ha : sh.all inCells = true) (h : prodFrom sh 1 = some n) (h0 : decide (0 ∈ sh) = false) : countOf sh = n := by
  unfold countOf; rw [h, if_pos ha]; simp only []; rw [if_neg (of_decide_eq_false h0)]

theorem count_bd (sh : List Int) : -1 ≤ countOf sh ∧ countOf sh ≤ 10000 := by
  unfold countOf
  split
  · rename_i ha
    split
    · omega
    · rename_i n hn
      have := prodFrom_bd sh 1 n ha (by omega) (by omega) hn
      split <;> omega
  · omega

end Go.Proofs.Ytngbmcljhcckmaa
namespace Go.Proofs.Ytngbmcljhcckmaa

def shapeB (sh : List Int) : Bool := decide (sh.length ≤ 5) && decide (0 ≤ countOf sh)

theorem shape_long {sh : List Int} {n : Nat} (hl : sh.length = n) (h : 5 < n) : shapeB sh = false := by unfold shapeB; rw [decide_eq_false (by omega)]; rfl
theorem shape_bad {sh : List Int} (h : countOf sh = -1) : shapeB sh = false := by unfold shapeB; rw [h]; simp
theorem shape_good {sh : List Int} {n : Nat} (hl : sh.length = n) (h : n ≤ 5) (m : Int) (ha : sh.all inCells = true) (hp : prodFrom sh 1 = some m) : shapeB sh = true := by
  have hb := prodFrom_bd sh 1 m ha (by omega) (by omega) hp
  unfold shapeB; rw [decide_eq_true (by omega)]
  by_cases h0 : decide (0 ∈ sh) = true
  · rw [count_zero sh m ha hp h0]; rfl
  · rw [count_n sh m ha hp (by simpa using h0), decide_eq_true (by omega)]; rfl

/-- The product of all numbers of a shape. -/
def prodAll (sh : List Int) : Int := sh.foldl (· * ·) 1

theorem prodAll_snoc (sh : List Int) (k : Nat) (h : k < sh.length) : prodAll (sh.take (k + 1)) = prodAll (sh.take k) * sh.getD k 0 := by
  rw [take_snoc sh k h]; simp [prodAll]

theorem prodAll_of (sh : List Int) (n m : Int) (h : prodFrom sh n = some m) : sh.foldl (· * ·) n = if 0 ∈ sh then 0 else m := by
  induction sh generalizing n with
  | nil => simp [prodFrom] at h; simp [h]
  | cons x r ih =>
    simp only [prodFrom] at h
    by_cases h0 : x = 0
    · subst h0
      have hz : ∀ (l : List Int), l.foldl (· * ·) 0 = 0 := by intro l; induction l with
        | nil => rfl
        | cons y s ih => simpa using ih
      simp [hz]
    · rw [if_neg h0] at h
      split at h
      · simp at h
      · rw [List.foldl_cons, ih _ h]
        have : (0 ∈ x :: r) ↔ 0 ∈ r := by simp; intro e; exact absurd e.symm h0
        simp only [this]

theorem prodAll_count (sh : List Int) (h : shapeB sh = true) : prodAll sh = countOf sh := by
  unfold shapeB at h
  simp only [Bool.and_eq_true, decide_eq_true_eq] at h
  have h2 := h.2
  unfold countOf at h2 ⊢
  split at h2
  · rename_i ha
    rw [if_pos ha]
    split at h2
    · omega
    · rename_i m hm
      exact prodAll_of sh 1 m hm
  · omega

theorem prodAll_bd (sh : List Int) (h : shapeB sh = true) (k : Nat) : 0 ≤ prodAll (sh.take k) ∧ prodAll (sh.take k) ≤ 10000 := by
  unfold shapeB at h
  simp only [Bool.and_eq_true, decide_eq_true_eq] at h
  have h2 := h.2
  unfold countOf at h2
  split at h2
  · rename_i ha
    split at h2
    · omega
    · rename_i m hm
      have hat : (sh.take k).all inCells = true := by rw [List.all_eq_true]; exact fun x hx => List.all_eq_true.1 ha x (List.mem_of_mem_take hx)
      cases hpt : prodFrom (sh.take k) 1 with
      | none =>
        have := prodFrom_none_append (sh.take k) (sh.drop k) 1 hpt
        rw [List.take_append_drop] at this
        rw [this] at hm; simp at hm
      | some m' =>
        have hb := prodFrom_bd _ 1 m' hat (by omega) (by omega) hpt
        unfold prodAll
        rw [prodAll_of _ 1 m' hpt]
        split <;> omega
  · omega

/-- Numbers that a valid array may have in its shape, but for how many they are. -/
def ShapeIn (sh : List Int) : Prop := sh.all inCells = true ∧ ∃ m, prodFrom sh 1 = some m

theorem prodFrom_less (ys : List Int) (n m k : Int) (hy : ys.all inCells = true) (hk : 1 ≤ k) (hkn : k ≤ n) (h : prodFrom ys n = some m) : ∃ m', prodFrom ys k = some m' := by
  induction ys generalizing n k with
  | nil => exact ⟨k, rfl⟩
  | cons y r ih =>
    simp only [List.all_cons, Bool.and_eq_true] at hy
    have hyb : 0 ≤ y ∧ y ≤ 10000 := by simpa [inCells] using hy.1
    simp only [prodFrom] at h ⊢
    by_cases h0 : y = 0
    · rw [if_pos h0] at h ⊢; exact ih n k hy.2 hk hkn h
    · rw [if_neg h0] at h ⊢
      split at h
      · simp at h
      · rename_i hle
        have h1 : k * y ≤ n * y := Int.mul_le_mul_of_nonneg_right hkn (by omega)
        have h2 : 1 * 1 ≤ k * y := Int.mul_le_mul hk (by omega) (by omega) (by omega)
        rw [if_neg (by omega)]
        exact ih (n * y) (k * y) hy.2 (by omega) h1 h

theorem ShapeIn.take {sh : List Int} (h : ShapeIn sh) (k : Nat) : ShapeIn (sh.take k) := by
  obtain ⟨ha, m, hm⟩ := h
  refine ⟨by rw [List.all_eq_true]; exact fun x hx => List.all_eq_true.1 ha x (List.mem_of_mem_take hx), ?_⟩
  cases hpt : prodFrom (sh.take k) 1 with
  | none =>
    have := prodFrom_none_append (sh.take k) (sh.drop k) 1 hpt
    rw [List.take_append_drop] at this
    rw [this] at hm; simp at hm
  | some m' => exact ⟨m', rfl⟩

theorem prodFrom_append (xs ys : List Int) (n : Int) : prodFrom (xs ++ ys) n = (prodFrom xs n).bind (prodFrom ys) := by
  induction xs generalizing n with
  | nil => simp [prodFrom]
  | cons y r ih =>
    simp only [List.cons_append, prodFrom]
    split
    · exact ih n
    · split
      · simp
      · exact ih _

theorem ShapeIn.drop {sh : List Int} (h : ShapeIn sh) (k : Nat) : ShapeIn (sh.drop k) := by
  have ht := h.take k
  obtain ⟨ha, m, hm⟩ := h
  have hd : (sh.drop k).all inCells = true := by rw [List.all_eq_true]; exact fun x hx => List.all_eq_true.1 ha x (List.mem_of_mem_drop hx)
  refine ⟨hd, ?_⟩
  obtain ⟨hta, p, hp⟩ := ht
  have hb := prodFrom_bd _ 1 p hta (by omega) (by omega) hp
  rw [← List.take_append_drop k sh, prodFrom_append, hp, Option.bind_some] at hm
  exact prodFrom_less _ p m 1 hd (by omega) hb.1 hm

theorem ShapeIn.bd {sh : List Int} (h : ShapeIn sh) : 0 ≤ prodAll sh ∧ prodAll sh ≤ 10000 := by
  obtain ⟨ha, m, hm⟩ := h
  have hb := prodFrom_bd sh 1 m ha (by omega) (by omega) hm
  unfold prodAll
  rw [prodAll_of sh 1 m hm]
  split <;> omega

theorem ShapeIn.cell {sh : List Int} (h : ShapeIn sh) (k : Nat) : 0 ≤ sh.getD k 0 ∧ sh.getD k 0 ≤ 10000 := by
  by_cases hk : k < sh.length
  · have := List.all_eq_true.1 h.1 (sh.getD k 0) (by simp [hk])
    simpa [inCells] using this
  · have e : sh.getD k 0 = 0 := by simp [List.getD, List.getElem?_eq_none (by omega : sh.length ≤ k)]
    rw [e]; omega

theorem shapeIn_of {c : Bool} {sh dt : List Int} (h : arrOk c sh dt = true) : ShapeIn sh ∧ prodAll sh = dt.length ∧ sh.length ≤ 5 := by
  unfold arrOk at h
  simp only [Bool.and_eq_true, decide_eq_true_eq] at h
  obtain ⟨h5, hc, _⟩ := h
  have hs : shapeB sh = true := by unfold shapeB; rw [decide_eq_true h5, decide_eq_true (by omega)]; rfl
  refine ⟨?_, by rw [prodAll_count sh hs, hc], h5⟩
  unfold countOf at hc
  split at hc
  · rename_i ha
    split at hc
    · omega
    · rename_i m hm; exact ⟨ha, m, hm⟩
  · omega

theorem prodAll_append (xs ys : List Int) : prodAll (xs ++ ys) = prodAll xs * prodAll ys := by
  have key : ∀ (ys : List Int) (n : Int), ys.foldl (· * ·) n = n * ys.foldl (· * ·) 1 := by
    intro ys
    induction ys with
    | nil => intro n; simp
    | cons y r ih => intro n; rw [List.foldl_cons, List.foldl_cons, ih (n * y), ih (1 * y), Int.one_mul, Int.mul_assoc]
  unfold prodAll
  rw [List.foldl_append, key]

end Go.Proofs.Ytngbmcljhcckmaa
namespace Go.Proofs.Ytngbmcljhcckmaa

/-- The place of an index, by its first k numbers. -/
def placeN (sh ix : List Int) : Nat → Int
  | 0 => 0
  | k + 1 => placeN sh ix k * sh.getD k 0 + ix.getD k 0

def place (sh ix : List Int) : Int := placeN sh ix sh.length

/-- Each number of an index is below its axis. -/
def IxIn (sh ix : List Int) : Prop := ∀ k, k < sh.length → 0 ≤ ix.getD k 0 ∧ ix.getD k 0 < sh.getD k 0

theorem placeN_bd {sh ix : List Int} (hi : IxIn sh ix) (k : Nat) (hk : k ≤ sh.length) : 0 ≤ placeN sh ix k ∧ placeN sh ix k < prodAll (sh.take k) := by
  induction k with
  | zero => simp [placeN, prodAll]
  | succ k ih =>
    obtain ⟨h1, h2⟩ := ih (by omega)
    obtain ⟨h3, h4⟩ := hi k (by omega)
    rw [prodAll_snoc sh k (by omega)]
    show 0 ≤ placeN sh ix k * sh.getD k 0 + ix.getD k 0 ∧ placeN sh ix k * sh.getD k 0 + ix.getD k 0 < _
    have h5 : 0 ≤ placeN sh ix k * sh.getD k 0 := Int.mul_nonneg h1 (by omega)
    have h6 : (placeN sh ix k + 1) * sh.getD k 0 ≤ prodAll (sh.take k) * sh.getD k 0 := Int.mul_le_mul_of_nonneg_right (by omega) (by omega)
    rw [Int.add_mul, Int.one_mul] at h6
    omega

theorem place_bd {sh ix : List Int} (hi : IxIn sh ix) : 0 ≤ place sh ix ∧ place sh ix < prodAll sh := by
  have := placeN_bd hi sh.length (Nat.le_refl _)
  rwa [List.take_length] at this

/-- What is left of a place behind j axes, going from the last. -/
def restN (sh : List Int) (p : Int) : Nat → Int
  | 0 => p
  | j + 1 => restN sh p j / sh.getD (sh.length - 1 - j) 0

def digit (sh : List Int) (p : Int) (i : Nat) : Int := restN sh p (sh.length - 1 - i) % sh.getD i 0

/-- The index of a place. -/
def digits (sh : List Int) (p : Int) : List Int := (List.range sh.length).map (digit sh p)

theorem digits_len (sh : List Int) (p : Int) : (digits sh p).length = sh.length := by simp [digits]

theorem digits_get (sh : List Int) (p : Int) (k : Nat) (hk : k < sh.length) : (digits sh p).getD k 0 = digit sh p k := by simp [digits, hk]

/-- No axis of length 0. -/
def Full (sh : List Int) : Prop := ∀ k, k < sh.length → 0 < sh.getD k 0

theorem restN_nn {sh : List Int} (hf : Full sh) {p : Int} (hp : 0 ≤ p) (j : Nat) (hj : j ≤ sh.length) : 0 ≤ restN sh p j ∧ restN sh p j ≤ p := by
  induction j with
  | zero => exact ⟨hp, Int.le_refl _⟩
  | succ j ih =>
    obtain ⟨h1, h2⟩ := ih (by omega)
    have hs := hf (sh.length - 1 - j) (by omega)
    show 0 ≤ restN sh p j / sh.getD (sh.length - 1 - j) 0 ∧ restN sh p j / sh.getD (sh.length - 1 - j) 0 ≤ p
    exact ⟨Int.ediv_nonneg h1 (by omega), Int.le_trans (Int.ediv_le_self _ h1) h2⟩

theorem digits_in {sh : List Int} (hf : Full sh) (p : Int) : IxIn sh (digits sh p) := by
  intro k hk
  rw [digits_get sh p k hk]
  have hs := hf k hk
  exact ⟨Int.emod_nonneg _ (by omega), Int.emod_lt_of_pos _ hs⟩

theorem restN_lt {sh : List Int} (hf : Full sh) {p : Int} (hl : p < prodAll sh) (j : Nat) (hj : j ≤ sh.length) : restN sh p j < prodAll (sh.take (sh.length - j)) := by
  induction j with
  | zero => simpa [restN] using hl
  | succ j ih =>
    have h1 := ih (by omega)
    have hs := hf (sh.length - 1 - j) (by omega)
    have e : sh.length - j = sh.length - 1 - j + 1 := by omega
    rw [e, prodAll_snoc sh _ (by omega)] at h1
    have e2 : sh.length - (j + 1) = sh.length - 1 - j := by omega
    rw [e2]
    exact Int.ediv_lt_of_lt_mul hs h1

theorem place_digits_aux {sh : List Int} (hf : Full sh) {p : Int} (hp : 0 ≤ p) (hl : p < prodAll sh) (k : Nat) (hk : k ≤ sh.length) : placeN sh (digits sh p) k = restN sh p (sh.length - k) := by
  induction k with
  | zero =>
    have h1 := (restN_nn hf hp sh.length (Nat.le_refl _)).1
    have h2 := restN_lt hf hl sh.length (Nat.le_refl _)
    simp [prodAll] at h2
    show (0 : Int) = _
    simp
    omega
  | succ k ih =>
    have h1 := ih (by omega)
    show placeN sh (digits sh p) k * sh.getD k 0 + (digits sh p).getD k 0 = _
    rw [h1, digits_get sh p k (by omega)]
    have e : sh.length - k = sh.length - (k + 1) + 1 := by omega
    have e2 : sh.length - 1 - (sh.length - (k + 1)) = k := by omega
    have e3 : sh.length - 1 - k = sh.length - (k + 1) := by omega
    rw [e]
    show restN sh p (sh.length - (k + 1)) / sh.getD (sh.length - 1 - (sh.length - (k + 1))) 0 * sh.getD k 0 + digit sh p k = _
    rw [e2]
    unfold digit
    rw [e3, Int.mul_comm]
    exact Int.mul_ediv_add_emod _ _

/-- The index of a place is the index of that place. -/
theorem place_digits {sh : List Int} (hf : Full sh) {p : Int} (hp : 0 ≤ p) (hl : p < prodAll sh) : place sh (digits sh p) = p := by
  have := place_digits_aux hf hp hl sh.length (Nat.le_refl _)
  simpa [place, restN] using this

theorem full_of {sh : List Int} (h : ShapeIn sh) (hp : 0 < prodAll sh) : Full sh := by
  intro k hk
  have h1 := (h.cell k).1
  by_cases h0 : sh.getD k 0 = 0
  · exfalso
    have e : sh = sh.take k ++ sh.getD k 0 :: sh.drop (k + 1) := by simp [List.getD, hk]
    have hz : prodAll sh = 0 := by
      rw [e, prodAll_append, h0]
      have : prodAll (0 :: sh.drop (k + 1)) = prodAll [0] * prodAll (sh.drop (k + 1)) := by rw [← prodAll_append]; rfl
      rw [this]
      simp [prodAll]
    omega
  · omega

theorem drop_set {D : List Int} {m : Nat} (hm : m < D.length) : (List.replicate (m + 1) (0 : Int) ++ D.drop (m + 1)).set m (D.getD m 0) = List.replicate m 0 ++ D.drop m := by
  have e : D.drop m = D.getD m 0 :: D.drop (m + 1) := by simp [List.getD, hm]
  rw [e, List.replicate_succ', List.append_assoc, List.set_append_right _ _ (by simp)]
  simp

end Go.Proofs.Ytngbmcljhcckmaa
namespace Go.Proofs.Ytngbmcljhcckmaa

def inM (v : Int) : Bool := decide (-1000000000000000 ≤ v ∧ v ≤ 1000000000000000)

def truth (b : Bool) : Int := if b then 1 else 0
theorem truth_bd (b : Bool) : 0 ≤ truth b ∧ truth b ≤ 1 := by cases b <;> simp [truth]

def timesOf (a b : Int) : Int × Bool := if inM (a * b) = true then (a * b, true) else (0, false)
def powOf (a b : Int) : Int × Bool := if inM (a ^ b.toNat) = true then (a ^ b.toNat, true) else (0, false)
def modOf (a b : Int) : Int := if a = 0 then b else if b.tmod a ≠ 0 ∧ decide (b.tmod a < 0) ≠ decide (a < 0) then b.tmod a + a else b.tmod a
def orderOf (op a b : Int) : Int :=
  if op = 5 then (if a < b then a else b) else if op = 6 then (if a < b then b else a)
  else if op = 9 then truth (decide (a = b)) else if op = 10 then truth (decide (a ≠ b))
  else if op = 11 then truth (decide (a < b)) else if op = 13 then truth (decide (b ≤ a)) else if op = 12 then truth (decide (a ≤ b)) else truth (decide (b < a))

def limited (r : Int × Bool) : Int × Int := if r.2 = true ∧ inM r.1 = true then (r.1, 0) else (0, 7)

/-- A scalar function on two numbers: what it gives and its code. -/
def twoOf (op a b : Int) : Int × Int :=
  if op = 1 then limited (a + b, true) else if op = 2 then limited (a - b, true) else if op = 3 then limited (timesOf a b)
  else if op = 4 then (if a = 0 ∧ b = 0 then (1, 0) else if b = 0 ∨ a.tmod b ≠ 0 then (0, 3) else limited (a.tdiv b, true))
  else if op = 7 then limited (modOf a b, true)
  else if op = 8 then (if b < 0 then (0, 3) else limited (powOf a b))
  else if op = 15 ∨ op = 16 then (if (a ≠ 0 ∧ a ≠ 1) ∨ (b ≠ 0 ∧ b ≠ 1) then (0, 3) else limited (truth (decide (truth (decide (op = 15)) < a + b)), true))
  else limited (orderOf op a b, true)

theorem tdiv_lt {x y : Int} (hy : 0 < y) : (1000000000000000 : Int).tdiv y < x ↔ 1000000000000000 < x * y := by
  rw [Int.tdiv_eq_ediv_of_nonneg (by omega)]
  constructor
  · intro h
    by_cases h' : 1000000000000000 < x * y
    · exact h'
    · exact absurd (Int.le_ediv_of_mul_le hy (by omega : x * y ≤ 1000000000000000)) (by omega)
  · intro h
    by_cases h' : (1000000000000000 : Int) / y < x
    · exact h'
    · have := Int.mul_le_of_le_ediv hy (by omega : x ≤ (1000000000000000 : Int) / y)
      omega

theorem times_big {a b : Int} (h : inM (a * b) = false) : timesOf a b = (0, false) := by simp [timesOf, h]
theorem times_ok {a b : Int} (h : inM (a * b) = true) : timesOf a b = (a * b, true) := by simp [timesOf, h]
theorem inM_of {v : Int} (h1 : -1000000000000000 ≤ v) (h2 : v ≤ 1000000000000000) : inM v = true := decide_eq_true ⟨h1, h2⟩
theorem inM_not {v : Int} (h : v < -1000000000000000 ∨ 1000000000000000 < v) : inM v = false := decide_eq_false (by omega)
theorem inM_bd {v : Int} (h : inM v = true) : -1000000000000000 ≤ v ∧ v ≤ 1000000000000000 := of_decide_eq_true h

theorem abs_ge_two {a : Int} (h0 : a ≠ 0) (h1 : a ≠ 1) (hm : a ≠ -1) : 2 ≤ a.natAbs := by omega

/-- Beyond the bound a power of a number of two or more stays there. -/
theorem pow_step_big {a : Int} (ha : 2 ≤ a.natAbs) (k n : Nat) (hk : k ≤ n) (h : inM (a ^ k) = false) : inM (a ^ n) = false := by
  have hb : ∀ v : Int, inM v = false ↔ 1000000000000000 < v.natAbs := by
    intro v; simp only [inM, decide_eq_false_iff_not]; omega
  rw [hb] at h ⊢
  rw [Int.natAbs_pow] at h ⊢
  exact Nat.lt_of_lt_of_le h (Nat.pow_le_pow_right (by omega) hk)

theorem pow_bound {a : Int} (ha : 2 ≤ a.natAbs) (k : Nat) (h : inM (a ^ k) = true) : k < 50 := by
  have hb := inM_bd h
  have h1 : (a ^ k).natAbs ≤ 1000000000000000 := by omega
  rw [Int.natAbs_pow] at h1
  rcases Nat.lt_or_ge k 50 with h' | h'
  · exact h'
  · have : 2 ^ 50 ≤ a.natAbs ^ k := Nat.le_trans (Nat.pow_le_pow_right (by omega) h') (Nat.pow_le_pow_left ha k)
    have e : (2 : Nat) ^ 50 = 1125899906842624 := by decide
    omega

end Go.Proofs.Ytngbmcljhcckmaa
namespace Go.Proofs.Ytngbmcljhcckmaa

/-- An array and a code, as a function of the document answers them. -/
structure Ans where
  c : Bool
  sh : List Int
  dt : List Int
  code : Int

end Go.Proofs.Ytngbmcljhcckmaa
namespace Go.Proofs.Ytngbmcljhcckmaa

/-- The first code other than 0 among the first n; 0 if there is none. -/
def firstCode (f : Nat → Int × Int) : Nat → Int
  | 0 => 0
  | n + 1 => if firstCode f n = 0 then (f n).2 else firstCode f n

def vals (f : Nat → Int × Int) (n : Nat) : List Int := (List.range n).map fun i => (f i).1

theorem vals_len (f : Nat → Int × Int) (n : Nat) : (vals f n).length = n := by simp [vals]

theorem vals_snoc (f : Nat → Int × Int) (n : Nat) : (vals f (n + 1)).map (Value.int .i64) = (vals f n).map (Value.int .i64) ++ [.int .i64 (f n).1] := by
  simp [vals, List.range_succ]

theorem code_step {f : Nat → Int × Int} {n : Nat} (h : firstCode f n = 0) (h2 : (f n).2 = 0) : firstCode f (n + 1) = 0 := by
  simp [firstCode, h, h2]

theorem code_stays {f : Nat → Int × Int} {n m : Nat} (h : firstCode f n ≠ 0) (hm : n ≤ m) : firstCode f m = firstCode f n := by
  induction m with
  | zero => have : n = 0 := by omega
            subst this; rfl
  | succ m ih =>
    rcases Nat.lt_or_ge n (m + 1) with h' | h'
    · have := ih (by omega)
      simp only [firstCode]
      rw [this, if_neg h]
    · have : n = m + 1 := by omega
      subst this; rfl

theorem code_found {f : Nat → Int × Int} {k n : Nat} (h : firstCode f k = 0) (hk : k < n) (h2 : (f k).2 ≠ 0) : firstCode f n = (f k).2 := by
  have e : firstCode f (k + 1) = (f k).2 := by simp [firstCode, h]
  rw [code_stays (n := k + 1) (by rw [e]; exact h2) (by omega), e]

def noAns (code : Int) : Ans := ⟨false, [], [], code⟩

/-- n elements, or the first code. -/
def gatherAns (c : Bool) (sh : List Int) (f : Nat → Int × Int) (n : Nat) : Ans := if firstCode f n = 0 then ⟨c, sh, vals f n, 0⟩ else noAns (firstCode f n)

theorem gather_good {c : Bool} {sh : List Int} {f : Nat → Int × Int} {n : Nat} (h : firstCode f n = 0) : gatherAns c sh f n = ⟨c, sh, vals f n, 0⟩ := by simp [gatherAns, h]
theorem gather_bad {c : Bool} {sh : List Int} {f : Nat → Int × Int} {k n : Nat} (h : firstCode f k = 0) (hk : k < n) (h2 : (f k).2 ≠ 0) : gatherAns c sh f n = noAns (f k).2 := by
  have e := code_found h hk h2
  unfold gatherAns; rw [if_neg (by rw [e]; exact h2), e]

/-- A scalar function on elements of arrays that may be Char. -/
def elemOf (op : Int) (c : Bool) (dt : List Int) (i : Nat) (d : Bool) (dt' : List Int) (j : Nat) : Int × Int :=
  if c ≠ d then (truth (decide (op = 10)), 0) else twoOf op (dt.getD i 0) (dt'.getD j 0)

def opIn (op : Int) : Bool := decide (1 ≤ op ∧ op ≤ 16)
def opEq (op : Int) : Bool := decide (op = 9 ∨ op = 10)

def wideB (n1 n2 m1 m2 : Nat) : Bool := decide (n2 = 1) && (decide (m2 ≠ 1) || decide (n1 < m1))

def scalar2 (op : Int) (c d : Bool) (sh dt sh' dt' : List Int) : Ans :=
  if arrOk c sh dt = true ∧ arrOk d sh' dt' = true ∧ opIn op = true then
    let wide := wideB sh.length dt.length sh'.length dt'.length
    let tall := decide (dt'.length = 1) && !wide
    if (!wide && !tall) = true ∧ sh.length ≠ sh'.length then noAns 4
    else if (!wide && !tall) = true ∧ sh ≠ sh' then noAns 5
    else if (c || d) = true ∧ opEq op = false then noAns 3
    else gatherAns false (if wide then sh' else sh) (fun i => elemOf op c dt (i % dt.length) d dt' (i % dt'.length)) (countOf (if wide then sh' else sh)).toNat
  else noAns 3

end Go.Proofs.Ytngbmcljhcckmaa
namespace Go.Proofs.Ytngbmcljhcckmaa

/-- The code of an array that should be a list of numbers. -/
def listCode (c : Bool) (n : Nat) : Int := if 1 < n then 4 else if c then 3 else 0

def fillOf (c : Bool) : Int := if c then 32 else 0

def reshapeAt (d : Bool) (dt' : List Int) (m2 k : Nat) : Int × Int := (if m2 = 0 then fillOf d else dt'.getD (k % m2) 0, 0)

def nonNeg (v : Int) : Bool := decide (0 ≤ v)

def reshape (c d : Bool) (sh dt sh' dt' : List Int) : Ans :=
  if arrOk c sh dt = true ∧ arrOk d sh' dt' = true then
    if listCode c sh.length ≠ 0 then noAns (listCode c sh.length)
    else if dt.all nonNeg = false then noAns 3
    else if shapeB dt = false then noAns 7
    else gatherAns d dt (reshapeAt d dt' dt'.length) (countOf dt).toNat
  else noAns 3

theorem reshape_bad1 {c d : Bool} {sh dt sh' dt' : List Int} (h : arrOk c sh dt = false) : reshape c d sh dt sh' dt' = noAns 3 := by unfold reshape; rw [if_neg (by simp [h])]
theorem reshape_bad2 {c d : Bool} {sh dt sh' dt' : List Int} (h : arrOk d sh' dt' = false) : reshape c d sh dt sh' dt' = noAns 3 := by unfold reshape; rw [if_neg (by simp [h])]
theorem reshape_list {c d : Bool} {sh dt sh' dt' : List Int} (h1 : arrOk c sh dt = true) (h2 : arrOk d sh' dt' = true) (r : Int) (h : listCode c sh.length = r) (hr : r ≠ 0) : reshape c d sh dt sh' dt' = noAns r := by
  unfold reshape; rw [if_pos ⟨h1, h2⟩, h, if_pos hr]
theorem reshape_neg {c d : Bool} {sh dt sh' dt' : List Int} (h1 : arrOk c sh dt = true) (h2 : arrOk d sh' dt' = true) (h : listCode c sh.length = 0) (h3 : dt.all nonNeg = false) : reshape c d sh dt sh' dt' = noAns 3 := by
  unfold reshape; rw [if_pos ⟨h1, h2⟩, if_neg (by simp [h]), if_pos h3]
theorem reshape_big {c d : Bool} {sh dt sh' dt' : List Int} (h1 : arrOk c sh dt = true) (h2 : arrOk d sh' dt' = true) (h : listCode c sh.length = 0) (h3 : dt.all nonNeg = true) (h4 : shapeB dt = false) : reshape c d sh dt sh' dt' = noAns 7 := by
  unfold reshape; rw [if_pos ⟨h1, h2⟩, if_neg (by simp [h]), if_neg (by simp [h3]), if_pos h4]
theorem reshape_go {c d : Bool} {sh dt sh' dt' : List Int} (h1 : arrOk c sh dt = true) (h2 : arrOk d sh' dt' = true) (h : listCode c sh.length = 0) (h3 : dt.all nonNeg = true) (h4 : shapeB dt = true) (m2 N : Nat) (l4 : dt'.length = m2) (hN : countOf dt = N) : reshape c d sh dt sh' dt' = gatherAns d dt (reshapeAt d dt' m2) N := by
  unfold reshape; rw [if_pos ⟨h1, h2⟩, if_neg (by simp [h]), if_neg (by simp [h3]), if_neg (by simp [h4]), l4, hN]; rfl

theorem shapeB_count {sh : List Int} (h : shapeB sh = true) : 0 ≤ countOf sh ∧ countOf sh ≤ 10000 := by
  unfold shapeB at h
  simp only [Bool.and_eq_true, decide_eq_true_eq] at h
  exact ⟨h.2, (count_bd sh).2⟩

end Go.Proofs.Ytngbmcljhcckmaa
namespace Go.Proofs.Ytngbmcljhcckmaa

/-- An index moved by a start. -/
def addIx (ix st : List Int) : List Int := (List.range ix.length).map fun i => ix.getD i 0 + st.getD i 0

theorem addIx_len (ix st : List Int) : (addIx ix st).length = ix.length := by simp [addIx]
theorem addIx_get (ix st : List Int) (k : Nat) (hk : k < ix.length) : (addIx ix st).getD k 0 = ix.getD k 0 + st.getD k 0 := by simp [addIx, hk]

/-- The first k numbers of an index lie within their axes. -/
def insideN (sh ix : List Int) : Nat → Bool
  | 0 => true
  | k + 1 => insideN sh ix k && (decide (0 ≤ ix.getD k 0) && decide (ix.getD k 0 < sh.getD k 0))

theorem inside_each {sh ix : List Int} {n : Nat} (h : insideN sh ix n = true) (k : Nat) (hk : k < n) : 0 ≤ ix.getD k 0 ∧ ix.getD k 0 < sh.getD k 0 := by
  induction n with
  | zero => omega
  | succ n ih =>
    simp only [insideN, Bool.and_eq_true, decide_eq_true_eq] at h
    by_cases e : k = n
    · subst e; exact h.2
    · exact ih h.1 (by omega)

theorem inside_in {sh ix : List Int} (h : insideN sh ix sh.length = true) : IxIn sh ix := fun k hk => inside_each h k hk

/-- What stands at place k of a window. -/
def windowAt (c : Bool) (sh dt st zs : List Int) (k : Nat) : Int × Int :=
  if insideN sh (addIx (digits zs k) st) sh.length = true then (dt.getD (place sh (addIx (digits zs k) st)).toNat 0, 0) else (fillOf c, 0)

theorem window_code (c : Bool) (sh dt st zs : List Int) (k : Nat) : (windowAt c sh dt st zs k).2 = 0 := by unfold windowAt; split <;> rfl

theorem mix_set {A D : List Int} {k : Nat} (hl : A.length = D.length) (hk : k < D.length) : (A.take k ++ D.drop k).set k (A.getD k 0) = A.take (k + 1) ++ D.drop (k + 1) := by
  have e : D.drop k = D.getD k 0 :: D.drop (k + 1) := by simp [List.getD, hk]
  have e2 : A.take (k + 1) = A.take k ++ [A.getD k 0] := take_snoc A k (by omega)
  rw [e, e2, List.append_assoc, List.set_append_right _ _ (by simp; omega)]
  have e3 : k - (A.take k).length = 0 := by simp; omega
  rw [e3]
  rfl

theorem mix_get {A D : List Int} {k : Nat} (hl : A.length = D.length) (hk : k < D.length) : (A.take k ++ D.drop k).getD k 0 = D.getD k 0 := by
  have e3 : min k A.length = k := by omega
  simp [List.getD, List.getElem?_append, e3]

theorem mix_got {A D : List Int} {k : Nat} (hk : k < A.length) : (A.take (k + 1) ++ D.drop (k + 1)).getD k 0 = A.getD k 0 := by
  have e : k < min (k + 1) A.length := by omega
  simp [List.getD, List.getElem?_append, e, hk]

theorem mix_len {A D : List Int} {k : Nat} (hl : A.length = D.length) (hk : k ≤ D.length) : (A.take k ++ D.drop k).length = D.length := by simp; omega

theorem shapeB_in {sh : List Int} (h : shapeB sh = true) : ShapeIn sh ∧ sh.length ≤ 5 := by
  unfold shapeB at h
  simp only [Bool.and_eq_true, decide_eq_true_eq] at h
  refine ⟨?_, h.1⟩
  have h2 := h.2
  unfold countOf at h2
  split at h2
  · rename_i ha
    split at h2
    · omega
    · rename_i m hm; exact ⟨ha, m, hm⟩
  · omega

end Go.Proofs.Ytngbmcljhcckmaa
namespace Go.Proofs.Ytngbmcljhcckmaa

theorem map_range_set (n k : Nat) (f : Nat → Int) (x : Int) : ((List.range n).map f).set k x = (List.range n).map fun i => if i = k then x else f i := by
  apply List.ext_getElem
  · simp
  · intro i h1 h2
    simp only [List.getElem_set, List.getElem_map, List.getElem_range]
    by_cases e : k = i
    · subst e; simp
    · rw [if_neg e, if_neg (fun h => e h.symm)]

theorem map_range_get (n k : Nat) (f : Nat → Int) (h : k < n) : ((List.range n).map f).getD k 0 = f k := by simp [h]
theorem map_range_len (n : Nat) (f : Nat → Int) : ((List.range n).map f).length = n := by simp
theorem map_range_eq {n : Nat} {f g : Nat → Int} (h : ∀ i, i < n → f i = g i) : (List.range n).map f = (List.range n).map g := List.map_congr_left fun i hi => h i (by simpa using hi)

/-- The index of place p whose last j numbers have gone back to 0. -/
def midDigit (sh : List Int) (p : Int) (j i : Nat) : Int := if sh.length - j ≤ i then 0 else digit sh p i
def mid (sh : List Int) (p : Int) (j : Nat) : List Int := (List.range sh.length).map (midDigit sh p j)

theorem mid_len (sh : List Int) (p : Int) (j : Nat) : (mid sh p j).length = sh.length := by simp [mid]
theorem mid_get (sh : List Int) (p : Int) (j : Nat) (hj : j < sh.length) : (mid sh p j).getD (sh.length - 1 - j) 0 = digit sh p (sh.length - 1 - j) := by
  unfold mid; rw [map_range_get _ _ _ (by omega)]; unfold midDigit; rw [if_neg (by omega)]
theorem mid_zero (sh : List Int) (p : Int) : mid sh p 0 = digits sh p := map_range_eq fun i hi => by unfold midDigit; rw [if_neg (by omega)]
theorem mid_step (sh : List Int) (p : Int) (j : Nat) (hj : j < sh.length) : (mid sh p j).set (sh.length - 1 - j) 0 = mid sh p (j + 1) := by
  unfold mid
  rw [map_range_set]
  refine map_range_eq fun i hi => ?_
  unfold midDigit
  by_cases e : i = sh.length - 1 - j
  · rw [if_pos e, if_pos (by omega)]
  · rw [if_neg e]
    by_cases h : sh.length - j ≤ i
    · rw [if_pos h, if_pos (by omega)]
    · rw [if_neg h, if_neg (by omega)]

def Carry (sh : List Int) (p : Int) (j : Nat) : Prop := restN sh (p + 1) j = restN sh p j + 1 ∧ ∀ i, sh.length - j ≤ i → i < sh.length → digit sh (p + 1) i = 0

theorem carry_zero (sh : List Int) (p : Int) : Carry sh p 0 := ⟨rfl, fun i h1 h2 => by omega⟩

theorem next_same {r s : Int} (hs : 0 < s) (h : r % s + 1 < s) : (r + 1) / s = r / s ∧ (r + 1) % s = r % s + 1 := by
  have h1 := Int.mul_ediv_add_emod r s
  have h2 := Int.emod_nonneg r (by omega : s ≠ 0)
  exact (Int.ediv_emod_unique hs).2 ⟨by omega, by omega, h⟩

theorem next_over {r s : Int} (hs : 0 < s) (h : ¬ r % s + 1 < s) : (r + 1) / s = r / s + 1 ∧ (r + 1) % s = 0 := by
  have h1 := Int.mul_ediv_add_emod r s
  have h2 := Int.emod_nonneg r (by omega : s ≠ 0)
  have h3 := Int.emod_lt_of_pos r hs
  have h4 : r % s + 1 = s := by omega
  refine (Int.ediv_emod_unique hs).2 ⟨?_, by omega, hs⟩
  rw [Int.mul_add, Int.mul_one]
  omega

theorem digit_at (sh : List Int) (p : Int) (j : Nat) (hj : j < sh.length) : digit sh p (sh.length - 1 - j) = restN sh p j % sh.getD (sh.length - 1 - j) 0 := by
  unfold digit; rw [show sh.length - 1 - (sh.length - 1 - j) = j by omega]

theorem carry_step {sh : List Int} (hf : Full sh) {p : Int} {j : Nat} (hc : Carry sh p j) (hj : j < sh.length) (h : ¬ digit sh p (sh.length - 1 - j) + 1 < sh.getD (sh.length - 1 - j) 0) : Carry sh p (j + 1) := by
  rw [digit_at _ _ _ hj] at h
  obtain ⟨h1, h2⟩ := next_over (hf (sh.length - 1 - j) (by omega)) h
  refine ⟨?_, fun i hi hl => ?_⟩
  · show restN sh (p + 1) j / _ = restN sh p j / _ + 1
    rw [hc.1]; exact h1
  · by_cases e : i = sh.length - 1 - j
    · subst e; rw [digit_at _ _ _ hj, hc.1]; exact h2
    · exact hc.2 i (by omega) hl

theorem restN_congr {sh : List Int} {p q : Int} {j : Nat} (h : restN sh p j = restN sh q j) (d : Nat) : restN sh p (j + d) = restN sh q (j + d) := by
  induction d with
  | zero => exact h
  | succ d ih => show restN sh p (j + d) / _ = restN sh q (j + d) / _; rw [ih]

theorem carry_stop {sh : List Int} (hf : Full sh) {p : Int} {j : Nat} (hc : Carry sh p j) (hj : j < sh.length) (h : digit sh p (sh.length - 1 - j) + 1 < sh.getD (sh.length - 1 - j) 0) :
    (mid sh p j).set (sh.length - 1 - j) (digit sh p (sh.length - 1 - j) + 1) = digits sh (p + 1) := by
  have hd := digit_at sh p j hj
  rw [hd] at h ⊢
  obtain ⟨h1, h2⟩ := next_same (hf (sh.length - 1 - j) (by omega)) h
  unfold mid digits
  rw [map_range_set]
  refine map_range_eq fun i hi => ?_
  by_cases e : i = sh.length - 1 - j
  · rw [if_pos e]; subst e; rw [digit_at _ _ _ hj, hc.1, h2]
  · rw [if_neg e]
    unfold midDigit
    by_cases h3 : sh.length - j ≤ i
    · rw [if_pos h3, hc.2 i h3 hi]
    · rw [if_neg h3]
      have e2 : restN sh p (j + 1) = restN sh (p + 1) (j + 1) := by
        show restN sh p j / _ = restN sh (p + 1) j / _
        rw [hc.1, h1]
      have e3 := restN_congr e2 (sh.length - 1 - i - (j + 1))
      rw [show j + 1 + (sh.length - 1 - i - (j + 1)) = sh.length - 1 - i by omega] at e3
      unfold digit
      rw [e3]

theorem carry_end {sh : List Int} {p : Int} {j : Nat} (hc : Carry sh p j) (hj : sh.length ≤ j) : mid sh p j = digits sh (p + 1) :=
  map_range_eq fun i hi => by unfold midDigit; rw [if_pos (by omega), hc.2 i (by omega) hi]

theorem digits_zero (sh : List Int) : digits sh 0 = List.replicate sh.length 0 := by
  have h0 : ∀ j, restN sh 0 j = 0 := by
    intro j
    induction j with
    | zero => rfl
    | succ j ih => show restN sh 0 j / _ = 0; rw [ih]; simp
  have e : List.replicate sh.length (0 : Int) = (List.range sh.length).map fun _ => 0 := by
    rw [List.map_const']; simp
  rw [e]
  exact map_range_eq fun i hi => by unfold digit; rw [h0]; simp

/-- The index of another array that a function of indexes means. -/
def meant (sh : List Int) (f : List Int → Nat → Int) (D : List Int) : List Int := (List.range sh.length).map (f D)

theorem meant_len (sh : List Int) (f : List Int → Nat → Int) (D : List Int) : (meant sh f D).length = sh.length := by simp [meant]
theorem meant_get (sh : List Int) (f : List Int → Nat → Int) (D : List Int) (k : Nat) (h : k < sh.length) : (meant sh f D).getD k 0 = f D k := map_range_get _ _ _ h

/-- What stands at place k of what is gathered. -/
def gatherAt (c : Bool) (sh dt : List Int) (f : List Int → Nat → Int) (zs : List Int) (k : Nat) : Int × Int :=
  if insideN sh (meant sh f (digits zs k)) sh.length = true then (dt.getD (place sh (meant sh f (digits zs k))).toNat 0, 0) else (fillOf c, 0)

/-- k elements have been gathered, the others are the fill. -/
def halfway (c : Bool) (sh dt : List Int) (f : List Int → Nat → Int) (zs : List Int) (N k : Nat) : List Int := (List.range N).map fun i => if i < k then (gatherAt c sh dt f zs i).1 else fillOf c

theorem half_len (c : Bool) (sh dt : List Int) (f : List Int → Nat → Int) (zs : List Int) (N k : Nat) : (halfway c sh dt f zs N k).length = N := by simp [halfway]
theorem half_zero (c : Bool) (sh dt : List Int) (f : List Int → Nat → Int) (zs : List Int) (N : Nat) : halfway c sh dt f zs N 0 = List.replicate N (fillOf c) := by
  have e : List.replicate N (fillOf c) = (List.range N).map fun _ => fillOf c := by rw [List.map_const']; simp
  rw [e]
  exact map_range_eq fun i _ => by rw [if_neg (by omega)]
theorem half_all (c : Bool) (sh dt : List Int) (f : List Int → Nat → Int) (zs : List Int) (N : Nat) : halfway c sh dt f zs N N = vals (gatherAt c sh dt f zs) N := map_range_eq fun i hi => by rw [if_pos hi]
theorem half_in (c : Bool) (sh dt : List Int) (f : List Int → Nat → Int) (zs : List Int) (N k : Nat) (x : Int) (hx : (gatherAt c sh dt f zs k).1 = x) : (halfway c sh dt f zs N k).set k x = halfway c sh dt f zs N (k + 1) := by
  unfold halfway
  rw [map_range_set]
  refine map_range_eq fun i _ => ?_
  by_cases e : i = k
  · subst e; rw [if_pos rfl, if_pos (by omega), hx]
  · rw [if_neg e]
    by_cases h : i < k
    · rw [if_pos h, if_pos (by omega)]
    · rw [if_neg h, if_neg (by omega)]
theorem half_out (c : Bool) (sh dt : List Int) (f : List Int → Nat → Int) (zs : List Int) (N k : Nat) (h : insideN sh (meant sh f (digits zs k)) sh.length = false) : halfway c sh dt f zs N k = halfway c sh dt f zs N (k + 1) := by
  refine map_range_eq fun i _ => ?_
  by_cases e : i = k
  · subst e; rw [if_neg (by omega), if_pos (by omega)]; unfold gatherAt; rw [if_neg (by simp [h])]
  · by_cases h : i < k
    · rw [if_pos h, if_pos (by omega)]
    · rw [if_neg h, if_neg (by omega)]
theorem gather_in {c : Bool} {sh dt : List Int} {f : List Int → Nat → Int} {zs : List Int} {k : Nat} (h : insideN sh (meant sh f (digits zs k)) sh.length = true) : (gatherAt c sh dt f zs k).1 = dt.getD (place sh (meant sh f (digits zs k))).toNat 0 := by unfold gatherAt; rw [if_pos h]

theorem inside_step {sh ix : List Int} {k : Nat} (h : insideN sh ix k = true) (h1 : 0 ≤ ix.getD k 0) (h2 : ix.getD k 0 < sh.getD k 0) : insideN sh ix (k + 1) = true := by
  simp only [insideN, Bool.and_eq_true, decide_eq_true_eq]; exact ⟨h, h1, h2⟩
theorem inside_not {sh ix : List Int} {n k : Nat} (hk : k < n) (h : ¬ (0 ≤ ix.getD k 0 ∧ ix.getD k 0 < sh.getD k 0)) : insideN sh ix n = false := by
  cases e : insideN sh ix n with
  | false => rfl
  | true => exact absurd (inside_each e k hk) h
theorem placeN_bd' {sh ix : List Int} (k : Nat) (hi : insideN sh ix k = true) (hk : k ≤ sh.length) : 0 ≤ placeN sh ix k ∧ placeN sh ix k < prodAll (sh.take k) ∨ k = 0 := by
  by_cases h0 : k = 0
  · exact .inr h0
  refine .inl ?_
  have hin : IxIn (sh.take k) ix := fun i hi' => by
    have hi2 : i < k := by simp at hi'; omega
    have := inside_each hi i hi2
    have e : (sh.take k).getD i 0 = sh.getD i 0 := by simp [List.getD, hi2]
    rw [e]; exact this
  have hb := place_bd hin
  have e2 : ∀ j, j ≤ k → placeN (sh.take k) ix j = placeN sh ix j := by
    intro j
    induction j with
    | zero => intro _; rfl
    | succ j ih =>
      intro hj
      show placeN (sh.take k) ix j * _ + _ = placeN sh ix j * _ + _
      rw [ih (by omega)]
      have e : (sh.take k).getD j 0 = sh.getD j 0 := by simp [List.getD, show j < k by omega]
      rw [e]
  have hlen : (sh.take k).length = k := by simp; omega
  unfold place at hb
  rw [hlen, e2 k (Nat.le_refl _)] at hb
  exact hb

end Go.Proofs.Ytngbmcljhcckmaa
namespace Go.Proofs.Ytngbmcljhcckmaa

/-- The numbers 1, 2, .. up to L. -/
def upTo (L : Nat) : List Int := (List.range L).map fun (i : Nat) => (i : Int) + 1
theorem upTo_len (L : Nat) : (upTo L).length = L := by simp [upTo]
theorem upTo_get {L i : Nat} (h : i < L) : (upTo L).getD i 0 = (i : Int) + 1 := by simp [upTo, h]

end Go.Proofs.Ytngbmcljhcckmaa
namespace Go.Proofs.Ytngbmcljhcckmaa

/-- A part, as its fields say it. -/
structure PartD where
  all : Bool
  c : Bool
  sh : List Int
  dt : List Int

def partZ : PartD := ⟨false, false, [], []⟩

/-- The numbers that a part picks along an axis of length L, from 1 on; the shape that they make; and the part's code. -/
def pickDt (p : PartD) (L : Int) : List Int := if p.all = true then upTo L.toNat else p.dt
def pickSh (p : PartD) (L : Int) : List Int := if p.all = true then [L] else p.sh
def within (L v : Int) : Bool := decide (1 ≤ v ∧ v ≤ L)
abbrev nothing (p : PartD) : Prop := p.c = false ∧ p.sh = [] ∧ p.dt = []
def pickCode (p : PartD) (L : Int) : Int :=
  if p.all = true then (if nothing p then 0 else 3)
  else if arrOk p.c p.sh p.dt = true ∧ p.c = false then (if p.dt.all (within L) = true then 0 else 6) else 3

section
variable {p : PartD} {L : Int}
theorem pick_all0 (h : p.all = true) (hn : nothing p) : pickCode p L = 0 := by unfold pickCode; rw [if_pos h, if_pos hn]
theorem pick_all3 (h : p.all = true) (hn : ¬ nothing p) : pickCode p L = 3 := by unfold pickCode; rw [if_pos h, if_neg hn]
theorem pick_bad (h : p.all = false) (hn : ¬ (arrOk p.c p.sh p.dt = true ∧ p.c = false)) : pickCode p L = 3 := by unfold pickCode; rw [if_neg (by simp [h]), if_neg hn]
theorem pick_in (h : p.all = false) (h1 : arrOk p.c p.sh p.dt = true) (h2 : p.c = false) (h3 : p.dt.all (within L) = true) : pickCode p L = 0 := by unfold pickCode; rw [if_neg (by simp [h]), if_pos ⟨h1, h2⟩, if_pos h3]
theorem pick_out (h : p.all = false) (h1 : arrOk p.c p.sh p.dt = true) (h2 : p.c = false) (h3 : p.dt.all (within L) = false) : pickCode p L = 6 := by unfold pickCode; rw [if_neg (by simp [h]), if_pos ⟨h1, h2⟩, if_neg (by simp [h3])]
theorem pickDt_all (h : p.all = true) : pickDt p L = upTo L.toNat := by unfold pickDt; rw [if_pos h]
theorem pickDt_not (h : p.all = false) : pickDt p L = p.dt := by unfold pickDt; rw [if_neg (by simp [h])]
theorem pickSh_all (h : p.all = true) : pickSh p L = [L] := by unfold pickSh; rw [if_pos h]
theorem pickSh_not (h : p.all = false) : pickSh p L = p.sh := by unfold pickSh; rw [if_neg (by simp [h])]

/-- A part without a code is a number array of its own, or the whole axis. -/
theorem pick_ok (h : pickCode p L = 0) : p.all = true ∨ (p.all = false ∧ arrOk p.c p.sh p.dt = true ∧ p.c = false ∧ p.dt.all (within L) = true) := by
  unfold pickCode at h
  split at h
  · rename_i ha; exact .inl ha
  · rename_i ha
    split at h
    · rename_i h1
      split at h
      · rename_i h2; exact .inr ⟨by simpa using ha, h1.1, h1.2, h2⟩
      · omega
    · omega

theorem pick_bd (h : pickCode p L = 0) {k : Nat} (hk : k < (pickDt p L).length) : 1 ≤ (pickDt p L).getD k 0 ∧ (pickDt p L).getD k 0 ≤ L := by
  rcases pick_ok h with ha | ⟨ha, _, _, h4⟩
  · rw [pickDt_all ha] at hk ⊢
    rw [upTo_len] at hk
    rw [upTo_get hk]
    omega
  · rw [pickDt_not ha] at hk ⊢
    have := List.all_eq_true.1 h4 (p.dt.getD k 0) (by simp [hk])
    simpa [within] using this

theorem prodAll_one (x : Int) : prodAll [x] = x := by simp [prodAll]

theorem pick_count (h : pickCode p L = 0) (hL : 0 ≤ L) : ((pickDt p L).length : Int) = prodAll (pickSh p L) := by
  rcases pick_ok h with ha | ⟨ha, h2, _, h4⟩
  · rw [pickDt_all ha, pickSh_all ha, upTo_len, prodAll_one]; omega
  · rw [pickDt_not ha, pickSh_not ha, (shapeIn_of h2).2.1]

theorem shapeIn_one {x : Int} (h0 : 0 ≤ x) (h1 : x ≤ 10000) : ShapeIn [x] := by
  refine ⟨by simp [inCells, h0, h1], ?_⟩
  simp only [prodFrom]
  split
  · exact ⟨_, rfl⟩
  · rw [if_neg (by omega)]; exact ⟨_, rfl⟩

theorem pick_shape (h : pickCode p L = 0) (hL : 0 ≤ L) (hL2 : L ≤ 10000) : ShapeIn (pickSh p L) := by
  rcases pick_ok h with ha | ⟨ha, h2, _, h4⟩
  · rw [pickSh_all ha]; exact shapeIn_one hL hL2
  · rw [pickSh_not ha]; exact (shapeIn_of h2).1

theorem pick_few (h : pickCode p L = 0) (hL : 0 ≤ L) (hL2 : L ≤ 10000) : (pickDt p L).length ≤ 10000 := by
  have := (pick_shape h hL hL2).bd
  have := pick_count h hL
  omega
end

/-- The i-th part. -/
def part (ps : List PartD) (i : Nat) : PartD := ps.getD i partZ
def pcAt (sh : List Int) (ps : List PartD) (i : Nat) : Int × Int := (0, pickCode (part ps i) (sh.getD i 0))
def pDt (sh : List Int) (ps : List PartD) (i : Nat) : List Int := pickDt (part ps i) (sh.getD i 0)
def picksCode (sh : List Int) (ps : List PartD) : Int := if ps.length = sh.length then firstCode (pcAt sh ps) ps.length else 4

/-- The shape that the first k parts make, and how many each picks. -/
def pShN (sh : List Int) (ps : List PartD) (k : Nat) : List Int := (List.range k).flatMap fun i => pickSh (part ps i) (sh.getD i 0)
def pCnN (sh : List Int) (ps : List PartD) (k : Nat) : List Int := (List.range k).map fun (i : Nat) => ((pDt sh ps i).length : Int)
def pSh (sh : List Int) (ps : List PartD) : List Int := pShN sh ps ps.length
def pCn (sh : List Int) (ps : List PartD) : List Int := pCnN sh ps ps.length

theorem pShN_succ (sh : List Int) (ps : List PartD) (k : Nat) : pShN sh ps (k + 1) = pShN sh ps k ++ pickSh (part ps k) (sh.getD k 0) := by
  simp [pShN, List.range_succ]
theorem pCnN_succ (sh : List Int) (ps : List PartD) (k : Nat) : pCnN sh ps (k + 1) = pCnN sh ps k ++ [((pDt sh ps k).length : Int)] := by
  simp [pCnN, List.range_succ]
theorem pCnN_len (sh : List Int) (ps : List PartD) (k : Nat) : (pCnN sh ps k).length = k := by simp [pCnN]
theorem pCn_get (sh : List Int) (ps : List PartD) {i : Nat} (h : i < ps.length) : (pCn sh ps).getD i 0 = ((pDt sh ps i).length : Int) := by
  simp [pCn, pCnN, h]

/-- Which element along axis i an index of the counts means. -/
def pNum (sh : List Int) (ps : List PartD) (D : List Int) (i : Nat) : Int := (pDt sh ps i).getD (D.getD i 0).toNat 0 - 1

def partsCode (sh : List Int) (ps : List PartD) : Int := if picksCode sh ps ≠ 0 then picksCode sh ps else if shapeB (pSh sh ps) = true then 0 else 7

/-- Where the t-th place lies that parts pick. -/
def whereAt (sh : List Int) (ps : List PartD) (t : Nat) : Int := place sh (meant sh (pNum sh ps) (digits (pCn sh ps) t))

structure PicksOk (sh : List Int) (ps : List PartD) : Prop where
  len : ps.length = sh.length
  code : ∀ i, i < ps.length → pickCode (part ps i) (sh.getD i 0) = 0

theorem firstCode_all {f : Nat → Int × Int} {n : Nat} (h : firstCode f n = 0) : ∀ k, k < n → (f k).2 = 0 := by
  induction n with
  | zero => intro k hk; omega
  | succ n ih =>
    simp only [firstCode] at h
    split at h
    · rename_i h0
      intro k hk
      by_cases e : k = n
      · subst e; exact h
      · exact ih h0 k (by omega)
    · rename_i h0; exact absurd h h0

theorem picks_ok {sh : List Int} {ps : List PartD} (h : picksCode sh ps = 0) : PicksOk sh ps := by
  unfold picksCode at h
  split at h
  · rename_i hl; exact ⟨hl, fun i hi => firstCode_all h i hi⟩
  · omega

theorem parts_ok {sh : List Int} {ps : List PartD} (h : partsCode sh ps = 0) : PicksOk sh ps ∧ shapeB (pSh sh ps) = true := by
  unfold partsCode at h
  split at h
  · rename_i h0; exact absurd h h0
  · rename_i h0
    split at h
    · rename_i h1; exact ⟨picks_ok (by simpa using h0), h1⟩
    · omega

theorem prodFrom_nz {xs : List Int} {n m : Int} (hx : xs.all inCells = true) (h1 : 1 ≤ n) (h : prodFrom xs n = some m) : n ≤ m ∧ (0 ∉ xs → m = n * prodAll xs) := by
  induction xs generalizing n with
  | nil => simp [prodFrom] at h; subst h; simp [prodAll]
  | cons y r ih =>
    simp only [List.all_cons, Bool.and_eq_true] at hx
    have hy : 0 ≤ y ∧ y ≤ 10000 := by simpa [inCells] using hx.1
    simp only [prodFrom] at h
    have e : prodAll (y :: r) = y * prodAll r := by
      have := prodAll_append [y] r
      rw [prodAll_one] at this
      simpa using this
    split at h
    · rename_i h0
      refine ⟨(ih hx.2 h1 h).1, fun hn => absurd (by simp [h0]) hn⟩
    · split at h
      · simp at h
      · rename_i h0 hle
        have h2 : n * 1 ≤ n * y := Int.mul_le_mul_of_nonneg_left (by omega) (by omega)
        obtain ⟨h3, h4⟩ := ih hx.2 (by omega) h
        refine ⟨by omega, fun hn => ?_⟩
        rw [h4 (fun hh => hn (List.mem_cons_of_mem _ hh)), e, Int.mul_assoc]

theorem prodAll_zero {xs : List Int} (h : 0 ∈ xs) : prodAll xs = 0 := by
  obtain ⟨a, b, rfl⟩ := List.append_of_mem h
  rw [prodAll_append]
  have := prodAll_append [0] b
  rw [prodAll_one, Int.zero_mul] at this
  have e : prodAll (0 :: b) = 0 := by simpa using this
  rw [e, Int.mul_zero]

/-- The counts are a shape where the shape is. -/
theorem counts_aux {sh : List Int} {ps : List PartD} (h : PicksOk sh ps) (hs : ShapeIn sh) (k : Nat) (hk : k ≤ ps.length) (m : Int) (hm : prodFrom (pShN sh ps k) 1 = some m) (ha : (pShN sh ps k).all inCells = true) :
    prodAll (pCnN sh ps k) = prodAll (pShN sh ps k) ∧ (pCnN sh ps k).all inCells = true ∧ ∃ m', prodFrom (pCnN sh ps k) 1 = some m' ∧ 1 ≤ m' ∧ m' ≤ m := by
  induction k generalizing m with
  | zero =>
    simp [pShN, prodFrom] at hm
    subst hm
    exact ⟨rfl, rfl, 1, rfl, by omega, by omega⟩
  | succ k ih =>
    rw [pShN_succ] at hm ha ⊢
    rw [pCnN_succ]
    rw [List.all_append, Bool.and_eq_true] at ha
    rw [prodFrom_append] at hm
    cases hp : prodFrom (pShN sh ps k) 1 with
    | none => rw [hp] at hm; simp at hm
    | some m1 =>
      rw [hp, Option.bind_some] at hm
      obtain ⟨e1, e2, m2, e3, e4, e5⟩ := ih (by omega) m1 hp ha.1
      have hc := h.code k (by omega)
      have hL := hs.cell k
      have hcnt : ((pDt sh ps k).length : Int) = prodAll (pickSh (part ps k) (sh.getD k 0)) := pick_count hc hL.1
      have hfew : (pDt sh ps k).length ≤ 10000 := pick_few hc hL.1 hL.2
      obtain ⟨h3, h4⟩ := prodFrom_nz ha.2 (by omega) hm
      have hmb := prodFrom_bd _ m1 m ha.2 (by omega) (prodFrom_bd _ 1 m1 ha.1 (by omega) (by omega) hp).2 hm
      refine ⟨by rw [prodAll_append, prodAll_append, prodAll_one, e1, hcnt], by rw [List.all_append, e2]; simp [inCells]; omega, ?_⟩
      rw [prodFrom_append, e3, Option.bind_some]
      simp only [prodFrom]
      by_cases h0 : ((pDt sh ps k).length : Int) = 0
      · rw [if_pos h0]; exact ⟨m2, rfl, e4, by omega⟩
      · rw [if_neg h0]
        have hz : 0 ∉ pickSh (part ps k) (sh.getD k 0) := fun hz => h0 (by rw [hcnt, prodAll_zero hz])
        have h5 := h4 hz
        rw [← hcnt] at h5
        have h6 : m2 * ((pDt sh ps k).length : Int) ≤ m1 * ((pDt sh ps k).length : Int) := Int.mul_le_mul_of_nonneg_right e5 (by omega)
        have h7 : 1 * 1 ≤ m2 * ((pDt sh ps k).length : Int) := Int.mul_le_mul e4 (by omega) (by omega) (by omega)
        rw [if_neg (by omega)]
        exact ⟨_, rfl, by omega, by omega⟩

theorem shapeIn_b {sh : List Int} (h : shapeB sh = true) : ShapeIn sh := by
  unfold shapeB at h
  simp only [Bool.and_eq_true, decide_eq_true_eq] at h
  have h2 := h.2
  unfold countOf at h2
  split at h2
  · rename_i ha
    split at h2
    · omega
    · rename_i m hm; exact ⟨ha, m, hm⟩
  · omega

theorem counts_in {sh : List Int} {ps : List PartD} (h : PicksOk sh ps) (hs : ShapeIn sh) (hb : shapeB (pSh sh ps) = true) : ShapeIn (pCn sh ps) ∧ prodAll (pCn sh ps) = prodAll (pSh sh ps) ∧ 0 ≤ prodAll (pSh sh ps) ∧ prodAll (pSh sh ps) ≤ 10000 := by
  have hi := shapeIn_b hb
  obtain ⟨ha, m, hm⟩ := hi
  obtain ⟨h1, h2, m', h3, _⟩ := counts_aux h hs ps.length (Nat.le_refl _) m hm ha
  exact ⟨⟨h2, m', h3⟩, h1, (shapeIn_b hb).bd⟩

theorem pCn_len (sh : List Int) (ps : List PartD) : (pCn sh ps).length = ps.length := pCnN_len _ _ _

theorem num_in {sh : List Int} {ps : List PartD} (h : PicksOk sh ps) {D : List Int} (hD : IxIn (pCn sh ps) D) {i : Nat} (hi : i < sh.length) : 0 ≤ D.getD i 0 ∧ (D.getD i 0).toNat < (pDt sh ps i).length ∧ 0 ≤ pNum sh ps D i ∧ pNum sh ps D i < sh.getD i 0 := by
  have hl := h.len
  have h1 := hD i (by rw [pCn_len]; omega)
  rw [pCn_get sh ps (by omega)] at h1
  have h2 : (D.getD i 0).toNat < (pDt sh ps i).length := by omega
  have h3 := pick_bd (h.code i (by omega)) h2
  have h4 : (pickDt (part ps i) (sh.getD i 0)).getD (D.getD i 0).toNat 0 = (pDt sh ps i).getD (D.getD i 0).toNat 0 := rfl
  rw [h4] at h3
  unfold pNum
  exact ⟨h1.1, h2, by omega, by omega⟩

theorem meant_in {sh : List Int} {ps : List PartD} (h : PicksOk sh ps) {D : List Int} (hD : IxIn (pCn sh ps) D) : IxIn sh (meant sh (pNum sh ps) D) := fun i hi => by
  rw [meant_get _ _ _ _ hi]; exact (num_in h hD hi).2.2

theorem where_bd {sh : List Int} {ps : List PartD} (h : PicksOk sh ps) (hs : ShapeIn sh) (hb : shapeB (pSh sh ps) = true) {t : Nat} (ht : (t : Int) < prodAll (pSh sh ps)) : IxIn (pCn sh ps) (digits (pCn sh ps) t) ∧ 0 ≤ whereAt sh ps t ∧ whereAt sh ps t < prodAll sh := by
  obtain ⟨h1, h2, h3, h4⟩ := counts_in h hs hb
  have hD : IxIn (pCn sh ps) (digits (pCn sh ps) t) := digits_in (full_of h1 (by omega)) _
  exact ⟨hD, place_bd (meant_in h hD)⟩

def pickedAt (dt sh : List Int) (ps : List PartD) (t : Nat) : Int × Int := (dt.getD (whereAt sh ps t).toNat 0, 0)

def indexA (c : Bool) (sh dt : List Int) (ps : List PartD) : Ans :=
  if arrOk c sh dt = true then
    if partsCode sh ps ≠ 0 then noAns (partsCode sh ps) else ⟨c, pSh sh ps, vals (pickedAt dt sh ps) (prodAll (pSh sh ps)).toNat, 0⟩
  else noAns 3

section
variable {c : Bool} {sh dt : List Int} {ps : List PartD}
theorem index_bad (h : arrOk c sh dt = false) : indexA c sh dt ps = noAns 3 := by unfold indexA; rw [if_neg (by simp [h])]
theorem index_code (h : arrOk c sh dt = true) (r : Int) (h2 : partsCode sh ps = r) (hr : r ≠ 0) : indexA c sh dt ps = noAns r := by unfold indexA; rw [if_pos h, h2, if_pos hr]
theorem index_go (h : arrOk c sh dt = true) (h2 : partsCode sh ps = 0) (N : Nat) (hN : prodAll (pSh sh ps) = N) : indexA c sh dt ps = ⟨c, pSh sh ps, vals (pickedAt dt sh ps) N, 0⟩ := by unfold indexA; rw [if_pos h, h2, if_neg (by simp), hN]; simp
end

/-- What is gathered is what is picked. -/
theorem gather_picked {c : Bool} {sh dt : List Int} {ps : List PartD} (h : PicksOk sh ps) (hs : ShapeIn sh) (hb : shapeB (pSh sh ps) = true) {t : Nat} (ht : (t : Int) < prodAll (pSh sh ps)) : gatherAt c sh dt (pNum sh ps) (pCn sh ps) t = pickedAt dt sh ps t := by
  have hD := (where_bd h hs hb ht).1
  have hM := meant_in h hD
  have hin : insideN sh (meant sh (pNum sh ps) (digits (pCn sh ps) t)) sh.length = true := by
    have key : ∀ k, k ≤ sh.length → insideN sh (meant sh (pNum sh ps) (digits (pCn sh ps) t)) k = true := by
      intro k
      induction k with
      | zero => intro _; rfl
      | succ k ih => intro hk; exact inside_step (ih (by omega)) (hM k (by omega)).1 (hM k (by omega)).2
    exact key _ (Nat.le_refl _)
  unfold gatherAt pickedAt whereAt
  rw [if_pos hin]

end Go.Proofs.Ytngbmcljhcckmaa
namespace Go.Proofs.Ytngbmcljhcckmaa

/-- The places that parts pick, the first t of them. -/
def whereL (sh : List Int) (ps : List PartD) (t : Nat) : List Int := (List.range t).map fun (i : Nat) => whereAt sh ps i

theorem whereL_succ (sh : List Int) (ps : List PartD) (t : Nat) : whereL sh ps (t + 1) = whereL sh ps t ++ [whereAt sh ps t] := by simp [whereL, List.range_succ]
theorem whereL_len (sh : List Int) (ps : List PartD) (t : Nat) : (whereL sh ps t).length = t := by simp [whereL]
theorem whereL_get (sh : List Int) (ps : List PartD) {t i : Nat} (h : i < t) : (whereL sh ps t).getD i 0 = whereAt sh ps i := by simp [whereL, h]

/-- An index whose first k numbers have been changed by f. -/
def mixN (f : List Int → Nat → Int) (D : List Int) (n k : Nat) : List Int := (List.range n).map fun i => if i < k then f D i else D.getD i 0

theorem mixN_len (f : List Int → Nat → Int) (D : List Int) (n k : Nat) : (mixN f D n k).length = n := by simp [mixN]
theorem mixN_get (f : List Int → Nat → Int) (D : List Int) {n k : Nat} (h : k < n) : (mixN f D n k).getD k 0 = D.getD k 0 := by
  unfold mixN; rw [map_range_get _ _ _ h, if_neg (by omega)]
theorem mixN_step (f : List Int → Nat → Int) (D : List Int) (n k : Nat) : (mixN f D n k).set k (f D k) = mixN f D n (k + 1) := by
  unfold mixN
  rw [map_range_set]
  refine map_range_eq fun i _ => ?_
  by_cases e : i = k
  · subst e; rw [if_pos rfl, if_pos (by omega)]
  · rw [if_neg e]
    by_cases h : i < k
    · rw [if_pos h, if_pos (by omega)]
    · rw [if_neg h, if_neg (by omega)]
theorem mixN_zero (f : List Int → Nat → Int) (sh : List Int) (p : Int) : mixN f (digits sh p) sh.length 0 = digits sh p := by
  have e : digits sh p = (List.range sh.length).map (digit sh p) := rfl
  conv => rhs; rw [e]
  refine map_range_eq fun i hi => ?_
  rw [if_neg (by omega), digits_get sh p i hi]
theorem mixN_all (f : List Int → Nat → Int) (D sh : List Int) {n : Nat} (h : sh.length = n) : mixN f D n n = meant sh f D := by
  subst h
  exact map_range_eq fun i hi => by rw [if_pos hi]

theorem pick_five {p : PartD} {L : Int} (h : pickCode p L = 0) : (pickSh p L).length ≤ 5 := by
  rcases pick_ok h with ha | ⟨ha, h2, _, _⟩
  · rw [pickSh_all ha]; simp
  · rw [pickSh_not ha]; exact (shapeIn_of h2).2.2

theorem parts_code {sh : List Int} {ps : List PartD} {r : Int} (h : picksCode sh ps = r) (h0 : r ≠ 0) : partsCode sh ps = r := by unfold partsCode; rw [h, if_pos h0]
theorem parts_seven {sh : List Int} {ps : List PartD} (h : picksCode sh ps = 0) (h0 : shapeB (pSh sh ps) = false) : partsCode sh ps = 7 := by unfold partsCode; rw [h, if_neg (by simp), if_neg (by simp [h0])]
theorem parts_zero {sh : List Int} {ps : List PartD} (h : picksCode sh ps = 0) (h0 : shapeB (pSh sh ps) = true) : partsCode sh ps = 0 := by unfold partsCode; rw [h, if_neg (by simp), if_pos h0]

end Go.Proofs.Ytngbmcljhcckmaa
namespace Go.Proofs.Ytngbmcljhcckmaa

/-- The place of the last axis, or of the first. -/
def axisAt (sh : List Int) (first : Bool) : Nat := if first then 0 else sh.length - 1
def axisB (sh : List Int) (first : Bool) : Int := prodAll (sh.take (axisAt sh first))
def axisN (sh : List Int) (first : Bool) : Int := sh.getD (axisAt sh first) 0
def axisA (sh : List Int) (first : Bool) : Int := prodAll (sh.drop (axisAt sh first + 1))
def without (sh : List Int) (first : Bool) : List Int := if first then sh.drop 1 else sh.take (sh.length - 1)

theorem axis_all (sh : List Int) (first : Bool) (h : sh ≠ []) : axisB sh first * axisN sh first * axisA sh first = prodAll sh := by
  have hl : 0 < sh.length := List.length_pos_iff.mpr h
  have hat : axisAt sh first < sh.length := by unfold axisAt; split <;> omega
  have e : sh = sh.take (axisAt sh first) ++ ([sh.getD (axisAt sh first) 0] ++ sh.drop (axisAt sh first + 1)) := by
    have h1 := List.take_append_drop (axisAt sh first + 1) sh
    rw [take_snoc sh _ hat, List.append_assoc] at h1
    exact h1.symm
  have e1 : prodAll [sh.getD (axisAt sh first) 0] = sh.getD (axisAt sh first) 0 := by simp [prodAll]
  have e2 := congrArg prodAll e
  rw [prodAll_append, prodAll_append, e1, ← Int.mul_assoc] at e2
  exact e2.symm

/-- What folding nothing gives. -/
def emptyOf (op : Int) : Int := [0, 0, 0, 1, 1, 1000000000000000, -1000000000000000, 0, 1, 1, 0, 0, 1, 1, 0, 1, 0].getD op.toNat 0

/-- Numbers folded from the right, and the code. -/
def foldR (op : Int) : List Int → Int × Int
  | [] => (emptyOf op, 0)
  | [x] => (x, 0)
  | x :: y :: r => if (foldR op (y :: r)).2 ≠ 0 then (0, (foldR op (y :: r)).2) else twoOf op x (foldR op (y :: r)).1

theorem foldR_cons {op x : Int} {r : List Int} (h : r ≠ []) : foldR op (x :: r) = if (foldR op r).2 ≠ 0 then (0, (foldR op r).2) else twoOf op x (foldR op r).1 := by
  cases r with
  | nil => exact absurd rfl h
  | cons y s => rfl

theorem foldR_code {op : Int} (xs : List Int) {r : List Int} {c : Int} (hr : r ≠ []) (h : foldR op r = (0, c)) (hc : c ≠ 0) : foldR op (xs ++ r) = (0, c) := by
  induction xs with
  | nil => exact h
  | cons x s ih =>
    rw [List.cons_append, foldR_cons (by simp [hr]), ih]
    simp [hc]

theorem two_code {op a b : Int} (h : (twoOf op a b).2 ≠ 0) : (twoOf op a b).1 = 0 := by
  unfold twoOf limited at h ⊢
  repeat' split
  all_goals simp_all

theorem two_bd (op a b : Int) : -1000000000000000 ≤ (twoOf op a b).1 ∧ (twoOf op a b).1 ≤ 1000000000000000 := by
  have hl : ∀ r : Int × Bool, -1000000000000000 ≤ (limited r).1 ∧ (limited r).1 ≤ 1000000000000000 := by
    intro r; unfold limited; split
    · rename_i h; exact inM_bd h.2
    · simp
  unfold twoOf
  repeat' split
  all_goals first | exact hl _ | simp

/-- The numbers along an axis. -/
def lineOf (dt : List Int) (p n after q : Nat) : List Int := (List.range n).map fun i => dt.getD ((p * n + i) * after + q) 0

theorem line_len (dt : List Int) (p n after q : Nat) : (lineOf dt p n after q).length = n := by simp [lineOf]
theorem line_get (dt : List Int) (p n after q i : Nat) (h : i < n) : (lineOf dt p n after q).getD i 0 = dt.getD ((p * n + i) * after + q) 0 := by simp [lineOf, h]
theorem line_snoc (dt : List Int) (p n after q k : Nat) (h : k < n) : ((lineOf dt p n after q).take (k + 1)).map (Value.int .i64) = ((lineOf dt p n after q).take k).map (Value.int .i64) ++ [.int .i64 (dt.getD ((p * n + k) * after + q) 0)] := by
  rw [take_snoc _ _ (by rw [line_len]; exact h), line_get _ _ _ _ _ _ h]; simp

theorem line_in {B n A p q i L : Nat} (hL : B * n * A = L) (hp : p < B) (hq : q < A) (hi : i < n) : (p * n + i) * A + q < L := by
  have h1 : p * n + i < B * n := by
    have : (p + 1) * n ≤ B * n := Nat.mul_le_mul_right n hp
    rw [Nat.add_mul] at this; omega
  have h2 : (p * n + i + 1) * A ≤ B * n * A := Nat.mul_le_mul_right A h1
  rw [Nat.add_mul] at h2; omega

def fold (op : Int) (c : Bool) (sh dt : List Int) (first : Bool) : Ans :=
  if arrOk c sh dt = true ∧ opIn op = true then
    if sh = [] then ⟨c, [], dt, 0⟩
    else if c = true ∧ axisN sh first ≠ 1 then noAns 3
    else gatherAns c (without sh first) (fun k => foldR op (lineOf dt (k / (axisA sh first).toNat) (axisN sh first).toNat (axisA sh first).toNat (k % (axisA sh first).toNat))) ((axisB sh first).toNat * (axisA sh first).toNat)
  else noAns 3

def scan (op : Int) (c : Bool) (sh dt : List Int) (first : Bool) : Ans :=
  if arrOk c sh dt = true ∧ opIn op = true then
    if sh = [] then ⟨c, [], dt, 0⟩
    else if c = true ∧ 1 < axisN sh first then noAns 3
    else gatherAns c sh (fun k => foldR op ((lineOf dt (k / (axisA sh first).toNat / (axisN sh first).toNat) (axisN sh first).toNat (axisA sh first).toNat (k % (axisA sh first).toNat)).take (k / (axisA sh first).toNat % (axisN sh first).toNat + 1))) ((axisB sh first).toNat * (axisN sh first).toNat * (axisA sh first).toNat)
  else noAns 3

end Go.Proofs.Ytngbmcljhcckmaa
namespace Go.Proofs.Ytngbmcljhcckmaa

def front (sh : List Int) : List Int := sh.take (sh.length - 1)
def last (sh : List Int) : Int := sh.getD (sh.length - 1) 0

/-- The shape of an array as Catenate takes it beside another. -/
def sideSh (sh sh' : List Int) : List Int := if sh = [] then front sh' ++ [1] else if sh.length + 1 = sh'.length then sh ++ [1] else sh
def sideDt (sh dt sh' : List Int) : List Int := if sh = [] then List.replicate (countOf (sideSh sh sh')).toNat (dt.getD 0 0) else dt

/-- k rows, each of m elements of one list and of n of another. -/
def catN (x y : List Int) (m n : Nat) : Nat → List Int
  | 0 => []
  | k + 1 => catN x y m n k ++ (x.drop (k * m)).take m ++ (y.drop (k * n)).take n

def catenate (c d : Bool) (sh dt sh' dt' : List Int) : Ans :=
  if arrOk c sh dt = true ∧ arrOk d sh' dt' = true then
    if (sideSh sh sh').length ≠ (sideSh sh' sh).length then noAns 4
    else if front (sideSh sh sh') ≠ front (sideSh sh' sh) then noAns 5
    else if c ≠ d ∧ sideDt sh dt sh' ≠ [] ∧ sideDt sh' dt' sh ≠ [] then noAns 3
    else if shapeB (front (sideSh sh sh') ++ [last (sideSh sh sh') + last (sideSh sh' sh)]) = false then noAns 7
    else ⟨if sideDt sh dt sh' = [] ∧ sideDt sh' dt' sh ≠ [] then d else c, front (sideSh sh sh') ++ [last (sideSh sh sh') + last (sideSh sh' sh)],
      catN (sideDt sh dt sh') (sideDt sh' dt' sh) (last (sideSh sh sh')).toNat (last (sideSh sh' sh)).toNat (prodAll (front (sideSh sh sh'))).toNat, 0⟩
  else noAns 3

section
variable {c d : Bool} {sh dt sh' dt' : List Int}
theorem cat_bad1 (h : arrOk c sh dt = false) : catenate c d sh dt sh' dt' = noAns 3 := by unfold catenate; rw [if_neg (by simp [h])]
theorem cat_bad2 (h : arrOk d sh' dt' = false) : catenate c d sh dt sh' dt' = noAns 3 := by unfold catenate; rw [if_neg (by simp [h])]
theorem cat_rank (h1 : arrOk c sh dt = true) (h2 : arrOk d sh' dt' = true) (h : (sideSh sh sh').length ≠ (sideSh sh' sh).length) : catenate c d sh dt sh' dt' = noAns 4 := by
  unfold catenate; rw [if_pos ⟨h1, h2⟩, if_pos h]
variable {L R x y : List Int}
theorem cat_len (h1 : arrOk c sh dt = true) (h2 : arrOk d sh' dt' = true) (hL : sideSh sh sh' = L) (hR : sideSh sh' sh = R) (h : L.length = R.length) (hf : front L ≠ front R) : catenate c d sh dt sh' dt' = noAns 5 := by
  unfold catenate; rw [if_pos ⟨h1, h2⟩, hL, hR, if_neg (by simp [h]), if_pos hf]
theorem cat_dom (h1 : arrOk c sh dt = true) (h2 : arrOk d sh' dt' = true) (hL : sideSh sh sh' = L) (hR : sideSh sh' sh = R) (hx : sideDt sh dt sh' = x) (hy : sideDt sh' dt' sh = y) (h : L.length = R.length) (hf : front L = front R) (hd : c ≠ d ∧ x ≠ [] ∧ y ≠ []) : catenate c d sh dt sh' dt' = noAns 3 := by
  unfold catenate; rw [if_pos ⟨h1, h2⟩, hL, hR, hx, hy, if_neg (by simp [h]), if_neg (by simp [hf]), if_pos hd]
theorem cat_big (h1 : arrOk c sh dt = true) (h2 : arrOk d sh' dt' = true) (hL : sideSh sh sh' = L) (hR : sideSh sh' sh = R) (hx : sideDt sh dt sh' = x) (hy : sideDt sh' dt' sh = y) (h : L.length = R.length) (hf : front L = front R) (hd : ¬ (c ≠ d ∧ x ≠ [] ∧ y ≠ [])) (hz : shapeB (front L ++ [last L + last R]) = false) : catenate c d sh dt sh' dt' = noAns 7 := by
  unfold catenate; rw [if_pos ⟨h1, h2⟩, hL, hR, hx, hy, if_neg (by simp [h]), if_neg (by simp [hf]), if_neg hd, if_pos hz]
theorem cat_go (h1 : arrOk c sh dt = true) (h2 : arrOk d sh' dt' = true) (hL : sideSh sh sh' = L) (hR : sideSh sh' sh = R) (hx : sideDt sh dt sh' = x) (hy : sideDt sh' dt' sh = y) (h : L.length = R.length) (hf : front L = front R) (hd : ¬ (c ≠ d ∧ x ≠ [] ∧ y ≠ [])) (hz : shapeB (front L ++ [last L + last R]) = true) :
    catenate c d sh dt sh' dt' = ⟨if x = [] ∧ y ≠ [] then d else c, front L ++ [last L + last R], catN x y (last L).toNat (last R).toNat (prodAll (front L)).toNat, 0⟩ := by
  unfold catenate; rw [if_pos ⟨h1, h2⟩, hL, hR, hx, hy, if_neg (by simp [h]), if_neg (by simp [hf]), if_neg hd, if_neg (by simp [hz])]
end

theorem shapeIn_snoc1 {l : List Int} (h : ShapeIn l) : ShapeIn (l ++ [1]) := by
  obtain ⟨ha, m, hm⟩ := h
  refine ⟨by rw [List.all_append, ha]; rfl, m, ?_⟩
  have key : ∀ (l : List Int) (n : Int), 1 ≤ n → n ≤ 10000 → l.all inCells = true → ∀ m, prodFrom l n = some m → prodFrom (l ++ [1]) n = some m := by
    intro l
    induction l with
    | nil => intro n h1 h2 _ m hm; simp only [prodFrom] at hm ⊢; simp [prodFrom]; cases hm; omega
    | cons x r ih =>
      intro n h1 h2 hl m hm
      simp only [List.all_cons, Bool.and_eq_true] at hl
      have hx : 0 ≤ x ∧ x ≤ 10000 := by simpa [inCells] using hl.1
      simp only [prodFrom, List.cons_append] at hm ⊢
      by_cases h0 : x = 0
      · rw [if_pos h0] at hm ⊢; exact ih n h1 h2 hl.2 m hm
      · rw [if_neg h0] at hm ⊢
        split at hm
        · cases hm
        · rename_i hle
          rw [if_neg hle]
          have : 1 * 1 ≤ n * x := Int.mul_le_mul h1 (by omega) (by omega) (by omega)
          exact ih _ (by omega) (by omega) hl.2 m hm
  exact key l 1 (by omega) (by omega) ha m hm

theorem front_snoc (l : List Int) (x : Int) : front (l ++ [x]) = l := by simp [front]
theorem last_snoc (l : List Int) (x : Int) : last (l ++ [x]) = x := by simp [last]
theorem front_last {l : List Int} (h : l ≠ []) : l = front l ++ [last l] := by
  have hl : 0 < l.length := List.length_pos_iff.mpr h
  unfold front last
  have := List.take_append_drop (l.length - 1) l
  have e : l.drop (l.length - 1) = [l.getD (l.length - 1) 0] := by
    rw [List.drop_eq_getElem_cons (by omega)]
    simp [List.getD, show l.length - 1 < l.length by omega, show l.length - 1 + 1 = l.length by omega]
  rw [e] at this
  exact this.symm

/-- The array as it is taken has a valid shape. -/
theorem side_in {c d : Bool} {sh dt sh' dt' : List Int} (h1 : arrOk c sh dt = true) (h2 : arrOk d sh' dt' = true) : ShapeIn (sideSh sh sh') ∧ (sideSh sh sh').length ≤ 5 ∧ 0 < (sideSh sh sh').length ∧ prodAll (sideSh sh sh') = (sideDt sh dt sh').length := by
  obtain ⟨i1, p1, l1⟩ := shapeIn_of h1
  obtain ⟨i2, p2, l2⟩ := shapeIn_of h2
  unfold sideDt
  by_cases e : sh = []
  · have hs : sideSh sh sh' = front sh' ++ [1] := by unfold sideSh; rw [if_pos e]
    have hi : ShapeIn (front sh' ++ [1]) := shapeIn_snoc1 (i2.take _)
    have hl : (front sh' ++ [1]).length ≤ 5 := by simp [front]; omega
    rw [if_pos e, hs]
    refine ⟨hi, hl, by simp, ?_⟩
    have hb : shapeB (front sh' ++ [1]) = true := by
      obtain ⟨ha, m, hm⟩ := hi
      exact shape_good (n := (front sh' ++ [1]).length) rfl hl m ha hm
    have hc := prodAll_count _ hb
    have hn := hi.bd.1
    simp
    omega
  · rw [if_neg e]
    unfold sideSh
    rw [if_neg e]
    by_cases e2 : sh.length + 1 = sh'.length
    · rw [if_pos e2]
      refine ⟨shapeIn_snoc1 i1, by simp; omega, by simp, ?_⟩
      rw [prodAll_append, p1]; simp [prodAll]
    · rw [if_neg e2]
      exact ⟨i1, l1, List.length_pos_iff.mpr e, p1⟩

end Go.Proofs.Ytngbmcljhcckmaa
namespace Go.Proofs.Ytngbmcljhcckmaa

/-- How often the element at place i of an axis is taken. -/
def timesAt (dt : List Int) (i : Nat) : Int := dt.getD (i % dt.length) 0
/-- The sum of the first m of them. -/
def timesSum (dt : List Int) : Nat → Int
  | 0 => 0
  | m + 1 => timesSum dt m + timesAt dt m
/-- How many places are gone through. -/
def repCount (n K : Nat) : Nat := if n = 1 then K else n

/-- The elements at number i of the axis behind p elements ahead of it. -/
def repBlk (dt' : List Int) (n A p i : Nat) : List Int := (dt'.drop ((p * n + i % n) * A)).take A
def repCopies (dt' : List Int) (n A p i : Nat) : Nat → List Int
  | 0 => []
  | c + 1 => repCopies dt' n A p i c ++ repBlk dt' n A p i
def repLine (dt dt' : List Int) (n A p : Nat) : Nat → List Int
  | 0 => []
  | i + 1 => repLine dt dt' n A p i ++ repCopies dt' n A p i (timesAt dt i).toNat
def repAll (dt dt' : List Int) (n A m : Nat) : Nat → List Int
  | 0 => []
  | p + 1 => repAll dt dt' n A m p ++ repLine dt dt' n A p m

/-- What has been gathered in p rounds, i of the next, c copies, q elements. -/
def repAt (dt dt' : List Int) (n A m p i c q : Nat) : List Int := repAll dt dt' n A m p ++ repLine dt dt' n A p i ++ repCopies dt' n A p i c ++ (repBlk dt' n A p i).take q

theorem repAt_q {dt dt' : List Int} {n A m p i c q : Nat} (h : (p * n + i % n) * A + q < dt'.length) (hq : q < A) : repAt dt dt' n A m p i c q ++ [dt'.getD ((p * n + i % n) * A + q) 0] = repAt dt dt' n A m p i c (q + 1) := by
  unfold repAt
  rw [List.append_assoc]
  congr 1
  have hl : q < (repBlk dt' n A p i).length := by unfold repBlk; simp; omega
  have e : (repBlk dt' n A p i)[q] = dt'.getD ((p * n + i % n) * A + q) 0 := by
    have e0 : (repBlk dt' n A p i)[q]? = dt'[(p * n + i % n) * A + q]? := by
      unfold repBlk
      rw [List.getElem?_take_of_lt hq, List.getElem?_drop]
    rw [List.getElem?_eq_getElem hl, List.getElem?_eq_getElem h] at e0
    rw [Option.some.inj e0]
    simp [List.getD, h]
  rw [List.take_succ_eq_append_getElem hl, e]

theorem repAt_c {dt dt' : List Int} {n A m p i c : Nat} : repAt dt dt' n A m p i c A = repAt dt dt' n A m p i (c + 1) 0 := by
  unfold repAt
  have h : (repBlk dt' n A p i).take A = repBlk dt' n A p i := by unfold repBlk; rw [List.take_take]; simp
  rw [h]
  simp [repCopies, List.append_assoc]

theorem repAt_i {dt dt' : List Int} {n A m p i : Nat} : repAt dt dt' n A m p i (timesAt dt i).toNat 0 = repAt dt dt' n A m p (i + 1) 0 0 := by
  unfold repAt
  simp [repCopies, repLine, List.append_assoc]

theorem repAt_p {dt dt' : List Int} {n A m p : Nat} : repAt dt dt' n A m p m 0 0 = repAt dt dt' n A m (p + 1) 0 0 0 := by
  unfold repAt
  simp [repCopies, repLine, repAll]

theorem repAt_end {dt dt' : List Int} {n A m p : Nat} : repAt dt dt' n A m p 0 0 0 = repAll dt dt' n A m p := by
  unfold repAt
  simp [repCopies, repLine]

end Go.Proofs.Ytngbmcljhcckmaa
namespace Go.Proofs.Ytngbmcljhcckmaa

/-- k elements have been put into those of an array of the shape sh. -/
def putN (sh : List Int) (f : List Int → Nat → Int) (zs : List Int) (g : Nat → Int) (l : List Int) : Nat → List Int
  | 0 => l
  | k + 1 => if insideN sh (meant sh f (digits zs k)) sh.length = true then (putN sh f zs g l k).set (place sh (meant sh f (digits zs k))).toNat (g k) else putN sh f zs g l k

theorem put_len (sh : List Int) (f : List Int → Nat → Int) (zs : List Int) (g : Nat → Int) (l : List Int) (k : Nat) : (putN sh f zs g l k).length = l.length := by
  induction k with
  | zero => rfl
  | succ k ih =>
    simp only [putN]
    split
    · rw [List.length_set, ih]
    · exact ih

theorem put_in {sh : List Int} {f : List Int → Nat → Int} {zs : List Int} {g : Nat → Int} {l : List Int} {k j : Nat} (h : insideN sh (meant sh f (digits zs k)) sh.length = true) (hj : place sh (meant sh f (digits zs k)) = (j : Int)) : (putN sh f zs g l k).set j (g k) = putN sh f zs g l (k + 1) := by
  simp only [putN]
  rw [if_pos h, hj]
  simp

theorem put_out {sh : List Int} {f : List Int → Nat → Int} {zs : List Int} {g : Nat → Int} {l : List Int} {k : Nat} (h : insideN sh (meant sh f (digits zs k)) sh.length = false) : putN sh f zs g l k = putN sh f zs g l (k + 1) := by
  simp only [putN]
  rw [if_neg (by simp [h])]

end Go.Proofs.Ytngbmcljhcckmaa
namespace Go.Proofs.Ytngbmcljhcckmaa

/-- The code of an array that should have one number. -/
def singleCode (c : Bool) (n : Nat) : Int := if n ≠ 1 then 5 else if c then 3 else 0

/-- Where element t of the rotated array comes from. -/
def rotFrom (n A d t : Nat) : Nat := (t / A / n * n + (t / A % n + d) % n) * A + t % A

def rotAt (n A d : Nat) (dt : List Int) (t : Nat) : Int × Int := (dt.getD (rotFrom n A d t) 0, 0)

theorem rotFrom_at {n A d p i q : Nat} (hi : i < n) (hq : q < A) : rotFrom n A d ((p * n + i) * A + q) = (p * n + (i + d) % n) * A + q := by
  have hA : 0 < A := by omega
  have hn : 0 < n := by omega
  have e1 : ((p * n + i) * A + q) / A = p * n + i := by rw [Nat.add_comm, Nat.add_mul_div_right _ _ hA, Nat.div_eq_of_lt hq, Nat.zero_add]
  have e2 : ((p * n + i) * A + q) % A = q := by rw [Nat.add_comm, Nat.add_mul_mod_self_right, Nat.mod_eq_of_lt hq]
  have e3 : (p * n + i) / n = p := by rw [Nat.add_comm, Nat.add_mul_div_right _ _ hn, Nat.div_eq_of_lt hi, Nat.zero_add]
  have e4 : (p * n + i) % n = i := by rw [Nat.add_comm, Nat.add_mul_mod_self_right, Nat.mod_eq_of_lt hi]
  unfold rotFrom
  rw [e1, e2, e3, e4]

theorem three_lt {B n A p i q : Nat} (hp : p < B) (hi : i < n) (hq : q < A) : (p * n + i) * A + q < B * n * A := by
  have h1 : p * n + i + 1 ≤ B * n := by
    have : (p + 1) * n ≤ B * n := Nat.mul_le_mul_right n hp
    rw [Nat.add_mul, Nat.one_mul] at this
    omega
  have h2 : (p * n + i + 1) * A ≤ B * n * A := Nat.mul_le_mul_right A h1
  rw [Nat.add_mul, Nat.one_mul] at h2
  omega

def rotate (c d : Bool) (sh dt sh' dt' : List Int) (fl : Bool) : Ans :=
  if arrOk c sh dt = true ∧ arrOk d sh' dt' = true then
    if singleCode c dt.length ≠ 0 then noAns (singleCode c dt.length)
    else if sh' = [] ∨ dt' = [] then ⟨d, sh', dt', 0⟩
    else ⟨d, sh', vals (rotAt (axisN sh' fl).toNat (axisA sh' fl).toNat (modOf (axisN sh' fl) (dt.getD 0 0)).toNat dt') dt'.length, 0⟩
  else noAns 3

section
variable {c d fl : Bool} {sh dt sh' dt' : List Int}
theorem rotate_bad1 (h : arrOk c sh dt = false) : rotate c d sh dt sh' dt' fl = noAns 3 := by unfold rotate; rw [if_neg (by simp [h])]
theorem rotate_bad2 (h : arrOk d sh' dt' = false) : rotate c d sh dt sh' dt' fl = noAns 3 := by unfold rotate; rw [if_neg (by simp [h])]
theorem rotate_code (h1 : arrOk c sh dt = true) (h2 : arrOk d sh' dt' = true) (r : Int) (h : singleCode c dt.length = r) (hr : r ≠ 0) : rotate c d sh dt sh' dt' fl = noAns r := by
  unfold rotate; rw [if_pos ⟨h1, h2⟩, h, if_pos hr]
theorem rotate_none (h1 : arrOk c sh dt = true) (h2 : arrOk d sh' dt' = true) (h : singleCode c dt.length = 0) (h3 : sh' = [] ∨ dt' = []) : rotate c d sh dt sh' dt' fl = ⟨d, sh', dt', 0⟩ := by
  unfold rotate; rw [if_pos ⟨h1, h2⟩, if_neg (by simp [h]), if_pos h3]
theorem rotate_go (h1 : arrOk c sh dt = true) (h2 : arrOk d sh' dt' = true) (h : singleCode c dt.length = 0) (h3 : sh' ≠ []) (h4 : dt' ≠ []) (n A e : Nat) (hn : axisN sh' fl = n) (hA : axisA sh' fl = A) (he : modOf n (dt.getD 0 0) = e) : rotate c d sh dt sh' dt' fl = ⟨d, sh', vals (rotAt n A e dt') dt'.length, 0⟩ := by
  unfold rotate; rw [if_pos ⟨h1, h2⟩, if_neg (by simp [h]), if_neg (by rintro (h | h); exact h3 h; exact h4 h), hn, hA, he]; rfl
end

theorem modOf_pos {n : Nat} (hn : 0 < n) (b : Int) : 0 ≤ modOf n b ∧ modOf n b < n := by
  unfold modOf
  have h1 := Int.tmod_lt_of_pos b (by omega : (0 : Int) < n)
  have h2 : -(n : Int) < b.tmod n := Int.lt_tmod_of_pos b (by omega)
  rw [if_neg (by omega)]
  split
  · rename_i h
    have h3 : b.tmod n < 0 := by
      by_cases h4 : b.tmod n < 0
      · exact h4
      · exfalso; apply h.2; rw [decide_eq_false h4, decide_eq_false (by omega)]
    omega
  · rename_i h
    have : ¬ b.tmod n < 0 := by
      intro h4
      apply h
      refine ⟨by omega, ?_⟩
      rw [decide_eq_true h4, decide_eq_false (by omega)]; simp
    omega

end Go.Proofs.Ytngbmcljhcckmaa
namespace Go.Proofs.Ytngbmcljhcckmaa

theorem inside_of {sh ix : List Int} (h : IxIn sh ix) (k : Nat) (hk : k ≤ sh.length) : insideN sh ix k = true := by
  induction k with
  | zero => rfl
  | succ k ih => exact inside_step (ih (by omega)) (h k (by omega)).1 (h k (by omega)).2

theorem getD_drop (l : List Int) (b m : Nat) : (l.drop b).getD m 0 = l.getD (b + m) 0 := by simp [List.getD]

theorem placeN_add (sh ix : List Int) (b m : Nat) (hm : b + m ≤ sh.length) : placeN sh ix (b + m) = placeN sh ix b * prodAll ((sh.drop b).take m) + placeN (sh.drop b) (ix.drop b) m := by
  induction m with
  | zero => simp [placeN, prodAll]
  | succ m ih =>
    show placeN sh ix (b + m) * sh.getD (b + m) 0 + ix.getD (b + m) 0 = _
    rw [ih (by omega), prodAll_snoc _ _ (by simp; omega)]
    show _ = placeN sh ix b * (prodAll ((sh.drop b).take m) * (sh.drop b).getD m 0) + (placeN (sh.drop b) (ix.drop b) m * (sh.drop b).getD m 0 + (ix.drop b).getD m 0)
    rw [getD_drop, getD_drop, Int.add_mul, Int.mul_assoc, Int.add_assoc]

theorem place_split (sh ix : List Int) (a : Nat) (ha : a < sh.length) : place sh ix = (placeN sh ix a * sh.getD a 0 + ix.getD a 0) * prodAll (sh.drop (a + 1)) + place (sh.drop (a + 1)) (ix.drop (a + 1)) := by
  have h := placeN_add sh ix (a + 1) (sh.length - (a + 1)) (by omega)
  rw [show a + 1 + (sh.length - (a + 1)) = sh.length by omega, List.take_of_length_le (by simp)] at h
  unfold place
  rw [h]
  simp [placeN]

theorem placeN_same {sh x y : List Int} (k : Nat) (h : ∀ i, i < k → x.getD i 0 = y.getD i 0) : placeN sh x k = placeN sh y k := by
  induction k with
  | zero => rfl
  | succ k ih => show placeN sh x k * _ + _ = placeN sh y k * _ + _; rw [ih (fun i hi => h i (by omega)), h k (by omega)]

theorem modOf_emod {n : Int} (hn : 0 < n) (b : Int) : modOf n b = b % n := by
  unfold modOf
  rw [if_neg (by omega)]
  have h1 := Int.tmod_lt_of_pos b hn
  have h2 : -n < b.tmod n := Int.lt_tmod_of_pos b hn
  have h3 := Int.mul_tdiv_add_tmod b n
  split
  · rename_i h
    have h4 : b.tmod n < 0 := by
      by_cases h4 : b.tmod n < 0
      · exact h4
      · exfalso; apply h.2; rw [decide_eq_false h4, decide_eq_false (by omega)]
    have := (Int.ediv_emod_unique (a := b) (r := b.tmod n + n) (q := b.tdiv n - 1) hn).2 ⟨by rw [Int.mul_sub, Int.mul_one]; omega, by omega, by omega⟩
    exact this.2.symm
  · rename_i h
    have h4 : ¬ b.tmod n < 0 := by
      intro h4
      apply h
      refine ⟨by omega, ?_⟩
      rw [decide_eq_true h4, decide_eq_false (by omega)]; simp
    have := (Int.ediv_emod_unique (a := b) (r := b.tmod n) (q := b.tdiv n) hn).2 ⟨by omega, by omega, by omega⟩
    exact this.2.symm

theorem wrap_emod {n : Int} (hn : 0 < n) (b : Int) : (b.tmod n + n).tmod n = b % n := by
  have h1 := Int.tmod_lt_of_pos b hn
  have h2 : -n < b.tmod n := Int.lt_tmod_of_pos b hn
  have h3 := Int.mul_tdiv_add_tmod b n
  rw [Int.tmod_eq_emod_of_nonneg (by omega)]
  by_cases h4 : b.tmod n < 0
  · rw [Int.emod_eq_of_lt (by omega) (by omega)]
    have := (Int.ediv_emod_unique (a := b) (r := b.tmod n + n) (q := b.tdiv n - 1) hn).2 ⟨by rw [Int.mul_sub, Int.mul_one]; omega, by omega, by omega⟩
    exact this.2.symm
  · rw [Int.add_emod_right, Int.emod_eq_of_lt (by omega) (by omega)]
    have := (Int.ediv_emod_unique (a := b) (r := b.tmod n) (q := b.tdiv n) hn).2 ⟨by omega, by omega, by omega⟩
    exact this.2.symm

/-- Which element along each axis is meant where axis a is turned by k. -/
def rotF (sh : List Int) (a : Int) (k : Int) (D : List Int) (i : Nat) : Int := if (i : Int) = a then (D.getD i 0 + k) % sh.getD i 0 else D.getD i 0

theorem rot_gather {d : Bool} {sh dt : List Int} {a : Nat} {k : Int} (hf : Full sh) (ha : a < sh.length) (t : Nat) (ht : (t : Int) < prodAll sh) (n A e : Nat) (hn : sh.getD a 0 = n) (hA : prodAll (sh.drop (a + 1)) = A) (he : modOf n k = e) :
    gatherAt d sh dt (rotF sh a k) sh t = rotAt n A e dt t := by
  have hn0 : (0 : Int) < n := by rw [← hn]; exact hf a ha
  have hD := digits_in hf (t : Int)
  have hpl := place_digits hf (p := (t : Int)) (by omega) ht
  have hDl := digits_len sh (t : Int)
  obtain ⟨D, hDD⟩ : ∃ D, digits sh (t : Int) = D := ⟨_, rfl⟩
  rw [hDD] at hD hpl hDl
  have hMg := meant_get sh (rotF sh a k) D
  have hMl := meant_len sh (rotF sh a k) D
  obtain ⟨M, hM⟩ : ∃ M, meant sh (rotF sh a k) D = M := ⟨_, rfl⟩
  rw [hM] at hMg hMl
  have hoth : ∀ i, i < sh.length → i ≠ a → M.getD i 0 = D.getD i 0 := fun i hi hne => by rw [hMg i hi]; unfold rotF; rw [if_neg (by omega)]
  have hat : M.getD a 0 = (D.getD a 0 + k) % n := by rw [hMg a ha]; unfold rotF; rw [if_pos rfl, hn]
  have hMin : IxIn sh M := fun i hi => by
    by_cases e : i = a
    · subst e; rw [hat, hn]; exact ⟨Int.emod_nonneg _ (by omega), Int.emod_lt_of_pos _ hn0⟩
    · rw [hoth i hi e]; exact hD i hi
  have hdrop : M.drop (a + 1) = D.drop (a + 1) := by
    apply List.ext_getElem
    · simp; omega
    · intro i h1 h2
      have hi : a + 1 + i < sh.length := by simp at h1; omega
      have := hoth (a + 1 + i) hi (by omega)
      simp only [List.getElem_drop]
      simpa [List.getD, show a + 1 + i < M.length by omega, show a + 1 + i < D.length by omega] using this
  have hsp := place_split sh M a ha
  have hsd := place_split sh D a ha
  rw [placeN_same a (fun i hi => hoth i (by omega) (by omega)), hat, hdrop, hn, hA] at hsp
  rw [hpl, hn, hA] at hsd
  have hrest : IxIn (sh.drop (a + 1)) (D.drop (a + 1)) := fun i hi => by
    rw [getD_drop, getD_drop]; exact hD _ (by simp at hi; omega)
  have hq := place_bd hrest
  rw [hA] at hq
  have hP := (placeN_bd hD a (by omega)).1
  have hi := hD a ha
  rw [hn] at hi
  obtain ⟨p, hp⟩ : ∃ p : Nat, placeN sh D a = p := ⟨(placeN sh D a).toNat, by omega⟩
  obtain ⟨i, hi'⟩ : ∃ i : Nat, D.getD a 0 = i := ⟨(D.getD a 0).toNat, by omega⟩
  obtain ⟨q, hq'⟩ : ∃ q : Nat, place (sh.drop (a + 1)) (D.drop (a + 1)) = q := ⟨(place (sh.drop (a + 1)) (D.drop (a + 1))).toNat, by omega⟩
  rw [hp, hi', hq'] at hsd hsp
  rw [hi'] at hi
  rw [hq'] at hq
  have he2 : ((i : Int) + k) % n = (((i + e) % n : Nat) : Int) := by
    rw [modOf_emod hn0] at he
    rw [Int.natCast_emod, Int.natCast_add, ← he, Int.add_emod_emod]
  rw [he2] at hsp
  have hts : t = (p * n + i) * A + q := by exact_mod_cast hsd
  have hfrom := rotFrom_at (n := n) (A := A) (d := e) (p := p) (i := i) (q := q) (by omega) (by omega)
  have hpm : place sh M = ((rotFrom n A e t : Nat) : Int) := by rw [hts, hfrom, hsp]; push_cast; rfl
  unfold gatherAt rotAt
  rw [hDD, hM, if_pos (inside_of hMin _ (Nat.le_refl _)), hpm]
  simp

theorem vals_same {f g : Nat → Int × Int} {n : Nat} (h : ∀ i, i < n → (f i).1 = (g i).1) : vals f n = vals g n := map_range_eq h

end Go.Proofs.Ytngbmcljhcckmaa
namespace Go.Proofs.Ytngbmcljhcckmaa

/-- The place in rows of t of what stands at place k in rows of s, moved by off. -/
def rowPlace (s t off k : Nat) : Nat := k / s * t + k % s + off

theorem rowPlace_div {s t off k : Nat} (hs : 0 < s) (ht : s + off ≤ t) : rowPlace s t off k / t = k / s ∧ rowPlace s t off k % t = k % s + off := by
  have h1 := Nat.mod_lt k hs
  have e : rowPlace s t off k = (k % s + off) + t * (k / s) := by unfold rowPlace; rw [Nat.mul_comm (k / s) t]; omega
  rw [e]
  exact ⟨by rw [Nat.add_mul_div_left _ _ (by omega), Nat.div_eq_of_lt (by omega)]; omega, by rw [Nat.add_mul_mod_self_left, Nat.mod_eq_of_lt (by omega)]⟩

theorem rowPlace_iff {s t off i k : Nat} (hs : 0 < s) (ht : s + off ≤ t) : i = rowPlace s t off k ↔ (off ≤ i % t ∧ i % t < off + s) ∧ i / t * s + (i % t - off) = k := by
  constructor
  · rintro rfl
    obtain ⟨h1, h2⟩ := rowPlace_div (k := k) hs ht
    rw [h1, h2]
    have h3 := Nat.mod_lt k hs
    have h4 := Nat.div_add_mod k s
    rw [Nat.mul_comm] at h4
    exact ⟨⟨by omega, by omega⟩, by omega⟩
  · rintro ⟨⟨h1, h2⟩, rfl⟩
    have e : i / t * s + (i % t - off) = (i % t - off) + s * (i / t) := by rw [Nat.mul_comm]; omega
    unfold rowPlace
    rw [e, Nat.add_mul_div_left _ _ hs, Nat.add_mul_mod_self_left, Nat.div_eq_of_lt (by omega), Nat.mod_eq_of_lt (show i % t - off < s by omega)]
    have h4 := Nat.div_add_mod i t
    rw [Nat.mul_comm] at h4
    rw [Nat.zero_add]
    omega

/-- What stands at place i when k elements of rows of s have been put into rows of t. -/
def putRow (s t off : Nat) (g : Nat → Int) (l : List Int) (k i : Nat) : Int := if (off ≤ i % t ∧ i % t < off + s) ∧ i / t * s + (i % t - off) < k then g (i / t * s + (i % t - off)) else l.getD i 0

theorem list_range (l : List Int) (M : Nat) (h : l.length = M) : l = (List.range M).map fun i => l.getD i 0 := by
  apply List.ext_getElem
  · simp [h]
  · intro i h1 h2
    simp [List.getD, h1]

theorem put_rows {sh zs : List Int} {f : List Int → Nat → Int} {g : Nat → Int} {l : List Int} {s t off M N : Nat} (hs : 0 < N → 0 < s) (ht : s + off ≤ t) (hl : l.length = M)
    (hin : ∀ k : Nat, k < N → insideN sh (meant sh f (digits zs k)) sh.length = true ∧ place sh (meant sh f (digits zs k)) = ((rowPlace s t off k : Nat) : Int)) (k : Nat) (hk : k ≤ N) :
    putN sh f zs g l k = (List.range M).map (putRow s t off g l k) := by
  induction k with
  | zero =>
    show l = _
    rw [list_range l M hl]
    refine map_range_eq fun i hi => ?_
    unfold putRow
    rw [if_neg (by omega)]
    simp [hi]
  | succ k ih =>
    obtain ⟨h1, h2⟩ := hin k (by omega)
    have hs' := hs (by omega)
    rw [← put_in h1 h2, ih (by omega), map_range_set]
    refine map_range_eq fun i hi => ?_
    by_cases e : i = rowPlace s t off k
    · rw [if_pos e]
      have := (rowPlace_iff hs' ht).1 e
      unfold putRow
      rw [if_pos ⟨this.1, by omega⟩, this.2]
    · rw [if_neg e]
      unfold putRow
      by_cases c : (off ≤ i % t ∧ i % t < off + s) ∧ i / t * s + (i % t - off) < k
      · rw [if_pos c, if_pos ⟨c.1, by omega⟩]
      · rw [if_neg c, if_neg (fun h => c ⟨h.1, by
          rcases Nat.lt_or_ge (i / t * s + (i % t - off)) k with h' | h'
          · exact h'
          · exact absurd ((rowPlace_iff hs' ht).2 ⟨h.1, by omega⟩) e⟩)]

/-- What stands at place i of two lists joined row by row. -/
def joinAt (X Y : List Int) (x y i : Nat) : Int := if i % (x + y) < x then X.getD (i / (x + y) * x + i % (x + y)) 0 else Y.getD (i / (x + y) * y + (i % (x + y) - x)) 0

theorem range_plus (a b : Nat) : List.range (a + b) = List.range a ++ (List.range b).map (a + ·) := List.range_add

theorem catN_range (X Y : List Int) (x y B : Nat) (hX : B * x = X.length) (hY : B * y = Y.length) (k : Nat) (hk : k ≤ B) : catN X Y x y k = (List.range (k * (x + y))).map (joinAt X Y x y) := by
  induction k with
  | zero => simp [catN]
  | succ k ih =>
    have hx : (k + 1) * x ≤ X.length := by rw [← hX]; exact Nat.mul_le_mul_right _ hk
    have hy : (k + 1) * y ≤ Y.length := by rw [← hY]; exact Nat.mul_le_mul_right _ hk
    rw [Nat.add_mul, Nat.one_mul] at hx hy
    simp only [catN]
    rw [ih (by omega), Nat.add_mul, Nat.one_mul, range_plus, List.map_append, List.append_assoc, List.map_map]
    congr 1
    apply List.ext_getElem
    · simp; omega
    · intro c h1 h2
      have hc : c < x + y := by simpa using h2
      have hm : (k * (x + y) + c) % (x + y) = c := by rw [Nat.mul_comm, Nat.mul_add_mod, Nat.mod_eq_of_lt hc]
      have hd : (k * (x + y) + c) / (x + y) = k := by rw [Nat.mul_comm, Nat.mul_add_div (by omega), Nat.div_eq_of_lt hc]; omega
      simp only [List.getElem_map, List.getElem_range, Function.comp]
      unfold joinAt
      rw [hm, hd]
      by_cases h : c < x
      · rw [if_pos h, List.getElem_append_left (by simp; omega)]
        simp [List.getD, show k * x + c < X.length by omega]
      · rw [if_neg h, List.getElem_append_right (by simp; omega)]
        simp [List.getD, show min x (X.length - k * x) = x by omega, show k * y + (c - x) < Y.length by omega]

/-- Both lists put in, one behind the other. -/
theorem put_both {X Y l : List Int} {x y B : Nat} {g1 g2 : Nat → Int} (hX : B * x = X.length) (hY : B * y = Y.length) (h1 : ∀ k, k < X.length → g1 k = X.getD k 0) (h2 : ∀ k, k < Y.length → g2 k = Y.getD k 0) :
    (List.range (B * (x + y))).map (putRow y (x + y) x g2 ((List.range (B * (x + y))).map (putRow x (x + y) 0 g1 l X.length)) Y.length) = catN X Y x y B := by
  rw [catN_range X Y x y B hX hY B (Nat.le_refl _)]
  refine map_range_eq fun i hi => ?_
  have ht : 0 < x + y := by
    rcases Nat.eq_zero_or_pos (x + y) with h | h
    · rw [h] at hi; simp at hi
    · exact h
  have hr : i / (x + y) < B := by rw [Nat.div_lt_iff_lt_mul ht]; exact hi
  have hc := Nat.mod_lt i ht
  have hx : i / (x + y) * x + x ≤ X.length := by rw [← hX]; have := Nat.mul_le_mul_right x hr; rwa [Nat.succ_mul] at this
  have hy : i / (x + y) * y + y ≤ Y.length := by rw [← hY]; have := Nat.mul_le_mul_right y hr; rwa [Nat.succ_mul] at this
  unfold putRow joinAt
  by_cases c : i % (x + y) < x
  · rw [if_neg (by omega), if_pos c, map_range_get _ _ _ hi, if_pos ⟨by omega, by omega⟩, Nat.sub_zero, h1 _ (by omega)]
  · rw [if_neg c, if_pos ⟨by omega, by omega⟩, h2 _ (by omega)]

/-- Where the element at place k of an array lies in one whose last axis is longer. -/
theorem place_longer {fr : List Int} {s t off : Nat} (hst : s + off ≤ t) (f : List Int → Nat → Int) (hf : ∀ D i, i < fr.length → f D i = D.getD i 0) (hl : ∀ D, f D fr.length = D.getD fr.length 0 + (off : Int)) (hF : Full (fr ++ [(s : Int)])) (k : Nat) (hk : (k : Int) < prodAll (fr ++ [(s : Int)])) :
    insideN (fr ++ [(t : Int)]) (meant (fr ++ [(t : Int)]) f (digits (fr ++ [(s : Int)]) k)) (fr ++ [(t : Int)]).length = true ∧ place (fr ++ [(t : Int)]) (meant (fr ++ [(t : Int)]) f (digits (fr ++ [(s : Int)]) k)) = ((rowPlace s t off k : Nat) : Int) := by
  have hD := digits_in hF (k : Int)
  have hpl := place_digits hF (p := (k : Int)) (by omega) hk
  have hDl := digits_len (fr ++ [(s : Int)]) (k : Int)
  obtain ⟨D, hDD⟩ : ∃ D, digits (fr ++ [(s : Int)]) (k : Int) = D := ⟨_, rfl⟩
  rw [hDD] at hD hpl hDl ⊢
  have hMg := meant_get (fr ++ [(t : Int)]) f D
  obtain ⟨M, hM⟩ : ∃ M, meant (fr ++ [(t : Int)]) f D = M := ⟨_, rfl⟩
  rw [hM] at hMg ⊢
  have gs : ∀ i, i < fr.length → ∀ z : Int, (fr ++ [z]).getD i 0 = fr.getD i 0 := fun i hi z => by simp [List.getD, List.getElem?_append_left hi]
  have gl : ∀ z : Int, (fr ++ [z]).getD fr.length 0 = z := fun z => by simp [List.getD]
  have hlast := hD fr.length (by simp)
  rw [gl] at hlast
  have ha : M.getD fr.length 0 = D.getD fr.length 0 + (off : Int) := by rw [hMg fr.length (by simp), hl]
  have ho : ∀ i, i < fr.length → M.getD i 0 = D.getD i 0 := fun i hi => by rw [hMg i (by simp; omega), hf D i hi]
  have hin : IxIn (fr ++ [(t : Int)]) M := fun i hi => by
    have hi' : i < fr.length + 1 := by simpa using hi
    by_cases e : i = fr.length
    · subst e; rw [ha, gl]; omega
    · have h1 := hD i (by simp; omega)
      rw [gs i (by omega)] at h1
      rw [gs i (by omega), ho i (by omega)]; exact h1
  refine ⟨inside_of hin _ (Nat.le_refl _), ?_⟩
  have p1 := place_split (fr ++ [(t : Int)]) M fr.length (by simp)
  have p2 := place_split (fr ++ [(s : Int)]) D fr.length (by simp)
  have hd0 : ∀ z : Int, (fr ++ [z]).drop (fr.length + 1) = [] := fun z => by simp
  rw [hd0, gl, ha] at p1
  rw [hd0, gl, hpl] at p2
  have e0 : ∀ ix : List Int, place [] ix = 0 := fun ix => rfl
  have ep : prodAll [] = 1 := rfl
  rw [e0, ep, Int.mul_one, Int.add_zero] at p1 p2
  have hP : placeN (fr ++ [(t : Int)]) M fr.length = placeN (fr ++ [(s : Int)]) D fr.length := by
    have key : ∀ j, j ≤ fr.length → placeN (fr ++ [(t : Int)]) M j = placeN (fr ++ [(s : Int)]) D j := by
      intro j
      induction j with
      | zero => intro _; rfl
      | succ j ih =>
        intro hj
        show placeN (fr ++ [(t : Int)]) M j * _ + _ = placeN (fr ++ [(s : Int)]) D j * _ + _
        rw [ih (by omega), gs j (by omega), gs j (by omega), ho j (by omega)]
    exact key _ (Nat.le_refl _)
  have hP0 := (placeN_bd hD fr.length (by simp)).1
  obtain ⟨p, hp⟩ : ∃ p : Nat, placeN (fr ++ [(s : Int)]) D fr.length = p := ⟨(placeN (fr ++ [(s : Int)]) D fr.length).toNat, by omega⟩
  obtain ⟨j, hj⟩ : ∃ j : Nat, D.getD fr.length 0 = j := ⟨(D.getD fr.length 0).toNat, by omega⟩
  rw [hP, hp, hj] at p1
  rw [hp, hj] at p2
  rw [hj] at hlast
  have hk2 : k = p * s + j := by exact_mod_cast p2
  have hjs : j < s := by omega
  have q1 : k / s = p := by rw [hk2, Nat.mul_comm, Nat.mul_add_div (by omega), Nat.div_eq_of_lt hjs]; omega
  have q2 : k % s = j := by rw [hk2, Nat.mul_comm, Nat.mul_add_mod, Nat.mod_eq_of_lt hjs]
  rw [p1]
  unfold rowPlace
  rw [q1, q2]
  push_cast
  omega

end Go.Proofs.Ytngbmcljhcckmaa
namespace Go.Proofs.Ytngbmcljhcckmaa

/-- Blocks of one length, one behind the other. -/
theorem flat_blocks (f : Nat → List Int) (A K : Nat) (h : ∀ i, i < K → (f i).length = A) : ((List.range K).map f).flatten = (List.range (K * A)).map fun t => (f (t / A)).getD (t % A) 0 := by
  induction K with
  | zero => simp
  | succ K ih =>
    rw [List.range_succ, List.map_append, List.flatten_append, ih (fun i hi => h i (by omega)), Nat.add_mul, Nat.one_mul, range_plus, List.map_append, List.map_map]
    congr 1
    have hK := h K (by omega)
    simp only [List.map_cons, List.map_nil, List.flatten_cons, List.flatten_nil, List.append_nil]
    apply List.ext_getElem
    · simp [hK]
    · intro c h1 h2
      have hc : c < A := by simpa using h2
      simp only [List.getElem_map, List.getElem_range, Function.comp]
      rw [show (K * A + c) / A = K by rw [Nat.mul_comm, Nat.mul_add_div (by omega), Nat.div_eq_of_lt hc]; omega, show (K * A + c) % A = c by rw [Nat.mul_comm, Nat.mul_add_mod, Nat.mod_eq_of_lt hc]]
      simp [List.getD, h1]

/-- Which number of the axis is taken at each place of the new one. -/
def repIdx (dt : List Int) (n : Nat) : Nat → List Nat
  | 0 => []
  | m + 1 => repIdx dt n m ++ List.replicate (timesAt dt m).toNat (m % n)

theorem repIdx_lt {dt : List Int} {n : Nat} (hn : 0 < n) (m : Nat) : ∀ j ∈ repIdx dt n m, j < n := by
  induction m with
  | zero => intro j hj; cases hj
  | succ m ih =>
    intro j hj
    simp only [repIdx, List.mem_append, List.mem_replicate] at hj
    rcases hj with hj | ⟨_, rfl⟩
    · exact ih j hj
    · exact Nat.mod_lt _ hn

theorem repIdx_len {dt : List Int} {n : Nat} (m : Nat) (h : ∀ i, 0 ≤ timesAt dt i) : ((repIdx dt n m).length : Int) = timesSum dt m := by
  induction m with
  | zero => rfl
  | succ m ih =>
    have := h m
    simp only [repIdx, timesSum, List.length_append, List.length_replicate]
    omega

theorem repCopies_flat (dt' : List Int) (n A p i c : Nat) : repCopies dt' n A p i c = ((List.replicate c (i % n)).map fun j => (dt'.drop ((p * n + j) * A)).take A).flatten := by
  induction c with
  | zero => rfl
  | succ c ih => rw [List.replicate_succ', List.map_append, List.flatten_append, ← ih]; simp [repCopies, repBlk]

theorem repLine_flat (dt dt' : List Int) (n A p m : Nat) : repLine dt dt' n A p m = ((repIdx dt n m).map fun j => (dt'.drop ((p * n + j) * A)).take A).flatten := by
  induction m with
  | zero => rfl
  | succ m ih => simp only [repLine, repIdx, List.map_append, List.flatten_append]; rw [ih, repCopies_flat]

theorem repAll_flat (dt dt' : List Int) (n A m B : Nat) : repAll dt dt' n A m B = ((List.range B).map fun p => repLine dt dt' n A p m).flatten := by
  induction B with
  | zero => rfl
  | succ B ih => rw [List.range_succ, List.map_append, List.flatten_append, ← ih]; simp [repAll]

theorem map_idx (l : List Nat) (F : Nat → List Int) : l.map F = (List.range l.length).map fun s => F (l.getD s 0) := by
  apply List.ext_getElem
  · simp
  · intro i h1 h2
    have h : i < l.length := by simpa using h1
    simp [List.getD, h]

/-- What stands at each place of the elements taken several times. -/
theorem repAll_at {dt dt' : List Int} {n A m B : Nat} (hn : 0 < n) (hl : B * n * A = dt'.length) : repAll dt dt' n A m B = (List.range (B * ((repIdx dt n m).length * A))).map fun t => dt'.getD ((t / ((repIdx dt n m).length * A) * n + (repIdx dt n m).getD (t % ((repIdx dt n m).length * A) / A) 0) * A + t % ((repIdx dt n m).length * A) % A) 0 := by
  obtain ⟨I, hI⟩ : ∃ I, repIdx dt n m = I := ⟨_, rfl⟩
  have hlt : ∀ s, s < I.length → I.getD s 0 < n := fun s hs => by
    refine repIdx_lt (dt := dt) hn m _ ?_
    rw [hI]
    simp only [List.getD, List.getElem?_eq_getElem hs, Option.getD_some]
    exact List.getElem_mem hs
  have hblk : ∀ p, p < B → ∀ s, s < I.length → ((dt'.drop ((p * n + I.getD s 0) * A)).take A).length = A := fun p hp s hs => by
    have h1 := hlt s hs
    have h2 : (p * n + I.getD s 0 + 1) * A ≤ B * n * A := Nat.mul_le_mul_right _ (by
      have : (p + 1) * n ≤ B * n := Nat.mul_le_mul_right _ hp
      rw [Nat.add_mul, Nat.one_mul] at this
      omega)
    rw [Nat.add_mul, Nat.one_mul, hl] at h2
    rw [List.length_take, List.length_drop]; omega
  have hline : ∀ p, p < B → repLine dt dt' n A p m = (List.range (I.length * A)).map fun t => dt'.getD ((p * n + I.getD (t / A) 0) * A + t % A) 0 := fun p hp => by
    rw [repLine_flat, hI, map_idx I, flat_blocks _ A I.length (fun s hs => hblk p hp s hs)]
    refine map_range_eq fun t ht => ?_
    have hA : 0 < A := by
      rcases Nat.eq_zero_or_pos A with h | h
      · rw [h] at ht; simp at ht
      · exact h
    have hq := Nat.mod_lt t hA
    have e : ((dt'.drop ((p * n + I.getD (t / A) 0) * A)).take A)[t % A]? = dt'[(p * n + I.getD (t / A) 0) * A + t % A]? := by rw [List.getElem?_take_of_lt hq, List.getElem?_drop]
    show (((dt'.drop ((p * n + I.getD (t / A) 0) * A)).take A)[t % A]?).getD 0 = (dt'[(p * n + I.getD (t / A) 0) * A + t % A]?).getD 0
    rw [e]
  rw [repAll_flat, hI, List.map_congr_left (fun p hp => hline p (by simpa using hp))]
  rw [flat_blocks _ (I.length * A) B (fun p _ => by simp)]
  refine map_range_eq fun t ht => ?_
  have hK : 0 < I.length * A := by
    rcases Nat.eq_zero_or_pos (I.length * A) with h | h
    · rw [h] at ht; simp at ht
    · exact h
  rw [map_range_get _ _ _ (Nat.mod_lt t hK)]

end Go.Proofs.Ytngbmcljhcckmaa
namespace Go.Proofs.Ytngbmcljhcckmaa

/-- Along axis a the element that I says is meant, along all others the same. -/
def idxF (a : Nat) (I : List Nat) (D : List Int) (i : Nat) : Int := if i = a then ((I.getD (D.getD i 0).toNat 0 : Nat) : Int) else D.getD i 0

theorem split_at {p S s A q t : Nat} (hs : s < S) (hq : q < A) (ht : t = (p * S + s) * A + q) : t / (S * A) = p ∧ t % (S * A) / A = s ∧ t % (S * A) % A = q := by
  have hA : 0 < A := by omega
  have h1 : s * A + q < S * A := by
    have : (s + 1) * A ≤ S * A := Nat.mul_le_mul_right _ hs
    rw [Nat.add_mul, Nat.one_mul] at this
    omega
  have e : t = (S * A) * p + (s * A + q) := by rw [ht, Nat.add_mul, Nat.mul_assoc, Nat.mul_comm p (S * A)]; omega
  have hm : t % (S * A) = s * A + q := by rw [e, Nat.mul_add_mod, Nat.mod_eq_of_lt h1]
  refine ⟨by rw [e, Nat.mul_add_div (by omega), Nat.div_eq_of_lt h1]; omega, ?_, ?_⟩
  · rw [hm, Nat.mul_comm s A, Nat.mul_add_div hA, Nat.div_eq_of_lt hq]; omega
  · rw [hm, Nat.mul_comm s A, Nat.mul_add_mod, Nat.mod_eq_of_lt hq]

theorem idx_gather {d : Bool} {sh dt' : List Int} {a n A : Nat} {I : List Nat} (ha : a < sh.length) (hn : sh.getD a 0 = (n : Int)) (hA : prodAll (sh.drop (a + 1)) = (A : Int)) (hI : ∀ s, s < I.length → I.getD s 0 < n) (hF : Full (sh.set a (I.length : Int))) (t : Nat) (ht : (t : Int) < prodAll (sh.set a (I.length : Int))) :
    (gatherAt d sh dt' (idxF a I) (sh.set a (I.length : Int)) t).1 = dt'.getD ((t / (I.length * A) * n + I.getD (t % (I.length * A) / A) 0) * A + t % (I.length * A) % A) 0 := by
  obtain ⟨ZS, hZS⟩ : ∃ Z, sh.set a (I.length : Int) = Z := ⟨_, rfl⟩
  have lZ : ZS.length = sh.length := by rw [← hZS]; simp
  have gZ : ∀ i, i ≠ a → ZS.getD i 0 = sh.getD i 0 := fun i hi => by rw [← hZS]; simp [List.getD, List.getElem?_set_ne (Ne.symm hi)]
  have gA : ZS.getD a 0 = (I.length : Int) := by rw [← hZS]; simp [List.getD, ha]
  have dZ : ZS.drop (a + 1) = sh.drop (a + 1) := by rw [← hZS]; simp [List.drop_set_of_lt]
  rw [hZS] at hF ht ⊢
  have hD := digits_in hF (t : Int)
  have hpl := place_digits hF (p := (t : Int)) (by omega) ht
  have hDl := digits_len ZS (t : Int)
  obtain ⟨D, hDD⟩ : ∃ D, digits ZS (t : Int) = D := ⟨_, rfl⟩
  rw [hDD] at hD hpl hDl
  have hMg := meant_get sh (idxF a I) D
  have hMl := meant_len sh (idxF a I) D
  obtain ⟨M, hM⟩ : ∃ M, meant sh (idxF a I) D = M := ⟨_, rfl⟩
  rw [hM] at hMg hMl
  have hDa := hD a (by omega)
  rw [gA] at hDa
  obtain ⟨s, hs⟩ : ∃ s : Nat, D.getD a 0 = s := ⟨(D.getD a 0).toNat, by omega⟩
  rw [hs] at hDa
  have hsI : s < I.length := by omega
  have hoth : ∀ i, i < sh.length → i ≠ a → M.getD i 0 = D.getD i 0 := fun i hi hne => by rw [hMg i hi]; unfold idxF; rw [if_neg hne]
  have hat : M.getD a 0 = ((I.getD s 0 : Nat) : Int) := by rw [hMg a ha]; unfold idxF; rw [if_pos rfl, hs]; simp
  have hMin : IxIn sh M := fun i hi => by
    by_cases e : i = a
    · subst e; rw [hat, hn]; have := hI s hsI; omega
    · rw [hoth i hi e]; have := hD i (by omega); rwa [gZ i e] at this
  have hdrop : M.drop (a + 1) = D.drop (a + 1) := by
    apply List.ext_getElem
    · simp; omega
    · intro i h1 h2
      have hi : a + 1 + i < sh.length := by simp at h1; omega
      have := hoth (a + 1 + i) hi (by omega)
      simp only [List.getElem_drop]
      simpa [List.getD, show a + 1 + i < M.length by omega, show a + 1 + i < D.length by omega] using this
  have hsp := place_split sh M a ha
  have hsd := place_split ZS D a (by omega)
  have hP : placeN sh M a = placeN ZS D a := by
    have key : ∀ j, j ≤ a → placeN sh M j = placeN ZS D j := by
      intro j
      induction j with
      | zero => intro _; rfl
      | succ j ih =>
        intro hj
        show placeN sh M j * _ + _ = placeN ZS D j * _ + _
        rw [ih (by omega), gZ j (by omega), hoth j (by omega) (by omega)]
    exact key a (Nat.le_refl _)
  rw [hP, hat, hdrop, hn, hA] at hsp
  rw [hpl, gA, hs, dZ, hA] at hsd
  have hrest : IxIn (sh.drop (a + 1)) (D.drop (a + 1)) := fun i hi => by
    have h0 : a + 1 + i < sh.length := by simp at hi; omega
    have := hD (a + 1 + i) (by omega)
    rw [gZ _ (by omega)] at this
    rw [getD_drop, getD_drop]; exact this
  have hq := place_bd hrest
  rw [hA] at hq
  have hP0 := (placeN_bd hD a (by omega)).1
  obtain ⟨p, hp⟩ : ∃ p : Nat, placeN ZS D a = p := ⟨(placeN ZS D a).toNat, by omega⟩
  obtain ⟨q, hq'⟩ : ∃ q : Nat, place (sh.drop (a + 1)) (D.drop (a + 1)) = q := ⟨(place (sh.drop (a + 1)) (D.drop (a + 1))).toNat, by omega⟩
  rw [hp, hq'] at hsd hsp
  rw [hq'] at hq
  have hts : t = (p * I.length + s) * A + q := by exact_mod_cast hsd
  obtain ⟨e1, e2, e3⟩ := split_at hsI (show q < A by omega) hts
  have hpm : place sh M = (((p * n + I.getD s 0) * A + q : Nat) : Int) := by rw [hsp]; push_cast; rfl
  unfold gatherAt
  rw [hDD, hM, if_pos (inside_of hMin _ (Nat.le_refl _)), hpm, e1, e2, e3, Int.toNat_natCast]

end Go.Proofs.Ytngbmcljhcckmaa
namespace Go.Proofs.Ytngbmcljhcckmaa

/-- The shape that Replicate takes an array to have. -/
def repSh (sh' : List Int) : List Int := if sh' = [] then [1] else sh'
def repAx (W : List Int) (fl : Bool) : Nat := if fl then 0 else W.length - 1
def repN (sh' : List Int) (fl : Bool) : Nat := (axisN (repSh sh') fl).toNat
def repM (dt sh' : List Int) (fl : Bool) : Nat := repCount (repN sh' fl) dt.length
def repZS (dt sh' : List Int) (fl : Bool) : List Int := (repSh sh').set (repAx (repSh sh') fl) (timesSum dt (repM dt sh' fl))

def replicateA (c d : Bool) (sh dt sh' dt' : List Int) (fl : Bool) : Ans :=
  if arrOk c sh dt = true ∧ arrOk d sh' dt' = true then
    if listCode c sh.length ≠ 0 then noAns (listCode c sh.length)
    else if repN sh' fl ≠ 1 ∧ dt.length ≠ 1 ∧ dt.length ≠ repN sh' fl then noAns 5
    else if dt.all nonNeg = false then noAns 3
    else if 10000 < timesSum dt (repM dt sh' fl) ∨ shapeB (repZS dt sh' fl) = false then noAns 7
    else ⟨d, repZS dt sh' fl, repAll dt dt' (repN sh' fl) (axisA (repSh sh') fl).toNat (repM dt sh' fl) (axisB (repSh sh') fl).toNat, 0⟩
  else noAns 3

section
variable {c d : Bool} {sh dt sh' dt' : List Int} {fl : Bool}
theorem rep_bad1 (h : arrOk c sh dt = false) : replicateA c d sh dt sh' dt' fl = noAns 3 := by unfold replicateA; rw [if_neg (by simp [h])]
theorem rep_bad2 (h : arrOk d sh' dt' = false) : replicateA c d sh dt sh' dt' fl = noAns 3 := by unfold replicateA; rw [if_neg (by simp [h])]
theorem rep_list (h1 : arrOk c sh dt = true) (h2 : arrOk d sh' dt' = true) (r : Int) (hr : listCode c sh.length = r) (h0 : r ≠ 0) : replicateA c d sh dt sh' dt' fl = noAns r := by
  unfold replicateA; rw [if_pos ⟨h1, h2⟩, hr, if_pos h0]
theorem rep_len (h1 : arrOk c sh dt = true) (h2 : arrOk d sh' dt' = true) (hr : listCode c sh.length = 0) (hl : repN sh' fl ≠ 1 ∧ dt.length ≠ 1 ∧ dt.length ≠ repN sh' fl) : replicateA c d sh dt sh' dt' fl = noAns 5 := by
  unfold replicateA; rw [if_pos ⟨h1, h2⟩, if_neg (by simp [hr]), if_pos hl]
theorem rep_neg (h1 : arrOk c sh dt = true) (h2 : arrOk d sh' dt' = true) (hr : listCode c sh.length = 0) (hl : ¬ (repN sh' fl ≠ 1 ∧ dt.length ≠ 1 ∧ dt.length ≠ repN sh' fl)) (hn : dt.all nonNeg = false) : replicateA c d sh dt sh' dt' fl = noAns 3 := by
  unfold replicateA; rw [if_pos ⟨h1, h2⟩, if_neg (by simp [hr]), if_neg hl, if_pos hn]
theorem rep_big (h1 : arrOk c sh dt = true) (h2 : arrOk d sh' dt' = true) (hr : listCode c sh.length = 0) (hl : ¬ (repN sh' fl ≠ 1 ∧ dt.length ≠ 1 ∧ dt.length ≠ repN sh' fl)) (hn : dt.all nonNeg = true) (hb : 10000 < timesSum dt (repM dt sh' fl) ∨ shapeB (repZS dt sh' fl) = false) : replicateA c d sh dt sh' dt' fl = noAns 7 := by
  unfold replicateA; rw [if_pos ⟨h1, h2⟩, if_neg (by simp [hr]), if_neg hl, if_neg (by simp [hn]), if_pos hb]
theorem rep_go (h1 : arrOk c sh dt = true) (h2 : arrOk d sh' dt' = true) (hr : listCode c sh.length = 0) (hl : ¬ (repN sh' fl ≠ 1 ∧ dt.length ≠ 1 ∧ dt.length ≠ repN sh' fl)) (hn : dt.all nonNeg = true) (hb : ¬ (10000 < timesSum dt (repM dt sh' fl) ∨ shapeB (repZS dt sh' fl) = false)) :
    replicateA c d sh dt sh' dt' fl = ⟨d, repZS dt sh' fl, repAll dt dt' (repN sh' fl) (axisA (repSh sh') fl).toNat (repM dt sh' fl) (axisB (repSh sh') fl).toNat, 0⟩ := by
  unfold replicateA; rw [if_pos ⟨h1, h2⟩, if_neg (by simp [hr]), if_neg hl, if_neg (by simp [hn]), if_neg hb]
end

end Go.Proofs.Ytngbmcljhcckmaa
namespace Go.Proofs.Ytngbmcljhcckmaa

/-- The axis' numbers as axisOf gives them: before, along, behind. -/
structure AxisIs (sh : List Int) (fl : Bool) (B L A : Nat) : Prop where
  b : axisB sh fl = B
  l : axisN sh fl = L
  a : axisA sh fl = A

theorem axis_is {c : Bool} {sh dt : List Int} (fl : Bool) (hok : arrOk c sh dt = true) (hne : sh ≠ []) : ∃ B L A : Nat, AxisIs sh fl B L A ∧ B * L * A = dt.length ∧ B ≤ 10000 ∧ L ≤ 10000 ∧ A ≤ 10000 := by
  obtain ⟨hin, hp, _⟩ := shapeIn_of hok
  have h1 := (hin.take (axisAt sh fl)).bd
  have h2 := hin.cell (axisAt sh fl)
  have h3 := (hin.drop (axisAt sh fl + 1)).bd
  have e := axis_all sh fl hne
  rw [hp] at e
  obtain ⟨B, hB⟩ : ∃ B : Nat, axisB sh fl = B := ⟨(axisB sh fl).toNat, by unfold axisB; omega⟩
  obtain ⟨L, hL⟩ : ∃ L : Nat, axisN sh fl = L := ⟨(axisN sh fl).toNat, by unfold axisN; omega⟩
  obtain ⟨A, hA⟩ : ∃ A : Nat, axisA sh fl = A := ⟨(axisA sh fl).toNat, by unfold axisA; omega⟩
  refine ⟨B, L, A, ⟨hB, hL, hA⟩, ?_, ?_, ?_, ?_⟩
  · rw [hB, hL, hA] at e
    exact_mod_cast e
  · unfold axisB at hB; omega
  · unfold axisN at hL; omega
  · unfold axisA at hA; omega

end Go.Proofs.Ytngbmcljhcckmaa
namespace Go.Proofs.Ytngbmcljhcckmaa

theorem repSh_ne (sh' : List Int) : repSh sh' ≠ [] := by unfold repSh; split <;> simp_all

theorem rep_ok {d : Bool} {sh' dt' : List Int} (h : arrOk d sh' dt' = true) : arrOk d (repSh sh') dt' = true := by
  unfold repSh
  split
  · rename_i e
    subst e
    simpa [arrOk, countOf, prodFrom, inCells] using h
  · exact h

theorem times_nn {dt : List Int} (h : dt.all nonNeg = true) (i : Nat) : 0 ≤ timesAt dt i := by
  unfold timesAt
  rcases Nat.eq_zero_or_pos dt.length with h0 | h0
  · have := List.length_eq_zero_iff.mp h0
    subst this
    simp
  · have hl := Nat.mod_lt i h0
    have h1 := (List.all_eq_true.1 h) (dt.getD (i % dt.length) 0) (by simp only [List.getD, List.getElem?_eq_getElem hl, Option.getD_some]; exact List.getElem_mem hl)
    simpa [nonNeg] using h1

theorem sum_nn {dt : List Int} (h : dt.all nonNeg = true) (m : Nat) : 0 ≤ timesSum dt m := by
  induction m with
  | zero => exact Int.le_refl _
  | succ m ih => have := times_nn h m; simp only [timesSum]; omega

theorem sum_mono {dt : List Int} (h : dt.all nonNeg = true) {i m : Nat} (hi : i ≤ m) : timesSum dt i ≤ timesSum dt m := by
  induction m with
  | zero =>
    have e : i = 0 := Nat.le_zero.mp hi
    rw [e]; exact Int.le_refl _
  | succ m ih =>
    rcases Nat.lt_or_ge m i with h1 | h1
    · obtain rfl : i = m + 1 := by omega
      exact Int.le_refl _
    · have := ih h1; have := times_nn h m; simp only [timesSum]; omega

theorem copies_len (dt' : List Int) (n A p i c : Nat) : (repCopies dt' n A p i c).length ≤ c * A := by
  induction c with
  | zero => simp [repCopies]
  | succ c ih =>
    have : (c + 1) * A = c * A + A := by rw [Nat.add_mul, Nat.one_mul]
    simp only [repCopies, List.length_append, repBlk, List.length_take]; omega

theorem repLine_len {dt : List Int} (h : dt.all nonNeg = true) (dt' : List Int) (n A p i : Nat) : (repLine dt dt' n A p i).length ≤ (timesSum dt i).toNat * A := by
  induction i with
  | zero => simp [repLine]
  | succ i ih =>
    have h1 := copies_len dt' n A p i (timesAt dt i).toNat
    have h2 := times_nn h i
    have h3 := sum_nn h i
    simp only [repLine, List.length_append, timesSum]
    rw [show (timesSum dt i + timesAt dt i).toNat = (timesSum dt i).toNat + (timesAt dt i).toNat by omega, Nat.add_mul]
    omega

theorem repAll_len {dt : List Int} (h : dt.all nonNeg = true) (dt' : List Int) (n A m p : Nat) : (repAll dt dt' n A m p).length ≤ p * ((timesSum dt m).toNat * A) := by
  induction p with
  | zero => simp [repAll]
  | succ p ih =>
    have h1 := repLine_len h dt' n A p m
    have : (p + 1) * ((timesSum dt m).toNat * A) = p * ((timesSum dt m).toNat * A) + (timesSum dt m).toNat * A := by rw [Nat.add_mul, Nat.one_mul]
    simp only [repAll, List.length_append]
    omega

/-- How many elements there are at most on the way. -/
theorem repAt_len {dt : List Int} (h : dt.all nonNeg = true) (dt' : List Int) {n A m p i c q : Nat} (hp : p ≤ 10000) (hA : A ≤ 10000) (hs : timesSum dt m ≤ 10000) (hi : i ≤ m) (hc : c ≤ 10000) : (repAt dt dt' n A m p i c q).length ≤ 2000000000000 := by
  have h1 := repAll_len h dt' n A m p
  have h2 := repLine_len h dt' n A p i
  have h3 := copies_len dt' n A p i c
  have h4 := sum_mono h hi
  have h5 : (timesSum dt m).toNat * A ≤ 10000 * 10000 := Nat.mul_le_mul (by omega) hA
  have h6 : p * ((timesSum dt m).toNat * A) ≤ 10000 * (10000 * 10000) := Nat.mul_le_mul hp h5
  have h7 : (timesSum dt i).toNat * A ≤ 10000 * 10000 := Nat.mul_le_mul (by omega) hA
  have h8 : c * A ≤ 10000 * 10000 := Nat.mul_le_mul hc hA
  have h9 : ((repBlk dt' n A p i).take q).length ≤ A := by unfold repBlk; simp only [List.length_take]; omega
  unfold repAt
  simp only [List.length_append]
  omega

/-- Which way the number of places comes about. -/
theorem repM_is (dt sh' : List Int) (fl : Bool) {L K : Nat} (hL : axisN (repSh sh') fl = (L : Int)) (hK : dt.length = K) : repN sh' fl = L ∧ repM dt sh' fl = if L = 1 then K else L := by
  have h1 : repN sh' fl = L := by unfold repN; rw [hL]; simp
  refine ⟨h1, ?_⟩
  unfold repM repCount
  rw [h1, hK]

theorem repZS_is (dt sh' : List Int) (fl : Bool) : repZS dt sh' fl = if fl = true then (repSh sh').set 0 (timesSum dt (repM dt sh' fl)) else (repSh sh').set ((repSh sh').length - 1) (timesSum dt (repM dt sh' fl)) := by
  unfold repZS repAx
  cases fl <;> rfl

end Go.Proofs.Ytngbmcljhcckmaa
