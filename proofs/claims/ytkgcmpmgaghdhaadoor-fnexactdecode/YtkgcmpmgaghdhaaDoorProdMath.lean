import Derived.Test.YtkgcmpmgaghdhaaDoorMFit0
namespace Go.Proofs.YtkgcmpmgaghdhaaDoor

def shapeB (sh : List Int) : Bool := decide (sh.length ≤ 5) && decide (0 ≤ countOf sh)

theorem shape_long {sh : List Int} {n : Nat} (hl : sh.length = n) (h : 5 < n) : shapeB sh = false := by unfold shapeB; rw [decide_eq_false (by omega)]; rfl
theorem shape_bad {sh : List Int} (h : countOf sh = -1) : shapeB sh = false := by unfold shapeB; rw [h]; simp
theorem shape_good {sh : List Int} {n : Nat} (hl : sh.length = n) (h : n ≤ 5) (m : Int) (ha : sh.all inCells = true) (hp : prodFrom sh 1 = some m) : shapeB sh = true := by
  have hb := prodFrom_bd sh 1 m ha (by omega) (by omega) hp
  unfold shapeB; rw [decide_eq_true (by omega)]
  by_cases h0 : decide (0 ∈ sh) = true
  · rw [count_zero sh m ha hp h0]; rfl
  · rw [count_n sh m ha hp (by simpa using h0), decide_eq_true (by omega)]; rfl

/-- The product of all numbers of a shape. -/
def prodAll (sh : List Int) : Int := sh.foldl (· * ·) 1

theorem prodAll_snoc (sh : List Int) (k : Nat) (h : k < sh.length) : prodAll (sh.take (k + 1)) = prodAll (sh.take k) * sh.getD k 0 := by
  rw [take_snoc sh k h]; simp [prodAll]

theorem prodAll_of (sh : List Int) (n m : Int) (h : prodFrom sh n = some m) : sh.foldl (· * ·) n = if 0 ∈ sh then 0 else m := by
  induction sh generalizing n with
  | nil => simp [prodFrom] at h; simp [h]
  | cons x r ih =>
    simp only [prodFrom] at h
    by_cases h0 : x = 0
    · subst h0
      have hz : ∀ (l : List Int), l.foldl (· * ·) 0 = 0 := by intro l; induction l with
        | nil => rfl
        | cons y s ih => simpa using ih
      simp [hz]
    · rw [if_neg h0] at h
      split at h
      · simp at h
      · rw [List.foldl_cons, ih _ h]
        have : (0 ∈ x :: r) ↔ 0 ∈ r := by simp; intro e; exact absurd e.symm h0
        simp only [this]

theorem prodAll_count (sh : List Int) (h : shapeB sh = true) : prodAll sh = countOf sh := by
  unfold shapeB at h
  simp only [Bool.and_eq_true, decide_eq_true_eq] at h
  have h2 := h.2
  unfold countOf at h2 ⊢
  split at h2
  · rename_i ha
    rw [if_pos ha]
    split at h2
    · omega
    · rename_i m hm
      exact prodAll_of sh 1 m hm
  · omega

theorem prodAll_bd (sh : List Int) (h : shapeB sh = true) (k : Nat) : 0 ≤ prodAll (sh.take k) ∧ prodAll (sh.take k) ≤ 10000 := by
  unfold shapeB at h
  simp only [Bool.and_eq_true, decide_eq_true_eq] at h
  have h2 := h.2
  unfold countOf at h2
  split at h2
  · rename_i ha
    split at h2
    · omega
    · rename_i m hm
      have hat : (sh.take k).all inCells = true := by rw [List.all_eq_true]; exact fun x hx => List.all_eq_true.1 ha x (List.mem_of_mem_take hx)
      cases hpt : prodFrom (sh.take k) 1 with
      | none =>
        have := prodFrom_none_append (sh.take k) (sh.drop k) 1 hpt
        rw [List.take_append_drop] at this
        rw [this] at hm; simp at hm
      | some m' =>
        have hb := prodFrom_bd _ 1 m' hat (by omega) (by omega) hpt
        unfold prodAll
        rw [prodAll_of _ 1 m' hpt]
        split <;> omega
  · omega

/-- Numbers that a valid array may have in its shape, but for how many they are. -/
def ShapeIn (sh : List Int) : Prop := sh.all inCells = true ∧ ∃ m, prodFrom sh 1 = some m

theorem prodFrom_less (ys : List Int) (n m k : Int) (hy : ys.all inCells = true) (hk : 1 ≤ k) (hkn : k ≤ n) (h : prodFrom ys n = some m) : ∃ m', prodFrom ys k = some m' := by
  induction ys generalizing n k with
  | nil => exact ⟨k, rfl⟩
  | cons y r ih =>
    simp only [List.all_cons, Bool.and_eq_true] at hy
    have hyb : 0 ≤ y ∧ y ≤ 10000 := by simpa [inCells] using hy.1
    simp only [prodFrom] at h ⊢
    by_cases h0 : y = 0
    · rw [if_pos h0] at h ⊢; exact ih n k hy.2 hk hkn h
    · rw [if_neg h0] at h ⊢
      split at h
      · simp at h
      · rename_i hle
        have h1 : k * y ≤ n * y := Int.mul_le_mul_of_nonneg_right hkn (by omega)
        have h2 : 1 * 1 ≤ k * y := Int.mul_le_mul hk (by omega) (by omega) (by omega)
        rw [if_neg (by omega)]
        exact ih (n * y) (k * y) hy.2 (by omega) h1 h

theorem ShapeIn.take {sh : List Int} (h : ShapeIn sh) (k : Nat) : ShapeIn (sh.take k) := by
  obtain ⟨ha, m, hm⟩ := h
  refine ⟨by rw [List.all_eq_true]; exact fun x hx => List.all_eq_true.1 ha x (List.mem_of_mem_take hx), ?_⟩
  cases hpt : prodFrom (sh.take k) 1 with
  | none =>
    have := prodFrom_none_append (sh.take k) (sh.drop k) 1 hpt
    rw [List.take_append_drop] at this
    rw [this] at hm; simp at hm
  | some m' => exact ⟨m', rfl⟩

theorem prodFrom_append (xs ys : List Int) (n : Int) : prodFrom (xs ++ ys) n = (prodFrom xs n).bind (prodFrom ys) := by
  induction xs generalizing n with
  | nil => simp [prodFrom]
  | cons y r ih =>
    simp only [List.cons_append, prodFrom]
    split
    · exact ih n
    · split
      · simp
      · exact ih _

theorem ShapeIn.drop {sh : List Int} (h : ShapeIn sh) (k : Nat) : ShapeIn (sh.drop k) := by
  have ht := h.take k
  obtain ⟨ha, m, hm⟩ := h
  have hd : (sh.drop k).all inCells = true := by rw [List.all_eq_true]; exact fun x hx => List.all_eq_true.1 ha x (List.mem_of_mem_drop hx)
  refine ⟨hd, ?_⟩
  obtain ⟨hta, p, hp⟩ := ht
  have hb := prodFrom_bd _ 1 p hta (by omega) (by omega) hp
  rw [← List.take_append_drop k sh, prodFrom_append, hp, Option.bind_some] at hm
  exact prodFrom_less _ p m 1 hd (by omega) hb.1 hm

theorem ShapeIn.bd {sh : List Int} (h : ShapeIn sh) : 0 ≤ prodAll sh ∧ prodAll sh ≤ 10000 := by
  obtain ⟨ha, m, hm⟩ := h
  have hb := prodFrom_bd sh 1 m ha (by omega) (by omega) hm
  unfold prodAll
  rw [prodAll_of sh 1 m hm]
  split <;> omega

theorem ShapeIn.cell {sh : List Int} (h : ShapeIn sh) (k : Nat) : 0 ≤ sh.getD k 0 ∧ sh.getD k 0 ≤ 10000 := by
  by_cases hk : k < sh.length
  · have := List.all_eq_true.1 h.1 (sh.getD k 0) (by simp [hk])
    simpa [inCells] using this
  · have e : sh.getD k 0 = 0 := by simp [List.getD, List.getElem?_eq_none (by omega : sh.length ≤ k)]
    rw [e]; omega

theorem shapeIn_of {c : Bool} {sh dt : List Int} (h : arrOk c sh dt = true) : ShapeIn sh ∧ prodAll sh = dt.length ∧ sh.length ≤ 5 := by
  unfold arrOk at h
  simp only [Bool.and_eq_true, decide_eq_true_eq] at h
  obtain ⟨h5, hc, _⟩ := h
  have hs : shapeB sh = true := by unfold shapeB; rw [decide_eq_true h5, decide_eq_true (by omega)]; rfl
  refine ⟨?_, by rw [prodAll_count sh hs, hc], h5⟩
  unfold countOf at hc
  split at hc
  · rename_i ha
    split at hc
    · omega
    · rename_i m hm; exact ⟨ha, m, hm⟩
  · omega

theorem prodAll_append (xs ys : List Int) : prodAll (xs ++ ys) = prodAll xs * prodAll ys := by
  have key : ∀ (ys : List Int) (n : Int), ys.foldl (· * ·) n = n * ys.foldl (· * ·) 1 := by
    intro ys
    induction ys with
    | nil => intro n; simp
    | cons y r ih => intro n; rw [List.foldl_cons, List.foldl_cons, ih (n * y), ih (1 * y), Int.one_mul, Int.mul_assoc]
  unfold prodAll
  rw [List.foldl_append, key]

end Go.Proofs.YtkgcmpmgaghdhaaDoor
