import Derived.Test.YtadbhidpmihghaaWindowMath
namespace Go.Proofs.Ytadbhidpmihghaa

/-- The axis that number i of an order names, from 0 on. -/
def axNo (dt : List Int) (i : Nat) : Nat := (dt.getD i 0 - 1).toNat

def seenN (dt : List Int) (r : Nat) : Nat → List Bool
  | 0 => List.replicate r false
  | i + 1 => (seenN dt r i).set (axNo dt i) true

def turnN (dt sh : List Int) (r : Nat) : Nat → List Int
  | 0 => List.replicate r 0
  | i + 1 => (turnN dt sh r i).set (axNo dt i) (sh.getD i 0)

/-- Number i of an order is in 1 .. r and has not been there. -/
def stepOk (dt : List Int) (r i : Nat) : Bool := decide (1 ≤ dt.getD i 0 ∧ dt.getD i 0 ≤ r) && !(seenN dt r i).getD (axNo dt i) false

def orderOk (dt : List Int) (r : Nat) : Nat → Bool
  | 0 => true
  | i + 1 => orderOk dt r i && stepOk dt r i

theorem seenN_len (dt : List Int) (r i : Nat) : (seenN dt r i).length = r := by
  induction i with
  | zero => simp [seenN]
  | succ i ih => simp [seenN, ih]

theorem turnN_len (dt sh : List Int) (r i : Nat) : (turnN dt sh r i).length = r := by
  induction i with
  | zero => simp [turnN]
  | succ i ih => simp [turnN, ih]

theorem orderOk_le {dt : List Int} {r m i : Nat} (h : orderOk dt r m = true) (hi : i ≤ m) : orderOk dt r i = true := by
  induction m with
  | zero => have : i = 0 := by omega
            subst this; exact h
  | succ m ih =>
    simp only [orderOk, Bool.and_eq_true] at h
    by_cases e : i = m + 1
    · subst e; simp only [orderOk, Bool.and_eq_true]; exact h
    · exact ih h.1 (by omega)

theorem order_step {dt : List Int} {r m i : Nat} (h : orderOk dt r m = true) (hi : i < m) : stepOk dt r i = true := by
  have := orderOk_le h (by omega : i + 1 ≤ m)
  simp only [orderOk, Bool.and_eq_true] at this
  exact this.2

theorem stepOk_lt {dt : List Int} {r i : Nat} (h : stepOk dt r i = true) : axNo dt i < r := by
  unfold stepOk at h
  simp only [Bool.and_eq_true, decide_eq_true_eq] at h
  unfold axNo
  omega

theorem stepOk_new {dt : List Int} {r i : Nat} (h : stepOk dt r i = true) : (seenN dt r i).getD (axNo dt i) false = false := by
  unfold stepOk at h
  simp only [Bool.and_eq_true, Bool.not_eq_true'] at h
  exact h.2

theorem getD_set {α : Type} (l : List α) (k j : Nat) (x d : α) (hk : k < l.length) : (l.set k x).getD j d = if j = k then x else l.getD j d := by
  by_cases e : j = k
  · subst e; simp [List.getD, hk]
  · rw [if_neg e]; simp [List.getD, List.getElem?_set_ne (Ne.symm e)]

/-- What has been laid stays. -/
theorem turned {dt sh : List Int} {r m : Nat} (h : orderOk dt r m = true) : ∀ i, i < m → (turnN dt sh r m).getD (axNo dt i) 0 = sh.getD i 0 ∧ (seenN dt r m).getD (axNo dt i) false = true := by
  induction m with
  | zero => intro i hi; omega
  | succ m ih =>
    intro i hi
    have h1 := orderOk_le h (by omega : m ≤ m + 1)
    have h2 := order_step h (by omega : m < m + 1)
    have hl := stepOk_lt h2
    simp only [turnN, seenN]
    rw [getD_set _ _ _ _ _ (by rw [turnN_len]; exact hl), getD_set _ _ _ _ _ (by rw [seenN_len]; exact hl)]
    by_cases e : i = m
    · subst e; simp
    · obtain ⟨a, b⟩ := ih h1 i (by omega)
      have hne : axNo dt i ≠ axNo dt m := fun e => by rw [e, stepOk_new h2] at b; cases b
      rw [if_neg hne, if_neg hne]
      exact ⟨a, b⟩

theorem count_set (l : List Bool) (k : Nat) (hk : k < l.length) (h : l.getD k false = false) : (l.set k true).count true = l.count true + 1 := by
  induction l generalizing k with
  | nil => simp at hk
  | cons x r ih =>
    cases k with
    | zero =>
      have : x = false := by simpa using h
      subst this
      simp
    | succ k =>
      have := ih k (by simpa using hk) (by simpa using h)
      simp only [List.set_cons_succ, List.count_cons, this]
      omega

theorem seen_count {dt : List Int} {r m : Nat} (h : orderOk dt r m = true) : (seenN dt r m).count true = m := by
  induction m with
  | zero => simp [seenN, List.count_replicate]
  | succ m ih =>
    have h1 := orderOk_le h (by omega : m ≤ m + 1)
    have h2 := order_step h (by omega : m < m + 1)
    simp only [seenN]
    rw [count_set _ _ (by rw [seenN_len]; exact stepOk_lt h2) (stepOk_new h2), ih h1]

theorem seen_from {dt : List Int} {r m k : Nat} (h : (seenN dt r m).getD k false = true) : ∃ i, i < m ∧ axNo dt i = k := by
  induction m with
  | zero => simp [seenN, List.getD, List.getElem?_replicate] at h; split at h <;> simp at h
  | succ m ih =>
    simp only [seenN] at h
    by_cases e : axNo dt m = k
    · exact ⟨m, by omega, e⟩
    · have : ((seenN dt r m).set (axNo dt m) true).getD k false = (seenN dt r m).getD k false := by simp [List.getD, List.getElem?_set_ne e]
      rw [this] at h
      obtain ⟨i, hi, he⟩ := ih h
      exact ⟨i, by omega, he⟩

/-- Every axis is named. -/
theorem all_named {dt : List Int} {r k : Nat} (h : orderOk dt r r = true) (hk : k < r) : ∃ i, i < r ∧ axNo dt i = k := by
  apply seen_from (r := r)
  have hc := seen_count h
  have hl := seenN_len dt r r
  have hall := List.count_eq_length.mp (hc.trans hl.symm)
  have hm : (seenN dt r r).getD k false ∈ seenN dt r r := by simp [List.getD, hl, hk]
  exact (hall _ hm).symm

/-- An index of the turned array, as one of the array. -/
def backIx (dt D : List Int) (r : Nat) : List Int := (List.range r).map fun i => D.getD (axNo dt i) 0

theorem backIx_len (dt D : List Int) (r : Nat) : (backIx dt D r).length = r := by simp [backIx]
theorem backIx_get (dt D : List Int) (r i : Nat) (hi : i < r) : (backIx dt D r).getD i 0 = D.getD (axNo dt i) 0 := by simp [backIx, hi]

theorem back_in {dt sh D : List Int} {r : Nat} (h : orderOk dt r r = true) (hl : sh.length = r) (hD : IxIn (turnN dt sh r r) D) : IxIn sh (backIx dt D r) := by
  intro i hi
  rw [hl] at hi
  rw [backIx_get _ _ _ _ hi]
  have := hD (axNo dt i) (by rw [turnN_len]; exact stepOk_lt (order_step h hi))
  rw [(turned h i hi).1] at this
  exact this

theorem turn_cell {dt sh : List Int} {r : Nat} (h : orderOk dt r r = true) {k : Nat} (hk : k < r) : ∃ i, i < r ∧ (turnN dt sh r r).getD k 0 = sh.getD i 0 := by
  obtain ⟨i, hi, he⟩ := all_named h hk
  exact ⟨i, hi, by rw [← he]; exact (turned h i hi).1⟩

theorem turn_full {dt sh : List Int} {r : Nat} (h : orderOk dt r r = true) (hl : sh.length = r) (hf : Full sh) : Full (turnN dt sh r r) := by
  intro k hk
  rw [turnN_len] at hk
  obtain ⟨i, hi, he⟩ := turn_cell (sh := sh) h hk
  rw [he]
  exact hf i (by rw [hl]; exact hi)

theorem turn_le {dt sh : List Int} {r : Nat} (h : orderOk dt r r = true) (hs : ∀ k, sh.getD k 0 ≤ 10000) (k : Nat) : (turnN dt sh r r).getD k 0 ≤ 10000 := by
  by_cases hk : k < r
  · obtain ⟨i, _, he⟩ := turn_cell (sh := sh) h hk
    rw [he]; exact hs i
  · have : (turnN dt sh r r).getD k 0 = 0 := by simp [List.getD, List.getElem?_eq_none (by rw [turnN_len]; omega : (turnN dt sh r r).length ≤ k)]
    omega

def transAt (dt sh' dt' : List Int) (k : Nat) : Int × Int := (dt'.getD (place sh' (backIx dt (digits (turnN dt sh' sh'.length sh'.length) k) sh'.length)).toNat 0, 0)

def transpose (c d : Bool) (sh dt sh' dt' : List Int) : Ans :=
  if arrOk c sh dt = true ∧ arrOk d sh' dt' = true then
    if listCode c sh.length ≠ 0 then noAns (listCode c sh.length)
    else if dt.length ≠ sh'.length then noAns 5
    else if orderOk dt sh'.length sh'.length = false then noAns 3
    else ⟨d, turnN dt sh' sh'.length sh'.length, vals (transAt dt sh' dt') dt'.length, 0⟩
  else noAns 3

section
variable {c d : Bool} {sh dt sh' dt' : List Int}
theorem transpose_bad1 (h : arrOk c sh dt = false) : transpose c d sh dt sh' dt' = noAns 3 := by unfold transpose; rw [if_neg (by simp [h])]
theorem transpose_bad2 (h : arrOk d sh' dt' = false) : transpose c d sh dt sh' dt' = noAns 3 := by unfold transpose; rw [if_neg (by simp [h])]
theorem transpose_list (h1 : arrOk c sh dt = true) (h2 : arrOk d sh' dt' = true) (r : Int) (h : listCode c sh.length = r) (hr : r ≠ 0) : transpose c d sh dt sh' dt' = noAns r := by
  unfold transpose; rw [if_pos ⟨h1, h2⟩, h, if_pos hr]
theorem transpose_len (h1 : arrOk c sh dt = true) (h2 : arrOk d sh' dt' = true) (h : listCode c sh.length = 0) (hl : dt.length ≠ sh'.length) : transpose c d sh dt sh' dt' = noAns 5 := by
  unfold transpose; rw [if_pos ⟨h1, h2⟩, if_neg (by simp [h]), if_pos hl]
theorem transpose_dom (h1 : arrOk c sh dt = true) (h2 : arrOk d sh' dt' = true) (h : listCode c sh.length = 0) (hl : dt.length = sh'.length) (ho : orderOk dt sh'.length sh'.length = false) : transpose c d sh dt sh' dt' = noAns 3 := by
  unfold transpose; rw [if_pos ⟨h1, h2⟩, if_neg (by simp [h]), if_neg (by simp [hl]), if_pos ho]
theorem transpose_go (h1 : arrOk c sh dt = true) (h2 : arrOk d sh' dt' = true) (h : listCode c sh.length = 0) (hl : dt.length = sh'.length) (ho : orderOk dt sh'.length sh'.length = true) : transpose c d sh dt sh' dt' = ⟨d, turnN dt sh' sh'.length sh'.length, vals (transAt dt sh' dt') dt'.length, 0⟩ := by
  unfold transpose; rw [if_pos ⟨h1, h2⟩, if_neg (by simp [h]), if_neg (by simp [hl]), if_neg (by simp [ho])]
end

theorem order_bad {dt : List Int} {r i : Nat} (hi : i < r) (h : stepOk dt r i = false) : orderOk dt r r = false := by
  cases e : orderOk dt r r with
  | false => rfl
  | true => rw [order_step e hi] at h; cases h

end Go.Proofs.Ytadbhidpmihghaa
