import Derived.Test.YtadbhidpmihghaaTransMath
namespace Go.Proofs.Ytadbhidpmihghaa

def sortedI (zs : List Int) : List Int := zs.mergeSort fun x y => decide (x ≤ y)

theorem sortedI_perm (zs : List Int) : (sortedI zs).Perm zs := List.mergeSort_perm zs _
theorem sortedI_len (zs : List Int) : (sortedI zs).length = zs.length := (sortedI_perm zs).length_eq
theorem sortedI_up (zs : List Int) : (sortedI zs).Pairwise (fun x y => x ≤ y) := by
  have h := List.pairwise_mergeSort (le := fun x y : Int => decide (x ≤ y)) (fun a b c h1 h2 => by simp at *; omega) (fun a b => by simp; omega) zs
  exact h.imp fun h => by simpa using h

/-- Each number from 1 on stands at its place. -/
def inTurn (zs : List Int) : Nat → Bool
  | 0 => true
  | k + 1 => inTurn zs k && decide (zs.getD k 0 = (k : Int) + 1)

theorem inTurn_at {zs : List Int} {n : Nat} (h : inTurn zs n = true) : ∀ k, k < n → zs.getD k 0 = (k : Int) + 1 := by
  induction n with
  | zero => intro k hk; omega
  | succ n ih =>
    simp only [inTurn, Bool.and_eq_true, decide_eq_true_eq] at h
    intro k hk
    by_cases e : k = n
    · subst e; exact h.2
    · exact ih h.1 k (by omega)
theorem inTurn_of {zs : List Int} {n : Nat} (h : ∀ k, k < n → zs.getD k 0 = (k : Int) + 1) : inTurn zs n = true := by
  induction n with
  | zero => rfl
  | succ n ih =>
    simp only [inTurn, Bool.and_eq_true, decide_eq_true_eq]
    exact ⟨ih fun k hk => h k (by omega), h n (by omega)⟩
theorem inTurn_not {zs : List Int} {n k : Nat} (hk : k < n) (h : zs.getD k 0 ≠ (k : Int) + 1) : inTurn zs n = false := by
  cases e : inTurn zs n with
  | false => rfl
  | true => exact absurd (inTurn_at e k hk) h

theorem getD_eq (zs : List Int) (k : Nat) (h : k < zs.length) : zs.getD k 0 = zs[k] := by simp [List.getD, h]

theorem order_range {dt : List Int} {r : Nat} (h : orderOk dt r r = true) (i : Nat) (hi : i < r) : 1 ≤ dt.getD i 0 ∧ dt.getD i 0 ≤ r := by
  have := order_step h hi
  unfold stepOk at this
  simp only [Bool.and_eq_true, decide_eq_true_eq] at this
  exact this.1

theorem order_nodup {dt : List Int} {r : Nat} (h : orderOk dt r r = true) (hl : dt.length = r) : dt.Nodup := by
  refine List.pairwise_iff_getElem.2 fun i j hi hj hij he => ?_
  have hs := order_step h (show j < r by omega)
  have hn := stepOk_new hs
  have ht := (turned (sh := []) (orderOk_le h (show j ≤ r by omega)) i hij).2
  have : axNo dt i = axNo dt j := by unfold axNo; rw [getD_eq dt i hi, getD_eq dt j hj, he]
  rw [this, hn] at ht
  cases ht

theorem up_strict {s : List Int} (h1 : s.Pairwise (fun x y => x ≤ y)) (h2 : s.Nodup) (k : Nat) (hk : k + 1 < s.length) : s.getD k 0 < s.getD (k + 1) 0 := by
  rw [getD_eq s k (by omega), getD_eq s (k + 1) hk]
  have a := List.pairwise_iff_getElem.1 h1 k (k + 1) (by omega) hk (by omega)
  have b := List.pairwise_iff_getElem.1 h2 k (k + 1) (by omega) hk (by omega)
  omega

theorem order_sorted {dt : List Int} {r : Nat} (h : orderOk dt r r = true) (hl : dt.length = r) : inTurn (sortedI dt) r = true := by
  have hsl : (sortedI dt).length = r := by rw [sortedI_len, hl]
  have hnd : (sortedI dt).Nodup := (sortedI_perm dt).nodup_iff.2 (order_nodup h hl)
  have hst := up_strict (sortedI_up dt) hnd
  have hmem : ∀ k, k < r → 1 ≤ (sortedI dt).getD k 0 ∧ (sortedI dt).getD k 0 ≤ r := fun k hk => by
    rw [getD_eq _ k (by omega)]
    have hm : (sortedI dt)[k]'(by omega) ∈ dt := (sortedI_perm dt).mem_iff.1 (List.getElem_mem _)
    obtain ⟨i, hi, he⟩ := List.getElem_of_mem hm
    have := order_range h i (by omega)
    rw [getD_eq dt i hi, he] at this
    exact this
  have hlow : ∀ k, k < r → (k : Int) + 1 ≤ (sortedI dt).getD k 0 := by
    intro k
    induction k with
    | zero => intro hk; have := hmem 0 hk; omega
    | succ k ih => intro hk; have := ih (by omega); have := hst k (by omega); omega
  have hup : ∀ d k, k + d + 1 = r → (sortedI dt).getD k 0 ≤ (k : Int) + 1 := by
    intro d
    induction d with
    | zero => intro k hk; have := hmem k (by omega); omega
    | succ d ih => intro k hk; have := ih (k + 1) (by omega); have := hst k (by omega); omega
  refine inTurn_of fun k hk => ?_
  have a := hlow k hk
  have b := hup (r - 1 - k) k (by omega)
  omega

theorem sorted_order {dt : List Int} {r : Nat} (h : inTurn (sortedI dt) r = true) (hl : dt.length = r) : orderOk dt r r = true := by
  have hsl : (sortedI dt).length = r := by rw [sortedI_len, hl]
  have hat := inTurn_at h
  have hnd : dt.Nodup := by
    refine (sortedI_perm dt).nodup_iff.1 (List.pairwise_iff_getElem.2 fun i j hi hj hij he => ?_)
    have a := hat i (by omega)
    have b := hat j (by omega)
    rw [getD_eq _ i hi] at a
    rw [getD_eq _ j hj] at b
    omega
  have hrng : ∀ i, i < r → 1 ≤ dt.getD i 0 ∧ dt.getD i 0 ≤ r := fun i hi => by
    rw [getD_eq dt i (by omega)]
    have hm : dt[i]'(by omega) ∈ sortedI dt := (sortedI_perm dt).mem_iff.2 (List.getElem_mem _)
    obtain ⟨k, hk, he⟩ := List.getElem_of_mem hm
    have := hat k (by omega)
    rw [getD_eq _ k hk, he] at this
    omega
  have key : ∀ m, m ≤ r → orderOk dt r m = true := by
    intro m
    induction m with
    | zero => intro _; rfl
    | succ m ih =>
      intro hm
      simp only [orderOk, Bool.and_eq_true]
      refine ⟨ih (by omega), ?_⟩
      unfold stepOk
      simp only [Bool.and_eq_true, decide_eq_true_eq, Bool.not_eq_true']
      refine ⟨hrng m (by omega), ?_⟩
      cases e : (seenN dt r m).getD (axNo dt m) false with
      | false => rfl
      | true =>
        obtain ⟨i, hi, he⟩ := seen_from e
        have a := hrng i (by omega)
        have b := hrng m (by omega)
        have heq : dt.getD i 0 = dt.getD m 0 := by unfold axNo at he; omega
        rw [getD_eq dt i (by omega), getD_eq dt m (by omega)] at heq
        exact absurd heq (List.pairwise_iff_getElem.1 hnd i m (by omega) (by omega) hi)
  exact key r (Nat.le_refl _)

theorem order_is {dt : List Int} {r : Nat} (hl : dt.length = r) : orderOk dt r r = inTurn (sortedI dt) r := by
  cases e : inTurn (sortedI dt) r with
  | true => exact sorted_order e hl
  | false =>
    cases e2 : orderOk dt r r with
    | false => rfl
    | true => rw [order_sorted e2 hl] at e; cases e

end Go.Proofs.Ytadbhidpmihghaa
