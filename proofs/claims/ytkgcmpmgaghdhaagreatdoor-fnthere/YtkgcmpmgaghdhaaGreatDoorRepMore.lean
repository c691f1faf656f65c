import Derived.Test.YtkgcmpmgaghdhaaGreatDoorMFit0
import Derived.Test.YtkgcmpmgaghdhaaGreatDoorAxisMath
namespace Go.Proofs.YtkgcmpmgaghdhaaGreatDoor

theorem repSh_ne (sh' : List Int) : repSh sh' ≠ [] := by unfold repSh; split <;> simp_all

theorem rep_ok {d : Bool} {sh' dt' : List Int} (h : arrOk d sh' dt' = true) : arrOk d (repSh sh') dt' = true := by
  unfold repSh
  split
  · rename_i e
    subst e
    simpa [arrOk, countOf, prodFrom, inCells] using h
  · exact h

theorem times_nn {dt : List Int} (h : dt.all nonNeg = true) (i : Nat) : 0 ≤ timesAt dt i := by
  unfold timesAt
  rcases Nat.eq_zero_or_pos dt.length with h0 | h0
  · have := List.length_eq_zero_iff.mp h0
    subst this
    simp
  · have hl := Nat.mod_lt i h0
    have h1 := (List.all_eq_true.1 h) (dt.getD (i % dt.length) 0) (by simp only [List.getD, List.getElem?_eq_getElem hl, Option.getD_some]; exact List.getElem_mem hl)
    simpa [nonNeg] using h1

theorem sum_nn {dt : List Int} (h : dt.all nonNeg = true) (m : Nat) : 0 ≤ timesSum dt m := by
  induction m with
  | zero => exact Int.le_refl _
  | succ m ih => have := times_nn h m; simp only [timesSum]; omega

theorem sum_mono {dt : List Int} (h : dt.all nonNeg = true) {i m : Nat} (hi : i ≤ m) : timesSum dt i ≤ timesSum dt m := by
  induction m with
  | zero =>
    have e : i = 0 := Nat.le_zero.mp hi
    rw [e]; exact Int.le_refl _
  | succ m ih =>
    rcases Nat.lt_or_ge m i with h1 | h1
    · obtain rfl : i = m + 1 := by omega
      exact Int.le_refl _
    · have := ih h1; have := times_nn h m; simp only [timesSum]; omega

theorem copies_len (dt' : List Int) (n A p i c : Nat) : (repCopies dt' n A p i c).length ≤ c * A := by
  induction c with
  | zero => simp [repCopies]
  | succ c ih =>
    have : (c + 1) * A = c * A + A := by rw [Nat.add_mul, Nat.one_mul]
    simp only [repCopies, List.length_append, repBlk, List.length_take]; omega

theorem repLine_len {dt : List Int} (h : dt.all nonNeg = true) (dt' : List Int) (n A p i : Nat) : (repLine dt dt' n A p i).length ≤ (timesSum dt i).toNat * A := by
  induction i with
  | zero => simp [repLine]
  | succ i ih =>
    have h1 := copies_len dt' n A p i (timesAt dt i).toNat
    have h2 := times_nn h i
    have h3 := sum_nn h i
    simp only [repLine, List.length_append, timesSum]
    rw [show (timesSum dt i + timesAt dt i).toNat = (timesSum dt i).toNat + (timesAt dt i).toNat by omega, Nat.add_mul]
    omega

theorem repAll_len {dt : List Int} (h : dt.all nonNeg = true) (dt' : List Int) (n A m p : Nat) : (repAll dt dt' n A m p).length ≤ p * ((timesSum dt m).toNat * A) := by
  induction p with
  | zero => simp [repAll]
  | succ p ih =>
    have h1 := repLine_len h dt' n A p m
    have : (p + 1) * ((timesSum dt m).toNat * A) = p * ((timesSum dt m).toNat * A) + (timesSum dt m).toNat * A := by rw [Nat.add_mul, Nat.one_mul]
    simp only [repAll, List.length_append]
    omega

/-- How many elements there are at most on the way. -/
theorem repAt_len {dt : List Int} (h : dt.all nonNeg = true) (dt' : List Int) {n A m p i c q : Nat} (hp : p ≤ 10000) (hA : A ≤ 10000) (hs : timesSum dt m ≤ 10000) (hi : i ≤ m) (hc : c ≤ 10000) : (repAt dt dt' n A m p i c q).length ≤ 2000000000000 := by
  have h1 := repAll_len h dt' n A m p
  have h2 := repLine_len h dt' n A p i
  have h3 := copies_len dt' n A p i c
  have h4 := sum_mono h hi
  have h5 : (timesSum dt m).toNat * A ≤ 10000 * 10000 := Nat.mul_le_mul (by omega) hA
  have h6 : p * ((timesSum dt m).toNat * A) ≤ 10000 * (10000 * 10000) := Nat.mul_le_mul hp h5
  have h7 : (timesSum dt i).toNat * A ≤ 10000 * 10000 := Nat.mul_le_mul (by omega) hA
  have h8 : c * A ≤ 10000 * 10000 := Nat.mul_le_mul hc hA
  have h9 : ((repBlk dt' n A p i).take q).length ≤ A := by unfold repBlk; simp only [List.length_take]; omega
  unfold repAt
  simp only [List.length_append]
  omega

/-- Which way the number of places comes about. -/
theorem repM_is (dt sh' : List Int) (fl : Bool) {L K : Nat} (hL : axisN (repSh sh') fl = (L : Int)) (hK : dt.length = K) : repN sh' fl = L ∧ repM dt sh' fl = if L = 1 then K else L := by
  have h1 : repN sh' fl = L := by unfold repN; rw [hL]; simp
  refine ⟨h1, ?_⟩
  unfold repM repCount
  rw [h1, hK]

theorem repZS_is (dt sh' : List Int) (fl : Bool) : repZS dt sh' fl = if fl = true then (repSh sh').set 0 (timesSum dt (repM dt sh' fl)) else (repSh sh').set ((repSh sh').length - 1) (timesSum dt (repM dt sh' fl)) := by
  unfold repZS repAx
  cases fl <;> rfl

end Go.Proofs.YtkgcmpmgaghdhaaGreatDoor
