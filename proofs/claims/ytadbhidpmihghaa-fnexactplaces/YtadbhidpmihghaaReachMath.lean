import Derived.Test.YtadbhidpmihghaaViewMath
namespace Go.Proofs.Ytadbhidpmihghaa

/-- What is left behind j axes is the place by the axes ahead. -/
theorem restN_place {sh ix : List Int} (hi : IxIn sh ix) (j : Nat) (hj : j ≤ sh.length) : restN sh (place sh ix) j = placeN sh ix (sh.length - j) := by
  induction j with
  | zero => rfl
  | succ j ih =>
    have e : sh.length - j = sh.length - 1 - j + 1 := by omega
    have e2 : sh.length - (j + 1) = sh.length - 1 - j := by omega
    obtain ⟨h1, h2⟩ := hi (sh.length - 1 - j) (by omega)
    show restN sh (place sh ix) j / sh.getD (sh.length - 1 - j) 0 = _
    rw [ih (by omega), e, e2]
    show (placeN sh ix (sh.length - 1 - j) * sh.getD (sh.length - 1 - j) 0 + ix.getD (sh.length - 1 - j) 0) / sh.getD (sh.length - 1 - j) 0 = _
    rw [Int.add_comm, Int.add_mul_ediv_right _ _ (by omega), Int.ediv_eq_zero_of_lt h1 h2]
    omega

theorem digits_place {sh ix : List Int} (hi : IxIn sh ix) (k : Nat) (hk : k < sh.length) : (digits sh (place sh ix)).getD k 0 = ix.getD k 0 := by
  obtain ⟨h1, h2⟩ := hi k hk
  rw [digits_get sh _ k hk]
  unfold digit
  rw [restN_place hi _ (by omega), show sh.length - (sh.length - 1 - k) = k + 1 by omega]
  show (placeN sh ix k * sh.getD k 0 + ix.getD k 0) % sh.getD k 0 = _
  rw [Int.add_comm, Int.add_mul_emod_self_right, Int.emod_eq_of_lt h1 h2]

theorem farN_congr {ix ix' st : List Int} {k : Nat} (h : ∀ j, j < k → ix.getD j 0 = ix'.getD j 0) : farN ix st k = farN ix' st k := by
  induction k with
  | zero => rfl
  | succ k ih =>
    show farN ix st k + ix.getD k 0 * st.getD k 0 = farN ix' st k + ix'.getD k 0 * st.getD k 0
    rw [ih (fun j hj => h j (by omega)), h k (by omega)]

theorem far_place {sh ix : List Int} (hi : IxIn sh ix) (st : List Int) : farN (digits sh (place sh ix)) st sh.length = farN ix st sh.length := farN_congr fun j hj => digits_place hi j hj

/-- The least and the greatest way from Off, by the first k axes. -/
def lowN (sh st : List Int) : Nat → Int
  | 0 => 0
  | k + 1 => lowN sh st k + (if st.getD k 0 * (sh.getD k 0 - 1) < 0 then st.getD k 0 * (sh.getD k 0 - 1) else 0)
def highN (sh st : List Int) : Nat → Int
  | 0 => 0
  | k + 1 => highN sh st k + (if 0 < st.getD k 0 * (sh.getD k 0 - 1) then st.getD k 0 * (sh.getD k 0 - 1) else 0)

theorem term_bd {i s n : Int} (h0 : 0 ≤ i) (h1 : i < n) : (if s * (n - 1) < 0 then s * (n - 1) else 0) ≤ i * s ∧ i * s ≤ (if 0 < s * (n - 1) then s * (n - 1) else 0) := by
  by_cases hs : 0 ≤ s
  · have q1 := Int.mul_nonneg h0 hs
    have q2 := Int.mul_le_mul_of_nonneg_left (show i ≤ n - 1 by omega) hs
    have q3 := Int.mul_nonneg hs (show 0 ≤ n - 1 by omega)
    rw [Int.mul_comm i s] at q1 ⊢
    split <;> split <;> omega
  · have q1 := Int.mul_nonneg h0 (show 0 ≤ -s by omega)
    have q2 := Int.mul_le_mul_of_nonneg_left (show i ≤ n - 1 by omega) (show 0 ≤ -s by omega)
    have q3 := Int.mul_nonneg (show 0 ≤ -s by omega) (show 0 ≤ n - 1 by omega)
    rw [Int.neg_mul] at q2 q3
    rw [Int.neg_mul] at q2
    rw [Int.mul_neg, Int.mul_comm] at q1
    rw [Int.mul_comm i s]
    split <;> split <;> omega

theorem far_between {sh ix st : List Int} (hi : IxIn sh ix) (k : Nat) (hk : k ≤ sh.length) : lowN sh st k ≤ farN ix st k ∧ farN ix st k ≤ highN sh st k := by
  induction k with
  | zero => simp [lowN, highN, farN]
  | succ k ih =>
    obtain ⟨h1, h2⟩ := ih (by omega)
    obtain ⟨h3, h4⟩ := hi k (by omega)
    obtain ⟨h5, h6⟩ := term_bd (s := st.getD k 0) h3 h4
    unfold lowN highN farN
    omega

/-- The index of the least place, and of the greatest. -/
def ixLow (sh st : List Int) : List Int := (List.range sh.length).map fun j => if st.getD j 0 < 0 then sh.getD j 0 - 1 else 0
def ixHigh (sh st : List Int) : List Int := (List.range sh.length).map fun j => if st.getD j 0 < 0 then 0 else sh.getD j 0 - 1

theorem ixLow_get (sh st : List Int) {k : Nat} (hk : k < sh.length) : (ixLow sh st).getD k 0 = if st.getD k 0 < 0 then sh.getD k 0 - 1 else 0 := by simp [ixLow, hk]
theorem ixHigh_get (sh st : List Int) {k : Nat} (hk : k < sh.length) : (ixHigh sh st).getD k 0 = if st.getD k 0 < 0 then 0 else sh.getD k 0 - 1 := by simp [ixHigh, hk]

theorem ixLow_in {sh : List Int} (hf : Full sh) (st : List Int) : IxIn sh (ixLow sh st) := by
  intro k hk
  have := hf k hk
  rw [ixLow_get sh st hk]
  split <;> omega
theorem ixHigh_in {sh : List Int} (hf : Full sh) (st : List Int) : IxIn sh (ixHigh sh st) := by
  intro k hk
  have := hf k hk
  rw [ixHigh_get sh st hk]
  split <;> omega

theorem far_low {sh st : List Int} (hf : Full sh) (k : Nat) (hk : k ≤ sh.length) : farN (ixLow sh st) st k = lowN sh st k := by
  induction k with
  | zero => rfl
  | succ k ih =>
    have h1 := hf k (by omega)
    show farN (ixLow sh st) st k + (ixLow sh st).getD k 0 * st.getD k 0 = lowN sh st k + _
    rw [ih (by omega), ixLow_get sh st (by omega)]
    congr 1
    by_cases hs : st.getD k 0 < 0
    · rw [if_pos hs, Int.mul_comm]
      by_cases hn : sh.getD k 0 = 1
      · rw [hn]; simp
      · have := Int.mul_pos (show 0 < -st.getD k 0 by omega) (show 0 < sh.getD k 0 - 1 by omega)
        rw [Int.neg_mul] at this
        rw [if_pos (by omega)]
    · have := Int.mul_nonneg (show 0 ≤ st.getD k 0 by omega) (show 0 ≤ sh.getD k 0 - 1 by omega)
      rw [if_neg hs, if_neg (by omega)]
      simp

theorem far_high {sh st : List Int} (hf : Full sh) (k : Nat) (hk : k ≤ sh.length) : farN (ixHigh sh st) st k = highN sh st k := by
  induction k with
  | zero => rfl
  | succ k ih =>
    have h1 := hf k (by omega)
    show farN (ixHigh sh st) st k + (ixHigh sh st).getD k 0 * st.getD k 0 = highN sh st k + _
    rw [ih (by omega), ixHigh_get sh st (by omega)]
    congr 1
    by_cases hs : st.getD k 0 < 0
    · have := Int.mul_nonneg (show 0 ≤ -st.getD k 0 by omega) (show 0 ≤ sh.getD k 0 - 1 by omega)
      rw [Int.neg_mul] at this
      rw [if_pos hs, if_neg (by omega)]
      simp
    · rw [if_neg hs, Int.mul_comm]
      have := Int.mul_nonneg (show 0 ≤ st.getD k 0 by omega) (show 0 ≤ sh.getD k 0 - 1 by omega)
      by_cases hp : 0 < st.getD k 0 * (sh.getD k 0 - 1)
      · rw [if_pos hp]
      · rw [if_neg hp]; omega

theorem places_mem {off : Int} {sh st : List Int} {p : Int} (N : Nat) (hN : countOf sh = (N : Int)) : p ∈ placesOf off sh st ↔ ∃ k, k < N ∧ placeOf off sh st k = p := by
  unfold placesOf
  rw [hN]
  simp

/-- All places lie within just when the least and the greatest do. -/
theorem reach_iff {off : Int} {sh st : List Int} (hs : shapeB sh = true) (hp : 0 < countOf sh) (cells : Int) :
    ((placesOf off sh st).all fun p => decide (0 ≤ p ∧ p < cells)) = decide (0 ≤ off + lowN sh st sh.length ∧ off + highN sh st sh.length < cells) := by
  have hpc := prodAll_count sh hs
  have hf : Full sh := full_of (shapeB_in hs).1 (by omega)
  obtain ⟨N, hN⟩ : ∃ N : Nat, countOf sh = (N : Int) := ⟨(countOf sh).toNat, by omega⟩
  rw [Bool.eq_iff_iff, List.all_eq_true, decide_eq_true_eq]
  constructor
  · intro h
    have key : ∀ ix, IxIn sh ix → 0 ≤ off + farN ix st sh.length ∧ off + farN ix st sh.length < cells := by
      intro ix hi
      obtain ⟨h1, h2⟩ := place_bd hi
      have := h (off + farN ix st sh.length) ((places_mem N hN).mpr ⟨(place sh ix).toNat, by omega, by
        unfold placeOf
        rw [show (((place sh ix).toNat : Nat) : Int) = place sh ix by omega, far_place hi]⟩)
      exact of_decide_eq_true this
    have k1 := key _ (ixLow_in hf st)
    have k2 := key _ (ixHigh_in hf st)
    rw [far_low hf _ (Nat.le_refl _)] at k1
    rw [far_high hf _ (Nat.le_refl _)] at k2
    exact ⟨k1.1, k2.2⟩
  · rintro ⟨h1, h2⟩ p hp'
    obtain ⟨k, _, rfl⟩ := (places_mem N hN).mp hp'
    have := far_between (st := st) (digits_in hf (k : Int)) sh.length (Nat.le_refl _)
    unfold placeOf
    exact decide_eq_true (by omega)

end Go.Proofs.Ytadbhidpmihghaa
