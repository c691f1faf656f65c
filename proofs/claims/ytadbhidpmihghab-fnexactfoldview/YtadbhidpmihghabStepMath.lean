import Derived.Test.YtadbhidpmihghabReachMath
import Derived.Test.YtadbhidpmihghabLineMath
import Derived.Test.YtadbhidpmihghabWholeMath
namespace Go.Proofs.Ytadbhidpmihghab

theorem wholeSt_get (sh : List Int) {k : Nat} (hk : k < sh.length) : (wholeSt sh).getD k 0 = tailProd (sh.drop (k + 1)) := by simp [wholeSt, hk]

/-- The places of a whole view are the places themselves. -/
theorem place_far_aux {sh : List Int} (hf : Full sh) (ix : List Int) (k : Nat) (hk : k ≤ sh.length) : placeN sh ix k * tailProd (sh.drop k) = farN ix (wholeSt sh) k := by
  induction k with
  | zero => simp [placeN, farN]
  | succ k ih =>
    have h1 := hf k (by omega)
    have h2 := ih (by omega)
    show (placeN sh ix k * sh.getD k 0 + ix.getD k 0) * tailProd (sh.drop (k + 1)) = farN ix (wholeSt sh) k + ix.getD k 0 * (wholeSt sh).getD k 0
    rw [← h2, wholeSt_get sh (by omega), Int.add_mul, tailProd_step sh (i := k) (by omega), if_pos h1, Int.mul_assoc, Int.mul_comm (sh.getD k 0)]

theorem place_far {sh : List Int} (hf : Full sh) (ix : List Int) : farN ix (wholeSt sh) sh.length = place sh ix := by
  have := place_far_aux hf ix sh.length (Nat.le_refl _)
  rw [List.drop_length] at this
  rw [← this]
  show _ * 1 = _
  rw [Int.mul_one]; rfl

/-- The stride of the last axis, of the first k, that has more than one element. -/
def stepN (sh st : List Int) : Nat → Int
  | 0 => 0
  | k + 1 => if 1 < sh.getD k 0 then st.getD k 0 else stepN sh st k

/-- Along each axis on which a step is made, the stride is that of a line. -/
def Lined (sh st : List Int) (d : Int) : Prop := ∀ k, k < sh.length → sh.getD k 0 ≠ 1 → st.getD k 0 = d * tailProd (sh.drop (k + 1))

theorem far_lined {sh st ix : List Int} {d : Int} (hl : Lined sh st d) (hi : IxIn sh ix) (k : Nat) (hk : k ≤ sh.length) : farN ix st k = d * farN ix (wholeSt sh) k := by
  induction k with
  | zero => simp [farN]
  | succ k ih =>
    show farN ix st k + ix.getD k 0 * st.getD k 0 = d * (farN ix (wholeSt sh) k + ix.getD k 0 * (wholeSt sh).getD k 0)
    rw [ih (by omega), Int.mul_add, wholeSt_get sh (by omega)]
    congr 1
    obtain ⟨h1, h2⟩ := hi k (by omega)
    by_cases hn : sh.getD k 0 = 1
    · have : ix.getD k 0 = 0 := by omega
      rw [this]; simp
    · rw [hl k (by omega) hn, Int.mul_left_comm]

theorem placeOf_lined {off d : Int} {sh st : List Int} (hf : Full sh) (hl : Lined sh st d) {k : Nat} (hk : (k : Int) < prodAll sh) : placeOf off sh st k = off + d * k := by
  unfold placeOf
  rw [far_lined hl (digits_in hf _) _ (Nat.le_refl _), place_far hf, place_digits hf (by omega) hk]

/-- The index with a 1 at axis j. -/
def unitIx (n j : Nat) : List Int := (List.range n).map fun i => if i = j then 1 else 0
theorem unitIx_get {n j k : Nat} (hk : k < n) : (unitIx n j).getD k 0 = if k = j then 1 else 0 := by simp [unitIx, hk]
theorem unitIx_in {sh : List Int} (hf : Full sh) {j : Nat} (hj : j < sh.length) (h1 : sh.getD j 0 ≠ 1) : IxIn sh (unitIx sh.length j) := by
  intro k hk
  have := hf k hk
  rw [unitIx_get hk]
  by_cases e : k = j
  · subst e
    rw [if_pos rfl]; omega
  · rw [if_neg e]; omega
theorem far_unit {st : List Int} {n j : Nat} (hj : j < n) (k : Nat) (hk : k ≤ n) : farN (unitIx n j) st k = if j < k then st.getD j 0 else 0 := by
  induction k with
  | zero => simp [farN]
  | succ k ih =>
    show farN (unitIx n j) st k + (unitIx n j).getD k 0 * st.getD k 0 = _
    rw [ih (by omega), unitIx_get (by omega)]
    by_cases e : k = j
    · subst e; simp
    · rw [if_neg e]
      by_cases h : j < k
      · rw [if_pos h, if_pos (by omega)]; simp
      · rw [if_neg h, if_neg (by omega)]; simp

theorem tailProd_ones {sh : List Int} (h : ∀ x ∈ sh, x = 1) : tailProd sh = 1 := by
  induction sh with
  | nil => rfl
  | cons x r ih =>
    have hx := h x (by simp)
    subst hx
    rw [tailProd, if_pos (by omega), ih (fun y hy => h y (by simp [hy]))]; rfl

/-- The last axis with more than one element. -/
theorem stepN_at {sh st : List Int} (hf : Full sh) (k : Nat) (hk : k ≤ sh.length) : (∃ j, j < k ∧ 1 < sh.getD j 0 ∧ (∀ i, j < i → i < k → sh.getD i 0 = 1) ∧ stepN sh st k = st.getD j 0) ∨ (∀ i, i < k → sh.getD i 0 = 1) := by
  induction k with
  | zero => exact .inr fun i hi => absurd hi (Nat.not_lt_zero _)
  | succ k ih =>
    have h1 := hf k (by omega)
    by_cases hn : 1 < sh.getD k 0
    · exact .inl ⟨k, by omega, hn, fun i h2 h3 => by omega, by show (if _ then _ else _) = _; rw [if_pos hn]⟩
    · have e : stepN sh st (k + 1) = stepN sh st k := by show (if _ then _ else _) = _; rw [if_neg hn]
      rcases ih (by omega) with ⟨j, hj, h2, h3, h4⟩ | h
      · refine .inl ⟨j, by omega, h2, fun i hi hik => ?_, by rw [e]; exact h4⟩
        by_cases hik' : i = k
        · subst hik'; omega
        · exact h3 i hi (by omega)
      · refine .inr fun i hi => ?_
        by_cases hik' : i = k
        · subst hik'; omega
        · exact h i (by omega)

theorem ones_prod {sh : List Int} (h : ∀ i, i < sh.length → sh.getD i 0 = 1) : ∀ x ∈ sh, x = 1 := by
  intro x hx
  obtain ⟨i, hi, rfl⟩ := List.getElem_of_mem hx
  have := h i hi
  simpa [List.getD, hi] using this

theorem prodAll_tail {sh : List Int} (hf : Full sh) : prodAll sh = tailProd sh := by
  have h := place_far_aux hf
  have aux : ∀ k, k ≤ sh.length → prodAll (sh.take k) * tailProd (sh.drop k) = tailProd sh := by
    intro k
    induction k with
    | zero => intro _; simp [prodAll]
    | succ k ih =>
      intro hk
      rw [← ih (by omega), prodAll_snoc sh k (by omega), tailProd_step sh (i := k) (by omega), if_pos (hf k (by omega)), Int.mul_assoc, Int.mul_comm (sh.getD k 0)]
  have := aux sh.length (Nat.le_refl _)
  rw [List.take_length, List.drop_length] at this
  rw [← this]
  show _ = _ * 1
  rw [Int.mul_one]

/-- LineView's answer of a view with two elements or more. -/
theorem line_lined {off : Int} {sh st : List Int} (hs : shapeB sh = true) (h2 : 2 ≤ countOf sh) (hl : Lined sh st (stepN sh st sh.length)) : lineL (placesOf off sh st) = (stepN sh st sh.length, true) := by
  have hpc := prodAll_count sh hs
  have hf : Full sh := full_of (shapeB_in hs).1 (by omega)
  obtain ⟨N, hN⟩ : ∃ N : Nat, countOf sh = (N : Int) := ⟨(countOf sh).toNat, by omega⟩
  have hlen : (placesOf off sh st).length = N := by simp [placesOf, hN]
  have hget : ∀ k, k < N → (placesOf off sh st).getD k 0 = off + stepN sh st sh.length * k := fun k hk => by
    rw [← placeOf_lined hf hl (by omega : (k : Int) < prodAll sh)]
    simp [placesOf, hN, hk]
  rw [lineL_yes (by omega) (fun i h0 hi => by
    rw [hget i (by omega), hget (i - 1) (by omega), hget 1 (by omega), hget 0 (by omega), show ((i - 1 : Nat) : Int) = (i : Int) - 1 by omega, Int.mul_sub]
    simp
    omega), hget 1 (by omega), hget 0 (by omega)]
  simp
  omega

theorem line_not {off : Int} {sh st : List Int} (hs : shapeB sh = true) (h2 : 2 ≤ countOf sh) (hl : ¬ Lined sh st (stepN sh st sh.length)) : lineL (placesOf off sh st) = (0, false) := by
  have hpc := prodAll_count sh hs
  have hf : Full sh := full_of (shapeB_in hs).1 (by omega)
  obtain ⟨N, hN⟩ : ∃ N : Nat, countOf sh = (N : Int) := ⟨(countOf sh).toNat, by omega⟩
  have hlen : (placesOf off sh st).length = N := by simp [placesOf, hN]
  have hget : ∀ k, k < N → (placesOf off sh st).getD k 0 = placeOf off sh st k := fun k hk => by simp [placesOf, hN, hk]
  unfold lineL
  rw [if_neg (by omega)]
  by_cases hb : lineB (placesOf off sh st) = true
  · exfalso
    apply hl
    obtain ⟨D, hD⟩ : ∃ D, placeOf off sh st 1 - placeOf off sh st 0 = D := ⟨_, rfl⟩
    have hstep : ∀ k, k < N → placeOf off sh st k = placeOf off sh st 0 + D * k := by
      intro k
      induction k with
      | zero => intro _; simp
      | succ k ih =>
        intro hk
        unfold lineB at hb
        rw [List.all_eq_true] at hb
        have := of_decide_eq_true (hb (k + 1) (by simp; omega))
        rcases this with h | h
        · omega
        · rw [hget (k + 1) hk, show k + 1 - 1 = k by omega, hget k (by omega), hget 1 (by omega), hget 0 (by omega), hD, ih (by omega)] at h
          rw [show ((k + 1 : Nat) : Int) = (k : Int) + 1 by omega, Int.mul_add]
          omega
    have h0 : placeOf off sh st 0 = off := by
      have hz : IxIn sh (List.replicate sh.length 0) := fun k hk => by
        have := hf k hk
        simp [hk]; simpa [hk] using this
      have e : ∀ (t : List Int) k, farN (List.replicate sh.length 0) t k = 0 := by
        intro t k
        induction k with
        | zero => rfl
        | succ k ih =>
          show farN _ t k + _ * _ = 0
          have e2 : (List.replicate sh.length (0 : Int)).getD k 0 = 0 := by
            by_cases hk : k < sh.length
            · simp [hk]
            · have h9 : (List.replicate sh.length (0 : Int)).length ≤ k := by simp; omega
              simp [List.getD, List.getElem?_eq_none h9]
          rw [ih, e2]
          simp
      have hp : place sh (List.replicate sh.length 0) = 0 := by rw [← place_far hf, e]
      have := far_place hz st
      rw [hp, e] at this
      unfold placeOf
      rw [show ((0 : Nat) : Int) = 0 from rfl, this]; omega
    have hunit : ∀ j, j < sh.length → sh.getD j 0 ≠ 1 → st.getD j 0 = D * tailProd (sh.drop (j + 1)) := by
      intro j hj hj1
      have hu := unitIx_in hf hj hj1
      obtain ⟨b0, b1⟩ := place_bd hu
      have e1 : place sh (unitIx sh.length j) = tailProd (sh.drop (j + 1)) := by rw [← place_far hf, far_unit hj _ (Nat.le_refl _), if_pos hj, wholeSt_get sh hj]
      have := hstep (place sh (unitIx sh.length j)).toNat (by omega)
      unfold placeOf at this h0
      rw [show (((place sh (unitIx sh.length j)).toNat : Nat) : Int) = place sh (unitIx sh.length j) by omega, far_place hu, far_unit hj _ (Nat.le_refl _), if_pos hj, h0, e1] at this
      omega
    have hd : stepN sh st sh.length = D := by
      rcases stepN_at (st := st) hf sh.length (Nat.le_refl _) with ⟨j, hj, h1, h3, h4⟩ | h
      · rw [h4, hunit j hj (by omega), tailProd_ones, Int.mul_one]
        intro x hx
        obtain ⟨i, hi, rfl⟩ := List.getElem_of_mem hx
        rw [List.length_drop] at hi
        have := h3 (j + 1 + i) (by omega) (by omega)
        simpa [List.getD, show j + 1 + i < sh.length by omega] using this
      · have := tailProd_ones (ones_prod h)
        rw [← prodAll_tail hf] at this
        omega
    rw [hd]
    exact hunit
  · rw [if_neg hb]

end Go.Proofs.Ytadbhidpmihghab
