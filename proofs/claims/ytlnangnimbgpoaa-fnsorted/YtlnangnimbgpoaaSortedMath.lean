import Derived.Test.YtlnangnimbgpoaaMGr
import Derived.Test.YtlnangnimbgpoaaMMath
import Derived.Test.YtlnangnimbgpoaaMMath
import Derived.Test.YtlnangnimbgpoaaImplOkW
namespace Go.Proofs.Ytlnangnimbgpoaa

theorem count_vec {n : Nat} (h : n ≤ 10000) : countOf [(n : Int)] = n := by
  unfold countOf
  have h1 : ([(n : Int)] : List Int).all inCells = true := by simp [inCells]; omega
  rw [if_pos h1]
  by_cases h0 : n = 0
  · subst h0; simp [prodFrom]
  · have h2 : ¬ (n : Int) = 0 := by omega
    have h3 : ¬ (10000 : Int) < 1 * (n : Int) := by omega
    simp only [prodFrom]
    rw [if_neg h2, if_neg h3]
    simp <;> omega

theorem ok_line {d : Bool} {dt : List Int} {n : Nat} (hl : dt.length = n) (hn : n ≤ 10000) (h : dt.all (dataOk d) = true) : arrOk d [(n : Int)] dt = true := by
  unfold arrOk
  rw [count_vec hn, hl, h]
  simp

theorem ok_data {d : Bool} {sh dt : List Int} (h : arrOk d sh dt = true) : dt.all (dataOk d) = true := by
  unfold arrOk at h
  simp only [Bool.and_eq_true, decide_eq_true_eq] at h
  exact h.2.2

/-- The i-th place in order, the element there, and where the element stands first. -/
def gP (down : Bool) (dt : List Int) (i : Nat) : Int := (gradeL (gradeK down dt) dt.length).getD i 0
def gX (down : Bool) (dt : List Int) (i : Nat) : Int := dt.getD (gP down dt i - 1).toNat 0
def gF (c down : Bool) (dt : List Int) (i : Nat) : Int := (firstOf c dt (gX down dt i) c : Int) + 1

theorem gradeL_len (K : Int → Int) (n : Nat) : (gradeL K n).length = n := by rw [(gradeL_is K n).1.length_eq, upTo_len]

section
variable {c down : Bool} {dt : List Int} {i j n : Nat}

theorem gP_at (hl : dt.length = n) (hi : i < n) : ∃ X : Nat, gP down dt i = (X : Int) + 1 ∧ X < n := by
  have hm : gP down dt i ∈ upTo dt.length := (gradeL_is (gradeK down dt) dt.length).1.subset (by
    unfold gP
    have : i < (gradeL (gradeK down dt) dt.length).length := by rw [gradeL_len, hl]; exact hi
    simp [List.getD_eq_getElem?_getD, this])
  obtain ⟨X, h1, h2⟩ := mem_upTo.1 hm
  exact ⟨X, h2, by omega⟩

theorem gP_bef (hl : dt.length = n) (hij : i < j) (hj : j < n) : bef (gradeK down dt) (gP down dt i) (gP down dt j) := by
  have h := (gradeL_is (gradeK down dt) dt.length).2
  have hlen := gradeL_len (gradeK down dt) dt.length
  have := List.pairwise_iff_getElem.1 h i j (by omega) (by omega) hij
  unfold gP
  have e1 : (gradeL (gradeK down dt) dt.length).getD i 0 = (gradeL (gradeK down dt) dt.length)[i]'(by omega) := by simp [List.getD_eq_getElem?_getD, show i < (gradeL (gradeK down dt) dt.length).length by omega]
  have e2 : (gradeL (gradeK down dt) dt.length).getD j 0 = (gradeL (gradeK down dt) dt.length)[j]'(by omega) := by simp [List.getD_eq_getElem?_getD, show j < (gradeL (gradeK down dt) dt.length).length by omega]
  rw [e1, e2]
  exact this

theorem gP_ne (hl : dt.length = n) (hij : i < j) (hj : j < n) : gP down dt i ≠ gP down dt j := fun e => bef_irrefl (by have := gP_bef (down := down) hl hij hj; rwa [e] at this)

/-- Every place comes up. -/
theorem gP_all (hl : dt.length = n) {X : Nat} (hX : X < n) : ∃ i, i < n ∧ gP down dt i = (X : Int) + 1 := by
  have hm : ((X : Int) + 1) ∈ gradeL (gradeK down dt) dt.length := (gradeL_is (gradeK down dt) dt.length).1.symm.subset (mem_upTo.2 ⟨X, by omega, rfl⟩)
  obtain ⟨i, hi, e⟩ := List.getElem_of_mem hm
  rw [gradeL_len] at hi
  refine ⟨i, by omega, ?_⟩
  unfold gP
  rw [← e]
  simp [List.getD_eq_getElem?_getD, show i < (gradeL (gradeK down dt) dt.length).length by rw [gradeL_len]; exact hi]

theorem gK (i : Nat) : gradeK down dt (gP down dt i) = if down then - gX down dt i else gX down dt i := rfl

theorem first_at {dt : List Int} {v : Int} {X : Nat} (hX : X < dt.length) (hv : dt.getD X 0 = v) : firstOf c dt v c ≤ X ∧ dt.getD (firstOf c dt v c) 0 = v := by
  unfold firstOf
  rw [if_pos rfl]
  have hm : ∃ x ∈ dt, decide (x = v) = true := ⟨dt[X], List.getElem_mem hX, by rw [← hv]; simp [List.getD_eq_getElem?_getD, hX]⟩
  have hlt : dt.findIdx (fun x => decide (x = v)) < dt.length := List.findIdx_lt_length.2 hm
  have hp := List.findIdx_getElem (w := hlt)
  refine ⟨?_, ?_⟩
  · rcases Nat.lt_or_ge X (dt.findIdx (fun x => decide (x = v))) with h | h
    · have := List.not_of_lt_findIdx h
      have e : dt[X] = v := by rw [← hv]; simp [List.getD_eq_getElem?_getD, hX]
      simp [e] at this
    · exact h
  · simp only [decide_eq_true_eq] at hp
    rw [List.getD_eq_getElem?_getD, List.getElem?_eq_getElem hlt]
    exact hp

theorem gF_at (hl : dt.length = n) (hi : i < n) : ∃ Y : Nat, gF c down dt i = (Y : Int) + 1 ∧ Y < n ∧ gF c down dt i ≤ gP down dt i ∧ dt.getD Y 0 = gX down dt i := by
  obtain ⟨X, hX, hXn⟩ := gP_at (down := down) hl hi
  have hv : dt.getD X 0 = gX down dt i := by unfold gX; rw [hX, show (X : Int) + 1 - 1 = (X : Int) by omega, Int.toNat_natCast]
  have h := first_at (c := c) (by omega) hv
  refine ⟨firstOf c dt (gX down dt i) c, rfl, by omega, ?_, h.2⟩
  unfold gF
  omega

/-- The same elements follow each other by their places. -/
theorem g_same (hl : dt.length = n) (hi : i + 1 < n) (h : gX down dt (i + 1) = gX down dt i) : gP down dt i < gP down dt (i + 1) := by
  have := gP_bef (down := down) hl (show i < i + 1 by omega) hi
  unfold bef at this
  rw [gK, gK, h] at this
  rcases this with h1 | h1
  · omega
  · exact h1.2

theorem g_sameF (h : gX down dt (i + 1) = gX down dt i) : gF c down dt (i + 1) = gF c down dt i := by unfold gF; rw [h]

theorem g_diff (hl : dt.length = n) (hi : i + 1 < n) (h : gX down dt (i + 1) ≠ gX down dt i) : decide (gX down dt (i + 1) < gX down dt i) = down ∧ gF c down dt (i + 1) = gP down dt (i + 1) := by
  have hb := gP_bef (down := down) hl (show i < i + 1 by omega) hi
  have hb' := hb
  unfold bef at hb
  rw [gK, gK] at hb
  refine ⟨?_, ?_⟩
  · cases down
    · simp only [Bool.false_eq_true, if_false] at hb
      simp; omega
    · simp only [if_true] at hb
      simp; omega
  · obtain ⟨Y, h1, h2, h3, h4⟩ := gF_at (c := c) (down := down) hl hi
    rcases Int.lt_or_le (gF c down dt (i + 1)) (gP down dt (i + 1)) with hlt | hge
    · exfalso
      obtain ⟨k, hk, hkY⟩ := gP_all (down := down) hl h2
      have hKk : gradeK down dt (gP down dt k) = gradeK down dt (gP down dt (i + 1)) := by
        have e : gX down dt k = gX down dt (i + 1) := by
          unfold gX at h4 ⊢
          rw [hkY, show (Y : Int) + 1 - 1 = (Y : Int) by omega, Int.toNat_natCast]
          exact h4
        rw [gK, gK, e]
      have hbk : bef (gradeK down dt) (gP down dt k) (gP down dt (i + 1)) := .inr ⟨hKk, by rw [hkY, ← h1]; exact hlt⟩
      have hki : k < i + 1 := by
        rcases Nat.lt_or_ge k (i + 1) with h | h
        · exact h
        · rcases Nat.lt_or_ge (i + 1) k with h' | h'
          · exact absurd hbk (bef_asymm (gP_bef hl h' hk))
          · rw [show k = i + 1 by omega] at hbk; exact absurd hbk bef_irrefl
      have hle : gradeK down dt (gP down dt k) ≤ gradeK down dt (gP down dt i) := by
        rcases Nat.lt_or_ge k i with h | h
        · have := gP_bef (down := down) hl h (by omega : i < n)
          unfold bef at this
          omega
        · rw [show k = i by omega]; omega
      rw [hKk, gK, gK] at hle
      cases down
      · simp only [Bool.false_eq_true, if_false] at hb hle
        omega
      · simp only [if_true] at hb hle
        omega
    · omega

/-- The truths behind i rounds. -/
def seenG (down : Bool) (dt : List Int) (n i : Nat) : List Bool := (List.range (n + 1)).map fun (t : Nat) => decide (∃ j, j < i ∧ gP down dt j = (t : Int))

theorem seenG_len : (seenG down dt n i).length = n + 1 := by simp [seenG]
theorem seenG_zero : seenG down dt n 0 = List.replicate (n + 1) false := by
  apply List.ext_getElem <;> simp [seenG]

theorem seenG_new (hl : dt.length = n) (hi : i < n) {T : Nat} (hT : gP down dt i = (T : Int)) (hTn : T ≤ n) : (seenG down dt n i).getD T false = false := by
  unfold seenG
  rw [List.getD_eq_getElem?_getD, List.getElem?_map, List.getElem?_range (by omega)]
  simp only [Option.map_some, Option.getD_some, decide_eq_false_iff_not]
  rintro ⟨j, hj, e⟩
  exact gP_ne hl hj hi (by rw [e, hT])

theorem seenG_step {T : Nat} (hT : gP down dt i = (T : Int)) : (seenG down dt n i).set T true = seenG down dt n (i + 1) := by
  apply List.ext_getElem
  · simp [seenG]
  · intro t h1 h2
    rw [List.getElem_set]
    simp only [seenG, List.getElem_map, List.getElem_range]
    by_cases ht : T = t
    · subst ht
      rw [if_pos rfl]
      symm
      simp only [decide_eq_true_eq]
      exact ⟨i, by omega, hT⟩
    · rw [if_neg ht]
      apply decide_eq_decide.2
      constructor
      · rintro ⟨j, hj, e⟩; exact ⟨j, by omega, e⟩
      · rintro ⟨j, hj, e⟩
        rcases Nat.lt_or_ge j i with h | h
        · exact ⟨j, h, e⟩
        · rw [show j = i by omega, hT] at e
          exact absurd (by omega : T = t) ht

/-- The elements in order. -/
def lineX (down : Bool) (dt : List Int) (n : Nat) : List Int := (List.range n).map (gX down dt)

theorem ok_lineX (hl : dt.length = n) (hn : n ≤ 10000) (h : dt.all (dataOk c) = true) : arrOk c [(n : Int)] (lineX down dt n) = true := by
  refine ok_line (by simp [lineX]) hn ?_
  rw [List.all_eq_true]
  intro x hx
  obtain ⟨i, hi, rfl⟩ := List.mem_map.1 hx
  obtain ⟨X, hX, hXn⟩ := gP_at (down := down) hl (List.mem_range.1 hi)
  refine List.all_eq_true.1 h _ ?_
  unfold gX
  rw [hX, show (X : Int) + 1 - 1 = (X : Int) by omega, Int.toNat_natCast]
  simp [List.getD_eq_getElem?_getD, show X < dt.length by omega]

theorem ok_grade (hl : dt.length = n) (hn : n ≤ 10000) : arrOk false [(n : Int)] (gradeL (gradeK down dt) dt.length) = true := by
  refine ok_line (by rw [gradeL_len, hl]) hn ?_
  rw [List.all_eq_true]
  intro x hx
  obtain ⟨X, hX, rfl⟩ := mem_upTo.1 ((gradeL_is (gradeK down dt) dt.length).1.subset hx)
  unfold dataOk
  simp
  omega

theorem index_grade (hl : dt.length = n) (hn : n ≤ 10000) (h : arrOk c [(n : Int)] dt = true) :
    indexA c [(n : Int)] dt [⟨false, false, [(n : Int)], gradeL (gradeK down dt) dt.length⟩] = ⟨c, [(n : Int)], lineX down dt n, 0⟩ := by
  have hw : (gradeL (gradeK down dt) dt.length).all (within (n : Int)) = true := by
    rw [List.all_eq_true]
    intro x hx
    obtain ⟨X, hX, rfl⟩ := mem_upTo.1 ((gradeL_is (gradeK down dt) dt.length).1.subset hx)
    simp [within]; omega
  have hpc : pickCode ⟨false, false, [(n : Int)], gradeL (gradeK down dt) dt.length⟩ (n : Int) = 0 := pick_in rfl (ok_grade hl hn) rfl hw
  have hps : pSh [(n : Int)] [⟨false, false, [(n : Int)], gradeL (gradeK down dt) dt.length⟩] = [(n : Int)] := by
    simp [pSh, pShN, part, pickSh]
  have hcode : partsCode [(n : Int)] [⟨false, false, [(n : Int)], gradeL (gradeK down dt) dt.length⟩] = 0 := by
    have h1 : picksCode [(n : Int)] [⟨false, false, [(n : Int)], gradeL (gradeK down dt) dt.length⟩] = 0 := by
      show (if 1 = 1 then _ else _) = _
      rw [if_pos rfl]
      refine firstCode_zero.2 fun k hk => ?_
      have : k = 0 := by simp at hk; exact hk
      subst this
      exact hpc
    unfold partsCode
    rw [if_neg (by rw [h1]; simp), hps, if_pos (arr_parts h).1]
  rw [index_go h hcode n (by rw [hps]; simp [prodAll])]
  rw [hps]
  congr 1
  unfold vals lineX
  refine List.map_congr_left fun t ht => ?_
  have htn := List.mem_range.1 ht
  show dt.getD (whereAt _ _ t).toNat 0 = gX down dt t
  have hcn : pCn [(n : Int)] [⟨false, false, [(n : Int)], gradeL (gradeK down dt) dt.length⟩] = [(n : Int)] := by
    simp [pCn, pCnN, pDt, part, pickDt, gradeL_len, hl]
  have hdg : digits [(n : Int)] (t : Int) = [(t : Int)] := by
    simp [digits, digit, restN]
    exact Int.emod_eq_of_lt (by omega) (by omega)
  have hwh : whereAt [(n : Int)] [⟨false, false, [(n : Int)], gradeL (gradeK down dt) dt.length⟩] t = gP down dt t - 1 := by
    unfold whereAt
    rw [hcn, hdg]
    simp [place, placeN, meant, pNum, pDt, part, pickDt, gP]
  rw [hwh]
  rfl

theorem find_grade (hl : dt.length = n) (hn : n ≤ 10000) (h : arrOk c [(n : Int)] dt = true) : find c c [(n : Int)] dt [(n : Int)] (lineX down dt n) = ⟨false, [(n : Int)], (List.range n).map (gF c down dt), 0⟩ := by
  unfold find
  rw [if_pos ⟨h, ok_lineX hl hn (ok_data h)⟩, if_neg (by simp), gather_good (firstCode_zero.2 fun k _ => rfl)]
  congr 1
  unfold vals
  have e : (lineX down dt n).length = n := by simp [lineX]
  rw [e]
  refine List.map_congr_left fun t ht => ?_
  have htn := List.mem_range.1 ht
  show (firstOf c dt ((lineX down dt n).getD t 0) c : Int) + 1 = gF c down dt t
  have e2 : (lineX down dt n).getD t 0 = gX down dt t := by simp [lineX, htn]
  rw [e2]
  rfl
end

end Go.Proofs.Ytlnangnimbgpoaa
