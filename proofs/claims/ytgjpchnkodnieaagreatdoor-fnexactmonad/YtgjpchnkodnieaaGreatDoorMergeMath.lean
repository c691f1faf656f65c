import Derived.Test.YtgjpchnkodnieaaGreatDoorMFit0
namespace Go.Proofs.YtgjpchnkodnieaaGreatDoor

/-- The places from a on, below b, as numbers from 1 on. -/
def placesOf6 (a b : Nat) : List Int := seg (fun i => (i : Int) + 1) a b

/-- A list of the places of [a, b) that rises. -/
structure Ord6 (K : Int → Int) (a b : Nat) (l : List Int) : Prop where
  perm : l.Perm (placesOf6 a b)
  rise : l.Pairwise (bef K)

theorem Ord6.mem {K : Int → Int} {a b : Nat} {l : List Int} (h : Ord6 K a b l) {x : Int} (hx : x ∈ l) : (a : Int) < x ∧ x ≤ b := by
  obtain ⟨i, h1, h2, rfl⟩ := seg_mem.1 (h.perm.subset hx)
  constructor <;> omega

theorem ord6_small {K : Int → Int} {a b : Nat} (h : b < a + 2) : Ord6 K a b (placesOf6 a b) := by
  refine ⟨List.Perm.refl _, ?_⟩
  unfold placesOf6
  rcases Nat.lt_or_ge a b with h1 | h1
  · rw [show b = a + 1 by omega, seg_one]; simp
  · rw [seg_none h1]; simp

theorem ord6_is {K : Int → Int} {n : Nat} {l : List Int} (h : Ord6 K 0 n l) : IsGrade K n l := by
  refine ⟨?_, h.rise⟩
  have e : placesOf6 0 n = upTo n := by unfold placesOf6 seg upTo; rw [Nat.sub_zero, List.range_eq_range']
  rw [← e]
  exact h.perm

/-- O has been merged; A and B are left. -/
structure Mrg (K : Int → Int) (a b : Nat) (O A B : List Int) : Prop where
  perm : (O ++ (A ++ B)).Perm (placesOf6 a b)
  rise : O.Pairwise (bef K)
  ra : A.Pairwise (bef K)
  rb : B.Pairwise (bef K)
  ab : ∀ x ∈ A, ∀ y ∈ B, x < y
  oa : ∀ x ∈ O, ∀ y ∈ A, bef K x y
  ob : ∀ x ∈ O, ∀ y ∈ B, bef K x y

section
variable {K : Int → Int} {a b m : Nat} {O A B : List Int} {x y : Int}

theorem Mrg.start (h1 : Ord6 K a m A) (h2 : Ord6 K m b B) (ham : a ≤ m) (hmb : m ≤ b) : Mrg K a b [] A B := by
  refine ⟨?_, by simp, h1.rise, h2.rise, fun x hx y hy => ?_, by simp, by simp⟩
  · unfold placesOf6
    rw [seg_split ham hmb, List.nil_append]
    exact List.Perm.append h1.perm h2.perm
  · have := h1.mem hx
    have := h2.mem hy
    omega

theorem Mrg.mem_a (h : Mrg K a b O A B) (hx : x ∈ A) : (a : Int) < x ∧ x ≤ b := by
  obtain ⟨i, h1, h2, rfl⟩ := seg_mem.1 (h.perm.subset (List.mem_append.2 (.inr (List.mem_append.2 (.inl hx)))))
  constructor <;> omega

theorem Mrg.mem_b (h : Mrg K a b O A B) (hx : x ∈ B) : (a : Int) < x ∧ x ≤ b := by
  obtain ⟨i, h1, h2, rfl⟩ := seg_mem.1 (h.perm.subset (List.mem_append.2 (.inr (List.mem_append.2 (.inr hx)))))
  constructor <;> omega

theorem Mrg.left (h : Mrg K a b O (x :: A) B) (hc : B = [] ∨ ∃ y t, B = y :: t ∧ K x ≤ K y) : Mrg K a b (O ++ [x]) A B := by
  have ra := List.pairwise_cons.1 h.ra
  have hB : ∀ z ∈ B, bef K x z := by
    intro z hz
    rcases hc with rfl | ⟨y, t, rfl, hxy⟩
    · simp at hz
    · have hk : K y ≤ K z := by
        rcases List.mem_cons.1 hz with rfl | hz'
        · omega
        · have := (List.pairwise_cons.1 h.rb).1 z hz'
          unfold bef at this
          omega
      exact bef_of_le (by omega) (h.ab x (by simp) z hz)
  refine ⟨?_, ?_, ra.2, h.rb, fun p hp q hq => h.ab p (by simp [hp]) q hq, fun p hp q hq => ?_, fun p hp q hq => ?_⟩
  · have := h.perm
    rw [List.append_assoc]
    exact this
  · rw [List.pairwise_append]
    exact ⟨h.rise, by simp, fun p hp q hq => by simp at hq; subst hq; exact h.oa p hp q (by simp)⟩
  · rcases List.mem_append.1 hp with hp | hp
    · exact h.oa p hp q (by simp [hq])
    · simp at hp; subst hp; exact ra.1 q hq
  · rcases List.mem_append.1 hp with hp | hp
    · exact h.ob p hp q hq
    · simp at hp; subst hp; exact hB q hq

theorem Mrg.right (h : Mrg K a b O A (y :: B)) (hc : A = [] ∨ ∃ x t, A = x :: t ∧ K y < K x) : Mrg K a b (O ++ [y]) A B := by
  have rb := List.pairwise_cons.1 h.rb
  have hA : ∀ z ∈ A, bef K y z := by
    intro z hz
    rcases hc with rfl | ⟨x, t, rfl, hxy⟩
    · simp at hz
    · have hk : K x ≤ K z := by
        rcases List.mem_cons.1 hz with rfl | hz'
        · omega
        · have := (List.pairwise_cons.1 h.ra).1 z hz'
          unfold bef at this
          omega
      exact .inl (by omega)
  refine ⟨?_, ?_, h.ra, rb.2, fun p hp q hq => h.ab p hp q (by simp [hq]), fun p hp q hq => ?_, fun p hp q hq => ?_⟩
  · refine List.Perm.trans ?_ h.perm
    rw [List.append_assoc]
    refine List.Perm.append_left _ ?_
    exact (List.perm_middle (l₁ := A) (l₂ := B) (a := y)).symm
  · rw [List.pairwise_append]
    exact ⟨h.rise, by simp, fun p hp q hq => by simp at hq; subst hq; exact h.ob p hp q (by simp)⟩
  · rcases List.mem_append.1 hp with hp | hp
    · exact h.oa p hp q hq
    · simp at hp; subst hp; exact hA q hq
  · rcases List.mem_append.1 hp with hp | hp
    · exact h.ob p hp q (by simp [hq])
    · simp at hp; subst hp; exact rb.1 q hq

theorem Mrg.done (h : Mrg K a b O [] []) : Ord6 K a b O := ⟨by simpa using h.perm, h.rise⟩
end

/-- O has been chosen, R is left. -/
structure Sel (K : Int → Int) (n : Nat) (O R : List Int) : Prop where
  perm : (O ++ R).Perm (upTo n)
  rise : O.Pairwise (bef K)
  ahead : ∀ x ∈ O, ∀ y ∈ R, bef K x y

/-- The truths say which places are chosen already. -/
def Done6 (R : List Int) (n : Nat) (bs : List Bool) : Prop := bs.length = n ∧ ∀ i, i < n → (bs.getD i false = false ↔ ((i : Int) + 1) ∈ R)

/-- Of the places below i that are left, best is first; none is left where it is below 0. -/
def Best6 (K : Int → Int) (R : List Int) (i : Nat) (best : Int) : Prop :=
  (best = -1 ∧ ∀ j : Nat, j < i → ((j : Int) + 1) ∉ R) ∨ ∃ b : Nat, best = (b : Int) ∧ b < i ∧ ((b : Int) + 1) ∈ R ∧ ∀ j : Nat, j < i → ((j : Int) + 1) ∈ R → j ≠ b → bef K ((b : Int) + 1) ((j : Int) + 1)

section
variable {K : Int → Int} {n i : Nat} {O R : List Int} {best : Int} {bs : List Bool}

theorem upTo_nodup (n : Nat) : (upTo n).Nodup := by
  unfold upTo
  rw [List.nodup_iff_pairwise_ne, List.pairwise_map]
  exact (List.nodup_iff_pairwise_ne.1 List.nodup_range).imp (fun h => by omega)

theorem mem_upTo {x : Int} : x ∈ upTo n ↔ ∃ i : Nat, i < n ∧ x = (i : Int) + 1 := by
  unfold upTo
  rw [List.mem_map]
  constructor
  · rintro ⟨i, hi, rfl⟩; exact ⟨i, List.mem_range.1 hi, rfl⟩
  · rintro ⟨i, hi, rfl⟩; exact ⟨i, List.mem_range.2 hi, rfl⟩

theorem Sel.start : Sel K n [] (upTo n) := ⟨by simp, by simp, by simp⟩
theorem Done6.start : Done6 (upTo n) n (List.replicate n false) := ⟨by simp, fun i hi => by
  constructor
  · intro _; exact mem_upTo.2 ⟨i, hi, rfl⟩
  · intro _; simp [hi]⟩
theorem Best6.start : Best6 K R 0 (-1) := .inl ⟨rfl, fun j hj => by omega⟩

theorem Sel.nodup (h : Sel K n O R) : R.Nodup := by
  have h1 : (O ++ R).Nodup := h.perm.nodup_iff.2 (upTo_nodup n)
  exact (List.nodup_append.1 h1).2.1

theorem Sel.len (h : Sel K n O R) : O.length + R.length = n := by
  have := h.perm.length_eq
  rw [List.length_append, upTo_len] at this
  exact this

theorem Sel.left (h : Sel K n O R) (hb : Best6 K R n best) (hl : O.length < n) : ∃ b : Nat, best = (b : Int) ∧ b < n ∧ ((b : Int) + 1) ∈ R ∧ ∀ j : Nat, j < n → ((j : Int) + 1) ∈ R → j ≠ b → bef K ((b : Int) + 1) ((j : Int) + 1) := by
  rcases hb with ⟨_, h1⟩ | h1
  · have hl2 := h.len
    cases hR : R with
    | nil => rw [hR] at hl2; simp at hl2; omega
    | cons r t =>
      have hr : r ∈ upTo n := h.perm.subset (by rw [hR]; simp)
      obtain ⟨i, hi, e⟩ := mem_upTo.1 hr
      exact absurd (show ((i : Int) + 1) ∈ R by rw [hR, ← e]; simp) (h1 i hi)
  · exact h1

theorem Sel.push {b : Nat} (h : Sel K n O R) (_hb : b < n) (hm : ((b : Int) + 1) ∈ R) (hf : ∀ j : Nat, j < n → ((j : Int) + 1) ∈ R → j ≠ b → bef K ((b : Int) + 1) ((j : Int) + 1)) : Sel K n (O ++ [(b : Int) + 1]) (R.erase ((b : Int) + 1)) := by
  refine ⟨?_, ?_, fun x hx y hy => ?_⟩
  · refine List.Perm.trans ?_ h.perm
    rw [List.append_assoc]
    exact List.Perm.append_left _ (List.perm_cons_erase hm).symm
  · rw [List.pairwise_append]
    exact ⟨h.rise, by simp, fun p hp q hq => by simp at hq; subst hq; exact h.ahead p hp _ hm⟩
  · have hy2 := (h.nodup.mem_erase_iff).1 hy
    rcases List.mem_append.1 hx with hx | hx
    · exact h.ahead x hx y hy2.2
    · simp at hx
      subst hx
      obtain ⟨j, hj, e⟩ := mem_upTo.1 (h.perm.subset (List.mem_append.2 (.inr hy2.2)))
      subst e
      exact hf j hj hy2.2 (fun e => hy2.1 (by rw [e]))

theorem Done6.push {b : Nat} (h : Done6 R n bs) (hn : R.Nodup) (_hb : b < n) : Done6 (R.erase ((b : Int) + 1)) n (bs.set b true) := by
  refine ⟨by rw [List.length_set]; exact h.1, fun i hi => ?_⟩
  rw [hn.mem_erase_iff, List.getD_eq_getElem?_getD, List.getElem?_set]
  by_cases hib : b = i
  · subst hib
    rw [if_pos rfl, if_pos (by rw [h.1]; exact hi)]
    simp
  · rw [if_neg hib, ← List.getD_eq_getElem?_getD, h.2 i hi]
    constructor
    · intro hx; exact ⟨by omega, hx⟩
    · intro hx; exact hx.2

theorem Sel.done (h : Sel K n O R) (hl : O.length = n) : IsGrade K n O := by
  have h1 := h.len
  have : R = [] := List.length_eq_zero_iff.1 (by omega)
  subst this
  exact ⟨by simpa using h.perm, h.rise⟩

theorem Best6.skip (h : Best6 K R i best) (hx : ((i : Int) + 1) ∉ R) : Best6 K R (i + 1) best := by
  rcases h with ⟨h1, h2⟩ | ⟨b, h1, h2, h3, h4⟩
  · exact .inl ⟨h1, fun j hj => by
      rcases Nat.lt_or_ge j i with h5 | h5
      · exact h2 j h5
      · rw [show j = i by omega]; exact hx⟩
  · exact .inr ⟨b, h1, by omega, h3, fun j hj hm hjb => by
      rcases Nat.lt_or_ge j i with h5 | h5
      · exact h4 j h5 hm hjb
      · rw [show j = i by omega] at hm; exact absurd hm hx⟩

theorem Best6.stay {b : Nat} (h : Best6 K R i best) (hb : best = (b : Int)) (hk : ¬ K ((i : Int) + 1) < K ((b : Int) + 1)) : Best6 K R (i + 1) best := by
  rcases h with ⟨h1, _⟩ | ⟨b', h1, h2, h3, h4⟩
  · omega
  · have e : b' = b := by omega
    subst e
    exact .inr ⟨b', h1, by omega, h3, fun j hj hm hjb => by
      rcases Nat.lt_or_ge j i with h5 | h5
      · exact h4 j h5 hm hjb
      · rw [show j = i by omega]
        exact bef_of_le (by omega) (by omega)⟩

theorem Best6.take {b : Nat} (h : Best6 K R i best) (hx : ((i : Int) + 1) ∈ R) (hk : best = (b : Int) → K ((i : Int) + 1) < K ((b : Int) + 1)) (hb : best < 0 ∨ best = (b : Int)) : Best6 K R (i + 1) (i : Int) := by
  refine .inr ⟨i, rfl, by omega, hx, fun j hj hm hji => ?_⟩
  rcases h with ⟨h1, h2⟩ | ⟨b', h1, h2, h3, h4⟩
  · exact absurd hm (h2 j (by omega))
  · have e : best = (b : Int) := by rcases hb with hb | hb <;> omega
    have e2 : b' = b := by omega
    subst e2
    have hkk := hk e
    by_cases hjb : j = b'
    · subst hjb; exact .inl hkk
    · have := h4 j (by omega) hm hjb
      unfold bef at this
      exact .inl (by omega)
end

end Go.Proofs.YtgjpchnkodnieaaGreatDoor
