import Derived.Test.YtkgcmpmgaghdhaaGreatDoorImplJointS
import Derived.Test.YtkgcmpmgaghdhaaGreatDoorImplExt
import Derived.Test.YtkgcmpmgaghdhaaGreatDoorMFit1
import Derived.Test.YtkgcmpmgaghdhaaGreatDoorMFit3
namespace Go.Proofs.YtkgcmpmgaghdhaaGreatDoor
open Go.RowKit Go.Shelf

theorem lim_code (r : Int × Bool) : codeIn (limited r).2 := by
  unfold limited
  split
  · exact .inl rfl
  · exact .inr (.inr rfl)

theorem two_codeS (op a b : Int) : codeIn (twoOf op a b).2 := by
  unfold twoOf
  repeat' split
  all_goals first | exact lim_code _ | exact .inl rfl | exact .inr (.inl rfl)

theorem elemFn_code (op : Int) (c d : Bool) (x y : Int) : codeIn (elemFn op c d x y).2 := by
  unfold elemFn
  split
  · exact .inl rfl
  · exact two_codeS op x y

theorem firstCode_congrS {f g : Nat → Int × Int} {n : Nat} (h : ∀ k, k < n → f k = g k) : firstCode f n = firstCode g n := by
  induction n with
  | zero => rfl
  | succ n ih => simp only [firstCode, ih (fun k hk => h k (by omega)), h n (by omega)]

theorem vals_congrS {f g : Nat → Int × Int} {n : Nat} (h : ∀ k, k < n → f k = g k) : vals f n = vals g n := by
  unfold vals
  apply List.map_congr_left
  intro k hk
  rw [h k (List.mem_range.mp hk)]

theorem gather_congrS {c : Bool} {sh : List Int} {f g : Nat → Int × Int} {n : Nat} (h : ∀ k, k < n → f k = g k) : gatherAns c sh f n = gatherAns c sh g n := by
  unfold gatherAns
  rw [firstCode_congrS h, vals_congrS h]

/-- Of each element as often as is asked for. -/
def stepOf (n : Nat) : Nat := if n = 1 then 0 else 1

def s2f (op : Int) (c d : Bool) (dt dt' : List Int) (n2 m2 k : Nat) : Int × Int := elemFn op c d (dt.getD (0 + k * stepOf n2) 0) (dt'.getD (0 + k * stepOf m2) 0)

/-- What jointShape's shape has elements. -/
theorem joint_count {c d : Bool} {sh dt sh' dt' : List Int} {n1 n2 m1 m2 : Nat} (h2 : dt.length = n2) (k2 : dt'.length = m2) (hok : arrOk c sh dt = true) (hok' : arrOk d sh' dt' = true) (hj : jointCode n1 n2 m1 m2 sh sh' = 0) :
    ∃ n : Nat, shapeB (jointSh n1 n2 m1 m2 sh sh') = true ∧ countOf (jointSh n1 n2 m1 m2 sh sh') = (n : Int) ∧ (n2 = 1 ∨ n2 = n) ∧ (m2 = 1 ∨ m2 = n) := by
  obtain ⟨s1, s2⟩ := arr_parts hok
  obtain ⟨t1, t2⟩ := arr_parts hok'
  rw [h2] at s2
  rw [k2] at t2
  unfold jointSh
  by_cases hw : wideB n1 n2 m1 m2 = true
  · rw [if_pos hw]
    have : n2 = 1 := by simp [wideB] at hw; exact hw.1
    exact ⟨m2, t1, t2, .inl this, .inr rfl⟩
  · rw [if_neg hw]
    refine ⟨n2, s1, s2, .inr rfl, ?_⟩
    by_cases hm : m2 = 1
    · exact .inl hm
    · right
      unfold jointCode at hj
      rw [if_neg (by simp [hw, hm])] at hj
      split at hj
      · cases hj
      · split at hj
        · cases hj
        · rename_i hs
          have hs' : sh = sh' := by simpa using hs
          rw [← hs', s2] at t2
          omega

theorem scalar2_bad {op : Int} {c d : Bool} {sh dt sh' dt' : List Int} (h : ¬ (arrOk c sh dt = true ∧ arrOk d sh' dt' = true ∧ opIn op = true)) : scalar2 op c d sh dt sh' dt' = noAns 3 := by
  unfold scalar2; rw [if_neg h]

theorem scalar2_code {op : Int} {c d : Bool} {sh dt sh' dt' : List Int} (h : arrOk c sh dt = true ∧ arrOk d sh' dt' = true ∧ opIn op = true) (hj : jointCode sh.length dt.length sh'.length dt'.length sh sh' ≠ 0) : scalar2 op c d sh dt sh' dt' = noAns (jointCode sh.length dt.length sh'.length dt'.length sh sh') := by
  unfold scalar2
  rw [if_pos h]
  unfold jointCode at hj ⊢
  by_cases h0 : wideB sh.length dt.length sh'.length dt'.length = true ∨ dt'.length = 1
  · rw [if_pos h0] at hj; exact absurd rfl hj
  · rw [if_neg h0] at hj ⊢
    simp only [not_or] at h0
    have hw : wideB sh.length dt.length sh'.length dt'.length = false := by simpa using h0.1
    simp only [hw, decide_eq_false h0.2, Bool.false_and, Bool.not_false, Bool.and_self, true_and]
    by_cases hn : sh.length ≠ sh'.length
    · rw [if_pos hn, if_pos hn]
    · rw [if_neg hn] at hj
      rw [if_neg hn, if_neg hn]
      by_cases hs : sh ≠ sh'
      · rw [if_pos hs, if_pos hs]
      · rw [if_neg hs] at hj; exact absurd rfl hj

theorem scalar2_ok {op : Int} {c d : Bool} {sh dt sh' dt' : List Int} (h : arrOk c sh dt = true ∧ arrOk d sh' dt' = true ∧ opIn op = true) (hj : jointCode sh.length dt.length sh'.length dt'.length sh sh' = 0) : scalar2 op c d sh dt sh' dt' = if (c || d) = true ∧ opEq op = false then noAns 3 else gatherAns false (jointSh sh.length dt.length sh'.length dt'.length sh sh') (fun i => elemOf op c dt (i % dt.length) d dt' (i % dt'.length)) (countOf (jointSh sh.length dt.length sh'.length dt'.length sh sh')).toNat := by
  unfold scalar2
  rw [if_pos h]
  unfold jointCode at hj
  unfold jointSh
  by_cases h0 : wideB sh.length dt.length sh'.length dt'.length = true ∨ dt'.length = 1
  · have hx : (!wideB sh.length dt.length sh'.length dt'.length && !(decide (dt'.length = 1) && !wideB sh.length dt.length sh'.length dt'.length)) = false := by
      cases hw : wideB sh.length dt.length sh'.length dt'.length
      · rw [hw] at h0; simp at h0; simp [h0]
      · rfl
    simp only [hx, Bool.false_eq_true, false_and, if_false]
  · rw [if_neg h0] at hj
    simp only [not_or] at h0
    have hw : wideB sh.length dt.length sh'.length dt'.length = false := by simpa using h0.1
    by_cases hn : sh.length ≠ sh'.length
    · rw [if_pos hn] at hj; cases hj
    · rw [if_neg hn] at hj
      by_cases hs : sh ≠ sh'
      · rw [if_pos hs] at hj; cases hj
      · simp only [hn, hs, and_false, if_false]

theorem s2_same {op : Int} {c d : Bool} {dt dt' : List Int} {n2 m2 n : Nat} (h2 : dt.length = n2) (k2 : dt'.length = m2) (hn : n2 = 1 ∨ n2 = n) (hm : m2 = 1 ∨ m2 = n) : ∀ k, k < n → (fun i => elemOf op c dt (i % dt.length) d dt' (i % dt'.length)) k = s2f op c d dt dt' n2 m2 k := by
  intro k hk
  have e1 : k % n2 = 0 + k * stepOf n2 := by
    unfold stepOf
    by_cases h : n2 = 1
    · subst h; simp; omega
    · rw [if_neg h]
      have : n2 = n := by omega
      subst this
      rw [Nat.mod_eq_of_lt hk]; omega
  have e2 : k % m2 = 0 + k * stepOf m2 := by
    unfold stepOf
    by_cases h : m2 = 1
    · subst h; simp; omega
    · rw [if_neg h]
      have : m2 = n := by omega
      subst this
      rw [Nat.mod_eq_of_lt hk]; omega
  show elemOf op c dt (k % dt.length) d dt' (k % dt'.length) = _
  rw [h2, k2, e1, e2]
  rfl

theorem stepS_lt {n2 n k : Nat} (hn : n2 = 1 ∨ n2 = n) (hk : k < n) : 0 + k * stepOf n2 < n2 := by
  unfold stepOf
  by_cases h : n2 = 1
  · subst h; simp
  · rw [if_neg h]; omega

end Go.Proofs.YtkgcmpmgaghdhaaGreatDoor
