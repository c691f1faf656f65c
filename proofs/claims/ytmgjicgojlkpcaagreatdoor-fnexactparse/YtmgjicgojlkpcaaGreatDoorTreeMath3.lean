import Derived.Test.YtmgjicgojlkpcaaGreatDoorTreeMath2
namespace Go.Proofs.YtmgjicgojlkpcaaGreatDoor
open Go

theorem tree_size {T : ByteArray → Bool} {ns : List NodeD} (h : ¬ (1 ≤ ns.length ∧ ns.length ≤ 600)) : treeB T ns = false := by
  unfold treeB; rw [decide_eq_false h]; rfl

theorem tree_none {T : ByteArray → Bool} {ns : List NodeD} {i : Nat} (h : ordN ns (i + 1) = none) (hi : i < ns.length) : treeB T ns = false := by
  have := ord_none h (ns.length - (i + 1))
  rw [show i + 1 + (ns.length - (i + 1)) = ns.length by omega] at this
  unfold treeB
  rw [this]
  exact Bool.and_false _

theorem node_same {T : ByteArray → Bool} {ns : List NodeD} {st st' : List (Nat × Nat)} {j : Nat} (h : st.getD j (0, 0) = st'.getD j (0, 0)) : nodeB T ns st j = nodeB T ns st' j := by
  unfold nodeB; rw [h]

theorem tree_bad {T : ByteArray → Bool} {ns : List NodeD} {i : Nat} {st : List (Nat × Nat)} (h : ordN ns (i + 1) = some st) (hi : i < ns.length) (hb : nodeB T ns st i = false) : treeB T ns = false := by
  unfold treeB
  cases hS : ordN ns ns.length with
  | none => exact Bool.and_false _
  | some S =>
    have ht := ord_take (i := i + 1) (ns.length - (i + 1)) (st := S) (by rw [show i + 1 + (ns.length - (i + 1)) = ns.length by omega]; exact hS)
    rw [h] at ht
    have e : st.getD i (0, 0) = S.getD i (0, 0) := by
      rw [Option.some.inj ht]
      simp [List.getD_eq_getElem?_getD]
    rw [node_same e] at hb
    have : (List.range ns.length).all (nodeB T ns S) = false := List.all_eq_false.2 ⟨i, List.mem_range.2 hi, by rw [hb]; decide⟩
    dsimp only
    rw [this]
    simp

theorem tree_good {T : ByteArray → Bool} {ns : List NodeD} {st : List (Nat × Nat)} (h : ordN ns ns.length = some st) (hs : 1 ≤ ns.length ∧ ns.length ≤ 600) (ha : ∀ j, j < ns.length → nodeB T ns st j = true) : treeB T ns = decide ((st.getD (ns.length - 1) (0, 0)).1 = 0) := by
  unfold treeB
  rw [decide_eq_true hs, h]
  have : (List.range ns.length).all (nodeB T ns st) = true := List.all_eq_true.2 fun j hj => ha j (List.mem_range.1 hj)
  dsimp only
  rw [this]
  rfl

theorem nodes_push {T : ByteArray → Bool} {ns : List NodeD} {i : Nat} {st : List (Nat × Nat)} {p : Nat × Nat} (hl : st.length = i) (h : ∀ j, j < i → nodeB T ns st j = true) (hp : nodeB T ns (st ++ [p]) i = true) : ∀ j, j < i + 1 → nodeB T ns (st ++ [p]) j = true := fun j hj => by
  by_cases e : j = i
  · subst e; exact hp
  · rw [node_same (st' := st)]
    · exact h j (by omega)
    · simp [List.getD_eq_getElem?_getD, List.getElem?_append_left (show j < st.length by omega)]

/-- Kids of the three kinds that select. -/
theorem kids_few {k : Int} {ks : List Int} (h : kidsB k ks = true) : (k = 7 → 1 ≤ ks.length) ∧ (k = 9 → 2 ≤ ks.length) ∧ (k = 10 → 3 ≤ ks.length) := by
  refine ⟨fun e => ?_, fun e => ?_, fun e => ?_⟩
  · subst e
    unfold kidsB at h
    rw [if_pos rfl, Bool.and_eq_true, decide_eq_true_eq] at h
    omega
  · subst e
    have h' : fits [102, 101] ks = true := h
    rw [kfit2, Bool.and_eq_true, decide_eq_true_eq] at h'
    omega
  · subst e
    have h' : fits [101, 102, 101] ks = true := h
    rw [kfit3, Bool.and_eq_true, decide_eq_true_eq] at h'
    omega

theorem goK_bad {st : List (Nat × Nat)} {kids : List Int} {k a hi : Nat} (h : ¬ (1 ≤ a ∧ kids.getD k 0 = (a : Int) - 1)) : goK st kids (k + 1) a hi = none := by rw [goK, if_neg h]
theorem goK_ok {st : List (Nat × Nat)} {kids : List Int} {k y hi : Nat} (h : kids.getD k 0 = ((y : Nat) : Int)) : goK st kids (k + 1) (y + 1) hi = goK st kids k (st.getD y (0, 0)).1 (max hi ((st.getD y (0, 0)).2 + 1)) := by
  rw [goK, if_pos ⟨by omega, by rw [h]; omega⟩]
  rfl

/-- Kinds filled in from the last one on. -/
def fillK (ks : List Int) (k : Nat) : List Int := List.replicate k 0 ++ ks.drop k

theorem fillK_len {ks : List Int} {k : Nat} (h : k ≤ ks.length) : (fillK ks k).length = ks.length := by unfold fillK; simp; omega
theorem fillK_start (ks : List Int) : fillK ks ks.length = List.replicate ks.length 0 := by unfold fillK; simp
theorem fillK_end (ks : List Int) : fillK ks 0 = ks := by unfold fillK; simp
theorem fillK_set {ks : List Int} {k : Nat} (h : k < ks.length) : (fillK ks (k + 1)).set k (ks.getD k 0) = fillK ks k := by
  unfold fillK
  rw [List.replicate_succ', List.append_assoc, List.set_append_right _ _ (by simp), List.length_replicate, Nat.sub_self]
  rw [List.drop_eq_getElem_cons (i := k) h]
  simp [List.getD_eq_getElem?_getD, h]

theorem kinds_len (ns : List NodeD) (zs : List Int) : (kinds ns zs).length = zs.length := by unfold kinds; simp
theorem kinds_get {ns : List NodeD} {zs : List Int} {k : Nat} (h : k < zs.length) : (kinds ns zs).getD k 0 = (node ns (zs.getD k 0).toNat).k := by
  unfold kinds
  simp [List.getD_eq_getElem?_getD, h]

/-- A stretch is no taller than its place. -/
theorem goK_hi {st : List (Nat × Nat)} {kids : List Int} (hst : ∀ j, j < st.length → (st.getD j (0, 0)).1 ≤ j ∧ (st.getD j (0, 0)).2 ≤ j) : ∀ (k a hi : Nat) (r : Nat × Nat), a ≤ st.length → goK st kids k a hi = some r → r.2 ≤ max hi a
  | 0, a, hi, r, ha, h => by rw [goK] at h; cases h; exact Nat.le_max_left _ _
  | k + 1, a, hi, r, ha, h => by
    rw [goK] at h
    by_cases hc : 1 ≤ a ∧ kids.getD k 0 = (a : Int) - 1
    · rw [if_pos hc] at h
      have hle := hst (a - 1) (by omega)
      have := goK_hi hst k _ _ r (by omega) h
      omega
    · rw [if_neg hc] at h; cases h

theorem ord_hi {ns : List NodeD} : ∀ (n : Nat) {st : List (Nat × Nat)}, ordN ns n = some st → ∀ j, j < n → (st.getD j (0, 0)).2 ≤ j
  | 0, st, h, j, hj => by omega
  | n + 1, st, h, j, hj => by
    have hl := ord_len h
    have hp := ord_prev h
    have ih := ord_hi n hp.1
    have ih1 := ord_le n hp.1
    have e : ∀ j, j < n → (st.take n).getD j (0, 0) = st.getD j (0, 0) := fun j hj => by simp [List.getD_eq_getElem?_getD, hj]
    by_cases hjn : j < n
    · rw [← e j hjn]; exact ih j hjn
    · have hjn' : j = n := by omega
      subst hjn'
      have := goK_hi (fun i hi => ⟨ih1 i (by simp at hi; omega), ih i (by simp at hi; omega)⟩) _ _ _ _ (by simp; omega) hp.2
      omega

end Go.Proofs.YtmgjicgojlkpcaaGreatDoor
