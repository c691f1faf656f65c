import Derived.Test.YtmgjicgojlkpcaaGreatDoorTreeMath
namespace Go.Proofs.YtmgjicgojlkpcaaGreatDoor
open Go

/-- From the last kid on: where the stretch of a node begins, and how tall it is; st holds both for the nodes in front. -/
def goK (st : List (Nat × Nat)) (kids : List Int) : Nat → Nat → Nat → Option (Nat × Nat)
  | 0, a, hi => some (a, hi)
  | k + 1, a, hi => if 1 ≤ a ∧ kids.getD k 0 = (a : Int) - 1 then goK st kids k (st.getD (a - 1) (0, 0)).1 (max hi ((st.getD (a - 1) (0, 0)).2 + 1)) else none

/-- Both for the first nodes, when they stand in order. -/
def ordN (ns : List NodeD) : Nat → Option (List (Nat × Nat))
  | 0 => some []
  | i + 1 => match ordN ns i with
    | none => none
    | some st => match goK st (node ns i).kids (node ns i).kids.length i 0 with
      | none => none
      | some p => some (st ++ [p])

theorem ord_step {ns : List NodeD} {i : Nat} {st : List (Nat × Nat)} (h : ordN ns i = some st) : ordN ns (i + 1) = (goK st (node ns i).kids (node ns i).kids.length i 0).map (fun p => st ++ [p]) := by
  rw [ordN, h]
  dsimp only
  cases goK st (node ns i).kids (node ns i).kids.length i 0 <;> rfl

theorem ord_none {ns : List NodeD} {i : Nat} (h : ordN ns i = none) : ∀ d, ordN ns (i + d) = none
  | 0 => h
  | d + 1 => by rw [← Nat.add_assoc, ordN, ord_none h d]

theorem ord_len {ns : List NodeD} : ∀ {i : Nat} {st : List (Nat × Nat)}, ordN ns i = some st → st.length = i
  | 0, st, h => by rw [ordN] at h; cases h; rfl
  | i + 1, st, h => by
    cases h1 : ordN ns i with
    | none => rw [ordN, h1] at h; cases h
    | some st1 =>
      rw [ord_step h1] at h
      obtain ⟨p, _, e⟩ := Option.map_eq_some_iff.1 h
      rw [← e, List.length_append, ord_len h1]; rfl

theorem ord_prev {ns : List NodeD} {i : Nat} {st : List (Nat × Nat)} (h : ordN ns (i + 1) = some st) : ordN ns i = some (st.take i) ∧ goK (st.take i) (node ns i).kids (node ns i).kids.length i 0 = some (st.getD i (0, 0)) := by
  cases h1 : ordN ns i with
  | none => rw [ordN, h1] at h; cases h
  | some st1 =>
    rw [ord_step h1] at h
    obtain ⟨p, hp, e⟩ := Option.map_eq_some_iff.1 h
    have hl := ord_len h1
    subst e
    have e1 : (st1 ++ [p]).take i = st1 := by rw [← hl]; simp
    have e2 : (st1 ++ [p]).getD i (0, 0) = p := by rw [← hl]; simp
    rw [e1, e2]
    exact ⟨rfl, hp⟩

theorem ord_take {ns : List NodeD} {i : Nat} : ∀ (d : Nat) {st : List (Nat × Nat)}, ordN ns (i + d) = some st → ordN ns i = some (st.take i)
  | 0, st, h => by have := ord_len h; rw [List.take_of_length_le (by omega)]; exact h
  | d + 1, st, h => by
    have := ord_take d (ord_prev (i := i + d) h).1
    rw [List.take_take, Nat.min_eq_left (by omega)] at this
    exact this

theorem ord_at {ns : List NodeD} {n i : Nat} {st : List (Nat × Nat)} (h : ordN ns n = some st) (hi : i < n) : goK (st.take i) (node ns i).kids (node ns i).kids.length i 0 = some (st.getD i (0, 0)) := by
  have h1 : ordN ns (i + 1) = some (st.take (i + 1)) := ord_take (n - (i + 1)) (by rw [show i + 1 + (n - (i + 1)) = n by omega]; exact h)
  have h2 := (ord_prev h1).2
  rw [List.take_take, Nat.min_eq_left (by omega)] at h2
  rw [h2]
  simp [List.getD_eq_getElem?_getD]

/-- What the kids of a node in order are. -/
theorem goK_all {st : List (Nat × Nat)} {kids : List Int} (hst : ∀ j, j < st.length → (st.getD j (0, 0)).1 ≤ j) : ∀ (k a hi : Nat) (r : Nat × Nat), a ≤ st.length → goK st kids k a hi = some r →
    r.1 ≤ a ∧ hi ≤ r.2 ∧ (∀ q, q < k → 0 ≤ kids.getD q 0 ∧ kids.getD q 0 < a) ∧
    ∀ j, r.1 ≤ j → j < a → ∃ q z, q < k ∧ kids.getD q 0 = ((z : Nat) : Int) ∧ (st.getD z (0, 0)).1 ≤ j ∧ j ≤ z ∧ z < a ∧ (st.getD z (0, 0)).2 + 1 ≤ r.2
  | 0, a, hi, r, ha, h => by
    rw [goK] at h
    cases h
    exact ⟨Nat.le_refl _, Nat.le_refl _, fun q hq => by omega, fun j h1 h2 => by have : a ≤ j := h1; omega⟩
  | k + 1, a, hi, r, ha, h => by
    rw [goK] at h
    by_cases hc : 1 ≤ a ∧ kids.getD k 0 = (a : Int) - 1
    · rw [if_pos hc] at h
      have hle := hst (a - 1) (by omega)
      obtain ⟨i1, i2, i3, i4⟩ := goK_all hst k _ _ r (by omega) h
      refine ⟨by omega, by omega, fun q hq => ?_, fun j h1 h2 => ?_⟩
      · by_cases e : q = k
        · subst e; rw [hc.2]; omega
        · have := i3 q (by omega); omega
      · by_cases hj : j < (st.getD (a - 1) (0, 0)).1
        · obtain ⟨q, z, a1, a2, a3, a4, a5, a6⟩ := i4 j h1 hj
          exact ⟨q, z, by omega, a2, a3, a4, by omega, a6⟩
        · exact ⟨k, a - 1, by omega, by rw [hc.2]; omega, by omega, by omega, by omega, by omega⟩
    · rw [if_neg hc] at h; cases h

theorem ord_le {ns : List NodeD} : ∀ (n : Nat) {st : List (Nat × Nat)}, ordN ns n = some st → ∀ j, j < n → (st.getD j (0, 0)).1 ≤ j
  | 0, st, h, j, hj => by omega
  | n + 1, st, h, j, hj => by
    have hl := ord_len h
    have hp := ord_prev h
    have ih := ord_le n hp.1
    have e : ∀ j, j < n → (st.take n).getD j (0, 0) = st.getD j (0, 0) := fun j hj => by simp [List.getD_eq_getElem?_getD, hj]
    by_cases hjn : j < n
    · rw [← e j hjn]; exact ih j hjn
    · have hjn' : j = n := by omega
      subst hjn'
      exact (goK_all (fun i hi => ih i (by simp at hi; omega)) _ _ _ _ (by simp; omega) hp.2).1

theorem ord_kids {ns : List NodeD} {n i : Nat} {st : List (Nat × Nat)} (h : ordN ns n = some st) (hi : i < n) : ∀ q, q < (node ns i).kids.length → 0 ≤ (node ns i).kids.getD q 0 ∧ (node ns i).kids.getD q 0 < i := by
  have hl := ord_len h
  have hle := ord_le n h
  exact (goK_all (st := st.take i) (fun j hj => by
    have : j < i := by simp at hj; omega
    simp [List.getD_eq_getElem?_getD, this]
    have := hle j (by omega)
    simpa [List.getD_eq_getElem?_getD] using this) _ _ _ _ (by simp; omega) (ord_at h hi)).2.2.1

/-- What lies in a node's stretch is under it. -/
theorem ord_under {ns : List NodeD} {n : Nat} {st : List (Nat × Nat)} (h : ordN ns n = some st) : ∀ (B i : Nat), i < B → i < n → ∀ j, (st.getD i (0, 0)).1 ≤ j → j < i →
    (∃ p q, p < n ∧ q < (node ns p).kids.length ∧ (node ns p).kids.getD q 0 = ((j : Nat) : Int)) ∧ (st.getD j (0, 0)).2 < (st.getD i (0, 0)).2
  | 0, i, hB, _, j, _, _ => by omega
  | B + 1, i, hB, hi, j, h1, h2 => by
    have hl := ord_len h
    have hle := ord_le n h
    have e : ∀ j, j < i → (st.take i).getD j (0, 0) = st.getD j (0, 0) := fun j hj => by simp [List.getD_eq_getElem?_getD, hj]
    obtain ⟨q, z, a1, a2, a3, a4, a5, a6⟩ := (goK_all (st := st.take i) (fun j hj => by
      have hji : j < i := by simp at hj; omega
      rw [e j hji]; exact hle j (by omega)) _ _ _ _ (by simp; omega) (ord_at h hi)).2.2.2 j h1 h2
    rw [e z a5] at a3 a6
    by_cases hz : j = z
    · subst hz
      exact ⟨⟨i, q, hi, a1, a2⟩, by omega⟩
    · obtain ⟨b1, b2⟩ := ord_under h B z (by omega) (by omega) j a3 (by omega)
      exact ⟨b1, by omega⟩

/-- A primitive of a range. -/
def primB (x : NodeD) (lo hi : Int) : Bool := decide (x.k = 11 ∧ lo ≤ x.n ∧ x.n ≤ hi)

def kidN (x : NodeD) (q : Nat) : Nat := (x.kids.getD q 0).toNat

/-- What a selection selects from. -/
def nextS (ns : List NodeD) (i : Nat) : Option Nat :=
  if (node ns i).k = 7 then some (kidN (node ns i) 0)
  else if (node ns i).k = 9 ∧ primB (node ns (kidN (node ns i) 0)) 20 23 = true then some (kidN (node ns i) 1)
  else if (node ns i).k = 10 ∧ primB (node ns (kidN (node ns i) 1)) 21 25 = true then some (kidN (node ns i) 2)
  else none

def selF (ns : List NodeD) : Nat → Nat → Bool
  | 0, _ => false
  | f + 1, i => if (node ns i).k = 3 then true else match nextS ns i with
    | none => false
    | some j => selF ns f j

def selB (ns : List NodeD) (i : Nat) : Bool := decide ((node ns i).k ≠ 3) && selF ns (i + 1) i

theorem sel_isE {ns : List NodeD} {i : Nat} (h : selB ns i = true) : isE (node ns i).k = true := by
  unfold selB at h
  rw [Bool.and_eq_true, decide_eq_true_eq] at h
  obtain ⟨h3, h⟩ := h
  rw [selF, if_neg h3] at h
  have : (node ns i).k = 7 ∨ (node ns i).k = 9 ∨ (node ns i).k = 10 := by
    unfold nextS at h
    by_cases a : (node ns i).k = 7
    · exact .inl a
    rw [if_neg a] at h
    by_cases b : (node ns i).k = 9 ∧ primB (node ns (kidN (node ns i) 0)) 20 23 = true
    · exact .inr (.inl b.1)
    rw [if_neg b] at h
    by_cases c : (node ns i).k = 10 ∧ primB (node ns (kidN (node ns i) 1)) 21 25 = true
    · exact .inr (.inr c.1)
    rw [if_neg c] at h
    cases h
  unfold isE sortK
  rw [if_pos (by omega)]
  rfl

/-- A node is right, as the specification asks it. -/
def nodeB (T : ByteArray → Bool) (ns : List NodeD) (st : List (Nat × Nat)) (i : Nat) : Bool :=
  decide (sortK (node ns i).k ≠ 0 ∧ ((node ns i).k = 25 ↔ i + 1 = ns.length)) && (kidsB (node ns i).k (kinds ns (node ns i).kids) && (fieldsS T (node ns i) && (decide ((st.getD i (0, 0)).2 ≤ 40) && (decide ((node ns i).k ≠ 23) || selB ns (kidN (node ns i) 0)))))

/-- A tree is right. -/
def treeB (T : ByteArray → Bool) (ns : List NodeD) : Bool :=
  decide (1 ≤ ns.length ∧ ns.length ≤ 600) && match ordN ns ns.length with
    | none => false
    | some st => (List.range ns.length).all (nodeB T ns st) && decide ((st.getD (ns.length - 1) (0, 0)).1 = 0)

/-- A node is right, as the developers ask it. -/
def nodeI (T : ByteArray → Bool) (ns : List NodeD) (i : Nat) : Bool := fieldsI T (node ns i) && kidsI (node ns i).k (kinds ns (node ns i).kids) (selB ns (kidN (node ns i) 0))

def orderI (ns : List NodeD) : Bool := match ordN ns ns.length with
  | none => false
  | some st => decide ((st.getD (ns.length - 1) (0, 0)).1 = 0 ∧ (st.getD (ns.length - 1) (0, 0)).2 ≤ 40)

def treeI (T : ByteArray → Bool) (ns : List NodeD) : Bool :=
  decide (1 ≤ ns.length ∧ ns.length ≤ 600) && (orderI ns && ((List.range ns.length).all (nodeI T ns) && decide ((node ns (ns.length - 1)).k = 25)))

theorem node_eq (T : ByteArray → Bool) (ns : List NodeD) (i : Nat) : nodeI T ns i = (kidsB (node ns i).k (kinds ns (node ns i).kids) && (fieldsS T (node ns i) && (decide ((node ns i).k ≠ 23) || selB ns (kidN (node ns i) 0)))) := by
  unfold nodeI
  rw [fields_eq, kids_eq (fun hs hl => ?_)]
  · cases fieldsS T (node ns i) <;> simp
  · have e : (kinds ns (node ns i).kids).getD 0 0 = (node ns (kidN (node ns i) 0)).k := by
      unfold kinds kidN
      unfold kinds at hl
      rw [List.length_map] at hl
      simp [List.getD_eq_getElem?_getD, show 0 < (node ns i).kids.length by omega]
    rw [e]
    exact sel_isE hs

theorem kind_good {x : Int} (h : isE x = true ∨ isP x = true ∨ isF x = true ∨ isB x = true ∨ isS x = true ∨ isI x = true) : sortK x ≠ 0 ∧ x ≠ 25 := by
  have h25 : sortK 25 = 6 := rfl
  have h16 : sortK 16 = 3 := rfl
  unfold isE isP isF isB isS isI at h
  simp only [decide_eq_true_eq] at h
  constructor
  · intro e
    rw [e] at h
    rcases h with h | h | h | h | h | h
    · omega
    · omega
    · omega
    · subst h; omega
    · omega
    · omega
  · intro e
    subst e
    rw [h25] at h
    omega

theorem isK_good {c : Nat} {x : Int} (h : isK c x = true) : sortK x ≠ 0 ∧ x ≠ 25 := by
  refine kind_good ?_
  unfold isK at h
  split at h
  · exact .inl h
  split at h
  · exact .inr (.inl h)
  split at h
  · exact .inr (.inr (.inl h))
  split at h
  · exact .inr (.inr (.inr (.inl h)))
  split at h
  · exact .inr (.inr (.inr (.inr (.inl h))))
  · exact .inr (.inr (.inr (.inr (.inr h))))

theorem fits_good : ∀ (cs : List Nat) (ks : List Int), fits cs ks = true → ∀ x ∈ ks, sortK x ≠ 0 ∧ x ≠ 25
  | [], [], _, x, hx => by cases hx
  | [], _ :: _, h, _, _ => by simp [fits] at h
  | _ :: _, [], h, _, _ => by simp [fits] at h
  | c :: cs, a :: r, h, x, hx => by
    rw [fits, Bool.and_eq_true] at h
    rcases List.mem_cons.1 hx with e | e
    · subst e; exact isK_good h.1
    · exact fits_good cs r h.2 x e

theorem kids_good {k : Int} {ks : List Int} (h : kidsB k ks = true) : ∀ x ∈ ks, sortK x ≠ 0 ∧ x ≠ 25 := by
  intro x hx
  unfold kidsB at h
  by_cases h7 : k = 7
  · rw [if_pos h7, Bool.and_eq_true, Bool.and_eq_true] at h
    match ks, hx, h with
    | a :: r, hx, h =>
      rcases List.mem_cons.1 hx with e | e
      · subst e; exact kind_good (.inl (by simpa using h.2.1))
      · exact kind_good (.inr (.inl (List.all_eq_true.1 h.2.2 x (by simpa using e))))
  rw [if_neg h7] at h
  by_cases h21 : k = 21
  · rw [if_pos h21, Bool.and_eq_true, Bool.and_eq_true, decide_eq_true_eq] at h
    rw [← List.take_append_drop (ks.length - 1) ks] at hx
    rcases List.mem_append.1 hx with e | e
    · exact kind_good (.inr (.inl (List.all_eq_true.1 h.2.1 x e)))
    · have := h.2.2
      rw [← drop_last_all ks isE h.1] at this
      exact kind_good (.inl (List.all_eq_true.1 this x e))
  rw [if_neg h21] at h
  by_cases h16 : k = 16
  · rw [if_pos h16] at h
    exact kind_good (.inr (.inr (.inr (.inr (.inr (List.all_eq_true.1 h x hx))))))
  rw [if_neg h16] at h
  by_cases h25 : k = 25
  · rw [if_pos h25] at h
    exact kind_good (.inr (.inr (.inr (.inr (.inl (List.all_eq_true.1 h x hx))))))
  rw [if_neg h25] at h
  exact fits_good _ _ h x hx

theorem tree_eq (T : ByteArray → Bool) (ns : List NodeD) : treeI T ns = treeB T ns := by
  unfold treeI treeB orderI
  by_cases hn : 1 ≤ ns.length ∧ ns.length ≤ 600
  case neg => rw [decide_eq_false hn]; rfl
  rw [decide_eq_true hn, Bool.true_and, Bool.true_and]
  cases h : ordN ns ns.length with
  | none => rfl
  | some st =>
    dsimp only
    rw [Bool.eq_iff_iff]
    simp only [Bool.and_eq_true, decide_eq_true_eq, List.all_eq_true, List.mem_range]
    constructor
    · rintro ⟨⟨h0, h40⟩, hall, hlast⟩
      refine ⟨fun i hi => ?_, h0⟩
      have hi' := hall i hi
      rw [node_eq] at hi'
      simp only [Bool.and_eq_true] at hi'
      unfold nodeB
      simp only [Bool.and_eq_true, decide_eq_true_eq]
      refine ⟨?_, hi'.1, hi'.2.1, ?_, hi'.2.2⟩
      · by_cases e : i + 1 = ns.length
        · have e' : ns.length - 1 = i := by omega
          rw [e'] at hlast
          rw [hlast]
          exact ⟨by decide, by simp [e]⟩
        · obtain ⟨⟨p, q, hp, hq, hk⟩, _⟩ := ord_under h ns.length (ns.length - 1) (by omega) (by omega) i (by omega) (by omega)
          have hp' := hall p hp
          rw [node_eq] at hp'
          simp only [Bool.and_eq_true] at hp'
          have hm : (node ns i).k ∈ kinds ns (node ns p).kids := by
            unfold kinds
            refine List.mem_map.2 ⟨(node ns p).kids.getD q 0, ?_, by rw [hk]; rfl⟩
            rw [List.getD_eq_getElem?_getD, List.getElem?_eq_getElem hq]
            exact List.getElem_mem hq
          have := kids_good hp'.1 _ hm
          exact ⟨this.1, fun x => absurd x this.2, fun x => absurd x e⟩
      · by_cases e : i + 1 = ns.length
        · have e' : ns.length - 1 = i := by omega
          rw [e'] at h40
          exact h40
        · have := (ord_under h ns.length (ns.length - 1) (by omega) (by omega) i (by omega) (by omega)).2
          omega
    · rintro ⟨hall, h0⟩
      have hl := hall (ns.length - 1) (by omega)
      have hl' := hl
      unfold nodeB at hl'
      simp only [Bool.and_eq_true, decide_eq_true_eq] at hl'
      refine ⟨⟨h0, hl'.2.2.2.1⟩, fun i hi => ?_, hl'.1.2.2 (by omega)⟩
      have := hall i hi
      unfold nodeB at this
      simp only [Bool.and_eq_true, decide_eq_true_eq] at this
      rw [node_eq]
      simp only [Bool.and_eq_true]
      exact ⟨this.2.1, this.2.2.1, this.2.2.2.2⟩

end Go.Proofs.YtmgjicgojlkpcaaGreatDoor
