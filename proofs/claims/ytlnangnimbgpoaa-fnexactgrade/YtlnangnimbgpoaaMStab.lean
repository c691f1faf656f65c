import Derived.WalkKit
namespace Go.Proofs.Ytlnangnimbgpoaa

/-- Place p comes ahead of place q: its key is less, or the same and the place is. -/
def bef (K : Int → Int) (p q : Int) : Prop := K p < K q ∨ (K p = K q ∧ p < q)

section
variable {K : Int → Int} {p q r : Int}
theorem bef_trans (h1 : bef K p q) (h2 : bef K q r) : bef K p r := by unfold bef at *; omega
theorem bef_irrefl : ¬ bef K p p := by unfold bef; omega
theorem bef_asymm (h1 : bef K p q) : ¬ bef K q p := by unfold bef at *; omega
theorem bef_of_le (h1 : K p ≤ K q) (h2 : p < q) : bef K p q := by unfold bef; omega
end

/-- Two lists of the same numbers that rise are one. -/
theorem rise_unique {K : Int → Int} {l1 l2 : List Int} (h1 : l1.Pairwise (bef K)) (h2 : l2.Pairwise (bef K)) (hp : l1.Perm l2) : l1 = l2 := by
  induction l1 generalizing l2 with
  | nil => exact (List.nil_perm.1 hp).symm
  | cons x t ih =>
    cases l2 with
    | nil => exact absurd (List.perm_nil.1 hp) (by simp)
    | cons y u =>
      rw [List.pairwise_cons] at h1 h2
      have hx : x ∈ y :: u := hp.subset (by simp)
      have hy : y ∈ x :: t := hp.symm.subset (by simp)
      have e : x = y := by
        rcases List.mem_cons.1 hx with h | h
        · exact h
        · rcases List.mem_cons.1 hy with h' | h'
          · exact h'.symm
          · exact absurd (h2.1 x h) (bef_asymm (h1.1 y h'))
      subst e
      rw [ih h1.2 h2.2 (List.Perm.cons_inv hp)]

/-- What D says from a on, below b. -/
def seg (D : Nat → Int) (a b : Nat) : List Int := (List.range' a (b - a)).map D

section
variable {K : Int → Int} {D E : Nat → Int} {a m b : Nat}

theorem seg_split (h1 : a ≤ m) (h2 : m ≤ b) : seg D a b = seg D a m ++ seg D m b := by
  unfold seg
  rw [← List.map_append]
  congr 1
  have e : b - a = (m - a) + (b - m) := by omega
  rw [e, ← List.range'_append]
  congr 2
  omega

theorem seg_mem {x : Int} : x ∈ seg D a b ↔ ∃ i, a ≤ i ∧ i < b ∧ D i = x := by
  unfold seg
  rw [List.mem_map]
  constructor
  · rintro ⟨i, hi, e⟩
    have := List.mem_range'.1 hi
    obtain ⟨j, hj, rfl⟩ := this
    exact ⟨_, by omega, by omega, e⟩
  · rintro ⟨i, h1, h2, e⟩
    refine ⟨i, ?_, e⟩
    rw [List.mem_range']
    exact ⟨i - a, by omega, by omega⟩

theorem seg_congr (h : ∀ i, a ≤ i → i < b → D i = E i) : seg D a b = seg E a b := by
  unfold seg
  refine List.map_congr_left fun i hi => ?_
  obtain ⟨j, hj, rfl⟩ := List.mem_range'.1 hi
  exact h _ (by omega) (by omega)

theorem seg_none (h : b ≤ a) : seg D a b = [] := by
  unfold seg
  rw [show b - a = 0 by omega]
  rfl

theorem seg_one : seg D a (a + 1) = [D a] := by
  unfold seg
  rw [show a + 1 - a = 1 by omega]
  rfl

/-- From a on, below b, D rises. -/
def Rise (K : Int → Int) (D : Nat → Int) (a b : Nat) : Prop := ∀ i j, a ≤ i → i < j → j < b → bef K (D i) (D j)

theorem Rise.pairwise (h : Rise K D a b) : (seg D a b).Pairwise (bef K) := by
  unfold seg
  rw [List.pairwise_map]
  have key : ∀ n s, (∀ i j, s ≤ i → i < j → j < s + n → bef K (D i) (D j)) → (List.range' s n).Pairwise (fun i j => bef K (D i) (D j)) := by
    intro n
    induction n with
    | zero => intro s _; simp
    | succ n ih =>
      intro s hs
      rw [List.range'_succ, List.pairwise_cons]
      refine ⟨fun j hj => ?_, ih (s + 1) (fun i j h1 h2 h3 => hs i j (by omega) h2 (by omega))⟩
      obtain ⟨t, ht, rfl⟩ := List.mem_range'.1 hj
      exact hs s _ (Nat.le_refl _) (by omega) (by omega)
  exact key _ _ (fun i j h1 h2 h3 => h i j h1 h2 (by omega))

theorem Rise.sub {a' b' : Nat} (h : Rise K D a b) (h1 : a ≤ a') (h2 : b' ≤ b) : Rise K D a' b' := fun i j h3 h4 h5 => h i j (by omega) h4 (by omega)

/-- D with the numbers of [a, m) and those of [m, b) changed about. -/
def rot (D : Nat → Int) (a m b : Nat) : Nat → Int := fun x => if a ≤ x ∧ x < b then (if x < a + (b - m) then D (x + (m - a)) else D (x - (b - m))) else D x

theorem rot_out (x : Nat) (h : x < a ∨ b ≤ x) : rot D a m b x = D x := by unfold rot; rw [if_neg (by omega)]
theorem rot_low {x : Nat} (h1 : a ≤ x) (h2 : x < a + (b - m)) (hm : a ≤ m) (hb : m ≤ b) : rot D a m b x = D (x + (m - a)) := by unfold rot; rw [if_pos (by omega), if_pos h2]
theorem rot_high {x : Nat} (h1 : a + (b - m) ≤ x) (h2 : x < b) : rot D a m b x = D (x - (b - m)) := by unfold rot; rw [if_pos (by omega), if_neg (by omega)]

theorem seg_shift (k : Nat) : seg (fun x => D (x + k)) a b = seg D (a + k) (b + k) := by
  unfold seg
  have e : b + k - (a + k) = b - a := by omega
  rw [e]
  have key : ∀ n s, (List.range' s n).map (fun x => D (x + k)) = (List.range' (s + k) n).map D := by
    intro n
    induction n with
    | zero => intro s; rfl
    | succ n ih => intro s; rw [List.range'_succ, List.range'_succ, List.map_cons, List.map_cons, ih (s + 1), show s + 1 + k = s + k + 1 by omega]
  exact key _ _

theorem rot_seg_low (h1 : a ≤ m) (h2 : m ≤ b) : seg (rot D a m b) a (a + (b - m)) = seg D m b := by
  have e : seg (rot D a m b) a (a + (b - m)) = seg (fun x => D (x + (m - a))) a (a + (b - m)) := seg_congr fun i h3 h4 => rot_low h3 h4 h1 h2
  rw [e, seg_shift]
  congr 1 <;> omega

theorem rot_seg_high (h2 : m ≤ b) : seg (rot D a m b) (a + (b - m)) b = seg D a m := by
  have e : seg D a m = seg (fun x => D (x - (b - m))) (a + (b - m)) b := by
    have := seg_shift (D := fun x => D (x - (b - m))) (a := a) (b := m) (b - m)
    rw [show m + (b - m) = b by omega] at this
    rw [← this]
    exact seg_congr fun i _ _ => by rw [Nat.add_sub_cancel]
  rw [e]
  exact seg_congr fun i h3 h4 => rot_high h3 h4

theorem rot_perm (h1 : a ≤ m) (h2 : m ≤ b) : (seg (rot D a m b) a b).Perm (seg D a b) := by
  rw [seg_split (m := a + (b - m)) (by omega) (by omega), rot_seg_low h1 h2, rot_seg_high h2, seg_split h1 h2]
  exact List.perm_append_comm

/-- D' is D with the numbers of [a, b) in order. -/
structure Merged (K : Int → Int) (D D' : Nat → Int) (a b : Nat) : Prop where
  perm : (seg D' a b).Perm (seg D a b)
  rise : Rise K D' a b
  out : ∀ i, (i < a ∨ b ≤ i) → D' i = D i

theorem perm_all {P : Int → Prop} (h : (seg E a b).Perm (seg D a b)) (hp : ∀ i, a ≤ i → i < b → P (D i)) : ∀ i, a ≤ i → i < b → P (E i) := fun i h1 h2 => by
  have : E i ∈ seg D a b := h.subset (seg_mem.2 ⟨i, h1, h2, rfl⟩)
  obtain ⟨j, h3, h4, e⟩ := seg_mem.1 this
  rw [← e]
  exact hp j h3 h4

theorem Merged.refl (h : Rise K D a b) : Merged K D D a b := ⟨List.Perm.refl _, h, fun _ _ => rfl⟩

/-- Each place of [a, m) is less than each of [m, b). -/
def Low (D : Nat → Int) (a m b : Nat) : Prop := ∀ i j, a ≤ i → i < m → m ≤ j → j < b → D i < D j

/-- Where a merge is cut: so many from the left, and from the right. -/
structure Cut (K : Int → Int) (D : Nat → Int) (a s m e b : Nat) : Prop where
  as : a ≤ s
  sm : s ≤ m
  me : m ≤ e
  eb : e ≤ b
  l : Rise K D a m
  r : Rise K D m b
  low : Low D a m b
  c1 : s = a ∨ e = b ∨ K (D (s - 1)) ≤ K (D e)
  c2 : e = m ∨ s = m ∨ K (D (e - 1)) < K (D s)

theorem Rise.key (h : Rise K D a b) {i j : Nat} (h1 : a ≤ i) (h2 : i ≤ j) (h3 : j < b) : K (D i) ≤ K (D j) := by
  rcases Nat.lt_or_ge i j with h4 | h4
  · have := h i j h1 h4 h3; unfold bef at this; omega
  · rw [show i = j by omega]; omega

theorem Rise.join (h1 : Rise K D a m) (h2 : Rise K D m b) (h3 : ∀ i j, a ≤ i → i < m → m ≤ j → j < b → bef K (D i) (D j)) : Rise K D a b := fun i j hi hij hj => by
  rcases Nat.lt_or_ge j m with h | h
  · exact h1 i j hi hij h
  · rcases Nat.lt_or_ge i m with h' | h'
    · exact h3 i j hi h' h hj
    · exact h2 i j h' hij hj

theorem Cut.e1 {s e i : Nat} (_h : Cut K D a s m e b) (_h1 : a ≤ i) (h2 : i < s) : rot D s m e i = D i := rot_out _ (by omega)
theorem Cut.e3 {s e i : Nat} (_h : Cut K D a s m e b) (h1 : s + (e - m) ≤ i) (h2 : i < e) : rot D s m e i = D (i - (e - m)) := rot_high h1 h2
theorem Cut.e4 {s e i : Nat} (_h : Cut K D a s m e b) (h1 : e ≤ i) : rot D s m e i = D i := rot_out _ (by omega)


theorem Cut.e2 {s e i : Nat} (h : Cut K D a s m e b) (h1 : s ≤ i) (h2 : i < s + (e - m)) : rot D s m e i = D (i + (m - s)) := rot_low h1 h2 h.sm h.me

theorem Cut.left {s e : Nat} (h : Cut K D a s m e b) : Rise K (rot D s m e) a s ∧ Rise K (rot D s m e) s (s + (e - m)) ∧ Low (rot D s m e) a s (s + (e - m)) := by
  have h1 := h.as
  have h2 := h.sm
  have h3 := h.me
  have h4 := h.eb
  refine ⟨fun i j hi hij hj => ?_, fun i j hi hij hj => ?_, fun i j hi hi2 hj hj2 => ?_⟩
  · rw [h.e1 hi (by omega), h.e1 (by omega) hj]
    exact h.l i j hi hij (by omega)
  · rw [h.e2 hi (by omega), h.e2 (by omega) hj]
    exact h.r _ _ (by omega) (by omega) (by omega)
  · rw [h.e1 hi hi2, h.e2 hj hj2]
    exact h.low _ _ hi (by omega) (by omega) (by omega)

theorem Cut.right {s e : Nat} (h : Cut K D a s m e b) : Rise K (rot D s m e) (s + (e - m)) e ∧ Rise K (rot D s m e) e b ∧ Low (rot D s m e) (s + (e - m)) e b := by
  have h1 := h.as
  have h2 := h.sm
  have h3 := h.me
  have h4 := h.eb
  refine ⟨fun i j hi hij hj => ?_, fun i j hi hij hj => ?_, fun i j hi hi2 hj hj2 => ?_⟩
  · rw [h.e3 hi (by omega), h.e3 (by omega) hj]
    exact h.l _ _ (by omega) (by omega) (by omega)
  · rw [h.e4 hi, h.e4 (by omega)]
    exact h.r i j (by omega) hij hj
  · rw [h.e3 hi hi2, h.e4 hj]
    exact h.low _ _ (by omega) (by omega) (by omega) hj2

/-- All of the first half come ahead of all of the second. -/
theorem Cut.cross {s e i j : Nat} (h : Cut K D a s m e b) (h1 : a ≤ i) (h2 : i < s + (e - m)) (h3 : s + (e - m) ≤ j) (h4 : j < b) : bef K (rot D s m e i) (rot D s m e j) := by
  have k1 := h.as
  have k2 := h.sm
  have k3 := h.me
  have k4 := h.eb
  rcases Nat.lt_or_ge i s with hi | hi
  · rw [h.e1 h1 hi]
    rcases Nat.lt_or_ge j e with hj | hj
    · rw [h.e3 h3 hj]
      exact h.l _ _ h1 (by omega) (by omega)
    · rw [h.e4 hj]
      refine bef_of_le ?_ (h.low _ _ h1 (by omega) (by omega) h4)
      have q1 := h.l.key (i := i) (j := s - 1) h1 (by omega) (by omega)
      have q2 := h.r.key (i := e) (j := j) k3 hj h4
      rcases h.c1 with c | c | c <;> omega
  · rw [h.e2 hi h2]
    rcases Nat.lt_or_ge j e with hj | hj
    · rw [h.e3 h3 hj]
      left
      have q1 := h.r.key (i := i + (m - s)) (j := e - 1) (by omega) (by omega) (by omega)
      have q2 := h.l.key (i := s) (j := j - (e - m)) k1 (by omega) (by omega)
      rcases h.c2 with c | c | c <;> omega
    · rw [h.e4 hj]
      exact h.r _ _ (by omega) (by omega) h4

/-- The halves put in order, one behind the other. -/
theorem Cut.merged {s e : Nat} (h : Cut K D a s m e b) {E1 E2 : Nat → Int} (m1 : Merged K (rot D s m e) E1 a (s + (e - m))) (m2 : Merged K E1 E2 (s + (e - m)) b) : Merged K D E2 a b := by
  have k1 := h.as
  have k2 := h.sm
  have k3 := h.me
  have k4 := h.eb
  have hE1h : ∀ i, s + (e - m) ≤ i → E1 i = rot D s m e i := fun i hi => m1.out i (by omega)
  have hE2l : ∀ i, i < s + (e - m) → E2 i = E1 i := fun i hi => m2.out i (by omega)
  have p2 : (seg E2 (s + (e - m)) b).Perm (seg (rot D s m e) (s + (e - m)) b) := by
    rw [← seg_congr (D := E1) (E := rot D s m e) (fun i h1 _ => hE1h i h1)]
    exact m2.perm
  have s1 : seg E2 a (s + (e - m)) = seg E1 a (s + (e - m)) := seg_congr fun i _ h2 => hE2l i h2
  have hr : (seg (rot D s m e) a b).Perm (seg D a b) := by
    rw [seg_split (m := s) k1 (by omega), seg_split (a := s) (m := e) (by omega) k4, seg_split (D := D) (m := s) k1 (by omega), seg_split (D := D) (a := s) (m := e) (by omega) k4]
    rw [seg_congr (D := rot D s m e) (E := D) (a := a) (b := s) (fun i h1 h2 => h.e1 h1 h2), seg_congr (D := rot D s m e) (E := D) (a := e) (b := b) (fun i h1 _ => h.e4 h1)]
    exact List.Perm.append_left _ (List.Perm.append_right _ (rot_perm k2 k3))
  refine ⟨?_, fun i j hi hij hj => ?_, fun i hi => ?_⟩
  · refine List.Perm.trans ?_ hr
    rw [seg_split (m := s + (e - m)) (by omega) (by omega), seg_split (D := rot D s m e) (m := s + (e - m)) (by omega) (by omega), s1]
    exact List.Perm.append m1.perm p2
  · rcases Nat.lt_or_ge j (s + (e - m)) with h1 | h1
    · rw [hE2l i (by omega), hE2l j h1]
      exact m1.rise i j hi hij h1
    · rcases Nat.lt_or_ge i (s + (e - m)) with h2 | h2
      · rw [hE2l i h2]
        refine perm_all (P := fun y => bef K (E1 i) y) p2 (fun t ht1 ht2 => ?_) j h1 hj
        exact perm_all (P := fun x => bef K x (rot D s m e t)) m1.perm (fun u hu1 hu2 => h.cross hu1 hu2 ht1 ht2) i hi h2
      · exact m2.rise i j h2 hij hj
  · rw [m2.out i (by omega), m1.out i (by omega)]
    exact rot_out _ (by omega)

/-- The first number brought to its place among those behind it. -/
theorem ins_left {e : Nat} (hae : a + 1 ≤ e) (heb : e ≤ b) (hr : Rise K D (a + 1) b) (hlow : Low D a (a + 1) b) (hc2 : e = a + 1 ∨ K (D (e - 1)) < K (D a)) (hc1 : e = b ∨ K (D a) ≤ K (D e)) : Merged K D (rot D a (a + 1) e) a b := by
  have h : Cut K D a a (a + 1) e b := ⟨Nat.le_refl _, by omega, hae, heb, fun i j h1 h2 h3 => by omega, hr, hlow, .inl rfl, by rcases hc2 with c | c; exact .inl c; exact .inr (.inr c)⟩
  refine h.merged (Merged.refl h.left.2.1) (Merged.refl (h.right.1.join h.right.2.1 fun i j h1 h2 h3 h4 => ?_))
  rw [h.e3 h1 h2, h.e4 h3]
  have ei : i - (e - (a + 1)) = a := by omega
  rw [ei]
  refine bef_of_le ?_ (hlow _ _ (Nat.le_refl _) (by omega) (by omega) h4)
  have := hr.key (i := e) (j := j) (by omega) h3 h4
  rcases hc1 with c | c <;> omega

/-- The last number brought to its place among those ahead of it. -/
theorem ins_right {s : Nat} (has : a ≤ s) (hsm : s ≤ m) (hl : Rise K D a m) (hlow : Low D a m (m + 1)) (hc2 : s = m ∨ K (D m) < K (D s)) (hc1 : s = a ∨ K (D (s - 1)) ≤ K (D m)) : Merged K D (rot D s m (m + 1)) a (m + 1) := by
  have h : Cut K D a s m (m + 1) (m + 1) := ⟨has, hsm, by omega, Nat.le_refl _, hl, fun i j h1 h2 h3 => by omega, hlow, .inr (.inl rfl), by rcases hc2 with c | c; exact .inr (.inl c); exact .inr (.inr (by simpa using c))⟩
  refine h.merged (Merged.refl (h.left.1.join h.left.2.1 fun i j h1 h2 h3 h4 => ?_)) (Merged.refl h.right.1)
  rw [h.e1 h1 h2, h.e2 h3 h4]
  have ej : j + (m - s) = m := by omega
  rw [ej]
  refine bef_of_le ?_ (hlow _ _ h1 (by omega) (Nat.le_refl _) (by omega))
  have := hl.key (i := i) (j := s - 1) h1 (by omega) (by omega)
  rcases hc1 with c | c <;> omega

/-- D with two numbers changed about. -/
def swap2 (D : Nat → Int) (x y : Nat) : Nat → Int := fun z => if z = x then D y else if z = y then D x else D z

theorem rot_self (D : Nat → Int) (a b : Nat) : rot D a a b = D := by
  funext x
  unfold rot
  by_cases h : a ≤ x ∧ x < b
  · rw [if_pos h, if_pos (by omega)]; congr 1; omega
  · rw [if_neg h]

theorem rot_self2 (D : Nat → Int) (a b : Nat) : rot D a b b = D := by
  funext x
  unfold rot
  by_cases h : a ≤ x ∧ x < b
  · rw [if_pos h, if_neg (by omega)]; congr 1; omega
  · rw [if_neg h]

/-- The first number goes one place on. -/
theorem swap_on (D : Nat → Int) {a k : Nat} (h : a ≤ k) : swap2 (rot D a (a + 1) (k + 1)) k (k + 1) = rot D a (a + 1) (k + 2) := by
  funext x
  unfold swap2
  by_cases h1 : x = k
  · subst h1
    rw [if_pos rfl, rot_out _ (by omega), rot_low h (by omega) (by omega) (by omega)]
    congr 1
    omega
  · rw [if_neg h1]
    by_cases h2 : x = k + 1
    · subst h2
      rw [if_pos rfl, rot_high (x := k) (by omega) (by omega), rot_high (x := k + 1) (by omega) (by omega)]
      congr 1
      omega
    · rw [if_neg h2]
      by_cases h3 : a ≤ x ∧ x < k
      · rw [rot_low h3.1 (by omega) (by omega) (by omega), rot_low h3.1 (by omega) (by omega) (by omega)]
      · rw [rot_out _ (by omega), rot_out _ (by omega)]

/-- The last number goes one place back. -/
theorem swap_back (D : Nat → Int) {m k : Nat} (h : k + 1 ≤ m) : swap2 (rot D (k + 1) m (m + 1)) (k + 1) k = rot D k m (m + 1) := by
  funext x
  unfold swap2
  by_cases h1 : x = k + 1
  · subst h1
    rw [if_pos rfl, rot_out _ (by omega), rot_high (x := k + 1) (by omega) (by omega)]
    congr 1
    omega
  · rw [if_neg h1]
    by_cases h2 : x = k
    · subst h2
      rw [if_pos rfl, rot_low (x := x + 1) (Nat.le_refl _) (by omega) h (by omega), rot_low (Nat.le_refl _) (by omega) (by omega) (by omega)]
      congr 1
      omega
    · rw [if_neg h2]
      by_cases h3 : k + 1 ≤ x ∧ x < m + 1
      · rw [rot_high (by omega) h3.2, rot_high (by omega) h3.2]
      · rw [rot_out _ (by omega), rot_out _ (by omega)]

/-- D with n numbers from x on and n from y on changed about. -/
def swapR (D : Nat → Int) (x y n : Nat) : Nat → Int := fun z => if x ≤ z ∧ z < x + n then D (y + (z - x)) else if y ≤ z ∧ z < y + n then D (x + (z - y)) else D z

theorem swapR_zero (D : Nat → Int) (x y : Nat) : swapR D x y 0 = D := by
  funext z
  unfold swapR
  rw [if_neg (by omega), if_neg (by omega)]

theorem swapR_step (D : Nat → Int) {x y n : Nat} (h : x + n < y) : swap2 (swapR D x y n) (x + n) (y + n) = swapR D x y (n + 1) := by
  funext z
  unfold swap2 swapR
  repeat' split
  all_goals first
    | rfl
    | (congr 1; omega)

theorem rot_more (D : Nat → Int) {m i j : Nat} (h : j < i) (him : i ≤ m) : rot (swapR D (m - i) m j) (m - (i - j)) m (m + j) = rot D (m - i) m (m + j) := by
  funext x
  unfold rot swapR
  repeat' split
  all_goals first
    | rfl
    | (congr 1; omega)

theorem rot_less (D : Nat → Int) {m i j : Nat} (h : i < j) (him : i ≤ m) : rot (swapR D (m - i) (m + j - i) i) (m - i) m (m + (j - i)) = rot D (m - i) m (m + j) := by
  funext x
  unfold rot swapR
  repeat' split
  all_goals first
    | rfl
    | (congr 1; omega)

theorem rot_even (D : Nat → Int) {m i : Nat} (him : i ≤ m) : swapR D (m - i) m i = rot D (m - i) m (m + i) := by
  funext x
  unfold rot swapR
  repeat' split
  all_goals first
    | rfl
    | (congr 1; omega)

theorem Merged.grow {E' : Nat → Int} (h1 : Merged K D E a m) (h2 : Merged K E E' a (m + 1)) (ham : a ≤ m) : Merged K D E' a (m + 1) := by
  refine ⟨h2.perm.trans ?_, h2.rise, fun i hi => (h2.out i hi).trans (h1.out i (by omega))⟩
  rw [seg_split (m := m) ham (by omega), seg_split (D := D) (m := m) ham (by omega), seg_congr (D := E) (E := D) (a := m) (b := m + 1) (fun i h _ => h1.out i (by omega))]
  exact List.Perm.append_right _ h1.perm

theorem Merged.all {P : Int → Prop} {n : Nat} (h : Merged K D E a b) (hp : ∀ i, i < n → P (D i)) (hb : b ≤ n) : ∀ i, i < n → P (E i) := fun i hi => by
  by_cases hx : a ≤ i ∧ i < b
  · exact perm_all h.perm (fun j _ h2 => hp j (by omega)) i hx.1 hx.2
  · rw [h.out i (by omega)]; exact hp i hi

end

end Go.Proofs.Ytlnangnimbgpoaa
namespace Go.Proofs.Ytlnangnimbgpoaa

/-- E holds D's numbers of [a, b), in order. -/
structure Srt (K : Int → Int) (D E : Nat → Int) (a b : Nat) : Prop where
  perm : (seg E a b).Perm (seg D a b)
  rise : Rise K E a b

/-- D rises below n. -/
def Up (D : Nat → Int) (n : Nat) : Prop := ∀ i j, i < j → j < n → D i < D j

/-- The blocks of bs numbers that begin from lo on, below hi, are in order, each by itself. -/
def Blocks (K : Int → Int) (D E : Nat → Int) (n bs lo hi : Nat) : Prop := ∀ k, lo ≤ k * bs → k * bs < hi → Srt K D E (k * bs) (min (k * bs + bs) n)

section
variable {K : Int → Int} {D E E' : Nat → Int} {a m b n bs k : Nat}

theorem Srt.low (h0 : Up D n) (h1 : Srt K D E a m) (h2 : Srt K D E m b) (hb : b ≤ n) : Low E a m b := fun i j h3 h4 h5 h6 => by
  refine perm_all (P := fun y => E i < y) h2.perm (fun t ht1 ht2 => ?_) j h5 h6
  exact perm_all (P := fun x => x < D t) h1.perm (fun u hu1 hu2 => h0 u t (by omega) (by omega)) i h3 h4

theorem Srt.merge (h1 : Srt K D E a m) (h2 : Srt K D E m b) (ham : a ≤ m) (hmb : m ≤ b) (hm : Merged K E E' a b) : Srt K D E' a b := by
  refine ⟨hm.perm.trans ?_, hm.rise⟩
  rw [seg_split ham hmb, seg_split (D := D) ham hmb]
  exact List.Perm.append h1.perm h2.perm

theorem Srt.keep (h : Srt K D E a b) (he : ∀ i, a ≤ i → i < b → E' i = E i) : Srt K D E' a b := by
  refine ⟨by rw [seg_congr he]; exact h.perm, fun i j h1 h2 h3 => ?_⟩
  rw [he i h1 (by omega), he j (by omega) h3]
  exact h.rise i j h1 h2 h3

theorem Srt.of_merged (hm : Merged K E E' a b) (he : ∀ i, a ≤ i → i < b → E i = D i) : Srt K D E' a b := ⟨by rw [← seg_congr he]; exact hm.perm, hm.rise⟩

theorem Srt.none (h : b ≤ a + 1) (he : ∀ i, a ≤ i → i < b → E i = D i) : Srt K D E a b := ⟨by rw [seg_congr he], fun i j h1 h2 h3 => by omega⟩

theorem mul_near {x y : Nat} (h : x * bs < y * bs + bs) : x < y ∨ x = y := by
  have : x * bs < (y + 1) * bs := by rw [Nat.add_mul, Nat.one_mul]; exact h
  have := Nat.lt_of_mul_lt_mul_right this
  omega

theorem mul_step {x y : Nat} (h : x < y) : x * bs + bs ≤ y * bs := by
  have : (x + 1) * bs ≤ y * bs := Nat.mul_le_mul_right bs h
  rwa [Nat.add_mul, Nat.one_mul] at this

theorem Blocks.start : Blocks K D D n bs 0 0 := fun k _ h => absurd h (by omega)

theorem Blocks.insert (h : Blocks K D E n bs 0 (k * bs)) (hb : 0 < bs) (he : ∀ i, k * bs ≤ i → E i = D i) (hm : Merged K E E' (k * bs) (min (k * bs + bs) n)) : Blocks K D E' n bs 0 (k * bs + bs) := fun x _ hx => by
  rcases mul_near hx with h1 | h1
  · have h2 := mul_step (bs := bs) h1
    exact (h x (by omega) (by omega)).keep fun i h3 h4 => hm.out i (by omega)
  · subst h1
    exact Srt.of_merged hm fun i h3 _ => he i h3

theorem Blocks.less {hi hi' : Nat} (h : Blocks K D E n bs a hi) (hh : hi' ≤ hi) : Blocks K D E n bs a hi' := fun x h1 h2 => h x h1 (by omega)

theorem Blocks.pair (h : Blocks K D E n bs (k * (2 * bs)) n) (hb : 0 < bs) (hn : k * (2 * bs) + bs < n) : Srt K D E (k * (2 * bs)) (k * (2 * bs) + bs) ∧ Srt K D E (k * (2 * bs) + bs) (min (k * (2 * bs) + 2 * bs) n) := by
  have e1 : (2 * k) * bs = k * (2 * bs) := by rw [Nat.mul_comm 2 k, Nat.mul_assoc]
  have e2 : (2 * k + 1) * bs = k * (2 * bs) + bs := by rw [Nat.add_mul, Nat.one_mul, e1]
  have h1 := h (2 * k) (by omega) (by omega)
  have h2 := h (2 * k + 1) (by omega) (by omega)
  rw [e1, show min (k * (2 * bs) + bs) n = k * (2 * bs) + bs by omega] at h1
  rw [e2, show k * (2 * bs) + bs + bs = k * (2 * bs) + 2 * bs by omega] at h2
  exact ⟨h1, h2⟩

/-- Two blocks made one. -/
theorem Blocks.merge (h1 : Blocks K D E n (2 * bs) 0 (k * (2 * bs))) (h2 : Blocks K D E n bs (k * (2 * bs)) n) (hb : 0 < bs) (hn : k * (2 * bs) + bs < n) (hm : Merged K E E' (k * (2 * bs)) (min (k * (2 * bs) + 2 * bs) n)) : Blocks K D E' n (2 * bs) 0 (k * (2 * bs) + 2 * bs) ∧ Blocks K D E' n bs (k * (2 * bs) + 2 * bs) n := by
  have hp := h2.pair hb hn
  refine ⟨fun x _ hx => ?_, fun x hx1 hx2 => ?_⟩
  · rcases mul_near (bs := 2 * bs) hx with h3 | h3
    · have h4 := mul_step (bs := 2 * bs) h3
      exact (h1 x (by omega) (by omega)).keep fun i h3 h4 => hm.out i (by omega)
    · subst h3
      exact hp.1.merge hp.2 (by omega) (by omega) hm
  · exact (h2 x (by omega) hx2).keep fun i h3 h4 => hm.out i (by omega)

/-- A last block that has no other behind it. -/
theorem Blocks.rest (h1 : Blocks K D E n (2 * bs) 0 (k * (2 * bs))) (h2 : Blocks K D E n bs (k * (2 * bs)) n) (hb : 0 < bs) (hn : n ≤ k * (2 * bs) + bs) : Blocks K D E n (2 * bs) 0 n := fun x _ hx => by
  rcases mul_near (bs := 2 * bs) (x := x) (y := k) (by omega) with h3 | h3
  · have h4 := mul_step (bs := 2 * bs) h3
    exact h1 x (by omega) (by omega)
  · subst h3
    have e1 : (2 * x) * bs = x * (2 * bs) := by rw [Nat.mul_comm 2 x, Nat.mul_assoc]
    have h4 := h2 (2 * x) (by omega) (by omega)
    rw [e1, show min (x * (2 * bs) + bs) n = n by omega] at h4
    rw [show min (x * (2 * bs) + 2 * bs) n = n by omega]
    exact h4

theorem Blocks.whole (h : Blocks K D E n bs 0 n) (hn : n ≤ bs) (h0 : ∀ i, n ≤ i → E i = D i) : Merged K D E 0 n := by
  by_cases hz : n = 0
  · subst hz
    exact ⟨by rw [seg_none (Nat.le_refl _), seg_none (Nat.le_refl _)], fun i j _ _ h3 => by omega, fun i hi => h0 i (by omega)⟩
  · have h1 := h 0 (by omega) (by omega)
    rw [Nat.zero_mul, show min (0 + bs) n = n by omega] at h1
    exact ⟨h1.perm, h1.rise, fun i hi => h0 i (by omega)⟩

/-- The first pass has come up to x. -/
structure St1 (K : Int → Int) (D : Nat → Int) (P : Int → Prop) (n : Nat) (E : Nat → Int) (x : Nat) : Prop where
  at_ : ∃ k, x = k * 20 ∧ Blocks K D E n 20 0 (k * 20)
  out : ∀ i, x ≤ i → E i = D i
  all : ∀ i, i < n → P (E i)

/-- All blocks of bs are in order. -/
structure St2 (K : Int → Int) (D : Nat → Int) (P : Int → Prop) (n : Nat) (E : Nat → Int) (bs : Nat) : Prop where
  blk : Blocks K D E n bs 0 n
  out : ∀ i, n ≤ i → E i = D i
  all : ∀ i, i < n → P (E i)

/-- Below x all blocks of two bs are, from x on those of bs. -/
structure St3 (K : Int → Int) (D : Nat → Int) (P : Int → Prop) (n : Nat) (E : Nat → Int) (bs x : Nat) : Prop where
  at_ : ∃ k, x = k * (2 * bs) ∧ Blocks K D E n (2 * bs) 0 (k * (2 * bs)) ∧ Blocks K D E n bs (k * (2 * bs)) n
  out : ∀ i, n ≤ i → E i = D i
  all : ∀ i, i < n → P (E i)

section
variable {P : Int → Prop} {x : Nat}

theorem St1.start (hp : ∀ i, i < n → P (D i)) : St1 K D P n D 0 := ⟨⟨0, rfl, fun k _ h => absurd h (by omega)⟩, fun _ _ => rfl, hp⟩

theorem St1.step (h : St1 K D P n E x) (hx : x + 20 ≤ n) (hm : Merged K E E' x (x + 20)) : St1 K D P n E' (x + 20) := by
  obtain ⟨k, e, hb⟩ := h.at_
  refine ⟨⟨k + 1, by omega, ?_⟩, fun i hi => ?_, hm.all h.all hx⟩
  · have := hb.insert (E' := E') (by omega) (fun i hi => h.out i (by omega)) (by rw [← e, show min (x + 20) n = x + 20 by omega]; exact hm)
    rwa [show (k + 1) * 20 = k * 20 + 20 by omega]
  · rw [hm.out i (by omega)]; exact h.out i (by omega)

theorem St1.last (h : St1 K D P n E x) (hx1 : x ≤ n) (hx : n < x + 20) (hm : Merged K E E' x n) : St2 K D P n E' 20 := by
  obtain ⟨k, e, hb⟩ := h.at_
  refine ⟨?_, fun i hi => ?_, hm.all h.all (Nat.le_refl _)⟩
  · have := hb.insert (E' := E') (by omega) (fun i hi => h.out i (by omega)) (by rw [← e, show min (x + 20) n = n by omega]; exact hm)
    exact this.less (by omega)
  · rw [hm.out i (by omega)]; exact h.out i (by omega)

theorem St2.whole (h : St2 K D P n E bs) (hn : n ≤ bs) : Merged K D E 0 n := h.blk.whole hn h.out

theorem St2.start (h : St2 K D P n E bs) : St3 K D P n E bs 0 := ⟨⟨0, by omega, fun k _ h => absurd h (by omega), by rw [Nat.zero_mul]; exact h.blk⟩, h.out, h.all⟩

theorem St3.pair (h : St3 K D P n E bs x) (hu : Up D n) (hb : 0 < bs) (hx : x + bs < n) : Rise K E x (x + bs) ∧ Rise K E (x + bs) (min (x + 2 * bs) n) ∧ Low E x (x + bs) (min (x + 2 * bs) n) := by
  obtain ⟨k, e, h1, h2⟩ := h.at_
  subst e
  obtain ⟨p1, p2⟩ := h2.pair hb hx
  exact ⟨p1.rise, p2.rise, p1.low hu p2 (by omega)⟩

theorem St3.step (h : St3 K D P n E bs x) (hb : 0 < bs) (hx : x + 2 * bs ≤ n) (hm : Merged K E E' x (x + 2 * bs)) : St3 K D P n E' bs (x + 2 * bs) := by
  obtain ⟨k, e, h1, h2⟩ := h.at_
  refine ⟨⟨k + 1, by rw [Nat.add_mul]; omega, ?_⟩, fun i hi => ?_, hm.all h.all hx⟩
  · have := h1.merge (E' := E') h2 hb (by omega) (by rw [← e, show min (x + 2 * bs) n = x + 2 * bs by omega]; exact hm)
    rwa [show (k + 1) * (2 * bs) = k * (2 * bs) + 2 * bs by rw [Nat.add_mul]; omega]
  · rw [hm.out i (by omega)]; exact h.out i hi

theorem St3.last (h : St3 K D P n E bs x) (hb : 0 < bs) (hx1 : x + bs < n) (hx : n < x + 2 * bs) (hm : Merged K E E' x n) : St2 K D P n E' (2 * bs) := by
  obtain ⟨k, e, h1, h2⟩ := h.at_
  refine ⟨?_, fun i hi => ?_, hm.all h.all (Nat.le_refl _)⟩
  · have := h1.merge (E' := E') h2 hb (by omega) (by rw [← e, show min (x + 2 * bs) n = n by omega]; exact hm)
    exact this.1.less (by omega)
  · rw [hm.out i (by omega)]; exact h.out i hi

theorem St3.rest (h : St3 K D P n E bs x) (hb : 0 < bs) (hx1 : n ≤ x + bs) : St2 K D P n E (2 * bs) := by
  obtain ⟨k, e, h1, h2⟩ := h.at_
  exact ⟨h1.rest h2 hb (by omega), h.out, h.all⟩
end

end

end Go.Proofs.Ytlnangnimbgpoaa
