import Derived.WalkKit
import Derived.Maps.Views
namespace Go.Proofs.Ytlnangnimbgpoaa

/-- Place p comes ahead of place q: its key is less, or the same and the place is. -/
def bef (K : Int → Int) (p q : Int) : Prop := K p < K q ∨ (K p = K q ∧ p < q)

section
variable {K : Int → Int} {p q r : Int}
theorem bef_trans (h1 : bef K p q) (h2 : bef K q r) : bef K p r := by unfold bef at *; omega
theorem bef_irrefl : ¬ bef K p p := by unfold bef; omega
theorem bef_asymm (h1 : bef K p q) : ¬ bef K q p := by unfold bef at *; omega
theorem bef_of_le (h1 : K p ≤ K q) (h2 : p < q) : bef K p q := by unfold bef; omega
end

/-- Two lists of the same numbers that rise are one. -/
theorem rise_unique {K : Int → Int} {l1 l2 : List Int} (h1 : l1.Pairwise (bef K)) (h2 : l2.Pairwise (bef K)) (hp : l1.Perm l2) : l1 = l2 := by
  induction l1 generalizing l2 with
  | nil => exact (List.nil_perm.1 hp).symm
  | cons x t ih =>
    cases l2 with
    | nil => exact absurd (List.perm_nil.1 hp) (by simp)
    | cons y u =>
      rw [List.pairwise_cons] at h1 h2
      have hx : x ∈ y :: u := hp.subset (by simp)
      have hy : y ∈ x :: t := hp.symm.subset (by simp)
      have e : x = y := by
        rcases List.mem_cons.1 hx with h | h
        · exact h
        · rcases List.mem_cons.1 hy with h' | h'
          · exact h'.symm
          · exact absurd (h2.1 x h) (bef_asymm (h1.1 y h'))
      subst e
      rw [ih h1.2 h2.2 (List.Perm.cons_inv hp)]

/-- What D says from a on, below b. -/
def seg (D : Nat → Int) (a b : Nat) : List Int := (List.range' a (b - a)).map D

section
variable {K : Int → Int} {D E : Nat → Int} {a m b : Nat}

theorem seg_split (h1 : a ≤ m) (h2 : m ≤ b) : seg D a b = seg D a m ++ seg D m b := by
  unfold seg
  rw [← List.map_append]
  congr 1
  have e : b - a = (m - a) + (b - m) := by omega
  rw [e, ← List.range'_append]
  congr 2
  omega

theorem seg_mem {x : Int} : x ∈ seg D a b ↔ ∃ i, a ≤ i ∧ i < b ∧ D i = x := by
  unfold seg
  rw [List.mem_map]
  constructor
  · rintro ⟨i, hi, e⟩
    have := List.mem_range'.1 hi
    obtain ⟨j, hj, rfl⟩ := this
    exact ⟨_, by omega, by omega, e⟩
  · rintro ⟨i, h1, h2, e⟩
    refine ⟨i, ?_, e⟩
    rw [List.mem_range']
    exact ⟨i - a, by omega, by omega⟩

theorem seg_congr (h : ∀ i, a ≤ i → i < b → D i = E i) : seg D a b = seg E a b := by
  unfold seg
  refine List.map_congr_left fun i hi => ?_
  obtain ⟨j, hj, rfl⟩ := List.mem_range'.1 hi
  exact h _ (by omega) (by omega)

theorem seg_none (h : b ≤ a) : seg D a b = [] := by
  unfold seg
  rw [show b - a = 0 by omega]
  rfl

theorem seg_one : seg D a (a + 1) = [D a] := by
  unfold seg
  rw [show a + 1 - a = 1 by omega]
  rfl

/-- From a on, below b, D rises. -/
def Rise (K : Int → Int) (D : Nat → Int) (a b : Nat) : Prop := ∀ i j, a ≤ i → i < j → j < b → bef K (D i) (D j)

theorem Rise.pairwise (h : Rise K D a b) : (seg D a b).Pairwise (bef K) := by
  unfold seg
  rw [List.pairwise_map]
  have key : ∀ n s, (∀ i j, s ≤ i → i < j → j < s + n → bef K (D i) (D j)) → (List.range' s n).Pairwise (fun i j => bef K (D i) (D j)) := by
    intro n
    induction n with
    | zero => intro s _; simp
    | succ n ih =>
      intro s hs
      rw [List.range'_succ, List.pairwise_cons]
      refine ⟨fun j hj => ?_, ih (s + 1) (fun i j h1 h2 h3 => hs i j (by omega) h2 (by omega))⟩
      obtain ⟨t, ht, rfl⟩ := List.mem_range'.1 hj
      exact hs s _ (Nat.le_refl _) (by omega) (by omega)
  exact key _ _ (fun i j h1 h2 h3 => h i j h1 h2 (by omega))

theorem Rise.sub {a' b' : Nat} (h : Rise K D a b) (h1 : a ≤ a') (h2 : b' ≤ b) : Rise K D a' b' := fun i j h3 h4 h5 => h i j (by omega) h4 (by omega)

/-- D with the numbers of [a, m) and those of [m, b) changed about. -/
def rot (D : Nat → Int) (a m b : Nat) : Nat → Int := fun x => if a ≤ x ∧ x < b then (if x < a + (b - m) then D (x + (m - a)) else D (x - (b - m))) else D x

theorem rot_out (x : Nat) (h : x < a ∨ b ≤ x) : rot D a m b x = D x := by unfold rot; rw [if_neg (by omega)]
theorem rot_low {x : Nat} (h1 : a ≤ x) (h2 : x < a + (b - m)) (hm : a ≤ m) (hb : m ≤ b) : rot D a m b x = D (x + (m - a)) := by unfold rot; rw [if_pos (by omega), if_pos h2]
theorem rot_high {x : Nat} (h1 : a + (b - m) ≤ x) (h2 : x < b) : rot D a m b x = D (x - (b - m)) := by unfold rot; rw [if_pos (by omega), if_neg (by omega)]

theorem seg_shift (k : Nat) : seg (fun x => D (x + k)) a b = seg D (a + k) (b + k) := by
  unfold seg
  have e : b + k - (a + k) = b - a := by omega
  rw [e]
  have key : ∀ n s, (List.range' s n).map (fun x => D (x + k)) = (List.range' (s + k) n).map D := by
    intro n
    induction n with
    | zero => intro s; rfl
    | succ n ih => intro s; rw [List.range'_succ, List.range'_succ, List.map_cons, List.map_cons, ih (s + 1), show s + 1 + k = s + k + 1 by omega]
  exact key _ _

theorem rot_seg_low (h1 : a ≤ m) (h2 : m ≤ b) : seg (rot D a m b) a (a + (b - m)) = seg D m b := by
  have e : seg (rot D a m b) a (a + (b - m)) = seg (fun x => D (x + (m - a))) a (a + (b - m)) := seg_congr fun i h3 h4 => rot_low h3 h4 h1 h2
  rw [e, seg_shift]
  congr 1 <;> omega

theorem rot_seg_high (h2 : m ≤ b) : seg (rot D a m b) (a + (b - m)) b = seg D a m := by
  have e : seg D a m = seg (fun x => D (x - (b - m))) (a + (b - m)) b := by
    have := seg_shift (D := fun x => D (x - (b - m))) (a := a) (b := m) (b - m)
    rw [show m + (b - m) = b by omega] at this
    rw [← this]
    exact seg_congr fun i _ _ => by rw [Nat.add_sub_cancel]
  rw [e]
  exact seg_congr fun i h3 h4 => rot_high h3 h4

theorem rot_perm (h1 : a ≤ m) (h2 : m ≤ b) : (seg (rot D a m b) a b).Perm (seg D a b) := by
  rw [seg_split (m := a + (b - m)) (by omega) (by omega), rot_seg_low h1 h2, rot_seg_high h2, seg_split h1 h2]
  exact List.perm_append_comm

/-- D' is D with the numbers of [a, b) in order. -/
structure Merged (K : Int → Int) (D D' : Nat → Int) (a b : Nat) : Prop where
  perm : (seg D' a b).Perm (seg D a b)
  rise : Rise K D' a b
  out : ∀ i, (i < a ∨ b ≤ i) → D' i = D i

theorem perm_all {P : Int → Prop} (h : (seg E a b).Perm (seg D a b)) (hp : ∀ i, a ≤ i → i < b → P (D i)) : ∀ i, a ≤ i → i < b → P (E i) := fun i h1 h2 => by
  have : E i ∈ seg D a b := h.subset (seg_mem.2 ⟨i, h1, h2, rfl⟩)
  obtain ⟨j, h3, h4, e⟩ := seg_mem.1 this
  rw [← e]
  exact hp j h3 h4

theorem Merged.refl (h : Rise K D a b) : Merged K D D a b := ⟨List.Perm.refl _, h, fun _ _ => rfl⟩

/-- Each place of [a, m) is less than each of [m, b). -/
def Low (D : Nat → Int) (a m b : Nat) : Prop := ∀ i j, a ≤ i → i < m → m ≤ j → j < b → D i < D j

/-- Where a merge is cut: so many from the left, and from the right. -/
structure Cut (K : Int → Int) (D : Nat → Int) (a s m e b : Nat) : Prop where
  as : a ≤ s
  sm : s ≤ m
  me : m ≤ e
  eb : e ≤ b
  l : Rise K D a m
  r : Rise K D m b
  low : Low D a m b
  c1 : s = a ∨ e = b ∨ K (D (s - 1)) ≤ K (D e)
  c2 : e = m ∨ s = m ∨ K (D (e - 1)) < K (D s)

theorem Rise.key (h : Rise K D a b) {i j : Nat} (h1 : a ≤ i) (h2 : i ≤ j) (h3 : j < b) : K (D i) ≤ K (D j) := by
  rcases Nat.lt_or_ge i j with h4 | h4
  · have := h i j h1 h4 h3; unfold bef at this; omega
  · rw [show i = j by omega]; omega

theorem Rise.join (h1 : Rise K D a m) (h2 : Rise K D m b) (h3 : ∀ i j, a ≤ i → i < m → m ≤ j → j < b → bef K (D i) (D j)) : Rise K D a b := fun i j hi hij hj => by
  rcases Nat.lt_or_ge j m with h | h
  · exact h1 i j hi hij h
  · rcases Nat.lt_or_ge i m with h' | h'
    · exact h3 i j hi h' h hj
    · exact h2 i j h' hij hj

theorem Cut.e1 {s e i : Nat} (_h : Cut K D a s m e b) (_h1 : a ≤ i) (h2 : i < s) : rot D s m e i = D i := rot_out _ (by omega)
theorem Cut.e3 {s e i : Nat} (_h : Cut K D a s m e b) (h1 : s + (e - m) ≤ i) (h2 : i < e) : rot D s m e i = D (i - (e - m)) := rot_high h1 h2
theorem Cut.e4 {s e i : Nat} (_h : Cut K D a s m e b) (h1 : e ≤ i) : rot D s m e i = D i := rot_out _ (by omega)


theorem Cut.e2 {s e i : Nat} (h : Cut K D a s m e b) (h1 : s ≤ i) (h2 : i < s + (e - m)) : rot D s m e i = D (i + (m - s)) := rot_low h1 h2 h.sm h.me

theorem Cut.left {s e : Nat} (h : Cut K D a s m e b) : Rise K (rot D s m e) a s ∧ Rise K (rot D s m e) s (s + (e - m)) ∧ Low (rot D s m e) a s (s + (e - m)) := by
  have h1 := h.as
  have h2 := h.sm
  have h3 := h.me
  have h4 := h.eb
  refine ⟨fun i j hi hij hj => ?_, fun i j hi hij hj => ?_, fun i j hi hi2 hj hj2 => ?_⟩
  · rw [h.e1 hi (by omega), h.e1 (by omega) hj]
    exact h.l i j hi hij (by omega)
  · rw [h.e2 hi (by omega), h.e2 (by omega) hj]
    exact h.r _ _ (by omega) (by omega) (by omega)
  · rw [h.e1 hi hi2, h.e2 hj hj2]
    exact h.low _ _ hi (by omega) (by omega) (by omega)

theorem Cut.right {s e : Nat} (h : Cut K D a s m e b) : Rise K (rot D s m e) (s + (e - m)) e ∧ Rise K (rot D s m e) e b ∧ Low (rot D s m e) (s + (e - m)) e b := by
  have h1 := h.as
  have h2 := h.sm
  have h3 := h.me
  have h4 := h.eb
  refine ⟨fun i j hi hij hj => ?_, fun i j hi hij hj => ?_, fun i j hi hi2 hj hj2 => ?_⟩
  · rw [h.e3 hi (by omega), h.e3 (by omega) hj]
    exact h.l _ _ (by omega) (by omega) (by omega)
  · rw [h.e4 hi, h.e4 (by omega)]
    exact h.r i j (by omega) hij hj
  · rw [h.e3 hi hi2, h.e4 hj]
    exact h.low _ _ (by omega) (by omega) (by omega) hj2

/-- All of the first half come ahead of all of the second. -/
theorem Cut.cross {s e i j : Nat} (h : Cut K D a s m e b) (h1 : a ≤ i) (h2 : i < s + (e - m)) (h3 : s + (e - m) ≤ j) (h4 : j < b) : bef K (rot D s m e i) (rot D s m e j) := by
  have k1 := h.as
  have k2 := h.sm
  have k3 := h.me
  have k4 := h.eb
  rcases Nat.lt_or_ge i s with hi | hi
  · rw [h.e1 h1 hi]
    rcases Nat.lt_or_ge j e with hj | hj
    · rw [h.e3 h3 hj]
      exact h.l _ _ h1 (by omega) (by omega)
    · rw [h.e4 hj]
      refine bef_of_le ?_ (h.low _ _ h1 (by omega) (by omega) h4)
      have q1 := h.l.key (i := i) (j := s - 1) h1 (by omega) (by omega)
      have q2 := h.r.key (i := e) (j := j) k3 hj h4
      rcases h.c1 with c | c | c <;> omega
  · rw [h.e2 hi h2]
    rcases Nat.lt_or_ge j e with hj | hj
    · rw [h.e3 h3 hj]
      left
      have q1 := h.r.key (i := i + (m - s)) (j := e - 1) (by omega) (by omega) (by omega)
      have q2 := h.l.key (i := s) (j := j - (e - m)) k1 (by omega) (by omega)
      rcases h.c2 with c | c | c <;> omega
    · rw [h.e4 hj]
      exact h.r _ _ (by omega) (by omega) h4

/-- The halves put in order, one behind the other. -/
theorem Cut.merged {s e : Nat} (h : Cut K D a s m e b) {E1 E2 : Nat → Int} (m1 : Merged K (rot D s m e) E1 a (s + (e - m))) (m2 : Merged K E1 E2 (s + (e - m)) b) : Merged K D E2 a b := by
  have k1 := h.as
  have k2 := h.sm
  have k3 := h.me
  have k4 := h.eb
  have hE1h : ∀ i, s + (e - m) ≤ i → E1 i = rot D s m e i := fun i hi => m1.out i (by omega)
  have hE2l : ∀ i, i < s + (e - m) → E2 i = E1 i := fun i hi => m2.out i (by omega)
  have p2 : (seg E2 (s + (e - m)) b).Perm (seg (rot D s m e) (s + (e - m)) b) := by
    rw [← seg_congr (D := E1) (E := rot D s m e) (fun i h1 _ => hE1h i h1)]
    exact m2.perm
  have s1 : seg E2 a (s + (e - m)) = seg E1 a (s + (e - m)) := seg_congr fun i _ h2 => hE2l i h2
  have hr : (seg (rot D s m e) a b).Perm (seg D a b) := by
    rw [seg_split (m := s) k1 (by omega), seg_split (a := s) (m := e) (by omega) k4, seg_split (D := D) (m := s) k1 (by omega), seg_split (D := D) (a := s) (m := e) (by omega) k4]
    rw [seg_congr (D := rot D s m e) (E := D) (a := a) (b := s) (fun i h1 h2 => h.e1 h1 h2), seg_congr (D := rot D s m e) (E := D) (a := e) (b := b) (fun i h1 _ => h.e4 h1)]
    exact List.Perm.append_left _ (List.Perm.append_right _ (rot_perm k2 k3))
  refine ⟨?_, fun i j hi hij hj => ?_, fun i hi => ?_⟩
  · refine List.Perm.trans ?_ hr
    rw [seg_split (m := s + (e - m)) (by omega) (by omega), seg_split (D := rot D s m e) (m := s + (e - m)) (by omega) (by omega), s1]
    exact List.Perm.append m1.perm p2
  · rcases Nat.lt_or_ge j (s + (e - m)) with h1 | h1
    · rw [hE2l i (by omega), hE2l j h1]
      exact m1.rise i j hi hij h1
    · rcases Nat.lt_or_ge i (s + (e - m)) with h2 | h2
      · rw [hE2l i h2]
        refine perm_all (P := fun y => bef K (E1 i) y) p2 (fun t ht1 ht2 => ?_) j h1 hj
        exact perm_all (P := fun x => bef K x (rot D s m e t)) m1.perm (fun u hu1 hu2 => h.cross hu1 hu2 ht1 ht2) i hi h2
      · exact m2.rise i j h2 hij hj
  · rw [m2.out i (by omega), m1.out i (by omega)]
    exact rot_out _ (by omega)

/-- The first number brought to its place among those behind it. -/
theorem ins_left {e : Nat} (hae : a + 1 ≤ e) (heb : e ≤ b) (hr : Rise K D (a + 1) b) (hlow : Low D a (a + 1) b) (hc2 : e = a + 1 ∨ K (D (e - 1)) < K (D a)) (hc1 : e = b ∨ K (D a) ≤ K (D e)) : Merged K D (rot D a (a + 1) e) a b := by
  have h : Cut K D a a (a + 1) e b := ⟨Nat.le_refl _, by omega, hae, heb, fun i j h1 h2 h3 => by omega, hr, hlow, .inl rfl, by rcases hc2 with c | c; exact .inl c; exact .inr (.inr c)⟩
  refine h.merged (Merged.refl h.left.2.1) (Merged.refl (h.right.1.join h.right.2.1 fun i j h1 h2 h3 h4 => ?_))
  rw [h.e3 h1 h2, h.e4 h3]
  have ei : i - (e - (a + 1)) = a := by omega
  rw [ei]
  refine bef_of_le ?_ (hlow _ _ (Nat.le_refl _) (by omega) (by omega) h4)
  have := hr.key (i := e) (j := j) (by omega) h3 h4
  rcases hc1 with c | c <;> omega

/-- The last number brought to its place among those ahead of it. -/
theorem ins_right {s : Nat} (has : a ≤ s) (hsm : s ≤ m) (hl : Rise K D a m) (hlow : Low D a m (m + 1)) (hc2 : s = m ∨ K (D m) < K (D s)) (hc1 : s = a ∨ K (D (s - 1)) ≤ K (D m)) : Merged K D (rot D s m (m + 1)) a (m + 1) := by
  have h : Cut K D a s m (m + 1) (m + 1) := ⟨has, hsm, by omega, Nat.le_refl _, hl, fun i j h1 h2 h3 => by omega, hlow, .inr (.inl rfl), by rcases hc2 with c | c; exact .inr (.inl c); exact .inr (.inr (by simpa using c))⟩
  refine h.merged (Merged.refl (h.left.1.join h.left.2.1 fun i j h1 h2 h3 h4 => ?_)) (Merged.refl h.right.1)
  rw [h.e1 h1 h2, h.e2 h3 h4]
  have ej : j + (m - s) = m := by omega
  rw [ej]
  refine bef_of_le ?_ (hlow _ _ h1 (by omega) (Nat.le_refl _) (by omega))
  have := hl.key (i := i) (j := s - 1) h1 (by omega) (by omega)
  rcases hc1 with c | c <;> omega

/-- D with two numbers changed about. -/
def swap2 (D : Nat → Int) (x y : Nat) : Nat → Int := fun z => if z = x then D y else if z = y then D x else D z

theorem rot_self (D : Nat → Int) (a b : Nat) : rot D a a b = D := by
  funext x
  unfold rot
  by_cases h : a ≤ x ∧ x < b
  · rw [if_pos h, if_pos (by omega)]; congr 1; omega
  · rw [if_neg h]

theorem rot_self2 (D : Nat → Int) (a b : Nat) : rot D a b b = D := by
  funext x
  unfold rot
  by_cases h : a ≤ x ∧ x < b
  · rw [if_pos h, if_neg (by omega)]; congr 1; omega
  · rw [if_neg h]

/-- The first number goes one place on. -/
theorem swap_on (D : Nat → Int) {a k : Nat} (h : a ≤ k) : swap2 (rot D a (a + 1) (k + 1)) k (k + 1) = rot D a (a + 1) (k + 2) := by
  funext x
  unfold swap2
  by_cases h1 : x = k
  · subst h1
    rw [if_pos rfl, rot_out _ (by omega), rot_low h (by omega) (by omega) (by omega)]
    congr 1
    omega
  · rw [if_neg h1]
    by_cases h2 : x = k + 1
    · subst h2
      rw [if_pos rfl, rot_high (x := k) (by omega) (by omega), rot_high (x := k + 1) (by omega) (by omega)]
      congr 1
      omega
    · rw [if_neg h2]
      by_cases h3 : a ≤ x ∧ x < k
      · rw [rot_low h3.1 (by omega) (by omega) (by omega), rot_low h3.1 (by omega) (by omega) (by omega)]
      · rw [rot_out _ (by omega), rot_out _ (by omega)]

/-- The last number goes one place back. -/
theorem swap_back (D : Nat → Int) {m k : Nat} (h : k + 1 ≤ m) : swap2 (rot D (k + 1) m (m + 1)) (k + 1) k = rot D k m (m + 1) := by
  funext x
  unfold swap2
  by_cases h1 : x = k + 1
  · subst h1
    rw [if_pos rfl, rot_out _ (by omega), rot_high (x := k + 1) (by omega) (by omega)]
    congr 1
    omega
  · rw [if_neg h1]
    by_cases h2 : x = k
    · subst h2
      rw [if_pos rfl, rot_low (x := x + 1) (Nat.le_refl _) (by omega) h (by omega), rot_low (Nat.le_refl _) (by omega) (by omega) (by omega)]
      congr 1
      omega
    · rw [if_neg h2]
      by_cases h3 : k + 1 ≤ x ∧ x < m + 1
      · rw [rot_high (by omega) h3.2, rot_high (by omega) h3.2]
      · rw [rot_out _ (by omega), rot_out _ (by omega)]

/-- D with n numbers from x on and n from y on changed about. -/
def swapR (D : Nat → Int) (x y n : Nat) : Nat → Int := fun z => if x ≤ z ∧ z < x + n then D (y + (z - x)) else if y ≤ z ∧ z < y + n then D (x + (z - y)) else D z

theorem swapR_zero (D : Nat → Int) (x y : Nat) : swapR D x y 0 = D := by
  funext z
  unfold swapR
  rw [if_neg (by omega), if_neg (by omega)]

theorem swapR_step (D : Nat → Int) {x y n : Nat} (h : x + n < y) : swap2 (swapR D x y n) (x + n) (y + n) = swapR D x y (n + 1) := by
  funext z
  unfold swap2 swapR
  repeat' split
  all_goals first
    | rfl
    | (congr 1; omega)

theorem rot_more (D : Nat → Int) {m i j : Nat} (h : j < i) (him : i ≤ m) : rot (swapR D (m - i) m j) (m - (i - j)) m (m + j) = rot D (m - i) m (m + j) := by
  funext x
  unfold rot swapR
  repeat' split
  all_goals first
    | rfl
    | (congr 1; omega)

theorem rot_less (D : Nat → Int) {m i j : Nat} (h : i < j) (him : i ≤ m) : rot (swapR D (m - i) (m + j - i) i) (m - i) m (m + (j - i)) = rot D (m - i) m (m + j) := by
  funext x
  unfold rot swapR
  repeat' split
  all_goals first
    | rfl
    | (congr 1; omega)

theorem rot_even (D : Nat → Int) {m i : Nat} (him : i ≤ m) : swapR D (m - i) m i = rot D (m - i) m (m + i) := by
  funext x
  unfold rot swapR
  repeat' split
  all_goals first
    | rfl
    | (congr 1; omega)

theorem Merged.grow {E' : Nat → Int} (h1 : Merged K D E a m) (h2 : Merged K E E' a (m + 1)) (ham : a ≤ m) : Merged K D E' a (m + 1) := by
  refine ⟨h2.perm.trans ?_, h2.rise, fun i hi => (h2.out i hi).trans (h1.out i (by omega))⟩
  rw [seg_split (m := m) ham (by omega), seg_split (D := D) (m := m) ham (by omega), seg_congr (D := E) (E := D) (a := m) (b := m + 1) (fun i h _ => h1.out i (by omega))]
  exact List.Perm.append_right _ h1.perm

theorem Merged.all {P : Int → Prop} {n : Nat} (h : Merged K D E a b) (hp : ∀ i, i < n → P (D i)) (hb : b ≤ n) : ∀ i, i < n → P (E i) := fun i hi => by
  by_cases hx : a ≤ i ∧ i < b
  · exact perm_all h.perm (fun j _ h2 => hp j (by omega)) i hx.1 hx.2
  · rw [h.out i (by omega)]; exact hp i hi

end

end Go.Proofs.Ytlnangnimbgpoaa
namespace Go.Proofs.Ytlnangnimbgpoaa

def runeOk (v : Int) : Bool := decide (0 ≤ v ∧ v ≤ 1114111 ∧ (v < 55296 ∨ 57343 < v))

def inCells (v : Int) : Bool := decide (0 ≤ v ∧ v ≤ 10000)

/-- The product of the numbers of a shape that are not 0, going from the front; none when it passes 10000. -/
def prodFrom : List Int → Int → Option Int
  | [], n => some n
  | x :: r, n => if x = 0 then prodFrom r n else if 10000 < n * x then none else prodFrom r (n * x)

def countOf (sh : List Int) : Int :=
  if sh.all inCells then
    match prodFrom sh 1 with
    | none => -1
    | some n => if 0 ∈ sh then 0 else n
  else -1

def dataOk (c : Bool) (v : Int) : Bool := (!c || runeOk v) && decide (-1000000000000000 ≤ v ∧ v ≤ 1000000000000000)

def arrOk (c : Bool) (sh dt : List Int) : Bool := decide (sh.length ≤ 5) && (decide (countOf sh = dt.length) && dt.all (dataOk c))

theorem prodFrom_snoc (xs : List Int) (x n : Int) : prodFrom (xs ++ [x]) n = (prodFrom xs n).bind (fun m => prodFrom [x] m) := by
  induction xs generalizing n with
  | nil => simp [prodFrom]
  | cons y r ih =>
    simp only [List.cons_append, prodFrom]
    split
    · exact ih n
    · split
      · simp
      · exact ih _

theorem prodFrom_bd (xs : List Int) (n m : Int) (hx : xs.all inCells = true) (h1 : 1 ≤ n) (h2 : n ≤ 10000) (h : prodFrom xs n = some m) : 1 ≤ m ∧ m ≤ 10000 := by
  induction xs generalizing n with
  | nil => simp [prodFrom] at h; omega
  | cons y r ih =>
    simp only [List.all_cons, Bool.and_eq_true] at hx
    have hy : 0 ≤ y ∧ y ≤ 10000 := by simpa [inCells] using hx.1
    simp only [prodFrom] at h
    split at h
    · exact ih n hx.2 h1 h2 h
    · split at h
      · simp at h
      · rename_i h0 hle
        refine ih (n * y) hx.2 ?_ (by omega) h
        have : 1 * 1 ≤ n * y := Int.mul_le_mul h1 (by omega) (by omega) (by omega)
        omega

theorem prodFrom_none_append (xs ys : List Int) (n : Int) (h : prodFrom xs n = none) : prodFrom (xs ++ ys) n = none := by
  induction xs generalizing n with
  | nil => simp [prodFrom] at h
  | cons y r ih =>
    simp only [List.cons_append, prodFrom] at h ⊢
    split at h
    · rename_i h0; rw [if_pos h0]; exact ih n h
    · rename_i h0; rw [if_neg h0]
      split at h
      · rename_i h1; rw [if_pos h1]
      · rename_i h1; rw [if_neg h1]; exact ih _ h

theorem take_snoc (xs : List Int) (k : Nat) (h : k < xs.length) : xs.take (k + 1) = xs.take k ++ [xs.getD k 0] := by
  rw [List.take_succ_eq_append_getElem h]; simp [h]

theorem all_step (xs : List Int) (p : Int → Bool) (k : Nat) (h : k < xs.length) (ha : (xs.take k).all p = true) (hp : p (xs.getD k 0) = true) : (xs.take (k + 1)).all p = true := by
  rw [take_snoc xs k h, List.all_append, ha]; simpa using hp

theorem all_not (xs : List Int) (p : Int → Bool) (k : Nat) (h : k < xs.length) (hp : p (xs.getD k 0) = false) : xs.all p = false := by
  rw [← Bool.not_eq_true, List.all_eq_true]
  intro hh
  have := hh (xs.getD k 0) (by simp [h])
  rw [hp] at this
  exact absurd this (by simp)

theorem zero_step (xs : List Int) (k : Nat) (h : k < xs.length) : decide (0 ∈ xs.take (k + 1)) = (decide (0 ∈ xs.take k) || decide (xs.getD k 0 = 0)) := by
  rw [take_snoc xs k h]
  generalize xs.take k = t
  generalize xs.getD k 0 = y
  by_cases h1 : 0 ∈ t <;> by_cases h2 : y = 0 <;> simp [h1, h2]
  exact fun e => h2 e.symm

theorem prod_step0 (xs : List Int) (k : Nat) (h : k < xs.length) (n : Int) (hp : prodFrom (xs.take k) 1 = some n) (h0 : xs.getD k 0 = 0) : prodFrom (xs.take (k + 1)) 1 = some n := by
  rw [take_snoc xs k h, prodFrom_snoc, hp, h0]; simp [prodFrom]

theorem prod_step (xs : List Int) (k : Nat) (h : k < xs.length) (n : Int) (hp : prodFrom (xs.take k) 1 = some n) (h0 : xs.getD k 0 ≠ 0) (hl : n * xs.getD k 0 ≤ 10000) : prodFrom (xs.take (k + 1)) 1 = some (n * xs.getD k 0) := by
  rw [take_snoc xs k h, prodFrom_snoc, hp]; simp only [Option.bind_some, prodFrom, if_neg h0]; rw [if_neg (by omega)]

theorem prod_none (xs : List Int) (k : Nat) (h : k < xs.length) (n : Int) (hp : prodFrom (xs.take k) 1 = some n) (h0 : xs.getD k 0 ≠ 0) (hl : 10000 < n * xs.getD k 0) : prodFrom xs 1 = none := by
  have : prodFrom (xs.take (k + 1)) 1 = none := by
    rw [take_snoc xs k h, prodFrom_snoc, hp]; simp only [Option.bind_some, prodFrom, if_neg h0]; rw [if_pos hl]
  rw [← List.take_append_drop (k + 1) xs]
  exact prodFrom_none_append _ _ _ this

theorem count_bad (sh : List Int) (h : sh.all inCells = false) : countOf sh = -1 := by simp [countOf, h]
theorem count_big (sh : List Int) (h : prodFrom sh 1 = none) : countOf sh = -1 := by unfold countOf; rw [h]; split <;> rfl
theorem count_zero (sh : List Int) (n : Int) (ha : sh.all inCells = true) (h : prodFrom sh 1 = some n) (h0 : decide (0 ∈ sh) = true) : countOf sh = 0 := by
  unfold countOf; rw [h, if_pos ha]; simp only []; rw [if_pos (of_decide_eq_true h0)]
theorem count_n (sh : List Int) (n : Int) (ha : sh.all inCells = true) (h : prodFrom sh 1 = some n) (h0 : decide (0 ∈ sh) = false) : countOf sh = n := by
  unfold countOf; rw [h, if_pos ha]; simp only []; rw [if_neg (of_decide_eq_false h0)]

theorem count_bd (sh : List Int) : -1 ≤ countOf sh ∧ countOf sh ≤ 10000 := by
  unfold countOf
  split
  · rename_i ha
    split
    · omega
    · rename_i n hn
      have := prodFrom_bd sh 1 n ha (by omega) (by omega) hn
      split <;> omega
  · omega

end Go.Proofs.Ytlnangnimbgpoaa
namespace Go.Proofs.Ytlnangnimbgpoaa

def shapeB (sh : List Int) : Bool := decide (sh.length ≤ 5) && decide (0 ≤ countOf sh)

theorem shape_long {sh : List Int} {n : Nat} (hl : sh.length = n) (h : 5 < n) : shapeB sh = false := by unfold shapeB; rw [decide_eq_false (by omega)]; rfl
theorem shape_bad {sh : List Int} (h : countOf sh = -1) : shapeB sh = false := by unfold shapeB; rw [h]; simp
theorem shape_good {sh : List Int} {n : Nat} (hl : sh.length = n) (h : n ≤ 5) (m : Int) (ha : sh.all inCells = true) (hp : prodFrom sh 1 = some m) : shapeB sh = true := by
  have hb := prodFrom_bd sh 1 m ha (by omega) (by omega) hp
  unfold shapeB; rw [decide_eq_true (by omega)]
  by_cases h0 : decide (0 ∈ sh) = true
  · rw [count_zero sh m ha hp h0]; rfl
  · rw [count_n sh m ha hp (by simpa using h0), decide_eq_true (by omega)]; rfl

/-- The product of all numbers of a shape. -/
def prodAll (sh : List Int) : Int := sh.foldl (· * ·) 1

theorem prodAll_snoc (sh : List Int) (k : Nat) (h : k < sh.length) : prodAll (sh.take (k + 1)) = prodAll (sh.take k) * sh.getD k 0 := by
  rw [take_snoc sh k h]; simp [prodAll]

theorem prodAll_of (sh : List Int) (n m : Int) (h : prodFrom sh n = some m) : sh.foldl (· * ·) n = if 0 ∈ sh then 0 else m := by
  induction sh generalizing n with
  | nil => simp [prodFrom] at h; simp [h]
  | cons x r ih =>
    simp only [prodFrom] at h
    by_cases h0 : x = 0
    · subst h0
      have hz : ∀ (l : List Int), l.foldl (· * ·) 0 = 0 := by intro l; induction l with
        | nil => rfl
        | cons y s ih => simpa using ih
      simp [hz]
    · rw [if_neg h0] at h
      split at h
      · simp at h
      · rw [List.foldl_cons, ih _ h]
        have : (0 ∈ x :: r) ↔ 0 ∈ r := by simp; intro e; exact absurd e.symm h0
        simp only [this]

theorem prodAll_count (sh : List Int) (h : shapeB sh = true) : prodAll sh = countOf sh := by
  unfold shapeB at h
  simp only [Bool.and_eq_true, decide_eq_true_eq] at h
  have h2 := h.2
  unfold countOf at h2 ⊢
  split at h2
  · rename_i ha
    rw [if_pos ha]
    split at h2
    · omega
    · rename_i m hm
      exact prodAll_of sh 1 m hm
  · omega

theorem prodAll_bd (sh : List Int) (h : shapeB sh = true) (k : Nat) : 0 ≤ prodAll (sh.take k) ∧ prodAll (sh.take k) ≤ 10000 := by
  unfold shapeB at h
  simp only [Bool.and_eq_true, decide_eq_true_eq] at h
  have h2 := h.2
  unfold countOf at h2
  split at h2
  · rename_i ha
    split at h2
    · omega
    · rename_i m hm
      have hat : (sh.take k).all inCells = true := by rw [List.all_eq_true]; exact fun x hx => List.all_eq_true.1 ha x (List.mem_of_mem_take hx)
      cases hpt : prodFrom (sh.take k) 1 with
      | none =>
        have := prodFrom_none_append (sh.take k) (sh.drop k) 1 hpt
        rw [List.take_append_drop] at this
        rw [this] at hm; simp at hm
      | some m' =>
        have hb := prodFrom_bd _ 1 m' hat (by omega) (by omega) hpt
        unfold prodAll
        rw [prodAll_of _ 1 m' hpt]
        split <;> omega
  · omega

/-- Numbers that a valid array may have in its shape, but for how many they are. -/
def ShapeIn (sh : List Int) : Prop := sh.all inCells = true ∧ ∃ m, prodFrom sh 1 = some m

theorem prodFrom_less (ys : List Int) (n m k : Int) (hy : ys.all inCells = true) (hk : 1 ≤ k) (hkn : k ≤ n) (h : prodFrom ys n = some m) : ∃ m', prodFrom ys k = some m' := by
  induction ys generalizing n k with
  | nil => exact ⟨k, rfl⟩
  | cons y r ih =>
    simp only [List.all_cons, Bool.and_eq_true] at hy
    have hyb : 0 ≤ y ∧ y ≤ 10000 := by simpa [inCells] using hy.1
    simp only [prodFrom] at h ⊢
    by_cases h0 : y = 0
    · rw [if_pos h0] at h ⊢; exact ih n k hy.2 hk hkn h
    · rw [if_neg h0] at h ⊢
      split at h
      · simp at h
      · rename_i hle
        have h1 : k * y ≤ n * y := Int.mul_le_mul_of_nonneg_right hkn (by omega)
        have h2 : 1 * 1 ≤ k * y := Int.mul_le_mul hk (by omega) (by omega) (by omega)
        rw [if_neg (by omega)]
        exact ih (n * y) (k * y) hy.2 (by omega) h1 h

theorem ShapeIn.take {sh : List Int} (h : ShapeIn sh) (k : Nat) : ShapeIn (sh.take k) := by
  obtain ⟨ha, m, hm⟩ := h
  refine ⟨by rw [List.all_eq_true]; exact fun x hx => List.all_eq_true.1 ha x (List.mem_of_mem_take hx), ?_⟩
  cases hpt : prodFrom (sh.take k) 1 with
  | none =>
    have := prodFrom_none_append (sh.take k) (sh.drop k) 1 hpt
    rw [List.take_append_drop] at this
    rw [this] at hm; simp at hm
  | some m' => exact ⟨m', rfl⟩

theorem prodFrom_append (xs ys : List Int) (n : Int) : prodFrom (xs ++ ys) n = (prodFrom xs n).bind (prodFrom ys) := by
  induction xs generalizing n with
  | nil => simp [prodFrom]
  | cons y r ih =>
    simp only [List.cons_append, prodFrom]
    split
    · exact ih n
    · split
      · simp
      · exact ih _

theorem ShapeIn.drop {sh : List Int} (h : ShapeIn sh) (k : Nat) : ShapeIn (sh.drop k) := by
  have ht := h.take k
  obtain ⟨ha, m, hm⟩ := h
  have hd : (sh.drop k).all inCells = true := by rw [List.all_eq_true]; exact fun x hx => List.all_eq_true.1 ha x (List.mem_of_mem_drop hx)
  refine ⟨hd, ?_⟩
  obtain ⟨hta, p, hp⟩ := ht
  have hb := prodFrom_bd _ 1 p hta (by omega) (by omega) hp
  rw [← List.take_append_drop k sh, prodFrom_append, hp, Option.bind_some] at hm
  exact prodFrom_less _ p m 1 hd (by omega) hb.1 hm

theorem ShapeIn.bd {sh : List Int} (h : ShapeIn sh) : 0 ≤ prodAll sh ∧ prodAll sh ≤ 10000 := by
  obtain ⟨ha, m, hm⟩ := h
  have hb := prodFrom_bd sh 1 m ha (by omega) (by omega) hm
  unfold prodAll
  rw [prodAll_of sh 1 m hm]
  split <;> omega

theorem ShapeIn.cell {sh : List Int} (h : ShapeIn sh) (k : Nat) : 0 ≤ sh.getD k 0 ∧ sh.getD k 0 ≤ 10000 := by
  by_cases hk : k < sh.length
  · have := List.all_eq_true.1 h.1 (sh.getD k 0) (by simp [hk])
    simpa [inCells] using this
  · have e : sh.getD k 0 = 0 := by simp [List.getD, List.getElem?_eq_none (by omega : sh.length ≤ k)]
    rw [e]; omega

theorem shapeIn_of {c : Bool} {sh dt : List Int} (h : arrOk c sh dt = true) : ShapeIn sh ∧ prodAll sh = dt.length ∧ sh.length ≤ 5 := by
  unfold arrOk at h
  simp only [Bool.and_eq_true, decide_eq_true_eq] at h
  obtain ⟨h5, hc, _⟩ := h
  have hs : shapeB sh = true := by unfold shapeB; rw [decide_eq_true h5, decide_eq_true (by omega)]; rfl
  refine ⟨?_, by rw [prodAll_count sh hs, hc], h5⟩
  unfold countOf at hc
  split at hc
  · rename_i ha
    split at hc
    · omega
    · rename_i m hm; exact ⟨ha, m, hm⟩
  · omega

theorem prodAll_append (xs ys : List Int) : prodAll (xs ++ ys) = prodAll xs * prodAll ys := by
  have key : ∀ (ys : List Int) (n : Int), ys.foldl (· * ·) n = n * ys.foldl (· * ·) 1 := by
    intro ys
    induction ys with
    | nil => intro n; simp
    | cons y r ih => intro n; rw [List.foldl_cons, List.foldl_cons, ih (n * y), ih (1 * y), Int.one_mul, Int.mul_assoc]
  unfold prodAll
  rw [List.foldl_append, key]

end Go.Proofs.Ytlnangnimbgpoaa
namespace Go.Proofs.Ytlnangnimbgpoaa

/-- The place of an index, by its first k numbers. -/
def placeN (sh ix : List Int) : Nat → Int
  | 0 => 0
  | k + 1 => placeN sh ix k * sh.getD k 0 + ix.getD k 0

def place (sh ix : List Int) : Int := placeN sh ix sh.length

/-- Each number of an index is below its axis. -/
def IxIn (sh ix : List Int) : Prop := ∀ k, k < sh.length → 0 ≤ ix.getD k 0 ∧ ix.getD k 0 < sh.getD k 0

theorem placeN_bd {sh ix : List Int} (hi : IxIn sh ix) (k : Nat) (hk : k ≤ sh.length) : 0 ≤ placeN sh ix k ∧ placeN sh ix k < prodAll (sh.take k) := by
  induction k with
  | zero => simp [placeN, prodAll]
  | succ k ih =>
    obtain ⟨h1, h2⟩ := ih (by omega)
    obtain ⟨h3, h4⟩ := hi k (by omega)
    rw [prodAll_snoc sh k (by omega)]
    show 0 ≤ placeN sh ix k * sh.getD k 0 + ix.getD k 0 ∧ placeN sh ix k * sh.getD k 0 + ix.getD k 0 < _
    have h5 : 0 ≤ placeN sh ix k * sh.getD k 0 := Int.mul_nonneg h1 (by omega)
    have h6 : (placeN sh ix k + 1) * sh.getD k 0 ≤ prodAll (sh.take k) * sh.getD k 0 := Int.mul_le_mul_of_nonneg_right (by omega) (by omega)
    rw [Int.add_mul, Int.one_mul] at h6
    omega

theorem place_bd {sh ix : List Int} (hi : IxIn sh ix) : 0 ≤ place sh ix ∧ place sh ix < prodAll sh := by
  have := placeN_bd hi sh.length (Nat.le_refl _)
  rwa [List.take_length] at this

/-- What is left of a place behind j axes, going from the last. -/
def restN (sh : List Int) (p : Int) : Nat → Int
  | 0 => p
  | j + 1 => restN sh p j / sh.getD (sh.length - 1 - j) 0

def digit (sh : List Int) (p : Int) (i : Nat) : Int := restN sh p (sh.length - 1 - i) % sh.getD i 0

/-- The index of a place. -/
def digits (sh : List Int) (p : Int) : List Int := (List.range sh.length).map (digit sh p)

theorem digits_len (sh : List Int) (p : Int) : (digits sh p).length = sh.length := by simp [digits]

theorem digits_get (sh : List Int) (p : Int) (k : Nat) (hk : k < sh.length) : (digits sh p).getD k 0 = digit sh p k := by simp [digits, hk]

/-- No axis of length 0. -/
def Full (sh : List Int) : Prop := ∀ k, k < sh.length → 0 < sh.getD k 0

theorem restN_nn {sh : List Int} (hf : Full sh) {p : Int} (hp : 0 ≤ p) (j : Nat) (hj : j ≤ sh.length) : 0 ≤ restN sh p j ∧ restN sh p j ≤ p := by
  induction j with
  | zero => exact ⟨hp, Int.le_refl _⟩
  | succ j ih =>
    obtain ⟨h1, h2⟩ := ih (by omega)
    have hs := hf (sh.length - 1 - j) (by omega)
    show 0 ≤ restN sh p j / sh.getD (sh.length - 1 - j) 0 ∧ restN sh p j / sh.getD (sh.length - 1 - j) 0 ≤ p
    exact ⟨Int.ediv_nonneg h1 (by omega), Int.le_trans (Int.ediv_le_self _ h1) h2⟩

theorem digits_in {sh : List Int} (hf : Full sh) (p : Int) : IxIn sh (digits sh p) := by
  intro k hk
  rw [digits_get sh p k hk]
  have hs := hf k hk
  exact ⟨Int.emod_nonneg _ (by omega), Int.emod_lt_of_pos _ hs⟩

theorem restN_lt {sh : List Int} (hf : Full sh) {p : Int} (hl : p < prodAll sh) (j : Nat) (hj : j ≤ sh.length) : restN sh p j < prodAll (sh.take (sh.length - j)) := by
  induction j with
  | zero => simpa [restN] using hl
  | succ j ih =>
    have h1 := ih (by omega)
    have hs := hf (sh.length - 1 - j) (by omega)
    have e : sh.length - j = sh.length - 1 - j + 1 := by omega
    rw [e, prodAll_snoc sh _ (by omega)] at h1
    have e2 : sh.length - (j + 1) = sh.length - 1 - j := by omega
    rw [e2]
    exact Int.ediv_lt_of_lt_mul hs h1

theorem place_digits_aux {sh : List Int} (hf : Full sh) {p : Int} (hp : 0 ≤ p) (hl : p < prodAll sh) (k : Nat) (hk : k ≤ sh.length) : placeN sh (digits sh p) k = restN sh p (sh.length - k) := by
  induction k with
  | zero =>
    have h1 := (restN_nn hf hp sh.length (Nat.le_refl _)).1
    have h2 := restN_lt hf hl sh.length (Nat.le_refl _)
    simp [prodAll] at h2
    show (0 : Int) = _
    simp
    omega
  | succ k ih =>
    have h1 := ih (by omega)
    show placeN sh (digits sh p) k * sh.getD k 0 + (digits sh p).getD k 0 = _
    rw [h1, digits_get sh p k (by omega)]
    have e : sh.length - k = sh.length - (k + 1) + 1 := by omega
    have e2 : sh.length - 1 - (sh.length - (k + 1)) = k := by omega
    have e3 : sh.length - 1 - k = sh.length - (k + 1) := by omega
    rw [e]
    show restN sh p (sh.length - (k + 1)) / sh.getD (sh.length - 1 - (sh.length - (k + 1))) 0 * sh.getD k 0 + digit sh p k = _
    rw [e2]
    unfold digit
    rw [e3, Int.mul_comm]
    exact Int.mul_ediv_add_emod _ _

/-- The index of a place is the index of that place. -/
theorem place_digits {sh : List Int} (hf : Full sh) {p : Int} (hp : 0 ≤ p) (hl : p < prodAll sh) : place sh (digits sh p) = p := by
  have := place_digits_aux hf hp hl sh.length (Nat.le_refl _)
  simpa [place, restN] using this

theorem full_of {sh : List Int} (h : ShapeIn sh) (hp : 0 < prodAll sh) : Full sh := by
  intro k hk
  have h1 := (h.cell k).1
  by_cases h0 : sh.getD k 0 = 0
  · exfalso
    have e : sh = sh.take k ++ sh.getD k 0 :: sh.drop (k + 1) := by simp [List.getD, hk]
    have hz : prodAll sh = 0 := by
      rw [e, prodAll_append, h0]
      have : prodAll (0 :: sh.drop (k + 1)) = prodAll [0] * prodAll (sh.drop (k + 1)) := by rw [← prodAll_append]; rfl
      rw [this]
      simp [prodAll]
    omega
  · omega

theorem drop_set {D : List Int} {m : Nat} (hm : m < D.length) : (List.replicate (m + 1) (0 : Int) ++ D.drop (m + 1)).set m (D.getD m 0) = List.replicate m 0 ++ D.drop m := by
  have e : D.drop m = D.getD m 0 :: D.drop (m + 1) := by simp [List.getD, hm]
  rw [e, List.replicate_succ', List.append_assoc, List.set_append_right _ _ (by simp)]
  simp

end Go.Proofs.Ytlnangnimbgpoaa
namespace Go.Proofs.Ytlnangnimbgpoaa

def inM (v : Int) : Bool := decide (-1000000000000000 ≤ v ∧ v ≤ 1000000000000000)

def truth (b : Bool) : Int := if b then 1 else 0
theorem truth_bd (b : Bool) : 0 ≤ truth b ∧ truth b ≤ 1 := by cases b <;> simp [truth]

def timesOf (a b : Int) : Int × Bool := if inM (a * b) = true then (a * b, true) else (0, false)
def powOf (a b : Int) : Int × Bool := if inM (a ^ b.toNat) = true then (a ^ b.toNat, true) else (0, false)
def modOf (a b : Int) : Int := if a = 0 then b else if b.tmod a ≠ 0 ∧ decide (b.tmod a < 0) ≠ decide (a < 0) then b.tmod a + a else b.tmod a
def orderOf (op a b : Int) : Int :=
  if op = 5 then (if a < b then a else b) else if op = 6 then (if a < b then b else a)
  else if op = 9 then truth (decide (a = b)) else if op = 10 then truth (decide (a ≠ b))
  else if op = 11 then truth (decide (a < b)) else if op = 13 then truth (decide (b ≤ a)) else if op = 12 then truth (decide (a ≤ b)) else truth (decide (b < a))

def limited (r : Int × Bool) : Int × Int := if r.2 = true ∧ inM r.1 = true then (r.1, 0) else (0, 7)

/-- A scalar function on two numbers: what it gives and its code. -/
def twoOf (op a b : Int) : Int × Int :=
  if op = 1 then limited (a + b, true) else if op = 2 then limited (a - b, true) else if op = 3 then limited (timesOf a b)
  else if op = 4 then (if a = 0 ∧ b = 0 then (1, 0) else if b = 0 ∨ a.tmod b ≠ 0 then (0, 3) else limited (a.tdiv b, true))
  else if op = 7 then limited (modOf a b, true)
  else if op = 8 then (if b < 0 then (0, 3) else limited (powOf a b))
  else if op = 15 ∨ op = 16 then (if (a ≠ 0 ∧ a ≠ 1) ∨ (b ≠ 0 ∧ b ≠ 1) then (0, 3) else limited (truth (decide (truth (decide (op = 15)) < a + b)), true))
  else limited (orderOf op a b, true)

theorem tdiv_lt {x y : Int} (hy : 0 < y) : (1000000000000000 : Int).tdiv y < x ↔ 1000000000000000 < x * y := by
  rw [Int.tdiv_eq_ediv_of_nonneg (by omega)]
  constructor
  · intro h
    by_cases h' : 1000000000000000 < x * y
    · exact h'
    · exact absurd (Int.le_ediv_of_mul_le hy (by omega : x * y ≤ 1000000000000000)) (by omega)
  · intro h
    by_cases h' : (1000000000000000 : Int) / y < x
    · exact h'
    · have := Int.mul_le_of_le_ediv hy (by omega : x ≤ (1000000000000000 : Int) / y)
      omega

theorem times_big {a b : Int} (h : inM (a * b) = false) : timesOf a b = (0, false) := by simp [timesOf, h]
theorem times_ok {a b : Int} (h : inM (a * b) = true) : timesOf a b = (a * b, true) := by simp [timesOf, h]
theorem inM_of {v : Int} (h1 : -1000000000000000 ≤ v) (h2 : v ≤ 1000000000000000) : inM v = true := decide_eq_true ⟨h1, h2⟩
theorem inM_not {v : Int} (h : v < -1000000000000000 ∨ 1000000000000000 < v) : inM v = false := decide_eq_false (by omega)
theorem inM_bd {v : Int} (h : inM v = true) : -1000000000000000 ≤ v ∧ v ≤ 1000000000000000 := of_decide_eq_true h

theorem abs_ge_two {a : Int} (h0 : a ≠ 0) (h1 : a ≠ 1) (hm : a ≠ -1) : 2 ≤ a.natAbs := by omega

/-- Beyond the bound a power of a number of two or more stays there. -/
theorem pow_step_big {a : Int} (ha : 2 ≤ a.natAbs) (k n : Nat) (hk : k ≤ n) (h : inM (a ^ k) = false) : inM (a ^ n) = false := by
  have hb : ∀ v : Int, inM v = false ↔ 1000000000000000 < v.natAbs := by
    intro v; simp only [inM, decide_eq_false_iff_not]; omega
  rw [hb] at h ⊢
  rw [Int.natAbs_pow] at h ⊢
  exact Nat.lt_of_lt_of_le h (Nat.pow_le_pow_right (by omega) hk)

theorem pow_bound {a : Int} (ha : 2 ≤ a.natAbs) (k : Nat) (h : inM (a ^ k) = true) : k < 50 := by
  have hb := inM_bd h
  have h1 : (a ^ k).natAbs ≤ 1000000000000000 := by omega
  rw [Int.natAbs_pow] at h1
  rcases Nat.lt_or_ge k 50 with h' | h'
  · exact h'
  · have : 2 ^ 50 ≤ a.natAbs ^ k := Nat.le_trans (Nat.pow_le_pow_right (by omega) h') (Nat.pow_le_pow_left ha k)
    have e : (2 : Nat) ^ 50 = 1125899906842624 := by decide
    omega

end Go.Proofs.Ytlnangnimbgpoaa
namespace Go.Proofs.Ytlnangnimbgpoaa

/-- An array and a code, as a function of the document answers them. -/
structure Ans where
  c : Bool
  sh : List Int
  dt : List Int
  code : Int

end Go.Proofs.Ytlnangnimbgpoaa
namespace Go.Proofs.Ytlnangnimbgpoaa

/-- The first code other than 0 among the first n; 0 if there is none. -/
def firstCode (f : Nat → Int × Int) : Nat → Int
  | 0 => 0
  | n + 1 => if firstCode f n = 0 then (f n).2 else firstCode f n

def vals (f : Nat → Int × Int) (n : Nat) : List Int := (List.range n).map fun i => (f i).1

theorem vals_len (f : Nat → Int × Int) (n : Nat) : (vals f n).length = n := by simp [vals]

theorem vals_snoc (f : Nat → Int × Int) (n : Nat) : (vals f (n + 1)).map (Value.int .i64) = (vals f n).map (Value.int .i64) ++ [.int .i64 (f n).1] := by
  simp [vals, List.range_succ]

theorem code_step {f : Nat → Int × Int} {n : Nat} (h : firstCode f n = 0) (h2 : (f n).2 = 0) : firstCode f (n + 1) = 0 := by
  simp [firstCode, h, h2]

theorem code_stays {f : Nat → Int × Int} {n m : Nat} (h : firstCode f n ≠ 0) (hm : n ≤ m) : firstCode f m = firstCode f n := by
  induction m with
  | zero => have : n = 0 := by omega
            subst this; rfl
  | succ m ih =>
    rcases Nat.lt_or_ge n (m + 1) with h' | h'
    · have := ih (by omega)
      simp only [firstCode]
      rw [this, if_neg h]
    · have : n = m + 1 := by omega
      subst this; rfl

theorem code_found {f : Nat → Int × Int} {k n : Nat} (h : firstCode f k = 0) (hk : k < n) (h2 : (f k).2 ≠ 0) : firstCode f n = (f k).2 := by
  have e : firstCode f (k + 1) = (f k).2 := by simp [firstCode, h]
  rw [code_stays (n := k + 1) (by rw [e]; exact h2) (by omega), e]

def noAns (code : Int) : Ans := ⟨false, [], [], code⟩

/-- n elements, or the first code. -/
def gatherAns (c : Bool) (sh : List Int) (f : Nat → Int × Int) (n : Nat) : Ans := if firstCode f n = 0 then ⟨c, sh, vals f n, 0⟩ else noAns (firstCode f n)

theorem gather_good {c : Bool} {sh : List Int} {f : Nat → Int × Int} {n : Nat} (h : firstCode f n = 0) : gatherAns c sh f n = ⟨c, sh, vals f n, 0⟩ := by simp [gatherAns, h]
theorem gather_bad {c : Bool} {sh : List Int} {f : Nat → Int × Int} {k n : Nat} (h : firstCode f k = 0) (hk : k < n) (h2 : (f k).2 ≠ 0) : gatherAns c sh f n = noAns (f k).2 := by
  have e := code_found h hk h2
  unfold gatherAns; rw [if_neg (by rw [e]; exact h2), e]

/-- A scalar function on elements of arrays that may be Char. -/
def elemOf (op : Int) (c : Bool) (dt : List Int) (i : Nat) (d : Bool) (dt' : List Int) (j : Nat) : Int × Int :=
  if c ≠ d then (truth (decide (op = 10)), 0) else twoOf op (dt.getD i 0) (dt'.getD j 0)

def opIn (op : Int) : Bool := decide (1 ≤ op ∧ op ≤ 16)
def opEq (op : Int) : Bool := decide (op = 9 ∨ op = 10)

def wideB (n1 n2 m1 m2 : Nat) : Bool := decide (n2 = 1) && (decide (m2 ≠ 1) || decide (n1 < m1))

def scalar2 (op : Int) (c d : Bool) (sh dt sh' dt' : List Int) : Ans :=
  if arrOk c sh dt = true ∧ arrOk d sh' dt' = true ∧ opIn op = true then
    let wide := wideB sh.length dt.length sh'.length dt'.length
    let tall := decide (dt'.length = 1) && !wide
    if (!wide && !tall) = true ∧ sh.length ≠ sh'.length then noAns 4
    else if (!wide && !tall) = true ∧ sh ≠ sh' then noAns 5
    else if (c || d) = true ∧ opEq op = false then noAns 3
    else gatherAns false (if wide then sh' else sh) (fun i => elemOf op c dt (i % dt.length) d dt' (i % dt'.length)) (countOf (if wide then sh' else sh)).toNat
  else noAns 3

end Go.Proofs.Ytlnangnimbgpoaa
namespace Go.Proofs.Ytlnangnimbgpoaa

/-- The code of an array that should be a list of numbers. -/
def listCode (c : Bool) (n : Nat) : Int := if 1 < n then 4 else if c then 3 else 0

def fillOf (c : Bool) : Int := if c then 32 else 0

def reshapeAt (d : Bool) (dt' : List Int) (m2 k : Nat) : Int × Int := (if m2 = 0 then fillOf d else dt'.getD (k % m2) 0, 0)

def nonNeg (v : Int) : Bool := decide (0 ≤ v)

def reshape (c d : Bool) (sh dt sh' dt' : List Int) : Ans :=
  if arrOk c sh dt = true ∧ arrOk d sh' dt' = true then
    if listCode c sh.length ≠ 0 then noAns (listCode c sh.length)
    else if dt.all nonNeg = false then noAns 3
    else if shapeB dt = false then noAns 7
    else gatherAns d dt (reshapeAt d dt' dt'.length) (countOf dt).toNat
  else noAns 3

theorem reshape_bad1 {c d : Bool} {sh dt sh' dt' : List Int} (h : arrOk c sh dt = false) : reshape c d sh dt sh' dt' = noAns 3 := by unfold reshape; rw [if_neg (by simp [h])]
theorem reshape_bad2 {c d : Bool} {sh dt sh' dt' : List Int} (h : arrOk d sh' dt' = false) : reshape c d sh dt sh' dt' = noAns 3 := by unfold reshape; rw [if_neg (by simp [h])]
theorem reshape_list {c d : Bool} {sh dt sh' dt' : List Int} (h1 : arrOk c sh dt = true) (h2 : arrOk d sh' dt' = true) (r : Int) (h : listCode c sh.length = r) (hr : r ≠ 0) : reshape c d sh dt sh' dt' = noAns r := by
  unfold reshape; rw [if_pos ⟨h1, h2⟩, h, if_pos hr]
theorem reshape_neg {c d : Bool} {sh dt sh' dt' : List Int} (h1 : arrOk c sh dt = true) (h2 : arrOk d sh' dt' = true) (h : listCode c sh.length = 0) (h3 : dt.all nonNeg = false) : reshape c d sh dt sh' dt' = noAns 3 := by
  unfold reshape; rw [if_pos ⟨h1, h2⟩, if_neg (by simp [h]), if_pos h3]
theorem reshape_big {c d : Bool} {sh dt sh' dt' : List Int} (h1 : arrOk c sh dt = true) (h2 : arrOk d sh' dt' = true) (h : listCode c sh.length = 0) (h3 : dt.all nonNeg = true) (h4 : shapeB dt = false) : reshape c d sh dt sh' dt' = noAns 7 := by
  unfold reshape; rw [if_pos ⟨h1, h2⟩, if_neg (by simp [h]), if_neg (by simp [h3]), if_pos h4]
theorem reshape_go {c d : Bool} {sh dt sh' dt' : List Int} (h1 : arrOk c sh dt = true) (h2 : arrOk d sh' dt' = true) (h : listCode c sh.length = 0) (h3 : dt.all nonNeg = true) (h4 : shapeB dt = true) (m2 N : Nat) (l4 : dt'.length = m2) (hN : countOf dt = N) : reshape c d sh dt sh' dt' = gatherAns d dt (reshapeAt d dt' m2) N := by
  unfold reshape; rw [if_pos ⟨h1, h2⟩, if_neg (by simp [h]), if_neg (by simp [h3]), if_neg (by simp [h4]), l4, hN]; rfl

theorem shapeB_count {sh : List Int} (h : shapeB sh = true) : 0 ≤ countOf sh ∧ countOf sh ≤ 10000 := by
  unfold shapeB at h
  simp only [Bool.and_eq_true, decide_eq_true_eq] at h
  exact ⟨h.2, (count_bd sh).2⟩

end Go.Proofs.Ytlnangnimbgpoaa
namespace Go.Proofs.Ytlnangnimbgpoaa

/-- An index moved by a start. -/
def addIx (ix st : List Int) : List Int := (List.range ix.length).map fun i => ix.getD i 0 + st.getD i 0

theorem addIx_len (ix st : List Int) : (addIx ix st).length = ix.length := by simp [addIx]
theorem addIx_get (ix st : List Int) (k : Nat) (hk : k < ix.length) : (addIx ix st).getD k 0 = ix.getD k 0 + st.getD k 0 := by simp [addIx, hk]

/-- The first k numbers of an index lie within their axes. -/
def insideN (sh ix : List Int) : Nat → Bool
  | 0 => true
  | k + 1 => insideN sh ix k && (decide (0 ≤ ix.getD k 0) && decide (ix.getD k 0 < sh.getD k 0))

theorem inside_each {sh ix : List Int} {n : Nat} (h : insideN sh ix n = true) (k : Nat) (hk : k < n) : 0 ≤ ix.getD k 0 ∧ ix.getD k 0 < sh.getD k 0 := by
  induction n with
  | zero => omega
  | succ n ih =>
    simp only [insideN, Bool.and_eq_true, decide_eq_true_eq] at h
    by_cases e : k = n
    · subst e; exact h.2
    · exact ih h.1 (by omega)

theorem inside_in {sh ix : List Int} (h : insideN sh ix sh.length = true) : IxIn sh ix := fun k hk => inside_each h k hk

/-- What stands at place k of a window. -/
def windowAt (c : Bool) (sh dt st zs : List Int) (k : Nat) : Int × Int :=
  if insideN sh (addIx (digits zs k) st) sh.length = true then (dt.getD (place sh (addIx (digits zs k) st)).toNat 0, 0) else (fillOf c, 0)

theorem window_code (c : Bool) (sh dt st zs : List Int) (k : Nat) : (windowAt c sh dt st zs k).2 = 0 := by unfold windowAt; split <;> rfl

theorem mix_set {A D : List Int} {k : Nat} (hl : A.length = D.length) (hk : k < D.length) : (A.take k ++ D.drop k).set k (A.getD k 0) = A.take (k + 1) ++ D.drop (k + 1) := by
  have e : D.drop k = D.getD k 0 :: D.drop (k + 1) := by simp [List.getD, hk]
  have e2 : A.take (k + 1) = A.take k ++ [A.getD k 0] := take_snoc A k (by omega)
  rw [e, e2, List.append_assoc, List.set_append_right _ _ (by simp; omega)]
  have e3 : k - (A.take k).length = 0 := by simp; omega
  rw [e3]
  rfl

theorem mix_get {A D : List Int} {k : Nat} (hl : A.length = D.length) (hk : k < D.length) : (A.take k ++ D.drop k).getD k 0 = D.getD k 0 := by
  have e3 : min k A.length = k := by omega
  simp [List.getD, List.getElem?_append, e3]

theorem mix_got {A D : List Int} {k : Nat} (hk : k < A.length) : (A.take (k + 1) ++ D.drop (k + 1)).getD k 0 = A.getD k 0 := by
  have e : k < min (k + 1) A.length := by omega
  simp [List.getD, List.getElem?_append, e, hk]

theorem mix_len {A D : List Int} {k : Nat} (hl : A.length = D.length) (hk : k ≤ D.length) : (A.take k ++ D.drop k).length = D.length := by simp; omega

theorem shapeB_in {sh : List Int} (h : shapeB sh = true) : ShapeIn sh ∧ sh.length ≤ 5 := by
  unfold shapeB at h
  simp only [Bool.and_eq_true, decide_eq_true_eq] at h
  refine ⟨?_, h.1⟩
  have h2 := h.2
  unfold countOf at h2
  split at h2
  · rename_i ha
    split at h2
    · omega
    · rename_i m hm; exact ⟨ha, m, hm⟩
  · omega

end Go.Proofs.Ytlnangnimbgpoaa
namespace Go.Proofs.Ytlnangnimbgpoaa

theorem map_range_set (n k : Nat) (f : Nat → Int) (x : Int) : ((List.range n).map f).set k x = (List.range n).map fun i => if i = k then x else f i := by
  apply List.ext_getElem
  · simp
  · intro i h1 h2
    simp only [List.getElem_set, List.getElem_map, List.getElem_range]
    by_cases e : k = i
    · subst e; simp
    · rw [if_neg e, if_neg (fun h => e h.symm)]

theorem map_range_get (n k : Nat) (f : Nat → Int) (h : k < n) : ((List.range n).map f).getD k 0 = f k := by simp [h]
theorem map_range_len (n : Nat) (f : Nat → Int) : ((List.range n).map f).length = n := by simp
theorem map_range_eq {n : Nat} {f g : Nat → Int} (h : ∀ i, i < n → f i = g i) : (List.range n).map f = (List.range n).map g := List.map_congr_left fun i hi => h i (by simpa using hi)

/-- The index of place p whose last j numbers have gone back to 0. -/
def midDigit (sh : List Int) (p : Int) (j i : Nat) : Int := if sh.length - j ≤ i then 0 else digit sh p i
def mid (sh : List Int) (p : Int) (j : Nat) : List Int := (List.range sh.length).map (midDigit sh p j)

theorem mid_len (sh : List Int) (p : Int) (j : Nat) : (mid sh p j).length = sh.length := by simp [mid]
theorem mid_get (sh : List Int) (p : Int) (j : Nat) (hj : j < sh.length) : (mid sh p j).getD (sh.length - 1 - j) 0 = digit sh p (sh.length - 1 - j) := by
  unfold mid; rw [map_range_get _ _ _ (by omega)]; unfold midDigit; rw [if_neg (by omega)]
theorem mid_zero (sh : List Int) (p : Int) : mid sh p 0 = digits sh p := map_range_eq fun i hi => by unfold midDigit; rw [if_neg (by omega)]
theorem mid_step (sh : List Int) (p : Int) (j : Nat) (hj : j < sh.length) : (mid sh p j).set (sh.length - 1 - j) 0 = mid sh p (j + 1) := by
  unfold mid
  rw [map_range_set]
  refine map_range_eq fun i hi => ?_
  unfold midDigit
  by_cases e : i = sh.length - 1 - j
  · rw [if_pos e, if_pos (by omega)]
  · rw [if_neg e]
    by_cases h : sh.length - j ≤ i
    · rw [if_pos h, if_pos (by omega)]
    · rw [if_neg h, if_neg (by omega)]

def Carry (sh : List Int) (p : Int) (j : Nat) : Prop := restN sh (p + 1) j = restN sh p j + 1 ∧ ∀ i, sh.length - j ≤ i → i < sh.length → digit sh (p + 1) i = 0

theorem carry_zero (sh : List Int) (p : Int) : Carry sh p 0 := ⟨rfl, fun i h1 h2 => by omega⟩

theorem next_same {r s : Int} (hs : 0 < s) (h : r % s + 1 < s) : (r + 1) / s = r / s ∧ (r + 1) % s = r % s + 1 := by
  have h1 := Int.mul_ediv_add_emod r s
  have h2 := Int.emod_nonneg r (by omega : s ≠ 0)
  exact (Int.ediv_emod_unique hs).2 ⟨by omega, by omega, h⟩

theorem next_over {r s : Int} (hs : 0 < s) (h : ¬ r % s + 1 < s) : (r + 1) / s = r / s + 1 ∧ (r + 1) % s = 0 := by
  have h1 := Int.mul_ediv_add_emod r s
  have h2 := Int.emod_nonneg r (by omega : s ≠ 0)
  have h3 := Int.emod_lt_of_pos r hs
  have h4 : r % s + 1 = s := by omega
  refine (Int.ediv_emod_unique hs).2 ⟨?_, by omega, hs⟩
  rw [Int.mul_add, Int.mul_one]
  omega

theorem digit_at (sh : List Int) (p : Int) (j : Nat) (hj : j < sh.length) : digit sh p (sh.length - 1 - j) = restN sh p j % sh.getD (sh.length - 1 - j) 0 := by
  unfold digit; rw [show sh.length - 1 - (sh.length - 1 - j) = j by omega]

theorem carry_step {sh : List Int} (hf : Full sh) {p : Int} {j : Nat} (hc : Carry sh p j) (hj : j < sh.length) (h : ¬ digit sh p (sh.length - 1 - j) + 1 < sh.getD (sh.length - 1 - j) 0) : Carry sh p (j + 1) := by
  rw [digit_at _ _ _ hj] at h
  obtain ⟨h1, h2⟩ := next_over (hf (sh.length - 1 - j) (by omega)) h
  refine ⟨?_, fun i hi hl => ?_⟩
  · show restN sh (p + 1) j / _ = restN sh p j / _ + 1
    rw [hc.1]; exact h1
  · by_cases e : i = sh.length - 1 - j
    · subst e; rw [digit_at _ _ _ hj, hc.1]; exact h2
    · exact hc.2 i (by omega) hl

theorem restN_congr {sh : List Int} {p q : Int} {j : Nat} (h : restN sh p j = restN sh q j) (d : Nat) : restN sh p (j + d) = restN sh q (j + d) := by
  induction d with
  | zero => exact h
  | succ d ih => show restN sh p (j + d) / _ = restN sh q (j + d) / _; rw [ih]

theorem carry_stop {sh : List Int} (hf : Full sh) {p : Int} {j : Nat} (hc : Carry sh p j) (hj : j < sh.length) (h : digit sh p (sh.length - 1 - j) + 1 < sh.getD (sh.length - 1 - j) 0) :
    (mid sh p j).set (sh.length - 1 - j) (digit sh p (sh.length - 1 - j) + 1) = digits sh (p + 1) := by
  have hd := digit_at sh p j hj
  rw [hd] at h ⊢
  obtain ⟨h1, h2⟩ := next_same (hf (sh.length - 1 - j) (by omega)) h
  unfold mid digits
  rw [map_range_set]
  refine map_range_eq fun i hi => ?_
  by_cases e : i = sh.length - 1 - j
  · rw [if_pos e]; subst e; rw [digit_at _ _ _ hj, hc.1, h2]
  · rw [if_neg e]
    unfold midDigit
    by_cases h3 : sh.length - j ≤ i
    · rw [if_pos h3, hc.2 i h3 hi]
    · rw [if_neg h3]
      have e2 : restN sh p (j + 1) = restN sh (p + 1) (j + 1) := by
        show restN sh p j / _ = restN sh (p + 1) j / _
        rw [hc.1, h1]
      have e3 := restN_congr e2 (sh.length - 1 - i - (j + 1))
      rw [show j + 1 + (sh.length - 1 - i - (j + 1)) = sh.length - 1 - i by omega] at e3
      unfold digit
      rw [e3]

theorem carry_end {sh : List Int} {p : Int} {j : Nat} (hc : Carry sh p j) (hj : sh.length ≤ j) : mid sh p j = digits sh (p + 1) :=
  map_range_eq fun i hi => by unfold midDigit; rw [if_pos (by omega), hc.2 i (by omega) hi]

theorem digits_zero (sh : List Int) : digits sh 0 = List.replicate sh.length 0 := by
  have h0 : ∀ j, restN sh 0 j = 0 := by
    intro j
    induction j with
    | zero => rfl
    | succ j ih => show restN sh 0 j / _ = 0; rw [ih]; simp
  have e : List.replicate sh.length (0 : Int) = (List.range sh.length).map fun _ => 0 := by
    rw [List.map_const']; simp
  rw [e]
  exact map_range_eq fun i hi => by unfold digit; rw [h0]; simp

/-- The index of another array that a function of indexes means. -/
def meant (sh : List Int) (f : List Int → Nat → Int) (D : List Int) : List Int := (List.range sh.length).map (f D)

theorem meant_len (sh : List Int) (f : List Int → Nat → Int) (D : List Int) : (meant sh f D).length = sh.length := by simp [meant]
theorem meant_get (sh : List Int) (f : List Int → Nat → Int) (D : List Int) (k : Nat) (h : k < sh.length) : (meant sh f D).getD k 0 = f D k := map_range_get _ _ _ h

/-- What stands at place k of what is gathered. -/
def gatherAt (c : Bool) (sh dt : List Int) (f : List Int → Nat → Int) (zs : List Int) (k : Nat) : Int × Int :=
  if insideN sh (meant sh f (digits zs k)) sh.length = true then (dt.getD (place sh (meant sh f (digits zs k))).toNat 0, 0) else (fillOf c, 0)

/-- k elements have been gathered, the others are the fill. -/
def halfway (c : Bool) (sh dt : List Int) (f : List Int → Nat → Int) (zs : List Int) (N k : Nat) : List Int := (List.range N).map fun i => if i < k then (gatherAt c sh dt f zs i).1 else fillOf c

theorem half_len (c : Bool) (sh dt : List Int) (f : List Int → Nat → Int) (zs : List Int) (N k : Nat) : (halfway c sh dt f zs N k).length = N := by simp [halfway]
theorem half_zero (c : Bool) (sh dt : List Int) (f : List Int → Nat → Int) (zs : List Int) (N : Nat) : halfway c sh dt f zs N 0 = List.replicate N (fillOf c) := by
  have e : List.replicate N (fillOf c) = (List.range N).map fun _ => fillOf c := by rw [List.map_const']; simp
  rw [e]
  exact map_range_eq fun i _ => by rw [if_neg (by omega)]
theorem half_all (c : Bool) (sh dt : List Int) (f : List Int → Nat → Int) (zs : List Int) (N : Nat) : halfway c sh dt f zs N N = vals (gatherAt c sh dt f zs) N := map_range_eq fun i hi => by rw [if_pos hi]
theorem half_in (c : Bool) (sh dt : List Int) (f : List Int → Nat → Int) (zs : List Int) (N k : Nat) (x : Int) (hx : (gatherAt c sh dt f zs k).1 = x) : (halfway c sh dt f zs N k).set k x = halfway c sh dt f zs N (k + 1) := by
  unfold halfway
  rw [map_range_set]
  refine map_range_eq fun i _ => ?_
  by_cases e : i = k
  · subst e; rw [if_pos rfl, if_pos (by omega), hx]
  · rw [if_neg e]
    by_cases h : i < k
    · rw [if_pos h, if_pos (by omega)]
    · rw [if_neg h, if_neg (by omega)]
theorem half_out (c : Bool) (sh dt : List Int) (f : List Int → Nat → Int) (zs : List Int) (N k : Nat) (h : insideN sh (meant sh f (digits zs k)) sh.length = false) : halfway c sh dt f zs N k = halfway c sh dt f zs N (k + 1) := by
  refine map_range_eq fun i _ => ?_
  by_cases e : i = k
  · subst e; rw [if_neg (by omega), if_pos (by omega)]; unfold gatherAt; rw [if_neg (by simp [h])]
  · by_cases h : i < k
    · rw [if_pos h, if_pos (by omega)]
    · rw [if_neg h, if_neg (by omega)]
theorem gather_in {c : Bool} {sh dt : List Int} {f : List Int → Nat → Int} {zs : List Int} {k : Nat} (h : insideN sh (meant sh f (digits zs k)) sh.length = true) : (gatherAt c sh dt f zs k).1 = dt.getD (place sh (meant sh f (digits zs k))).toNat 0 := by unfold gatherAt; rw [if_pos h]

theorem inside_step {sh ix : List Int} {k : Nat} (h : insideN sh ix k = true) (h1 : 0 ≤ ix.getD k 0) (h2 : ix.getD k 0 < sh.getD k 0) : insideN sh ix (k + 1) = true := by
  simp only [insideN, Bool.and_eq_true, decide_eq_true_eq]; exact ⟨h, h1, h2⟩
theorem inside_not {sh ix : List Int} {n k : Nat} (hk : k < n) (h : ¬ (0 ≤ ix.getD k 0 ∧ ix.getD k 0 < sh.getD k 0)) : insideN sh ix n = false := by
  cases e : insideN sh ix n with
  | false => rfl
  | true => exact absurd (inside_each e k hk) h
theorem placeN_bd' {sh ix : List Int} (k : Nat) (hi : insideN sh ix k = true) (hk : k ≤ sh.length) : 0 ≤ placeN sh ix k ∧ placeN sh ix k < prodAll (sh.take k) ∨ k = 0 := by
  by_cases h0 : k = 0
  · exact .inr h0
  refine .inl ?_
  have hin : IxIn (sh.take k) ix := fun i hi' => by
    have hi2 : i < k := by simp at hi'; omega
    have := inside_each hi i hi2
    have e : (sh.take k).getD i 0 = sh.getD i 0 := by simp [List.getD, hi2]
    rw [e]; exact this
  have hb := place_bd hin
  have e2 : ∀ j, j ≤ k → placeN (sh.take k) ix j = placeN sh ix j := by
    intro j
    induction j with
    | zero => intro _; rfl
    | succ j ih =>
      intro hj
      show placeN (sh.take k) ix j * _ + _ = placeN sh ix j * _ + _
      rw [ih (by omega)]
      have e : (sh.take k).getD j 0 = sh.getD j 0 := by simp [List.getD, show j < k by omega]
      rw [e]
  have hlen : (sh.take k).length = k := by simp; omega
  unfold place at hb
  rw [hlen, e2 k (Nat.le_refl _)] at hb
  exact hb

end Go.Proofs.Ytlnangnimbgpoaa
namespace Go.Proofs.Ytlnangnimbgpoaa

/-- The numbers 1, 2, .. up to L. -/
def upTo (L : Nat) : List Int := (List.range L).map fun (i : Nat) => (i : Int) + 1
theorem upTo_len (L : Nat) : (upTo L).length = L := by simp [upTo]
theorem upTo_get {L i : Nat} (h : i < L) : (upTo L).getD i 0 = (i : Int) + 1 := by simp [upTo, h]

end Go.Proofs.Ytlnangnimbgpoaa
namespace Go.Proofs.Ytlnangnimbgpoaa

/-- A part, as its fields say it. -/
structure PartD where
  all : Bool
  c : Bool
  sh : List Int
  dt : List Int

def partZ : PartD := ⟨false, false, [], []⟩

/-- The numbers that a part picks along an axis of length L, from 1 on; the shape that they make; and the part's code. -/
def pickDt (p : PartD) (L : Int) : List Int := if p.all = true then upTo L.toNat else p.dt
def pickSh (p : PartD) (L : Int) : List Int := if p.all = true then [L] else p.sh
def within (L v : Int) : Bool := decide (1 ≤ v ∧ v ≤ L)
abbrev nothing (p : PartD) : Prop := p.c = false ∧ p.sh = [] ∧ p.dt = []
def pickCode (p : PartD) (L : Int) : Int :=
  if p.all = true then (if nothing p then 0 else 3)
  else if arrOk p.c p.sh p.dt = true ∧ p.c = false then (if p.dt.all (within L) = true then 0 else 6) else 3

section
variable {p : PartD} {L : Int}
theorem pick_all0 (h : p.all = true) (hn : nothing p) : pickCode p L = 0 := by unfold pickCode; rw [if_pos h, if_pos hn]
theorem pick_all3 (h : p.all = true) (hn : ¬ nothing p) : pickCode p L = 3 := by unfold pickCode; rw [if_pos h, if_neg hn]
theorem pick_bad (h : p.all = false) (hn : ¬ (arrOk p.c p.sh p.dt = true ∧ p.c = false)) : pickCode p L = 3 := by unfold pickCode; rw [if_neg (by simp [h]), if_neg hn]
theorem pick_in (h : p.all = false) (h1 : arrOk p.c p.sh p.dt = true) (h2 : p.c = false) (h3 : p.dt.all (within L) = true) : pickCode p L = 0 := by unfold pickCode; rw [if_neg (by simp [h]), if_pos ⟨h1, h2⟩, if_pos h3]
theorem pick_out (h : p.all = false) (h1 : arrOk p.c p.sh p.dt = true) (h2 : p.c = false) (h3 : p.dt.all (within L) = false) : pickCode p L = 6 := by unfold pickCode; rw [if_neg (by simp [h]), if_pos ⟨h1, h2⟩, if_neg (by simp [h3])]
theorem pickDt_all (h : p.all = true) : pickDt p L = upTo L.toNat := by unfold pickDt; rw [if_pos h]
theorem pickDt_not (h : p.all = false) : pickDt p L = p.dt := by unfold pickDt; rw [if_neg (by simp [h])]
theorem pickSh_all (h : p.all = true) : pickSh p L = [L] := by unfold pickSh; rw [if_pos h]
theorem pickSh_not (h : p.all = false) : pickSh p L = p.sh := by unfold pickSh; rw [if_neg (by simp [h])]

/-- A part without a code is a number array of its own, or the whole axis. -/
theorem pick_ok (h : pickCode p L = 0) : p.all = true ∨ (p.all = false ∧ arrOk p.c p.sh p.dt = true ∧ p.c = false ∧ p.dt.all (within L) = true) := by
  unfold pickCode at h
  split at h
  · rename_i ha; exact .inl ha
  · rename_i ha
    split at h
    · rename_i h1
      split at h
      · rename_i h2; exact .inr ⟨by simpa using ha, h1.1, h1.2, h2⟩
      · omega
    · omega

theorem pick_bd (h : pickCode p L = 0) {k : Nat} (hk : k < (pickDt p L).length) : 1 ≤ (pickDt p L).getD k 0 ∧ (pickDt p L).getD k 0 ≤ L := by
  rcases pick_ok h with ha | ⟨ha, _, _, h4⟩
  · rw [pickDt_all ha] at hk ⊢
    rw [upTo_len] at hk
    rw [upTo_get hk]
    omega
  · rw [pickDt_not ha] at hk ⊢
    have := List.all_eq_true.1 h4 (p.dt.getD k 0) (by simp [hk])
    simpa [within] using this

theorem prodAll_one (x : Int) : prodAll [x] = x := by simp [prodAll]

theorem pick_count (h : pickCode p L = 0) (hL : 0 ≤ L) : ((pickDt p L).length : Int) = prodAll (pickSh p L) := by
  rcases pick_ok h with ha | ⟨ha, h2, _, h4⟩
  · rw [pickDt_all ha, pickSh_all ha, upTo_len, prodAll_one]; omega
  · rw [pickDt_not ha, pickSh_not ha, (shapeIn_of h2).2.1]

theorem shapeIn_one {x : Int} (h0 : 0 ≤ x) (h1 : x ≤ 10000) : ShapeIn [x] := by
  refine ⟨by simp [inCells, h0, h1], ?_⟩
  simp only [prodFrom]
  split
  · exact ⟨_, rfl⟩
  · rw [if_neg (by omega)]; exact ⟨_, rfl⟩

theorem pick_shape (h : pickCode p L = 0) (hL : 0 ≤ L) (hL2 : L ≤ 10000) : ShapeIn (pickSh p L) := by
  rcases pick_ok h with ha | ⟨ha, h2, _, h4⟩
  · rw [pickSh_all ha]; exact shapeIn_one hL hL2
  · rw [pickSh_not ha]; exact (shapeIn_of h2).1

theorem pick_few (h : pickCode p L = 0) (hL : 0 ≤ L) (hL2 : L ≤ 10000) : (pickDt p L).length ≤ 10000 := by
  have := (pick_shape h hL hL2).bd
  have := pick_count h hL
  omega
end

/-- The i-th part. -/
def part (ps : List PartD) (i : Nat) : PartD := ps.getD i partZ
def pcAt (sh : List Int) (ps : List PartD) (i : Nat) : Int × Int := (0, pickCode (part ps i) (sh.getD i 0))
def pDt (sh : List Int) (ps : List PartD) (i : Nat) : List Int := pickDt (part ps i) (sh.getD i 0)
def picksCode (sh : List Int) (ps : List PartD) : Int := if ps.length = sh.length then firstCode (pcAt sh ps) ps.length else 4

/-- The shape that the first k parts make, and how many each picks. -/
def pShN (sh : List Int) (ps : List PartD) (k : Nat) : List Int := (List.range k).flatMap fun i => pickSh (part ps i) (sh.getD i 0)
def pCnN (sh : List Int) (ps : List PartD) (k : Nat) : List Int := (List.range k).map fun (i : Nat) => ((pDt sh ps i).length : Int)
def pSh (sh : List Int) (ps : List PartD) : List Int := pShN sh ps ps.length
def pCn (sh : List Int) (ps : List PartD) : List Int := pCnN sh ps ps.length

theorem pShN_succ (sh : List Int) (ps : List PartD) (k : Nat) : pShN sh ps (k + 1) = pShN sh ps k ++ pickSh (part ps k) (sh.getD k 0) := by
  simp [pShN, List.range_succ]
theorem pCnN_succ (sh : List Int) (ps : List PartD) (k : Nat) : pCnN sh ps (k + 1) = pCnN sh ps k ++ [((pDt sh ps k).length : Int)] := by
  simp [pCnN, List.range_succ]
theorem pCnN_len (sh : List Int) (ps : List PartD) (k : Nat) : (pCnN sh ps k).length = k := by simp [pCnN]
theorem pCn_get (sh : List Int) (ps : List PartD) {i : Nat} (h : i < ps.length) : (pCn sh ps).getD i 0 = ((pDt sh ps i).length : Int) := by
  simp [pCn, pCnN, h]

/-- Which element along axis i an index of the counts means. -/
def pNum (sh : List Int) (ps : List PartD) (D : List Int) (i : Nat) : Int := (pDt sh ps i).getD (D.getD i 0).toNat 0 - 1

def partsCode (sh : List Int) (ps : List PartD) : Int := if picksCode sh ps ≠ 0 then picksCode sh ps else if shapeB (pSh sh ps) = true then 0 else 7

/-- Where the t-th place lies that parts pick. -/
def whereAt (sh : List Int) (ps : List PartD) (t : Nat) : Int := place sh (meant sh (pNum sh ps) (digits (pCn sh ps) t))

structure PicksOk (sh : List Int) (ps : List PartD) : Prop where
  len : ps.length = sh.length
  code : ∀ i, i < ps.length → pickCode (part ps i) (sh.getD i 0) = 0

theorem firstCode_all {f : Nat → Int × Int} {n : Nat} (h : firstCode f n = 0) : ∀ k, k < n → (f k).2 = 0 := by
  induction n with
  | zero => intro k hk; omega
  | succ n ih =>
    simp only [firstCode] at h
    split at h
    · rename_i h0
      intro k hk
      by_cases e : k = n
      · subst e; exact h
      · exact ih h0 k (by omega)
    · rename_i h0; exact absurd h h0

theorem picks_ok {sh : List Int} {ps : List PartD} (h : picksCode sh ps = 0) : PicksOk sh ps := by
  unfold picksCode at h
  split at h
  · rename_i hl; exact ⟨hl, fun i hi => firstCode_all h i hi⟩
  · omega

theorem parts_ok {sh : List Int} {ps : List PartD} (h : partsCode sh ps = 0) : PicksOk sh ps ∧ shapeB (pSh sh ps) = true := by
  unfold partsCode at h
  split at h
  · rename_i h0; exact absurd h h0
  · rename_i h0
    split at h
    · rename_i h1; exact ⟨picks_ok (by simpa using h0), h1⟩
    · omega

theorem prodFrom_nz {xs : List Int} {n m : Int} (hx : xs.all inCells = true) (h1 : 1 ≤ n) (h : prodFrom xs n = some m) : n ≤ m ∧ (0 ∉ xs → m = n * prodAll xs) := by
  induction xs generalizing n with
  | nil => simp [prodFrom] at h; subst h; simp [prodAll]
  | cons y r ih =>
    simp only [List.all_cons, Bool.and_eq_true] at hx
    have hy : 0 ≤ y ∧ y ≤ 10000 := by simpa [inCells] using hx.1
    simp only [prodFrom] at h
    have e : prodAll (y :: r) = y * prodAll r := by
      have := prodAll_append [y] r
      rw [prodAll_one] at this
      simpa using this
    split at h
    · rename_i h0
      refine ⟨(ih hx.2 h1 h).1, fun hn => absurd (by simp [h0]) hn⟩
    · split at h
      · simp at h
      · rename_i h0 hle
        have h2 : n * 1 ≤ n * y := Int.mul_le_mul_of_nonneg_left (by omega) (by omega)
        obtain ⟨h3, h4⟩ := ih hx.2 (by omega) h
        refine ⟨by omega, fun hn => ?_⟩
        rw [h4 (fun hh => hn (List.mem_cons_of_mem _ hh)), e, Int.mul_assoc]

theorem prodAll_zero {xs : List Int} (h : 0 ∈ xs) : prodAll xs = 0 := by
  obtain ⟨a, b, rfl⟩ := List.append_of_mem h
  rw [prodAll_append]
  have := prodAll_append [0] b
  rw [prodAll_one, Int.zero_mul] at this
  have e : prodAll (0 :: b) = 0 := by simpa using this
  rw [e, Int.mul_zero]

/-- The counts are a shape where the shape is. -/
theorem counts_aux {sh : List Int} {ps : List PartD} (h : PicksOk sh ps) (hs : ShapeIn sh) (k : Nat) (hk : k ≤ ps.length) (m : Int) (hm : prodFrom (pShN sh ps k) 1 = some m) (ha : (pShN sh ps k).all inCells = true) :
    prodAll (pCnN sh ps k) = prodAll (pShN sh ps k) ∧ (pCnN sh ps k).all inCells = true ∧ ∃ m', prodFrom (pCnN sh ps k) 1 = some m' ∧ 1 ≤ m' ∧ m' ≤ m := by
  induction k generalizing m with
  | zero =>
    simp [pShN, prodFrom] at hm
    subst hm
    exact ⟨rfl, rfl, 1, rfl, by omega, by omega⟩
  | succ k ih =>
    rw [pShN_succ] at hm ha ⊢
    rw [pCnN_succ]
    rw [List.all_append, Bool.and_eq_true] at ha
    rw [prodFrom_append] at hm
    cases hp : prodFrom (pShN sh ps k) 1 with
    | none => rw [hp] at hm; simp at hm
    | some m1 =>
      rw [hp, Option.bind_some] at hm
      obtain ⟨e1, e2, m2, e3, e4, e5⟩ := ih (by omega) m1 hp ha.1
      have hc := h.code k (by omega)
      have hL := hs.cell k
      have hcnt : ((pDt sh ps k).length : Int) = prodAll (pickSh (part ps k) (sh.getD k 0)) := pick_count hc hL.1
      have hfew : (pDt sh ps k).length ≤ 10000 := pick_few hc hL.1 hL.2
      obtain ⟨h3, h4⟩ := prodFrom_nz ha.2 (by omega) hm
      have hmb := prodFrom_bd _ m1 m ha.2 (by omega) (prodFrom_bd _ 1 m1 ha.1 (by omega) (by omega) hp).2 hm
      refine ⟨by rw [prodAll_append, prodAll_append, prodAll_one, e1, hcnt], by rw [List.all_append, e2]; simp [inCells]; omega, ?_⟩
      rw [prodFrom_append, e3, Option.bind_some]
      simp only [prodFrom]
      by_cases h0 : ((pDt sh ps k).length : Int) = 0
      · rw [if_pos h0]; exact ⟨m2, rfl, e4, by omega⟩
      · rw [if_neg h0]
        have hz : 0 ∉ pickSh (part ps k) (sh.getD k 0) := fun hz => h0 (by rw [hcnt, prodAll_zero hz])
        have h5 := h4 hz
        rw [← hcnt] at h5
        have h6 : m2 * ((pDt sh ps k).length : Int) ≤ m1 * ((pDt sh ps k).length : Int) := Int.mul_le_mul_of_nonneg_right e5 (by omega)
        have h7 : 1 * 1 ≤ m2 * ((pDt sh ps k).length : Int) := Int.mul_le_mul e4 (by omega) (by omega) (by omega)
        rw [if_neg (by omega)]
        exact ⟨_, rfl, by omega, by omega⟩

theorem shapeIn_b {sh : List Int} (h : shapeB sh = true) : ShapeIn sh := by
  unfold shapeB at h
  simp only [Bool.and_eq_true, decide_eq_true_eq] at h
  have h2 := h.2
  unfold countOf at h2
  split at h2
  · rename_i ha
    split at h2
    · omega
    · rename_i m hm; exact ⟨ha, m, hm⟩
  · omega

theorem counts_in {sh : List Int} {ps : List PartD} (h : PicksOk sh ps) (hs : ShapeIn sh) (hb : shapeB (pSh sh ps) = true) : ShapeIn (pCn sh ps) ∧ prodAll (pCn sh ps) = prodAll (pSh sh ps) ∧ 0 ≤ prodAll (pSh sh ps) ∧ prodAll (pSh sh ps) ≤ 10000 := by
  have hi := shapeIn_b hb
  obtain ⟨ha, m, hm⟩ := hi
  obtain ⟨h1, h2, m', h3, _⟩ := counts_aux h hs ps.length (Nat.le_refl _) m hm ha
  exact ⟨⟨h2, m', h3⟩, h1, (shapeIn_b hb).bd⟩

theorem pCn_len (sh : List Int) (ps : List PartD) : (pCn sh ps).length = ps.length := pCnN_len _ _ _

theorem num_in {sh : List Int} {ps : List PartD} (h : PicksOk sh ps) {D : List Int} (hD : IxIn (pCn sh ps) D) {i : Nat} (hi : i < sh.length) : 0 ≤ D.getD i 0 ∧ (D.getD i 0).toNat < (pDt sh ps i).length ∧ 0 ≤ pNum sh ps D i ∧ pNum sh ps D i < sh.getD i 0 := by
  have hl := h.len
  have h1 := hD i (by rw [pCn_len]; omega)
  rw [pCn_get sh ps (by omega)] at h1
  have h2 : (D.getD i 0).toNat < (pDt sh ps i).length := by omega
  have h3 := pick_bd (h.code i (by omega)) h2
  have h4 : (pickDt (part ps i) (sh.getD i 0)).getD (D.getD i 0).toNat 0 = (pDt sh ps i).getD (D.getD i 0).toNat 0 := rfl
  rw [h4] at h3
  unfold pNum
  exact ⟨h1.1, h2, by omega, by omega⟩

theorem meant_in {sh : List Int} {ps : List PartD} (h : PicksOk sh ps) {D : List Int} (hD : IxIn (pCn sh ps) D) : IxIn sh (meant sh (pNum sh ps) D) := fun i hi => by
  rw [meant_get _ _ _ _ hi]; exact (num_in h hD hi).2.2

theorem where_bd {sh : List Int} {ps : List PartD} (h : PicksOk sh ps) (hs : ShapeIn sh) (hb : shapeB (pSh sh ps) = true) {t : Nat} (ht : (t : Int) < prodAll (pSh sh ps)) : IxIn (pCn sh ps) (digits (pCn sh ps) t) ∧ 0 ≤ whereAt sh ps t ∧ whereAt sh ps t < prodAll sh := by
  obtain ⟨h1, h2, h3, h4⟩ := counts_in h hs hb
  have hD : IxIn (pCn sh ps) (digits (pCn sh ps) t) := digits_in (full_of h1 (by omega)) _
  exact ⟨hD, place_bd (meant_in h hD)⟩

def pickedAt (dt sh : List Int) (ps : List PartD) (t : Nat) : Int × Int := (dt.getD (whereAt sh ps t).toNat 0, 0)

def indexA (c : Bool) (sh dt : List Int) (ps : List PartD) : Ans :=
  if arrOk c sh dt = true then
    if partsCode sh ps ≠ 0 then noAns (partsCode sh ps) else ⟨c, pSh sh ps, vals (pickedAt dt sh ps) (prodAll (pSh sh ps)).toNat, 0⟩
  else noAns 3

section
variable {c : Bool} {sh dt : List Int} {ps : List PartD}
theorem index_bad (h : arrOk c sh dt = false) : indexA c sh dt ps = noAns 3 := by unfold indexA; rw [if_neg (by simp [h])]
theorem index_code (h : arrOk c sh dt = true) (r : Int) (h2 : partsCode sh ps = r) (hr : r ≠ 0) : indexA c sh dt ps = noAns r := by unfold indexA; rw [if_pos h, h2, if_pos hr]
theorem index_go (h : arrOk c sh dt = true) (h2 : partsCode sh ps = 0) (N : Nat) (hN : prodAll (pSh sh ps) = N) : indexA c sh dt ps = ⟨c, pSh sh ps, vals (pickedAt dt sh ps) N, 0⟩ := by unfold indexA; rw [if_pos h, h2, if_neg (by simp), hN]; simp
end

/-- What is gathered is what is picked. -/
theorem gather_picked {c : Bool} {sh dt : List Int} {ps : List PartD} (h : PicksOk sh ps) (hs : ShapeIn sh) (hb : shapeB (pSh sh ps) = true) {t : Nat} (ht : (t : Int) < prodAll (pSh sh ps)) : gatherAt c sh dt (pNum sh ps) (pCn sh ps) t = pickedAt dt sh ps t := by
  have hD := (where_bd h hs hb ht).1
  have hM := meant_in h hD
  have hin : insideN sh (meant sh (pNum sh ps) (digits (pCn sh ps) t)) sh.length = true := by
    have key : ∀ k, k ≤ sh.length → insideN sh (meant sh (pNum sh ps) (digits (pCn sh ps) t)) k = true := by
      intro k
      induction k with
      | zero => intro _; rfl
      | succ k ih => intro hk; exact inside_step (ih (by omega)) (hM k (by omega)).1 (hM k (by omega)).2
    exact key _ (Nat.le_refl _)
  unfold gatherAt pickedAt whereAt
  rw [if_pos hin]

end Go.Proofs.Ytlnangnimbgpoaa
namespace Go.Proofs.Ytlnangnimbgpoaa

/-- The first place of an element, the number of elements when it is not there. -/
def firstOf (c : Bool) (dt : List Int) (v : Int) (ch : Bool) : Nat := if c = ch then dt.findIdx (fun x => decide (x = v)) else dt.length

theorem first_here {dt : List Int} {v : Int} {k : Nat} (h : ∀ j, j < k → dt.getD j 0 ≠ v) (hk : k < dt.length) (he : dt.getD k 0 = v) : dt.findIdx (fun x => decide (x = v)) = k := by
  rw [List.findIdx_eq hk]
  have hg : dt[k] = dt.getD k 0 := by simp [List.getD, hk]
  refine ⟨by rw [hg]; simpa using he, fun j hj => ?_⟩
  have hj' : dt[j]'(by omega) = dt.getD j 0 := by simp [List.getD, Nat.lt_trans hj hk]
  rw [hj']
  simpa using h j hj

theorem first_none {dt : List Int} {v : Int} (h : ∀ j, j < dt.length → dt.getD j 0 ≠ v) : dt.findIdx (fun x => decide (x = v)) = dt.length := by
  rw [List.findIdx_eq_length]
  intro x hx
  obtain ⟨j, hj, rfl⟩ := List.getElem_of_mem hx
  have hj' : dt[j] = dt.getD j 0 := by simp [List.getD, hj]
  rw [hj']
  simpa using h j hj

theorem first_le (c : Bool) (dt : List Int) (v : Int) (ch : Bool) : firstOf c dt v ch ≤ dt.length := by
  unfold firstOf; split
  · exact List.findIdx_le_length
  · exact Nat.le_refl _

def find (c d : Bool) (sh dt sh' dt' : List Int) : Ans :=
  if arrOk c sh dt = true ∧ arrOk d sh' dt' = true then
    if sh.length ≠ 1 then noAns 4 else gatherAns false sh' (fun k => ((firstOf c dt (dt'.getD k 0) d : Int) + 1, 0)) dt'.length
  else noAns 3

def member (c d : Bool) (sh dt sh' dt' : List Int) : Ans :=
  if arrOk c sh dt = true ∧ arrOk d sh' dt' = true then gatherAns false sh (fun k => (truth (decide (firstOf d dt' (dt.getD k 0) c < dt'.length)), 0)) dt.length
  else noAns 3

end Go.Proofs.Ytlnangnimbgpoaa
namespace Go.Proofs.Ytlnangnimbgpoaa

/-- The place of the last axis, or of the first. -/
def axisAt (sh : List Int) (first : Bool) : Nat := if first then 0 else sh.length - 1
def axisB (sh : List Int) (first : Bool) : Int := prodAll (sh.take (axisAt sh first))
def axisN (sh : List Int) (first : Bool) : Int := sh.getD (axisAt sh first) 0
def axisA (sh : List Int) (first : Bool) : Int := prodAll (sh.drop (axisAt sh first + 1))
def without (sh : List Int) (first : Bool) : List Int := if first then sh.drop 1 else sh.take (sh.length - 1)

theorem axis_all (sh : List Int) (first : Bool) (h : sh ≠ []) : axisB sh first * axisN sh first * axisA sh first = prodAll sh := by
  have hl : 0 < sh.length := List.length_pos_iff.mpr h
  have hat : axisAt sh first < sh.length := by unfold axisAt; split <;> omega
  have e : sh = sh.take (axisAt sh first) ++ ([sh.getD (axisAt sh first) 0] ++ sh.drop (axisAt sh first + 1)) := by
    have h1 := List.take_append_drop (axisAt sh first + 1) sh
    rw [take_snoc sh _ hat, List.append_assoc] at h1
    exact h1.symm
  have e1 : prodAll [sh.getD (axisAt sh first) 0] = sh.getD (axisAt sh first) 0 := by simp [prodAll]
  have e2 := congrArg prodAll e
  rw [prodAll_append, prodAll_append, e1, ← Int.mul_assoc] at e2
  exact e2.symm

/-- What folding nothing gives. -/
def emptyOf (op : Int) : Int := [0, 0, 0, 1, 1, 1000000000000000, -1000000000000000, 0, 1, 1, 0, 0, 1, 1, 0, 1, 0].getD op.toNat 0

/-- Numbers folded from the right, and the code. -/
def foldR (op : Int) : List Int → Int × Int
  | [] => (emptyOf op, 0)
  | [x] => (x, 0)
  | x :: y :: r => if (foldR op (y :: r)).2 ≠ 0 then (0, (foldR op (y :: r)).2) else twoOf op x (foldR op (y :: r)).1

theorem foldR_cons {op x : Int} {r : List Int} (h : r ≠ []) : foldR op (x :: r) = if (foldR op r).2 ≠ 0 then (0, (foldR op r).2) else twoOf op x (foldR op r).1 := by
  cases r with
  | nil => exact absurd rfl h
  | cons y s => rfl

theorem foldR_code {op : Int} (xs : List Int) {r : List Int} {c : Int} (hr : r ≠ []) (h : foldR op r = (0, c)) (hc : c ≠ 0) : foldR op (xs ++ r) = (0, c) := by
  induction xs with
  | nil => exact h
  | cons x s ih =>
    rw [List.cons_append, foldR_cons (by simp [hr]), ih]
    simp [hc]

theorem two_code {op a b : Int} (h : (twoOf op a b).2 ≠ 0) : (twoOf op a b).1 = 0 := by
  unfold twoOf limited at h ⊢
  repeat' split
  all_goals simp_all

theorem two_bd (op a b : Int) : -1000000000000000 ≤ (twoOf op a b).1 ∧ (twoOf op a b).1 ≤ 1000000000000000 := by
  have hl : ∀ r : Int × Bool, -1000000000000000 ≤ (limited r).1 ∧ (limited r).1 ≤ 1000000000000000 := by
    intro r; unfold limited; split
    · rename_i h; exact inM_bd h.2
    · simp
  unfold twoOf
  repeat' split
  all_goals first | exact hl _ | simp

/-- The numbers along an axis. -/
def lineOf (dt : List Int) (p n after q : Nat) : List Int := (List.range n).map fun i => dt.getD ((p * n + i) * after + q) 0

theorem line_len (dt : List Int) (p n after q : Nat) : (lineOf dt p n after q).length = n := by simp [lineOf]
theorem line_get (dt : List Int) (p n after q i : Nat) (h : i < n) : (lineOf dt p n after q).getD i 0 = dt.getD ((p * n + i) * after + q) 0 := by simp [lineOf, h]
theorem line_snoc (dt : List Int) (p n after q k : Nat) (h : k < n) : ((lineOf dt p n after q).take (k + 1)).map (Value.int .i64) = ((lineOf dt p n after q).take k).map (Value.int .i64) ++ [.int .i64 (dt.getD ((p * n + k) * after + q) 0)] := by
  rw [take_snoc _ _ (by rw [line_len]; exact h), line_get _ _ _ _ _ _ h]; simp

theorem line_in {B n A p q i L : Nat} (hL : B * n * A = L) (hp : p < B) (hq : q < A) (hi : i < n) : (p * n + i) * A + q < L := by
  have h1 : p * n + i < B * n := by
    have : (p + 1) * n ≤ B * n := Nat.mul_le_mul_right n hp
    rw [Nat.add_mul] at this; omega
  have h2 : (p * n + i + 1) * A ≤ B * n * A := Nat.mul_le_mul_right A h1
  rw [Nat.add_mul] at h2; omega

def fold (op : Int) (c : Bool) (sh dt : List Int) (first : Bool) : Ans :=
  if arrOk c sh dt = true ∧ opIn op = true then
    if sh = [] then ⟨c, [], dt, 0⟩
    else if c = true ∧ axisN sh first ≠ 1 then noAns 3
    else gatherAns c (without sh first) (fun k => foldR op (lineOf dt (k / (axisA sh first).toNat) (axisN sh first).toNat (axisA sh first).toNat (k % (axisA sh first).toNat))) ((axisB sh first).toNat * (axisA sh first).toNat)
  else noAns 3

def scan (op : Int) (c : Bool) (sh dt : List Int) (first : Bool) : Ans :=
  if arrOk c sh dt = true ∧ opIn op = true then
    if sh = [] then ⟨c, [], dt, 0⟩
    else if c = true ∧ 1 < axisN sh first then noAns 3
    else gatherAns c sh (fun k => foldR op ((lineOf dt (k / (axisA sh first).toNat / (axisN sh first).toNat) (axisN sh first).toNat (axisA sh first).toNat (k % (axisA sh first).toNat)).take (k / (axisA sh first).toNat % (axisN sh first).toNat + 1))) ((axisB sh first).toNat * (axisN sh first).toNat * (axisA sh first).toNat)
  else noAns 3

end Go.Proofs.Ytlnangnimbgpoaa
namespace Go.Proofs.Ytlnangnimbgpoaa

def front (sh : List Int) : List Int := sh.take (sh.length - 1)
def last (sh : List Int) : Int := sh.getD (sh.length - 1) 0

/-- The shape of an array as Catenate takes it beside another. -/
def sideSh (sh sh' : List Int) : List Int := if sh = [] then front sh' ++ [1] else if sh.length + 1 = sh'.length then sh ++ [1] else sh
def sideDt (sh dt sh' : List Int) : List Int := if sh = [] then List.replicate (countOf (sideSh sh sh')).toNat (dt.getD 0 0) else dt

/-- k rows, each of m elements of one list and of n of another. -/
def catN (x y : List Int) (m n : Nat) : Nat → List Int
  | 0 => []
  | k + 1 => catN x y m n k ++ (x.drop (k * m)).take m ++ (y.drop (k * n)).take n

def catenate (c d : Bool) (sh dt sh' dt' : List Int) : Ans :=
  if arrOk c sh dt = true ∧ arrOk d sh' dt' = true then
    if (sideSh sh sh').length ≠ (sideSh sh' sh).length then noAns 4
    else if front (sideSh sh sh') ≠ front (sideSh sh' sh) then noAns 5
    else if c ≠ d ∧ sideDt sh dt sh' ≠ [] ∧ sideDt sh' dt' sh ≠ [] then noAns 3
    else if shapeB (front (sideSh sh sh') ++ [last (sideSh sh sh') + last (sideSh sh' sh)]) = false then noAns 7
    else ⟨if sideDt sh dt sh' = [] ∧ sideDt sh' dt' sh ≠ [] then d else c, front (sideSh sh sh') ++ [last (sideSh sh sh') + last (sideSh sh' sh)],
      catN (sideDt sh dt sh') (sideDt sh' dt' sh) (last (sideSh sh sh')).toNat (last (sideSh sh' sh)).toNat (prodAll (front (sideSh sh sh'))).toNat, 0⟩
  else noAns 3

section
variable {c d : Bool} {sh dt sh' dt' : List Int}
theorem cat_bad1 (h : arrOk c sh dt = false) : catenate c d sh dt sh' dt' = noAns 3 := by unfold catenate; rw [if_neg (by simp [h])]
theorem cat_bad2 (h : arrOk d sh' dt' = false) : catenate c d sh dt sh' dt' = noAns 3 := by unfold catenate; rw [if_neg (by simp [h])]
theorem cat_rank (h1 : arrOk c sh dt = true) (h2 : arrOk d sh' dt' = true) (h : (sideSh sh sh').length ≠ (sideSh sh' sh).length) : catenate c d sh dt sh' dt' = noAns 4 := by
  unfold catenate; rw [if_pos ⟨h1, h2⟩, if_pos h]
variable {L R x y : List Int}
theorem cat_len (h1 : arrOk c sh dt = true) (h2 : arrOk d sh' dt' = true) (hL : sideSh sh sh' = L) (hR : sideSh sh' sh = R) (h : L.length = R.length) (hf : front L ≠ front R) : catenate c d sh dt sh' dt' = noAns 5 := by
  unfold catenate; rw [if_pos ⟨h1, h2⟩, hL, hR, if_neg (by simp [h]), if_pos hf]
theorem cat_dom (h1 : arrOk c sh dt = true) (h2 : arrOk d sh' dt' = true) (hL : sideSh sh sh' = L) (hR : sideSh sh' sh = R) (hx : sideDt sh dt sh' = x) (hy : sideDt sh' dt' sh = y) (h : L.length = R.length) (hf : front L = front R) (hd : c ≠ d ∧ x ≠ [] ∧ y ≠ []) : catenate c d sh dt sh' dt' = noAns 3 := by
  unfold catenate; rw [if_pos ⟨h1, h2⟩, hL, hR, hx, hy, if_neg (by simp [h]), if_neg (by simp [hf]), if_pos hd]
theorem cat_big (h1 : arrOk c sh dt = true) (h2 : arrOk d sh' dt' = true) (hL : sideSh sh sh' = L) (hR : sideSh sh' sh = R) (hx : sideDt sh dt sh' = x) (hy : sideDt sh' dt' sh = y) (h : L.length = R.length) (hf : front L = front R) (hd : ¬ (c ≠ d ∧ x ≠ [] ∧ y ≠ [])) (hz : shapeB (front L ++ [last L + last R]) = false) : catenate c d sh dt sh' dt' = noAns 7 := by
  unfold catenate; rw [if_pos ⟨h1, h2⟩, hL, hR, hx, hy, if_neg (by simp [h]), if_neg (by simp [hf]), if_neg hd, if_pos hz]
theorem cat_go (h1 : arrOk c sh dt = true) (h2 : arrOk d sh' dt' = true) (hL : sideSh sh sh' = L) (hR : sideSh sh' sh = R) (hx : sideDt sh dt sh' = x) (hy : sideDt sh' dt' sh = y) (h : L.length = R.length) (hf : front L = front R) (hd : ¬ (c ≠ d ∧ x ≠ [] ∧ y ≠ [])) (hz : shapeB (front L ++ [last L + last R]) = true) :
    catenate c d sh dt sh' dt' = ⟨if x = [] ∧ y ≠ [] then d else c, front L ++ [last L + last R], catN x y (last L).toNat (last R).toNat (prodAll (front L)).toNat, 0⟩ := by
  unfold catenate; rw [if_pos ⟨h1, h2⟩, hL, hR, hx, hy, if_neg (by simp [h]), if_neg (by simp [hf]), if_neg hd, if_neg (by simp [hz])]
end

theorem shapeIn_snoc1 {l : List Int} (h : ShapeIn l) : ShapeIn (l ++ [1]) := by
  obtain ⟨ha, m, hm⟩ := h
  refine ⟨by rw [List.all_append, ha]; rfl, m, ?_⟩
  have key : ∀ (l : List Int) (n : Int), 1 ≤ n → n ≤ 10000 → l.all inCells = true → ∀ m, prodFrom l n = some m → prodFrom (l ++ [1]) n = some m := by
    intro l
    induction l with
    | nil => intro n h1 h2 _ m hm; simp only [prodFrom] at hm ⊢; simp [prodFrom]; cases hm; omega
    | cons x r ih =>
      intro n h1 h2 hl m hm
      simp only [List.all_cons, Bool.and_eq_true] at hl
      have hx : 0 ≤ x ∧ x ≤ 10000 := by simpa [inCells] using hl.1
      simp only [prodFrom, List.cons_append] at hm ⊢
      by_cases h0 : x = 0
      · rw [if_pos h0] at hm ⊢; exact ih n h1 h2 hl.2 m hm
      · rw [if_neg h0] at hm ⊢
        split at hm
        · cases hm
        · rename_i hle
          rw [if_neg hle]
          have : 1 * 1 ≤ n * x := Int.mul_le_mul h1 (by omega) (by omega) (by omega)
          exact ih _ (by omega) (by omega) hl.2 m hm
  exact key l 1 (by omega) (by omega) ha m hm

theorem front_snoc (l : List Int) (x : Int) : front (l ++ [x]) = l := by simp [front]
theorem last_snoc (l : List Int) (x : Int) : last (l ++ [x]) = x := by simp [last]
theorem front_last {l : List Int} (h : l ≠ []) : l = front l ++ [last l] := by
  have hl : 0 < l.length := List.length_pos_iff.mpr h
  unfold front last
  have := List.take_append_drop (l.length - 1) l
  have e : l.drop (l.length - 1) = [l.getD (l.length - 1) 0] := by
    rw [List.drop_eq_getElem_cons (by omega)]
    simp [List.getD, show l.length - 1 < l.length by omega, show l.length - 1 + 1 = l.length by omega]
  rw [e] at this
  exact this.symm

/-- The array as it is taken has a valid shape. -/
theorem side_in {c d : Bool} {sh dt sh' dt' : List Int} (h1 : arrOk c sh dt = true) (h2 : arrOk d sh' dt' = true) : ShapeIn (sideSh sh sh') ∧ (sideSh sh sh').length ≤ 5 ∧ 0 < (sideSh sh sh').length ∧ prodAll (sideSh sh sh') = (sideDt sh dt sh').length := by
  obtain ⟨i1, p1, l1⟩ := shapeIn_of h1
  obtain ⟨i2, p2, l2⟩ := shapeIn_of h2
  unfold sideDt
  by_cases e : sh = []
  · have hs : sideSh sh sh' = front sh' ++ [1] := by unfold sideSh; rw [if_pos e]
    have hi : ShapeIn (front sh' ++ [1]) := shapeIn_snoc1 (i2.take _)
    have hl : (front sh' ++ [1]).length ≤ 5 := by simp [front]; omega
    rw [if_pos e, hs]
    refine ⟨hi, hl, by simp, ?_⟩
    have hb : shapeB (front sh' ++ [1]) = true := by
      obtain ⟨ha, m, hm⟩ := hi
      exact shape_good (n := (front sh' ++ [1]).length) rfl hl m ha hm
    have hc := prodAll_count _ hb
    have hn := hi.bd.1
    simp
    omega
  · rw [if_neg e]
    unfold sideSh
    rw [if_neg e]
    by_cases e2 : sh.length + 1 = sh'.length
    · rw [if_pos e2]
      refine ⟨shapeIn_snoc1 i1, by simp; omega, by simp, ?_⟩
      rw [prodAll_append, p1]; simp [prodAll]
    · rw [if_neg e2]
      exact ⟨i1, l1, List.length_pos_iff.mpr e, p1⟩

end Go.Proofs.Ytlnangnimbgpoaa
namespace Go.Proofs.Ytlnangnimbgpoaa

/-- E holds D's numbers of [a, b), in order. -/
structure Srt (K : Int → Int) (D E : Nat → Int) (a b : Nat) : Prop where
  perm : (seg E a b).Perm (seg D a b)
  rise : Rise K E a b

/-- D rises below n. -/
def Up (D : Nat → Int) (n : Nat) : Prop := ∀ i j, i < j → j < n → D i < D j

/-- The blocks of bs numbers that begin from lo on, below hi, are in order, each by itself. -/
def Blocks (K : Int → Int) (D E : Nat → Int) (n bs lo hi : Nat) : Prop := ∀ k, lo ≤ k * bs → k * bs < hi → Srt K D E (k * bs) (min (k * bs + bs) n)

section
variable {K : Int → Int} {D E E' : Nat → Int} {a m b n bs k : Nat}

theorem Srt.low (h0 : Up D n) (h1 : Srt K D E a m) (h2 : Srt K D E m b) (hb : b ≤ n) : Low E a m b := fun i j h3 h4 h5 h6 => by
  refine perm_all (P := fun y => E i < y) h2.perm (fun t ht1 ht2 => ?_) j h5 h6
  exact perm_all (P := fun x => x < D t) h1.perm (fun u hu1 hu2 => h0 u t (by omega) (by omega)) i h3 h4

theorem Srt.merge (h1 : Srt K D E a m) (h2 : Srt K D E m b) (ham : a ≤ m) (hmb : m ≤ b) (hm : Merged K E E' a b) : Srt K D E' a b := by
  refine ⟨hm.perm.trans ?_, hm.rise⟩
  rw [seg_split ham hmb, seg_split (D := D) ham hmb]
  exact List.Perm.append h1.perm h2.perm

theorem Srt.keep (h : Srt K D E a b) (he : ∀ i, a ≤ i → i < b → E' i = E i) : Srt K D E' a b := by
  refine ⟨by rw [seg_congr he]; exact h.perm, fun i j h1 h2 h3 => ?_⟩
  rw [he i h1 (by omega), he j (by omega) h3]
  exact h.rise i j h1 h2 h3

theorem Srt.of_merged (hm : Merged K E E' a b) (he : ∀ i, a ≤ i → i < b → E i = D i) : Srt K D E' a b := ⟨by rw [← seg_congr he]; exact hm.perm, hm.rise⟩

theorem Srt.none (h : b ≤ a + 1) (he : ∀ i, a ≤ i → i < b → E i = D i) : Srt K D E a b := ⟨by rw [seg_congr he], fun i j h1 h2 h3 => by omega⟩

theorem mul_near {x y : Nat} (h : x * bs < y * bs + bs) : x < y ∨ x = y := by
  have : x * bs < (y + 1) * bs := by rw [Nat.add_mul, Nat.one_mul]; exact h
  have := Nat.lt_of_mul_lt_mul_right this
  omega

theorem mul_step {x y : Nat} (h : x < y) : x * bs + bs ≤ y * bs := by
  have : (x + 1) * bs ≤ y * bs := Nat.mul_le_mul_right bs h
  rwa [Nat.add_mul, Nat.one_mul] at this

theorem Blocks.start : Blocks K D D n bs 0 0 := fun k _ h => absurd h (by omega)

theorem Blocks.insert (h : Blocks K D E n bs 0 (k * bs)) (hb : 0 < bs) (he : ∀ i, k * bs ≤ i → E i = D i) (hm : Merged K E E' (k * bs) (min (k * bs + bs) n)) : Blocks K D E' n bs 0 (k * bs + bs) := fun x _ hx => by
  rcases mul_near hx with h1 | h1
  · have h2 := mul_step (bs := bs) h1
    exact (h x (by omega) (by omega)).keep fun i h3 h4 => hm.out i (by omega)
  · subst h1
    exact Srt.of_merged hm fun i h3 _ => he i h3

theorem Blocks.less {hi hi' : Nat} (h : Blocks K D E n bs a hi) (hh : hi' ≤ hi) : Blocks K D E n bs a hi' := fun x h1 h2 => h x h1 (by omega)

theorem Blocks.pair (h : Blocks K D E n bs (k * (2 * bs)) n) (hb : 0 < bs) (hn : k * (2 * bs) + bs < n) : Srt K D E (k * (2 * bs)) (k * (2 * bs) + bs) ∧ Srt K D E (k * (2 * bs) + bs) (min (k * (2 * bs) + 2 * bs) n) := by
  have e1 : (2 * k) * bs = k * (2 * bs) := by rw [Nat.mul_comm 2 k, Nat.mul_assoc]
  have e2 : (2 * k + 1) * bs = k * (2 * bs) + bs := by rw [Nat.add_mul, Nat.one_mul, e1]
  have h1 := h (2 * k) (by omega) (by omega)
  have h2 := h (2 * k + 1) (by omega) (by omega)
  rw [e1, show min (k * (2 * bs) + bs) n = k * (2 * bs) + bs by omega] at h1
  rw [e2, show k * (2 * bs) + bs + bs = k * (2 * bs) + 2 * bs by omega] at h2
  exact ⟨h1, h2⟩

/-- Two blocks made one. -/
theorem Blocks.merge (h1 : Blocks K D E n (2 * bs) 0 (k * (2 * bs))) (h2 : Blocks K D E n bs (k * (2 * bs)) n) (hb : 0 < bs) (hn : k * (2 * bs) + bs < n) (hm : Merged K E E' (k * (2 * bs)) (min (k * (2 * bs) + 2 * bs) n)) : Blocks K D E' n (2 * bs) 0 (k * (2 * bs) + 2 * bs) ∧ Blocks K D E' n bs (k * (2 * bs) + 2 * bs) n := by
  have hp := h2.pair hb hn
  refine ⟨fun x _ hx => ?_, fun x hx1 hx2 => ?_⟩
  · rcases mul_near (bs := 2 * bs) hx with h3 | h3
    · have h4 := mul_step (bs := 2 * bs) h3
      exact (h1 x (by omega) (by omega)).keep fun i h3 h4 => hm.out i (by omega)
    · subst h3
      exact hp.1.merge hp.2 (by omega) (by omega) hm
  · exact (h2 x (by omega) hx2).keep fun i h3 h4 => hm.out i (by omega)

/-- A last block that has no other behind it. -/
theorem Blocks.rest (h1 : Blocks K D E n (2 * bs) 0 (k * (2 * bs))) (h2 : Blocks K D E n bs (k * (2 * bs)) n) (hb : 0 < bs) (hn : n ≤ k * (2 * bs) + bs) : Blocks K D E n (2 * bs) 0 n := fun x _ hx => by
  rcases mul_near (bs := 2 * bs) (x := x) (y := k) (by omega) with h3 | h3
  · have h4 := mul_step (bs := 2 * bs) h3
    exact h1 x (by omega) (by omega)
  · subst h3
    have e1 : (2 * x) * bs = x * (2 * bs) := by rw [Nat.mul_comm 2 x, Nat.mul_assoc]
    have h4 := h2 (2 * x) (by omega) (by omega)
    rw [e1, show min (x * (2 * bs) + bs) n = n by omega] at h4
    rw [show min (x * (2 * bs) + 2 * bs) n = n by omega]
    exact h4

theorem Blocks.whole (h : Blocks K D E n bs 0 n) (hn : n ≤ bs) (h0 : ∀ i, n ≤ i → E i = D i) : Merged K D E 0 n := by
  by_cases hz : n = 0
  · subst hz
    exact ⟨by rw [seg_none (Nat.le_refl _), seg_none (Nat.le_refl _)], fun i j _ _ h3 => by omega, fun i hi => h0 i (by omega)⟩
  · have h1 := h 0 (by omega) (by omega)
    rw [Nat.zero_mul, show min (0 + bs) n = n by omega] at h1
    exact ⟨h1.perm, h1.rise, fun i hi => h0 i (by omega)⟩

/-- The first pass has come up to x. -/
structure St1 (K : Int → Int) (D : Nat → Int) (P : Int → Prop) (n : Nat) (E : Nat → Int) (x : Nat) : Prop where
  at_ : ∃ k, x = k * 20 ∧ Blocks K D E n 20 0 (k * 20)
  out : ∀ i, x ≤ i → E i = D i
  all : ∀ i, i < n → P (E i)

/-- All blocks of bs are in order. -/
structure St2 (K : Int → Int) (D : Nat → Int) (P : Int → Prop) (n : Nat) (E : Nat → Int) (bs : Nat) : Prop where
  blk : Blocks K D E n bs 0 n
  out : ∀ i, n ≤ i → E i = D i
  all : ∀ i, i < n → P (E i)

/-- Below x all blocks of two bs are, from x on those of bs. -/
structure St3 (K : Int → Int) (D : Nat → Int) (P : Int → Prop) (n : Nat) (E : Nat → Int) (bs x : Nat) : Prop where
  at_ : ∃ k, x = k * (2 * bs) ∧ Blocks K D E n (2 * bs) 0 (k * (2 * bs)) ∧ Blocks K D E n bs (k * (2 * bs)) n
  out : ∀ i, n ≤ i → E i = D i
  all : ∀ i, i < n → P (E i)

section
variable {P : Int → Prop} {x : Nat}

theorem St1.start (hp : ∀ i, i < n → P (D i)) : St1 K D P n D 0 := ⟨⟨0, rfl, fun k _ h => absurd h (by omega)⟩, fun _ _ => rfl, hp⟩

theorem St1.step (h : St1 K D P n E x) (hx : x + 20 ≤ n) (hm : Merged K E E' x (x + 20)) : St1 K D P n E' (x + 20) := by
  obtain ⟨k, e, hb⟩ := h.at_
  refine ⟨⟨k + 1, by omega, ?_⟩, fun i hi => ?_, hm.all h.all hx⟩
  · have := hb.insert (E' := E') (by omega) (fun i hi => h.out i (by omega)) (by rw [← e, show min (x + 20) n = x + 20 by omega]; exact hm)
    rwa [show (k + 1) * 20 = k * 20 + 20 by omega]
  · rw [hm.out i (by omega)]; exact h.out i (by omega)

theorem St1.last (h : St1 K D P n E x) (hx1 : x ≤ n) (hx : n < x + 20) (hm : Merged K E E' x n) : St2 K D P n E' 20 := by
  obtain ⟨k, e, hb⟩ := h.at_
  refine ⟨?_, fun i hi => ?_, hm.all h.all (Nat.le_refl _)⟩
  · have := hb.insert (E' := E') (by omega) (fun i hi => h.out i (by omega)) (by rw [← e, show min (x + 20) n = n by omega]; exact hm)
    exact this.less (by omega)
  · rw [hm.out i (by omega)]; exact h.out i (by omega)

theorem St2.whole (h : St2 K D P n E bs) (hn : n ≤ bs) : Merged K D E 0 n := h.blk.whole hn h.out

theorem St2.start (h : St2 K D P n E bs) : St3 K D P n E bs 0 := ⟨⟨0, by omega, fun k _ h => absurd h (by omega), by rw [Nat.zero_mul]; exact h.blk⟩, h.out, h.all⟩

theorem St3.pair (h : St3 K D P n E bs x) (hu : Up D n) (hb : 0 < bs) (hx : x + bs < n) : Rise K E x (x + bs) ∧ Rise K E (x + bs) (min (x + 2 * bs) n) ∧ Low E x (x + bs) (min (x + 2 * bs) n) := by
  obtain ⟨k, e, h1, h2⟩ := h.at_
  subst e
  obtain ⟨p1, p2⟩ := h2.pair hb hx
  exact ⟨p1.rise, p2.rise, p1.low hu p2 (by omega)⟩

theorem St3.step (h : St3 K D P n E bs x) (hb : 0 < bs) (hx : x + 2 * bs ≤ n) (hm : Merged K E E' x (x + 2 * bs)) : St3 K D P n E' bs (x + 2 * bs) := by
  obtain ⟨k, e, h1, h2⟩ := h.at_
  refine ⟨⟨k + 1, by rw [Nat.add_mul]; omega, ?_⟩, fun i hi => ?_, hm.all h.all hx⟩
  · have := h1.merge (E' := E') h2 hb (by omega) (by rw [← e, show min (x + 2 * bs) n = x + 2 * bs by omega]; exact hm)
    rwa [show (k + 1) * (2 * bs) = k * (2 * bs) + 2 * bs by rw [Nat.add_mul]; omega]
  · rw [hm.out i (by omega)]; exact h.out i hi

theorem St3.last (h : St3 K D P n E bs x) (hb : 0 < bs) (hx1 : x + bs < n) (hx : n < x + 2 * bs) (hm : Merged K E E' x n) : St2 K D P n E' (2 * bs) := by
  obtain ⟨k, e, h1, h2⟩ := h.at_
  refine ⟨?_, fun i hi => ?_, hm.all h.all (Nat.le_refl _)⟩
  · have := h1.merge (E' := E') h2 hb (by omega) (by rw [← e, show min (x + 2 * bs) n = n by omega]; exact hm)
    exact this.1.less (by omega)
  · rw [hm.out i (by omega)]; exact h.out i hi

theorem St3.rest (h : St3 K D P n E bs x) (hb : 0 < bs) (hx1 : n ≤ x + bs) : St2 K D P n E (2 * bs) := by
  obtain ⟨k, e, h1, h2⟩ := h.at_
  exact ⟨h1.rest h2 hb (by omega), h.out, h.all⟩
end

end

end Go.Proofs.Ytlnangnimbgpoaa
namespace Go.Proofs.Ytlnangnimbgpoaa

/-- The places that parts pick, the first t of them. -/
def whereL (sh : List Int) (ps : List PartD) (t : Nat) : List Int := (List.range t).map fun (i : Nat) => whereAt sh ps i

theorem whereL_succ (sh : List Int) (ps : List PartD) (t : Nat) : whereL sh ps (t + 1) = whereL sh ps t ++ [whereAt sh ps t] := by simp [whereL, List.range_succ]
theorem whereL_len (sh : List Int) (ps : List PartD) (t : Nat) : (whereL sh ps t).length = t := by simp [whereL]
theorem whereL_get (sh : List Int) (ps : List PartD) {t i : Nat} (h : i < t) : (whereL sh ps t).getD i 0 = whereAt sh ps i := by simp [whereL, h]

/-- An index whose first k numbers have been changed by f. -/
def mixN (f : List Int → Nat → Int) (D : List Int) (n k : Nat) : List Int := (List.range n).map fun i => if i < k then f D i else D.getD i 0

theorem mixN_len (f : List Int → Nat → Int) (D : List Int) (n k : Nat) : (mixN f D n k).length = n := by simp [mixN]
theorem mixN_get (f : List Int → Nat → Int) (D : List Int) {n k : Nat} (h : k < n) : (mixN f D n k).getD k 0 = D.getD k 0 := by
  unfold mixN; rw [map_range_get _ _ _ h, if_neg (by omega)]
theorem mixN_step (f : List Int → Nat → Int) (D : List Int) (n k : Nat) : (mixN f D n k).set k (f D k) = mixN f D n (k + 1) := by
  unfold mixN
  rw [map_range_set]
  refine map_range_eq fun i _ => ?_
  by_cases e : i = k
  · subst e; rw [if_pos rfl, if_pos (by omega)]
  · rw [if_neg e]
    by_cases h : i < k
    · rw [if_pos h, if_pos (by omega)]
    · rw [if_neg h, if_neg (by omega)]
theorem mixN_zero (f : List Int → Nat → Int) (sh : List Int) (p : Int) : mixN f (digits sh p) sh.length 0 = digits sh p := by
  have e : digits sh p = (List.range sh.length).map (digit sh p) := rfl
  conv => rhs; rw [e]
  refine map_range_eq fun i hi => ?_
  rw [if_neg (by omega), digits_get sh p i hi]
theorem mixN_all (f : List Int → Nat → Int) (D sh : List Int) {n : Nat} (h : sh.length = n) : mixN f D n n = meant sh f D := by
  subst h
  exact map_range_eq fun i hi => by rw [if_pos hi]

theorem pick_five {p : PartD} {L : Int} (h : pickCode p L = 0) : (pickSh p L).length ≤ 5 := by
  rcases pick_ok h with ha | ⟨ha, h2, _, _⟩
  · rw [pickSh_all ha]; simp
  · rw [pickSh_not ha]; exact (shapeIn_of h2).2.2

theorem parts_code {sh : List Int} {ps : List PartD} {r : Int} (h : picksCode sh ps = r) (h0 : r ≠ 0) : partsCode sh ps = r := by unfold partsCode; rw [h, if_pos h0]
theorem parts_seven {sh : List Int} {ps : List PartD} (h : picksCode sh ps = 0) (h0 : shapeB (pSh sh ps) = false) : partsCode sh ps = 7 := by unfold partsCode; rw [h, if_neg (by simp), if_neg (by simp [h0])]
theorem parts_zero {sh : List Int} {ps : List PartD} (h : picksCode sh ps = 0) (h0 : shapeB (pSh sh ps) = true) : partsCode sh ps = 0 := by unfold partsCode; rw [h, if_neg (by simp), if_pos h0]

end Go.Proofs.Ytlnangnimbgpoaa
namespace Go.Proofs.Ytlnangnimbgpoaa
open Go.Maps

/-- What is said of x behind k rounds, from the last place on: its first place, from 1 on, or 0. -/
def seenAt (zs : List Int) (x : Int) : Nat → Int
  | 0 => 0
  | k + 1 => if zs.getD (zs.length - 1 - k) 0 = x then ((zs.length - 1 - k : Nat) : Int) + 1 else seenAt zs x k

theorem seenAt_cases (zs : List Int) (x : Int) (k : Nat) (hk : k ≤ zs.length) :
    (∃ j, zs.length - k ≤ j ∧ j < zs.length ∧ zs.getD j 0 = x ∧ (∀ i, zs.length - k ≤ i → i < j → zs.getD i 0 ≠ x) ∧ seenAt zs x k = (j : Int) + 1) ∨ ((∀ i, zs.length - k ≤ i → i < zs.length → zs.getD i 0 ≠ x) ∧ seenAt zs x k = 0) := by
  induction k with
  | zero => exact .inr ⟨fun i h1 h2 => by omega, rfl⟩
  | succ k ih =>
    unfold seenAt
    by_cases h : zs.getD (zs.length - 1 - k) 0 = x
    · rw [if_pos h]
      exact .inl ⟨zs.length - 1 - k, by omega, by omega, h, fun i h1 h2 => by omega, rfl⟩
    · rw [if_neg h]
      rcases ih (by omega) with ⟨j, h1, h2, h3, h4, h5⟩ | ⟨h1, h2⟩
      · refine .inl ⟨j, by omega, h2, h3, fun i hi hj => ?_, h5⟩
        by_cases e : i = zs.length - 1 - k
        · rw [e]; exact h
        · exact h4 i (by omega) hj
      · refine .inr ⟨fun i hi hj => ?_, h2⟩
        by_cases e : i = zs.length - 1 - k
        · rw [e]; exact h
        · exact h1 i (by omega) hj

theorem seenAt_all (zs : List Int) (x : Int) : seenAt zs x zs.length = if zs.findIdx (fun y => decide (y = x)) < zs.length then ((zs.findIdx (fun y => decide (y = x)) : Nat) : Int) + 1 else 0 := by
  rcases seenAt_cases zs x zs.length (Nat.le_refl _) with ⟨j, _, h2, h3, h4, h5⟩ | ⟨h1, h2⟩
  · rw [first_here (fun i hi => h4 i (by omega) hi) h2 h3, if_pos h2, h5]
  · rw [first_none (fun i hi => h1 i (by omega) hi), if_neg (by omega), h2]

theorem seenAt_bd (zs : List Int) (x : Int) (k : Nat) (hk : k ≤ zs.length) : 0 ≤ seenAt zs x k ∧ seenAt zs x k ≤ zs.length := by
  rcases seenAt_cases zs x k hk with ⟨j, _, h2, _, _, h5⟩ | ⟨_, h2⟩
  · rw [h5]; omega
  · rw [h2]; omega

/-- The map behind k rounds, as a datum. -/
def placesD (zs : List Int) : Nat → DataW Unit
  | 0 => .map []
  | k + 1 => (placesD zs k).put (.int .i64 (zs.getD (zs.length - 1 - k) 0)) (.lit (.int .i64 (((zs.length - 1 - k : Nat) : Int) + 1)))

theorem placesD_isMap (zs : List Int) : ∀ k, IsMap (placesD zs k)
  | 0 => isMap_empty
  | k + 1 => (placesD_isMap zs k).put _ _

theorem placesD_at (zs : List Int) (x : Int) : ∀ k, (placesD zs k).atKey (.int .i64 x) (.lit (.int .i64 0)) = .lit (.int .i64 (seenAt zs x k))
  | 0 => rfl
  | k + 1 => by
    unfold placesD seenAt
    by_cases h : zs.getD (zs.length - 1 - k) 0 = x
    · rw [if_pos h, h, atKey_put_same (placesD_isMap zs k) (show WideAt.IsKeyLit (.int .i64 x) from trivial)]
    · rw [if_neg h, atKey_put_other (fun e => h (by cases e; rfl)), placesD_at zs x k]

end Go.Proofs.Ytlnangnimbgpoaa
namespace Go.Proofs.Ytlnangnimbgpoaa

/-- What is left of b behind t digits, from the last base on. -/
def encLeft (dt : List Int) (b : Int) : Nat → Int
  | 0 => b
  | t + 1 => if dt.getD (dt.length - 1 - t) 0 = 0 then 0 else encLeft dt b t / dt.getD (dt.length - 1 - t) 0

def encDigit (dt : List Int) (b : Int) (i : Nat) : Int := modOf (dt.getD i 0) (encLeft dt b (dt.length - 1 - i))

/-- j columns are written, and the last t numbers of the next. -/
def encCell (dt dt' : List Int) (m j t q : Nat) : Int := if q % m < j ∨ (q % m = j ∧ dt.length - t ≤ q / m) then encDigit dt (dt'.getD (q % m) 0) (q / m) else 0
def encMid (dt dt' : List Int) (m j t : Nat) : List Int := (List.range (dt.length * m)).map (encCell dt dt' m j t)
def encAll (dt dt' : List Int) (m : Nat) : List Int := (List.range (dt.length * m)).map fun q => encDigit dt (dt'.getD (q % m) 0) (q / m)

theorem encMid_len (dt dt' : List Int) (m j t : Nat) : (encMid dt dt' m j t).length = dt.length * m := by simp [encMid]

theorem enc_eq {n : Nat} {f g : Nat → Int} (h : ∀ q, q < n → f q = g q) : (List.range n).map f = (List.range n).map g := List.map_congr_left fun q hq => h q (by simpa using hq)

theorem enc_set (n k : Nat) (f : Nat → Int) (x : Int) : ((List.range n).map f).set k x = (List.range n).map fun i => if i = k then x else f i := by
  apply List.ext_getElem
  · simp
  · intro i h1 h2
    simp only [List.getElem_set, List.getElem_map, List.getElem_range]
    by_cases e : k = i
    · subst e; simp
    · rw [if_neg e, if_neg (fun h => e h.symm)]

theorem encMid_zero (dt dt' : List Int) (m : Nat) : encMid dt dt' m 0 0 = List.replicate (dt.length * m) 0 := by
  have e : List.replicate (dt.length * m) (0 : Int) = (List.range (dt.length * m)).map fun _ => 0 := by rw [List.map_const']; simp
  rw [e]
  refine enc_eq fun q hq => ?_
  unfold encCell
  rw [if_neg]
  rintro (h | ⟨_, h⟩)
  · omega
  · have := Nat.div_lt_of_lt_mul (show q < m * dt.length by rw [Nat.mul_comm]; exact hq)
    omega

theorem place_lt {n m i j : Nat} (hi : i < n) (hj : j < m) : i * m + j < n * m := by
  have : (i + 1) * m ≤ n * m := Nat.mul_le_mul_right m hi
  rw [Nat.add_mul, Nat.one_mul] at this
  omega

theorem at_place {m i j : Nat} (hj : j < m) : (i * m + j) / m = i ∧ (i * m + j) % m = j := by
  have hm : 0 < m := by omega
  exact ⟨by rw [Nat.add_comm, Nat.add_mul_div_right _ _ hm, Nat.div_eq_of_lt hj, Nat.zero_add], by rw [Nat.add_comm, Nat.add_mul_mod_self_right, Nat.mod_eq_of_lt hj]⟩

theorem encMid_step (dt dt' : List Int) {m j t : Nat} (hj : j < m) (ht : t < dt.length) : (encMid dt dt' m j t).set ((dt.length - 1 - t) * m + j) (encDigit dt (dt'.getD j 0) (dt.length - 1 - t)) = encMid dt dt' m j (t + 1) := by
  obtain ⟨e1, e2⟩ := at_place (i := dt.length - 1 - t) hj
  unfold encMid
  rw [enc_set]
  refine enc_eq fun q _ => ?_
  by_cases e : q = (dt.length - 1 - t) * m + j
  · rw [if_pos e]
    unfold encCell
    rw [e, e1, e2, if_pos (.inr ⟨rfl, by omega⟩)]
  · rw [if_neg e]
    unfold encCell
    have hq := Nat.div_add_mod q m
    by_cases h : q % m < j ∨ (q % m = j ∧ dt.length - t ≤ q / m)
    · rw [if_pos h, if_pos (h.imp id fun h => ⟨h.1, by omega⟩)]
    · rw [if_neg h, if_neg]
      rintro (h' | ⟨h1, h2⟩)
      · exact h (.inl h')
      · by_cases h3 : dt.length - t ≤ q / m
        · exact h (.inr ⟨h1, h3⟩)
        · have h4 : q / m = dt.length - 1 - t := by omega
          rw [h4, h1, Nat.mul_comm] at hq
          exact e hq.symm

theorem encMid_col (dt dt' : List Int) {m j : Nat} : encMid dt dt' m j dt.length = encMid dt dt' m (j + 1) 0 := by
  refine enc_eq fun q hq => ?_
  have hlt := Nat.div_lt_of_lt_mul (show q < m * dt.length by rw [Nat.mul_comm]; exact hq)
  unfold encCell
  generalize q / m = x at *
  generalize q % m = y at *
  by_cases h : y < j + 1
  · rw [if_pos (by omega), if_pos (.inl h)]
  · rw [if_neg (by omega), if_neg (by omega)]

theorem encMid_all (dt dt' : List Int) (m : Nat) : encMid dt dt' m m 0 = encAll dt dt' m := by
  refine enc_eq fun q hq => ?_
  have hm : 0 < m := by
    rcases Nat.eq_zero_or_pos m with h | h
    · subst h; simp at hq
    · exact h
  unfold encCell
  rw [if_pos (.inl (Nat.mod_lt _ hm))]

theorem encLeft_bd {dt : List Int} {b : Int} (hd : ∀ k, k < dt.length → 0 ≤ dt.getD k 0) (hb : -1000000000000000 ≤ b ∧ b ≤ 1000000000000000) (t : Nat) (ht : t ≤ dt.length) : -1000000000000000 ≤ encLeft dt b t ∧ encLeft dt b t ≤ 1000000000000000 := by
  induction t with
  | zero => exact hb
  | succ t ih =>
    have h := ih (by omega)
    have ha := hd (dt.length - 1 - t) (by omega)
    unfold encLeft
    split
    · omega
    · rename_i h0
      generalize dt.getD (dt.length - 1 - t) 0 = a at *
      generalize encLeft dt b t = x at *
      have hpos : 0 < a := by omega
      constructor
      · exact (Int.le_ediv_iff_mul_le hpos).2 (by
          have : -1000000000000000 * a ≤ -1000000000000000 * 1 := by omega
          omega)
      · by_cases hx : 0 ≤ x
        · exact Int.le_trans (Int.ediv_le_self _ hx) h.2
        · have := Int.ediv_neg_of_neg_of_pos (show x < 0 by omega) hpos
          omega

theorem nonNeg_at {dt : List Int} (h : dt.all nonNeg = true) {q : Nat} (hq : q < dt.length) : 0 ≤ dt.getD q 0 := by
  have hm : dt.getD q 0 ∈ dt := by simp [List.getD, hq]
  have h2 := List.all_eq_true.1 h _ hm
  unfold nonNeg at h2
  exact of_decide_eq_true h2

theorem div_left {x a : Int} (ha : 0 < a) : (x - modOf a x).tdiv a = x / a := by
  have hm : modOf a x = x % a := by
    unfold modOf
    rw [if_neg (by omega)]
    have h1 := Int.tmod_lt_of_pos x ha
    have h2 : -a < x.tmod a := Int.lt_tmod_of_pos x ha
    have h3 := Int.mul_tdiv_add_tmod x a
    split
    · rename_i h
      have h4 : x.tmod a < 0 := by
        by_cases h4 : x.tmod a < 0
        · exact h4
        · exfalso; apply h.2; rw [decide_eq_false h4, decide_eq_false (by omega)]
      have := (Int.ediv_emod_unique (a := x) (r := x.tmod a + a) (q := x.tdiv a - 1) ha).2 ⟨by rw [Int.mul_sub, Int.mul_one]; omega, by omega, by omega⟩
      exact this.2.symm
    · rename_i h
      have h4 : ¬ x.tmod a < 0 := by
        intro h4
        apply h
        refine ⟨by omega, ?_⟩
        rw [decide_eq_true h4, decide_eq_false (by omega)]; simp
      have := (Int.ediv_emod_unique (a := x) (r := x.tmod a) (q := x.tdiv a) ha).2 ⟨by omega, by omega, by omega⟩
      exact this.2.symm
  rw [hm]
  have h := Int.mul_ediv_add_emod x a
  have e : x - x % a = a * (x / a) := by omega
  rw [e, Int.mul_tdiv_cancel_left _ (by omega)]

theorem encDigit_here {dt : List Int} {b : Int} {k : Nat} (hk : k < dt.length) : encDigit dt b (dt.length - 1 - k) = modOf (dt.getD (dt.length - 1 - k) 0) (encLeft dt b k) := by
  unfold encDigit
  rw [show dt.length - 1 - (dt.length - 1 - k) = k by omega]

theorem encLeft_step {dt : List Int} {b : Int} {k : Nat} (ha : 0 ≤ dt.getD (dt.length - 1 - k) 0) : encLeft dt b (k + 1) = (encLeft dt b k - modOf (dt.getD (dt.length - 1 - k) 0) (encLeft dt b k)).tdiv (if dt.getD (dt.length - 1 - k) 0 < 1 then 1 else dt.getD (dt.length - 1 - k) 0) := by
  rw [encLeft]
  generalize dt.getD (dt.length - 1 - k) 0 = a at *
  generalize encLeft dt b k = x
  by_cases h : a = 0
  · subst h; simp [modOf]
  · rw [if_neg h, if_neg (by omega), div_left (by omega)]

/-- The digits of b behind k rounds, from the last base on. -/
def digN (dt : List Int) (b : Int) (k : Nat) : List Int := (List.range dt.length).map fun i => if dt.length - k ≤ i then encDigit dt b i else 0
theorem digN_len (dt : List Int) (b : Int) (k : Nat) : (digN dt b k).length = dt.length := by simp [digN]
theorem digN_zero (dt : List Int) (b : Int) : digN dt b 0 = List.replicate dt.length 0 := by
  have e : List.replicate dt.length (0 : Int) = (List.range dt.length).map fun _ => 0 := by rw [List.map_const']; simp
  rw [e]
  exact enc_eq fun q hq => by rw [if_neg (by omega)]
theorem digN_step (dt : List Int) (b : Int) {k : Nat} (hk : k < dt.length) : (digN dt b k).set (dt.length - 1 - k) (encDigit dt b (dt.length - 1 - k)) = digN dt b (k + 1) := by
  unfold digN
  rw [enc_set]
  refine enc_eq fun q hq => ?_
  by_cases e : q = dt.length - 1 - k
  · rw [if_pos e, if_pos (by omega), e]
  · rw [if_neg e]
    by_cases h : dt.length - k ≤ q
    · rw [if_pos h, if_pos (by omega)]
    · rw [if_neg h, if_neg (by omega)]
theorem digN_all (dt : List Int) (b : Int) : digN dt b dt.length = (List.range dt.length).map (encDigit dt b) := enc_eq fun q _ => by rw [if_pos (by omega)]

def encode (c d : Bool) (sh dt sh' dt' : List Int) : Ans :=
  if arrOk c sh dt = true ∧ arrOk d sh' dt' = true then
    if listCode c sh.length ≠ 0 then noAns (listCode c sh.length)
    else if dt.all nonNeg = false then noAns 3
    else if d = true then noAns 3
    else if shapeB (sh ++ sh') = false then noAns 7
    else ⟨false, sh ++ sh', encAll dt dt' dt'.length, 0⟩
  else noAns 3

section
variable {c d : Bool} {sh dt sh' dt' : List Int}
theorem encode_bad1 (h : arrOk c sh dt = false) : encode c d sh dt sh' dt' = noAns 3 := by unfold encode; rw [if_neg (by simp [h])]
theorem encode_bad2 (h : arrOk d sh' dt' = false) : encode c d sh dt sh' dt' = noAns 3 := by unfold encode; rw [if_neg (by simp [h])]
theorem encode_list (h1 : arrOk c sh dt = true) (h2 : arrOk d sh' dt' = true) (r : Int) (h : listCode c sh.length = r) (hr : r ≠ 0) : encode c d sh dt sh' dt' = noAns r := by
  unfold encode; rw [if_pos ⟨h1, h2⟩, h, if_pos hr]
theorem encode_neg (h1 : arrOk c sh dt = true) (h2 : arrOk d sh' dt' = true) (h : listCode c sh.length = 0) (hn : dt.all nonNeg = false) : encode c d sh dt sh' dt' = noAns 3 := by
  unfold encode; rw [if_pos ⟨h1, h2⟩, if_neg (by simp [h]), if_pos hn]
theorem encode_char (h1 : arrOk c sh dt = true) (h2 : arrOk true sh' dt' = true) (h : listCode c sh.length = 0) (hn : dt.all nonNeg = true) : encode c true sh dt sh' dt' = noAns 3 := by
  unfold encode; rw [if_pos ⟨h1, h2⟩, if_neg (by simp [h]), if_neg (by simp [hn]), if_pos rfl]
theorem encode_big (h1 : arrOk c sh dt = true) (h2 : arrOk false sh' dt' = true) (h : listCode c sh.length = 0) (hn : dt.all nonNeg = true) (hs : shapeB (sh ++ sh') = false) : encode c false sh dt sh' dt' = noAns 7 := by
  unfold encode; rw [if_pos ⟨h1, h2⟩, if_neg (by simp [h]), if_neg (by simp [hn]), if_neg (by simp), if_pos hs]
theorem encode_go (h1 : arrOk c sh dt = true) (h2 : arrOk false sh' dt' = true) (h : listCode c sh.length = 0) (hn : dt.all nonNeg = true) (hs : shapeB (sh ++ sh') = true) : encode c false sh dt sh' dt' = ⟨false, sh ++ sh', encAll dt dt' dt'.length, 0⟩ := by
  unfold encode; rw [if_pos ⟨h1, h2⟩, if_neg (by simp [h]), if_neg (by simp [hn]), if_neg (by simp), if_neg (by simp [hs])]
end

end Go.Proofs.Ytlnangnimbgpoaa
namespace Go.Proofs.Ytlnangnimbgpoaa

/-- The first k of n numbers, 0 for the others. -/
def soFar (f : Nat → Int) (n k : Nat) : List Int := (List.range n).map fun i => if i < k then f i else 0

theorem soFar_len (f : Nat → Int) (n k : Nat) : (soFar f n k).length = n := by simp [soFar]
theorem soFar_zero (f : Nat → Int) (n : Nat) : soFar f n 0 = List.replicate n 0 := by
  have e : List.replicate n (0 : Int) = (List.range n).map fun _ => 0 := by rw [List.map_const']; simp
  rw [e]
  exact enc_eq fun q _ => by rw [if_neg (by omega)]
theorem soFar_step (f : Nat → Int) (n k : Nat) : (soFar f n k).set k (f k) = soFar f n (k + 1) := by
  unfold soFar
  rw [enc_set]
  refine enc_eq fun q _ => ?_
  by_cases e : q = k
  · rw [if_pos e, if_pos (by omega), e]
  · rw [if_neg e]
    by_cases h : q < k
    · rw [if_pos h, if_pos (by omega)]
    · rw [if_neg h, if_neg (by omega)]
theorem soFar_all (f : Nat → Int) (n : Nat) : soFar f n n = (List.range n).map f := enc_eq fun q hq => by rw [if_pos hq]

/-- The first place, from 1 on, at which x of kind c stands among numbers of kind d; else 0. -/
def placeAmong (c d : Bool) (dt' : List Int) (x : Int) : Int := if c = d then seenAt dt' x dt'.length else 0

theorem placeAmong_bd (c d : Bool) (dt' : List Int) (x : Int) : 0 ≤ placeAmong c d dt' x ∧ placeAmong c d dt' x ≤ dt'.length := by
  unfold placeAmong
  split
  · exact seenAt_bd _ _ _ (Nat.le_refl _)
  · omega

theorem placeAmong_first (c d : Bool) (dt' : List Int) (x : Int) : placeAmong c d dt' x = if firstOf d dt' x c < dt'.length then ((firstOf d dt' x c : Nat) : Int) + 1 else 0 := by
  unfold placeAmong firstOf
  by_cases h : c = d
  · subst h; rw [if_pos rfl, if_pos rfl, seenAt_all]
  · have h' : ¬ d = c := fun e => h e.symm
    simp [h, h']

end Go.Proofs.Ytlnangnimbgpoaa
