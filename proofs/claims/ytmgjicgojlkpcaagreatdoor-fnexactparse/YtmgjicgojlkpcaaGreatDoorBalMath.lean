import Derived.Test.YtmgjicgojlkpcaaGreatDoorParseMath5
namespace Go.Proofs.YtmgjicgojlkpcaaGreatDoor
open Go

/-- The brackets open ahead of place n, of one sort. -/
def dep (X : Seen) (o c : Nat) : Nat → Int
  | 0 => 0
  | n + 1 => dep X o c n + (if X.cl n = o then 1 else if X.cl n = c then -1 else 0)

/-- From i up to q the brackets of one sort are balanced. -/
def Bal (X : Seen) (o c i q : Nat) : Prop := i ≤ q ∧ dep X o c q = dep X o c i ∧ ∀ k, i ≤ k → k ≤ q → dep X o c i ≤ dep X o c k

def BalR (X : Seen) (o c i : Nat) (x : Option Res) : Prop := ∀ q l, x = some (true, q, l) → Bal X o c i q

section
variable {X : Seen} {o c : Nat}

theorem Bal.refl (i : Nat) : Bal X o c i i := ⟨Nat.le_refl _, rfl, fun k h1 h2 => by rw [show k = i by omega]; exact Int.le_refl _⟩
theorem Bal.trans {i j q : Nat} (h1 : Bal X o c i j) (h2 : Bal X o c j q) : Bal X o c i q := by
  obtain ⟨a1, a2, a3⟩ := h1
  obtain ⟨b1, b2, b3⟩ := h2
  refine ⟨by omega, by omega, fun k hk hq => ?_⟩
  by_cases h : k ≤ j
  · exact a3 k hk h
  · have := b3 k (by omega) hq
    omega
theorem Bal.one {i : Nat} (h1 : X.cl i ≠ o) (h2 : X.cl i ≠ c) : Bal X o c i (i + 1) := by
  have e : dep X o c (i + 1) = dep X o c i := by rw [dep, if_neg h1, if_neg h2]; omega
  refine ⟨by omega, e, fun k hk hq => ?_⟩
  by_cases h : k = i
  · subst h; exact Int.le_refl _
  · have : k = i + 1 := by omega
    subst this
    omega
theorem Bal.wrap {i q : Nat} (hoc : o ≠ c) (h1 : X.cl i = o) (h : Bal X o c (i + 1) q) (h2 : X.cl q = c) : Bal X o c i (q + 1) := by
  obtain ⟨a1, a2, a3⟩ := h
  have e1 : dep X o c (i + 1) = dep X o c i + 1 := by rw [dep, if_pos h1]
  have e2 : dep X o c (q + 1) = dep X o c q - 1 := by rw [dep, if_neg (by rw [h2]; exact fun e => hoc e.symm), if_pos h2]; omega
  refine ⟨by omega, by omega, fun k hk hq => ?_⟩
  by_cases h : k = i
  · subst h; exact Int.le_refl _
  · by_cases h' : k = q + 1
    · subst h'; omega
    · have := a3 k (by omega) (by omega)
      omega

theorem BalR.ok {i q : Nat} {l : List (List NodeD)} (h : Bal X o c i q) : BalR X o c i (okR q l) := fun q' l' e => by cases e; exact h
theorem BalR.bad {i q : Nat} : BalR X o c i (badR q) := fun q' l' e => by cases e
theorem BalR.bind {i j : Nat} {x : Option Res} {k : Nat → List (List NodeD) → Option Res} (h : BalR X o c j x) (hk : ∀ q l, Bal X o c j q → BalR X o c i (k q l)) : BalR X o c i (bindR x k) := by
  cases x with
  | none => intro q l e; cases e
  | some r =>
    obtain ⟨b, q, l⟩ := r
    cases b with
    | false => exact BalR.bad
    | true => exact hk q l (h q l rfl)
theorem BalR.ite {p : Prop} [Decidable p] {i : Nat} {x y : Option Res} (h1 : p → BalR X o c i x) (h2 : ¬ p → BalR X o c i y) : BalR X o c i (if p then x else y) := by
  split
  · exact h1 ‹_›
  · exact h2 ‹_›
theorem BalR.from {i j : Nat} {x : Option Res} (h : BalR X o c j x) (hi : Bal X o c i j) : BalR X o c i x := fun q l e => hi.trans (h q l e)

/-- The two sorts. -/
def OC (o c : Nat) : Prop := (o = 40 ∧ c = 41) ∨ (o = 91 ∧ c = 93)

theorem one_of (hoc : OC o c) {i v : Nat} (h : X.cl i = v) (h1 : v ≠ 40) (h2 : v ≠ 41) (h3 : v ≠ 91) (h4 : v ≠ 93) : Bal X o c i (i + 1) := by
  rcases hoc with ⟨rfl, rfl⟩ | ⟨rfl, rfl⟩
  · exact Bal.one (by omega) (by omega)
  · exact Bal.one (by omega) (by omega)
theorem one_prim (hoc : OC o c) {i : Nat} (h : 0 < primNo (X.cl i)) : Bal X o c i (i + 1) := by
  have k : ∀ v, primNo v = 0 → X.cl i ≠ v := fun v hv e => by rw [e, hv] at h; omega
  exact one_of hoc rfl (k _ (by decide)) (k _ (by decide)) (k _ (by decide)) (k _ (by decide))
theorem one_scal (hoc : OC o c) {i : Nat} (h : 0 < scalNo (X.cl i)) : Bal X o c i (i + 1) := one_prim hoc (by unfold scalNo at h; split at h <;> omega)
theorem wrap_r (hoc : OC o c) {i q : Nat} (h1 : X.cl i = 40) (h : Bal X o c (i + 1) q) (h2 : X.cl q = 41) : Bal X o c i (q + 1) := by
  rcases hoc with ⟨rfl, rfl⟩ | ⟨rfl, rfl⟩
  · exact Bal.wrap (by decide) h1 h h2
  · exact ((Bal.one (by omega) (by omega)).trans h).trans (Bal.one (by omega) (by omega))
theorem wrap_s (hoc : OC o c) {i q : Nat} (h1 : X.cl i = 91) (h : Bal X o c (i + 1) q) (h2 : X.cl q = 93) : Bal X o c i (q + 1) := by
  rcases hoc with ⟨rfl, rfl⟩ | ⟨rfl, rfl⟩
  · exact ((Bal.one (by omega) (by omega)).trans h).trans (Bal.one (by omega) (by omega))
  · exact Bal.wrap (by decide) h1 h h2

theorem nums_bal (hoc : OC o c) : ∀ (f i : Nat), Bal X o c i (i + (numsTo X f i).length)
  | 0, i => Bal.refl i
  | f + 1, i => by
    rw [numsTo]
    split
    · rename_i h
      have := (one_of hoc h (by decide) (by decide) (by decide) (by decide)).trans (nums_bal hoc f (i + 1))
      rw [List.length_cons]
      rwa [show i + ((numsTo X f (i + 1)).length + 1) = i + 1 + (numsTo X f (i + 1)).length by omega]
    · exact Bal.refl i

section
variable {R : Nat → Nat → List NodeD → Option Res} (hoc : OC o c) (hR : ∀ m i a, BalR X o c i (R m i a))

theorem rest_bal (hR : ∀ m i a, BalR X o c i (R m i a)) (q : Nat) (a : List NodeD) : BalR X o c q (restS X R q a) :=
  BalR.ite (fun _ => BalR.bind (hR 3 q []) fun q2 _ h2 => BalR.bind (hR 0 q2 []) fun _ _ h3 => BalR.ok (h2.trans h3)) fun _ => BalR.ok (Bal.refl _)
theorem from_bal (hR : ∀ m i a, BalR X o c i (R m i a)) (q : Nat) (a : List NodeD) : BalR X o c q (fromS X R q a) := BalR.bind (hR 1 q a) fun q2 _ h2 => (rest_bal hR q2 _).from h2
theorem atom_bal (hoc : OC o c) (hR : ∀ m i a, BalR X o c i (R m i a)) (i : Nat) : BalR X o c i (atomS X R i) := by
  have one : ∀ {v : Nat} {l : List (List NodeD)}, X.cl i = v → v ≠ 40 → v ≠ 41 → v ≠ 91 → v ≠ 93 → BalR X o c i (okR (i + 1) l) := fun h h1 h2 h3 h4 => BalR.ok (one_of hoc h h1 h2 h3 h4)
  exact BalR.ite (fun _ => BalR.ok (nums_bal hoc _ _)) fun _ => BalR.ite (fun h40 => BalR.bind (hR 0 (i + 1) []) fun q _ h => BalR.ite (fun h41 => BalR.ok (wrap_r hoc h40 h h41)) fun _ => BalR.bad) fun _ => BalR.ite (fun h => one h (by decide) (by decide) (by decide) (by decide)) fun _ => BalR.ite (fun h => one h (by decide) (by decide) (by decide) (by decide)) fun _ => BalR.ite (fun h => one h (by decide) (by decide) (by decide) (by decide)) fun _ => BalR.ite (fun h => one h (by decide) (by decide) (by decide) (by decide)) fun _ => BalR.ite (fun h => one h (by decide) (by decide) (by decide) (by decide)) fun _ => BalR.bad
theorem expr_bal (hoc : OC o c) (hR : ∀ m i a, BalR X o c i (R m i a)) (i : Nat) : BalR X o c i (exprS X R i) :=
  BalR.ite (fun _ => BalR.bind (hR 3 i []) fun q _ h => BalR.bind (hR 0 q []) fun _ _ h2 => BalR.ok (h.trans h2)) fun _ => BalR.bind (atom_bal hoc hR i) fun q _ h => (from_bal hR q _).from h
theorem idx_bal (hoc : OC o c) (hR : ∀ m i a, BalR X o c i (R m i a)) (i : Nat) (a : List NodeD) : BalR X o c i (idxS X R i a) :=
  BalR.ite (fun h91 => BalR.bind (hR 2 (i + 1) []) fun q _ h => BalR.ite (fun h93 => (hR 1 (q + 1) _).from (wrap_s hoc h91 h h93)) fun _ => BalR.bad) fun _ => BalR.ok (Bal.refl _)
theorem parts_bal (hoc : OC o c) (hR : ∀ m i a, BalR X o c i (R m i a)) (i : Nat) : BalR X o c i (partsS X R i) :=
  BalR.bind (BalR.ite (fun _ => BalR.ok (Bal.refl _)) fun _ => hR 0 i []) fun q _ h => BalR.ite (fun h59 => BalR.bind (hR 2 (q + 1) []) fun _ _ h2 => BalR.ok ((h.trans (one_of hoc h59 (by decide) (by decide) (by decide) (by decide))).trans h2)) fun _ => BalR.ok h
theorem scal_bal (hoc : OC o c) (i n : Nat) : BalR X o c i (scalS X i n) := by
  have one : ∀ {v : Nat} {l : List (List NodeD)}, X.cl i = v → v ≠ 40 → v ≠ 41 → v ≠ 91 → v ≠ 93 → BalR X o c i (okR (i + 1) l) := fun h h1 h2 h3 h4 => BalR.ok (one_of hoc h h1 h2 h3 h4)
  exact BalR.ite (fun h => one h (by decide) (by decide) (by decide) (by decide)) fun _ => BalR.ite (fun h => one h (by decide) (by decide) (by decide) (by decide)) fun _ => BalR.ite (fun h => one h (by decide) (by decide) (by decide) (by decide)) fun _ => BalR.ite (fun h => one h (by decide) (by decide) (by decide) (by decide)) fun _ => BalR.ite (fun h => BalR.ite (fun hs => BalR.ok ((one_of hoc h (by decide) (by decide) (by decide) (by decide)).trans (one_scal hoc hs))) fun _ => BalR.bad) fun _ => BalR.ok (Bal.refl _)
theorem braces_bal (hoc : OC o c) (hR : ∀ m i a, BalR X o c i (R m i a)) {i : Nat} (h0 : X.cl i = 123) : BalR X o c i (bracesS X R i) := by
  have h1 : Bal X o c i (i + 1) := one_of hoc h0 (by decide) (by decide) (by decide) (by decide)
  exact BalR.ite (fun h => BalR.ok (h1.trans (one_of hoc h (by decide) (by decide) (by decide) (by decide)))) fun _ => BalR.bind (hR 4 (i + 1) []) fun q _ h => BalR.ite (fun h2 => BalR.ok ((h1.trans h).trans (one_of hoc h2 (by decide) (by decide) (by decide) (by decide)))) fun _ => BalR.bad
theorem fn_bal (hoc : OC o c) (hR : ∀ m i a, BalR X o c i (R m i a)) (i : Nat) : BalR X o c i (fnS X R i) :=
  BalR.ite (fun h => (scal_bal hoc (i + 1) _).from (one_scal hoc h)) fun _ => BalR.ite (fun h => BalR.ite (fun h2 => BalR.ite (fun h3 => BalR.ok (((one_of hoc h (by decide) (by decide) (by decide) (by decide)).trans (one_of hoc h2 (by decide) (by decide) (by decide) (by decide))).trans (one_scal hoc h3))) fun _ => BalR.bad) fun _ => BalR.bad) fun _ => BalR.ite (fun h => braces_bal hoc hR h) fun _ => BalR.ite (fun h => BalR.ok (one_of hoc h (by decide) (by decide) (by decide) (by decide))) fun _ => BalR.ite (fun h => BalR.ok (one_of hoc h (by decide) (by decide) (by decide) (by decide))) fun _ => BalR.ite (fun h => BalR.ok (one_prim hoc h)) fun _ => BalR.bad
theorem ser_bal (hoc : OC o c) (hR : ∀ m i a, BalR X o c i (R m i a)) (m m' i : Nat) : BalR X o c i (bindR (R m i []) fun q l => if X.cl q = 8900 then bindR (R m' (q + 1) []) fun q2 l2 => okR q2 (l ++ l2) else okR q l) :=
  BalR.bind (hR m i []) fun q _ h => BalR.ite (fun h2 => BalR.bind (hR m' (q + 1) []) fun _ _ h3 => BalR.ok ((h.trans (one_of hoc h2 (by decide) (by decide) (by decide) (by decide))).trans h3)) fun _ => BalR.ok h
theorem item_bal (hoc : OC o c) (hR : ∀ m i a, BalR X o c i (R m i a)) (i : Nat) : BalR X o c i (itemS X R i) :=
  BalR.bind (hR 5 i []) fun q _ h => BalR.ite (fun h2 => BalR.bind (hR 0 (q + 1) []) fun _ _ h3 => BalR.ok ((h.trans (one_of hoc h2.2 (by decide) (by decide) (by decide) (by decide))).trans h3)) fun _ => BalR.ok h
theorem end_bal (hR : ∀ m i a, BalR X o c i (R m i a)) (k n : Int) (s : ByteArray) (ls : List (List NodeD)) (i : Nat) : BalR X o c i (endS R k n s ls i) := BalR.bind (hR 0 i []) fun _ _ h => BalR.ok h
theorem stmt_bal (hoc : OC o c) (hR : ∀ m i a, BalR X o c i (R m i a)) (i : Nat) : BalR X o c i (stmtS X R i) := by
  have one : ∀ {j v : Nat}, X.cl j = v → v ≠ 40 → v ≠ 41 → v ≠ 91 → v ≠ 93 → Bal X o c j (j + 1) := fun h h1 h2 h3 h4 => one_of hoc h h1 h2 h3 h4
  refine BalR.ite (fun h => BalR.ite (fun h2 => BalR.bind (braces_bal hoc hR h2) fun q _ h3 => BalR.ok (((one h.1 (by decide) (by decide) (by decide) (by decide)).trans (one h.2 (by decide) (by decide) (by decide) (by decide))).trans h3)) fun _ => BalR.bad) fun _ => BalR.ite (fun h => (end_bal hR _ _ _ _ _).from ((one h.1 (by decide) (by decide) (by decide) (by decide)).trans (one h.2 (by decide) (by decide) (by decide) (by decide)))) fun _ => BalR.ite (fun h => (end_bal hR _ _ _ _ _).from (((one h.1 (by decide) (by decide) (by decide) (by decide)).trans (one_scal hoc h.2.1)).trans (one h.2.2 (by decide) (by decide) (by decide) (by decide)))) fun _ => BalR.ite (fun h => ?_) fun _ => BalR.ite (fun h => ?_) fun _ => hR 0 i []
  · have h0 := one h.1 (by decide) (by decide) (by decide) (by decide)
    exact BalR.bind (hR 2 (i + 2) []) fun q _ h3 => BalR.ite (fun h93 => BalR.ite (fun ha => (end_bal hR _ _ _ _ _).from ((h0.trans (wrap_s hoc h.2.1 h3 h93)).trans (one ha (by decide) (by decide) (by decide) (by decide)))) fun _ => BalR.bad) fun _ => BalR.bad
  · exact BalR.bind (hR 0 (i + 1) []) fun q _ h3 => BalR.ite (fun h41 => BalR.ite (fun ha => BalR.ite (fun _ => (end_bal hR _ _ _ _ _).from ((wrap_r hoc h h3 h41).trans (one ha (by decide) (by decide) (by decide) (by decide)))) fun _ => BalR.bad) fun _ => (from_bal hR _ _).from (wrap_r hoc h h3 h41)) fun _ => BalR.bad

end

theorem prs_bal (hoc : OC o c) : ∀ (f m i : Nat) (a : List NodeD), BalR X o c i (prs X f m i a)
  | 0, _, _, _ => fun q l e => by cases e
  | f + 1, m, i, a => by
    have h := prs_bal hoc f
    rw [prs]
    exact BalR.ite (fun _ => expr_bal hoc h i) fun _ => BalR.ite (fun _ => idx_bal hoc h i a) fun _ => BalR.ite (fun _ => parts_bal hoc h i) fun _ => BalR.ite (fun _ => fn_bal hoc h i) fun _ => BalR.ite (fun _ => ser_bal hoc h 6 4 i) fun _ => BalR.ite (fun _ => stmt_bal hoc h i) fun _ => BalR.ite (fun _ => item_bal hoc h i) fun _ => ser_bal hoc h 5 7 i

/-- Within brackets more are open than ahead of them; behind them as many. -/
theorem bal_in {i q : Nat} (hoc : o ≠ c) (h1 : X.cl i = o) (h : Bal X o c (i + 1) q) (h2 : X.cl q = c) : (∀ k, i < k → k ≤ q → dep X o c i + 1 ≤ dep X o c k) ∧ dep X o c (q + 1) = dep X o c i := by
  obtain ⟨a1, a2, a3⟩ := h
  have e1 : dep X o c (i + 1) = dep X o c i + 1 := by rw [dep, if_pos h1]
  have e2 : dep X o c (q + 1) = dep X o c q - 1 := by rw [dep, if_neg (by rw [h2]; exact fun e => hoc e.symm), if_pos h2]; omega
  exact ⟨fun k hk hq => by have := a3 k (by omega) hq; omega, by omega⟩

theorem close_go {i q : Nat} (hl : q < X.len) (hb : ∀ k, i < k → k ≤ q → dep X 91 93 i + 1 ≤ dep X 91 93 k) (he : dep X 91 93 (q + 1) = dep X 91 93 i) : ∀ (f j d : Nat), i ≤ j → j ≤ q → (d : Int) = dep X 91 93 j - dep X 91 93 i → q - j < f → closeAt X f j d = some q
  | 0, j, d, _, _, _, hf => by omega
  | f + 1, j, d, hij, hjq, hd, hf => by
    rw [closeAt, if_pos (by omega)]
    obtain ⟨d', hd'⟩ : ∃ d', (if X.cl j = 91 then d + 1 else if X.cl j = 93 then d - 1 else d) = d' := ⟨_, rfl⟩
    have hs : dep X 91 93 (j + 1) = dep X 91 93 j + (if X.cl j = 91 then 1 else if X.cl j = 93 then -1 else 0) := rfl
    have hge : dep X 91 93 i ≤ dep X 91 93 (j + 1) := by
      by_cases h : j = q
      · subst h; omega
      · have := hb (j + 1) (by omega) (by omega); omega
    have hdd : (d' : Int) = dep X 91 93 (j + 1) - dep X 91 93 i := by
      rw [← hd']
      split at hs
      · rw [if_pos ‹_›]; omega
      · rename_i h1
        rw [if_neg h1]
        split at hs
        · rw [if_pos ‹_›]; omega
        · rw [if_neg ‹_›]; omega
    show (if (if X.cl j = 91 then d + 1 else if X.cl j = 93 then d - 1 else d) = 0 then some j else closeAt X f (j + 1) (if X.cl j = 91 then d + 1 else if X.cl j = 93 then d - 1 else d)) = some q
    rw [hd']
    by_cases h : j = q
    · subst h
      rw [if_pos (by omega)]
    · have := hb (j + 1) (by omega) (by omega)
      rw [if_neg (by omega)]
      exact close_go hl hb he f (j + 1) d' (by omega) (by omega) hdd (by omega)

/-- Parts that are read up to their closing bracket tell what assignsParts looks for. -/
theorem asgn_of {i q : Nat} (hl : q < X.len) (h1 : X.cl i = 91) (h : Bal X 91 93 (i + 1) q) (h2 : X.cl q = 93) : asgnB X i = decide (X.cl (q + 1) = 8592) := by
  obtain ⟨a, b⟩ := bal_in (by decide) h1 h h2
  have hle := h.1
  unfold asgnB
  rw [close_go hl a b (X.len + 1) i 0 (Nat.le_refl _) (by omega) (by omega) (by omega)]

end
end Go.Proofs.YtmgjicgojlkpcaaGreatDoor
