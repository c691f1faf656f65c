import Derived.Test.YtmgjicgojlkpcaaGreatDoorAtMath
namespace Go.Proofs.YtmgjicgojlkpcaaGreatDoor
open Go

/-- Texts and numbers of a tree are at most A long. -/
def Sm (A : Nat) (t : List NodeD) : Prop := ∀ x ∈ t, x.s.size ≤ A ∧ x.nums.length ≤ A
def SmL (A : Nat) (ls : List (List NodeD)) : Prop := ∀ t ∈ ls, Sm A t
def SmR (A : Nat) (x : Option Res) : Prop := ∀ q l, x = some (true, q, l) → SmL A l

section
variable {A : Nat} {ls ms : List (List NodeD)} {t : List NodeD}

theorem SmL.nil : SmL A [] := fun t h => by cases h
theorem SmL.app (h : SmL A ls) (h' : SmL A ms) : SmL A (ls ++ ms) := fun t ht => (List.mem_append.1 ht).elim (h t) (h' t)
theorem SmL.cons (h : Sm A t) (h' : SmL A ls) : SmL A (t :: ls) := fun x hx => (List.mem_cons.1 hx).elim (fun e => e ▸ h) (h' x)
theorem SmL.head (h : SmL A ls) : Sm A (ls.headD []) := by cases ls with
  | nil => exact fun x hx => by cases hx
  | cons a l => exact h a List.mem_cons_self
theorem Sm.shift (h : Sm A t) (b : Nat) : Sm A (shiftN b t) := fun x hx => by
  unfold shiftN at hx
  obtain ⟨y, hy, rfl⟩ := List.mem_map.1 hx
  exact h y hy
theorem SmL.row : ∀ {ls : List (List NodeD)}, SmL A ls → Sm A (rowT ls)
  | [], _ => fun x hx => by cases hx
  | l :: ls, h => fun x hx => by
    rw [rowT] at hx
    exact (List.mem_append.1 hx).elim (h l List.mem_cons_self x) ((SmL.row (ls := ls) fun t ht => h t (List.mem_cons_of_mem _ ht)).shift _ x)
theorem sm_tree (k n m : Int) {s : ByteArray} {nums : List Int} (hs : s.size ≤ A) (hn : nums.length ≤ A) (h : SmL A ls) : Sm A (treeN k n m s nums ls) := fun x hx => by
  unfold treeN at hx
  rcases List.mem_append.1 hx with hx | hx
  · exact h.row x hx
  · rw [List.mem_singleton] at hx
    subst hx
    exact ⟨hs, hn⟩
theorem nilS_le : nilS.size ≤ A := Nat.zero_le _
theorem sm_over (k n m : Int) (h : SmL A ls) : Sm A (treeN k n m nilS [] ls) := sm_tree k n m nilS_le (Nat.zero_le _) h
theorem sm_leaf (k n m : Int) : Sm A (leafN k n m) := sm_over k n m SmL.nil

theorem SmR.ok {q : Nat} (h : SmL A ls) : SmR A (okR q ls) := fun q' l' e => by cases e; exact h
theorem SmR.one {q : Nat} (h : Sm A t) : SmR A (okR q [t]) := SmR.ok (SmL.cons h SmL.nil)
theorem SmR.bad {q : Nat} : SmR A (badR q) := fun q' l' e => by cases e
theorem SmR.bind {x : Option Res} {k : Nat → List (List NodeD) → Option Res} (h : SmR A x) (hk : ∀ q l, SmL A l → SmR A (k q l)) : SmR A (bindR x k) := by
  cases x with
  | none => intro q l e; cases e
  | some r =>
    obtain ⟨b, q, l⟩ := r
    cases b with
    | false => exact SmR.bad
    | true => exact hk q l (h q l rfl)
theorem SmR.ite {p : Prop} [Decidable p] {x y : Option Res} (h1 : SmR A x) (h2 : SmR A y) : SmR A (if p then x else y) := by
  split
  · exact h1
  · exact h2

variable {X : Seen} {R : Nat → Nat → List NodeD → Option Res}

theorem nums_le : ∀ (f i : Nat), (numsTo X f i).length ≤ f
  | 0, _ => Nat.le_refl _
  | f + 1, i => by
    rw [numsTo]
    split
    · have := nums_le f (i + 1)
      show (numsTo X f (i + 1)).length + 1 ≤ _
      omega
    · exact Nat.zero_le _

theorem rest_sm (hR : ∀ m i a, Sm A a → SmR A (R m i a)) (q : Nat) {a : List NodeD} (ha : Sm A a) : SmR A (restS X R q a) :=
  SmR.ite (SmR.bind (hR 3 q [] (SmL.nil.row)) fun q2 _ hg => SmR.bind (hR 0 q2 [] (SmL.nil.row)) fun _ _ hb => SmR.one (sm_over _ _ _ (SmL.cons ha (hg.app hb)))) (SmR.one ha)
theorem from_sm (hR : ∀ m i a, Sm A a → SmR A (R m i a)) (q : Nat) {a : List NodeD} (ha : Sm A a) : SmR A (fromS X R q a) := SmR.bind (hR 1 q a ha) fun q2 _ hl => rest_sm hR q2 hl.head
theorem end_sm (hR : ∀ m i a, Sm A a → SmR A (R m i a)) (k n : Int) {s : ByteArray} (hs : s.size ≤ A) (hl : SmL A ls) (i : Nat) : SmR A (endS R k n s ls i) := SmR.bind (hR 0 i [] (SmL.nil.row)) fun _ _ hb => SmR.one (sm_tree _ _ _ hs (Nat.zero_le _) (hl.app hb))
theorem braces_sm (hR : ∀ m i a, Sm A a → SmR A (R m i a)) (i : Nat) : SmR A (bracesS X R i) :=
  SmR.ite (SmR.one (sm_leaf _ _ _)) (SmR.bind (hR 4 (i + 1) [] (SmL.nil.row)) fun _ _ hl => SmR.ite (SmR.one (sm_over _ _ _ hl)) SmR.bad)
theorem scal_sm (i n : Nat) : SmR A (scalS X i n) :=
  SmR.ite (SmR.one (sm_leaf _ _ _)) (SmR.ite (SmR.one (sm_leaf _ _ _)) (SmR.ite (SmR.one (sm_leaf _ _ _)) (SmR.ite (SmR.one (sm_leaf _ _ _)) (SmR.ite (SmR.ite (SmR.one (sm_leaf _ _ _)) SmR.bad) (SmR.one (sm_leaf _ _ _))))))
theorem ser_sm (hR : ∀ m i a, Sm A a → SmR A (R m i a)) (m m' i : Nat) : SmR A (bindR (R m i []) fun q l => if X.cl q = 8900 then bindR (R m' (q + 1) []) fun q2 l2 => okR q2 (l ++ l2) else okR q l) :=
  SmR.bind (hR m i [] (SmL.nil.row)) fun q _ hl => SmR.ite (SmR.bind (hR m' (q + 1) [] (SmL.nil.row)) fun _ _ hl2 => SmR.ok (hl.app hl2)) (SmR.ok hl)

theorem prs_sm (hs : ∀ i, (X.sv i).size ≤ A) (hn : X.len + 1 ≤ A) : ∀ (f m i : Nat) (a : List NodeD), Sm A a → SmR A (prs X f m i a)
  | 0, _, _, _, _ => fun q l e => by cases e
  | f + 1, m, i, a, ha => by
    have h := prs_sm hs hn f
    have z : Sm A [] := SmL.nil.row
    have lf : ∀ k i, Sm A (leafS k (X.sv i)) := fun k i => sm_tree _ _ _ (hs i) (Nat.zero_le _) SmL.nil
    have at_ : SmR A (atomS X (prs X f) i) :=
      SmR.ite (SmR.one (sm_tree _ _ _ nilS_le (Nat.le_trans (nums_le _ _) hn) SmL.nil)) (SmR.ite (SmR.bind (h 0 (i + 1) [] z) fun q l hl => SmR.ite (SmR.ok hl) SmR.bad) (SmR.ite (SmR.one (lf _ _)) (SmR.ite (SmR.one (lf _ _)) (SmR.ite (SmR.one (sm_leaf _ _ _)) (SmR.ite (SmR.one (sm_leaf _ _ _)) (SmR.ite (SmR.one (sm_leaf _ _ _)) SmR.bad))))))
    rw [prs]
    refine SmR.ite ?_ (SmR.ite ?_ (SmR.ite ?_ (SmR.ite ?_ (SmR.ite (ser_sm h 6 4 i) (SmR.ite ?_ (SmR.ite ?_ (ser_sm h 5 7 i)))))))
    · exact SmR.ite (SmR.bind (h 3 i [] z) fun q g hg => SmR.bind (h 0 q [] z) fun q2 b hb => SmR.one (sm_over _ _ _ (hg.app hb))) (SmR.bind at_ fun q l hl => from_sm h q hl.head)
    · exact SmR.ite (SmR.bind (h 2 (i + 1) [] z) fun q l hl => SmR.ite (h 1 (q + 1) _ (sm_over _ _ _ (SmL.cons ha hl))) SmR.bad) (SmR.one ha)
    · exact SmR.bind (SmR.ite (SmR.one (sm_leaf _ _ _)) (h 0 i [] z)) fun q l hl => SmR.ite (SmR.bind (h 2 (q + 1) [] z) fun q2 l2 hl2 => SmR.ok (hl.app hl2)) (SmR.ok hl)
    · exact SmR.ite (scal_sm _ _) (SmR.ite (SmR.ite (SmR.ite (SmR.one (sm_leaf _ _ _)) SmR.bad) SmR.bad) (SmR.ite (braces_sm h i) (SmR.ite (SmR.one (lf _ _)) (SmR.ite (SmR.one (sm_leaf _ _ _)) (SmR.ite (SmR.one (sm_leaf _ _ _)) SmR.bad)))))
    · refine SmR.ite (SmR.ite (SmR.bind (braces_sm h _) fun q l hl => SmR.one (sm_tree _ _ _ (hs i) (Nat.zero_le _) hl)) SmR.bad) (SmR.ite (end_sm h _ _ (hs i) SmL.nil _) (SmR.ite (end_sm h _ _ (hs i) SmL.nil _) (SmR.ite (SmR.bind (h 2 (i + 2) [] z) fun q l hl => SmR.ite (SmR.ite (end_sm h _ _ (hs i) hl _) SmR.bad) SmR.bad) (SmR.ite (SmR.bind (h 0 (i + 1) [] z) fun q l hl => SmR.ite (SmR.ite (SmR.ite (end_sm h _ _ nilS_le hl _) SmR.bad) (from_sm h _ hl.head)) SmR.bad) (h 0 i [] z)))))
    · exact SmR.bind (h 5 i [] z) fun q l hl => SmR.ite (SmR.bind (h 0 (q + 1) [] z) fun q2 b hb => SmR.one (sm_over _ _ _ (hl.app hb))) (SmR.ok hl)

end

theorem roots_le : ∀ ls : List (List NodeD), (rootsT ls).length = ls.length
  | [] => rfl
  | l :: ls => by rw [rootsT, List.length_cons, List.length_map, roots_le ls]; rfl
theorem wf_pos {t : List NodeD} (h : WF t) : 0 < t.length := by
  cases h
  unfold treeN
  simp
theorem row_ge' : ∀ (ls : List (List NodeD)), (∀ l ∈ ls, 0 < l.length) → ls.length ≤ (rowT ls).length
  | [], _ => Nat.zero_le _
  | l :: ls, h => by
    have h1 := row_ge' ls fun x hx => h x (List.mem_cons_of_mem _ hx)
    have h2 := h l List.mem_cons_self
    rw [row_cons]
    show ls.length + 1 ≤ _
    omega
theorem shift_kids {K : Nat} {t : List NodeD} (h : ∀ x ∈ t, x.kids.length ≤ K) (b : Nat) : ∀ x ∈ shiftN b t, x.kids.length ≤ K := fun x hx => by
  unfold shiftN at hx
  obtain ⟨y, hy, rfl⟩ := List.mem_map.1 hx
  show (y.kids.map _).length ≤ K
  rw [List.length_map]
  exact h y hy
theorem row_kids {K : Nat} : ∀ {ls : List (List NodeD)}, (∀ l ∈ ls, ∀ x ∈ l, x.kids.length ≤ K) → ∀ x ∈ rowT ls, x.kids.length ≤ K
  | [], _, x, hx => by cases hx
  | l :: ls, h, x, hx => by
    rw [rowT] at hx
    rcases List.mem_append.1 hx with hx | hx
    · exact h l List.mem_cons_self x hx
    · exact shift_kids (row_kids fun t ht => h t (List.mem_cons_of_mem _ ht)) _ x hx
theorem row_mem_len : ∀ {ls : List (List NodeD)} {l : List NodeD}, l ∈ ls → l.length ≤ (rowT ls).length
  | m :: ls, l, h => by
    rw [row_cons]
    rcases List.mem_cons.1 h with rfl | h
    · omega
    · have := row_mem_len h
      omega
/-- No node has more kids than the tree has nodes. -/
theorem wf_kids {t : List NodeD} (h : WF t) : ∀ x ∈ t, x.kids.length ≤ t.length := by
  induction h with
  | mk k n m s nums ls hl hc ih =>
    intro x hx
    have hlen : (treeN k n m s nums ls).length = (rowT ls).length + 1 := tree_len k n m s nums ls
    unfold treeN at hx
    rcases List.mem_append.1 hx with hx | hx
    · exact row_kids (fun l hl' y hy => Nat.le_trans (ih l hl' y hy) (by have := row_mem_len hl'; omega)) x hx
    · rw [List.mem_singleton] at hx
      subst hx
      show (rootsT ls).length ≤ _
      rw [roots_le, hlen]
      have := row_ge' ls fun l hl' => wf_pos (hl l hl')
      omega

end Go.Proofs.YtmgjicgojlkpcaaGreatDoor
