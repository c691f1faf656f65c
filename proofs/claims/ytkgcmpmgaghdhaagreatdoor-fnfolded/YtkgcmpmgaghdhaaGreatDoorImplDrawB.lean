import Derived.Test.YtkgcmpmgaghdhaaGreatDoorImplBesideA
import Derived.Test.YtkgcmpmgaghdhaaGreatDoorMFit0
import Derived.Deep.RegionHeld3
import Derived.Laws.EntriesVeiled
namespace Go.Proofs.YtkgcmpmgaghdhaaGreatDoor
open Go.RowKit Go.Shelf

/-- Where an array lies as Catenate takes it. -/
structure Side where
  ba : Nat
  oa : Nat
  p1 : Nat
  e1 : Nat
  A2 : Addr
  p2 : Nat
  e2 : Nat

def Side.v1 (s : Side) : Value := .slice (some ⟨s.ba, s.oa, none⟩) (s.p1 + 1) s.e1
def Side.v2 (s : Side) : Value := .slice (some s.A2) s.p2 s.e2
def Side.val (s : Side) (c : Bool) : Value := .agg #[.bool c, s.v1, s.v2]
structure SideIn (s : Side) (L X : List Int) (w : World) : Prop where
  r1 : Row w (some ⟨s.ba, s.oa, none⟩) (s.p1 + 1) L
  r2 : Row w (some s.A2) s.p2 X
  l1 : s.p1 + 1 ≤ s.e1
  l2 : s.p2 ≤ s.e2

theorem SideIn.below {s : Side} {L X : List Int} {w w' : World} (h : SideIn s L X w) (hb : Below w.heap.size w w') : SideIn s L X w' := ⟨h.r1.below (Nat.le_refl _) hb, h.r2.below (Nat.le_refl _) hb, h.l1, h.l2⟩
theorem SideIn.sets {s : Side} {L X : List Int} {w : World} {p n1 c1 n2 c2 : Nat} {c : Bool} {a1 a2 : Option Addr} (h : SideIn s L X w) (hb : Box w p c (.slice a1 n1 c1) (.slice a2 n2 c2)) (x y z : Value) : SideIn s L X (((w.setCell ⟨p, 0, none⟩ x).setCell ⟨p, 1, none⟩ y).setCell ⟨p, 2, none⟩ z) := ⟨h.r1.sets hb x y z, h.r2.sets hb x y z, h.l1, h.l2⟩

theorem beside_side (c d : Bool) (a1 a2 : Addr) (n1 n2 c1 c2 : Nat) (o1 : Addr) (m1 d1 : Nat) (sh dt sh' dt' : List Int) (w : World) (h1 : Row w (some a1) n1 sh) (h2 : Row w (some a2) n2 dt) (k1 : Row w (some o1) m1 sh') (ok1 : arrOk c sh dt = true) (ok2 : arrOk d sh' dt' = true) (hc1 : n1 ≤ c1) (hc2 : n2 ≤ c2) (hd1 : m1 ≤ d1) :
    Calls Tryz.prog 103 #[.agg #[.bool c, .slice (some a1) n1 c1, .slice (some a2) n2 c2], .slice (some o1) m1 d1] w fun e w' => ∃ s : Side, e = .returned (s.val c) ∧ SideIn s (sideSh sh sh') (sideDt sh dt sh') w' ∧ Below w.heap.size w w' := by
  refine (beside_any c d a1 a2 n1 n2 c1 c2 o1 m1 d1 sh dt sh' dt' w h1 h2 k1 ok1 ok2 hc1 hc2 hd1).mono ?_
  rintro e w' ⟨ba, oa, p1, e1, A2, p2, e2, rfl, r1, r2, l1, l2, hb⟩
  exact ⟨⟨ba, oa, p1, e1, A2, p2, e2⟩, rfl, ⟨r1, r2, l1, l2⟩, hb⟩

def oB_0 : Oper := { dst := some 22, op := Op.load 25 (Operand.tmp 2), type := 25, pos := "l5_shape.go:54", after := #[], guard := none }
def oB_1 : Oper := { dst := some 23, op := Op.fieldAddr 25 (Operand.tmp 3) 1, type := 0, pos := "l5_shape.go:54", after := #[], guard := none }
def oB_2 : Oper := { dst := some 24, op := Op.load 23 (Operand.tmp 23), type := 23, pos := "l5_shape.go:54", after := #[{ on := 1, ground := Ground.data }], guard := none }
def oB_3 : Oper := { dst := some 25, op := Op.call { callee := Callee.value (Operand.func 103), args := #[Operand.tmp 22, Operand.tmp 24], argTypes := #[25, 23] }, type := 25, pos := "l5_shape.go:54", after := #[{ on := 0, ground := Ground.data }, { on := 2, ground := Ground.data }], guard := none }
def oB_4 : Oper := { dst := some 26, op := Op.load 25 (Operand.tmp 3), type := 25, pos := "l5_shape.go:54", after := #[], guard := none }
def oB_5 : Oper := { dst := some 27, op := Op.fieldAddr 25 (Operand.tmp 2) 1, type := 0, pos := "l5_shape.go:54", after := #[], guard := none }
def oB_6 : Oper := { dst := some 28, op := Op.load 23 (Operand.tmp 27), type := 23, pos := "l5_shape.go:54", after := #[{ on := 5, ground := Ground.data }], guard := none }
def oB_7 : Oper := { dst := some 29, op := Op.call { callee := Callee.value (Operand.func 103), args := #[Operand.tmp 26, Operand.tmp 28], argTypes := #[25, 23] }, type := 25, pos := "l5_shape.go:54", after := #[{ on := 4, ground := Ground.data }, { on := 6, ground := Ground.data }, { on := 3, ground := Ground.chain }], guard := none }
def oB_8 : Oper := { dst := some 6, op := Op.alloc 25, type := 0, pos := "l5_shape.go:54", after := #[], guard := none }
def oB_9 : Oper := { dst := some 7, op := Op.alloc 25, type := 0, pos := "l5_shape.go:54", after := #[], guard := none }
def oB_10 : Oper := { dst := none, op := Op.store 25 (Operand.tmp 6) (Operand.tmp 25), type := 0, pos := "l5_shape.go:54", after := #[{ on := 8, ground := Ground.data }, { on := 3, ground := Ground.data }, { on := 7, ground := Ground.chain }, { on := 0, ground := Ground.phase }, { on := 1, ground := Ground.phase }, { on := 2, ground := Ground.phase }, { on := 3, ground := Ground.phase }, { on := 4, ground := Ground.textOnly Departure.lateStores }, { on := 5, ground := Ground.textOnly Departure.lateStores }, { on := 6, ground := Ground.textOnly Departure.lateStores }, { on := 7, ground := Ground.textOnly Departure.lateStoresUnsure }, { on := 8, ground := Ground.phase }, { on := 9, ground := Ground.phase }], guard := none }
def oB_11 : Oper := { dst := none, op := Op.store 25 (Operand.tmp 7) (Operand.tmp 29), type := 0, pos := "l5_shape.go:54", after := #[{ on := 9, ground := Ground.data }, { on := 7, ground := Ground.data }, { on := 10, ground := Ground.chain }, { on := 0, ground := Ground.phase }, { on := 1, ground := Ground.phase }, { on := 2, ground := Ground.phase }, { on := 3, ground := Ground.phase }, { on := 4, ground := Ground.phase }, { on := 5, ground := Ground.phase }, { on := 6, ground := Ground.phase }, { on := 7, ground := Ground.phase }, { on := 8, ground := Ground.phase }, { on := 9, ground := Ground.phase }, { on := 10, ground := Ground.phase }], guard := none }

def opsB : Array Oper := #[oB_0, oB_1, oB_2, oB_3, oB_4, oB_5, oB_6, oB_7, oB_8, oB_9, oB_10, oB_11]

/-- A slot is laid, or not yet. -/
def ptB (b : Bool) (d : Nat) (v : Value) (a : Act) : Act := if b then a.put (some d) v else a

theorem ptB_comm (b : Bool) (d e : Nat) (v u : Value) (a : Act) (h : d ≠ e) : (ptB b d v a).put (some e) u = ptB b d v (a.put (some e) u) := by
  cases b with
  | false => rfl
  | true => exact Act.put_comm a v u (x := some d) (y := some e) (by simp; exact fun hy => h hy.symm)

theorem ptB_eval (b : Bool) (d e : Nat) (v : Value) (a : Act) (h : d ≠ e) : (ptB b d v a).eval (.tmp e) = a.eval (.tmp e) := by
  cases b with
  | false => rfl
  | true => exact Act.eval_put (dst := some d) (x := .tmp e) (by simp; exact fun hy => h hy.symm)

theorem ptB_same (d : Nat) (v : Value) (a : Act) (h : d < a.tmps.size) : (ptB true d v a).eval (.tmp d) = v := by
  simp [ptB, Act.eval, Act.put, h]

theorem ptB_size (b : Bool) (d : Nat) (v : Value) (a : Act) : (ptB b d v a).tmps.size = a.tmps.size := by
  cases b <;> simp [ptB, Act.put]

/-- The frame: which of the four is done. -/
def frB (a : Act) (dA dB dP dQ : Bool) (vA vB : Value) (p q : Nat) : Act :=
  ptB dQ 7 (.pointer (some ⟨q, 0, none⟩)) (ptB dP 6 (.pointer (some ⟨p, 0, none⟩)) (ptB dB 29 vB (ptB dA 25 vA a)))

theorem frB_A (a : Act) (dP dQ : Bool) (vA vB v : Value) (p q : Nat) : (frB a false false dP dQ vA vB p q).put (some 25) v = frB a true false dP dQ v vB p q := by
  unfold frB
  rw [ptB_comm _ _ _ _ _ _ (by decide), ptB_comm _ _ _ _ _ _ (by decide)]
  rfl

theorem frB_B (a : Act) (dA dP dQ : Bool) (vA vB v : Value) (p q : Nat) : (frB a dA false dP dQ vA vB p q).put (some 29) v = frB a dA true dP dQ vA v p q := by
  unfold frB
  rw [ptB_comm _ _ _ _ _ _ (by decide), ptB_comm _ _ _ _ _ _ (by decide)]
  rfl

theorem frB_P (a : Act) (dA dB dQ : Bool) (vA vB : Value) (p p' q : Nat) : (frB a dA dB false dQ vA vB p q).put (some 6) (.pointer (some ⟨p', 0, none⟩)) = frB a dA dB true dQ vA vB p' q := by
  unfold frB
  rw [ptB_comm _ _ _ _ _ _ (by decide)]
  rfl

theorem frB_Q (a : Act) (dA dB dP : Bool) (vA vB : Value) (p q q' : Nat) : (frB a dA dB dP false vA vB p q).put (some 7) (.pointer (some ⟨q', 0, none⟩)) = frB a dA dB dP true vA vB p q' := rfl

/-- What lies in memory. -/
structure InB (W : World) (L X R Y : List Int) (dA dB dP dQ : Bool) (s u : Side) (p q : Nat) (w : World) : Prop where
  hb : Below W.heap.size W w
  ha : dA = true → SideIn s L X w
  ha' : dB = true → SideIn u R Y w
  hp : dP = true → Box w p false (.slice none 0 0) (.slice none 0 0) ∧ W.heap.size ≤ p
  hq : dQ = true → Box w q false (.slice none 0 0) (.slice none 0 0) ∧ W.heap.size ≤ q
  hpq : dP = true → dQ = true → p ≠ q

section
variable {W : World} {L X R Y : List Int} {dA dB dP dQ : Bool} {s u : Side} {p q : Nat} {w : World}

theorem InB.P (h : InB W L X R Y dA dB false dQ s u p q w) : InB W L X R Y dA dB true dQ s u w.heap.size q (w.alloc (.cells #[.bool false, .slice none 0 0, .slice none 0 0] 25)) where
  hb := h.hb.alloc h.hb.size _
  ha := fun e => (h.ha e).below ((Below.refl _ w).alloc (Nat.le_refl _) _)
  ha' := fun e => (h.ha' e).below ((Below.refl _ w).alloc (Nat.le_refl _) _)
  hp := fun _ => ⟨Box.new w _ _ _, h.hb.size⟩
  hq := fun e => ⟨(h.hq e).1.alloc _, (h.hq e).2⟩
  hpq := fun _ e => by have := (h.hq e).1.lt; omega

theorem InB.Q (h : InB W L X R Y dA dB dP false s u p q w) : InB W L X R Y dA dB dP true s u p w.heap.size (w.alloc (.cells #[.bool false, .slice none 0 0, .slice none 0 0] 25)) where
  hb := h.hb.alloc h.hb.size _
  ha := fun e => (h.ha e).below ((Below.refl _ w).alloc (Nat.le_refl _) _)
  ha' := fun e => (h.ha' e).below ((Below.refl _ w).alloc (Nat.le_refl _) _)
  hq := fun _ => ⟨Box.new w _ _ _, h.hb.size⟩
  hp := fun e => ⟨(h.hp e).1.alloc _, (h.hp e).2⟩
  hpq := fun e _ => by have := (h.hp e).1.lt; omega

theorem InB.A {w' : World} {s' : Side} (h : InB W L X R Y false dB dP dQ s u p q w) (hs : SideIn s' L X w') (hb : Below w.heap.size w w') : InB W L X R Y true dB dP dQ s' u p q w' where
  hb := h.hb.trans (hb.mono h.hb.size)
  ha := fun _ => hs
  ha' := fun e => (h.ha' e).below hb
  hp := fun e => ⟨(h.hp e).1.below (Nat.le_refl _) hb, (h.hp e).2⟩
  hq := fun e => ⟨(h.hq e).1.below (Nat.le_refl _) hb, (h.hq e).2⟩
  hpq := h.hpq

theorem InB.B {w' : World} {u' : Side} (h : InB W L X R Y dA false dP dQ s u p q w) (hs : SideIn u' R Y w') (hb : Below w.heap.size w w') : InB W L X R Y dA true dP dQ s u' p q w' where
  hb := h.hb.trans (hb.mono h.hb.size)
  ha' := fun _ => hs
  ha := fun e => (h.ha e).below hb
  hp := fun e => ⟨(h.hp e).1.below (Nat.le_refl _) hb, (h.hp e).2⟩
  hq := fun e => ⟨(h.hq e).1.below (Nat.le_refl _) hb, (h.hq e).2⟩
  hpq := h.hpq
end

section
variable {ops : Array Oper} {Q : Exit → Act → World → Prop} {K : Act → World → Prop} {a : Act} {w : World}

theorem wantedB {o : Oper} {y : Nat → Option Bool} (h : o.guard = none) : Region.wanted o y = true := by simp [Region.wanted, h]

theorem opB_go {i : Nat} {o : Oper} (hi : ops[i]? = some o) (hg : o.guard = none) (h : o.wp Tryz.prog a w K Q) : wpOp Tryz.prog ops Q i K a w := by
  unfold wpOp
  rw [hi]
  show if Region.wanted o (yielded ops a.tmps) = true then _ else _
  rw [if_pos (wantedB hg)]
  exact .inl h

theorem opB_call {i : Nat} {o : Oper} (x y : Nat) (v v' : Value) {c : Bool} {L X : List Int} (hi : ops[i]? = some o) (hg : o.guard = none) (ho : o.op = .call { callee := .value (.func 103), args := #[.tmp x, .tmp y], argTypes := #[25, 23] }) (hx : a.eval (.tmp x) = v) (hy : a.eval (.tmp y) = v')
    (hc : Calls Tryz.prog 103 #[v, v'] w fun e w' => ∃ s : Side, e = .returned (s.val c) ∧ SideIn s L X w' ∧ Below w.heap.size w w')
    (h : ∀ (s : Side) w', SideIn s L X w' → Below w.heap.size w w' → K (a.put o.dst (s.val c)) w') : wpOp Tryz.prog ops Q i K a w := by
  refine opB_go hi hg ?_
  have e : (execOp a.eval o).run Tryz.prog w = .ok (.enter 103 #[v, v']) w := by
    unfold execOp
    simp only [ho]
    go_simp
    rw [← hx, ← hy]
    exact ⟨by simp [Act.eval], by simp [Act.eval]⟩
  unfold Oper.wp
  rw [e]
  show Calls _ _ _ _ _
  refine hc.mono ?_
  rintro e w' ⟨s, rfl, h1, h2⟩
  exact h s w' h1 h2

theorem opB_zero {i : Nat} {o : Oper} (hi : ops[i]? = some o) (hg : o.guard = none) (ho : o.op = .alloc 25)
    (h : K (a.put o.dst (.pointer (some ⟨w.heap.size, 0, none⟩))) (w.alloc (.cells #[.bool false, .slice none 0 0, .slice none 0 0] 25))) : wpOp Tryz.prog ops Q i K a w := by
  refine opB_go hi hg ?_
  have e : (execOp a.eval o).run Tryz.prog w = .ok (.value (.pointer (some ⟨w.heap.size, 0, none⟩))) (w.alloc (.cells #[.bool false, .slice none 0 0, .slice none 0 0] 25)) := by
    unfold execOp
    simp only [ho]
    go_simp
  unfold Oper.wp
  rw [e]
  exact h

theorem opB_lays {i : Nat} {o : Oper} (x y : Operand) (p : Nat) {c : Bool} {s : Side} (hi : ops[i]? = some o) (hg : o.guard = none) (ho : o.op = .store 25 x y) (hx : a.eval x = .pointer (some ⟨p, 0, none⟩)) (hy : a.eval y = s.val c) (hz : Box w p false (.slice none 0 0) (.slice none 0 0))
    (h : K (a.put o.dst undef) (((w.setCell ⟨p, 0, none⟩ (.bool c)).setCell ⟨p, 1, none⟩ s.v1).setCell ⟨p, 2, none⟩ s.v2)) : wpOp Tryz.prog ops Q i K a w := by
  refine opB_go hi hg ?_
  obtain ⟨i0, i1, i2, i3, i4, i5⟩ := hz.all
  have hy' : a.eval y = .agg #[.bool c, .slice (some ⟨s.ba, s.oa, none⟩) (s.p1 + 1) s.e1, .slice (some s.A2) s.p2 s.e2] := hy
  have e : (execOp a.eval o).run Tryz.prog w = .ok .skip (((w.setCell ⟨p, 0, none⟩ (.bool c)).setCell ⟨p, 1, none⟩ (.slice (some ⟨s.ba, s.oa, none⟩) (s.p1 + 1) s.e1)).setCell ⟨p, 2, none⟩ (.slice (some s.A2) s.p2 s.e2)) := by
    unfold execOp
    simp only [ho, hx, hy']
    go_simp
  unfold Oper.wp
  rw [e]
  exact h
end

def rsB (dA dB dP dQ : Bool) : List Nat :=
  (if dA then [] else [3]) ++ (if dA && !dB then [7] else []) ++ (if dP then [] else [8]) ++ (if dQ then [] else [9]) ++ (if dA && dB && dP && dQ then [10] else [])

theorem readyB : ∀ dA dB dP dQ : Bool, (dB = true → dA = true) → Region.ready .any opsB #[true, true, true, dA, true, true, true, dB, dP, dQ, false, false] = rsB dA dB dP dQ := by
  intro dA dB dP dQ h
  cases dA <;> cases dB <;> cases dP <;> cases dQ <;> first | (exact absurd (h rfl) (by decide)) | kernel_rfl

theorem rsB_in {dA dB dP dQ : Bool} {i : Nat} (h : i ∈ rsB dA dB dP dQ) : (i = 3 ∧ dA = false) ∨ (i = 7 ∧ dA = true ∧ dB = false) ∨ (i = 8 ∧ dP = false) ∨ (i = 9 ∧ dQ = false) ∨ (i = 10 ∧ dA = true ∧ dB = true ∧ dP = true ∧ dQ = true) := by
  cases dA <;> cases dB <;> cases dP <;> cases dQ <;> simp [rsB] at h ⊢ <;> simpa using h

theorem rsB_ne (dA dB dP dQ : Bool) (h : dB = true → dA = true) : rsB dA dB dP dQ ≠ [] := by
  cases dA <;> cases dB <;> cases dP <;> cases dQ <;> first | (exact absurd (h rfl) (by decide)) | simp [rsB]

def nB (b : Bool) : Nat := if b then 0 else 1

theorem frB_e (a : Act) (dA dB dP dQ : Bool) (vA vB : Value) (p q e : Nat) (h : e ≠ 25 ∧ e ≠ 29 ∧ e ≠ 6 ∧ e ≠ 7) : (frB a dA dB dP dQ vA vB p q).eval (.tmp e) = a.eval (.tmp e) := by
  unfold frB
  rw [ptB_eval _ _ _ _ _ (by omega), ptB_eval _ _ _ _ _ (by omega), ptB_eval _ _ _ _ _ (by omega), ptB_eval _ _ _ _ _ (by omega)]

theorem frB_25 (a : Act) (vA vB : Value) (p q : Nat) (h : 30 ≤ a.tmps.size) : (frB a true true true true vA vB p q).eval (.tmp 25) = vA := by
  unfold frB
  rw [ptB_eval _ _ _ _ _ (by decide), ptB_eval _ _ _ _ _ (by decide), ptB_eval _ _ _ _ _ (by decide), ptB_same _ _ _ (by omega)]

theorem frB_29 (a : Act) (vA vB : Value) (p q : Nat) (h : 30 ≤ a.tmps.size) : (frB a true true true true vA vB p q).eval (.tmp 29) = vB := by
  unfold frB
  rw [ptB_eval _ _ _ _ _ (by decide), ptB_eval _ _ _ _ _ (by decide), ptB_same _ _ _ (by rw [ptB_size]; omega)]

theorem frB_6 (a : Act) (vA vB : Value) (p q : Nat) (h : 30 ≤ a.tmps.size) : (frB a true true true true vA vB p q).eval (.tmp 6) = .pointer (some ⟨p, 0, none⟩) := by
  unfold frB
  rw [ptB_eval _ _ _ _ _ (by decide), ptB_same _ _ _ (by rw [ptB_size, ptB_size]; omega)]

theorem frB_7 (a : Act) (vA vB : Value) (p q : Nat) (h : 30 ≤ a.tmps.size) : (frB a true true true true vA vB p q).eval (.tmp 7) = .pointer (some ⟨q, 0, none⟩) := by
  unfold frB
  rw [ptB_same _ _ _ (by rw [ptB_size, ptB_size, ptB_size]; omega)]

theorem drawB {Q : Exit → Act → World → Prop} {S : World → Prop} (a : Act) (W : World) (hsz : 30 ≤ a.tmps.size) (s1 s2 t1 t2 : Value) (h22 : a.eval (.tmp 22) = s1) (h24 : a.eval (.tmp 24) = s2) (h26 : a.eval (.tmp 26) = t1) (h28 : a.eval (.tmp 28) = t2) (c d : Bool) (L X R Y : List Int)
    (HK : ∀ wx, Below W.heap.size W wx → S wx)
    (HCA : ∀ wx, Below W.heap.size W wx → Calls Tryz.prog 103 #[s1, s2] wx fun e w' => ∃ s : Side, e = .returned (s.val c) ∧ SideIn s L X w' ∧ Below wx.heap.size wx w')
    (HCB : ∀ wx, Below W.heap.size W wx → Calls Tryz.prog 103 #[t1, t2] wx fun e w' => ∃ s : Side, e = .returned (s.val d) ∧ SideIn s R Y w' ∧ Below wx.heap.size wx w')
    (hend : ∀ p q (s u : Side) wx, Box wx p c s.v1 s.v2 → Box wx q d u.v1 u.v2 → SideIn s L X wx → SideIn u R Y wx → W.heap.size ≤ p → W.heap.size ≤ q → p ≠ q → Below W.heap.size W wx → Q .normal (frB a true true true true (s.val c) (u.val d) p q) wx) :
    ∀ (fuel : Nat) (dA dB dP dQ : Bool) (s u : Side) (p q : Nat) (w : World), (dB = true → dA = true) → nB dA + nB dB + nB dP + nB dQ + 2 ≤ fuel → InB W L X R Y dA dB dP dQ s u p q w →
      wpAnyH Tryz.prog .any opsB Q S fuel #[true, true, true, dA, true, true, true, dB, dP, dQ, false, false] (frB a dA dB dP dQ (s.val c) (u.val d) p q) w := by
  intro fuel
  induction fuel with
  | zero => intro dA dB dP dQ s u p q w _ h; omega
  | succ fuel ih =>
    intro dA dB dP dQ s u p q w hAB hn hI
    refine wpAnyH_all (readyB dA dB dP dQ hAB) (rsB_ne dA dB dP dQ hAB) ?_
    intro i hi
    obtain ⟨rfl, rfl⟩ | ⟨rfl, rfl, rfl⟩ | ⟨rfl, rfl⟩ | ⟨rfl, rfl⟩ | ⟨rfl, rfl, rfl, rfl, rfl⟩ := rsB_in hi
    · have hB : dB = false := by cases dB with
        | false => rfl
        | true => exact absurd (hAB rfl) (by decide)
      subst hB
      refine opB_call (o := oB_3) 22 24 s1 s2 (c := c) (L := L) (X := X) rfl rfl rfl (by rw [frB_e _ _ _ _ _ _ _ _ _ _ (by decide), h22]) (by rw [frB_e _ _ _ _ _ _ _ _ _ _ (by decide), h24]) (HCA _ hI.hb) ?_
      intro s' w' hs hb
      have hI' := hI.A hs hb
      refine ⟨HK _ hI'.hb, ?_⟩
      have := ih true false dP dQ s' u p q w' (fun _ => rfl) (by simp [nB] at hn ⊢; omega) hI'
      exact (frB_A a dP dQ (s.val c) (u.val d) (s'.val c) p q) ▸ this
    · refine opB_call (o := oB_7) 26 28 t1 t2 (c := d) (L := R) (X := Y) rfl rfl rfl (by rw [frB_e _ _ _ _ _ _ _ _ _ _ (by decide), h26]) (by rw [frB_e _ _ _ _ _ _ _ _ _ _ (by decide), h28]) (HCB _ hI.hb) ?_
      intro u' w' hs hb
      have hI' := hI.B hs hb
      refine ⟨HK _ hI'.hb, ?_⟩
      have := ih true true dP dQ s u' p q w' (fun _ => rfl) (by simp [nB] at hn ⊢; omega) hI'
      exact (frB_B a true dP dQ (s.val c) (u.val d) (u'.val d) p q) ▸ this
    · refine opB_zero (o := oB_8) rfl rfl rfl ?_
      have hI' := hI.P
      refine ⟨HK _ hI'.hb, ?_⟩
      have := ih dA dB true dQ s u w.heap.size q _ hAB (by simp [nB] at hn ⊢; omega) hI'
      exact (frB_P a dA dB dQ (s.val c) (u.val d) p w.heap.size q) ▸ this
    · refine opB_zero (o := oB_9) rfl rfl rfl ?_
      have hI' := hI.Q
      refine ⟨HK _ hI'.hb, ?_⟩
      have := ih dA dB dP true s u p w.heap.size _ hAB (by simp [nB] at hn ⊢; omega) hI'
      exact (frB_Q a dA dB dP (s.val c) (u.val d) p q w.heap.size) ▸ this
    · obtain ⟨m, rfl⟩ : ∃ m, fuel = m + 1 := ⟨fuel - 1, by simp [nB] at hn; omega⟩
      obtain ⟨hz, hp⟩ := hI.hp rfl
      obtain ⟨hz', hq⟩ := hI.hq rfl
      have hpq := hI.hpq rfl rfl
      refine opB_lays (o := oB_10) (.tmp 6) (.tmp 25) p (c := c) (s := s) rfl rfl rfl (frB_6 _ _ _ _ _ hsz) (frB_25 _ _ _ _ _ hsz) hz ?_
      have hb1 := ((hI.hb.setCell (p := ⟨p, 0, none⟩) hp (.bool c)).setCell (p := ⟨p, 1, none⟩) hp s.v1).setCell (p := ⟨p, 2, none⟩) hp s.v2
      refine ⟨HK _ hb1, ?_⟩
      refine wpAnyH_all (rs := [11]) (by kernel_rfl) (by simp) ?_
      intro i hi
      obtain rfl : i = 11 := by simpa using hi
      have hz2 := ((hz'.other (q := ⟨p, 0, none⟩) hpq.symm (.bool c)).other (q := ⟨p, 1, none⟩) hpq.symm s.v1).other (q := ⟨p, 2, none⟩) hpq.symm s.v2
      refine opB_lays (o := oB_11) (.tmp 7) (.tmp 29) q (c := d) (s := u) rfl rfl rfl (frB_7 _ _ _ _ _ hsz) (frB_29 _ _ _ _ _ hsz) hz2 ?_
      have hb2 := ((hb1.setCell (p := ⟨q, 0, none⟩) hq (.bool d)).setCell (p := ⟨q, 1, none⟩) hq u.v1).setCell (p := ⟨q, 2, none⟩) hq u.v2
      refine ⟨HK _ hb2, ?_⟩
      refine wpAnyH_done (by kernel_rfl) ?_ _
      refine hend p q s u _ ?_ hz2.sets (((hI.ha rfl).sets hz _ _ _).sets hz2 _ _ _) (((hI.ha' rfl).sets hz _ _ _).sets hz2 _ _ _) hp hq hpq hb2
      exact (((hz.sets (c' := c) (u1 := s.v1) (u2 := s.v2)).other (q := ⟨q, 0, none⟩) hpq _).other (q := ⟨q, 1, none⟩) hpq _).other (q := ⟨q, 2, none⟩) hpq _

section
variable {o : Oper} {a : Act}
theorem rbF (x : Operand) (b : Nat) (ho : o.op = .fieldAddr 25 x 1) (hx : a.eval x = .pointer (some ⟨b, 0, none⟩)) (w : World) : (execOp a.eval o).run Tryz.prog w = .ok (.value (.pointer (some ⟨b, 1, none⟩))) w := by
  unfold execOp
  simp only [ho, hx]
  go_simp

theorem rbL (x : Operand) (p : Addr) {s : Option Addr} {l c : Nat} (ho : o.op = .load 23 x) (hx : a.eval x = .pointer (some p)) (w : World) (hc : w.cell? p = some (.slice s l c)) : (execOp a.eval o).run Tryz.prog w = .ok (.value (.slice s l c)) w := by
  unfold execOp
  simp only [ho, hx]
  go_simp

theorem rbA (x : Operand) (b : Nat) {c : Bool} {s1 s2 : Option Addr} {l1 c1 l2 c2 : Nat} (ho : o.op = .load 25 x) (hx : a.eval x = .pointer (some ⟨b, 0, none⟩)) (w : World) (hb : Box w b c (.slice s1 l1 c1) (.slice s2 l2 c2)) : (execOp a.eval o).run Tryz.prog w = .ok (.value (.agg #[.bool c, .slice s1 l1 c1, .slice s2 l2 c2])) w := by
  obtain ⟨x0, x1, x2, _, _, _⟩ := hb.all
  unfold execOp
  simp only [ho, hx]
  go_simp
end

/-- The frame behind the region. -/
def outB (a : Act) (b2 b3 : Nat) (vA vB s1 t1 uA uB : Value) (p q : Nat) : Act :=
  frB ((((((a.put (some 22) vA).put (some 23) (.pointer (some ⟨b3, 1, none⟩))).put (some 24) t1).put (some 26) vB).put (some 27) (.pointer (some ⟨b2, 1, none⟩))).put (some 28) s1) true true true true uA uB p q

theorem regionB {Q : Exit → Act → World → Prop} (a : Act) (W : World) (hsz : 30 ≤ a.tmps.size) (b2 b3 : Nat) (h2 : a.eval (.tmp 2) = .pointer (some ⟨b2, 0, none⟩)) (h3 : a.eval (.tmp 3) = .pointer (some ⟨b3, 0, none⟩)) (c d : Bool) (o1 o2 o3 o4 : Option Addr) (n1 c1 n2 c2 m1 d1 m2 d2 : Nat) (L X R Y : List Int)
    (HK : ∀ wx, Below W.heap.size W wx → Box wx b2 c (.slice o1 n1 c1) (.slice o2 n2 c2) ∧ Box wx b3 d (.slice o3 m1 d1) (.slice o4 m2 d2))
    (HCA : ∀ wx, Below W.heap.size W wx → Calls Tryz.prog 103 #[.agg #[.bool c, .slice o1 n1 c1, .slice o2 n2 c2], .slice o3 m1 d1] wx fun e w' => ∃ s : Side, e = .returned (s.val c) ∧ SideIn s L X w' ∧ Below wx.heap.size wx w')
    (HCB : ∀ wx, Below W.heap.size W wx → Calls Tryz.prog 103 #[.agg #[.bool d, .slice o3 m1 d1, .slice o4 m2 d2], .slice o1 n1 c1] wx fun e w' => ∃ s : Side, e = .returned (s.val d) ∧ SideIn s R Y w' ∧ Below wx.heap.size wx w')
    (hQ : ∀ c a (d : Nat) v w, Q (.panic c) (a.put (some d) v) w → Q (.panic c) a w)
    (hend : ∀ p q (s u : Side) wx, Box wx p c s.v1 s.v2 → Box wx q d u.v1 u.v2 → SideIn s L X wx → SideIn u R Y wx → W.heap.size ≤ p → W.heap.size ≤ q → p ≠ q → Below W.heap.size W wx → Q .normal (outB a b2 b3 (.agg #[.bool c, .slice o1 n1 c1, .slice o2 n2 c2]) (.agg #[.bool d, .slice o3 m1 d1, .slice o4 m2 d2]) (.slice o1 n1 c1) (.slice o3 m1 d1) (s.val c) (u.val d) p q) wx) :
    (Code.region 3 opsB true).wp Tryz.prog Q a W := by
  have hb0 : Below W.heap.size W { W with drawn := W.drawn + 1 } := (Below.refl _ _).drew
  have hS := HK _ hb0
  refine wp_region_held (S := fun wx => Box wx b2 c (.slice o1 n1 c1) (.slice o2 n2 c2) ∧ Box wx b3 d (.slice o3 m1 d1) (.slice o4 m2 d2)) (by kernel_rfl) ?_
  show wpAnyH _ _ _ _ _ (11 + 1) _ _ _
  refine wpAnyH_take (i := 0) (oi := oB_0) (v := .agg #[.bool c, .slice o1 n1 c1, .slice o2 n2 c2]) rfl (by kernel_rfl) (by kernel_rfl) (by kernel_rfl) (fun c a w h => hQ c a _ _ w h) (Or.inl ⟨wantedB rfl, fun w hw => rbA (.tmp 2) b2 rfl h2 w hw.1⟩) hS ?_
  refine wpAnyH_take (i := 1) (oi := oB_1) (v := .pointer (some ⟨b3, 1, none⟩)) rfl (by kernel_rfl) (by kernel_rfl) (by kernel_rfl) (fun c a w h => hQ c a _ _ w h) (Or.inl ⟨wantedB rfl, fun w hw => rbF (.tmp 3) b3 rfl ((ptB_eval true 22 3 _ _ (by decide)).trans h3) w⟩) hS ?_
  refine wpAnyH_take (i := 2) (oi := oB_2) (v := .slice o3 m1 d1) rfl (by kernel_rfl) (by kernel_rfl) (by kernel_rfl) (fun c a w h => hQ c a _ _ w h) (Or.inl ⟨wantedB rfl, fun w hw => rbL (.tmp 23) _ rfl (ptB_same 23 _ (ptB true 22 _ a) (by rw [ptB_size]; omega)) w hw.2.cells.2.1⟩) hS ?_
  refine wpAnyH_take (i := 4) (oi := oB_4) (v := .agg #[.bool d, .slice o3 m1 d1, .slice o4 m2 d2]) rfl (by kernel_rfl) (by kernel_rfl) (by kernel_rfl) (fun c a w h => hQ c a _ _ w h) (Or.inl ⟨wantedB rfl, fun w hw => rbA (.tmp 3) b3 rfl ((ptB_eval true 24 3 _ _ (by decide)).trans ((ptB_eval true 23 3 _ _ (by decide)).trans ((ptB_eval true 22 3 _ _ (by decide)).trans h3))) w hw.2⟩) hS ?_
  refine wpAnyH_take (i := 5) (oi := oB_5) (v := .pointer (some ⟨b2, 1, none⟩)) rfl (by kernel_rfl) (by kernel_rfl) (by kernel_rfl) (fun c a w h => hQ c a _ _ w h) (Or.inl ⟨wantedB rfl, fun w hw => rbF (.tmp 2) b2 rfl ((ptB_eval true 26 2 _ _ (by decide)).trans ((ptB_eval true 24 2 _ _ (by decide)).trans ((ptB_eval true 23 2 _ _ (by decide)).trans ((ptB_eval true 22 2 _ _ (by decide)).trans h2)))) w⟩) hS ?_
  refine wpAnyH_take (i := 6) (oi := oB_6) (v := .slice o1 n1 c1) rfl (by kernel_rfl) (by kernel_rfl) (by kernel_rfl) (fun c a w h => hQ c a _ _ w h) (Or.inl ⟨wantedB rfl, fun w hw => rbL (.tmp 27) _ rfl (ptB_same 27 _ (ptB true 26 _ (ptB true 24 _ (ptB true 23 _ (ptB true 22 _ a)))) (by rw [ptB_size, ptB_size, ptB_size, ptB_size]; omega)) w hw.1.cells.2.1⟩) hS ?_
  refine drawB ((((((a.put (some 22) (.agg #[.bool c, .slice o1 n1 c1, .slice o2 n2 c2])).put (some 23) (.pointer (some ⟨b3, 1, none⟩))).put (some 24) (.slice o3 m1 d1)).put (some 26) (.agg #[.bool d, .slice o3 m1 d1, .slice o4 m2 d2])).put (some 27) (.pointer (some ⟨b2, 1, none⟩))).put (some 28) (.slice o1 n1 c1)) W (by simp [Act.put]; omega) (.agg #[.bool c, .slice o1 n1 c1, .slice o2 n2 c2]) (.slice o3 m1 d1) (.agg #[.bool d, .slice o3 m1 d1, .slice o4 m2 d2]) (.slice o1 n1 c1) ?_ ?_ ?_ ?_ c d L X R Y HK HCA HCB hend 6 false false false false ⟨0, 0, 0, 0, ⟨0, 0, none⟩, 0, 0⟩ ⟨0, 0, 0, 0, ⟨0, 0, none⟩, 0, 0⟩ 0 0 _ (by simp) (by simp [nB]) ⟨hb0, by simp, by simp, by simp, by simp, by simp⟩
  · exact (ptB_eval true 28 22 _ _ (by decide)).trans ((ptB_eval true 27 22 _ _ (by decide)).trans ((ptB_eval true 26 22 _ _ (by decide)).trans ((ptB_eval true 24 22 _ _ (by decide)).trans ((ptB_eval true 23 22 _ _ (by decide)).trans (ptB_same 22 _ a (by omega))))))
  · exact (ptB_eval true 28 24 _ _ (by decide)).trans ((ptB_eval true 27 24 _ _ (by decide)).trans ((ptB_eval true 26 24 _ _ (by decide)).trans (ptB_same 24 _ (ptB true 23 _ (ptB true 22 _ a)) (by rw [ptB_size, ptB_size]; omega))))
  · exact (ptB_eval true 28 26 _ _ (by decide)).trans ((ptB_eval true 27 26 _ _ (by decide)).trans (ptB_same 26 _ (ptB true 24 _ (ptB true 23 _ (ptB true 22 _ a))) (by rw [ptB_size, ptB_size, ptB_size]; omega)))
  · exact ptB_same 28 _ (ptB true 27 _ (ptB true 26 _ (ptB true 24 _ (ptB true 23 _ (ptB true 22 _ a))))) (by rw [ptB_size, ptB_size, ptB_size, ptB_size, ptB_size]; omega)

end Go.Proofs.YtkgcmpmgaghdhaaGreatDoor
