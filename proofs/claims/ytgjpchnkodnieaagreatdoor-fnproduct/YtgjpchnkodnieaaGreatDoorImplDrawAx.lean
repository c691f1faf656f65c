import Derived.Test.YtgjpchnkodnieaaGreatDoorImplAxes
import Derived.Deep.RegionHeld3
import Derived.Laws.EntriesVeiled
namespace Go.Proofs.YtgjpchnkodnieaaGreatDoor
open Go.RowKit Go.Shelf

def ops4 : Array Oper :=
  #[{ dst := some 40, op := Op.fieldAddr 25 (Operand.tmp 6) 1, type := 0, pos := "l4_scalar.go:126", after := #[], guard := none },
    { dst := some 41, op := Op.load 23 (Operand.tmp 40), type := 23, pos := "l4_scalar.go:126", after := #[{ on := 0, ground := Ground.data }], guard := none },
    { dst := some 42, op := Op.call { callee := Callee.value (Operand.func 112), args := #[Operand.tmp 41, Operand.const (Value.bool false)], argTypes := #[23, 4] }, type := 133, pos := "l4_scalar.go:126", after := #[{ on := 1, ground := Ground.data }], guard := none },
    { dst := some 43, op := Op.fieldAddr 25 (Operand.tmp 7) 1, type := 0, pos := "l4_scalar.go:126", after := #[], guard := none },
    { dst := some 44, op := Op.load 23 (Operand.tmp 43), type := 23, pos := "l4_scalar.go:126", after := #[{ on := 3, ground := Ground.data }], guard := none },
    { dst := some 45, op := Op.call { callee := Callee.value (Operand.func 112), args := #[Operand.tmp 44, Operand.const (Value.bool true)], argTypes := #[23, 4] }, type := 133, pos := "l4_scalar.go:126", after := #[{ on := 4, ground := Ground.data }, { on := 2, ground := Ground.chain }], guard := none },
    { dst := some 10, op := Op.alloc 133, type := 0, pos := "l4_scalar.go:126", after := #[], guard := none },
    { dst := some 11, op := Op.alloc 133, type := 0, pos := "l4_scalar.go:126", after := #[], guard := none },
    { dst := none, op := Op.store 133 (Operand.tmp 10) (Operand.tmp 42), type := 0, pos := "l4_scalar.go:126", after := #[{ on := 6, ground := Ground.data }, { on := 2, ground := Ground.data }, { on := 5, ground := Ground.chain }, { on := 0, ground := Ground.phase }, { on := 1, ground := Ground.phase }, { on := 2, ground := Ground.phase }, { on := 3, ground := Ground.textOnly Departure.lateStores }, { on := 4, ground := Ground.textOnly Departure.lateStores }, { on := 5, ground := Ground.textOnly Departure.lateStoresUnsure }, { on := 6, ground := Ground.phase }, { on := 7, ground := Ground.phase }], guard := none },
    { dst := none, op := Op.store 133 (Operand.tmp 11) (Operand.tmp 45), type := 0, pos := "l4_scalar.go:126", after := #[{ on := 7, ground := Ground.data }, { on := 5, ground := Ground.data }, { on := 8, ground := Ground.chain }, { on := 0, ground := Ground.phase }, { on := 1, ground := Ground.phase }, { on := 2, ground := Ground.phase }, { on := 3, ground := Ground.phase }, { on := 4, ground := Ground.phase }, { on := 5, ground := Ground.phase }, { on := 6, ground := Ground.phase }, { on := 7, ground := Ground.phase }, { on := 8, ground := Ground.phase }], guard := none }]

/-- A slot is laid, or not yet. -/
def pt (b : Bool) (d : Nat) (v : Value) (a : Act) : Act := if b then a.put (some d) v else a

theorem pt_comm (b : Bool) (d e : Nat) (v u : Value) (a : Act) (h : d ≠ e) : (pt b d v a).put (some e) u = pt b d v (a.put (some e) u) := by
  cases b with
  | false => rfl
  | true => exact Act.put_comm a v u (x := some d) (y := some e) (by simp; exact fun hy => h hy.symm)

theorem pt_eval (b : Bool) (d e : Nat) (v : Value) (a : Act) (h : d ≠ e) : (pt b d v a).eval (.tmp e) = a.eval (.tmp e) := by
  cases b with
  | false => rfl
  | true => exact Act.eval_put (dst := some d) (x := .tmp e) (by simp; exact fun hy => h hy.symm)

theorem pt_same (d : Nat) (v : Value) (a : Act) (h : d < a.tmps.size) : (pt true d v a).eval (.tmp d) = v := by
  simp [pt, Act.eval, Act.put, h]

theorem pt_size (b : Bool) (d : Nat) (v : Value) (a : Act) : (pt b d v a).tmps.size = a.tmps.size := by
  cases b <;> simp [pt, Act.put]

/-- The frame: which of the four is done. -/
def fr4 (a : Act) (dA dB dP dQ : Bool) (vA vB : Value) (p q : Nat) : Act :=
  pt dQ 11 (.pointer (some ⟨q, 0, none⟩)) (pt dP 10 (.pointer (some ⟨p, 0, none⟩)) (pt dB 45 vB (pt dA 42 vA a)))

theorem fr4_A (a : Act) (dP dQ : Bool) (vA vB v : Value) (p q : Nat) : (fr4 a false false dP dQ vA vB p q).put (some 42) v = fr4 a true false dP dQ v vB p q := by
  unfold fr4
  rw [pt_comm _ _ _ _ _ _ (by decide), pt_comm _ _ _ _ _ _ (by decide)]
  rfl

theorem fr4_B (a : Act) (dA dP dQ : Bool) (vA vB v : Value) (p q : Nat) : (fr4 a dA false dP dQ vA vB p q).put (some 45) v = fr4 a dA true dP dQ vA v p q := by
  unfold fr4
  rw [pt_comm _ _ _ _ _ _ (by decide), pt_comm _ _ _ _ _ _ (by decide)]
  rfl

theorem fr4_P (a : Act) (dA dB dQ : Bool) (vA vB : Value) (p p' q : Nat) : (fr4 a dA dB false dQ vA vB p q).put (some 10) (.pointer (some ⟨p', 0, none⟩)) = fr4 a dA dB true dQ vA vB p' q := by
  unfold fr4
  rw [pt_comm _ _ _ _ _ _ (by decide)]
  rfl

theorem fr4_Q (a : Act) (dA dB dP : Bool) (vA vB : Value) (p q q' : Nat) : (fr4 a dA dB dP false vA vB p q).put (some 11) (.pointer (some ⟨q', 0, none⟩)) = fr4 a dA dB dP true vA vB p q' := rfl

/-- What lies in memory. -/
structure In4 (W : World) (xs ys : List Int) (dA dB dP dQ : Bool) (oa : Option Addr) (ol : Nat) (oa' : Option Addr) (ol' : Nat) (p q : Nat) (w : World) : Prop where
  hb : Below W.heap.size W w
  ha : dA = true → Own w W.heap.size oa ol xs
  ha' : dB = true → Own w W.heap.size oa' ol' ys
  hp : dP = true → ZA w p ∧ W.heap.size ≤ p
  hq : dQ = true → ZA w q ∧ W.heap.size ≤ q
  hpq : dP = true → dQ = true → p ≠ q
  hap : dA = true → dP = true → ∀ k, At oa ol k → k ≠ p
  haq : dA = true → dQ = true → ∀ k, At oa ol k → k ≠ q
  hbp : dB = true → dP = true → ∀ k, At oa' ol' k → k ≠ p
  hbq : dB = true → dQ = true → ∀ k, At oa' ol' k → k ≠ q

section
variable {W : World} {xs ys : List Int} {dA dB dP dQ : Bool} {oa oa' : Option Addr} {ol ol' p q : Nat} {w : World}

theorem In4.P (h : In4 W xs ys dA dB false dQ oa ol oa' ol' p q w) : In4 W xs ys dA dB true dQ oa ol oa' ol' w.heap.size q (w.alloc (.cells #[.int .i64 0, .int .i64 0, .int .i64 0, .slice none 0 0] 133)) where
  hb := h.hb.alloc h.hb.size _
  ha := fun e => (h.ha e).alloc _
  ha' := fun e => (h.ha' e).alloc _
  hp := fun _ => ⟨ZA.new' rfl, h.hb.size⟩
  hq := fun e => ⟨(h.hq e).1.alloc _, (h.hq e).2⟩
  hpq := fun _ e => by have := (h.hq e).1.lt; omega
  hap := fun e _ k hk => by have := (h.ha e).row.hi hk; omega
  haq := fun e e' => h.haq e e'
  hbp := fun e _ k hk => by have := (h.ha' e).row.hi hk; omega
  hbq := fun e e' => h.hbq e e'

theorem In4.Q (h : In4 W xs ys dA dB dP false oa ol oa' ol' p q w) : In4 W xs ys dA dB dP true oa ol oa' ol' p w.heap.size (w.alloc (.cells #[.int .i64 0, .int .i64 0, .int .i64 0, .slice none 0 0] 133)) where
  hb := h.hb.alloc h.hb.size _
  ha := fun e => (h.ha e).alloc _
  ha' := fun e => (h.ha' e).alloc _
  hq := fun _ => ⟨ZA.new' rfl, h.hb.size⟩
  hp := fun e => ⟨(h.hp e).1.alloc _, (h.hp e).2⟩
  hpq := fun e _ => by have := (h.hp e).1.lt; omega
  haq := fun e _ k hk => by have := (h.ha e).row.hi hk; omega
  hap := fun e e' => h.hap e e'
  hbq := fun e _ k hk => by have := (h.ha' e).row.hi hk; omega
  hbp := fun e e' => h.hbp e e'

theorem In4.A {w' : World} {o1 : Option Addr} {l1 : Nat} (h : In4 W xs ys false dB dP dQ oa ol oa' ol' p q w) (ho : Own w' (w.heap.size + 1) o1 l1 xs) (hb : Below w.heap.size w w') : In4 W xs ys true dB dP dQ o1 l1 oa' ol' p q w' where
  hb := h.hb.trans (hb.mono h.hb.size)
  ha := fun _ => ho.mono (by have := h.hb.size; omega)
  ha' := fun e => (h.ha' e).below (Nat.le_refl _) hb
  hp := fun e => ⟨(h.hp e).1.below hb, (h.hp e).2⟩
  hq := fun e => ⟨(h.hq e).1.below hb, (h.hq e).2⟩
  hpq := h.hpq
  hap := fun _ e k hk => by have := (h.hp e).1.lt; have := ho.low hk; omega
  haq := fun _ e k hk => by have := (h.hq e).1.lt; have := ho.low hk; omega
  hbp := h.hbp
  hbq := h.hbq

theorem In4.B {w' : World} {o1 : Option Addr} {l1 : Nat} (h : In4 W xs ys dA false dP dQ oa ol oa' ol' p q w) (ho : Own w' (w.heap.size + 1) o1 l1 ys) (hb : Below w.heap.size w w') : In4 W xs ys dA true dP dQ oa ol o1 l1 p q w' where
  hb := h.hb.trans (hb.mono h.hb.size)
  ha' := fun _ => ho.mono (by have := h.hb.size; omega)
  ha := fun e => (h.ha e).below (Nat.le_refl _) hb
  hp := fun e => ⟨(h.hp e).1.below hb, (h.hp e).2⟩
  hq := fun e => ⟨(h.hq e).1.below hb, (h.hq e).2⟩
  hpq := h.hpq
  hbp := fun _ e k hk => by have := (h.hp e).1.lt; have := ho.low hk; omega
  hbq := fun _ e k hk => by have := (h.hq e).1.lt; have := ho.low hk; omega
  hap := h.hap
  haq := h.haq
end

section
variable {ops : Array Oper} {Q : Exit → Act → World → Prop} {K : Act → World → Prop} {a : Act} {w : World}

theorem op_go {i : Nat} {o : Oper} (hi : ops[i]? = some o) (hg : Region.wanted o (yielded ops a.tmps) = true) (h : o.wp Tryz.prog a w K Q) : wpOp Tryz.prog ops Q i K a w := by
  unfold wpOp
  rw [hi]
  show if Region.wanted o (yielded ops a.tmps) = true then _ else _
  rw [if_pos hg]
  exact .inl h

theorem op_axis {i : Nat} {o : Oper} (x : Operand) (b : Bool) (v : Value) {B L A : Nat} {zs : List Int} (hi : ops[i]? = some o) (hg : Region.wanted o (yielded ops a.tmps) = true) (ho : o.op = .call { callee := .value (.func 112), args := #[x, .const (.bool b)], argTypes := #[23, 4] }) (hx : a.eval x = v)
    (hc : Calls Tryz.prog 112 #[v, .bool b] w (AxisOk w B L A zs))
    (h : ∀ oa ol oc w', Own w' (w.heap.size + 1) oa ol zs → Below w.heap.size w w' → K (a.put o.dst (.agg #[.int .i64 (B : Nat), .int .i64 (L : Nat), .int .i64 (A : Nat), .slice oa ol oc])) w') : wpOp Tryz.prog ops Q i K a w := by
  refine op_go hi hg ?_
  have e : (execOp a.eval o).run Tryz.prog w = .ok (.enter 112 #[v, .bool b]) w := by
    unfold execOp
    simp only [ho]
    go_simp
    rw [← hx]
    cases x <;> simp [Act.eval]
  unfold Oper.wp
  rw [e]
  show Calls _ _ _ _ _
  refine hc.mono ?_
  rintro e w' ⟨oa, ol, oc, rfl, h1, h2⟩
  exact h oa ol oc w' h1 h2

theorem op_zero {i : Nat} {o : Oper} (hi : ops[i]? = some o) (hg : Region.wanted o (yielded ops a.tmps) = true) (ho : o.op = .alloc 133)
    (h : K (a.put o.dst (.pointer (some ⟨w.heap.size, 0, none⟩))) (w.alloc (.cells #[.int .i64 0, .int .i64 0, .int .i64 0, .slice none 0 0] 133))) : wpOp Tryz.prog ops Q i K a w := by
  refine op_go hi hg ?_
  have e : (execOp a.eval o).run Tryz.prog w = .ok (.value (.pointer (some ⟨w.heap.size, 0, none⟩))) (w.alloc (.cells #[.int .i64 0, .int .i64 0, .int .i64 0, .slice none 0 0] 133)) := by
    unfold execOp
    simp only [ho]
    go_simp
  unfold Oper.wp
  rw [e]
  exact h

theorem op_lays {i : Nat} {o : Oper} (x y : Operand) (p : Nat) {B L A n c : Nat} {s : Option Addr} (hi : ops[i]? = some o) (hg : Region.wanted o (yielded ops a.tmps) = true) (ho : o.op = .store 133 x y) (hx : a.eval x = .pointer (some ⟨p, 0, none⟩)) (hy : a.eval y = .agg #[.int .i64 (B : Nat), .int .i64 (L : Nat), .int .i64 (A : Nat), .slice s n c]) (hz : ZA w p)
    (h : K (a.put o.dst undef) ((((w.setCell ⟨p, 0, none⟩ (.int .i64 (B : Nat))).setCell ⟨p, 1, none⟩ (.int .i64 (L : Nat))).setCell ⟨p, 2, none⟩ (.int .i64 (A : Nat))).setCell ⟨p, 3, none⟩ (.slice s n c))) : wpOp Tryz.prog ops Q i K a w := by
  refine op_go hi hg ?_
  obtain ⟨i0, i1, i2, i3, i4, i5, i6, i7, i8⟩ := hz.all
  have e : (execOp a.eval o).run Tryz.prog w = .ok .skip ((((w.setCell ⟨p, 0, none⟩ (.int .i64 (B : Nat))).setCell ⟨p, 1, none⟩ (.int .i64 (L : Nat))).setCell ⟨p, 2, none⟩ (.int .i64 (A : Nat))).setCell ⟨p, 3, none⟩ (.slice s n c)) := by
    unfold execOp
    simp only [ho, hx, hy]
    go_simp
  unfold Oper.wp
  rw [e]
  exact h
end

def rs4 (dA dB dP dQ : Bool) : List Nat :=
  (if dA then [] else [2]) ++ (if dA && !dB then [5] else []) ++ (if dP then [] else [6]) ++ (if dQ then [] else [7]) ++ (if dA && dB && dP && dQ then [8] else [])

theorem ready4 : ∀ dA dB dP dQ : Bool, (dB = true → dA = true) → Region.ready .any ops4 #[true, true, dA, true, true, dB, dP, dQ, false, false] = rs4 dA dB dP dQ := by
  intro dA dB dP dQ h
  cases dA <;> cases dB <;> cases dP <;> cases dQ <;> first | (exact absurd (h rfl) (by decide)) | kernel_rfl

theorem rs4_in {dA dB dP dQ : Bool} {i : Nat} (h : i ∈ rs4 dA dB dP dQ) : (i = 2 ∧ dA = false) ∨ (i = 5 ∧ dA = true ∧ dB = false) ∨ (i = 6 ∧ dP = false) ∨ (i = 7 ∧ dQ = false) ∨ (i = 8 ∧ dA = true ∧ dB = true ∧ dP = true ∧ dQ = true) := by
  cases dA <;> cases dB <;> cases dP <;> cases dQ <;> simp [rs4] at h ⊢ <;> simpa using h

theorem rs4_ne (dA dB dP dQ : Bool) (h : dB = true → dA = true) : rs4 dA dB dP dQ ≠ [] := by
  cases dA <;> cases dB <;> cases dP <;> cases dQ <;> first | (exact absurd (h rfl) (by decide)) | simp [rs4]

def n4 (b : Bool) : Nat := if b then 0 else 1

def axV (B L A : Nat) (o : Option Addr) (n c : Nat) : Value := .agg #[.int .i64 (B : Nat), .int .i64 (L : Nat), .int .i64 (A : Nat), .slice o n c]

theorem fr4_e41 (a : Act) (dA dB dP dQ : Bool) (vA vB : Value) (p q : Nat) : (fr4 a dA dB dP dQ vA vB p q).eval (.tmp 41) = a.eval (.tmp 41) := by
  unfold fr4
  rw [pt_eval _ _ _ _ _ (by decide), pt_eval _ _ _ _ _ (by decide), pt_eval _ _ _ _ _ (by decide), pt_eval _ _ _ _ _ (by decide)]

theorem fr4_e44 (a : Act) (dA dB dP dQ : Bool) (vA vB : Value) (p q : Nat) : (fr4 a dA dB dP dQ vA vB p q).eval (.tmp 44) = a.eval (.tmp 44) := by
  unfold fr4
  rw [pt_eval _ _ _ _ _ (by decide), pt_eval _ _ _ _ _ (by decide), pt_eval _ _ _ _ _ (by decide), pt_eval _ _ _ _ _ (by decide)]

theorem fr4_e42 (a : Act) (vA vB : Value) (p q : Nat) (h : 46 ≤ a.tmps.size) : (fr4 a true true true true vA vB p q).eval (.tmp 42) = vA := by
  unfold fr4
  rw [pt_eval _ _ _ _ _ (by decide), pt_eval _ _ _ _ _ (by decide), pt_eval _ _ _ _ _ (by decide), pt_same _ _ _ (by omega)]

theorem fr4_e45 (a : Act) (vA vB : Value) (p q : Nat) (h : 46 ≤ a.tmps.size) : (fr4 a true true true true vA vB p q).eval (.tmp 45) = vB := by
  unfold fr4
  rw [pt_eval _ _ _ _ _ (by decide), pt_eval _ _ _ _ _ (by decide), pt_same _ _ _ (by rw [pt_size]; omega)]

theorem fr4_e10 (a : Act) (vA vB : Value) (p q : Nat) (h : 46 ≤ a.tmps.size) : (fr4 a true true true true vA vB p q).eval (.tmp 10) = .pointer (some ⟨p, 0, none⟩) := by
  unfold fr4
  rw [pt_eval _ _ _ _ _ (by decide), pt_same _ _ _ (by rw [pt_size, pt_size]; omega)]

theorem fr4_e11 (a : Act) (vA vB : Value) (p q : Nat) (h : 46 ≤ a.tmps.size) : (fr4 a true true true true vA vB p q).eval (.tmp 11) = .pointer (some ⟨q, 0, none⟩) := by
  unfold fr4
  rw [pt_same _ _ _ (by rw [pt_size, pt_size, pt_size]; omega)]

theorem draw4 {Q : Exit → Act → World → Prop} {S : World → Prop} (a : Act) (W : World) (hsz : 46 ≤ a.tmps.size) (s1 s2 : Value) (h41 : a.eval (.tmp 41) = s1) (h44 : a.eval (.tmp 44) = s2) (B L u Bc L2 A : Nat) (xs ys : List Int)
    (HK : ∀ wx, Below W.heap.size W wx → S wx)
    (HCA : ∀ wx, Below W.heap.size W wx → Calls Tryz.prog 112 #[s1, .bool false] wx (AxisOk wx B L u xs))
    (HCB : ∀ wx, Below W.heap.size W wx → Calls Tryz.prog 112 #[s2, .bool true] wx (AxisOk wx Bc L2 A ys))
    (hend : ∀ p q oa ol oc oa' ol' oc' wx, ABox wx p B L u (.slice oa ol oc) → ABox wx q Bc L2 A (.slice oa' ol' oc') → Row wx oa ol xs → Row wx oa' ol' ys → Below W.heap.size W wx → Q .normal (fr4 a true true true true (axV B L u oa ol oc) (axV Bc L2 A oa' ol' oc') p q) wx) :
    ∀ (fuel : Nat) (dA dB dP dQ : Bool) (oa : Option Addr) (ol oc : Nat) (oa' : Option Addr) (ol' oc' : Nat) (p q : Nat) (w : World), (dB = true → dA = true) → n4 dA + n4 dB + n4 dP + n4 dQ + 2 ≤ fuel → In4 W xs ys dA dB dP dQ oa ol oa' ol' p q w →
      wpAnyH Tryz.prog .any ops4 Q S fuel #[true, true, dA, true, true, dB, dP, dQ, false, false] (fr4 a dA dB dP dQ (axV B L u oa ol oc) (axV Bc L2 A oa' ol' oc') p q) w := by
  intro fuel
  induction fuel with
  | zero => intro dA dB dP dQ oa ol oc oa' ol' oc' p q w _ h; omega
  | succ fuel ih =>
    intro dA dB dP dQ oa ol oc oa' ol' oc' p q w hAB hn hI
    refine wpAnyH_all (ready4 dA dB dP dQ hAB) (rs4_ne dA dB dP dQ hAB) ?_
    intro i hi
    obtain ⟨rfl, rfl⟩ | ⟨rfl, rfl, rfl⟩ | ⟨rfl, rfl⟩ | ⟨rfl, rfl⟩ | ⟨rfl, rfl, rfl, rfl, rfl⟩ := rs4_in hi
    · have hB : dB = false := by cases dB with
        | false => rfl
        | true => exact absurd (hAB rfl) (by decide)
      subst hB
      refine op_axis (.tmp 41) false s1 (B := B) (L := L) (A := u) (zs := xs) rfl rfl rfl (by rw [fr4_e41, h41]) (HCA _ hI.hb) ?_
      intro o1 l1 c1 w' ho hb
      have hI' := hI.A ho hb
      refine ⟨HK _ hI'.hb, ?_⟩
      have := ih true false dP dQ o1 l1 c1 oa' ol' oc' p q w' (fun _ => rfl) (by simp [n4] at hn ⊢; omega) hI'
      exact (fr4_A a dP dQ (axV B L u oa ol oc) (axV Bc L2 A oa' ol' oc') (axV B L u o1 l1 c1) p q) ▸ this
    · refine op_axis (.tmp 44) true s2 (B := Bc) (L := L2) (A := A) (zs := ys) rfl rfl rfl (by rw [fr4_e44, h44]) (HCB _ hI.hb) ?_
      intro o1 l1 c1 w' ho hb
      have hI' := hI.B ho hb
      refine ⟨HK _ hI'.hb, ?_⟩
      have := ih true true dP dQ oa ol oc o1 l1 c1 p q w' (fun _ => rfl) (by simp [n4] at hn ⊢; omega) hI'
      exact (fr4_B a true dP dQ (axV B L u oa ol oc) (axV Bc L2 A oa' ol' oc') (axV Bc L2 A o1 l1 c1) p q) ▸ this
    · refine op_zero rfl rfl rfl ?_
      have hI' := hI.P
      refine ⟨HK _ hI'.hb, ?_⟩
      have := ih dA dB true dQ oa ol oc oa' ol' oc' w.heap.size q _ hAB (by simp [n4] at hn ⊢; omega) hI'
      exact (fr4_P a dA dB dQ (axV B L u oa ol oc) (axV Bc L2 A oa' ol' oc') p w.heap.size q) ▸ this
    · refine op_zero rfl rfl rfl ?_
      have hI' := hI.Q
      refine ⟨HK _ hI'.hb, ?_⟩
      have := ih dA dB dP true oa ol oc oa' ol' oc' p w.heap.size _ hAB (by simp [n4] at hn ⊢; omega) hI'
      exact (fr4_Q a dA dB dP (axV B L u oa ol oc) (axV Bc L2 A oa' ol' oc') p q w.heap.size) ▸ this
    · obtain ⟨m, rfl⟩ : ∃ m, fuel = m + 1 := ⟨fuel - 1, by simp [n4] at hn; omega⟩
      obtain ⟨hz, hp⟩ := hI.hp rfl
      obtain ⟨hz', hq⟩ := hI.hq rfl
      have hpq := hI.hpq rfl rfl
      refine op_lays (.tmp 10) (.tmp 42) p (B := B) (L := L) (A := u) rfl rfl rfl (fr4_e10 _ _ _ _ _ hsz) (fr4_e42 _ _ _ _ _ hsz) hz ?_
      have hb1 := (((hI.hb.setCell (p := ⟨p, 0, none⟩) hp (.int .i64 (B : Nat))).setCell (p := ⟨p, 1, none⟩) hp (.int .i64 (L : Nat))).setCell (p := ⟨p, 2, none⟩) hp (.int .i64 (u : Nat))).setCell (p := ⟨p, 3, none⟩) hp (.slice oa ol oc)
      refine ⟨HK _ hb1, ?_⟩
      refine wpAnyH_all (rs := [9]) (by kernel_rfl) (by simp) ?_
      intro i hi
      obtain rfl : i = 9 := by simpa using hi
      have hz2 := (((hz'.other (q := ⟨p, 0, none⟩) hpq.symm (.int .i64 (B : Nat))).other (q := ⟨p, 1, none⟩) hpq.symm (.int .i64 (L : Nat))).other (q := ⟨p, 2, none⟩) hpq.symm (.int .i64 (u : Nat))).other (q := ⟨p, 3, none⟩) hpq.symm (.slice oa ol oc)
      refine op_lays (.tmp 11) (.tmp 45) q (B := Bc) (L := L2) (A := A) rfl rfl rfl (fr4_e11 _ _ _ _ _ hsz) (fr4_e45 _ _ _ _ _ hsz) hz2 ?_
      have hb2 := (((hb1.setCell (p := ⟨q, 0, none⟩) hq (.int .i64 (Bc : Nat))).setCell (p := ⟨q, 1, none⟩) hq (.int .i64 (L2 : Nat))).setCell (p := ⟨q, 2, none⟩) hq (.int .i64 (A : Nat))).setCell (p := ⟨q, 3, none⟩) hq (.slice oa' ol' oc')
      refine ⟨HK _ hb2, ?_⟩
      refine wpAnyH_done (by kernel_rfl) ?_ _
      refine hend p q oa ol oc oa' ol' oc' _ ?_ (ABox.sets hz2) ?_ ?_ hb2
      · exact ((((ABox.sets hz).other (q := ⟨q, 0, none⟩) hpq _).other (q := ⟨q, 1, none⟩) hpq _).other (q := ⟨q, 2, none⟩) hpq _).other (q := ⟨q, 3, none⟩) hpq _
      · have h0 := (((((hI.ha rfl).other (q := ⟨p, 0, none⟩) (hI.hap rfl rfl) (.int .i64 (B : Nat))).other (q := ⟨p, 1, none⟩) (hI.hap rfl rfl) (.int .i64 (L : Nat))).other (q := ⟨p, 2, none⟩) (hI.hap rfl rfl) (.int .i64 (u : Nat))).other (q := ⟨p, 3, none⟩) (hI.hap rfl rfl) (.slice oa ol oc))
        exact ((((h0.other (q := ⟨q, 0, none⟩) (hI.haq rfl rfl) _).other (q := ⟨q, 1, none⟩) (hI.haq rfl rfl) _).other (q := ⟨q, 2, none⟩) (hI.haq rfl rfl) _).other (q := ⟨q, 3, none⟩) (hI.haq rfl rfl) _).row
      · have h0 := (((((hI.ha' rfl).other (q := ⟨p, 0, none⟩) (hI.hbp rfl rfl) (.int .i64 (B : Nat))).other (q := ⟨p, 1, none⟩) (hI.hbp rfl rfl) (.int .i64 (L : Nat))).other (q := ⟨p, 2, none⟩) (hI.hbp rfl rfl) (.int .i64 (u : Nat))).other (q := ⟨p, 3, none⟩) (hI.hbp rfl rfl) (.slice oa ol oc))
        exact ((((h0.other (q := ⟨q, 0, none⟩) (hI.hbq rfl rfl) _).other (q := ⟨q, 1, none⟩) (hI.hbq rfl rfl) _).other (q := ⟨q, 2, none⟩) (hI.hbq rfl rfl) _).other (q := ⟨q, 3, none⟩) (hI.hbq rfl rfl) _).row

theorem run_field1 {o : Oper} {a : Act} (x : Operand) (b : Nat) (ho : o.op = .fieldAddr 25 x 1) (hx : a.eval x = .pointer (some ⟨b, 0, none⟩)) (w : World) : (execOp a.eval o).run Tryz.prog w = .ok (.value (.pointer (some ⟨b, 1, none⟩))) w := by
  unfold execOp
  simp only [ho, hx]
  go_simp

theorem run_load1 {o : Oper} {a : Act} (x : Operand) (b : Nat) {s : Option Addr} {l c : Nat} (ho : o.op = .load 23 x) (hx : a.eval x = .pointer (some ⟨b, 1, none⟩)) (w : World) (hc : w.cell? ⟨b, 1, none⟩ = some (.slice s l c)) : (execOp a.eval o).run Tryz.prog w = .ok (.value (.slice s l c)) w := by
  unfold execOp
  simp only [ho, hx]
  go_simp

/-- The frame behind the region. -/
def out4 (a : Act) (b6 b7 : Nat) (s1 s2 vA vB : Value) (p q : Nat) : Act :=
  fr4 ((((a.put (some 40) (.pointer (some ⟨b6, 1, none⟩))).put (some 41) s1).put (some 43) (.pointer (some ⟨b7, 1, none⟩))).put (some 44) s2) true true true true vA vB p q

theorem region4 {Q : Exit → Act → World → Prop} (a : Act) (W : World) (hsz : 46 ≤ a.tmps.size) (b6 b7 : Nat) (h6 : a.eval (.tmp 6) = .pointer (some ⟨b6, 0, none⟩)) (h7 : a.eval (.tmp 7) = .pointer (some ⟨b7, 0, none⟩)) (o1 o2 : Option Addr) (l1 c1 l2 c2 : Nat) (B L u Bc L2 A : Nat) (xs ys : List Int)
    (HK : ∀ wx, Below W.heap.size W wx → wx.cell? ⟨b6, 1, none⟩ = some (.slice o1 l1 c1) ∧ wx.cell? ⟨b7, 1, none⟩ = some (.slice o2 l2 c2))
    (HCA : ∀ wx, Below W.heap.size W wx → Calls Tryz.prog 112 #[.slice o1 l1 c1, .bool false] wx (AxisOk wx B L u xs))
    (HCB : ∀ wx, Below W.heap.size W wx → Calls Tryz.prog 112 #[.slice o2 l2 c2, .bool true] wx (AxisOk wx Bc L2 A ys))
    (hQ : ∀ c a (d : Nat) v w, Q (.panic c) (a.put (some d) v) w → Q (.panic c) a w)
    (hend : ∀ p q oa ol oc oa' ol' oc' wx, ABox wx p B L u (.slice oa ol oc) → ABox wx q Bc L2 A (.slice oa' ol' oc') → Row wx oa ol xs → Row wx oa' ol' ys → Below W.heap.size W wx → Q .normal (out4 a b6 b7 (.slice o1 l1 c1) (.slice o2 l2 c2) (axV B L u oa ol oc) (axV Bc L2 A oa' ol' oc') p q) wx) :
    (Code.region 4 ops4 true).wp Tryz.prog Q a W := by
  have hb0 : Below W.heap.size W { W with drawn := W.drawn + 1 } := (Below.refl _ _).drew
  have hS := HK _ hb0
  refine wp_region_held (S := fun wx => wx.cell? ⟨b6, 1, none⟩ = some (.slice o1 l1 c1) ∧ wx.cell? ⟨b7, 1, none⟩ = some (.slice o2 l2 c2)) (by kernel_rfl) ?_
  show wpAnyH _ _ _ _ _ (9 + 1) _ _ _
  refine wpAnyH_take (i := 0) (v := .pointer (some ⟨b6, 1, none⟩)) rfl (by kernel_rfl) (by kernel_rfl) (by kernel_rfl) (fun c a w h => hQ c a _ _ w h) (Or.inl ⟨rfl, ?_⟩) hS ?_
  · intro w hSw
    exact run_field1 (.tmp 6) b6 rfl h6 w
  refine wpAnyH_take (i := 1) (v := .slice o1 l1 c1) rfl (by kernel_rfl) (by kernel_rfl) (by kernel_rfl) (fun c a w h => hQ c a _ _ w h) (Or.inl ⟨rfl, ?_⟩) hS ?_
  · intro w hSw
    obtain ⟨e1, e2⟩ := hSw
    have e40 : (a.put (some 40) (.pointer (some ⟨b6, 1, none⟩))).eval (.tmp 40) = .pointer (some ⟨b6, 1, none⟩) := pt_same 40 _ a (by omega)
    exact run_load1 (.tmp 40) b6 rfl e40 w e1
  refine wpAnyH_take (i := 3) (v := .pointer (some ⟨b7, 1, none⟩)) rfl (by kernel_rfl) (by kernel_rfl) (by kernel_rfl) (fun c a w h => hQ c a _ _ w h) (Or.inl ⟨rfl, ?_⟩) hS ?_
  · intro w hSw
    have e7 : (((a.put (some 40) (.pointer (some ⟨b6, 1, none⟩))).put (some 41) (.slice o1 l1 c1))).eval (.tmp 7) = .pointer (some ⟨b7, 0, none⟩) := by
      rw [← h7]
      exact (pt_eval true 41 7 _ _ (by decide)).trans (pt_eval true 40 7 _ _ (by decide))
    exact run_field1 (.tmp 7) b7 rfl e7 w
  refine wpAnyH_take (i := 4) (v := .slice o2 l2 c2) rfl (by kernel_rfl) (by kernel_rfl) (by kernel_rfl) (fun c a w h => hQ c a _ _ w h) (Or.inl ⟨rfl, ?_⟩) hS ?_
  · intro w hSw
    obtain ⟨e1, e2⟩ := hSw
    have e43 : (((a.put (some 40) (.pointer (some ⟨b6, 1, none⟩))).put (some 41) (.slice o1 l1 c1)).put (some 43) (.pointer (some ⟨b7, 1, none⟩))).eval (.tmp 43) = .pointer (some ⟨b7, 1, none⟩) := pt_same 43 _ _ (by simp [Act.put]; omega)
    exact run_load1 (.tmp 43) b7 rfl e43 w e2
  refine draw4 ((((a.put (some 40) (.pointer (some ⟨b6, 1, none⟩))).put (some 41) (.slice o1 l1 c1)).put (some 43) (.pointer (some ⟨b7, 1, none⟩))).put (some 44) (.slice o2 l2 c2)) W (by simp [Act.put]; omega) (.slice o1 l1 c1) (.slice o2 l2 c2) ?_ ?_ B L u Bc L2 A xs ys HK HCA HCB hend 6 false false false false none 0 0 none 0 0 0 0 _ (by simp) (by simp [n4]) ⟨hb0, by simp, by simp, by simp, by simp, by simp, by simp, by simp, by simp, by simp⟩
  · exact ((pt_eval true 44 41 _ _ (by decide)).trans (pt_eval true 43 41 _ _ (by decide))).trans (pt_same 41 _ _ (by simp [Act.put]; omega))
  · exact pt_same 44 _ _ (by simp [Act.put]; omega)

end Go.Proofs.YtgjpchnkodnieaaGreatDoor
