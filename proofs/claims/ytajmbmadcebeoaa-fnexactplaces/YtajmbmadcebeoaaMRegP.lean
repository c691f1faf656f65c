import Derived.OrdersHeld
import Derived.RegionTactic
import Derived.WalkKit
import Derived.OrdersIn
import Derived.TacticsIn
import Derived.RangeFuncCalls
import Derived.Test.YtajmbmadcebeoaaInts
namespace Go.Proofs.Ytajmbmadcebeoaa
open Go

section
variable {P : Program} {ops : Array Oper} {Q : Exit → Act → World → Prop} {md : Region.Mode} {S : World → Prop} {st : Nat}

/-- Whatever order is picked from here on, and S holds behind every operation but number st. -/
def wpAnyL (P : Program) (md : Region.Mode) (ops : Array Oper) (Q : Exit → Act → World → Prop) (S : World → Prop) (st : Nat) : Nat → Array Bool → Act → World → Prop
  | 0, listed, a, w => Region.ready md ops listed = [] ∧ Q .normal a w
  | fuel + 1, listed, a, w =>
    (Region.ready md ops listed = [] → Q .normal a w) ∧
    ∀ i ∈ Region.ready md ops listed, wpOp P ops Q i (fun a' w' => (i ≠ st → S w') ∧ wpAnyL P md ops Q S st fuel (listed.setIfInBounds i true) a' w') a w

theorem wpAny_of_L : ∀ (fuel : Nat) (listed : Array Bool) (a : Act) (w : World), wpAnyL P md ops Q S st fuel listed a w → wpAny P md ops Q fuel listed a w
  | 0, _, _, _, h => h
  | fuel + 1, _, _, _, h => ⟨h.1, fun i hi => wpOp_mono (fun a' w' h' => wpAny_of_L fuel _ a' w' h'.2) (h.2 i hi)⟩

/-- Operation st waits for operation i. -/
def waitsFor (md : Region.Mode) (ops : Array Oper) (st i : Nat) : Bool := ((ops[st]?).map (·.after.any fun e => Region.binds md e && e.on == i)).getD false

theorem waits_not {i : Nat} {listed : Array Bool} (hw : waitsFor md ops st i = true) (hi : listed.getD i true = false) : st ∉ Region.ready md ops listed := by
  intro hst
  obtain ⟨_, o, ho, hall⟩ := mem_ready.1 hst
  unfold waitsFor at hw
  rw [ho] at hw
  simp only [Option.map_some, Option.getD_some, Array.any_eq_true'] at hw
  obtain ⟨e, he, hb⟩ := hw
  simp only [Bool.and_eq_true, beq_iff_eq] at hb
  have h1 := hall e he hb.1
  rw [hb.2] at h1
  rcases Nat.lt_or_ge i listed.size with h' | h'
  · simp [h'] at hi h1; rw [hi] at h1; cases h1
  · simp [Array.getElem?_eq_none h'] at h1

theorem wpAnyL_first {i : Nat} {oi : Oper} {v : Value} (hi : ops[i]? = some oi) (hsel : ∀ (j : Nat) (o : Oper) cs b, ops[j]? = some o → o.op ≠ .select cs b)
    (hQ : ∀ c a w, Q (.panic c) (a.put oi.dst v) w → Q (.panic c) a w) (hw : waitsFor md ops st i = true) :
    ∀ (fuel : Nat) (listed : Array Bool) (a : Act) (w : World),
      (∀ j oj, ops[j]? = some oj → j ≠ i → listed.getD j true = false → (∀ e ∈ oj.after, Region.binds md e = true → e.on ≠ i) → oi.apart ops oj = true) →
      i ∈ Region.ready md ops listed → YieldsIf P ops S oi v a → S w →
      wpAnyL P md ops Q S st fuel (listed.setIfInBounds i true) (a.put oi.dst v) w → wpAnyL P md ops Q S st (fuel + 1) listed a w := by
  intro fuel
  induction fuel with
  | zero =>
    intro listed a w _ hr hy hS H
    refine ⟨fun h => (by rw [h] at hr; cases hr), fun j hj => ?_⟩
    by_cases hji : j = i
    · subst hji; exact hy.wpOp hi hS ⟨fun _ => hS, H⟩
    · have := ready_mono hj hji
      rw [H.1] at this
      cases this
  | succ fuel ih =>
    intro listed a w hfree hr hy hS H
    refine ⟨fun h => (by rw [h] at hr; cases hr), fun j hj => ?_⟩
    by_cases hji : j = i
    · subst hji; exact hy.wpOp hi hS ⟨fun _ => hS, H⟩
    · have h1 := H.2 j (ready_mono hj hji)
      have hjst : j ≠ st := fun e => waits_not hw (mem_ready.1 hr).1 (e ▸ hj)
      obtain ⟨hjun, oj, hoj, hall⟩ := mem_ready.1 hj
      have hnot : ∀ e ∈ oj.after, Region.binds md e = true → e.on ≠ i := fun e he hb heq => by
        have h1 := hall e he hb
        have h0 := (mem_ready.1 hr).1
        rw [heq] at h1
        rcases Nat.lt_or_ge i listed.size with h' | h'
        · simp [h'] at h0 h1; rw [h0] at h1; cases h1
        · simp [Array.getElem?_eq_none h'] at h1
      have h2 := wpOp_putIf hoj (hfree j oj hoj hji hjun hnot) (fun cs b => hsel i oi cs b hi) (fun cs b => hsel j oj cs b hoj) hQ hy h1
      have hfree' : ∀ k ok, ops[k]? = some ok → k ≠ i → (listed.setIfInBounds j true).getD k true = false →
          (∀ e ∈ ok.after, Region.binds md e = true → e.on ≠ i) → oi.apart ops ok = true := fun k ok hk hki hun hno => by
        refine hfree k ok hk hki ?_ hno
        by_cases hjk : j = k
        · subst hjk; exact hjun
        · rw [getD_set_ne true hjk] at hun; exact hun
      refine wpOp_mono (fun a' w' h3 => ⟨h3.2.1, ih (listed.setIfInBounds j true) a' w' hfree' (ready_mono hr (Ne.symm hji)) h3.1 (h3.2.1 hjst) ?_⟩) h2
      rw [Array.setIfInBounds_comm _ _ hji]
      exact h3.2.2

/-- Take number i first. -/
theorem wpAnyL_take {i : Nat} {oi : Oper} {v : Value} {fuel : Nat} {listed : Array Bool} {a : Act} {w : World} (hi : ops[i]? = some oi)
    (hs : Region.noSelect ops = true) (hf : Region.free md ops listed i = true) (hr : (Region.ready md ops listed).contains i = true) (hw : waitsFor md ops st i = true)
    (hQ : ∀ c a w, Q (.panic c) (a.put oi.dst v) w → Q (.panic c) a w) (hy : YieldsIf P ops S oi v a) (hS : S w)
    (h : wpAnyL P md ops Q S st fuel (listed.setIfInBounds i true) (a.put oi.dst v) w) : wpAnyL P md ops Q S st (fuel + 1) listed a w :=
  wpAnyL_first hi (Region.noSelect_spec hs) hQ hw fuel listed a w (Region.free_spec hi hf) (by simpa using hr) hy hS h

/-- Take number i first, its value into slot d. -/
theorem wpAnyL_put (i d : Nat) (v : Value) {oi : Oper} {fuel : Nat} {listed : Array Bool} {a : Act} {w : World} (hi : ops[i]? = some oi) (hd : oi.dst = some d)
    (hs : Region.noSelect ops = true) (hf : Region.free md ops listed i = true) (hr : (Region.ready md ops listed).contains i = true) (hw : waitsFor md ops st i = true)
    (hQ : ∀ c a (d : Nat) v w, Q (.panic c) (a.put (some d) v) w → Q (.panic c) a w) (hg : Region.wanted oi (yielded ops a.tmps) = true) (hy : ∀ w, S w → (execOp a.eval oi).run P w = .ok (.value v) w) (hS : S w)
    (h : wpAnyL P md ops Q S st fuel (listed.setIfInBounds i true) (a.put (some d) v) w) : wpAnyL P md ops Q S st (fuel + 1) listed a w :=
  wpAnyL_take hi hs hf hr hw (fun c a w h => by rw [hd] at h; exact hQ c a d v w h) (Or.inl ⟨hg, hy⟩) hS (by rw [hd]; exact h)

/-- One alone may come up. -/
theorem wpAnyL_one {i : Nat} {fuel : Nat} {listed : Array Bool} {a : Act} {w : World} (hr : Region.ready md ops listed = [i])
    (h : wpOp P ops Q i (fun a' w' => (i ≠ st → S w') ∧ wpAnyL P md ops Q S st fuel (listed.setIfInBounds i true) a' w') a w) : wpAnyL P md ops Q S st (fuel + 1) listed a w :=
  ⟨fun h0 => (by rw [hr] at h0; cases h0), fun j hj => (by rw [hr] at hj; simp at hj; subst hj; exact h)⟩

theorem wpAnyL_done {listed : Array Bool} {a : Act} {w : World} (hr : Region.ready md ops listed = []) (h : Q .normal a w) : ∀ fuel, wpAnyL P md ops Q S st fuel listed a w
  | 0 => ⟨hr, h⟩
  | _ + 1 => ⟨fun _ => h, by rw [hr]; simp⟩

theorem wp_region_L {id : Nat} {a : Act} {w : World} (S : World → Prop) (st : Nat) (hm : P.follows .mixedOrders = true)
    (h : wpAnyL P .any ops Q S st ops.size (Array.replicate ops.size false) a { w with drawn := w.drawn + 1 }) : (Code.region id ops true).wp P Q a w :=
  wp_region_any hm (wpAny_of_L _ _ _ _ h)

theorem op_wp {K : Act → World → Prop} {a : Act} {w : World} {i : Nat} {o : Oper} (hi : ops[i]? = some o) (hg : Region.wanted o (yielded ops a.tmps) = true) (h : o.wp P a w K Q) : wpOp P ops Q i K a w := by
  unfold wpOp
  rw [hi]
  show if Region.wanted o (yielded ops a.tmps) = true then _ else _
  rw [if_pos hg]
  exact .inl h

theorem eval_ne {a : Act} {d e : Nat} {v : Value} (h : d ≠ e) : (a.put (some d) v).eval (.tmp e) = a.eval (.tmp e) :=
  Act.eval_put (dst := some d) (x := .tmp e) (by simp; exact fun hy => h hy.symm)

theorem eval_eq {a : Act} {d : Nat} {v : Value} (h : d < a.tmps.size) : (a.put (some d) v).eval (.tmp d) = v := by
  simp [Act.eval, Act.put, h]

theorem put_size {a : Act} {d : Nat} {v : Value} : (a.put (some d) v).tmps.size = a.tmps.size := by simp [Act.put]
end

end Go.Proofs.Ytajmbmadcebeoaa
namespace Go.Proofs.Ytajmbmadcebeoaa
open Go

section
variable {P : Program} {ops : Array Oper} {Q : Exit → Act → World → Prop} {md : Region.Mode} {S : World → Prop} {st : Nat}

def noDefer (ops : Array Oper) : Bool := ops.all fun o => match o.op with | .defer _ => false | _ => true

theorem noDefer_at {i : Nat} {o : Oper} (h : noDefer ops = true) (hi : ops[i]? = some o) : ∀ c, o.op ≠ .defer c := by
  intro c hc
  unfold noDefer at h
  rw [Array.all_eq_true'] at h
  have := h o (Array.mem_of_getElem? hi)
  rw [hc] at this
  cases this

/-- In a round of a range over a function an operation does what it does elsewhere. -/
theorem opIn_of_op {i n l : Nat} {K : Act → World → Prop} {a : Act} {w : World} (hnd : noDefer ops = true) (hno : ¬ LetsOut Q) (h : wpOp P ops Q i K a w) : wpOpIn (Fence.wide.inRound l) n P ops Q i K a w := by
  unfold wpOp at h
  unfold wpOpIn
  cases ho : ops[i]? with
  | none => rw [ho] at h; exact h
  | some o =>
    rw [ho] at h
    simp only at h ⊢
    split
    · rename_i hw
      rw [if_pos hw] at h
      rcases h with h | h
      · refine ⟨fun _ _ => trivial, ?_⟩
        rw [Fence.inRound_round, Oper.semAt_some l _ o (noDefer_at hnd ho)]
        unfold Oper.wp at h
        generalize (execOp a.eval o).run P w = r at h ⊢
        cases r with
        | ok x w' =>
          cases x with
          | value v => exact h
          | skip => exact h
          | defer d => exact h
          | enter f args => exact ⟨fun hd => (by cases hd), CallsIn.inRound l (callsIn_wide.2 h)⟩
          | row row args => exact ⟨fun hd => (by cases hd), fun c cs _ => let ⟨v, w', r, s⟩ := h c cs; ⟨v, w', r, stepsIn_wide.2 s⟩⟩
          | round l f tmps assign body => exact h.elim
          | _ => exact h.elim
        | halt x w' => cases x <;> exact h
      · exact absurd h.2 hno
    · rename_i hw
      rw [if_neg hw] at h
      exact ⟨fun _ _ => trivial, h⟩

theorem wpAnyIn_of_L {n l : Nat} (hnd : noDefer ops = true) (hno : ¬ LetsOut Q) : ∀ (fuel : Nat) (listed : Array Bool) (a : Act) (w : World), wpAnyL P md ops Q S st fuel listed a w → wpAnyIn (Fence.wide.inRound l) n P md ops Q fuel listed a w
  | 0, _, _, _, h => h
  | fuel + 1, _, _, _, h => ⟨h.1, fun i hi => opIn_of_op hnd hno (wpOp_mono (fun a' w' h' => wpAnyIn_of_L hnd hno fuel _ a' w' h'.2) (h.2 i hi))⟩

theorem wpIn_region_L {id n l : Nat} {a : Act} {w : World} (S : World → Prop) (st : Nat) (hm : P.follows .mixedOrders = true) (hnd : noDefer ops = true) (hno : ¬ LetsOut Q)
    (h : wpAnyL P .any ops Q S st ops.size (Array.replicate ops.size false) a w.drew) : (Code.region id ops true).wpIn (Fence.wide.inRound l) n P Q a w :=
  wpIn_region_any hm (wpAnyIn_of_L hnd hno _ _ _ _ h)
end

end Go.Proofs.Ytajmbmadcebeoaa
namespace Go.Proofs.Ytajmbmadcebeoaa
open Go.RowKit

section
variable {o : Oper} {a : Act}
theorem rL (x : Operand) (p : Addr) {s : Option Addr} {l c : Nat} (ho : o.op = .load 22 x) (hx : a.eval x = .pointer (some p)) (w : World) (hc : w.cell? p = some (.slice s l c)) : (execOp a.eval o).run Try.prog w = .ok (.value (.slice s l c)) w := by
  unfold execOp
  simp only [ho, hx]
  go_simp

theorem rI (x : Operand) (p : Addr) {z : Int} (ho : o.op = .load 3 x) (hx : a.eval x = .pointer (some p)) (w : World) (hc : w.cell? p = some (.int .i64 z)) : (execOp a.eval o).run Try.prog w = .ok (.value (.int .i64 z)) w := by
  unfold execOp
  simp only [ho, hx]
  go_simp

theorem rM (x : Operand) {v : Value} (ho : o.op = .move x) (hx : a.eval x = v) (w : World) : (execOp a.eval o).run Try.prog w = .ok (.value v) w := by
  unfold execOp
  simp only [ho, hx]
  go_simp

theorem rF (x : Operand) {b : Nat} (ho : o.op = .fieldAddr 24 x 2) (hx : a.eval x = .pointer (some ⟨b, 0, none⟩)) (w : World) : (execOp a.eval o).run Try.prog w = .ok (.value (.pointer (some ⟨b, 2, none⟩))) w := by
  unfold execOp
  simp only [ho, hx]
  go_simp

theorem rX (x y : Operand) {b off m c J : Nat} (ho : o.op = .indexAddr 22 x y) (hx : a.eval x = .slice (some ⟨b, off, none⟩) m c) (hy : a.eval y = .int .i64 (J : Nat)) (hJ : J < m) (w : World) : (execOp a.eval o).run Try.prog w = .ok (.value (.pointer (some ⟨b, off + J, none⟩))) w := by
  have h1 : (J : Int) < (m : Int) := by omega
  unfold execOp
  simp only [ho, hx, hy]
  go_simp

theorem rMul (x y : Operand) {u v r : Int} (ho : o.op = .binOp .mul 3 x y 3) (hx : a.eval x = .int .i64 u) (hy : a.eval y = .int .i64 v) (hr : IntKind.i64.wrap (u * v) = r) (w : World) : (execOp a.eval o).run Try.prog w = .ok (.value (.int .i64 r)) w := by
  unfold execOp
  simp only [ho, hx, hy]
  go_simp

theorem rAdd (x y : Operand) {u v r : Int} (ho : o.op = .binOp .add 3 x y 3) (hx : a.eval x = .int .i64 u) (hy : a.eval y = .int .i64 v) (hr : IntKind.i64.wrap (u + v) = r) (w : World) : (execOp a.eval o).run Try.prog w = .ok (.value (.int .i64 r)) w := by
  unfold execOp
  simp only [ho, hx, hy]
  go_simp

theorem rS (x y : Operand) (p : Addr) {v1 : Value} {z : Int} (ho : o.op = .store 3 x y) (hx : a.eval x = .pointer (some p)) (hy : a.eval y = .int .i64 z) (w : World) (hc : w.cell? p = some v1) (hf : w.frozen? p = false) : (execOp a.eval o).run Try.prog w = .ok .skip (w.setCell p (.int .i64 z)) := by
  unfold execOp
  simp only [ho, hx, hy]
  go_simp
end

/-- The statement that adds one axis' way to a place. -/
def opsP : Array Oper :=
  #[
    { dst := some 35, op := Op.load 22 (Operand.tmp 5), type := 22, pos := "l7_view.go:42", after := #[], guard := none }, 
    { dst := some 36, op := Op.move (Operand.tmp 6), type := 3, pos := "l7_view.go:42", after := #[], guard := none }, 
    { dst := some 37, op := Op.indexAddr 22 (Operand.tmp 35) (Operand.tmp 36), type := 0, pos := "l7_view.go:42", after := #[{ on := 0, ground := Ground.data }, { on := 1, ground := Ground.data }], guard := none }, 
    { dst := some 38, op := Op.load 3 (Operand.tmp 37), type := 3, pos := "l7_view.go:42", after := #[{ on := 2, ground := Ground.data }], guard := none }, 
    { dst := some 39, op := Op.move (Operand.tmp 9), type := 3, pos := "l7_view.go:42", after := #[], guard := none }, 
    { dst := some 40, op := Op.fieldAddr 24 (Operand.tmp 2) 2, type := 0, pos := "l7_view.go:42", after := #[], guard := none }, 
    { dst := some 41, op := Op.load 22 (Operand.tmp 40), type := 22, pos := "l7_view.go:42", after := #[{ on := 5, ground := Ground.data }], guard := none }, 
    { dst := some 42, op := Op.move (Operand.tmp 8), type := 3, pos := "l7_view.go:42", after := #[], guard := none }, 
    { dst := some 43, op := Op.indexAddr 22 (Operand.tmp 41) (Operand.tmp 42), type := 0, pos := "l7_view.go:42", after := #[{ on := 6, ground := Ground.data }, { on := 7, ground := Ground.data }], guard := none }, 
    { dst := some 44, op := Op.load 3 (Operand.tmp 43), type := 3, pos := "l7_view.go:42", after := #[{ on := 8, ground := Ground.data }], guard := none }, 
    { dst := some 45, op := Op.binOp BinOp.mul 3 (Operand.tmp 39) (Operand.tmp 44) 3, type := 3, pos := "l7_view.go:42", after := #[{ on := 4, ground := Ground.data }, { on := 9, ground := Ground.data }], guard := none }, 
    { dst := some 46, op := Op.binOp BinOp.add 3 (Operand.tmp 38) (Operand.tmp 45) 3, type := 3, pos := "l7_view.go:42", after := #[{ on := 3, ground := Ground.data }, { on := 10, ground := Ground.data }], guard := none }, 
    { dst := some 47, op := Op.indexAddr 22 (Operand.tmp 35) (Operand.tmp 36), type := 0, pos := "l7_view.go:42", after := #[{ on := 0, ground := Ground.data }, { on := 1, ground := Ground.data }, { on := 0, ground := Ground.phase }, { on := 1, ground := Ground.phase }, { on := 2, ground := Ground.phase }, { on := 3, ground := Ground.phase }, { on := 4, ground := Ground.phase }, { on := 5, ground := Ground.phase }, { on := 6, ground := Ground.phase }, { on := 7, ground := Ground.phase }, { on := 8, ground := Ground.phase }, { on := 9, ground := Ground.phase }, { on := 10, ground := Ground.phase }, { on := 11, ground := Ground.phase }], guard := none }, 
    { dst := none, op := Op.store 3 (Operand.tmp 47) (Operand.tmp 46), type := 0, pos := "l7_view.go:42", after := #[{ on := 12, ground := Ground.data }, { on := 11, ground := Ground.data }, { on := 0, ground := Ground.phase }, { on := 1, ground := Ground.phase }, { on := 2, ground := Ground.phase }, { on := 3, ground := Ground.phase }, { on := 4, ground := Ground.phase }, { on := 5, ground := Ground.phase }, { on := 6, ground := Ground.phase }, { on := 7, ground := Ground.phase }, { on := 8, ground := Ground.phase }, { on := 9, ground := Ground.phase }, { on := 10, ground := Ground.phase }, { on := 11, ground := Ground.phase }], guard := none }]

def outP (a : Act) (gd k N pv bs os j n2 cc : Nat) (x dg y z s : Int) : Act :=
  (((((((((((((a.put (some 35) (.slice (some ⟨gd, 0, none⟩) N N)).put (some 36) (.int .i64 (k : Nat))).put (some 37) (.pointer (some ⟨gd, 0 + k, none⟩))).put (some 38) (.int .i64 x)).put (some 39) (.int .i64 dg)).put (some 40) (.pointer (some ⟨pv, 2, none⟩))).put (some 41) (.slice (some ⟨bs, os, none⟩) n2 cc)).put (some 42) (.int .i64 (j : Nat))).put (some 43) (.pointer (some ⟨bs, os + j, none⟩))).put (some 44) (.int .i64 y)).put (some 45) (.int .i64 z)).put (some 46) (.int .i64 s)).put (some 47) (.pointer (some ⟨gd, 0 + k, none⟩))).put none undef

set_option maxHeartbeats 4000000 in
set_option maxRecDepth 20000 in
theorem regionP {Q : Exit → Act → World → Prop} {l m : Nat} (a : Act) (W : World) (hsz : 49 ≤ a.tmps.size) (gd k N pv pd bs os j n2 cc : Nat) (x dg y z s : Int) (h2 : a.eval (.tmp 2) = .pointer (some ⟨pv, 0, none⟩)) (h5 : a.eval (.tmp 5) = .pointer (some ⟨pd, 0, none⟩)) (h6 : a.eval (.tmp 6) = .int .i64 (k : Nat)) (h8 : a.eval (.tmp 8) = .int .i64 (j : Nat)) (h9 : a.eval (.tmp 9) = .int .i64 dg) (hk : k < N) (hj : j < n2)
    (hz : IntKind.i64.wrap (dg * y) = z) (hs : IntKind.i64.wrap (x + z) = s)
    (hS : W.cell? ⟨gd, k, none⟩ = some (.int .i64 x) ∧ W.frozen? ⟨gd, k, none⟩ = false ∧ W.cell? ⟨pd, 0, none⟩ = some (.slice (some ⟨gd, 0, none⟩) N N) ∧ W.cell? ⟨pv, 2, none⟩ = some (.slice (some ⟨bs, os, none⟩) n2 cc) ∧ W.cell? ⟨bs, os + j, none⟩ = some (.int .i64 y))
    (hQ : ∀ c a (d : Nat) v w, Q (.panic c) (a.put (some d) v) w → Q (.panic c) a w) (hno : ¬ LetsOut Q)
    (hend : Q .normal (outP a gd k N pv bs os j n2 cc x dg y z s) (W.drew.setCell ⟨gd, 0 + k, none⟩ (.int .i64 s))) :
    (Code.region 11 opsP true).wpIn (Fence.wide.inRound l) m Try.prog Q a W := by
  refine wpIn_region_L (fun wx => wx.cell? ⟨gd, k, none⟩ = some (.int .i64 x) ∧ wx.frozen? ⟨gd, k, none⟩ = false ∧ wx.cell? ⟨pd, 0, none⟩ = some (.slice (some ⟨gd, 0, none⟩) N N) ∧ wx.cell? ⟨pv, 2, none⟩ = some (.slice (some ⟨bs, os, none⟩) n2 cc) ∧ wx.cell? ⟨bs, os + j, none⟩ = some (.int .i64 y)) 13 (by kernel_rfl) (by kernel_rfl) hno ?_
  have hS0 : W.drew.cell? ⟨gd, k, none⟩ = some (.int .i64 x) ∧ W.drew.frozen? ⟨gd, k, none⟩ = false ∧ W.drew.cell? ⟨pd, 0, none⟩ = some (.slice (some ⟨gd, 0, none⟩) N N) ∧ W.drew.cell? ⟨pv, 2, none⟩ = some (.slice (some ⟨bs, os, none⟩) n2 cc) ∧ W.drew.cell? ⟨bs, os + j, none⟩ = some (.int .i64 y) := hS
  show wpAnyL _ _ _ _ _ _ (13 + 1) _ _ _
  refine wpAnyL_put 0 35 (.slice (some ⟨gd, 0, none⟩) N N) rfl rfl (by kernel_rfl) (by kernel_rfl) (by kernel_rfl) (by kernel_rfl) hQ rfl (fun w hw => rL (.tmp 5) _ rfl h5 w hw.2.2.1) hS0 ?_
  refine wpAnyL_put 1 36 (.int .i64 (k : Nat)) rfl rfl (by kernel_rfl) (by kernel_rfl) (by kernel_rfl) (by kernel_rfl) hQ rfl (fun w hw => rM (.tmp 6) rfl (by rw [eval_ne (by decide)]; exact h6) w) hS0 ?_
  refine wpAnyL_put 2 37 (.pointer (some ⟨gd, 0 + k, none⟩)) rfl rfl (by kernel_rfl) (by kernel_rfl) (by kernel_rfl) (by kernel_rfl) hQ rfl (fun w hw => rX (.tmp 35) (.tmp 36) rfl (by rw [eval_ne (by decide)]; exact eval_eq (by omega)) (eval_eq (by rw [put_size]; omega)) hk w) hS0 ?_
  refine wpAnyL_put 3 38 (.int .i64 x) rfl rfl (by kernel_rfl) (by kernel_rfl) (by kernel_rfl) (by kernel_rfl) hQ rfl (fun w hw => rI (.tmp 37) _ rfl (eval_eq (by rw [put_size, put_size]; omega)) w (by rw [Nat.zero_add]; exact hw.1)) hS0 ?_
  refine wpAnyL_put 4 39 (.int .i64 dg) rfl rfl (by kernel_rfl) (by kernel_rfl) (by kernel_rfl) (by kernel_rfl) hQ rfl (fun w hw => rM (.tmp 9) rfl (by rw [eval_ne (by decide), eval_ne (by decide), eval_ne (by decide), eval_ne (by decide)]; exact h9) w) hS0 ?_
  refine wpAnyL_put 5 40 (.pointer (some ⟨pv, 2, none⟩)) rfl rfl (by kernel_rfl) (by kernel_rfl) (by kernel_rfl) (by kernel_rfl) hQ rfl (fun w hw => rF (.tmp 2) rfl (by rw [eval_ne (by decide), eval_ne (by decide), eval_ne (by decide), eval_ne (by decide), eval_ne (by decide)]; exact h2) w) hS0 ?_
  refine wpAnyL_put 6 41 (.slice (some ⟨bs, os, none⟩) n2 cc) rfl rfl (by kernel_rfl) (by kernel_rfl) (by kernel_rfl) (by kernel_rfl) hQ rfl (fun w hw => rL (.tmp 40) _ rfl (eval_eq (by rw [put_size, put_size, put_size, put_size, put_size]; omega)) w hw.2.2.2.1) hS0 ?_
  refine wpAnyL_put 7 42 (.int .i64 (j : Nat)) rfl rfl (by kernel_rfl) (by kernel_rfl) (by kernel_rfl) (by kernel_rfl) hQ rfl (fun w hw => rM (.tmp 8) rfl (by rw [eval_ne (by decide), eval_ne (by decide), eval_ne (by decide), eval_ne (by decide), eval_ne (by decide), eval_ne (by decide), eval_ne (by decide)]; exact h8) w) hS0 ?_
  refine wpAnyL_put 8 43 (.pointer (some ⟨bs, os + j, none⟩)) rfl rfl (by kernel_rfl) (by kernel_rfl) (by kernel_rfl) (by kernel_rfl) hQ rfl (fun w hw => rX (.tmp 41) (.tmp 42) rfl (by rw [eval_ne (by decide)]; exact eval_eq (by rw [put_size, put_size, put_size, put_size, put_size, put_size]; omega)) (eval_eq (by rw [put_size, put_size, put_size, put_size, put_size, put_size, put_size]; omega)) hj w) hS0 ?_
  refine wpAnyL_put 9 44 (.int .i64 y) rfl rfl (by kernel_rfl) (by kernel_rfl) (by kernel_rfl) (by kernel_rfl) hQ rfl (fun w hw => rI (.tmp 43) _ rfl (eval_eq (by rw [put_size, put_size, put_size, put_size, put_size, put_size, put_size, put_size]; omega)) w hw.2.2.2.2) hS0 ?_
  refine wpAnyL_put 10 45 (.int .i64 z) rfl rfl (by kernel_rfl) (by kernel_rfl) (by kernel_rfl) (by kernel_rfl) hQ rfl (fun w hw => rMul (.tmp 39) (.tmp 44) rfl (by rw [eval_ne (by decide), eval_ne (by decide), eval_ne (by decide), eval_ne (by decide), eval_ne (by decide)]; exact eval_eq (by rw [put_size, put_size, put_size, put_size]; omega)) (eval_eq (by rw [put_size, put_size, put_size, put_size, put_size, put_size, put_size, put_size, put_size]; omega)) hz w) hS0 ?_
  refine wpAnyL_put 11 46 (.int .i64 s) rfl rfl (by kernel_rfl) (by kernel_rfl) (by kernel_rfl) (by kernel_rfl) hQ rfl (fun w hw => rAdd (.tmp 38) (.tmp 45) rfl (by rw [eval_ne (by decide), eval_ne (by decide), eval_ne (by decide), eval_ne (by decide), eval_ne (by decide), eval_ne (by decide), eval_ne (by decide)]; exact eval_eq (by rw [put_size, put_size, put_size]; omega)) (eval_eq (by rw [put_size, put_size, put_size, put_size, put_size, put_size, put_size, put_size, put_size, put_size]; omega)) hs w) hS0 ?_
  refine wpAnyL_put 12 47 (.pointer (some ⟨gd, 0 + k, none⟩)) rfl rfl (by kernel_rfl) (by kernel_rfl) (by kernel_rfl) (by kernel_rfl) hQ rfl (fun w hw => rX (.tmp 35) (.tmp 36) rfl (by rw [eval_ne (by decide), eval_ne (by decide), eval_ne (by decide), eval_ne (by decide), eval_ne (by decide), eval_ne (by decide), eval_ne (by decide), eval_ne (by decide), eval_ne (by decide), eval_ne (by decide), eval_ne (by decide)]; exact eval_eq (by omega)) (by rw [eval_ne (by decide), eval_ne (by decide), eval_ne (by decide), eval_ne (by decide), eval_ne (by decide), eval_ne (by decide), eval_ne (by decide), eval_ne (by decide), eval_ne (by decide), eval_ne (by decide)]; exact eval_eq (by rw [put_size]; omega)) hk w) hS0 ?_
  refine wpAnyL_one (i := 13) (by kernel_rfl) ?_
  refine op_wp rfl rfl ?_
  unfold Oper.wp
  rw [rS (.tmp 47) (.tmp 46) ⟨gd, 0 + k, none⟩ rfl (eval_eq (by rw [put_size, put_size, put_size, put_size, put_size, put_size, put_size, put_size, put_size, put_size, put_size, put_size]; omega)) (by rw [eval_ne (by decide)]; exact eval_eq (by rw [put_size, put_size, put_size, put_size, put_size, put_size, put_size, put_size, put_size, put_size, put_size]; omega)) W.drew (by rw [Nat.zero_add]; exact hS0.1) (by rw [Nat.zero_add]; exact hS0.2.1)]
  refine ⟨fun h => absurd rfl h, ?_⟩
  refine wpAnyL_done (by kernel_rfl) ?_ _
  exact hend

end Go.Proofs.Ytajmbmadcebeoaa
