import Derived.Test.YtmgjicgojlkpcaaGreatDoorDrawLaw
import Derived.Test.YtmgjicgojlkpcaaGreatDoorSpecSigns
namespace Go.Proofs.YtmgjicgojlkpcaaGreatDoor
open Go.RowKit

/-- What is asked of the list of signs. -/
def GivesL (w : World) (x : ByteArray) (T : Bool) (n : Nat) (e : Ending) (w' : World) : Prop := ∃ g cl, e = .returned (.slice (some ⟨g, 0, none⟩) n cl) ∧ (∀ W, Below w'.heap.size w' W → Calls Tryz.prog 140 #[.slice (some ⟨g, 0, none⟩) n cl, .string x] W fun e w'' => e = .returned (.bool T) ∧ w'' = W) ∧ Below w.heap.size w w'

section
variable {o : Oper} {a : Act} {ops : Array Oper}
theorem wanted_free (h : o.guard = none) : Region.wanted o (yielded ops a.tmps) = true := by simp [Region.wanted, h]

theorem wanted_on {j slot : Nat} (hg : o.guard = some (j, true)) (hj : (ops[j]?).bind (·.dst) = some slot) (hv : a.eval (.tmp slot) = .bool true) (hs : slot < a.tmps.size) : Region.wanted o (yielded ops a.tmps) = true := by
  have h1 : a.tmps[slot]? = some (.bool true) := by
    have : a.tmps[slot]?.getD undef = .bool true := by simpa [Act.eval] using hv
    rw [Array.getElem?_eq_getElem hs] at this ⊢
    simpa using this
  unfold Region.wanted yielded
  simp [hg, hj, h1]

theorem wpAnyH_put {P : Program} {Q : Exit → Act → World → Prop} {md : Region.Mode} {S : World → Prop} (i d : Nat) (v : Value) {oi : Oper} {fuel : Nat} {listed : Array Bool} {w : World} (hi : ops[i]? = some oi) (hd : oi.dst = some d)
    (hs : Region.noSelect ops = true) (hf : Region.free md ops listed i = true) (hr : (Region.ready md ops listed).contains i = true)
    (hQ : ∀ c a (d : Nat) v w, Q (.panic c) (a.put (some d) v) w → Q (.panic c) a w) (hg : Region.wanted oi (yielded ops a.tmps) = true) (hy : ∀ w, S w → (execOp a.eval oi).run P w = .ok (.value v) w) (hS : S w)
    (h : wpAnyH P md ops Q S fuel (listed.setIfInBounds i true) (a.put (some d) v) w) : wpAnyH P md ops Q S (fuel + 1) listed a w :=
  wpAnyH_take hi hs hf hr (fun c a w h => by rw [hd] at h; exact hQ c a d v w h) (Or.inl ⟨hg, hy⟩) hS (by rw [hd]; exact h)

theorem wpAnyH_one {P : Program} {Q : Exit → Act → World → Prop} {md : Region.Mode} {S : World → Prop} {i fuel : Nat} {listed : Array Bool} {w : World} (hr : Region.ready md ops listed = [i])
    (h : wpOp P ops Q i (fun a' w' => S w' ∧ wpAnyH P md ops Q S fuel (listed.setIfInBounds i true) a' w') a w) : wpAnyH P md ops Q S (fuel + 1) listed a w :=
  wpAnyH_all hr (by simp) (fun j hj => by
    have e : j = i := by simpa using hj
    rw [e]
    exact h)

theorem op_enter {P : Program} {Q : Exit → Act → World → Prop} {K : Act → World → Prop} {w : World} {i d f : Nat} {args : Array Value} {R : Ending → World → Prop} (hi : ops[i]? = some o) (hd : o.dst = some d) (hg : Region.wanted o (yielded ops a.tmps) = true) (he : (execOp a.eval o).run P w = .ok (.enter f args) w)
    (hc : Calls P f args w R) (hno : ∀ e w', R e w' → ∃ v, e = .returned v) (h : ∀ v w', R (.returned v) w' → K (a.put (some d) v) w') : wpOp P ops Q i K a w := by
  refine op_wp hi hg ?_
  unfold Oper.wp
  rw [he]
  show Calls _ _ _ _ _
  refine hc.mono ?_
  rintro e w' hr
  obtain ⟨v, rfl⟩ := hno _ _ hr
  show K (a.put o.dst v) w'
  rw [hd]
  exact h v w' hr

theorem wpAnyH_call {P : Program} {Q : Exit → Act → World → Prop} {md : Region.Mode} {fuel : Nat} {listed : Array Bool} {w : World} {i d f : Nat} {args : Array Value} {R : Ending → World → Prop} (hr : Region.ready md ops listed = [i]) (hi : ops[i]? = some o) (hd : o.dst = some d) (hg : Region.wanted o (yielded ops a.tmps) = true) (he : (execOp a.eval o).run P w = .ok (.enter f args) w)
    (hc : Calls P f args w R) (hno : ∀ e w', R e w' → ∃ v, e = .returned v) (h : ∀ v w', R (.returned v) w' → wpAnyH P md ops Q (fun _ => True) fuel (listed.setIfInBounds i true) (a.put (some d) v) w') : wpAnyH P md ops Q (fun _ => True) (fuel + 1) listed a w :=
  wpAnyH_one hr (op_enter hi hd hg he hc hno (fun v w' hv => ⟨trivial, h v w' hv⟩))

theorem rsM (x : Operand) {v : Value} (ho : o.op = .move x) (hx : a.eval x = v) (w : World) : (execOp a.eval o).run Tryz.prog w = .ok (.value v) w := by
  unfold execOp
  simp only [ho, hx]
  go_simp

theorem rsG (x : Operand) {n : Nat} (ho : o.op = .binOp .gtr 3 x (.const (.int .i64 0)) 3) (hx : a.eval x = .int .i64 (n : Nat)) (hn : 0 < n) (w : World) : (execOp a.eval o).run Tryz.prog w = .ok (.value (.bool true)) w := by
  have h1 : (0 : Int) < (n : Int) := by omega
  unfold execOp
  simp only [ho, hx]
  go_simp

theorem rsA (x y : Operand) {i j k : Nat} (ho : o.op = .binOp .add 3 x y 3) (hx : a.eval x = .int .i64 (i : Nat)) (hy : a.eval y = .int .i64 (j : Nat)) (hk : IntKind.i64.wrap ((i : Int) + (j : Int)) = (k : Nat)) (w : World) : (execOp a.eval o).run Tryz.prog w = .ok (.value (.int .i64 (k : Nat))) w := by
  unfold execOp
  simp only [ho, hx, hy]
  go_simp

theorem rsSl (x y z : Operand) {s t : ByteArray} {i k : Nat} (ho : o.op = .slice 9 x (some y) (some z) none) (hx : a.eval x = .string s) (hy : a.eval y = .int .i64 (i : Nat)) (hz : a.eval z = .int .i64 (k : Nat)) (hsl : ∀ W, (Instr.slice 9 (.string s) (some (.int .i64 (i : Nat))) (some (.int .i64 (k : Nat))) none).run Tryz.prog W = .ok (.string t) W) (w : World) : (execOp a.eval o).run Tryz.prog w = .ok (.value (.string t)) w := by
  unfold execOp
  simp only [ho, hx, hy, hz, Option.map_some, Option.map_none]
  have := hsl w
  go_simp

theorem rsP (x y : Operand) {T : Bool} (ho : o.op = .pick x y (.const (.bool false))) (hx : a.eval x = .bool true) (hy : a.eval y = .bool T) (w : World) : (execOp a.eval o).run Tryz.prog w = .ok (.value (.bool T)) w := by
  unfold execOp
  simp only [ho, hx, hy]
  go_simp

theorem rsC0 {w : World} (ho : o.op = .call { callee := .value (.func 142), args := #[], argTypes := #[] }) : (execOp a.eval o).run Tryz.prog w = .ok (.enter 142 #[]) w := by
  unfold execOp
  simp only [ho]
  go_simp

theorem rsC1 {w : World} {v : Value} {t : Nat} (ho : o.op = .call { callee := .value (.func 141), args := #[.tmp t], argTypes := #[9] }) (hx : a.eval (.tmp t) = v) : (execOp a.eval o).run Tryz.prog w = .ok (.enter 141 #[v]) w := by
  have hx' : a.tmps[t]?.getD undef = v := by simpa [Act.eval] using hx
  unfold execOp
  simp only [ho]
  go_simp

theorem rsC2 {w : World} {v u : Value} {t q : Nat} (ho : o.op = .call { callee := .value (.func 140), args := #[.tmp t, .tmp q], argTypes := #[99, 9] }) (hx : a.eval (.tmp t) = v) (hy : a.eval (.tmp q) = u) : (execOp a.eval o).run Tryz.prog w = .ok (.enter 140 #[v, u]) w := by
  have hx' : a.tmps[t]?.getD undef = v := by simpa [Act.eval] using hx
  have hy' : a.tmps[q]?.getD undef = u := by simpa [Act.eval] using hy
  unfold execOp
  simp only [ho]
  go_simp
end

def oS_0 : Oper := { dst := some 70, op := Op.move (Operand.tmp 7), type := 3, pos := "l1_text.go:193", after := #[], guard := none }
def oS_1 : Oper := { dst := some 71, op := Op.binOp BinOp.gtr 3 (Operand.tmp 70) (Operand.const (Value.int IntKind.i64 0)) 3, type := 4, pos := "l1_text.go:193", after := #[{ on := 0, ground := Ground.data }], guard := none }
def oS_2 : Oper := { dst := some 72, op := Op.move (Operand.tmp 71), type := 4, pos := "l1_text.go:193", after := #[{ on := 1, ground := Ground.data }], guard := none }
def oS_3 : Oper := { dst := some 73, op := Op.call { callee := Callee.value (Operand.func 142), args := #[], argTypes := #[] }, type := 9, pos := "l1_text.go:193", after := #[{ on := 2, ground := Ground.chain }, { on := 2, ground := Ground.guard }], guard := some (2, true) }
def oS_4 : Oper := { dst := some 74, op := Op.call { callee := Callee.value (Operand.func 141), args := #[Operand.tmp 73], argTypes := #[9] }, type := 99, pos := "l1_text.go:193", after := #[{ on := 3, ground := Ground.data }, { on := 3, ground := Ground.chain }, { on := 2, ground := Ground.guard }], guard := some (2, true) }
def oS_5 : Oper := { dst := some 75, op := Op.move (Operand.tmp 0), type := 9, pos := "l1_text.go:193", after := #[{ on := 2, ground := Ground.guard }], guard := some (2, true) }
def oS_6 : Oper := { dst := some 76, op := Op.move (Operand.tmp 1), type := 3, pos := "l1_text.go:193", after := #[{ on := 2, ground := Ground.guard }], guard := some (2, true) }
def oS_7 : Oper := { dst := some 77, op := Op.move (Operand.tmp 1), type := 3, pos := "l1_text.go:193", after := #[{ on := 2, ground := Ground.guard }], guard := some (2, true) }
def oS_8 : Oper := { dst := some 78, op := Op.move (Operand.tmp 7), type := 3, pos := "l1_text.go:193", after := #[{ on := 2, ground := Ground.guard }], guard := some (2, true) }
def oS_9 : Oper := { dst := some 79, op := Op.binOp BinOp.add 3 (Operand.tmp 77) (Operand.tmp 78) 3, type := 3, pos := "l1_text.go:193", after := #[{ on := 7, ground := Ground.data }, { on := 8, ground := Ground.data }, { on := 2, ground := Ground.guard }], guard := some (2, true) }
def oS_10 : Oper := { dst := some 80, op := Op.slice 9 (Operand.tmp 75) (some (Operand.tmp 76)) (some (Operand.tmp 79)) none, type := 9, pos := "l1_text.go:193", after := #[{ on := 5, ground := Ground.data }, { on := 6, ground := Ground.data }, { on := 9, ground := Ground.data }, { on := 2, ground := Ground.guard }], guard := some (2, true) }
def oS_11 : Oper := { dst := some 81, op := Op.call { callee := Callee.value (Operand.func 140), args := #[Operand.tmp 74, Operand.tmp 80], argTypes := #[99, 9] }, type := 4, pos := "l1_text.go:193", after := #[{ on := 4, ground := Ground.data }, { on := 10, ground := Ground.data }, { on := 4, ground := Ground.chain }, { on := 2, ground := Ground.guard }], guard := some (2, true) }
def oS_12 : Oper := { dst := some 82, op := Op.pick (Operand.tmp 72) (Operand.tmp 81) (Operand.const (Value.bool false)), type := 4, pos := "l1_text.go:193", after := #[{ on := 2, ground := Ground.data }, { on := 11, ground := Ground.data }], guard := none }

/-- The statement that asks whether a sign stands there. -/
def opsS : Array Oper := #[oS_0, oS_1, oS_2, oS_3, oS_4, oS_5, oS_6, oS_7, oS_8, oS_9, oS_10, oS_11, oS_12]

def outS (a : Act) (s x SG : ByteArray) (i rn e0 nl g cl : Nat) (T : Bool) : Act :=
  (((((((((((((a.put (some 70) (.int .i64 (rn : Nat))).put (some 71) (.bool true)).put (some 72) (.bool true)).put (some 75) (.string s)).put (some 76) (.int .i64 (i : Nat))).put (some 77) (.int .i64 (i : Nat))).put (some 78) (.int .i64 (rn : Nat))).put (some 79) (.int .i64 (e0 : Nat))).put (some 80) (.string x)).put (some 73) (.string SG)).put (some 74) (.slice (some ⟨g, 0, none⟩) nl cl)).put (some 81) (.bool T)).put (some 82) (.bool T))

set_option maxHeartbeats 4000000 in
set_option maxRecDepth 20000 in
theorem regionS {Q : Exit → Act → World → Prop} (a : Act) (W : World) (hsz : 95 ≤ a.tmps.size) (s x SG : ByteArray) (i rn e0 nl : Nat) (T : Bool) (h0 : a.eval (.tmp 0) = .string s) (h1 : a.eval (.tmp 1) = .int .i64 (i : Nat)) (h7 : a.eval (.tmp 7) = .int .i64 (rn : Nat)) (hpos : 0 < rn)
    (hadd : IntKind.i64.wrap ((i : Int) + (rn : Int)) = (e0 : Nat)) (hsl : ∀ W, (Instr.slice 9 (.string s) (some (.int .i64 (i : Nat))) (some (.int .i64 (e0 : Nat))) none).run Tryz.prog W = .ok (.string x) W)
    (HSG : ∀ W, Calls Tryz.prog 142 #[] W fun e w' => e = .returned (.string SG) ∧ w' = W) (HLI : ∀ W, Calls Tryz.prog 141 #[.string SG] W (GivesL W x T nl))
    (hQ : ∀ c a (d : Nat) v w, Q (.panic c) (a.put (some d) v) w → Q (.panic c) a w)
    (hend : ∀ g cl w', Below W.heap.size W w' → Q .normal (outS a s x SG i rn e0 nl g cl T) w') :
    (Code.region 13 opsS true).wp Tryz.prog Q a W := by
  refine wp_region_held (S := fun _ => True) (by kernel_rfl) ?_
  show wpAnyH _ _ _ _ _ (12 + 1) _ _ _
  refine wpAnyH_put 0 70 (.int .i64 (rn : Nat)) (oi := oS_0) rfl rfl (by kernel_rfl) (by kernel_rfl) (by kernel_rfl) hQ (wanted_free rfl) (fun w _ => rsM (.tmp 7) rfl h7 w) trivial ?_
  refine wpAnyH_put 1 71 (.bool true) (oi := oS_1) rfl rfl (by kernel_rfl) (by kernel_rfl) (by kernel_rfl) hQ (wanted_free rfl) (fun w _ => rsG (.tmp 70) rfl (eval_eq (by omega)) hpos w) trivial ?_
  refine wpAnyH_put 2 72 (.bool true) (oi := oS_2) rfl rfl (by kernel_rfl) (by kernel_rfl) (by kernel_rfl) hQ (wanted_free rfl) (fun w _ => rsM (.tmp 71) rfl (eval_eq (by rw [put_size]; omega)) w) trivial ?_
  refine wpAnyH_put 5 75 (.string s) (oi := oS_5) rfl rfl (by kernel_rfl) (by kernel_rfl) (by kernel_rfl) hQ (wanted_on rfl rfl (eval_eq (by rw [put_size, put_size]; omega)) (by rw [put_size, put_size, put_size]; omega)) (fun w _ => rsM (.tmp 0) rfl (by rw [eval_ne (by decide), eval_ne (by decide), eval_ne (by decide)]; exact h0) w) trivial ?_
  refine wpAnyH_put 6 76 (.int .i64 (i : Nat)) (oi := oS_6) rfl rfl (by kernel_rfl) (by kernel_rfl) (by kernel_rfl) hQ (wanted_on rfl rfl (by rw [eval_ne (by decide)]; exact eval_eq (by rw [put_size, put_size]; omega)) (by rw [put_size, put_size, put_size, put_size]; omega)) (fun w _ => rsM (.tmp 1) rfl (by rw [eval_ne (by decide), eval_ne (by decide), eval_ne (by decide), eval_ne (by decide)]; exact h1) w) trivial ?_
  refine wpAnyH_put 7 77 (.int .i64 (i : Nat)) (oi := oS_7) rfl rfl (by kernel_rfl) (by kernel_rfl) (by kernel_rfl) hQ (wanted_on rfl rfl (by rw [eval_ne (by decide), eval_ne (by decide)]; exact eval_eq (by rw [put_size, put_size]; omega)) (by rw [put_size, put_size, put_size, put_size, put_size]; omega)) (fun w _ => rsM (.tmp 1) rfl (by rw [eval_ne (by decide), eval_ne (by decide), eval_ne (by decide), eval_ne (by decide), eval_ne (by decide)]; exact h1) w) trivial ?_
  refine wpAnyH_put 8 78 (.int .i64 (rn : Nat)) (oi := oS_8) rfl rfl (by kernel_rfl) (by kernel_rfl) (by kernel_rfl) hQ (wanted_on rfl rfl (by rw [eval_ne (by decide), eval_ne (by decide), eval_ne (by decide)]; exact eval_eq (by rw [put_size, put_size]; omega)) (by rw [put_size, put_size, put_size, put_size, put_size, put_size]; omega)) (fun w _ => rsM (.tmp 7) rfl (by rw [eval_ne (by decide), eval_ne (by decide), eval_ne (by decide), eval_ne (by decide), eval_ne (by decide), eval_ne (by decide)]; exact h7) w) trivial ?_
  refine wpAnyH_put 9 79 (.int .i64 (e0 : Nat)) (oi := oS_9) rfl rfl (by kernel_rfl) (by kernel_rfl) (by kernel_rfl) hQ (wanted_on rfl rfl (by rw [eval_ne (by decide), eval_ne (by decide), eval_ne (by decide), eval_ne (by decide)]; exact eval_eq (by rw [put_size, put_size]; omega)) (by rw [put_size, put_size, put_size, put_size, put_size, put_size, put_size]; omega)) (fun w _ => rsA (.tmp 77) (.tmp 78) rfl (by rw [eval_ne (by decide)]; exact eval_eq (by rw [put_size, put_size, put_size, put_size, put_size]; omega)) (eval_eq (by rw [put_size, put_size, put_size, put_size, put_size, put_size]; omega)) hadd w) trivial ?_
  refine wpAnyH_put 10 80 (.string x) (oi := oS_10) rfl rfl (by kernel_rfl) (by kernel_rfl) (by kernel_rfl) hQ (wanted_on rfl rfl (by rw [eval_ne (by decide), eval_ne (by decide), eval_ne (by decide), eval_ne (by decide), eval_ne (by decide)]; exact eval_eq (by rw [put_size, put_size]; omega)) (by rw [put_size, put_size, put_size, put_size, put_size, put_size, put_size, put_size]; omega)) (fun w _ => rsSl (.tmp 75) (.tmp 76) (.tmp 79) rfl (by rw [eval_ne (by decide), eval_ne (by decide), eval_ne (by decide), eval_ne (by decide)]; exact eval_eq (by rw [put_size, put_size, put_size]; omega)) (by rw [eval_ne (by decide), eval_ne (by decide), eval_ne (by decide)]; exact eval_eq (by rw [put_size, put_size, put_size, put_size]; omega)) (eval_eq (by rw [put_size, put_size, put_size, put_size, put_size, put_size, put_size]; omega)) hsl w) trivial ?_
  refine wpAnyH_call (i := 3) (o := oS_3) (d := 73) (by kernel_rfl) rfl rfl (wanted_on rfl rfl (by rw [eval_ne (by decide), eval_ne (by decide), eval_ne (by decide), eval_ne (by decide), eval_ne (by decide), eval_ne (by decide)]; exact eval_eq (by rw [put_size, put_size]; omega)) (by rw [put_size, put_size, put_size, put_size, put_size, put_size, put_size, put_size, put_size]; omega)) (rsC0 rfl) (HSG _) (by rintro e w' ⟨rfl, _⟩; exact ⟨_, rfl⟩) ?_
  rintro v w6 ⟨hv, hw6⟩
  cases hv
  subst hw6
  refine wpAnyH_call (i := 4) (o := oS_4) (d := 74) (by kernel_rfl) rfl rfl (wanted_on rfl rfl (by rw [eval_ne (by decide), eval_ne (by decide), eval_ne (by decide), eval_ne (by decide), eval_ne (by decide), eval_ne (by decide), eval_ne (by decide)]; exact eval_eq (by rw [put_size, put_size]; omega)) (by rw [put_size, put_size, put_size, put_size, put_size, put_size, put_size, put_size, put_size, put_size]; omega)) (rsC1 rfl (eval_eq (by rw [put_size, put_size, put_size, put_size, put_size, put_size, put_size, put_size, put_size]; omega))) (HLI _) (by rintro e w' ⟨g, cl, rfl, _⟩; exact ⟨_, rfl⟩) ?_
  rintro v w7 ⟨g, cl, hv, hin, hb7⟩
  cases hv
  refine wpAnyH_call (i := 11) (o := oS_11) (d := 81) (by kernel_rfl) rfl rfl (wanted_on rfl rfl (by rw [eval_ne (by decide), eval_ne (by decide), eval_ne (by decide), eval_ne (by decide), eval_ne (by decide), eval_ne (by decide), eval_ne (by decide), eval_ne (by decide)]; exact eval_eq (by rw [put_size, put_size]; omega)) (by rw [put_size, put_size, put_size, put_size, put_size, put_size, put_size, put_size, put_size, put_size, put_size]; omega)) (rsC2 rfl (eval_eq (by rw [put_size, put_size, put_size, put_size, put_size, put_size, put_size, put_size, put_size, put_size]; omega)) (by rw [eval_ne (by decide), eval_ne (by decide)]; exact eval_eq (by rw [put_size, put_size, put_size, put_size, put_size, put_size, put_size, put_size]; omega))) (hin _ (Below.refl _ _)) (by rintro e w' ⟨rfl, _⟩; exact ⟨_, rfl⟩) ?_
  rintro v w8 ⟨hv, hw8⟩
  cases hv
  subst hw8
  refine wpAnyH_put 12 82 (.bool T) (oi := oS_12) rfl rfl (by kernel_rfl) (by kernel_rfl) (by kernel_rfl) hQ (wanted_free rfl) (fun w _ => rsP (.tmp 72) (.tmp 81) rfl (by rw [eval_ne (by decide), eval_ne (by decide), eval_ne (by decide), eval_ne (by decide), eval_ne (by decide), eval_ne (by decide), eval_ne (by decide), eval_ne (by decide), eval_ne (by decide)]; exact eval_eq (by rw [put_size, put_size]; omega)) (eval_eq (by rw [put_size, put_size, put_size, put_size, put_size, put_size, put_size, put_size, put_size, put_size, put_size]; omega)) w) trivial ?_
  refine wpAnyH_done (by kernel_rfl) ?_ _
  exact hend g cl _ ((Below.refl _ W).drew.trans hb7)

end Go.Proofs.YtmgjicgojlkpcaaGreatDoor
