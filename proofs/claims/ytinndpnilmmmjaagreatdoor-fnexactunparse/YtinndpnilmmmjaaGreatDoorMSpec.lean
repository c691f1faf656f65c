import Derived.Test.YtinndpnilmmmjaaGreatDoorMBs
import Derived.Test.YtinndpnilmmmjaaGreatDoorMBs
import Derived.Test.YtinndpnilmmmjaaGreatDoorSpecNumber
import Derived.Test.YtinndpnilmmmjaaGreatDoorMCv
import Derived.Deep.RegionWith
import Derived.Deep.DeepCutAuto
namespace Go.Proofs.YtinndpnilmmmjaaGreatDoor
open Go.RowKit

/-- What is asked of the list of signs. -/
def GivesL (w : World) (x : ByteArray) (T : Bool) (n : Nat) (e : Ending) (w' : World) : Prop := ∃ g cl, e = .returned (.slice (some ⟨g, 0, none⟩) n cl) ∧ (∀ W, Below w'.heap.size w' W → Calls Tryz.prog 140 #[.slice (some ⟨g, 0, none⟩) n cl, .string x] W fun e w'' => e = .returned (.bool T) ∧ w'' = W) ∧ Below w.heap.size w w'

section
variable {o : Oper} {a : Act} {ops : Array Oper}
theorem wanted_free (h : o.guard = none) : Region.wanted o (yielded ops a.tmps) = true := by simp [Region.wanted, h]

theorem wanted_on {j slot : Nat} (hg : o.guard = some (j, true)) (hj : (ops[j]?).bind (·.dst) = some slot) (hv : a.eval (.tmp slot) = .bool true) (hs : slot < a.tmps.size) : Region.wanted o (yielded ops a.tmps) = true := by
  have h1 : a.tmps[slot]? = some (.bool true) := by
    have : a.tmps[slot]?.getD undef = .bool true := by simpa [Act.eval] using hv
    rw [Array.getElem?_eq_getElem hs] at this ⊢
    simpa using this
  unfold Region.wanted yielded
  simp [hg, hj, h1]

theorem wpAnyH_put {P : Program} {Q : Exit → Act → World → Prop} {md : Region.Mode} {S : World → Prop} (i d : Nat) (v : Value) {oi : Oper} {fuel : Nat} {listed : Array Bool} {w : World} (hi : ops[i]? = some oi) (hd : oi.dst = some d)
    (hs : Region.noSelect ops = true) (hf : Region.free md ops listed i = true) (hr : (Region.ready md ops listed).contains i = true)
    (hQ : ∀ c a (d : Nat) v w, Q (.panic c) (a.put (some d) v) w → Q (.panic c) a w) (hg : Region.wanted oi (yielded ops a.tmps) = true) (hy : ∀ w, S w → (execOp a.eval oi).run P w = .ok (.value v) w) (hS : S w)
    (h : wpAnyH P md ops Q S fuel (listed.setIfInBounds i true) (a.put (some d) v) w) : wpAnyH P md ops Q S (fuel + 1) listed a w :=
  wpAnyH_take hi hs hf hr (fun c a w h => by rw [hd] at h; exact hQ c a d v w h) (Or.inl ⟨hg, hy⟩) hS (by rw [hd]; exact h)

theorem wpAnyH_one {P : Program} {Q : Exit → Act → World → Prop} {md : Region.Mode} {S : World → Prop} {i fuel : Nat} {listed : Array Bool} {w : World} (hr : Region.ready md ops listed = [i])
    (h : wpOp P ops Q i (fun a' w' => S w' ∧ wpAnyH P md ops Q S fuel (listed.setIfInBounds i true) a' w') a w) : wpAnyH P md ops Q S (fuel + 1) listed a w :=
  wpAnyH_all hr (by simp) (fun j hj => by
    have e : j = i := by simpa using hj
    rw [e]
    exact h)

theorem op_enter {P : Program} {Q : Exit → Act → World → Prop} {K : Act → World → Prop} {w : World} {i d f : Nat} {args : Array Value} {R : Ending → World → Prop} (hi : ops[i]? = some o) (hd : o.dst = some d) (hg : Region.wanted o (yielded ops a.tmps) = true) (he : (execOp a.eval o).run P w = .ok (.enter f args) w)
    (hc : Calls P f args w R) (hno : ∀ e w', R e w' → ∃ v, e = .returned v) (h : ∀ v w', R (.returned v) w' → K (a.put (some d) v) w') : wpOp P ops Q i K a w := by
  refine op_wp hi hg ?_
  unfold Oper.wp
  rw [he]
  show Calls _ _ _ _ _
  refine hc.mono ?_
  rintro e w' hr
  obtain ⟨v, rfl⟩ := hno _ _ hr
  show K (a.put o.dst v) w'
  rw [hd]
  exact h v w' hr

theorem wpAnyH_call {P : Program} {Q : Exit → Act → World → Prop} {md : Region.Mode} {fuel : Nat} {listed : Array Bool} {w : World} {i d f : Nat} {args : Array Value} {R : Ending → World → Prop} (hr : Region.ready md ops listed = [i]) (hi : ops[i]? = some o) (hd : o.dst = some d) (hg : Region.wanted o (yielded ops a.tmps) = true) (he : (execOp a.eval o).run P w = .ok (.enter f args) w)
    (hc : Calls P f args w R) (hno : ∀ e w', R e w' → ∃ v, e = .returned v) (h : ∀ v w', R (.returned v) w' → wpAnyH P md ops Q (fun _ => True) fuel (listed.setIfInBounds i true) (a.put (some d) v) w') : wpAnyH P md ops Q (fun _ => True) (fuel + 1) listed a w :=
  wpAnyH_one hr (op_enter hi hd hg he hc hno (fun v w' hv => ⟨trivial, h v w' hv⟩))

theorem rsM (x : Operand) {v : Value} (ho : o.op = .move x) (hx : a.eval x = v) (w : World) : (execOp a.eval o).run Tryz.prog w = .ok (.value v) w := by
  unfold execOp
  simp only [ho, hx]
  go_simp

theorem rsG (x : Operand) {n : Nat} (ho : o.op = .binOp .gtr 3 x (.const (.int .i64 0)) 3) (hx : a.eval x = .int .i64 (n : Nat)) (hn : 0 < n) (w : World) : (execOp a.eval o).run Tryz.prog w = .ok (.value (.bool true)) w := by
  have h1 : (0 : Int) < (n : Int) := by omega
  unfold execOp
  simp only [ho, hx]
  go_simp

theorem rsA (x y : Operand) {i j k : Nat} (ho : o.op = .binOp .add 3 x y 3) (hx : a.eval x = .int .i64 (i : Nat)) (hy : a.eval y = .int .i64 (j : Nat)) (hk : IntKind.i64.wrap ((i : Int) + (j : Int)) = (k : Nat)) (w : World) : (execOp a.eval o).run Tryz.prog w = .ok (.value (.int .i64 (k : Nat))) w := by
  unfold execOp
  simp only [ho, hx, hy]
  go_simp

theorem rsSl (x y z : Operand) {s t : ByteArray} {i k : Nat} (ho : o.op = .slice 9 x (some y) (some z) none) (hx : a.eval x = .string s) (hy : a.eval y = .int .i64 (i : Nat)) (hz : a.eval z = .int .i64 (k : Nat)) (hsl : ∀ W, (Instr.slice 9 (.string s) (some (.int .i64 (i : Nat))) (some (.int .i64 (k : Nat))) none).run Tryz.prog W = .ok (.string t) W) (w : World) : (execOp a.eval o).run Tryz.prog w = .ok (.value (.string t)) w := by
  unfold execOp
  simp only [ho, hx, hy, hz, Option.map_some, Option.map_none]
  have := hsl w
  go_simp

theorem rsP (x y : Operand) {T : Bool} (ho : o.op = .pick x y (.const (.bool false))) (hx : a.eval x = .bool true) (hy : a.eval y = .bool T) (w : World) : (execOp a.eval o).run Tryz.prog w = .ok (.value (.bool T)) w := by
  unfold execOp
  simp only [ho, hx, hy]
  go_simp

theorem rsC0 {w : World} (ho : o.op = .call { callee := .value (.func 142), args := #[], argTypes := #[] }) : (execOp a.eval o).run Tryz.prog w = .ok (.enter 142 #[]) w := by
  unfold execOp
  simp only [ho]
  go_simp

theorem rsC1 {w : World} {v : Value} {t : Nat} (ho : o.op = .call { callee := .value (.func 141), args := #[.tmp t], argTypes := #[9] }) (hx : a.eval (.tmp t) = v) : (execOp a.eval o).run Tryz.prog w = .ok (.enter 141 #[v]) w := by
  have hx' : a.tmps[t]?.getD undef = v := by simpa [Act.eval] using hx
  unfold execOp
  simp only [ho]
  go_simp

theorem rsC2 {w : World} {v u : Value} {t q : Nat} (ho : o.op = .call { callee := .value (.func 140), args := #[.tmp t, .tmp q], argTypes := #[99, 9] }) (hx : a.eval (.tmp t) = v) (hy : a.eval (.tmp q) = u) : (execOp a.eval o).run Tryz.prog w = .ok (.enter 140 #[v, u]) w := by
  have hx' : a.tmps[t]?.getD undef = v := by simpa [Act.eval] using hx
  have hy' : a.tmps[q]?.getD undef = u := by simpa [Act.eval] using hy
  unfold execOp
  simp only [ho]
  go_simp
end

def oS_0 : Oper := { dst := some 70, op := Op.move (Operand.tmp 7), type := 3, pos := "l1_text.go:193", after := #[], guard := none }
def oS_1 : Oper := { dst := some 71, op := Op.binOp BinOp.gtr 3 (Operand.tmp 70) (Operand.const (Value.int IntKind.i64 0)) 3, type := 4, pos := "l1_text.go:193", after := #[{ on := 0, ground := Ground.data }], guard := none }
def oS_2 : Oper := { dst := some 72, op := Op.move (Operand.tmp 71), type := 4, pos := "l1_text.go:193", after := #[{ on := 1, ground := Ground.data }], guard := none }
def oS_3 : Oper := { dst := some 73, op := Op.call { callee := Callee.value (Operand.func 142), args := #[], argTypes := #[] }, type := 9, pos := "l1_text.go:193", after := #[{ on := 2, ground := Ground.chain }, { on := 2, ground := Ground.guard }], guard := some (2, true) }
def oS_4 : Oper := { dst := some 74, op := Op.call { callee := Callee.value (Operand.func 141), args := #[Operand.tmp 73], argTypes := #[9] }, type := 99, pos := "l1_text.go:193", after := #[{ on := 3, ground := Ground.data }, { on := 3, ground := Ground.chain }, { on := 2, ground := Ground.guard }], guard := some (2, true) }
def oS_5 : Oper := { dst := some 75, op := Op.move (Operand.tmp 0), type := 9, pos := "l1_text.go:193", after := #[{ on := 2, ground := Ground.guard }], guard := some (2, true) }
def oS_6 : Oper := { dst := some 76, op := Op.move (Operand.tmp 1), type := 3, pos := "l1_text.go:193", after := #[{ on := 2, ground := Ground.guard }], guard := some (2, true) }
def oS_7 : Oper := { dst := some 77, op := Op.move (Operand.tmp 1), type := 3, pos := "l1_text.go:193", after := #[{ on := 2, ground := Ground.guard }], guard := some (2, true) }
def oS_8 : Oper := { dst := some 78, op := Op.move (Operand.tmp 7), type := 3, pos := "l1_text.go:193", after := #[{ on := 2, ground := Ground.guard }], guard := some (2, true) }
def oS_9 : Oper := { dst := some 79, op := Op.binOp BinOp.add 3 (Operand.tmp 77) (Operand.tmp 78) 3, type := 3, pos := "l1_text.go:193", after := #[{ on := 7, ground := Ground.data }, { on := 8, ground := Ground.data }, { on := 2, ground := Ground.guard }], guard := some (2, true) }
def oS_10 : Oper := { dst := some 80, op := Op.slice 9 (Operand.tmp 75) (some (Operand.tmp 76)) (some (Operand.tmp 79)) none, type := 9, pos := "l1_text.go:193", after := #[{ on := 5, ground := Ground.data }, { on := 6, ground := Ground.data }, { on := 9, ground := Ground.data }, { on := 2, ground := Ground.guard }], guard := some (2, true) }
def oS_11 : Oper := { dst := some 81, op := Op.call { callee := Callee.value (Operand.func 140), args := #[Operand.tmp 74, Operand.tmp 80], argTypes := #[99, 9] }, type := 4, pos := "l1_text.go:193", after := #[{ on := 4, ground := Ground.data }, { on := 10, ground := Ground.data }, { on := 4, ground := Ground.chain }, { on := 2, ground := Ground.guard }], guard := some (2, true) }
def oS_12 : Oper := { dst := some 82, op := Op.pick (Operand.tmp 72) (Operand.tmp 81) (Operand.const (Value.bool false)), type := 4, pos := "l1_text.go:193", after := #[{ on := 2, ground := Ground.data }, { on := 11, ground := Ground.data }], guard := none }

/-- The statement that asks whether a sign stands there. -/
def opsS : Array Oper := #[oS_0, oS_1, oS_2, oS_3, oS_4, oS_5, oS_6, oS_7, oS_8, oS_9, oS_10, oS_11, oS_12]

def outS (a : Act) (s x SG : ByteArray) (i rn e0 nl g cl : Nat) (T : Bool) : Act :=
  (((((((((((((a.put (some 70) (.int .i64 (rn : Nat))).put (some 71) (.bool true)).put (some 72) (.bool true)).put (some 75) (.string s)).put (some 76) (.int .i64 (i : Nat))).put (some 77) (.int .i64 (i : Nat))).put (some 78) (.int .i64 (rn : Nat))).put (some 79) (.int .i64 (e0 : Nat))).put (some 80) (.string x)).put (some 73) (.string SG)).put (some 74) (.slice (some ⟨g, 0, none⟩) nl cl)).put (some 81) (.bool T)).put (some 82) (.bool T))

set_option maxHeartbeats 4000000 in
set_option maxRecDepth 20000 in
theorem regionS {Q : Exit → Act → World → Prop} (a : Act) (W : World) (hsz : 95 ≤ a.tmps.size) (s x SG : ByteArray) (i rn e0 nl : Nat) (T : Bool) (h0 : a.eval (.tmp 0) = .string s) (h1 : a.eval (.tmp 1) = .int .i64 (i : Nat)) (h7 : a.eval (.tmp 7) = .int .i64 (rn : Nat)) (hpos : 0 < rn)
    (hadd : IntKind.i64.wrap ((i : Int) + (rn : Int)) = (e0 : Nat)) (hsl : ∀ W, (Instr.slice 9 (.string s) (some (.int .i64 (i : Nat))) (some (.int .i64 (e0 : Nat))) none).run Tryz.prog W = .ok (.string x) W)
    (HSG : ∀ W, Calls Tryz.prog 142 #[] W fun e w' => e = .returned (.string SG) ∧ w' = W) (HLI : ∀ W, Calls Tryz.prog 141 #[.string SG] W (GivesL W x T nl))
    (hQ : ∀ c a (d : Nat) v w, Q (.panic c) (a.put (some d) v) w → Q (.panic c) a w)
    (hend : ∀ g cl w', Below W.heap.size W w' → Q .normal (outS a s x SG i rn e0 nl g cl T) w') :
    (Code.region 13 opsS true).wp Tryz.prog Q a W := by
  refine wp_region_held (S := fun _ => True) (by kernel_rfl) ?_
  show wpAnyH _ _ _ _ _ (12 + 1) _ _ _
  refine wpAnyH_put 0 70 (.int .i64 (rn : Nat)) (oi := oS_0) rfl rfl (by kernel_rfl) (by kernel_rfl) (by kernel_rfl) hQ (wanted_free rfl) (fun w _ => rsM (.tmp 7) rfl h7 w) trivial ?_
  refine wpAnyH_put 1 71 (.bool true) (oi := oS_1) rfl rfl (by kernel_rfl) (by kernel_rfl) (by kernel_rfl) hQ (wanted_free rfl) (fun w _ => rsG (.tmp 70) rfl (eval_eq (by omega)) hpos w) trivial ?_
  refine wpAnyH_put 2 72 (.bool true) (oi := oS_2) rfl rfl (by kernel_rfl) (by kernel_rfl) (by kernel_rfl) hQ (wanted_free rfl) (fun w _ => rsM (.tmp 71) rfl (eval_eq (by rw [put_size]; omega)) w) trivial ?_
  refine wpAnyH_put 5 75 (.string s) (oi := oS_5) rfl rfl (by kernel_rfl) (by kernel_rfl) (by kernel_rfl) hQ (wanted_on rfl rfl (eval_eq (by rw [put_size, put_size]; omega)) (by rw [put_size, put_size, put_size]; omega)) (fun w _ => rsM (.tmp 0) rfl (by rw [eval_ne (by decide), eval_ne (by decide), eval_ne (by decide)]; exact h0) w) trivial ?_
  refine wpAnyH_put 6 76 (.int .i64 (i : Nat)) (oi := oS_6) rfl rfl (by kernel_rfl) (by kernel_rfl) (by kernel_rfl) hQ (wanted_on rfl rfl (by rw [eval_ne (by decide)]; exact eval_eq (by rw [put_size, put_size]; omega)) (by rw [put_size, put_size, put_size, put_size]; omega)) (fun w _ => rsM (.tmp 1) rfl (by rw [eval_ne (by decide), eval_ne (by decide), eval_ne (by decide), eval_ne (by decide)]; exact h1) w) trivial ?_
  refine wpAnyH_put 7 77 (.int .i64 (i : Nat)) (oi := oS_7) rfl rfl (by kernel_rfl) (by kernel_rfl) (by kernel_rfl) hQ (wanted_on rfl rfl (by rw [eval_ne (by decide), eval_ne (by decide)]; exact eval_eq (by rw [put_size, put_size]; omega)) (by rw [put_size, put_size, put_size, put_size, put_size]; omega)) (fun w _ => rsM (.tmp 1) rfl (by rw [eval_ne (by decide), eval_ne (by decide), eval_ne (by decide), eval_ne (by decide), eval_ne (by decide)]; exact h1) w) trivial ?_
  refine wpAnyH_put 8 78 (.int .i64 (rn : Nat)) (oi := oS_8) rfl rfl (by kernel_rfl) (by kernel_rfl) (by kernel_rfl) hQ (wanted_on rfl rfl (by rw [eval_ne (by decide), eval_ne (by decide), eval_ne (by decide)]; exact eval_eq (by rw [put_size, put_size]; omega)) (by rw [put_size, put_size, put_size, put_size, put_size, put_size]; omega)) (fun w _ => rsM (.tmp 7) rfl (by rw [eval_ne (by decide), eval_ne (by decide), eval_ne (by decide), eval_ne (by decide), eval_ne (by decide), eval_ne (by decide)]; exact h7) w) trivial ?_
  refine wpAnyH_put 9 79 (.int .i64 (e0 : Nat)) (oi := oS_9) rfl rfl (by kernel_rfl) (by kernel_rfl) (by kernel_rfl) hQ (wanted_on rfl rfl (by rw [eval_ne (by decide), eval_ne (by decide), eval_ne (by decide), eval_ne (by decide)]; exact eval_eq (by rw [put_size, put_size]; omega)) (by rw [put_size, put_size, put_size, put_size, put_size, put_size, put_size]; omega)) (fun w _ => rsA (.tmp 77) (.tmp 78) rfl (by rw [eval_ne (by decide)]; exact eval_eq (by rw [put_size, put_size, put_size, put_size, put_size]; omega)) (eval_eq (by rw [put_size, put_size, put_size, put_size, put_size, put_size]; omega)) hadd w) trivial ?_
  refine wpAnyH_put 10 80 (.string x) (oi := oS_10) rfl rfl (by kernel_rfl) (by kernel_rfl) (by kernel_rfl) hQ (wanted_on rfl rfl (by rw [eval_ne (by decide), eval_ne (by decide), eval_ne (by decide), eval_ne (by decide), eval_ne (by decide)]; exact eval_eq (by rw [put_size, put_size]; omega)) (by rw [put_size, put_size, put_size, put_size, put_size, put_size, put_size, put_size]; omega)) (fun w _ => rsSl (.tmp 75) (.tmp 76) (.tmp 79) rfl (by rw [eval_ne (by decide), eval_ne (by decide), eval_ne (by decide), eval_ne (by decide)]; exact eval_eq (by rw [put_size, put_size, put_size]; omega)) (by rw [eval_ne (by decide), eval_ne (by decide), eval_ne (by decide)]; exact eval_eq (by rw [put_size, put_size, put_size, put_size]; omega)) (eval_eq (by rw [put_size, put_size, put_size, put_size, put_size, put_size, put_size]; omega)) hsl w) trivial ?_
  refine wpAnyH_call (i := 3) (o := oS_3) (d := 73) (by kernel_rfl) rfl rfl (wanted_on rfl rfl (by rw [eval_ne (by decide), eval_ne (by decide), eval_ne (by decide), eval_ne (by decide), eval_ne (by decide), eval_ne (by decide)]; exact eval_eq (by rw [put_size, put_size]; omega)) (by rw [put_size, put_size, put_size, put_size, put_size, put_size, put_size, put_size, put_size]; omega)) (rsC0 rfl) (HSG _) (by rintro e w' ⟨rfl, _⟩; exact ⟨_, rfl⟩) ?_
  rintro v w6 ⟨hv, hw6⟩
  cases hv
  subst hw6
  refine wpAnyH_call (i := 4) (o := oS_4) (d := 74) (by kernel_rfl) rfl rfl (wanted_on rfl rfl (by rw [eval_ne (by decide), eval_ne (by decide), eval_ne (by decide), eval_ne (by decide), eval_ne (by decide), eval_ne (by decide), eval_ne (by decide)]; exact eval_eq (by rw [put_size, put_size]; omega)) (by rw [put_size, put_size, put_size, put_size, put_size, put_size, put_size, put_size, put_size, put_size]; omega)) (rsC1 rfl (eval_eq (by rw [put_size, put_size, put_size, put_size, put_size, put_size, put_size, put_size, put_size]; omega))) (HLI _) (by rintro e w' ⟨g, cl, rfl, _⟩; exact ⟨_, rfl⟩) ?_
  rintro v w7 ⟨g, cl, hv, hin, hb7⟩
  cases hv
  refine wpAnyH_call (i := 11) (o := oS_11) (d := 81) (by kernel_rfl) rfl rfl (wanted_on rfl rfl (by rw [eval_ne (by decide), eval_ne (by decide), eval_ne (by decide), eval_ne (by decide), eval_ne (by decide), eval_ne (by decide), eval_ne (by decide), eval_ne (by decide)]; exact eval_eq (by rw [put_size, put_size]; omega)) (by rw [put_size, put_size, put_size, put_size, put_size, put_size, put_size, put_size, put_size, put_size, put_size]; omega)) (rsC2 rfl (eval_eq (by rw [put_size, put_size, put_size, put_size, put_size, put_size, put_size, put_size, put_size, put_size]; omega)) (by rw [eval_ne (by decide), eval_ne (by decide)]; exact eval_eq (by rw [put_size, put_size, put_size, put_size, put_size, put_size, put_size, put_size]; omega))) (hin _ (Below.refl _ _)) (by rintro e w' ⟨rfl, _⟩; exact ⟨_, rfl⟩) ?_
  rintro v w8 ⟨hv, hw8⟩
  cases hv
  subst hw8
  refine wpAnyH_put 12 82 (.bool T) (oi := oS_12) rfl rfl (by kernel_rfl) (by kernel_rfl) (by kernel_rfl) hQ (wanted_free rfl) (fun w _ => rsP (.tmp 72) (.tmp 81) rfl (by rw [eval_ne (by decide), eval_ne (by decide), eval_ne (by decide), eval_ne (by decide), eval_ne (by decide), eval_ne (by decide), eval_ne (by decide), eval_ne (by decide), eval_ne (by decide)]; exact eval_eq (by rw [put_size, put_size]; omega)) (eval_eq (by rw [put_size, put_size, put_size, put_size, put_size, put_size, put_size, put_size, put_size, put_size, put_size]; omega)) w) trivial ?_
  refine wpAnyH_done (by kernel_rfl) ?_ _
  exact hend g cl _ ((Below.refl _ W).drew.trans hb7)

end Go.Proofs.YtinndpnilmmmjaaGreatDoor
namespace Go.Proofs.YtinndpnilmmmjaaGreatDoor
open Go.RowKit

theorem rune_le (s : ByteArray) (i : Nat) : (runeAt s i).1 ≤ 2097151 := by
  have hb := bt_lt s i
  by_cases h1 : bt s i < 128
  · rw [rune_ascii h1]; simp; omega
  · by_cases h2 : bt s i < 192 ∨ 248 ≤ bt s i
    · rw [rune_0 (by omega) h2]; simp
    · by_cases h3 : bt s i < 224
      · rw [rune_2 (by omega) h3]
        split
        · show v2 s i ≤ _; unfold v2; omega
        · simp
      · by_cases h4 : bt s i < 240
        · rw [rune_3 (by omega) h4]
          split
          · show v3 s i ≤ _; unfold v3; omega
          · simp
        · rw [rune_4 (by omega) (by omega)]
          split
          · show v4 s i ≤ _; unfold v4; omega
          · simp

set_option maxRecDepth 20000 in
set_option maxHeartbeats 2000000 in
theorem l1Token_sign (s : ByteArray) (i : Nat) (w : World) (hi : i < s.size) (hs : s.size ≤ 100000) (hd : isD (bt s i) = false) (hh : high s i = false) (h39 : bt s i ≠ 39) (hl : isL (bt s i) = false) :
    Calls Tryz.prog 89 #[.string s, .int .i64 (i : Nat)] w (GivesGot w (signTok s i)) := by
  obtain ⟨Q, hQ⟩ : ∃ Q, Q = w.alloc (.cells #[.int .i64 0, .int .i64 0, .string ⟨#[]⟩, .int .i64 0, .int .i64 0, .int .i64 0] 119) := ⟨_, rfl⟩
  have HQ := hide hQ
  have HBX : Hid (GBox Q w.heap.size (.int .i64 0) (.int .i64 0) (.string ⟨#[]⟩) (.int .i64 0) (.int .i64 0) (.int .i64 0)) := by rw [hQ]; exact GBox.new w _ _ _ _ _ _
  have HBQ : Hid (Below w.heap.size w Q) := by rw [hQ]; exact (Below.refl _ _).alloc (Nat.le_refl _) _
  clear hQ
  have hlti : (i : Int) < (s.size : Int) := by omega
  have hix := fun W => run_idx hi W
  have HD := hide (fun W => l1Digit_any (bt s i) W)
  have HL := hide (fun W => l1Letter_any (bt s i) W)
  have HSI : Hid (∀ W, Calls Tryz.prog 88 #[.string s, .int .i64 (i : Nat), .string ⟨#[194, 175]⟩] W fun e w' => e = .returned (.bool (high s i)) ∧ w' = W) := fun W => by
    rw [← starts_high]
    exact l1Starts_any s ⟨#[194, 175]⟩ i (by omega) (by omega) (by decide) W
  rw [hd] at HD
  rw [hl] at HL
  rw [hh] at HSI
  have HY0 : Hid (bt s i < 256) := bt_lt s i
  obtain ⟨y, hy⟩ : ∃ y, bt s i = y := ⟨_, rfl⟩
  rw [hy] at hix HD HL HY0 h39
  have hy256 := unhide HY0
  have h39i : ¬ (y : Int) = 39 := by omega
  clear hy HY0 hd hl hh h39
  obtain ⟨cap, W1, hcv, hcap, hrow, hbW, hzW⟩ := conv_str Q s
  have HR0 := hide (l1Rune_any (some ⟨Q.heap.size, 0, none⟩) cap s i W1 hrow hi (by omega))
  have hre := rune_end hi
  have hrl := rune_le s i
  have HSA : Hid (0 < (runeAt s i).2 → ((pcN signS signS.size).2.any fun p => p.toList == (s.extract i (i + (runeAt s i).2)).toList) = decide ((runeAt s i).1 ∈ signCs)) := fun h => sign_any hi h hrl
  have HT4 : Hid (signTok s i = if 0 < (runeAt s i).2 ∧ (runeAt s i).1 ∈ signCs then ⟨4, 0, s.extract i (i + (runeAt s i).2), i + (runeAt s i).2, 0⟩ else bad 1) := rfl
  obtain ⟨rv, hrv⟩ : ∃ v, (runeAt s i).1 = v := ⟨_, rfl⟩
  obtain ⟨rn, hrn⟩ : ∃ n, (runeAt s i).2 = n := ⟨_, rfl⟩
  have HR2 : Hid (Calls Tryz.prog 139 #[.slice (some ⟨Q.heap.size, 0, none⟩) s.size cap, .int .i64 (i : Nat)] W1 fun e w' => e = .returned (.tuple #[.int .i64 (rv : Nat), .int .i64 (rn : Nat)]) ∧ Below W1.heap.size W1 w') := by
    have := unhide HR0
    unfold GivesRune at this
    rw [hrv, hrn] at this
    exact this
  rw [hrn] at hre
  rw [hrn, hrv] at HSA HT4
  have HBX1 := hide ((unhide HBX).below (Nat.le_refl _) hbW)
  have HBW : Hid (Below w.heap.size w W1) := (unhide HBQ).trans (hbW.mono (unhide HBQ).size)
  obtain ⟨qs, hqs⟩ : ∃ q, Q.heap.size = q := ⟨_, rfl⟩
  rw [hqs] at HR2 hcv
  rw [unhide HQ] at hcv
  obtain ⟨e0, he0⟩ : ∃ e, i + rn = e := ⟨_, rfl⟩
  rw [he0] at HSA HT4 hre
  have hei : (i : Int) + (rn : Int) = (e0 : Int) := by omega
  have hsl := fun W => run_sub (s := s) (p := i) (q := e0) (by omega) hre.1 W
  obtain ⟨x, hx⟩ : ∃ x, s.extract i e0 = x := ⟨_, rfl⟩
  rw [hx] at hsl HSA HT4
  obtain ⟨T, hT⟩ : ∃ T, decide (0 < rn ∧ rv ∈ signCs) = T := ⟨_, rfl⟩
  have HTT := hide hT
  have hrnb : rn ≤ 4 := hre.2
  have he0b : e0 ≤ s.size := hre.1
  have HTF : Hid (0 < rn → ((pcN signS signS.size).2.any fun p => p.toList == x.toList) = T) := fun h0 => by
    rw [unhide HSA h0, ← unhide HTT]
    by_cases hm : rv ∈ signCs
    · rw [decide_eq_true hm, decide_eq_true ⟨h0, hm⟩]
    · rw [decide_eq_false hm, decide_eq_false (fun h => hm h.2)]
  obtain ⟨nl, hnl⟩ : ∃ n, (pcN signS signS.size).2.length = n := ⟨_, rfl⟩
  have HLI : Hid (0 < rn → ∀ W, Calls Tryz.prog 141 #[.string signS] W (GivesL W x T nl)) := fun h0 W => (l1List_any signS W sign_size).mono (by
    rintro e w' ⟨g, cl, rfl, hrs, hb⟩
    refine ⟨g, cl, by rw [hnl], fun W' hW' => ?_, hb⟩
    have hsz : (pcN signS signS.size).2.length ≤ 100000 := Nat.le_trans (pcN_le signS signS.size).2 sign_size
    have := l1In_any (some ⟨g, 0, none⟩) _ cl _ x W' (hrs.below (Nat.le_refl _) hW') hsz
    rw [hnl, unhide HTF h0] at this
    exact this)
  have HSG := hide l1Signs_any
  obtain ⟨SG, hSG⟩ : ∃ z, signS = z := ⟨_, rfl⟩
  rw [hSG] at HLI HSG
  clear HR0 hrow hbW hzW hcap hrl hrv hrn hqs hx he0 hT hre HSA HTF hnl hSG
  go_enter Tryz.func89, Tryz.ntmps89
  go_upto_region 13 with (first | (go_at_call 116; refine (unhide HD _).mono ?_; rintro e' w1 ⟨rfl, hw⟩; obtain rfl := hw.symm) | (go_at_call 121; refine (l1High_any _).mono ?_; rintro e' w1 ⟨rfl, hw⟩; obtain rfl := hw.symm) | (go_at_call 88; refine (unhide HSI _).mono ?_; rintro e' w1 ⟨rfl, hw⟩; obtain rfl := hw.symm) | (go_at_call 115; refine (unhide HL _).mono ?_; rintro e' w1 ⟨rfl, hw⟩; obtain rfl := hw.symm) | (go_at_call 139; refine (unhide HR2).mono ?_; rintro e' w5 ⟨rfl, hb5⟩; have HBX5 := hide ((unhide HBX1).below (Nat.le_refl _) hb5); have HB5 := hide ((unhide HBW).trans (hb5.mono (unhide HBW).size)); clear hb5))
  clear HD HL HSI hix hcv HR2 HBX1 HBW HBX HBQ
  go_cut [82] (fun t wx => t = .bool T ∧ Hid (Below w5.heap.size w5 wx))
  case first =>
    by_cases h0 : 0 < rn
    case neg =>
      have HTF : Hid (T = false) := by show _ = _; rw [← unhide HTT]; exact decide_eq_false (fun h => h0 h.1)
      obtain rfl : rn = 0 := by omega
      clear h0 hsl
      go_quiet (fail)
      go_wp2_with fail
      go_meet
      case rel => exact ⟨by rw [unhide HTF], Below.drewN (Below.refl _ _) _⟩
    case pos =>
      have HLI2 := hide (unhide HLI h0)
      have HB0 : Hid (Below w5.heap.size w5 w5.drew) := (Below.refl _ _).drew
      clear HLI HT4 HTT HBX5 HB5 hi
      have hadd : IntKind.i64.wrap ((i : Int) + (rn : Int)) = (e0 : Nat) := by rw [hei, IntKind.wrap_i64]; omega
      refine regionS _ w5 (by simp) s x SG i rn e0 nl T rfl rfl rfl h0 hadd hsl (unhide HSG) (unhide HLI2) (fun _ _ _ _ _ h => h) ?_
      intro g cl w' hb
      have HBB := hide hb
      clear hb
      simp only [outS, Act.put, List.setIfInBounds_toArray, List.set_cons_zero, List.set_cons_succ]
      go_wp2_with fail
      go_meet
      case rel => exact ⟨rfl, HBB⟩
  case rest =>
    obtain ⟨rfl, HBc⟩ := hcut
    obtain ⟨w6, hw6⟩ : ∃ z, z = wc := ⟨_, rfl⟩
    subst hw6
    have HBX6 := hide ((unhide HBX5).below (Nat.le_refl _) (unhide HBc))
    have HB6 : Hid (Below w.heap.size w w6) := (unhide HB5).trans ((unhide HBc).mono (unhide HB5).size)
    obtain ⟨q0, q1, q2, q3, q4, q5, qf⟩ := (unhide HBX6).all
    have f0 := qf 0
    have f1 := qf 1
    have f2 := qf 2
    have f3 := qf 3
    have f4 := qf 4
    have f5 := qf 5
    clear qf HBX5 HB5 HBc
    cases T with
    | true =>
      have HE : Hid (signTok s i = ⟨4, 0, x, e0, 0⟩) := by show _ = _; rw [unhide HT4, if_pos (of_decide_eq_true (unhide HTT))]
      go_wp2_with fail
      refine bodyPost_ret (v := gotV ⟨4, 0, x, e0, 0⟩) (by simp [results, Tryz.results89, go_sem, q0, q1, q2, q3, q4, q5, gotV]) rfl ?_
      exact ⟨by rw [unhide HE], (((((((unhide HB6)).setCell (Nat.le_refl _) _).setCell (Nat.le_refl _) _).setCell (Nat.le_refl _) _).setCell (Nat.le_refl _) _).setCell (Nat.le_refl _) _).setCell (Nat.le_refl _) _⟩
    | false =>
      have HE : Hid (signTok s i = bad 1) := by show _ = _; rw [unhide HT4, if_neg (of_decide_eq_false (unhide HTT))]
      go_wp2_with fail
      refine bodyPost_ret (v := gotV (bad 1)) (by simp [results, Tryz.results89, go_sem, q0, q1, q2, q3, q4, q5, gotV, bad]) rfl ?_
      exact ⟨by rw [unhide HE], (((((((unhide HB6)).setCell (Nat.le_refl _) _).setCell (Nat.le_refl _) _).setCell (Nat.le_refl _) _).setCell (Nat.le_refl _) _).setCell (Nat.le_refl _) _).setCell (Nat.le_refl _) _⟩

end Go.Proofs.YtinndpnilmmmjaaGreatDoor
namespace Go.Proofs.YtinndpnilmmmjaaGreatDoor
open Go.RowKit

set_option maxRecDepth 20000 in
set_option maxHeartbeats 8000000 in
theorem l1Token_any (s : ByteArray) (i : Nat) (w : World) (hi : i < s.size) (hs : s.size ≤ 100000) :
    Calls Tryz.prog 89 #[.string s, .int .i64 (i : Nat)] w (GivesGot w (tokAt s i)) := by
  by_cases hsg : isD (bt s i) = false ∧ high s i = false ∧ bt s i ≠ 39 ∧ isL (bt s i) = false
  · have e : tokAt s i = signTok s i := by
      unfold tokAt
      rw [if_neg (by rw [hsg.1, hsg.2.1]; rintro (h | h) <;> cases h), if_neg hsg.2.2.1, if_neg (by rw [hsg.2.2.2]; decide)]
    rw [e]
    exact l1Token_sign s i w hi hs hsg.1 hsg.2.1 hsg.2.2.1 hsg.2.2.2
  have HNS := hide hsg
  clear hsg
  obtain ⟨Q, hQ⟩ : ∃ Q, Q = w.alloc (.cells #[.int .i64 0, .int .i64 0, .string ⟨#[]⟩, .int .i64 0, .int .i64 0, .int .i64 0] 119) := ⟨_, rfl⟩
  have HQ := hide hQ
  have HBX : Hid (GBox Q w.heap.size (.int .i64 0) (.int .i64 0) (.string ⟨#[]⟩) (.int .i64 0) (.int .i64 0) (.int .i64 0)) := by rw [hQ]; exact GBox.new w _ _ _ _ _ _
  have HBQ : Hid (Below w.heap.size w Q) := by rw [hQ]; exact (Below.refl _ _).alloc (Nat.le_refl _) _
  have hQs : Q.heap.size = w.heap.size + 1 := by rw [hQ]; simp
  have HQS := hide hQs
  clear hQ hQs
  have hlti : (i : Int) < (s.size : Int) := by omega
  have hix := fun W => run_idx hi W
  have HD := hide (fun W => l1Digit_any (bt s i) W)
  have HL := hide (fun W => l1Letter_any (bt s i) W)
  have HSI : Hid (∀ W, Calls Tryz.prog 88 #[.string s, .int .i64 (i : Nat), .string ⟨#[194, 175]⟩] W fun e w' => e = .returned (.bool (high s i)) ∧ w' = W) := fun W => by
    rw [← starts_high]
    exact l1Starts_any s ⟨#[194, 175]⟩ i (by omega) (by omega) (by decide) W
  have HTA : Hid (tokAt s i = if isD (bt s i) = true ∨ high s i = true then numTok s i else if bt s i = 39 then textTok s (s.size - i) (i + 1) [] else if isL (bt s i) = true then nameTok s i else signTok s i) := rfl
  have HY0 : Hid (bt s i < 256) := bt_lt s i
  obtain ⟨y, hy⟩ : ∃ y, bt s i = y := ⟨_, rfl⟩
  have HY := hide hy
  rw [hy] at hix HD HL HTA HY0 HNS
  have hy256 := unhide HY0
  clear hy HY0
  go_enter Tryz.func89, Tryz.ntmps89
  cases hd : isD y with
  | true =>
    rw [hd] at HD
    obtain ⟨g, hg⟩ : ∃ g, numTok s i = g := ⟨_, rfl⟩
    have HC := hide (l1Number_any s i Q hi (by omega))
    rw [hg] at HC
    have HE : Hid (tokAt s i = g) := by show _ = _; rw [← hg]; rw [unhide HTA, if_pos (.inl hd)]
    clear hg
    obtain ⟨gk, gn, gt, ge, gc⟩ := g
    have HC2 : Hid (Calls Tryz.prog 137 #[.string s, .int .i64 (i : Nat)] Q fun e' w' => e' = .returned (.agg #[.int .i64 gk, .int .i64 gn, .string gt, .int .i64 0, .int .i64 (ge : Nat), .int .i64 gc]) ∧ Below Q.heap.size Q w') := unhide HC
    clear HC
    go_wp2_with (first | (go_at_call 116; refine (unhide HD _).mono ?_; rintro e' w1 ⟨rfl, hw⟩; obtain rfl := hw.symm) | (go_at_call 137; rw [← unhide HQ]; refine (unhide HC2).mono ?_; rintro e' w5 ⟨rfl, hb5⟩; obtain ⟨q0, q1, q2, q3, q4, q5, qf⟩ := ((unhide HBX).below (Nat.le_refl _) hb5).all; have f0 := qf 0; have f1 := qf 1; have f2 := qf 2; have f3 := qf 3; have f4 := qf 4; have f5 := qf 5; clear qf; have HB5 := hide ((unhide HBQ).trans (hb5.mono (unhide HBQ).size)); clear hb5))
    refine bodyPost_ret (v := gotV ⟨gk, gn, gt, ge, gc⟩) (by simp [results, Tryz.results89, go_sem, q0, q1, q2, q3, q4, q5, gotV]) rfl ?_
    exact ⟨by rw [unhide HE], (((((((unhide HB5)).setCell (Nat.le_refl _) _).setCell (Nat.le_refl _) _).setCell (Nat.le_refl _) _).setCell (Nat.le_refl _) _).setCell (Nat.le_refl _) _).setCell (Nat.le_refl _) _⟩
  | false =>
    rw [hd] at HD
    cases hh : high s i with
    | true =>
      rw [hh] at HSI
      obtain ⟨g, hg⟩ : ∃ g, numTok s i = g := ⟨_, rfl⟩
      have HC := hide (l1Number_any s i Q hi (by omega))
      rw [hg] at HC
      have HE : Hid (tokAt s i = g) := by show _ = _; rw [← hg]; rw [unhide HTA, if_pos (.inr hh)]
      clear hg
      obtain ⟨gk, gn, gt, ge, gc⟩ := g
      have HC2 : Hid (Calls Tryz.prog 137 #[.string s, .int .i64 (i : Nat)] Q fun e' w' => e' = .returned (.agg #[.int .i64 gk, .int .i64 gn, .string gt, .int .i64 0, .int .i64 (ge : Nat), .int .i64 gc]) ∧ Below Q.heap.size Q w') := unhide HC
      clear HC
      go_wp2_with (first | (go_at_call 116; refine (unhide HD _).mono ?_; rintro e' w1 ⟨rfl, hw⟩; obtain rfl := hw.symm) | (go_at_call 121; refine (l1High_any _).mono ?_; rintro e' w1 ⟨rfl, hw⟩; obtain rfl := hw.symm) | (go_at_call 88; refine (unhide HSI _).mono ?_; rintro e' w1 ⟨rfl, hw⟩; obtain rfl := hw.symm) | (go_at_call 137; rw [← unhide HQ]; refine (unhide HC2).mono ?_; rintro e' w5 ⟨rfl, hb5⟩; obtain ⟨q0, q1, q2, q3, q4, q5, qf⟩ := ((unhide HBX).below (Nat.le_refl _) hb5).all; have f0 := qf 0; have f1 := qf 1; have f2 := qf 2; have f3 := qf 3; have f4 := qf 4; have f5 := qf 5; clear qf; have HB5 := hide ((unhide HBQ).trans (hb5.mono (unhide HBQ).size)); clear hb5))
      refine bodyPost_ret (v := gotV ⟨gk, gn, gt, ge, gc⟩) (by simp [results, Tryz.results89, go_sem, q0, q1, q2, q3, q4, q5, gotV]) rfl ?_
      exact ⟨by rw [unhide HE], (((((((unhide HB5)).setCell (Nat.le_refl _) _).setCell (Nat.le_refl _) _).setCell (Nat.le_refl _) _).setCell (Nat.le_refl _) _).setCell (Nat.le_refl _) _).setCell (Nat.le_refl _) _⟩
    | false =>
      rw [hh] at HSI
      have HT2 : Hid (tokAt s i = if y = 39 then textTok s (s.size - i) (i + 1) [] else if isL y = true then nameTok s i else signTok s i) := by
        show _ = _
        rw [unhide HTA, if_neg (by rw [hd, hh]; rintro (h | h) <;> cases h)]
      have HDF := hide hd
      have HHF := hide hh
      clear HTA hd hh
      by_cases h39 : y = 39
      case pos =>
        subst h39
        obtain ⟨g, hg⟩ : ∃ g, textTok s (s.size - i) (i + 1) [] = g := ⟨_, rfl⟩
        have HC := hide (l1Text_any s i Q hi (by omega))
        rw [hg] at HC
        have HE : Hid (tokAt s i = g) := by show _ = _; rw [← hg]; rw [unhide HT2, if_pos rfl]
        clear hg
        obtain ⟨gk, gn, gt, ge, gc⟩ := g
        have HC2 : Hid (Calls Tryz.prog 138 #[.string s, .int .i64 (i : Nat)] Q fun e' w' => e' = .returned (.agg #[.int .i64 gk, .int .i64 gn, .string gt, .int .i64 0, .int .i64 (ge : Nat), .int .i64 gc]) ∧ Below Q.heap.size Q w') := unhide HC
        clear HC
        go_wp2_with (first | (go_at_call 116; refine (unhide HD _).mono ?_; rintro e' w1 ⟨rfl, hw⟩; obtain rfl := hw.symm) | (go_at_call 121; refine (l1High_any _).mono ?_; rintro e' w1 ⟨rfl, hw⟩; obtain rfl := hw.symm) | (go_at_call 88; refine (unhide HSI _).mono ?_; rintro e' w1 ⟨rfl, hw⟩; obtain rfl := hw.symm) | (go_at_call 138; rw [← unhide HQ]; refine (unhide HC2).mono ?_; rintro e' w5 ⟨rfl, hb5⟩; obtain ⟨q0, q1, q2, q3, q4, q5, qf⟩ := ((unhide HBX).below (Nat.le_refl _) hb5).all; have f0 := qf 0; have f1 := qf 1; have f2 := qf 2; have f3 := qf 3; have f4 := qf 4; have f5 := qf 5; clear qf; have HB5 := hide ((unhide HBQ).trans (hb5.mono (unhide HBQ).size)); clear hb5))
        refine bodyPost_ret (v := gotV ⟨gk, gn, gt, ge, gc⟩) (by simp [results, Tryz.results89, go_sem, q0, q1, q2, q3, q4, q5, gotV]) rfl ?_
        exact ⟨by rw [unhide HE], (((((((unhide HB5)).setCell (Nat.le_refl _) _).setCell (Nat.le_refl _) _).setCell (Nat.le_refl _) _).setCell (Nat.le_refl _) _).setCell (Nat.le_refl _) _).setCell (Nat.le_refl _) _⟩
      case neg =>
        have h39i : ¬ (y : Int) = 39 := by omega
        cases hl : isL y with
        | true =>
          rw [hl] at HL
          have HT3 : Hid (tokAt s i = nameTok s i) := by show _ = _; rw [unhide HT2, if_neg h39, if_pos hl]
          clear HT2 h39 hl
          obtain ⟨q0, q1, q2, q3, q4, q5, qf⟩ := (unhide HBX).all
          have f0 := qf 0
          have f1 := qf 1
          have f2 := qf 2
          have f3 := qf 3
          have f4 := qf 4
          have f5 := qf 5
          clear qf
          go_wp2_with (first | (go_at_call 116; refine (unhide HD _).mono ?_; rintro e' w1 ⟨rfl, hw⟩; obtain rfl := hw.symm) | (go_at_call 121; refine (l1High_any _).mono ?_; rintro e' w1 ⟨rfl, hw⟩; obtain rfl := hw.symm) | (go_at_call 88; refine (unhide HSI _).mono ?_; rintro e' w1 ⟨rfl, hw⟩; obtain rfl := hw.symm) | (go_at_call 115; refine (unhide HL _).mono ?_; rintro e' w1 ⟨rfl, hw⟩; obtain rfl := hw.symm))
          rw [← unhide HQ]
          clear HD HL HSI hix
          go_loopw [5] (fun a wr => ∃ k : Nat, a = .int .i64 ((i + k : Nat) : Int) ∧ i + k ≤ s.size ∧ Hid (∀ j, j < k → i + j < s.size ∧ isLD (bt s (i + j)) = true) ∧ Q = wr) (fun a _ => s.size - (intOf a).toNat)
          case atStart => exact ⟨0, rfl, by omega, fun j hj => absurd hj (Nat.not_lt_zero _), rfl⟩
          case round =>
            obtain ⟨k, rfl, hk, HK, rfl⟩ := hrel
            obtain ⟨q, hq⟩ : ∃ q, i + k = q := ⟨_, rfl⟩
            rw [hq] at hk
            rw [hq]
            have HQE := hide hq
            have hiq : i ≤ q := by omega
            clear hq
            by_cases hmore : q < s.size ∧ isLD (bt s q) = true
            case pos =>
              have hlt := hmore.1
              have hqi : (q : Int) < (s.size : Int) := by omega
              have hix := fun W => run_idx hlt W
              have HD := hide (fun W => l1Digit_any (bt s q) W)
              have HL := hide (fun W => l1Letter_any (bt s q) W)
              have HK2 : Hid (∀ j, j < k + 1 → i + j < s.size ∧ isLD (bt s (i + j)) = true) := fun j hj => by
                by_cases e : j = k
                · subst e; rw [unhide HQE]; exact hmore
                · exact unhide HK j (by omega)
              have hor : isL (bt s q) = true ∨ (isL (bt s q) = false ∧ isD (bt s q) = true) := by
                have := hmore.2
                unfold isLD at this
                cases h : isL (bt s q) with
                | true => exact .inl rfl
                | false => rw [h] at this; exact .inr ⟨rfl, by simpa using this⟩
              obtain ⟨z, hz⟩ : ∃ z, bt s q = z := ⟨_, rfl⟩
              rw [hz] at hix HD HL hor
              clear hz hmore
              rcases hor with hL | ⟨hL, hD⟩
              · rw [hL] at HL
                go_wp2_with (first | (go_at_call 115; refine (unhide HL _).mono ?_; rintro e' w1 ⟨rfl, hw⟩; obtain rfl := hw.symm) | (go_at_call 116; refine (unhide HD _).mono ?_; rintro e' w1 ⟨rfl, hw⟩; obtain rfl := hw.symm))
                go_roundw
                case rel => exact ⟨k + 1, by have := unhide HQE; go_num, by have := unhide HQE; omega, HK2, by first | trivial | rfl⟩
                case measure => simp [intOf]; omega
              · rw [hL] at HL
                rw [hD] at HD
                go_wp2_with (first | (go_at_call 115; refine (unhide HL _).mono ?_; rintro e' w1 ⟨rfl, hw⟩; obtain rfl := hw.symm) | (go_at_call 116; refine (unhide HD _).mono ?_; rintro e' w1 ⟨rfl, hw⟩; obtain rfl := hw.symm))
                go_roundw
                case rel => exact ⟨k + 1, by have := unhide HQE; go_num, by have := unhide HQE; omega, HK2, by first | trivial | rfl⟩
                case measure => simp [intOf]; omega
            case neg =>
              have HEND : Hid (endOf isLD s i = q) := by show _ = _; rw [endOf_is k i (unhide HK) (by rw [unhide HQE]; exact hmore)]; exact unhide HQE
              have hsl := fun W => run_sub (s := s) (p := i) (q := q) hiq hk W
              have HBAD : Hid (20 < q - i → tokAt s i = bad 1) := fun h => by rw [unhide HT3, nameTok, unhide HEND, if_pos h]
              have HTOK : Hid (¬ 20 < q - i → tokAt s i = ⟨3, 0, s.extract i q, q, 0⟩) := fun h => by rw [unhide HT3, nameTok, unhide HEND, if_neg h]
              obtain ⟨x, hx⟩ : ∃ x, s.extract i q = x := ⟨_, rfl⟩
              rw [hx] at hsl HTOK
              have hsub : IntKind.i64.wrap ((q : Int) - (i : Int)) = (q : Int) - (i : Int) := by rw [IntKind.wrap_i64]; omega
              clear hx HEND HT3
              have hcs : (¬ q < s.size) ∨ (q < s.size ∧ isL (bt s q) = false ∧ isD (bt s q) = false) := by
                by_cases h : q < s.size
                · right
                  refine ⟨h, ?_⟩
                  have h2 : isLD (bt s q) = false := by cases h3 : isLD (bt s q) with | false => rfl | true => exact absurd ⟨h, h3⟩ hmore
                  unfold isLD at h2
                  simpa using h2
                · exact .inl h
              clear hmore
              rcases hcs with hqs | ⟨hlt, hL, hD⟩
              · have hqi : ¬ (q : Int) < (s.size : Int) := by omega
                by_cases h20 : 20 < q - i
                case pos =>
                  have h20i : (20 : Int) < (q : Int) - (i : Int) := by omega
                  have HE := hide (unhide HBAD h20)
                  go_wp2_with fail
                  refine bodyPost_ret (v := gotV (bad 1)) (by simp [results, Tryz.results89, go_sem, q0, q1, q2, q3, q4, q5, gotV, bad]) rfl ?_
                  exact ⟨by rw [unhide HE], (((((((unhide HBQ)).setCell (Nat.le_refl _) _).setCell (Nat.le_refl _) _).setCell (Nat.le_refl _) _).setCell (Nat.le_refl _) _).setCell (Nat.le_refl _) _).setCell (Nat.le_refl _) _⟩
                case neg =>
                  have h20i : ¬ (20 : Int) < (q : Int) - (i : Int) := by omega
                  have HE := hide (unhide HTOK h20)
                  go_wp2_with fail
                  refine bodyPost_ret (v := gotV ⟨3, 0, x, q, 0⟩) (by simp [results, Tryz.results89, go_sem, q0, q1, q2, q3, q4, q5, gotV]) rfl ?_
                  exact ⟨by rw [unhide HE], (((((((unhide HBQ)).setCell (Nat.le_refl _) _).setCell (Nat.le_refl _) _).setCell (Nat.le_refl _) _).setCell (Nat.le_refl _) _).setCell (Nat.le_refl _) _).setCell (Nat.le_refl _) _⟩
              · have hqi : (q : Int) < (s.size : Int) := by omega
                have hix := fun W => run_idx hlt W
                have HD := hide (fun W => l1Digit_any (bt s q) W)
                have HL := hide (fun W => l1Letter_any (bt s q) W)
                rw [hL] at HL
                rw [hD] at HD
                obtain ⟨z, hz⟩ : ∃ z, bt s q = z := ⟨_, rfl⟩
                rw [hz] at hix HD HL
                clear hz hL hD
                by_cases h20 : 20 < q - i
                case pos =>
                  have h20i : (20 : Int) < (q : Int) - (i : Int) := by omega
                  have HE := hide (unhide HBAD h20)
                  go_wp2_with (first | (go_at_call 115; refine (unhide HL _).mono ?_; rintro e' w1 ⟨rfl, hw⟩; obtain rfl := hw.symm) | (go_at_call 116; refine (unhide HD _).mono ?_; rintro e' w1 ⟨rfl, hw⟩; obtain rfl := hw.symm))
                  refine bodyPost_ret (v := gotV (bad 1)) (by simp [results, Tryz.results89, go_sem, q0, q1, q2, q3, q4, q5, gotV, bad]) rfl ?_
                  exact ⟨by rw [unhide HE], (((((((unhide HBQ)).setCell (Nat.le_refl _) _).setCell (Nat.le_refl _) _).setCell (Nat.le_refl _) _).setCell (Nat.le_refl _) _).setCell (Nat.le_refl _) _).setCell (Nat.le_refl _) _⟩
                case neg =>
                  have h20i : ¬ (20 : Int) < (q : Int) - (i : Int) := by omega
                  have HE := hide (unhide HTOK h20)
                  go_wp2_with (first | (go_at_call 115; refine (unhide HL _).mono ?_; rintro e' w1 ⟨rfl, hw⟩; obtain rfl := hw.symm) | (go_at_call 116; refine (unhide HD _).mono ?_; rintro e' w1 ⟨rfl, hw⟩; obtain rfl := hw.symm))
                  refine bodyPost_ret (v := gotV ⟨3, 0, x, q, 0⟩) (by simp [results, Tryz.results89, go_sem, q0, q1, q2, q3, q4, q5, gotV]) rfl ?_
                  exact ⟨by rw [unhide HE], (((((((unhide HBQ)).setCell (Nat.le_refl _) _).setCell (Nat.le_refl _) _).setCell (Nat.le_refl _) _).setCell (Nat.le_refl _) _).setCell (Nat.le_refl _) _).setCell (Nat.le_refl _) _⟩
        | false => exact absurd ⟨unhide HDF, unhide HHF, h39, hl⟩ (unhide HNS)

end Go.Proofs.YtinndpnilmmmjaaGreatDoor
