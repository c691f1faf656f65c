import Derived.Test.YtcjhbeljhmocbaaDoorRoundLaw
import Derived.Test.YtcjhbeljhmocbaaDoorInts
import Derived.WalkKit
namespace Go.Proofs.YtcjhbeljhmocbaaDoor
open Go.RowKit

section
variable {o : Oper} {a : Act}
theorem rLW (x : Operand) (p : Addr) {s : Option Addr} {l c : Nat} (ho : o.op = .load 22 x) (hx : a.eval x = .pointer (some p)) (w : World) (hc : w.cell? p = some (.slice s l c)) : (execOp a.eval o).run Tryd.prog w = .ok (.value (.slice s l c)) w := by
  unfold execOp
  simp only [ho, hx]
  go_simp

theorem rIW (x : Operand) (p : Addr) {z : Int} (ho : o.op = .load 3 x) (hx : a.eval x = .pointer (some p)) (w : World) (hc : w.cell? p = some (.int .i64 z)) : (execOp a.eval o).run Tryd.prog w = .ok (.value (.int .i64 z)) w := by
  unfold execOp
  simp only [ho, hx]
  go_simp

theorem rMW (x : Operand) {v : Value} (ho : o.op = .move x) (hx : a.eval x = v) (w : World) : (execOp a.eval o).run Tryd.prog w = .ok (.value v) w := by
  unfold execOp
  simp only [ho, hx]
  go_simp

theorem rXW (x y : Operand) {b off m c J : Nat} (ho : o.op = .indexAddr 22 x y) (hx : a.eval x = .slice (some ⟨b, off, none⟩) m c) (hy : a.eval y = .int .i64 (J : Nat)) (hJ : J < m) (w : World) : (execOp a.eval o).run Tryd.prog w = .ok (.value (.pointer (some ⟨b, off + J, none⟩))) w := by
  have h1 : (J : Int) < (m : Int) := by omega
  unfold execOp
  simp only [ho, hx, hy]
  go_simp

theorem rMaxW (t s : Nat) {u v r : Int} (ho : o.op = .call { callee := .builtin .max, args := #[.tmp t, .tmp s], argTypes := #[3, 3] }) (hx : a.eval (.tmp t) = .int .i64 u) (hy : a.eval (.tmp s) = .int .i64 v) (hr : (if u < v then v else u) = r) (w : World) : (execOp a.eval o).run Tryd.prog w = .ok (.value (.int .i64 r)) w := by
  have hx' : a.tmps[t]?.getD undef = .int .i64 u := by simpa [Act.eval] using hx
  have hy' : a.tmps[s]?.getD undef = .int .i64 v := by simpa [Act.eval] using hy
  unfold execOp
  simp only [ho]
  go_simp

theorem rSW (x y : Operand) (p : Addr) {v1 : Value} {z : Int} (ho : o.op = .store 3 x y) (hx : a.eval x = .pointer (some p)) (hy : a.eval y = .int .i64 z) (w : World) (hc : w.cell? p = some v1) (hf : w.frozen? p = false) : (execOp a.eval o).run Tryd.prog w = .ok .skip (w.setCell p (.int .i64 z)) := by
  unfold execOp
  simp only [ho, hx, hy]
  go_simp
end

/-- The statement that widens a column. -/
def opsW : Array Oper :=
  #[
    { dst := some 16, op := Op.load 22 (Operand.tmp 3), type := 22, pos := "l3_array.go:140", after := #[], guard := none }, 
    { dst := some 17, op := Op.move (Operand.tmp 4), type := 3, pos := "l3_array.go:140", after := #[], guard := none }, 
    { dst := some 18, op := Op.load 22 (Operand.tmp 3), type := 22, pos := "l3_array.go:140", after := #[], guard := none }, 
    { dst := some 19, op := Op.move (Operand.tmp 4), type := 3, pos := "l3_array.go:140", after := #[], guard := none }, 
    { dst := some 20, op := Op.indexAddr 22 (Operand.tmp 18) (Operand.tmp 19), type := 0, pos := "l3_array.go:140", after := #[{ on := 2, ground := Ground.data }, { on := 3, ground := Ground.data }], guard := none }, 
    { dst := some 21, op := Op.load 3 (Operand.tmp 20), type := 3, pos := "l3_array.go:140", after := #[{ on := 4, ground := Ground.data }], guard := none }, 
    { dst := some 22, op := Op.move (Operand.tmp 5), type := 3, pos := "l3_array.go:140", after := #[], guard := none }, 
    { dst := some 23, op := Op.call { callee := Callee.builtin Builtin.max, args := #[Operand.tmp 21, Operand.tmp 22], argTypes := #[3, 3] }, type := 3, pos := "l3_array.go:140", after := #[{ on := 5, ground := Ground.data }, { on := 6, ground := Ground.data }], guard := none }, 
    { dst := some 24, op := Op.indexAddr 22 (Operand.tmp 16) (Operand.tmp 17), type := 0, pos := "l3_array.go:140", after := #[{ on := 0, ground := Ground.data }, { on := 1, ground := Ground.data }, { on := 0, ground := Ground.phase }, { on := 1, ground := Ground.phase }, { on := 2, ground := Ground.phase }, { on := 3, ground := Ground.phase }, { on := 4, ground := Ground.phase }, { on := 5, ground := Ground.phase }, { on := 6, ground := Ground.phase }, { on := 7, ground := Ground.phase }], guard := none }, 
    { dst := none, op := Op.store 3 (Operand.tmp 24) (Operand.tmp 23), type := 0, pos := "l3_array.go:140", after := #[{ on := 8, ground := Ground.data }, { on := 7, ground := Ground.data }, { on := 0, ground := Ground.phase }, { on := 1, ground := Ground.phase }, { on := 2, ground := Ground.phase }, { on := 3, ground := Ground.phase }, { on := 4, ground := Ground.phase }, { on := 5, ground := Ground.phase }, { on := 6, ground := Ground.phase }, { on := 7, ground := Ground.phase }], guard := none }]

def outW (a : Act) (g j n : Nat) (x y mx : Int) : Act :=
  (((((((((a.put (some 16) (.slice (some ⟨g, 0, none⟩) n n)).put (some 17) (.int .i64 (j : Nat))).put (some 18) (.slice (some ⟨g, 0, none⟩) n n)).put (some 19) (.int .i64 (j : Nat))).put (some 20) (.pointer (some ⟨g, 0 + j, none⟩))).put (some 21) (.int .i64 x)).put (some 22) (.int .i64 y)).put (some 23) (.int .i64 mx)).put (some 24) (.pointer (some ⟨g, 0 + j, none⟩))).put none undef

set_option maxHeartbeats 4000000 in
set_option maxRecDepth 20000 in
theorem regionW {Q : Exit → Act → World → Prop} {l m : Nat} (a : Act) (W : World) (hsz : 26 ≤ a.tmps.size) (p g j n : Nat) (x y mx : Int) (h3 : a.eval (.tmp 3) = .pointer (some ⟨p, 0, none⟩)) (h4 : a.eval (.tmp 4) = .int .i64 (j : Nat)) (h5 : a.eval (.tmp 5) = .int .i64 y) (hj : j < n)
    (hmx : (if x < y then y else x) = mx)
    (c1 : W.cell? ⟨g, j, none⟩ = some (.int .i64 x)) (c2 : W.frozen? ⟨g, j, none⟩ = false) (c3 : W.cell? ⟨p, 0, none⟩ = some (.slice (some ⟨g, 0, none⟩) n n))
    (hQ : ∀ c a (d : Nat) v w, Q (.panic c) (a.put (some d) v) w → Q (.panic c) a w) (hno : ¬ LetsOut Q)
    (hend : Q .normal (outW a g j n x y mx) (W.drew.setCell ⟨g, 0 + j, none⟩ (.int .i64 mx))) :
    (Code.region 7 opsW true).wpIn (Fence.wide.inRound l) m Tryd.prog Q a W := by
  refine wpIn_region_L (fun wx => wx.cell? ⟨g, j, none⟩ = some (.int .i64 x) ∧ wx.frozen? ⟨g, j, none⟩ = false ∧ wx.cell? ⟨p, 0, none⟩ = some (.slice (some ⟨g, 0, none⟩) n n)) 9 (by kernel_rfl) (by kernel_rfl) hno ?_
  have hS0 : (W.drew.cell? ⟨g, j, none⟩ = some (.int .i64 x) ∧ W.drew.frozen? ⟨g, j, none⟩ = false ∧ W.drew.cell? ⟨p, 0, none⟩ = some (.slice (some ⟨g, 0, none⟩) n n)) := ⟨c1, c2, c3⟩
  show wpAnyL _ _ _ _ _ _ (9 + 1) _ _ _
  refine wpAnyL_put 0 16 (.slice (some ⟨g, 0, none⟩) n n) rfl rfl (by kernel_rfl) (by kernel_rfl) (by kernel_rfl) (by kernel_rfl) hQ rfl (fun w hw => rLW (.tmp 3) _ rfl h3 w hw.2.2) hS0 ?_
  refine wpAnyL_put 1 17 (.int .i64 (j : Nat)) rfl rfl (by kernel_rfl) (by kernel_rfl) (by kernel_rfl) (by kernel_rfl) hQ rfl (fun w hw => rMW (.tmp 4) rfl (by rw [eval_ne (by decide)]; exact h4) w) hS0 ?_
  refine wpAnyL_put 2 18 (.slice (some ⟨g, 0, none⟩) n n) rfl rfl (by kernel_rfl) (by kernel_rfl) (by kernel_rfl) (by kernel_rfl) hQ rfl (fun w hw => rLW (.tmp 3) _ rfl (by rw [eval_ne (by decide), eval_ne (by decide)]; exact h3) w hw.2.2) hS0 ?_
  refine wpAnyL_put 3 19 (.int .i64 (j : Nat)) rfl rfl (by kernel_rfl) (by kernel_rfl) (by kernel_rfl) (by kernel_rfl) hQ rfl (fun w hw => rMW (.tmp 4) rfl (by rw [eval_ne (by decide), eval_ne (by decide), eval_ne (by decide)]; exact h4) w) hS0 ?_
  refine wpAnyL_put 4 20 (.pointer (some ⟨g, 0 + j, none⟩)) rfl rfl (by kernel_rfl) (by kernel_rfl) (by kernel_rfl) (by kernel_rfl) hQ rfl (fun w hw => rXW (.tmp 18) (.tmp 19) rfl (by rw [eval_ne (by decide)]; exact eval_eq (by rw [put_size, put_size]; omega)) (eval_eq (by rw [put_size, put_size, put_size]; omega)) hj w) hS0 ?_
  refine wpAnyL_put 5 21 (.int .i64 x) rfl rfl (by kernel_rfl) (by kernel_rfl) (by kernel_rfl) (by kernel_rfl) hQ rfl (fun w hw => rIW (.tmp 20) _ rfl (eval_eq (by rw [put_size, put_size, put_size, put_size]; omega)) w (by rw [Nat.zero_add]; exact hw.1)) hS0 ?_
  refine wpAnyL_put 6 22 (.int .i64 y) rfl rfl (by kernel_rfl) (by kernel_rfl) (by kernel_rfl) (by kernel_rfl) hQ rfl (fun w hw => rMW (.tmp 5) rfl (by rw [eval_ne (by decide), eval_ne (by decide), eval_ne (by decide), eval_ne (by decide), eval_ne (by decide), eval_ne (by decide)]; exact h5) w) hS0 ?_
  refine wpAnyL_put 7 23 (.int .i64 mx) rfl rfl (by kernel_rfl) (by kernel_rfl) (by kernel_rfl) (by kernel_rfl) hQ rfl (fun w hw => rMaxW 21 22 rfl (by rw [eval_ne (by decide)]; exact eval_eq (by rw [put_size, put_size, put_size, put_size, put_size]; omega)) (eval_eq (by rw [put_size, put_size, put_size, put_size, put_size, put_size]; omega)) hmx w) hS0 ?_
  refine wpAnyL_put 8 24 (.pointer (some ⟨g, 0 + j, none⟩)) rfl rfl (by kernel_rfl) (by kernel_rfl) (by kernel_rfl) (by kernel_rfl) hQ rfl (fun w hw => rXW (.tmp 16) (.tmp 17) rfl (by rw [eval_ne (by decide), eval_ne (by decide), eval_ne (by decide), eval_ne (by decide), eval_ne (by decide), eval_ne (by decide), eval_ne (by decide)]; exact eval_eq (by omega)) (by rw [eval_ne (by decide), eval_ne (by decide), eval_ne (by decide), eval_ne (by decide), eval_ne (by decide), eval_ne (by decide)]; exact eval_eq (by rw [put_size]; omega)) hj w) hS0 ?_
  refine wpAnyL_one (i := 9) (by kernel_rfl) ?_
  refine op_wp rfl rfl ?_
  unfold Oper.wp
  rw [rSW (.tmp 24) (.tmp 23) ⟨g, 0 + j, none⟩ rfl (eval_eq (by rw [put_size, put_size, put_size, put_size, put_size, put_size, put_size, put_size]; omega)) (by rw [eval_ne (by decide)]; exact eval_eq (by rw [put_size, put_size, put_size, put_size, put_size, put_size, put_size]; omega)) W.drew (by rw [Nat.zero_add]; exact hS0.1) (by rw [Nat.zero_add]; exact hS0.2.1)]
  refine ⟨fun h => absurd rfl h, ?_⟩
  refine wpAnyL_done (by kernel_rfl) ?_ _
  exact hend

end Go.Proofs.YtcjhbeljhmocbaaDoor
