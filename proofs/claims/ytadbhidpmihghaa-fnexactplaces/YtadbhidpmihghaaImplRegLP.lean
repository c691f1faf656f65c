import Derived.Test.YtadbhidpmihghaaRoundLaw
import Derived.Test.YtadbhidpmihghaaInts
import Derived.WalkKit
namespace Go.Proofs.Ytadbhidpmihghaa
open Go.RowKit

section
variable {o : Oper} {a : Act}
theorem rL (x : Operand) (p : Addr) {s : Option Addr} {l c : Nat} (ho : o.op = .load 22 x) (hx : a.eval x = .pointer (some p)) (w : World) (hc : w.cell? p = some (.slice s l c)) : (execOp a.eval o).run Try.prog w = .ok (.value (.slice s l c)) w := by
  unfold execOp
  simp only [ho, hx]
  go_simp

theorem rI (x : Operand) (p : Addr) {z : Int} (ho : o.op = .load 3 x) (hx : a.eval x = .pointer (some p)) (w : World) (hc : w.cell? p = some (.int .i64 z)) : (execOp a.eval o).run Try.prog w = .ok (.value (.int .i64 z)) w := by
  unfold execOp
  simp only [ho, hx]
  go_simp

theorem rM (x : Operand) {v : Value} (ho : o.op = .move x) (hx : a.eval x = v) (w : World) : (execOp a.eval o).run Try.prog w = .ok (.value v) w := by
  unfold execOp
  simp only [ho, hx]
  go_simp

theorem rF (x : Operand) {b : Nat} (ho : o.op = .fieldAddr 47 x 3) (hx : a.eval x = .pointer (some ⟨b, 0, none⟩)) (w : World) : (execOp a.eval o).run Try.prog w = .ok (.value (.pointer (some ⟨b, 7, none⟩))) w := by
  unfold execOp
  simp only [ho, hx]
  go_simp

theorem rX (x y : Operand) {b off m c J : Nat} (ho : o.op = .indexAddr 22 x y) (hx : a.eval x = .slice (some ⟨b, off, none⟩) m c) (hy : a.eval y = .int .i64 (J : Nat)) (hJ : J < m) (w : World) : (execOp a.eval o).run Try.prog w = .ok (.value (.pointer (some ⟨b, off + J, none⟩))) w := by
  have h1 : (J : Int) < (m : Int) := by omega
  unfold execOp
  simp only [ho, hx, hy]
  go_simp

theorem rA (x y : Operand) {b off J : Nat} (ho : o.op = .indexAddr 45 x y) (hx : a.eval x = .pointer (some ⟨b, off, none⟩)) (hy : a.eval y = .int .i64 (J : Nat)) (hJ : J < 5) (w : World) : (execOp a.eval o).run Try.prog w = .ok (.value (.pointer (some ⟨b, off + J, none⟩))) w := by
  have h1 : (J : Int) < 5 := by omega
  have h0 : (0 : Int) ≤ J := by omega
  unfold execOp
  simp only [ho, hx, hy]
  go_simp

theorem rMul (x y : Operand) {u v r : Int} (ho : o.op = .binOp .mul 3 x y 3) (hx : a.eval x = .int .i64 u) (hy : a.eval y = .int .i64 v) (hr : IntKind.i64.wrap (u * v) = r) (w : World) : (execOp a.eval o).run Try.prog w = .ok (.value (.int .i64 r)) w := by
  unfold execOp
  simp only [ho, hx, hy]
  go_simp

theorem rAdd (x y : Operand) {u v r : Int} (ho : o.op = .binOp .add 3 x y 3) (hx : a.eval x = .int .i64 u) (hy : a.eval y = .int .i64 v) (hr : IntKind.i64.wrap (u + v) = r) (w : World) : (execOp a.eval o).run Try.prog w = .ok (.value (.int .i64 r)) w := by
  unfold execOp
  simp only [ho, hx, hy]
  go_simp

theorem rS (x y : Operand) (p : Addr) {v1 : Value} {z : Int} (ho : o.op = .store 3 x y) (hx : a.eval x = .pointer (some p)) (hy : a.eval y = .int .i64 z) (w : World) (hc : w.cell? p = some v1) (hf : w.frozen? p = false) : (execOp a.eval o).run Try.prog w = .ok .skip (w.setCell p (.int .i64 z)) := by
  unfold execOp
  simp only [ho, hx, hy]
  go_simp
end

/-- The statement that adds one axis' way to a place. -/
def opsLP : Array Oper :=
  #[
    { dst := some 30, op := Op.load 22 (Operand.tmp 3), type := 22, pos := "l7_view.go:178", after := #[], guard := none }, 
    { dst := some 31, op := Op.move (Operand.tmp 4), type := 3, pos := "l7_view.go:178", after := #[], guard := none }, 
    { dst := some 32, op := Op.indexAddr 22 (Operand.tmp 30) (Operand.tmp 31), type := 0, pos := "l7_view.go:178", after := #[{ on := 0, ground := Ground.data }, { on := 1, ground := Ground.data }], guard := none }, 
    { dst := some 33, op := Op.load 3 (Operand.tmp 32), type := 3, pos := "l7_view.go:178", after := #[{ on := 2, ground := Ground.data }], guard := none }, 
    { dst := some 34, op := Op.move (Operand.tmp 7), type := 3, pos := "l7_view.go:178", after := #[], guard := none }, 
    { dst := some 35, op := Op.move (Operand.tmp 6), type := 3, pos := "l7_view.go:178", after := #[], guard := none }, 
    { dst := some 36, op := Op.fieldAddr 47 (Operand.tmp 1) 3, type := 0, pos := "l7_view.go:178", after := #[], guard := none }, 
    { dst := some 37, op := Op.indexAddr 45 (Operand.tmp 36) (Operand.tmp 35), type := 0, pos := "l7_view.go:178", after := #[{ on := 6, ground := Ground.data }, { on := 5, ground := Ground.data }], guard := none }, 
    { dst := some 38, op := Op.load 3 (Operand.tmp 37), type := 3, pos := "l7_view.go:178", after := #[{ on := 7, ground := Ground.data }], guard := none }, 
    { dst := some 39, op := Op.binOp BinOp.mul 3 (Operand.tmp 34) (Operand.tmp 38) 3, type := 3, pos := "l7_view.go:178", after := #[{ on := 4, ground := Ground.data }, { on := 8, ground := Ground.data }], guard := none }, 
    { dst := some 40, op := Op.binOp BinOp.add 3 (Operand.tmp 33) (Operand.tmp 39) 3, type := 3, pos := "l7_view.go:178", after := #[{ on := 3, ground := Ground.data }, { on := 9, ground := Ground.data }], guard := none }, 
    { dst := some 41, op := Op.indexAddr 22 (Operand.tmp 30) (Operand.tmp 31), type := 0, pos := "l7_view.go:178", after := #[{ on := 0, ground := Ground.data }, { on := 1, ground := Ground.data }, { on := 0, ground := Ground.phase }, { on := 1, ground := Ground.phase }, { on := 2, ground := Ground.phase }, { on := 3, ground := Ground.phase }, { on := 4, ground := Ground.phase }, { on := 5, ground := Ground.phase }, { on := 6, ground := Ground.phase }, { on := 7, ground := Ground.phase }, { on := 8, ground := Ground.phase }, { on := 9, ground := Ground.phase }, { on := 10, ground := Ground.phase }], guard := none }, 
    { dst := none, op := Op.store 3 (Operand.tmp 41) (Operand.tmp 40), type := 0, pos := "l7_view.go:178", after := #[{ on := 11, ground := Ground.data }, { on := 10, ground := Ground.data }, { on := 0, ground := Ground.phase }, { on := 1, ground := Ground.phase }, { on := 2, ground := Ground.phase }, { on := 3, ground := Ground.phase }, { on := 4, ground := Ground.phase }, { on := 5, ground := Ground.phase }, { on := 6, ground := Ground.phase }, { on := 7, ground := Ground.phase }, { on := 8, ground := Ground.phase }, { on := 9, ground := Ground.phase }, { on := 10, ground := Ground.phase }], guard := none }]

def outLP (a : Act) (gd k N pv j : Nat) (x dg y z s : Int) : Act :=
  ((((((((((((a.put (some 30) (.slice (some ⟨gd, 0, none⟩) N N)).put (some 31) (.int .i64 (k : Nat))).put (some 32) (.pointer (some ⟨gd, 0 + k, none⟩))).put (some 33) (.int .i64 x)).put (some 34) (.int .i64 dg)).put (some 35) (.int .i64 (j : Nat))).put (some 36) (.pointer (some ⟨pv, 7, none⟩))).put (some 37) (.pointer (some ⟨pv, 7 + j, none⟩))).put (some 38) (.int .i64 y)).put (some 39) (.int .i64 z)).put (some 40) (.int .i64 s)).put (some 41) (.pointer (some ⟨gd, 0 + k, none⟩))).put none undef

set_option maxHeartbeats 4000000 in
set_option maxRecDepth 20000 in
theorem regionLP {Q : Exit → Act → World → Prop} {l m : Nat} (a : Act) (W : World) (hsz : 43 ≤ a.tmps.size) (gd k N pv pd j : Nat) (x dg y z s : Int) (h1 : a.eval (.tmp 1) = .pointer (some ⟨pv, 0, none⟩)) (h3 : a.eval (.tmp 3) = .pointer (some ⟨pd, 0, none⟩)) (h4 : a.eval (.tmp 4) = .int .i64 (k : Nat)) (h6 : a.eval (.tmp 6) = .int .i64 (j : Nat)) (h7 : a.eval (.tmp 7) = .int .i64 dg) (hk : k < N) (hj : j < 5)
    (hz : IntKind.i64.wrap (dg * y) = z) (hs : IntKind.i64.wrap (x + z) = s)
    (hS : W.cell? ⟨gd, k, none⟩ = some (.int .i64 x) ∧ W.frozen? ⟨gd, k, none⟩ = false ∧ W.cell? ⟨pd, 0, none⟩ = some (.slice (some ⟨gd, 0, none⟩) N N) ∧ W.cell? ⟨pv, 7 + j, none⟩ = some (.int .i64 y))
    (hQ : ∀ c a (d : Nat) v w, Q (.panic c) (a.put (some d) v) w → Q (.panic c) a w) (hno : ¬ LetsOut Q)
    (hend : Q .normal (outLP a gd k N pv j x dg y z s) (W.drew.setCell ⟨gd, 0 + k, none⟩ (.int .i64 s))) :
    (Code.region 9 opsLP true).wpIn (Fence.wide.inRound l) m Try.prog Q a W := by
  refine wpIn_region_L (fun wx => wx.cell? ⟨gd, k, none⟩ = some (.int .i64 x) ∧ wx.frozen? ⟨gd, k, none⟩ = false ∧ wx.cell? ⟨pd, 0, none⟩ = some (.slice (some ⟨gd, 0, none⟩) N N) ∧ wx.cell? ⟨pv, 7 + j, none⟩ = some (.int .i64 y)) 12 (by kernel_rfl) (by kernel_rfl) hno ?_
  have hS0 : W.drew.cell? ⟨gd, k, none⟩ = some (.int .i64 x) ∧ W.drew.frozen? ⟨gd, k, none⟩ = false ∧ W.drew.cell? ⟨pd, 0, none⟩ = some (.slice (some ⟨gd, 0, none⟩) N N) ∧ W.drew.cell? ⟨pv, 7 + j, none⟩ = some (.int .i64 y) := hS
  show wpAnyL _ _ _ _ _ _ (12 + 1) _ _ _
  refine wpAnyL_put 0 30 (.slice (some ⟨gd, 0, none⟩) N N) rfl rfl (by kernel_rfl) (by kernel_rfl) (by kernel_rfl) (by kernel_rfl) hQ rfl (fun w hw => rL (.tmp 3) _ rfl h3 w hw.2.2.1) hS0 ?_
  refine wpAnyL_put 1 31 (.int .i64 (k : Nat)) rfl rfl (by kernel_rfl) (by kernel_rfl) (by kernel_rfl) (by kernel_rfl) hQ rfl (fun w hw => rM (.tmp 4) rfl (by rw [eval_ne (by decide)]; exact h4) w) hS0 ?_
  refine wpAnyL_put 2 32 (.pointer (some ⟨gd, 0 + k, none⟩)) rfl rfl (by kernel_rfl) (by kernel_rfl) (by kernel_rfl) (by kernel_rfl) hQ rfl (fun w hw => rX (.tmp 30) (.tmp 31) rfl (by rw [eval_ne (by decide)]; exact eval_eq (by omega)) (eval_eq (by rw [put_size]; omega)) hk w) hS0 ?_
  refine wpAnyL_put 3 33 (.int .i64 x) rfl rfl (by kernel_rfl) (by kernel_rfl) (by kernel_rfl) (by kernel_rfl) hQ rfl (fun w hw => rI (.tmp 32) _ rfl (eval_eq (by rw [put_size, put_size]; omega)) w (by rw [Nat.zero_add]; exact hw.1)) hS0 ?_
  refine wpAnyL_put 4 34 (.int .i64 dg) rfl rfl (by kernel_rfl) (by kernel_rfl) (by kernel_rfl) (by kernel_rfl) hQ rfl (fun w hw => rM (.tmp 7) rfl (by rw [eval_ne (by decide), eval_ne (by decide), eval_ne (by decide), eval_ne (by decide)]; exact h7) w) hS0 ?_
  refine wpAnyL_put 5 35 (.int .i64 (j : Nat)) rfl rfl (by kernel_rfl) (by kernel_rfl) (by kernel_rfl) (by kernel_rfl) hQ rfl (fun w hw => rM (.tmp 6) rfl (by rw [eval_ne (by decide), eval_ne (by decide), eval_ne (by decide), eval_ne (by decide), eval_ne (by decide)]; exact h6) w) hS0 ?_
  refine wpAnyL_put 6 36 (.pointer (some ⟨pv, 7, none⟩)) rfl rfl (by kernel_rfl) (by kernel_rfl) (by kernel_rfl) (by kernel_rfl) hQ rfl (fun w hw => rF (.tmp 1) rfl (by rw [eval_ne (by decide), eval_ne (by decide), eval_ne (by decide), eval_ne (by decide), eval_ne (by decide), eval_ne (by decide)]; exact h1) w) hS0 ?_
  refine wpAnyL_put 7 37 (.pointer (some ⟨pv, 7 + j, none⟩)) rfl rfl (by kernel_rfl) (by kernel_rfl) (by kernel_rfl) (by kernel_rfl) hQ rfl (fun w hw => rA (.tmp 36) (.tmp 35) rfl (eval_eq (by rw [put_size, put_size, put_size, put_size, put_size, put_size]; omega)) (by rw [eval_ne (by decide)]; exact eval_eq (by rw [put_size, put_size, put_size, put_size, put_size]; omega)) hj w) hS0 ?_
  refine wpAnyL_put 8 38 (.int .i64 y) rfl rfl (by kernel_rfl) (by kernel_rfl) (by kernel_rfl) (by kernel_rfl) hQ rfl (fun w hw => rI (.tmp 37) _ rfl (eval_eq (by rw [put_size, put_size, put_size, put_size, put_size, put_size, put_size]; omega)) w hw.2.2.2) hS0 ?_
  refine wpAnyL_put 9 39 (.int .i64 z) rfl rfl (by kernel_rfl) (by kernel_rfl) (by kernel_rfl) (by kernel_rfl) hQ rfl (fun w hw => rMul (.tmp 34) (.tmp 38) rfl (by rw [eval_ne (by decide), eval_ne (by decide), eval_ne (by decide), eval_ne (by decide)]; exact eval_eq (by rw [put_size, put_size, put_size, put_size]; omega)) (eval_eq (by rw [put_size, put_size, put_size, put_size, put_size, put_size, put_size, put_size]; omega)) hz w) hS0 ?_
  refine wpAnyL_put 10 40 (.int .i64 s) rfl rfl (by kernel_rfl) (by kernel_rfl) (by kernel_rfl) (by kernel_rfl) hQ rfl (fun w hw => rAdd (.tmp 33) (.tmp 39) rfl (by rw [eval_ne (by decide), eval_ne (by decide), eval_ne (by decide), eval_ne (by decide), eval_ne (by decide), eval_ne (by decide)]; exact eval_eq (by rw [put_size, put_size, put_size]; omega)) (eval_eq (by rw [put_size, put_size, put_size, put_size, put_size, put_size, put_size, put_size, put_size]; omega)) hs w) hS0 ?_
  refine wpAnyL_put 11 41 (.pointer (some ⟨gd, 0 + k, none⟩)) rfl rfl (by kernel_rfl) (by kernel_rfl) (by kernel_rfl) (by kernel_rfl) hQ rfl (fun w hw => rX (.tmp 30) (.tmp 31) rfl (by rw [eval_ne (by decide), eval_ne (by decide), eval_ne (by decide), eval_ne (by decide), eval_ne (by decide), eval_ne (by decide), eval_ne (by decide), eval_ne (by decide), eval_ne (by decide), eval_ne (by decide)]; exact eval_eq (by omega)) (by rw [eval_ne (by decide), eval_ne (by decide), eval_ne (by decide), eval_ne (by decide), eval_ne (by decide), eval_ne (by decide), eval_ne (by decide), eval_ne (by decide), eval_ne (by decide)]; exact eval_eq (by rw [put_size]; omega)) hk w) hS0 ?_
  refine wpAnyL_one (i := 12) (by kernel_rfl) ?_
  refine op_wp rfl rfl ?_
  unfold Oper.wp
  rw [rS (.tmp 41) (.tmp 40) ⟨gd, 0 + k, none⟩ rfl (eval_eq (by rw [put_size, put_size, put_size, put_size, put_size, put_size, put_size, put_size, put_size, put_size, put_size]; omega)) (by rw [eval_ne (by decide)]; exact eval_eq (by rw [put_size, put_size, put_size, put_size, put_size, put_size, put_size, put_size, put_size, put_size]; omega)) W.drew (by rw [Nat.zero_add]; exact hS0.1) (by rw [Nat.zero_add]; exact hS0.2.1)]
  refine ⟨fun h => absurd rfl h, ?_⟩
  refine wpAnyL_done (by kernel_rfl) ?_ _
  exact hend

end Go.Proofs.Ytadbhidpmihghaa
