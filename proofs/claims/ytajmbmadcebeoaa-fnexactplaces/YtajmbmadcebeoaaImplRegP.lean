import Derived.Test.YtajmbmadcebeoaaRoundLaw
import Derived.Test.YtajmbmadcebeoaaInts
import Derived.WalkKit
namespace Go.Proofs.Ytajmbmadcebeoaa
open Go.RowKit

section
variable {o : Oper} {a : Act}
theorem rL (x : Operand) (p : Addr) {s : Option Addr} {l c : Nat} (ho : o.op = .load 22 x) (hx : a.eval x = .pointer (some p)) (w : World) (hc : w.cell? p = some (.slice s l c)) : (execOp a.eval o).run Try.prog w = .ok (.value (.slice s l c)) w := by
  unfold execOp
  simp only [ho, hx]
  go_simp

theorem rI (x : Operand) (p : Addr) {z : Int} (ho : o.op = .load 3 x) (hx : a.eval x = .pointer (some p)) (w : World) (hc : w.cell? p = some (.int .i64 z)) : (execOp a.eval o).run Try.prog w = .ok (.value (.int .i64 z)) w := by
  unfold execOp
  simp only [ho, hx]
  go_simp

theorem rM (x : Operand) {v : Value} (ho : o.op = .move x) (hx : a.eval x = v) (w : World) : (execOp a.eval o).run Try.prog w = .ok (.value v) w := by
  unfold execOp
  simp only [ho, hx]
  go_simp

theorem rF (x : Operand) {b : Nat} (ho : o.op = .fieldAddr 24 x 2) (hx : a.eval x = .pointer (some ⟨b, 0, none⟩)) (w : World) : (execOp a.eval o).run Try.prog w = .ok (.value (.pointer (some ⟨b, 2, none⟩))) w := by
  unfold execOp
  simp only [ho, hx]
  go_simp

theorem rX (x y : Operand) {b off m c J : Nat} (ho : o.op = .indexAddr 22 x y) (hx : a.eval x = .slice (some ⟨b, off, none⟩) m c) (hy : a.eval y = .int .i64 (J : Nat)) (hJ : J < m) (w : World) : (execOp a.eval o).run Try.prog w = .ok (.value (.pointer (some ⟨b, off + J, none⟩))) w := by
  have h1 : (J : Int) < (m : Int) := by omega
  unfold execOp
  simp only [ho, hx, hy]
  go_simp

theorem rMul (x y : Operand) {u v r : Int} (ho : o.op = .binOp .mul 3 x y 3) (hx : a.eval x = .int .i64 u) (hy : a.eval y = .int .i64 v) (hr : IntKind.i64.wrap (u * v) = r) (w : World) : (execOp a.eval o).run Try.prog w = .ok (.value (.int .i64 r)) w := by
  unfold execOp
  simp only [ho, hx, hy]
  go_simp

theorem rAdd (x y : Operand) {u v r : Int} (ho : o.op = .binOp .add 3 x y 3) (hx : a.eval x = .int .i64 u) (hy : a.eval y = .int .i64 v) (hr : IntKind.i64.wrap (u + v) = r) (w : World) : (execOp a.eval o).run Try.prog w = .ok (.value (.int .i64 r)) w := by
  unfold execOp
  simp only [ho, hx, hy]
  go_simp

theorem rS (x y : Operand) (p : Addr) {v1 : Value} {z : Int} (ho : o.op = .store 3 x y) (hx : a.eval x = .pointer (some p)) (hy : a.eval y = .int .i64 z) (w : World) (hc : w.cell? p = some v1) (hf : w.frozen? p = false) : (execOp a.eval o).run Try.prog w = .ok .skip (w.setCell p (.int .i64 z)) := by
  unfold execOp
  simp only [ho, hx, hy]
  go_simp
end

/-- The statement that adds one axis' way to a place. -/
def opsP : Array Oper :=
  #[
    { dst := some 35, op := Op.load 22 (Operand.tmp 5), type := 22, pos := "l7_view.go:42", after := #[], guard := none }, 
    { dst := some 36, op := Op.move (Operand.tmp 6), type := 3, pos := "l7_view.go:42", after := #[], guard := none }, 
    { dst := some 37, op := Op.indexAddr 22 (Operand.tmp 35) (Operand.tmp 36), type := 0, pos := "l7_view.go:42", after := #[{ on := 0, ground := Ground.data }, { on := 1, ground := Ground.data }], guard := none }, 
    { dst := some 38, op := Op.load 3 (Operand.tmp 37), type := 3, pos := "l7_view.go:42", after := #[{ on := 2, ground := Ground.data }], guard := none }, 
    { dst := some 39, op := Op.move (Operand.tmp 9), type := 3, pos := "l7_view.go:42", after := #[], guard := none }, 
    { dst := some 40, op := Op.fieldAddr 24 (Operand.tmp 2) 2, type := 0, pos := "l7_view.go:42", after := #[], guard := none }, 
    { dst := some 41, op := Op.load 22 (Operand.tmp 40), type := 22, pos := "l7_view.go:42", after := #[{ on := 5, ground := Ground.data }], guard := none }, 
    { dst := some 42, op := Op.move (Operand.tmp 8), type := 3, pos := "l7_view.go:42", after := #[], guard := none }, 
    { dst := some 43, op := Op.indexAddr 22 (Operand.tmp 41) (Operand.tmp 42), type := 0, pos := "l7_view.go:42", after := #[{ on := 6, ground := Ground.data }, { on := 7, ground := Ground.data }], guard := none }, 
    { dst := some 44, op := Op.load 3 (Operand.tmp 43), type := 3, pos := "l7_view.go:42", after := #[{ on := 8, ground := Ground.data }], guard := none }, 
    { dst := some 45, op := Op.binOp BinOp.mul 3 (Operand.tmp 39) (Operand.tmp 44) 3, type := 3, pos := "l7_view.go:42", after := #[{ on := 4, ground := Ground.data }, { on := 9, ground := Ground.data }], guard := none }, 
    { dst := some 46, op := Op.binOp BinOp.add 3 (Operand.tmp 38) (Operand.tmp 45) 3, type := 3, pos := "l7_view.go:42", after := #[{ on := 3, ground := Ground.data }, { on := 10, ground := Ground.data }], guard := none }, 
    { dst := some 47, op := Op.indexAddr 22 (Operand.tmp 35) (Operand.tmp 36), type := 0, pos := "l7_view.go:42", after := #[{ on := 0, ground := Ground.data }, { on := 1, ground := Ground.data }, { on := 0, ground := Ground.phase }, { on := 1, ground := Ground.phase }, { on := 2, ground := Ground.phase }, { on := 3, ground := Ground.phase }, { on := 4, ground := Ground.phase }, { on := 5, ground := Ground.phase }, { on := 6, ground := Ground.phase }, { on := 7, ground := Ground.phase }, { on := 8, ground := Ground.phase }, { on := 9, ground := Ground.phase }, { on := 10, ground := Ground.phase }, { on := 11, ground := Ground.phase }], guard := none }, 
    { dst := none, op := Op.store 3 (Operand.tmp 47) (Operand.tmp 46), type := 0, pos := "l7_view.go:42", after := #[{ on := 12, ground := Ground.data }, { on := 11, ground := Ground.data }, { on := 0, ground := Ground.phase }, { on := 1, ground := Ground.phase }, { on := 2, ground := Ground.phase }, { on := 3, ground := Ground.phase }, { on := 4, ground := Ground.phase }, { on := 5, ground := Ground.phase }, { on := 6, ground := Ground.phase }, { on := 7, ground := Ground.phase }, { on := 8, ground := Ground.phase }, { on := 9, ground := Ground.phase }, { on := 10, ground := Ground.phase }, { on := 11, ground := Ground.phase }], guard := none }]

def outP (a : Act) (gd k N pv bs os j n2 cc : Nat) (x dg y z s : Int) : Act :=
  (((((((((((((a.put (some 35) (.slice (some ⟨gd, 0, none⟩) N N)).put (some 36) (.int .i64 (k : Nat))).put (some 37) (.pointer (some ⟨gd, 0 + k, none⟩))).put (some 38) (.int .i64 x)).put (some 39) (.int .i64 dg)).put (some 40) (.pointer (some ⟨pv, 2, none⟩))).put (some 41) (.slice (some ⟨bs, os, none⟩) n2 cc)).put (some 42) (.int .i64 (j : Nat))).put (some 43) (.pointer (some ⟨bs, os + j, none⟩))).put (some 44) (.int .i64 y)).put (some 45) (.int .i64 z)).put (some 46) (.int .i64 s)).put (some 47) (.pointer (some ⟨gd, 0 + k, none⟩))).put none undef

set_option maxHeartbeats 4000000 in
set_option maxRecDepth 20000 in
theorem regionP {Q : Exit → Act → World → Prop} {l m : Nat} (a : Act) (W : World) (hsz : 49 ≤ a.tmps.size) (gd k N pv pd bs os j n2 cc : Nat) (x dg y z s : Int) (h2 : a.eval (.tmp 2) = .pointer (some ⟨pv, 0, none⟩)) (h5 : a.eval (.tmp 5) = .pointer (some ⟨pd, 0, none⟩)) (h6 : a.eval (.tmp 6) = .int .i64 (k : Nat)) (h8 : a.eval (.tmp 8) = .int .i64 (j : Nat)) (h9 : a.eval (.tmp 9) = .int .i64 dg) (hk : k < N) (hj : j < n2)
    (hz : IntKind.i64.wrap (dg * y) = z) (hs : IntKind.i64.wrap (x + z) = s)
    (hS : W.cell? ⟨gd, k, none⟩ = some (.int .i64 x) ∧ W.frozen? ⟨gd, k, none⟩ = false ∧ W.cell? ⟨pd, 0, none⟩ = some (.slice (some ⟨gd, 0, none⟩) N N) ∧ W.cell? ⟨pv, 2, none⟩ = some (.slice (some ⟨bs, os, none⟩) n2 cc) ∧ W.cell? ⟨bs, os + j, none⟩ = some (.int .i64 y))
    (hQ : ∀ c a (d : Nat) v w, Q (.panic c) (a.put (some d) v) w → Q (.panic c) a w) (hno : ¬ LetsOut Q)
    (hend : Q .normal (outP a gd k N pv bs os j n2 cc x dg y z s) (W.drew.setCell ⟨gd, 0 + k, none⟩ (.int .i64 s))) :
    (Code.region 11 opsP true).wpIn (Fence.wide.inRound l) m Try.prog Q a W := by
  refine wpIn_region_L (fun wx => wx.cell? ⟨gd, k, none⟩ = some (.int .i64 x) ∧ wx.frozen? ⟨gd, k, none⟩ = false ∧ wx.cell? ⟨pd, 0, none⟩ = some (.slice (some ⟨gd, 0, none⟩) N N) ∧ wx.cell? ⟨pv, 2, none⟩ = some (.slice (some ⟨bs, os, none⟩) n2 cc) ∧ wx.cell? ⟨bs, os + j, none⟩ = some (.int .i64 y)) 13 (by kernel_rfl) (by kernel_rfl) hno ?_
  have hS0 : W.drew.cell? ⟨gd, k, none⟩ = some (.int .i64 x) ∧ W.drew.frozen? ⟨gd, k, none⟩ = false ∧ W.drew.cell? ⟨pd, 0, none⟩ = some (.slice (some ⟨gd, 0, none⟩) N N) ∧ W.drew.cell? ⟨pv, 2, none⟩ = some (.slice (some ⟨bs, os, none⟩) n2 cc) ∧ W.drew.cell? ⟨bs, os + j, none⟩ = some (.int .i64 y) := hS
  show wpAnyL _ _ _ _ _ _ (13 + 1) _ _ _
  refine wpAnyL_put 0 35 (.slice (some ⟨gd, 0, none⟩) N N) rfl rfl (by kernel_rfl) (by kernel_rfl) (by kernel_rfl) (by kernel_rfl) hQ rfl (fun w hw => rL (.tmp 5) _ rfl h5 w hw.2.2.1) hS0 ?_
  refine wpAnyL_put 1 36 (.int .i64 (k : Nat)) rfl rfl (by kernel_rfl) (by kernel_rfl) (by kernel_rfl) (by kernel_rfl) hQ rfl (fun w hw => rM (.tmp 6) rfl (by rw [eval_ne (by decide)]; exact h6) w) hS0 ?_
  refine wpAnyL_put 2 37 (.pointer (some ⟨gd, 0 + k, none⟩)) rfl rfl (by kernel_rfl) (by kernel_rfl) (by kernel_rfl) (by kernel_rfl) hQ rfl (fun w hw => rX (.tmp 35) (.tmp 36) rfl (by rw [eval_ne (by decide)]; exact eval_eq (by omega)) (eval_eq (by rw [put_size]; omega)) hk w) hS0 ?_
  refine wpAnyL_put 3 38 (.int .i64 x) rfl rfl (by kernel_rfl) (by kernel_rfl) (by kernel_rfl) (by kernel_rfl) hQ rfl (fun w hw => rI (.tmp 37) _ rfl (eval_eq (by rw [put_size, put_size]; omega)) w (by rw [Nat.zero_add]; exact hw.1)) hS0 ?_
  refine wpAnyL_put 4 39 (.int .i64 dg) rfl rfl (by kernel_rfl) (by kernel_rfl) (by kernel_rfl) (by kernel_rfl) hQ rfl (fun w hw => rM (.tmp 9) rfl (by rw [eval_ne (by decide), eval_ne (by decide), eval_ne (by decide), eval_ne (by decide)]; exact h9) w) hS0 ?_
  refine wpAnyL_put 5 40 (.pointer (some ⟨pv, 2, none⟩)) rfl rfl (by kernel_rfl) (by kernel_rfl) (by kernel_rfl) (by kernel_rfl) hQ rfl (fun w hw => rF (.tmp 2) rfl (by rw [eval_ne (by decide), eval_ne (by decide), eval_ne (by decide), eval_ne (by decide), eval_ne (by decide)]; exact h2) w) hS0 ?_
  refine wpAnyL_put 6 41 (.slice (some ⟨bs, os, none⟩) n2 cc) rfl rfl (by kernel_rfl) (by kernel_rfl) (by kernel_rfl) (by kernel_rfl) hQ rfl (fun w hw => rL (.tmp 40) _ rfl (eval_eq (by rw [put_size, put_size, put_size, put_size, put_size]; omega)) w hw.2.2.2.1) hS0 ?_
  refine wpAnyL_put 7 42 (.int .i64 (j : Nat)) rfl rfl (by kernel_rfl) (by kernel_rfl) (by kernel_rfl) (by kernel_rfl) hQ rfl (fun w hw => rM (.tmp 8) rfl (by rw [eval_ne (by decide), eval_ne (by decide), eval_ne (by decide), eval_ne (by decide), eval_ne (by decide), eval_ne (by decide), eval_ne (by decide)]; exact h8) w) hS0 ?_
  refine wpAnyL_put 8 43 (.pointer (some ⟨bs, os + j, none⟩)) rfl rfl (by kernel_rfl) (by kernel_rfl) (by kernel_rfl) (by kernel_rfl) hQ rfl (fun w hw => rX (.tmp 41) (.tmp 42) rfl (by rw [eval_ne (by decide)]; exact eval_eq (by rw [put_size, put_size, put_size, put_size, put_size, put_size]; omega)) (eval_eq (by rw [put_size, put_size, put_size, put_size, put_size, put_size, put_size]; omega)) hj w) hS0 ?_
  refine wpAnyL_put 9 44 (.int .i64 y) rfl rfl (by kernel_rfl) (by kernel_rfl) (by kernel_rfl) (by kernel_rfl) hQ rfl (fun w hw => rI (.tmp 43) _ rfl (eval_eq (by rw [put_size, put_size, put_size, put_size, put_size, put_size, put_size, put_size]; omega)) w hw.2.2.2.2) hS0 ?_
  refine wpAnyL_put 10 45 (.int .i64 z) rfl rfl (by kernel_rfl) (by kernel_rfl) (by kernel_rfl) (by kernel_rfl) hQ rfl (fun w hw => rMul (.tmp 39) (.tmp 44) rfl (by rw [eval_ne (by decide), eval_ne (by decide), eval_ne (by decide), eval_ne (by decide), eval_ne (by decide)]; exact eval_eq (by rw [put_size, put_size, put_size, put_size]; omega)) (eval_eq (by rw [put_size, put_size, put_size, put_size, put_size, put_size, put_size, put_size, put_size]; omega)) hz w) hS0 ?_
  refine wpAnyL_put 11 46 (.int .i64 s) rfl rfl (by kernel_rfl) (by kernel_rfl) (by kernel_rfl) (by kernel_rfl) hQ rfl (fun w hw => rAdd (.tmp 38) (.tmp 45) rfl (by rw [eval_ne (by decide), eval_ne (by decide), eval_ne (by decide), eval_ne (by decide), eval_ne (by decide), eval_ne (by decide), eval_ne (by decide)]; exact eval_eq (by rw [put_size, put_size, put_size]; omega)) (eval_eq (by rw [put_size, put_size, put_size, put_size, put_size, put_size, put_size, put_size, put_size, put_size]; omega)) hs w) hS0 ?_
  refine wpAnyL_put 12 47 (.pointer (some ⟨gd, 0 + k, none⟩)) rfl rfl (by kernel_rfl) (by kernel_rfl) (by kernel_rfl) (by kernel_rfl) hQ rfl (fun w hw => rX (.tmp 35) (.tmp 36) rfl (by rw [eval_ne (by decide), eval_ne (by decide), eval_ne (by decide), eval_ne (by decide), eval_ne (by decide), eval_ne (by decide), eval_ne (by decide), eval_ne (by decide), eval_ne (by decide), eval_ne (by decide), eval_ne (by decide)]; exact eval_eq (by omega)) (by rw [eval_ne (by decide), eval_ne (by decide), eval_ne (by decide), eval_ne (by decide), eval_ne (by decide), eval_ne (by decide), eval_ne (by decide), eval_ne (by decide), eval_ne (by decide), eval_ne (by decide)]; exact eval_eq (by rw [put_size]; omega)) hk w) hS0 ?_
  refine wpAnyL_one (i := 13) (by kernel_rfl) ?_
  refine op_wp rfl rfl ?_
  unfold Oper.wp
  rw [rS (.tmp 47) (.tmp 46) ⟨gd, 0 + k, none⟩ rfl (eval_eq (by rw [put_size, put_size, put_size, put_size, put_size, put_size, put_size, put_size, put_size, put_size, put_size, put_size]; omega)) (by rw [eval_ne (by decide)]; exact eval_eq (by rw [put_size, put_size, put_size, put_size, put_size, put_size, put_size, put_size, put_size, put_size, put_size]; omega)) W.drew (by rw [Nat.zero_add]; exact hS0.1) (by rw [Nat.zero_add]; exact hS0.2.1)]
  refine ⟨fun h => absurd rfl h, ?_⟩
  refine wpAnyL_done (by kernel_rfl) ?_ _
  exact hend

end Go.Proofs.Ytajmbmadcebeoaa
