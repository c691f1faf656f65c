import Derived.Test.YtogmcecnckgcpaaRoundLaw
import Derived.Test.YtogmcecnckgcpaaInts
import Derived.WalkKit
namespace Go.Proofs.Ytogmcecnckgcpaa
open Go.RowKit

section
variable {o : Oper} {a : Act}
theorem rL (x : Operand) (p : Addr) {s : Option Addr} {l c : Nat} (ho : o.op = .load 22 x) (hx : a.eval x = .pointer (some p)) (w : World) (hc : w.cell? p = some (.slice s l c)) : (execOp a.eval o).run Try.prog w = .ok (.value (.slice s l c)) w := by
  unfold execOp
  simp only [ho, hx]
  go_simp

theorem rI (x : Operand) (p : Addr) {z : Int} (ho : o.op = .load 3 x) (hx : a.eval x = .pointer (some p)) (w : World) (hc : w.cell? p = some (.int .i64 z)) : (execOp a.eval o).run Try.prog w = .ok (.value (.int .i64 z)) w := by
  unfold execOp
  simp only [ho, hx]
  go_simp

theorem rM (x : Operand) {v : Value} (ho : o.op = .move x) (hx : a.eval x = v) (w : World) : (execOp a.eval o).run Try.prog w = .ok (.value v) w := by
  unfold execOp
  simp only [ho, hx]
  go_simp

theorem rX (x y : Operand) {b off m c J : Nat} (ho : o.op = .indexAddr 22 x y) (hx : a.eval x = .slice (some ⟨b, off, none⟩) m c) (hy : a.eval y = .int .i64 (J : Nat)) (hJ : J < m) (w : World) : (execOp a.eval o).run Try.prog w = .ok (.value (.pointer (some ⟨b, off + J, none⟩))) w := by
  have h1 : (J : Int) < (m : Int) := by omega
  unfold execOp
  simp only [ho, hx, hy]
  go_simp

theorem rSub (x y : Operand) {u v r : Int} (ho : o.op = .binOp .sub 3 x y 3) (hx : a.eval x = .int .i64 u) (hy : a.eval y = .int .i64 v) (hr : IntKind.i64.wrap (u - v) = r) (w : World) : (execOp a.eval o).run Try.prog w = .ok (.value (.int .i64 r)) w := by
  unfold execOp
  simp only [ho, hx, hy]
  go_simp

theorem rQuo (x y : Operand) {u v r : Int} (ho : o.op = .binOp .quo 3 x y 3) (hx : a.eval x = .int .i64 u) (hy : a.eval y = .int .i64 v) (h0 : ¬ v = 0) (hr : u.tdiv v = r) (hr1 : -1000000000000000 ≤ r) (hr2 : r ≤ 1000000000000000) (w : World) : (execOp a.eval o).run Try.prog w = .ok (.value (.int .i64 r)) w := by
  unfold execOp
  simp only [ho, hx, hy]
  go_simp
  rw [IntKind.wrap_i64]
  omega

theorem rMax (t : Nat) {u r : Int} (ho : o.op = .call { callee := .builtin .max, args := #[.tmp t, .const (.int .i64 1)], argTypes := #[3, 3] }) (hx : a.eval (.tmp t) = .int .i64 u) (hr : (if u < 1 then 1 else u) = r) (w : World) : (execOp a.eval o).run Try.prog w = .ok (.value (.int .i64 r)) w := by
  have hx' : a.tmps[t]?.getD undef = .int .i64 u := by simpa [Act.eval] using hx
  unfold execOp
  simp only [ho]
  go_simp

theorem rS (x y : Operand) (p : Addr) {v1 : Value} {z : Int} (ho : o.op = .store 3 x y) (hx : a.eval x = .pointer (some p)) (hy : a.eval y = .int .i64 z) (w : World) (hc : w.cell? p = some v1) (hf : w.frozen? p = false) : (execOp a.eval o).run Try.prog w = .ok .skip (w.setCell p (.int .i64 z)) := by
  unfold execOp
  simp only [ho, hx, hy]
  go_simp
end

/-- The statement that divides what is left. -/
def opsD : Array Oper :=
  #[
    { dst := some 21, op := Op.load 3 (Operand.tmp 2), type := 3, pos := "l6_prim.go:219", after := #[], guard := none }, 
    { dst := some 22, op := Op.load 22 (Operand.tmp 5), type := 22, pos := "l6_prim.go:219", after := #[], guard := none }, 
    { dst := some 23, op := Op.move (Operand.tmp 6), type := 3, pos := "l6_prim.go:219", after := #[], guard := none }, 
    { dst := some 24, op := Op.indexAddr 22 (Operand.tmp 22) (Operand.tmp 23), type := 0, pos := "l6_prim.go:219", after := #[{ on := 1, ground := Ground.data }, { on := 2, ground := Ground.data }], guard := none }, 
    { dst := some 25, op := Op.load 3 (Operand.tmp 24), type := 3, pos := "l6_prim.go:219", after := #[{ on := 3, ground := Ground.data }], guard := none }, 
    { dst := some 26, op := Op.binOp BinOp.sub 3 (Operand.tmp 21) (Operand.tmp 25) 3, type := 3, pos := "l6_prim.go:219", after := #[{ on := 0, ground := Ground.data }, { on := 4, ground := Ground.data }], guard := none }, 
    { dst := some 27, op := Op.move (Operand.tmp 7), type := 3, pos := "l6_prim.go:219", after := #[], guard := none }, 
    { dst := some 28, op := Op.call { callee := Callee.builtin Builtin.max, args := #[Operand.tmp 27, Operand.const (Value.int IntKind.i64 1)], argTypes := #[3, 3] }, type := 3, pos := "l6_prim.go:219", after := #[{ on := 6, ground := Ground.data }], guard := none }, 
    { dst := some 29, op := Op.binOp BinOp.quo 3 (Operand.tmp 26) (Operand.tmp 28) 3, type := 3, pos := "l6_prim.go:219", after := #[{ on := 5, ground := Ground.data }, { on := 7, ground := Ground.data }], guard := none }, 
    { dst := none, op := Op.store 3 (Operand.tmp 2) (Operand.tmp 29), type := 0, pos := "l6_prim.go:219", after := #[{ on := 8, ground := Ground.data }, { on := 0, ground := Ground.phase }, { on := 1, ground := Ground.phase }, { on := 2, ground := Ground.phase }, { on := 3, ground := Ground.phase }, { on := 4, ground := Ground.phase }, { on := 5, ground := Ground.phase }, { on := 6, ground := Ground.phase }, { on := 7, ground := Ground.phase }, { on := 8, ground := Ground.phase }], guard := none }]

def outD (a : Act) (p j n : Nat) (x d u aa mx y : Int) : Act :=
  (((((((((a.put (some 21) (.int .i64 x)).put (some 22) (.slice (some ⟨p + 1, 0, none⟩) n n)).put (some 23) (.int .i64 (j : Nat))).put (some 24) (.pointer (some ⟨p + 1, 0 + j, none⟩))).put (some 25) (.int .i64 d)).put (some 26) (.int .i64 u)).put (some 27) (.int .i64 aa)).put (some 28) (.int .i64 mx)).put (some 29) (.int .i64 y)).put none undef

set_option maxHeartbeats 4000000 in
set_option maxRecDepth 20000 in
theorem regionD {Q : Exit → Act → World → Prop} {l m : Nat} (a : Act) (W : World) (hsz : 31 ≤ a.tmps.size) (p j n : Nat) (x d u aa mx y : Int) (h2 : a.eval (.tmp 2) = .pointer (some ⟨p, 0, none⟩)) (h5 : a.eval (.tmp 5) = .pointer (some ⟨p + 1 + 1, 0, none⟩)) (h6 : a.eval (.tmp 6) = .int .i64 (j : Nat)) (h7 : a.eval (.tmp 7) = .int .i64 aa) (hj : j < n)
    (hu : IntKind.i64.wrap (x - d) = u) (hmx : (if aa < 1 then 1 else aa) = mx) (h0 : ¬ mx = 0) (hy : u.tdiv mx = y) (hyb : -1000000000000000 ≤ y ∧ y ≤ 1000000000000000)
    (c1 : W.cell? ⟨p + 1, j, none⟩ = some (.int .i64 d)) (c2 : W.cell? ⟨p, 0, none⟩ = some (.int .i64 x)) (c3 : W.frozen? ⟨p, 0, none⟩ = false) (c4 : W.cell? ⟨p + 1 + 1, 0, none⟩ = some (.slice (some ⟨p + 1, 0, none⟩) n n))
    (hQ : ∀ c a (d : Nat) v w, Q (.panic c) (a.put (some d) v) w → Q (.panic c) a w) (hno : ¬ LetsOut Q)
    (hend : Q .normal (outD a p j n x d u aa mx y) (W.drew.setCell ⟨p, 0, none⟩ (.int .i64 y))) :
    (Code.region 6 opsD true).wpIn (Fence.wide.inRound l) m Try.prog Q a W := by
  refine wpIn_region_L (fun wx => wx.cell? ⟨p + 1, j, none⟩ = some (.int .i64 d) ∧ wx.cell? ⟨p, 0, none⟩ = some (.int .i64 x) ∧ wx.frozen? ⟨p, 0, none⟩ = false ∧ wx.cell? ⟨p + 1 + 1, 0, none⟩ = some (.slice (some ⟨p + 1, 0, none⟩) n n)) 9 (by kernel_rfl) (by kernel_rfl) hno ?_
  have hS0 : (W.drew.cell? ⟨p + 1, j, none⟩ = some (.int .i64 d) ∧ W.drew.cell? ⟨p, 0, none⟩ = some (.int .i64 x) ∧ W.drew.frozen? ⟨p, 0, none⟩ = false ∧ W.drew.cell? ⟨p + 1 + 1, 0, none⟩ = some (.slice (some ⟨p + 1, 0, none⟩) n n)) := ⟨c1, c2, c3, c4⟩
  show wpAnyL _ _ _ _ _ _ (9 + 1) _ _ _
  refine wpAnyL_put 0 21 (.int .i64 x) rfl rfl (by kernel_rfl) (by kernel_rfl) (by kernel_rfl) (by kernel_rfl) hQ rfl (fun w hw => rI (.tmp 2) _ rfl h2 w hw.2.1) hS0 ?_
  refine wpAnyL_put 1 22 (.slice (some ⟨p + 1, 0, none⟩) n n) rfl rfl (by kernel_rfl) (by kernel_rfl) (by kernel_rfl) (by kernel_rfl) hQ rfl (fun w hw => rL (.tmp 5) _ rfl (by rw [eval_ne (by decide)]; exact h5) w hw.2.2.2) hS0 ?_
  refine wpAnyL_put 2 23 (.int .i64 (j : Nat)) rfl rfl (by kernel_rfl) (by kernel_rfl) (by kernel_rfl) (by kernel_rfl) hQ rfl (fun w hw => rM (.tmp 6) rfl (by rw [eval_ne (by decide), eval_ne (by decide)]; exact h6) w) hS0 ?_
  refine wpAnyL_put 3 24 (.pointer (some ⟨p + 1, 0 + j, none⟩)) rfl rfl (by kernel_rfl) (by kernel_rfl) (by kernel_rfl) (by kernel_rfl) hQ rfl (fun w hw => rX (.tmp 22) (.tmp 23) rfl (by rw [eval_ne (by decide)]; exact eval_eq (by rw [put_size]; omega)) (eval_eq (by rw [put_size, put_size]; omega)) hj w) hS0 ?_
  refine wpAnyL_put 4 25 (.int .i64 d) rfl rfl (by kernel_rfl) (by kernel_rfl) (by kernel_rfl) (by kernel_rfl) hQ rfl (fun w hw => rI (.tmp 24) _ rfl (eval_eq (by rw [put_size, put_size, put_size]; omega)) w (by rw [Nat.zero_add]; exact hw.1)) hS0 ?_
  refine wpAnyL_put 5 26 (.int .i64 u) rfl rfl (by kernel_rfl) (by kernel_rfl) (by kernel_rfl) (by kernel_rfl) hQ rfl (fun w hw => rSub (.tmp 21) (.tmp 25) rfl (by rw [eval_ne (by decide), eval_ne (by decide), eval_ne (by decide), eval_ne (by decide)]; exact eval_eq (by omega)) (eval_eq (by rw [put_size, put_size, put_size, put_size]; omega)) hu w) hS0 ?_
  refine wpAnyL_put 6 27 (.int .i64 aa) rfl rfl (by kernel_rfl) (by kernel_rfl) (by kernel_rfl) (by kernel_rfl) hQ rfl (fun w hw => rM (.tmp 7) rfl (by rw [eval_ne (by decide), eval_ne (by decide), eval_ne (by decide), eval_ne (by decide), eval_ne (by decide), eval_ne (by decide)]; exact h7) w) hS0 ?_
  refine wpAnyL_put 7 28 (.int .i64 mx) rfl rfl (by kernel_rfl) (by kernel_rfl) (by kernel_rfl) (by kernel_rfl) hQ rfl (fun w hw => rMax 27 rfl (eval_eq (by rw [put_size, put_size, put_size, put_size, put_size, put_size]; omega)) hmx w) hS0 ?_
  refine wpAnyL_put 8 29 (.int .i64 y) rfl rfl (by kernel_rfl) (by kernel_rfl) (by kernel_rfl) (by kernel_rfl) hQ rfl (fun w hw => rQuo (.tmp 26) (.tmp 28) rfl (by rw [eval_ne (by decide), eval_ne (by decide)]; exact eval_eq (by rw [put_size, put_size, put_size, put_size, put_size]; omega)) (eval_eq (by rw [put_size, put_size, put_size, put_size, put_size, put_size, put_size]; omega)) h0 hy hyb.1 hyb.2 w) hS0 ?_
  refine wpAnyL_one (i := 9) (by kernel_rfl) ?_
  refine op_wp rfl rfl ?_
  unfold Oper.wp
  rw [rS (.tmp 2) (.tmp 29) ⟨p, 0, none⟩ rfl (by rw [eval_ne (by decide), eval_ne (by decide), eval_ne (by decide), eval_ne (by decide), eval_ne (by decide), eval_ne (by decide), eval_ne (by decide), eval_ne (by decide), eval_ne (by decide)]; exact h2) (eval_eq (by rw [put_size, put_size, put_size, put_size, put_size, put_size, put_size, put_size]; omega)) W.drew hS0.2.1 hS0.2.2.1]
  refine ⟨fun h => absurd rfl h, ?_⟩
  refine wpAnyL_done (by kernel_rfl) ?_ _
  exact hend

end Go.Proofs.Ytogmcecnckgcpaa
