import Derived.Test.YtogmcecnckgcpaaDrawLaw
import Derived.Test.YtogmcecnckgcpaaSpecFirst
import Derived.Test.YtogmcecnckgcpaaSpecTruth
import Derived.Test.YtogmcecnckgcpaaGrowMore
import Derived.Deep.AppendLies
namespace Go.Proofs.Ytogmcecnckgcpaa
open Go.RowKit

/-- The statement that appends whether an element stands in b. -/
def opsM : Array Oper :=
  #[
    { dst := some 29, op := Op.fieldAddr 27 (Operand.tmp 6) 2, type := 0, pos := "l6_prim.go:94", after := #[], guard := none }, 
    { dst := some 30, op := Op.load 22 (Operand.tmp 29), type := 22, pos := "l6_prim.go:94", after := #[{ on := 0, ground := Ground.data }], guard := none }, 
    { dst := some 31, op := Op.load 27 (Operand.tmp 3), type := 27, pos := "l6_prim.go:94", after := #[], guard := none }, 
    { dst := some 32, op := Op.fieldAddr 27 (Operand.tmp 2) 2, type := 0, pos := "l6_prim.go:94", after := #[], guard := none }, 
    { dst := some 33, op := Op.load 22 (Operand.tmp 32), type := 22, pos := "l6_prim.go:94", after := #[{ on := 3, ground := Ground.data }], guard := none }, 
    { dst := some 34, op := Op.move (Operand.tmp 7), type := 3, pos := "l6_prim.go:94", after := #[], guard := none }, 
    { dst := some 35, op := Op.indexAddr 22 (Operand.tmp 33) (Operand.tmp 34), type := 0, pos := "l6_prim.go:94", after := #[{ on := 4, ground := Ground.data }, { on := 5, ground := Ground.data }], guard := none }, 
    { dst := some 36, op := Op.load 3 (Operand.tmp 35), type := 3, pos := "l6_prim.go:94", after := #[{ on := 6, ground := Ground.data }], guard := none }, 
    { dst := some 37, op := Op.fieldAddr 27 (Operand.tmp 2) 0, type := 0, pos := "l6_prim.go:94", after := #[], guard := none }, 
    { dst := some 38, op := Op.load 4 (Operand.tmp 37), type := 4, pos := "l6_prim.go:94", after := #[{ on := 8, ground := Ground.data }], guard := none }, 
    { dst := some 39, op := Op.call { callee := Callee.value (Operand.func 38), args := #[Operand.tmp 31, Operand.tmp 36, Operand.tmp 38], argTypes := #[27, 3, 4] }, type := 3, pos := "l6_prim.go:94", after := #[{ on := 2, ground := Ground.data }, { on := 7, ground := Ground.data }, { on := 9, ground := Ground.data }], guard := none }, 
    { dst := some 40, op := Op.fieldAddr 27 (Operand.tmp 3) 2, type := 0, pos := "l6_prim.go:94", after := #[], guard := none }, 
    { dst := some 41, op := Op.load 22 (Operand.tmp 40), type := 22, pos := "l6_prim.go:94", after := #[{ on := 11, ground := Ground.data }], guard := none }, 
    { dst := some 42, op := Op.call { callee := Callee.builtin Builtin.len, args := #[Operand.tmp 41], argTypes := #[22] }, type := 3, pos := "l6_prim.go:94", after := #[{ on := 12, ground := Ground.data }], guard := none }, 
    { dst := some 43, op := Op.binOp BinOp.lss 3 (Operand.tmp 39) (Operand.tmp 42) 3, type := 4, pos := "l6_prim.go:94", after := #[{ on := 10, ground := Ground.data }, { on := 13, ground := Ground.data }], guard := none }, 
    { dst := some 44, op := Op.call { callee := Callee.value (Operand.func 43), args := #[Operand.tmp 43], argTypes := #[4] }, type := 3, pos := "l6_prim.go:94", after := #[{ on := 14, ground := Ground.data }, { on := 10, ground := Ground.chain }], guard := none }, 
    { dst := some 45, op := Op.buildSlice 22 1 #[(0, Operand.tmp 44)], type := 22, pos := "l6_prim.go:94", after := #[{ on := 15, ground := Ground.data }], guard := none }, 
    { dst := some 46, op := Op.call { callee := Callee.builtin Builtin.append, args := #[Operand.tmp 30, Operand.tmp 45], argTypes := #[22, 22] }, type := 22, pos := "l6_prim.go:94", after := #[{ on := 1, ground := Ground.data }, { on := 16, ground := Ground.data }, { on := 15, ground := Ground.chain }], guard := none }, 
    { dst := some 47, op := Op.fieldAddr 27 (Operand.tmp 6) 2, type := 0, pos := "l6_prim.go:94", after := #[{ on := 0, ground := Ground.phase }, { on := 1, ground := Ground.phase }, { on := 2, ground := Ground.phase }, { on := 3, ground := Ground.phase }, { on := 4, ground := Ground.phase }, { on := 5, ground := Ground.phase }, { on := 6, ground := Ground.phase }, { on := 7, ground := Ground.phase }, { on := 8, ground := Ground.phase }, { on := 9, ground := Ground.phase }, { on := 10, ground := Ground.phase }, { on := 11, ground := Ground.phase }, { on := 12, ground := Ground.phase }, { on := 13, ground := Ground.phase }, { on := 14, ground := Ground.phase }, { on := 15, ground := Ground.phase }, { on := 16, ground := Ground.phase }, { on := 17, ground := Ground.phase }], guard := none }, 
    { dst := none, op := Op.store 22 (Operand.tmp 47) (Operand.tmp 46), type := 0, pos := "l6_prim.go:94", after := #[{ on := 18, ground := Ground.data }, { on := 17, ground := Ground.data }, { on := 17, ground := Ground.chain }, { on := 0, ground := Ground.phase }, { on := 1, ground := Ground.phase }, { on := 2, ground := Ground.phase }, { on := 3, ground := Ground.phase }, { on := 4, ground := Ground.phase }, { on := 5, ground := Ground.phase }, { on := 6, ground := Ground.phase }, { on := 7, ground := Ground.phase }, { on := 8, ground := Ground.phase }, { on := 9, ground := Ground.phase }, { on := 10, ground := Ground.phase }, { on := 11, ground := Ground.phase }, { on := 12, ground := Ground.phase }, { on := 13, ground := Ground.phase }, { on := 14, ground := Ground.phase }, { on := 15, ground := Ground.phase }, { on := 16, ground := Ground.phase }, { on := 17, ground := Ground.phase }], guard := none }]

section
variable {o : Oper} {a : Act}
theorem mF (x : Operand) (b k : Nat) (hk : k = 2) (ho : o.op = .fieldAddr 27 x k) (hx : a.eval x = .pointer (some ⟨b, 0, none⟩)) (w : World) : (execOp a.eval o).run Try.prog w = .ok (.value (.pointer (some ⟨b, k, none⟩))) w := by
  subst hk
  unfold execOp
  simp only [ho, hx]
  go_simp
theorem mF0 (x : Operand) (b : Nat) (ho : o.op = .fieldAddr 27 x 0) (hx : a.eval x = .pointer (some ⟨b, 0, none⟩)) (w : World) : (execOp a.eval o).run Try.prog w = .ok (.value (.pointer (some ⟨b, 0, none⟩))) w := by
  unfold execOp
  simp only [ho, hx]
  go_simp
theorem mL (x : Operand) (p : Addr) {s : Option Addr} {l c : Nat} (ho : o.op = .load 22 x) (hx : a.eval x = .pointer (some p)) (w : World) (hc : w.cell? p = some (.slice s l c)) : (execOp a.eval o).run Try.prog w = .ok (.value (.slice s l c)) w := by
  unfold execOp
  simp only [ho, hx]
  go_simp
theorem mB (x : Operand) (p : Addr) {z : Bool} (ho : o.op = .load 4 x) (hx : a.eval x = .pointer (some p)) (w : World) (hc : w.cell? p = some (.bool z)) : (execOp a.eval o).run Try.prog w = .ok (.value (.bool z)) w := by
  unfold execOp
  simp only [ho, hx]
  go_simp
theorem mA (x : Operand) (p : Nat) {z : Bool} {s1 s2 : Option Addr} {l1 e1 l2 e2 : Nat} (ho : o.op = .load 27 x) (hx : a.eval x = .pointer (some ⟨p, 0, none⟩)) (w : World) (c0 : w.cell? ⟨p, 0, none⟩ = some (.bool z)) (c1 : w.cell? ⟨p, 1, none⟩ = some (.slice s1 l1 e1)) (c2 : w.cell? ⟨p, 2, none⟩ = some (.slice s2 l2 e2)) : (execOp a.eval o).run Try.prog w = .ok (.value (.agg #[.bool z, .slice s1 l1 e1, .slice s2 l2 e2])) w := by
  unfold execOp
  simp only [ho, hx]
  go_simp
theorem mI (x : Operand) (p : Addr) {z : Int} (ho : o.op = .load 3 x) (hx : a.eval x = .pointer (some p)) (w : World) (hc : w.cell? p = some (.int .i64 z)) : (execOp a.eval o).run Try.prog w = .ok (.value (.int .i64 z)) w := by
  unfold execOp
  simp only [ho, hx]
  go_simp
theorem mM (x : Operand) {v : Value} (ho : o.op = .move x) (hx : a.eval x = v) (w : World) : (execOp a.eval o).run Try.prog w = .ok (.value v) w := by
  unfold execOp
  simp only [ho, hx]
  go_simp
theorem mN (t : Nat) {s : Option Addr} {l c : Nat} (ho : o.op = .call { callee := .builtin .len, args := #[.tmp t], argTypes := #[22] }) (hx : a.eval (.tmp t) = .slice s l c) (w : World) : (execOp a.eval o).run Try.prog w = .ok (.value (.int .i64 (l : Nat))) w := by
  have hx' : a.tmps[t]?.getD undef = .slice s l c := by simpa [Act.eval] using hx
  unfold execOp
  simp only [ho]
  go_simp
theorem mLt (x y : Operand) {u v : Nat} {r : Bool} (ho : o.op = .binOp .lss 3 x y 3) (hx : a.eval x = .int .i64 (u : Nat)) (hy : a.eval y = .int .i64 (v : Nat)) (hr : decide (u < v) = r) (w : World) : (execOp a.eval o).run Try.prog w = .ok (.value (.bool r)) w := by
  unfold execOp
  simp only [ho, hx, hy]
  go_simp
theorem mX (x y : Operand) {b off m c J : Nat} (ho : o.op = .indexAddr 22 x y) (hx : a.eval x = .slice (some ⟨b, off, none⟩) m c) (hy : a.eval y = .int .i64 (J : Nat)) (hJ : J < m) (w : World) : (execOp a.eval o).run Try.prog w = .ok (.value (.pointer (some ⟨b, off + J, none⟩))) w := by
  have h1 : (J : Int) < (m : Int) := by omega
  unfold execOp
  simp only [ho, hx, hy]
  go_simp
theorem mS1 (t : Nat) {z : Int} (ho : o.op = .buildSlice 22 1 #[(0, .tmp t)]) (hx : a.eval (.tmp t) = .int .i64 z) (w : World) : (execOp a.eval o).run Try.prog w = .ok (.value (.slice (some ⟨w.heap.size, 0, none⟩) 1 1)) (w.alloc (.cells #[.int .i64 z] 3)) := by
  have hx' : a.tmps[t]?.getD undef = .int .i64 z := by simpa [Act.eval] using hx
  unfold execOp
  simp only [ho]
  go_simp
theorem mSt (x y : Operand) (p : Nat) {v1 : Value} {s : Option Addr} {l c : Nat} (ho : o.op = .store 22 x y) (hx : a.eval x = .pointer (some ⟨p, 2, none⟩)) (hy : a.eval y = .slice s l c) (w : World) (hc : w.cell? ⟨p, 2, none⟩ = some v1) (hf : w.frozen? ⟨p, 2, none⟩ = false) : (execOp a.eval o).run Try.prog w = .ok .skip (w.setCell ⟨p, 2, none⟩ (.slice s l c)) := by
  unfold execOp
  simp only [ho, hx, hy]
  go_simp
end

theorem mCall3 {K : Act → World → Prop} {Q : Exit → Act → World → Prop} {o : Oper} {a : Act} {w : World} (x y z : Nat) {u v s : Value} (ho : o.op = .call { callee := .value (.func 38), args := #[.tmp x, .tmp y, .tmp z], argTypes := #[27, 3, 4] }) (hx : a.eval (.tmp x) = u) (hy : a.eval (.tmp y) = v) (hz : a.eval (.tmp z) = s)
    (h : Calls Try.prog 38 #[u, v, s] w fun | .returned r, w' => K (a.put o.dst r) w' | .panicked c, w' => Q (.panic c) a w' | .outgrown, _ => LetsOut Q) : o.wp Try.prog a w K Q := by
  have hx' : a.tmps[x]?.getD undef = u := by simpa [Act.eval] using hx
  have hy' : a.tmps[y]?.getD undef = v := by simpa [Act.eval] using hy
  have hz' : a.tmps[z]?.getD undef = s := by simpa [Act.eval] using hz
  have e : (execOp a.eval o).run Try.prog w = .ok (.enter 38 #[u, v, s]) w := by
    unfold execOp
    simp only [ho]
    go_simp
  unfold Oper.wp
  rw [e]
  exact h
theorem mCall1 {K : Act → World → Prop} {Q : Exit → Act → World → Prop} {o : Oper} {a : Act} {w : World} (x : Nat) {u : Value} (ho : o.op = .call { callee := .value (.func 43), args := #[.tmp x], argTypes := #[4] }) (hx : a.eval (.tmp x) = u)
    (h : Calls Try.prog 43 #[u] w fun | .returned r, w' => K (a.put o.dst r) w' | .panicked c, w' => Q (.panic c) a w' | .outgrown, _ => LetsOut Q) : o.wp Try.prog a w K Q := by
  have hx' : a.tmps[x]?.getD undef = u := by simpa [Act.eval] using hx
  have e : (execOp a.eval o).run Try.prog w = .ok (.enter 43 #[u]) w := by
    unfold execOp
    simp only [ho]
    go_simp
  unfold Oper.wp
  rw [e]
  exact h

/-- The frame behind the statement. -/
def outM (a : Act) (p pa pb : Nat) (c d : Bool) (b1 b2 : Option Addr) (g P cap bd od n2 c2 m1 d1 m2 d2 : Nat) (x : Int) (q : Nat) (r : Bool) (hb : Nat) (v' : Value) : Act :=
  (((((((((((((((((((a.put (some 29) (.pointer (some ⟨p, 2, none⟩))).put (some 30) (.slice (some ⟨g, 0, none⟩) P cap)).put (some 31) (.agg #[.bool d, .slice b1 m1 d1, .slice b2 m2 d2])).put (some 32) (.pointer (some ⟨pa, 2, none⟩))).put (some 33) (.slice (some ⟨bd, od, none⟩) n2 c2)).put (some 34) (.int .i64 (P : Nat))).put (some 35) (.pointer (some ⟨bd, od + P, none⟩))).put (some 36) (.int .i64 x)).put (some 37) (.pointer (some ⟨pa, 0, none⟩))).put (some 38) (.bool c)).put (some 40) (.pointer (some ⟨pb, 2, none⟩))).put (some 41) (.slice b2 m2 d2)).put (some 42) (.int .i64 (m2 : Nat))).put (some 39) (.int .i64 (q : Nat))).put (some 43) (.bool r)).put (some 44) (.int .i64 (truth r))).put (some 45) (.slice (some ⟨hb, 0, none⟩) 1 1)).put (some 46) (v')).put (some 47) (.pointer (some ⟨p, 2, none⟩))).put none undef

set_option maxHeartbeats 4000000 in
set_option maxRecDepth 20000 in
theorem regionM {Q : Exit → Act → World → Prop} (a : Act) (W : World) (hsz : 49 ≤ a.tmps.size) (p pa pb : Nat) (h6 : a.eval (.tmp 6) = .pointer (some ⟨p, 0, none⟩)) (h2 : a.eval (.tmp 2) = .pointer (some ⟨pa, 0, none⟩)) (h3 : a.eval (.tmp 3) = .pointer (some ⟨pb, 0, none⟩))
    (c d : Bool) (b1 b2 : Option Addr) (g P cap bd od n2 c2 m1 d1 m2 d2 : Nat) (h7 : a.eval (.tmp 7) = .int .i64 (P : Nat)) (xs : List Value) (x : Int) (base q : Nat) (r : Bool) (hr : decide (q < m2) = r) (hP : P < n2) (hPb : P ≤ 1000000) (S : World → Prop)
    (hS : ∀ wx, S wx → wx.cell? ⟨p, 2, none⟩ = some (.slice (some ⟨g, 0, none⟩) P cap) ∧ wx.frozen? ⟨p, 2, none⟩ = false ∧ wx.cell? ⟨pb, 0, none⟩ = some (.bool d) ∧ wx.cell? ⟨pb, 1, none⟩ = some (.slice b1 m1 d1) ∧ wx.cell? ⟨pb, 2, none⟩ = some (.slice b2 m2 d2) ∧ wx.cell? ⟨pa, 2, none⟩ = some (.slice (some ⟨bd, od, none⟩) n2 c2) ∧ wx.cell? ⟨pa, 0, none⟩ = some (.bool c) ∧ wx.cell? ⟨bd, od + P, none⟩ = some (.int .i64 x))
    (HK : ∀ wx, Below W.heap.size W wx → S wx)
    (HC : ∀ wx, Below W.heap.size W wx → Calls Try.prog 38 #[.agg #[.bool d, .slice b1 m1 d1, .slice b2 m2 d2], .int .i64 x, .bool c] wx fun e w' => e = .returned (.int .i64 (q : Nat)) ∧ Below wx.heap.size wx w')
    (hown : W.ownsRow base 3 1 (.slice (some ⟨g, 0, none⟩) P cap) P xs) (hbase : base ≤ W.heap.size)
    (HA : ∀ wx w7, Below W.heap.size W wx → (wx.alloc (.cells #[.int .i64 (truth r)] 3)).grownBy w7 (some g) → S w7)
    (hQ : ∀ c a (d : Nat) v w, Q (.panic c) (a.put (some d) v) w → Q (.panic c) a w)
    (hend : ∀ wx g' cap' w7, Below W.heap.size W wx → w7.ownsRow base 3 1 (.slice (some ⟨g', 0, none⟩) (P + 1) cap') (P + 1) (xs ++ [.int .i64 (truth r)]) → (wx.alloc (.cells #[.int .i64 (truth r)] 3)).grownBy w7 (Value.ownBlock (.slice (some ⟨g, 0, none⟩) P cap)) → (Value.ownBlock (.slice (some ⟨g, 0, none⟩) P cap) = some g' ∨ g' = wx.heap.size + 1) →
      Q .normal (outM a p pa pb c d b1 b2 g P cap bd od n2 c2 m1 d1 m2 d2 x q r wx.heap.size (.slice (some ⟨g', 0, none⟩) (P + 1) cap')) (w7.setCell ⟨p, 2, none⟩ (.slice (some ⟨g', 0, none⟩) (P + 1) cap'))) :
    (Code.region 7 opsM true).wp Try.prog Q a W := by
  have hb0 : Below W.heap.size W { W with drawn := W.drawn + 1 } := (Below.refl _ _).drew
  have hS0 := HK _ hb0
  obtain ⟨i0, hi, hz0, hz1, hz2⟩ := info_parts info_int
  refine wp_region_L S 19 (by kernel_rfl) ?_
  show wpAnyL _ _ _ _ _ _ (19 + 1) _ _ _
  refine wpAnyL_put 0 29 (.pointer (some ⟨p, 2, none⟩)) rfl rfl (by kernel_rfl) (by kernel_rfl) (by kernel_rfl) (by kernel_rfl) hQ rfl (fun w hw => mF (.tmp 6) p 2 (by omega) rfl h6 w) hS0 ?_
  refine wpAnyL_put 1 30 (.slice (some ⟨g, 0, none⟩) P cap) rfl rfl (by kernel_rfl) (by kernel_rfl) (by kernel_rfl) (by kernel_rfl) hQ rfl (fun w hw => mL (.tmp 29) _ rfl (eval_eq (by omega)) w (hS w hw).1) hS0 ?_
  refine wpAnyL_put 2 31 (.agg #[.bool d, .slice b1 m1 d1, .slice b2 m2 d2]) rfl rfl (by kernel_rfl) (by kernel_rfl) (by kernel_rfl) (by kernel_rfl) hQ rfl (fun w hw => mA (.tmp 3) pb rfl (by rw [eval_ne (by decide), eval_ne (by decide)]; exact h3) w (hS w hw).2.2.1 (hS w hw).2.2.2.1 (hS w hw).2.2.2.2.1) hS0 ?_
  refine wpAnyL_put 3 32 (.pointer (some ⟨pa, 2, none⟩)) rfl rfl (by kernel_rfl) (by kernel_rfl) (by kernel_rfl) (by kernel_rfl) hQ rfl (fun w hw => mF (.tmp 2) pa 2 (by omega) rfl (by rw [eval_ne (by decide), eval_ne (by decide), eval_ne (by decide)]; exact h2) w) hS0 ?_
  refine wpAnyL_put 4 33 (.slice (some ⟨bd, od, none⟩) n2 c2) rfl rfl (by kernel_rfl) (by kernel_rfl) (by kernel_rfl) (by kernel_rfl) hQ rfl (fun w hw => mL (.tmp 32) _ rfl (eval_eq (by rw [put_size, put_size, put_size]; omega)) w (hS w hw).2.2.2.2.2.1) hS0 ?_
  refine wpAnyL_put 5 34 (.int .i64 (P : Nat)) rfl rfl (by kernel_rfl) (by kernel_rfl) (by kernel_rfl) (by kernel_rfl) hQ rfl (fun w hw => mM (.tmp 7) rfl (by rw [eval_ne (by decide), eval_ne (by decide), eval_ne (by decide), eval_ne (by decide), eval_ne (by decide)]; exact h7) w) hS0 ?_
  refine wpAnyL_put 6 35 (.pointer (some ⟨bd, od + P, none⟩)) rfl rfl (by kernel_rfl) (by kernel_rfl) (by kernel_rfl) (by kernel_rfl) hQ rfl (fun w hw => mX (.tmp 33) (.tmp 34) rfl (by rw [eval_ne (by decide)]; exact eval_eq (by rw [put_size, put_size, put_size, put_size]; omega)) (eval_eq (by rw [put_size, put_size, put_size, put_size, put_size]; omega)) hP w) hS0 ?_
  refine wpAnyL_put 7 36 (.int .i64 x) rfl rfl (by kernel_rfl) (by kernel_rfl) (by kernel_rfl) (by kernel_rfl) hQ rfl (fun w hw => mI (.tmp 35) _ rfl (eval_eq (by rw [put_size, put_size, put_size, put_size, put_size, put_size]; omega)) w (hS w hw).2.2.2.2.2.2.2) hS0 ?_
  refine wpAnyL_put 8 37 (.pointer (some ⟨pa, 0, none⟩)) rfl rfl (by kernel_rfl) (by kernel_rfl) (by kernel_rfl) (by kernel_rfl) hQ rfl (fun w hw => mF0 (.tmp 2) pa rfl (by rw [eval_ne (by decide), eval_ne (by decide), eval_ne (by decide), eval_ne (by decide), eval_ne (by decide), eval_ne (by decide), eval_ne (by decide), eval_ne (by decide)]; exact h2) w) hS0 ?_
  refine wpAnyL_put 9 38 (.bool c) rfl rfl (by kernel_rfl) (by kernel_rfl) (by kernel_rfl) (by kernel_rfl) hQ rfl (fun w hw => mB (.tmp 37) _ rfl (eval_eq (by rw [put_size, put_size, put_size, put_size, put_size, put_size, put_size, put_size]; omega)) w (hS w hw).2.2.2.2.2.2.1) hS0 ?_
  refine wpAnyL_put 11 40 (.pointer (some ⟨pb, 2, none⟩)) rfl rfl (by kernel_rfl) (by kernel_rfl) (by kernel_rfl) (by kernel_rfl) hQ rfl (fun w hw => mF (.tmp 3) pb 2 (by omega) rfl (by rw [eval_ne (by decide), eval_ne (by decide), eval_ne (by decide), eval_ne (by decide), eval_ne (by decide), eval_ne (by decide), eval_ne (by decide), eval_ne (by decide), eval_ne (by decide), eval_ne (by decide)]; exact h3) w) hS0 ?_
  refine wpAnyL_put 12 41 (.slice b2 m2 d2) rfl rfl (by kernel_rfl) (by kernel_rfl) (by kernel_rfl) (by kernel_rfl) hQ rfl (fun w hw => mL (.tmp 40) _ rfl (eval_eq (by rw [put_size, put_size, put_size, put_size, put_size, put_size, put_size, put_size, put_size, put_size]; omega)) w (hS w hw).2.2.2.2.1) hS0 ?_
  refine wpAnyL_put 13 42 (.int .i64 (m2 : Nat)) rfl rfl (by kernel_rfl) (by kernel_rfl) (by kernel_rfl) (by kernel_rfl) hQ rfl (fun w hw => mN 41 rfl (eval_eq (by rw [put_size, put_size, put_size, put_size, put_size, put_size, put_size, put_size, put_size, put_size, put_size]; omega)) w) hS0 ?_
  refine wpAnyL_one (i := 10) (by kernel_rfl) ?_
  refine op_wp rfl rfl ?_
  have q1 : (((((((((((((a.put (some 29) (.pointer (some ⟨p, 2, none⟩))).put (some 30) (.slice (some ⟨g, 0, none⟩) P cap)).put (some 31) (.agg #[.bool d, .slice b1 m1 d1, .slice b2 m2 d2])).put (some 32) (.pointer (some ⟨pa, 2, none⟩))).put (some 33) (.slice (some ⟨bd, od, none⟩) n2 c2)).put (some 34) (.int .i64 (P : Nat))).put (some 35) (.pointer (some ⟨bd, od + P, none⟩))).put (some 36) (.int .i64 x)).put (some 37) (.pointer (some ⟨pa, 0, none⟩))).put (some 38) (.bool c)).put (some 40) (.pointer (some ⟨pb, 2, none⟩))).put (some 41) (.slice b2 m2 d2)).put (some 42) (.int .i64 (m2 : Nat))).eval (.tmp 31) = .agg #[.bool d, .slice b1 m1 d1, .slice b2 m2 d2] := (by rw [eval_ne (by decide), eval_ne (by decide), eval_ne (by decide), eval_ne (by decide), eval_ne (by decide), eval_ne (by decide), eval_ne (by decide), eval_ne (by decide), eval_ne (by decide), eval_ne (by decide)]; exact eval_eq (by rw [put_size, put_size]; omega))
  have q2 : (((((((((((((a.put (some 29) (.pointer (some ⟨p, 2, none⟩))).put (some 30) (.slice (some ⟨g, 0, none⟩) P cap)).put (some 31) (.agg #[.bool d, .slice b1 m1 d1, .slice b2 m2 d2])).put (some 32) (.pointer (some ⟨pa, 2, none⟩))).put (some 33) (.slice (some ⟨bd, od, none⟩) n2 c2)).put (some 34) (.int .i64 (P : Nat))).put (some 35) (.pointer (some ⟨bd, od + P, none⟩))).put (some 36) (.int .i64 x)).put (some 37) (.pointer (some ⟨pa, 0, none⟩))).put (some 38) (.bool c)).put (some 40) (.pointer (some ⟨pb, 2, none⟩))).put (some 41) (.slice b2 m2 d2)).put (some 42) (.int .i64 (m2 : Nat))).eval (.tmp 36) = .int .i64 x := (by rw [eval_ne (by decide), eval_ne (by decide), eval_ne (by decide), eval_ne (by decide), eval_ne (by decide)]; exact eval_eq (by rw [put_size, put_size, put_size, put_size, put_size, put_size, put_size]; omega))
  have q3 : (((((((((((((a.put (some 29) (.pointer (some ⟨p, 2, none⟩))).put (some 30) (.slice (some ⟨g, 0, none⟩) P cap)).put (some 31) (.agg #[.bool d, .slice b1 m1 d1, .slice b2 m2 d2])).put (some 32) (.pointer (some ⟨pa, 2, none⟩))).put (some 33) (.slice (some ⟨bd, od, none⟩) n2 c2)).put (some 34) (.int .i64 (P : Nat))).put (some 35) (.pointer (some ⟨bd, od + P, none⟩))).put (some 36) (.int .i64 x)).put (some 37) (.pointer (some ⟨pa, 0, none⟩))).put (some 38) (.bool c)).put (some 40) (.pointer (some ⟨pb, 2, none⟩))).put (some 41) (.slice b2 m2 d2)).put (some 42) (.int .i64 (m2 : Nat))).eval (.tmp 38) = .bool c := (by rw [eval_ne (by decide), eval_ne (by decide), eval_ne (by decide)]; exact eval_eq (by rw [put_size, put_size, put_size, put_size, put_size, put_size, put_size, put_size, put_size]; omega))
  have q4 : (((((((((((((a.put (some 29) (.pointer (some ⟨p, 2, none⟩))).put (some 30) (.slice (some ⟨g, 0, none⟩) P cap)).put (some 31) (.agg #[.bool d, .slice b1 m1 d1, .slice b2 m2 d2])).put (some 32) (.pointer (some ⟨pa, 2, none⟩))).put (some 33) (.slice (some ⟨bd, od, none⟩) n2 c2)).put (some 34) (.int .i64 (P : Nat))).put (some 35) (.pointer (some ⟨bd, od + P, none⟩))).put (some 36) (.int .i64 x)).put (some 37) (.pointer (some ⟨pa, 0, none⟩))).put (some 38) (.bool c)).put (some 40) (.pointer (some ⟨pb, 2, none⟩))).put (some 41) (.slice b2 m2 d2)).put (some 42) (.int .i64 (m2 : Nat))).eval (.tmp 30) = .slice (some ⟨g, 0, none⟩) P cap := (by rw [eval_ne (by decide), eval_ne (by decide), eval_ne (by decide), eval_ne (by decide), eval_ne (by decide), eval_ne (by decide), eval_ne (by decide), eval_ne (by decide), eval_ne (by decide), eval_ne (by decide), eval_ne (by decide)]; exact eval_eq (by rw [put_size]; omega))
  have q5 : (((((((((((((a.put (some 29) (.pointer (some ⟨p, 2, none⟩))).put (some 30) (.slice (some ⟨g, 0, none⟩) P cap)).put (some 31) (.agg #[.bool d, .slice b1 m1 d1, .slice b2 m2 d2])).put (some 32) (.pointer (some ⟨pa, 2, none⟩))).put (some 33) (.slice (some ⟨bd, od, none⟩) n2 c2)).put (some 34) (.int .i64 (P : Nat))).put (some 35) (.pointer (some ⟨bd, od + P, none⟩))).put (some 36) (.int .i64 x)).put (some 37) (.pointer (some ⟨pa, 0, none⟩))).put (some 38) (.bool c)).put (some 40) (.pointer (some ⟨pb, 2, none⟩))).put (some 41) (.slice b2 m2 d2)).put (some 42) (.int .i64 (m2 : Nat))).eval (.tmp 42) = .int .i64 (m2 : Nat) := (eval_eq (by rw [put_size, put_size, put_size, put_size, put_size, put_size, put_size, put_size, put_size, put_size, put_size, put_size]; omega))
  have q6 : (((((((((((((a.put (some 29) (.pointer (some ⟨p, 2, none⟩))).put (some 30) (.slice (some ⟨g, 0, none⟩) P cap)).put (some 31) (.agg #[.bool d, .slice b1 m1 d1, .slice b2 m2 d2])).put (some 32) (.pointer (some ⟨pa, 2, none⟩))).put (some 33) (.slice (some ⟨bd, od, none⟩) n2 c2)).put (some 34) (.int .i64 (P : Nat))).put (some 35) (.pointer (some ⟨bd, od + P, none⟩))).put (some 36) (.int .i64 x)).put (some 37) (.pointer (some ⟨pa, 0, none⟩))).put (some 38) (.bool c)).put (some 40) (.pointer (some ⟨pb, 2, none⟩))).put (some 41) (.slice b2 m2 d2)).put (some 42) (.int .i64 (m2 : Nat))).eval (.tmp 6) = .pointer (some ⟨p, 0, none⟩) := (by rw [eval_ne (by decide), eval_ne (by decide), eval_ne (by decide), eval_ne (by decide), eval_ne (by decide), eval_ne (by decide), eval_ne (by decide), eval_ne (by decide), eval_ne (by decide), eval_ne (by decide), eval_ne (by decide), eval_ne (by decide), eval_ne (by decide)]; exact h6)
  have q7 : 49 ≤ (((((((((((((a.put (some 29) (.pointer (some ⟨p, 2, none⟩))).put (some 30) (.slice (some ⟨g, 0, none⟩) P cap)).put (some 31) (.agg #[.bool d, .slice b1 m1 d1, .slice b2 m2 d2])).put (some 32) (.pointer (some ⟨pa, 2, none⟩))).put (some 33) (.slice (some ⟨bd, od, none⟩) n2 c2)).put (some 34) (.int .i64 (P : Nat))).put (some 35) (.pointer (some ⟨bd, od + P, none⟩))).put (some 36) (.int .i64 x)).put (some 37) (.pointer (some ⟨pa, 0, none⟩))).put (some 38) (.bool c)).put (some 40) (.pointer (some ⟨pb, 2, none⟩))).put (some 41) (.slice b2 m2 d2)).put (some 42) (.int .i64 (m2 : Nat))).tmps.size := by rw [put_size, put_size, put_size, put_size, put_size, put_size, put_size, put_size, put_size, put_size, put_size, put_size, put_size]; exact hsz
  unfold outM at hend
  generalize (((((((((((((a.put (some 29) (.pointer (some ⟨p, 2, none⟩))).put (some 30) (.slice (some ⟨g, 0, none⟩) P cap)).put (some 31) (.agg #[.bool d, .slice b1 m1 d1, .slice b2 m2 d2])).put (some 32) (.pointer (some ⟨pa, 2, none⟩))).put (some 33) (.slice (some ⟨bd, od, none⟩) n2 c2)).put (some 34) (.int .i64 (P : Nat))).put (some 35) (.pointer (some ⟨bd, od + P, none⟩))).put (some 36) (.int .i64 x)).put (some 37) (.pointer (some ⟨pa, 0, none⟩))).put (some 38) (.bool c)).put (some 40) (.pointer (some ⟨pb, 2, none⟩))).put (some 41) (.slice b2 m2 d2)).put (some 42) (.int .i64 (m2 : Nat))) = A at *
  refine mCall3 31 36 38 rfl q1 q2 q3 ((HC _ hb0).mono ?_)
  rintro e w2 ⟨rfl, hb2⟩
  have hbw : Below W.heap.size W w2 := hb0.trans hb2
  have hS2 := HK _ hbw
  refine ⟨fun _ => hS2, ?_⟩
  show wpAnyL _ _ _ _ _ _ (5 + 1) _ (A.put (some 39) _) _
  refine wpAnyL_put 14 43 (.bool r) rfl rfl (by kernel_rfl) (by kernel_rfl) (by kernel_rfl) (by kernel_rfl) hQ rfl (fun w hw => mLt (.tmp 39) (.tmp 42) rfl (eval_eq (by omega)) (by rw [eval_ne (by decide)]; exact q5) hr w) hS2 ?_
  refine wpAnyL_one (i := 15) (by kernel_rfl) ?_
  refine op_wp rfl rfl ?_
  refine mCall1 43 rfl (eval_eq (by rw [put_size]; omega)) ((l4Truth_any r w2).mono ?_)
  rintro e w3 ⟨rfl, rfl⟩
  refine ⟨fun _ => hS2, ?_⟩
  show wpAnyL _ _ _ _ _ _ (3 + 1) _ (((A.put (some 39) _).put (some 43) _).put (some 44) _) _
  refine wpAnyL_one (i := 16) (by kernel_rfl) ?_
  refine op_wp rfl rfl ?_
  unfold Oper.wp
  rw [mS1 44 rfl (eval_eq (by rw [put_size, put_size]; omega)) w3]
  have hbx : Below W.heap.size W (w3.alloc (.cells #[.int .i64 (truth r)] 3)) := hbw.alloc hbw.size _
  refine ⟨fun _ => HK _ hbx, ?_⟩
  show wpAnyL _ _ _ _ _ _ (2 + 1) _ ((((A.put (some 39) _).put (some 43) _).put (some 44) _).put (some 45) _) _
  refine wpAnyL_one (i := 17) (by kernel_rfl) ?_
  refine op_wp rfl rfl ?_
  refine wp_append_lies _ (.tmp 30) (.tmp 45) 22 rfl base 3 i0 (.int .i64 0) 1 8 Try.underlying22 hi hz0 hz1 hz2 rfl (by decide) (.slice (some ⟨g, 0, none⟩) P cap) P xs (by rw [eval_ne (by decide), eval_ne (by decide), eval_ne (by decide), eval_ne (by decide)]; exact q4) (owns_below hown (Nat.le_refl _) hbx) ⟨w3.heap.size, 0, none⟩ 1 1 [.int .i64 (truth r)] (eval_eq (by rw [put_size, put_size, put_size]; omega)) rfl (cells_new _ _) (one_one _) (by omega) (by unfold maxLen; omega) (by omega) (by have := hbw.size; simp; omega) (w3.heap.size + 1) (by simp) ?_
  intro g' cap' w7 hown7 hgrow hat hlt
  have hS7 := HA w3 w7 hbw hgrow
  refine ⟨fun _ => hS7, ?_⟩
  show wpAnyL _ _ _ _ _ _ (1 + 1) _ (((((A.put (some 39) _).put (some 43) _).put (some 44) _).put (some 45) _).put (some 46) _) _
  refine wpAnyL_put 18 47 (.pointer (some ⟨p, 2, none⟩)) rfl rfl (by kernel_rfl) (by kernel_rfl) (by kernel_rfl) (by kernel_rfl) hQ rfl (fun w hw => mF (.tmp 6) p 2 (by omega) rfl (by rw [eval_ne (by decide), eval_ne (by decide), eval_ne (by decide), eval_ne (by decide), eval_ne (by decide)]; exact q6) w) hS7 ?_
  refine wpAnyL_one (i := 19) (by kernel_rfl) ?_
  refine op_wp rfl rfl ?_
  unfold Oper.wp
  rw [mSt (.tmp 47) (.tmp 46) p (s := some ⟨g', 0, none⟩) (l := P + 1) (c := cap') rfl (eval_eq (by rw [put_size, put_size, put_size, put_size, put_size]; omega)) (by rw [eval_ne (by decide)]; exact eval_eq (by rw [put_size, put_size, put_size, put_size]; omega)) w7 (hS w7 hS7).1 (hS w7 hS7).2.1]
  refine ⟨fun h => absurd rfl h, ?_⟩
  refine wpAnyL_done (by kernel_rfl) ?_ _
  exact hend w3 g' cap' w7 hbw hown7 hgrow hat

end Go.Proofs.Ytogmcecnckgcpaa
