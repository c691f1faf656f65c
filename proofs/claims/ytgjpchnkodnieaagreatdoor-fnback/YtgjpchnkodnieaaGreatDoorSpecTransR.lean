import Derived.Test.YtgjpchnkodnieaaGreatDoorMFit1
import Derived.Test.YtgjpchnkodnieaaGreatDoorSpecPlace
import Derived.Test.YtgjpchnkodnieaaGreatDoorSpecCopyO
import Derived.Deep.AppendLies
namespace Go.Proofs.YtgjpchnkodnieaaGreatDoor
open Go.RowKit

/-- The statement that appends an element that l5At finds. -/
def opsT : Array Oper :=
  #[{ dst := some 115, op := Op.fieldAddr 25 (Operand.tmp 8) 2, type := 0, pos := "l5_shape.go:187", after := #[], guard := none },
    { dst := some 116, op := Op.load 23 (Operand.tmp 115), type := 23, pos := "l5_shape.go:187", after := #[{ on := 0, ground := Ground.data }], guard := none },
    { dst := some 117, op := Op.fieldAddr 25 (Operand.tmp 3) 2, type := 0, pos := "l5_shape.go:187", after := #[], guard := none },
    { dst := some 118, op := Op.load 23 (Operand.tmp 117), type := 23, pos := "l5_shape.go:187", after := #[{ on := 2, ground := Ground.data }], guard := none },
    { dst := some 119, op := Op.fieldAddr 25 (Operand.tmp 3) 1, type := 0, pos := "l5_shape.go:187", after := #[], guard := none },
    { dst := some 120, op := Op.load 23 (Operand.tmp 119), type := 23, pos := "l5_shape.go:187", after := #[{ on := 4, ground := Ground.data }], guard := none },
    { dst := some 121, op := Op.move (Operand.tmp 14), type := 23, pos := "l5_shape.go:187", after := #[], guard := none },
    { dst := some 122, op := Op.call { callee := Callee.value (Operand.func 56), args := #[Operand.tmp 120, Operand.tmp 121], argTypes := #[23, 23] }, type := 3, pos := "l5_shape.go:187", after := #[{ on := 5, ground := Ground.data }, { on := 6, ground := Ground.data }], guard := none },
    { dst := some 123, op := Op.indexAddr 23 (Operand.tmp 118) (Operand.tmp 122), type := 0, pos := "l5_shape.go:187", after := #[{ on := 3, ground := Ground.data }, { on := 7, ground := Ground.data }], guard := none },
    { dst := some 124, op := Op.load 3 (Operand.tmp 123), type := 3, pos := "l5_shape.go:187", after := #[{ on := 8, ground := Ground.data }], guard := none },
    { dst := some 125, op := Op.buildSlice 23 1 #[(0, Operand.tmp 124)], type := 23, pos := "l5_shape.go:187", after := #[{ on := 9, ground := Ground.data }], guard := none },
    { dst := some 126, op := Op.call { callee := Callee.builtin Builtin.append, args := #[Operand.tmp 116, Operand.tmp 125], argTypes := #[23, 23] }, type := 23, pos := "l5_shape.go:187", after := #[{ on := 1, ground := Ground.data }, { on := 10, ground := Ground.data }, { on := 7, ground := Ground.chain }], guard := none },
    { dst := some 127, op := Op.fieldAddr 25 (Operand.tmp 8) 2, type := 0, pos := "l5_shape.go:187", after := #[{ on := 0, ground := Ground.phase }, { on := 1, ground := Ground.phase }, { on := 2, ground := Ground.phase }, { on := 3, ground := Ground.phase }, { on := 4, ground := Ground.phase }, { on := 5, ground := Ground.phase }, { on := 6, ground := Ground.phase }, { on := 7, ground := Ground.phase }, { on := 8, ground := Ground.phase }, { on := 9, ground := Ground.phase }, { on := 10, ground := Ground.phase }, { on := 11, ground := Ground.phase }], guard := none },
    { dst := none, op := Op.store 23 (Operand.tmp 127) (Operand.tmp 126), type := 0, pos := "l5_shape.go:187", after := #[{ on := 12, ground := Ground.data }, { on := 11, ground := Ground.data }, { on := 11, ground := Ground.chain }, { on := 0, ground := Ground.phase }, { on := 1, ground := Ground.phase }, { on := 2, ground := Ground.phase }, { on := 3, ground := Ground.phase }, { on := 4, ground := Ground.phase }, { on := 5, ground := Ground.phase }, { on := 6, ground := Ground.phase }, { on := 7, ground := Ground.phase }, { on := 8, ground := Ground.phase }, { on := 9, ground := Ground.phase }, { on := 10, ground := Ground.phase }, { on := 11, ground := Ground.phase }], guard := none }]

section
variable {o : Oper} {a : Act}
theorem runF (x : Operand) (b k : Nat) (hk : k = 1 ∨ k = 2) (ho : o.op = .fieldAddr 25 x k) (hx : a.eval x = .pointer (some ⟨b, 0, none⟩)) (w : World) : (execOp a.eval o).run Tryz.prog w = .ok (.value (.pointer (some ⟨b, k, none⟩))) w := by
  unfold execOp
  rcases hk with rfl | rfl
  · simp only [ho, hx]
    go_simp
  · simp only [ho, hx]
    go_simp

theorem runL (x : Operand) (p : Addr) {s : Option Addr} {l c : Nat} (ho : o.op = .load 23 x) (hx : a.eval x = .pointer (some p)) (w : World) (hc : w.cell? p = some (.slice s l c)) : (execOp a.eval o).run Tryz.prog w = .ok (.value (.slice s l c)) w := by
  unfold execOp
  simp only [ho, hx]
  go_simp

theorem runI (x : Operand) (p : Addr) {z : Int} (ho : o.op = .load 3 x) (hx : a.eval x = .pointer (some p)) (w : World) (hc : w.cell? p = some (.int .i64 z)) : (execOp a.eval o).run Tryz.prog w = .ok (.value (.int .i64 z)) w := by
  unfold execOp
  simp only [ho, hx]
  go_simp

theorem runM (x : Operand) {v : Value} (ho : o.op = .move x) (hx : a.eval x = v) (w : World) : (execOp a.eval o).run Tryz.prog w = .ok (.value v) w := by
  unfold execOp
  simp only [ho, hx]
  go_simp

theorem runX (x y : Operand) {b off m c J : Nat} (ho : o.op = .indexAddr 23 x y) (hx : a.eval x = .slice (some ⟨b, off, none⟩) m c) (hy : a.eval y = .int .i64 (J : Nat)) (hJ : J < m) (w : World) : (execOp a.eval o).run Tryz.prog w = .ok (.value (.pointer (some ⟨b, off + J, none⟩))) w := by
  have h1 : (J : Int) < (m : Int) := by omega
  unfold execOp
  simp only [ho, hx, hy]
  go_simp

theorem runB (t : Nat) {z : Int} (ho : o.op = .buildSlice 23 1 #[(0, .tmp t)]) (hx : a.eval (.tmp t) = .int .i64 z) (w : World) : (execOp a.eval o).run Tryz.prog w = .ok (.value (.slice (some ⟨w.heap.size, 0, none⟩) 1 1)) (w.alloc (.cells #[.int .i64 z] 3)) := by
  have hx' : a.tmps[t]?.getD undef = .int .i64 z := by simpa [Act.eval] using hx
  unfold execOp
  simp only [ho]
  go_simp

theorem runS (x y : Operand) (p : Nat) {v1 : Value} {s : Option Addr} {l c : Nat} (ho : o.op = .store 23 x y) (hx : a.eval x = .pointer (some ⟨p, 2, none⟩)) (hy : a.eval y = .slice s l c) (w : World) (hc : w.cell? ⟨p, 2, none⟩ = some v1) (hf : w.frozen? ⟨p, 2, none⟩ = false) : (execOp a.eval o).run Tryz.prog w = .ok .skip (w.setCell ⟨p, 2, none⟩ (.slice s l c)) := by
  unfold execOp
  simp only [ho, hx, hy]
  go_simp
end

theorem runC {K : Act → World → Prop} {Q : Exit → Act → World → Prop} {o : Oper} {a : Act} {w : World} (x y : Operand) {u v : Value} (ho : o.op = .call { callee := .value (.func 56), args := #[x, y], argTypes := #[23, 23] }) (hx : a.eval x = u) (hy : a.eval y = v)
    (h : Calls Tryz.prog 56 #[u, v] w fun | .returned r, w' => K (a.put o.dst r) w' | .panicked c, w' => Q (.panic c) a w' | .outgrown, _ => LetsOut Q) : o.wp Tryz.prog a w K Q := by
  have e : (execOp a.eval o).run Tryz.prog w = .ok (.enter 56 #[u, v]) w := by
    unfold execOp
    simp only [ho]
    go_simp
    rw [← hx, ← hy]
    exact ⟨by cases x <;> simp [Act.eval], by cases y <;> simp [Act.eval]⟩
  unfold Oper.wp
  rw [e]
  exact h

/-- The frame behind the statement. -/
def outT (a : Act) (p b5 : Nat) (vO vD vS vF : Value) (J : Nat) (pd : Addr) (x : Int) (hb : Nat) (v' : Value) : Act :=
  ((((((((((((a.put (some 115) (.pointer (some ⟨p, 2, none⟩))).put (some 116) vO).put (some 117) (.pointer (some ⟨b5, 2, none⟩))).put (some 118) vD).put (some 119) (.pointer (some ⟨b5, 1, none⟩))).put (some 120) vS).put (some 121) vF).put (some 122) (.int .i64 (J : Nat))).put (some 123) (.pointer (some pd))).put (some 124) (.int .i64 x)).put (some 125) (.slice (some ⟨hb, 0, none⟩) 1 1)).put (some 126) v').put (some 127) (.pointer (some ⟨p, 2, none⟩))

set_option maxHeartbeats 4000000 in
set_option maxRecDepth 20000 in
theorem regionT {Q : Exit → Act → World → Prop} (a : Act) (W : World) (hsz : 129 ≤ a.tmps.size) (p b5 : Nat) (h8 : a.eval (.tmp 8) = .pointer (some ⟨p, 0, none⟩)) (h3 : a.eval (.tmp 3) = .pointer (some ⟨b5, 0, none⟩)) (vF : Value) (h14 : a.eval (.tmp 14) = vF)
    (g P cap : Nat) (xs : List Value) (bd od m2 d2 J : Nat) (b1 : Option Addr) (n d1 : Nat) (x : Int) (base : Nat) (hJ : J < m2) (hP : P ≤ 1000000) (S : World → Prop)
    (hS : ∀ wx, S wx → wx.cell? ⟨p, 2, none⟩ = some (.slice (some ⟨g, 0, none⟩) P cap) ∧ wx.cell? ⟨b5, 2, none⟩ = some (.slice (some ⟨bd, od, none⟩) m2 d2) ∧ wx.cell? ⟨b5, 1, none⟩ = some (.slice b1 n d1) ∧ wx.cell? ⟨bd, od + J, none⟩ = some (.int .i64 x) ∧ wx.frozen? ⟨p, 2, none⟩ = false)
    (HK : ∀ wx, Below W.heap.size W wx → S wx)
    (HC : ∀ wx, Below W.heap.size W wx → Calls Tryz.prog 56 #[.slice b1 n d1, vF] wx fun e w' => e = .returned (.int .i64 (J : Nat)) ∧ Below wx.heap.size wx w')
    (hown : W.ownsRow base 3 1 (.slice (some ⟨g, 0, none⟩) P cap) P xs) (hbase : base ≤ W.heap.size)
    (HA : ∀ wx w7, Below W.heap.size W wx → (wx.alloc (.cells #[.int .i64 x] 3)).grownBy w7 (some g) → S w7)
    (hQ : ∀ c a (d : Nat) v w, Q (.panic c) (a.put (some d) v) w → Q (.panic c) a w)
    (hend : ∀ wx g' cap' w7, Below W.heap.size W wx → w7.ownsRow base 3 1 (.slice (some ⟨g', 0, none⟩) (P + 1) cap') (P + 1) (xs ++ [.int .i64 x]) → (wx.alloc (.cells #[.int .i64 x] 3)).grownBy w7 (Value.ownBlock (.slice (some ⟨g, 0, none⟩) P cap)) → (Value.ownBlock (.slice (some ⟨g, 0, none⟩) P cap) = some g' ∨ g' = wx.heap.size + 1) →
      Q .normal (outT a p b5 (.slice (some ⟨g, 0, none⟩) P cap) (.slice (some ⟨bd, od, none⟩) m2 d2) (.slice b1 n d1) vF J ⟨bd, od + J, none⟩ x wx.heap.size (.slice (some ⟨g', 0, none⟩) (P + 1) cap')) (w7.setCell ⟨p, 2, none⟩ (.slice (some ⟨g', 0, none⟩) (P + 1) cap'))) :
    (Code.region 28 opsT true).wp Tryz.prog Q a W := by
  have hb0 : Below W.heap.size W { W with drawn := W.drawn + 1 } := (Below.refl _ _).drew
  have hS0 := HK _ hb0
  obtain ⟨i0, hi, hz0, hz1, hz2⟩ := info_parts info_int
  refine wp_region_L S 13 (by kernel_rfl) ?_
  show wpAnyL _ _ _ _ _ _ (13 + 1) _ _ _
  refine wpAnyL_put 0 115 (.pointer (some ⟨p, 2, none⟩)) rfl rfl (by kernel_rfl) (by kernel_rfl) (by kernel_rfl) (by kernel_rfl) hQ rfl (fun w _ => runF (.tmp 8) p 2 (.inr rfl) rfl h8 w) hS0 ?_
  refine wpAnyL_put 1 116 (.slice (some ⟨g, 0, none⟩) P cap) rfl rfl (by kernel_rfl) (by kernel_rfl) (by kernel_rfl) (by kernel_rfl) hQ rfl (fun w hw => runL (.tmp 115) _ rfl (eval_eq (by omega)) w (hS w hw).1) hS0 ?_
  refine wpAnyL_put 2 117 (.pointer (some ⟨b5, 2, none⟩)) rfl rfl (by kernel_rfl) (by kernel_rfl) (by kernel_rfl) (by kernel_rfl) hQ rfl (fun w _ => runF (.tmp 3) b5 2 (.inr rfl) rfl (by rw [eval_ne (by decide), eval_ne (by decide)]; exact h3) w) hS0 ?_
  refine wpAnyL_put 3 118 (.slice (some ⟨bd, od, none⟩) m2 d2) rfl rfl (by kernel_rfl) (by kernel_rfl) (by kernel_rfl) (by kernel_rfl) hQ rfl (fun w hw => runL (.tmp 117) _ rfl (eval_eq (by rw [put_size, put_size]; omega)) w (hS w hw).2.1) hS0 ?_
  refine wpAnyL_put 4 119 (.pointer (some ⟨b5, 1, none⟩)) rfl rfl (by kernel_rfl) (by kernel_rfl) (by kernel_rfl) (by kernel_rfl) hQ rfl (fun w _ => runF (.tmp 3) b5 1 (.inl rfl) rfl (by rw [eval_ne (by decide), eval_ne (by decide), eval_ne (by decide), eval_ne (by decide)]; exact h3) w) hS0 ?_
  refine wpAnyL_put 5 120 (.slice b1 n d1) rfl rfl (by kernel_rfl) (by kernel_rfl) (by kernel_rfl) (by kernel_rfl) hQ rfl (fun w hw => runL (.tmp 119) _ rfl (eval_eq (by rw [put_size, put_size, put_size, put_size]; omega)) w (hS w hw).2.2.1) hS0 ?_
  refine wpAnyL_put 6 121 (vF) rfl rfl (by kernel_rfl) (by kernel_rfl) (by kernel_rfl) (by kernel_rfl) hQ rfl (fun w _ => runM (.tmp 14) rfl (by rw [eval_ne (by decide), eval_ne (by decide), eval_ne (by decide), eval_ne (by decide), eval_ne (by decide), eval_ne (by decide)]; exact h14) w) hS0 ?_
  refine wpAnyL_one (i := 7) (by kernel_rfl) ?_
  refine op_wp rfl rfl ?_
  have q1 : (((((((a.put (some 115) (.pointer (some ⟨p, 2, none⟩))).put (some 116) (.slice (some ⟨g, 0, none⟩) P cap)).put (some 117) (.pointer (some ⟨b5, 2, none⟩))).put (some 118) (.slice (some ⟨bd, od, none⟩) m2 d2)).put (some 119) (.pointer (some ⟨b5, 1, none⟩))).put (some 120) (.slice b1 n d1)).put (some 121) vF).eval (.tmp 120) = .slice b1 n d1 := by
    rw [eval_ne (by decide)]; exact eval_eq (by rw [put_size, put_size, put_size, put_size, put_size]; omega)
  have q2 : (((((((a.put (some 115) (.pointer (some ⟨p, 2, none⟩))).put (some 116) (.slice (some ⟨g, 0, none⟩) P cap)).put (some 117) (.pointer (some ⟨b5, 2, none⟩))).put (some 118) (.slice (some ⟨bd, od, none⟩) m2 d2)).put (some 119) (.pointer (some ⟨b5, 1, none⟩))).put (some 120) (.slice b1 n d1)).put (some 121) vF).eval (.tmp 121) = vF := eval_eq (by rw [put_size, put_size, put_size, put_size, put_size, put_size]; omega)
  have q3 : (((((((a.put (some 115) (.pointer (some ⟨p, 2, none⟩))).put (some 116) (.slice (some ⟨g, 0, none⟩) P cap)).put (some 117) (.pointer (some ⟨b5, 2, none⟩))).put (some 118) (.slice (some ⟨bd, od, none⟩) m2 d2)).put (some 119) (.pointer (some ⟨b5, 1, none⟩))).put (some 120) (.slice b1 n d1)).put (some 121) vF).eval (.tmp 118) = .slice (some ⟨bd, od, none⟩) m2 d2 := by
    rw [eval_ne (by decide), eval_ne (by decide), eval_ne (by decide)]; exact eval_eq (by rw [put_size, put_size, put_size]; omega)
  have q4 : (((((((a.put (some 115) (.pointer (some ⟨p, 2, none⟩))).put (some 116) (.slice (some ⟨g, 0, none⟩) P cap)).put (some 117) (.pointer (some ⟨b5, 2, none⟩))).put (some 118) (.slice (some ⟨bd, od, none⟩) m2 d2)).put (some 119) (.pointer (some ⟨b5, 1, none⟩))).put (some 120) (.slice b1 n d1)).put (some 121) vF).eval (.tmp 116) = .slice (some ⟨g, 0, none⟩) P cap := by
    rw [eval_ne (by decide), eval_ne (by decide), eval_ne (by decide), eval_ne (by decide), eval_ne (by decide)]; exact eval_eq (by rw [put_size]; omega)
  have q5 : (((((((a.put (some 115) (.pointer (some ⟨p, 2, none⟩))).put (some 116) (.slice (some ⟨g, 0, none⟩) P cap)).put (some 117) (.pointer (some ⟨b5, 2, none⟩))).put (some 118) (.slice (some ⟨bd, od, none⟩) m2 d2)).put (some 119) (.pointer (some ⟨b5, 1, none⟩))).put (some 120) (.slice b1 n d1)).put (some 121) vF).eval (.tmp 8) = .pointer (some ⟨p, 0, none⟩) := by
    rw [eval_ne (by decide), eval_ne (by decide), eval_ne (by decide), eval_ne (by decide), eval_ne (by decide), eval_ne (by decide), eval_ne (by decide)]; exact h8
  have q6 : 129 ≤ (((((((a.put (some 115) (.pointer (some ⟨p, 2, none⟩))).put (some 116) (.slice (some ⟨g, 0, none⟩) P cap)).put (some 117) (.pointer (some ⟨b5, 2, none⟩))).put (some 118) (.slice (some ⟨bd, od, none⟩) m2 d2)).put (some 119) (.pointer (some ⟨b5, 1, none⟩))).put (some 120) (.slice b1 n d1)).put (some 121) vF).tmps.size := by
    rw [put_size, put_size, put_size, put_size, put_size, put_size, put_size]; exact hsz
  unfold outT at hend
  generalize (((((((a.put (some 115) (.pointer (some ⟨p, 2, none⟩))).put (some 116) (.slice (some ⟨g, 0, none⟩) P cap)).put (some 117) (.pointer (some ⟨b5, 2, none⟩))).put (some 118) (.slice (some ⟨bd, od, none⟩) m2 d2)).put (some 119) (.pointer (some ⟨b5, 1, none⟩))).put (some 120) (.slice b1 n d1)).put (some 121) vF) = A at *
  refine runC (.tmp 120) (.tmp 121) rfl q1 q2 ((HC _ hb0).mono ?_)
  rintro e w2 ⟨rfl, hb2⟩
  have hbw : Below W.heap.size W w2 := hb0.trans hb2
  have hS2 := HK _ hbw
  refine ⟨fun _ => hS2, ?_⟩
  show wpAnyL _ _ _ _ _ _ (5 + 1) _ (A.put (some 122) _) _
  refine wpAnyL_put 8 123 (.pointer (some ⟨bd, od + J, none⟩)) rfl rfl (by kernel_rfl) (by kernel_rfl) (by kernel_rfl) (by kernel_rfl) hQ rfl (fun w _ => runX (.tmp 118) (.tmp 122) rfl (by rw [eval_ne (by decide)]; exact q3) (eval_eq (by omega)) hJ w) hS2 ?_
  refine wpAnyL_put 9 124 (.int .i64 x) rfl rfl (by kernel_rfl) (by kernel_rfl) (by kernel_rfl) (by kernel_rfl) hQ rfl (fun w hw => runI (.tmp 123) _ rfl (eval_eq (by rw [put_size]; omega)) w (hS w hw).2.2.2.1) hS2 ?_
  refine wpAnyL_one (i := 10) (by kernel_rfl) ?_
  refine op_wp rfl rfl ?_
  unfold Oper.wp
  rw [runB 124 rfl (eval_eq (by rw [put_size, put_size]; omega)) w2]
  have hbx : Below W.heap.size W (w2.alloc (.cells #[.int .i64 x] 3)) := hbw.alloc hbw.size _
  refine ⟨fun _ => HK _ hbx, ?_⟩
  show wpAnyL _ _ _ _ _ _ (2 + 1) _ ((((A.put (some 122) _).put (some 123) _).put (some 124) _).put (some 125) _) _
  refine wpAnyL_one (i := 11) (by kernel_rfl) ?_
  refine op_wp rfl rfl ?_
  refine wp_append_lies _ (.tmp 116) (.tmp 125) 23 rfl base 3 i0 (.int .i64 0) 1 8 Tryz.underlying23 hi hz0 hz1 hz2 rfl (by decide) (.slice (some ⟨g, 0, none⟩) P cap) P xs (by rw [eval_ne (by decide), eval_ne (by decide), eval_ne (by decide), eval_ne (by decide)]; exact q4) (owns_below hown (Nat.le_refl _) hbx) ⟨w2.heap.size, 0, none⟩ 1 1 [.int .i64 x] (eval_eq (by rw [put_size, put_size, put_size]; omega)) rfl (cells_new _ _) (one_one _) (by omega) (by unfold maxLen; omega) (by omega) (by have := hbw.size; simp; omega) (w2.heap.size + 1) (by simp) ?_
  intro g' cap' w7 hown7 hgrow hat hlt
  have hS7 := HA w2 w7 hbw hgrow
  refine ⟨fun _ => hS7, ?_⟩
  show wpAnyL _ _ _ _ _ _ (1 + 1) _ (((((A.put (some 122) _).put (some 123) _).put (some 124) _).put (some 125) _).put (some 126) _) _
  refine wpAnyL_put 12 127 (.pointer (some ⟨p, 2, none⟩)) rfl rfl (by kernel_rfl) (by kernel_rfl) (by kernel_rfl) (by kernel_rfl) hQ rfl (fun w _ => runF (.tmp 8) p 2 (.inr rfl) rfl (by rw [eval_ne (by decide), eval_ne (by decide), eval_ne (by decide), eval_ne (by decide), eval_ne (by decide)]; exact q5) w) hS7 ?_
  refine wpAnyL_one (i := 13) (by kernel_rfl) ?_
  refine op_wp rfl rfl ?_
  unfold Oper.wp
  rw [runS (.tmp 127) (.tmp 126) p (s := some ⟨g', 0, none⟩) (l := P + 1) (c := cap') rfl (eval_eq (by rw [put_size, put_size, put_size, put_size, put_size]; omega)) (by rw [eval_ne (by decide)]; exact eval_eq (by rw [put_size, put_size, put_size, put_size]; omega)) w7 (hS w7 hS7).1 (hS w7 hS7).2.2.2.2]
  refine ⟨fun h => absurd rfl h, ?_⟩
  refine wpAnyL_done (by kernel_rfl) ?_ _
  exact hend w2 g' cap' w7 hbw hown7 hgrow hat

end Go.Proofs.YtgjpchnkodnieaaGreatDoor
