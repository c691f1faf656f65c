import Derived.Test.YtogmcecnckgcpaaDrawLaw
import Derived.Test.YtogmcecnckgcpaaCatStage
namespace Go.Proofs.Ytogmcecnckgcpaa
open Go.RowKit

section
variable {o : Oper} {a : Act}
theorem rcF (x : Operand) (b : Nat) (ho : o.op = .fieldAddr 27 x 2) (hx : a.eval x = .pointer (some ⟨b, 0, none⟩)) (w : World) : (execOp a.eval o).run Try.prog w = .ok (.value (.pointer (some ⟨b, 2, none⟩))) w := by
  unfold execOp
  simp only [ho, hx]
  go_simp

theorem rcL (x : Operand) (p : Addr) {s : Option Addr} {l c : Nat} (ho : o.op = .load 22 x) (hx : a.eval x = .pointer (some p)) (w : World) (hc : w.cell? p = some (.slice s l c)) : (execOp a.eval o).run Try.prog w = .ok (.value (.slice s l c)) w := by
  unfold execOp
  simp only [ho, hx]
  go_simp

theorem rcM (x : Operand) {v : Value} (ho : o.op = .move x) (hx : a.eval x = v) (w : World) : (execOp a.eval o).run Try.prog w = .ok (.value v) w := by
  unfold execOp
  simp only [ho, hx]
  go_simp

theorem rcMul (x y : Operand) {i j k : Int} (ho : o.op = .binOp .mul 3 x y 3) (hx : a.eval x = .int .i64 i) (hy : a.eval y = .int .i64 j) (hk : IntKind.i64.wrap (i * j) = k) (w : World) : (execOp a.eval o).run Try.prog w = .ok (.value (.int .i64 k)) w := by
  unfold execOp
  simp only [ho, hx, hy]
  go_simp

theorem rcAdd (x y : Operand) {i j k : Int} (ho : o.op = .binOp .add 3 x y 3) (hx : a.eval x = .int .i64 i) (hy : a.eval y = .int .i64 j) (hk : IntKind.i64.wrap (i + j) = k) (w : World) : (execOp a.eval o).run Try.prog w = .ok (.value (.int .i64 k)) w := by
  unfold execOp
  simp only [ho, hx, hy]
  go_simp

theorem rcSl (x : Operand) (ty tz : Nat) {A AX : Addr} {l e u v m : Nat} (ho : o.op = .slice 22 x (some (.tmp ty)) (some (.tmp tz)) none) (hx : a.eval x = .slice (some A) l e) (hy : a.eval (.tmp ty) = .int .i64 (u : Nat)) (hz : a.eval (.tmp tz) = .int .i64 (v : Nat)) (hle : v ≤ e) (huv : u ≤ v) (hm : v - u = m) (hA : (if e = u then some A else some (A.add u)) = some AX) (w : World) : (execOp a.eval o).run Try.prog w = .ok (.value (.slice (some AX) m (e - u))) w := by
  have h1 : (v : Int) ≤ (e : Int) := by omega
  have hy' : a.tmps[ty]?.getD undef = .int .i64 (u : Nat) := by simpa [Act.eval] using hy
  have hz' : a.tmps[tz]?.getD undef = .int .i64 (v : Nat) := by simpa [Act.eval] using hz
  unfold execOp
  simp only [ho, hx]
  go_simp

theorem rcS (x y : Operand) (p : Nat) {v1 : Value} {s : Option Addr} {l c : Nat} (ho : o.op = .store 22 x y) (hx : a.eval x = .pointer (some ⟨p, 2, none⟩)) (hy : a.eval y = .slice s l c) (w : World) (hc : w.cell? ⟨p, 2, none⟩ = some v1) (hf : w.frozen? ⟨p, 2, none⟩ = false) : (execOp a.eval o).run Try.prog w = .ok .skip (w.setCell ⟨p, 2, none⟩ (.slice s l c)) := by
  unfold execOp
  simp only [ho, hx, hy]
  go_simp

theorem put_none {a : Act} {v : Value} : a.put none v = a := rfl

theorem wanted_none {o : Oper} {y : Nat → Option Bool} (h : o.guard = none) : Region.wanted o y = true := by simp [Region.wanted, h]
end

def oC32_0 : Oper := { dst := some 143, op := Op.fieldAddr 27 (Operand.tmp 14) 2, type := 0, pos := "l5_shape.go:97", after := #[], guard := none }
def oC32_1 : Oper := { dst := some 144, op := Op.load 22 (Operand.tmp 143), type := 22, pos := "l5_shape.go:97", after := #[{ on := 0, ground := Ground.data }], guard := none }
def oC32_2 : Oper := { dst := some 145, op := Op.fieldAddr 27 (Operand.tmp 2) 2, type := 0, pos := "l5_shape.go:97", after := #[], guard := none }
def oC32_3 : Oper := { dst := some 146, op := Op.load 22 (Operand.tmp 145), type := 22, pos := "l5_shape.go:97", after := #[{ on := 2, ground := Ground.data }], guard := none }
def oC32_4 : Oper := { dst := some 147, op := Op.move (Operand.tmp 15), type := 3, pos := "l5_shape.go:97", after := #[], guard := none }
def oC32_5 : Oper := { dst := some 148, op := Op.move (Operand.tmp 9), type := 3, pos := "l5_shape.go:97", after := #[], guard := none }
def oC32_6 : Oper := { dst := some 149, op := Op.binOp BinOp.mul 3 (Operand.tmp 147) (Operand.tmp 148) 3, type := 3, pos := "l5_shape.go:97", after := #[{ on := 4, ground := Ground.data }, { on := 5, ground := Ground.data }], guard := none }
def oC32_7 : Oper := { dst := some 150, op := Op.move (Operand.tmp 15), type := 3, pos := "l5_shape.go:97", after := #[], guard := none }
def oC32_8 : Oper := { dst := some 151, op := Op.move (Operand.tmp 9), type := 3, pos := "l5_shape.go:97", after := #[], guard := none }
def oC32_9 : Oper := { dst := some 152, op := Op.binOp BinOp.mul 3 (Operand.tmp 150) (Operand.tmp 151) 3, type := 3, pos := "l5_shape.go:97", after := #[{ on := 7, ground := Ground.data }, { on := 8, ground := Ground.data }], guard := none }
def oC32_10 : Oper := { dst := some 153, op := Op.move (Operand.tmp 9), type := 3, pos := "l5_shape.go:97", after := #[], guard := none }
def oC32_11 : Oper := { dst := some 154, op := Op.binOp BinOp.add 3 (Operand.tmp 152) (Operand.tmp 153) 3, type := 3, pos := "l5_shape.go:97", after := #[{ on := 9, ground := Ground.data }, { on := 10, ground := Ground.data }], guard := none }
def oC32_12 : Oper := { dst := some 155, op := Op.slice 22 (Operand.tmp 146) (some (Operand.tmp 149)) (some (Operand.tmp 154)) none, type := 22, pos := "l5_shape.go:97", after := #[{ on := 3, ground := Ground.data }, { on := 6, ground := Ground.data }, { on := 11, ground := Ground.data }], guard := none }
def oC32_13 : Oper := { dst := some 156, op := Op.call { callee := Callee.builtin Builtin.append, args := #[Operand.tmp 144, Operand.tmp 155], argTypes := #[22, 22] }, type := 22, pos := "l5_shape.go:97", after := #[{ on := 1, ground := Ground.data }, { on := 12, ground := Ground.data }], guard := none }
def oC32_14 : Oper := { dst := some 157, op := Op.fieldAddr 27 (Operand.tmp 14) 2, type := 0, pos := "l5_shape.go:97", after := #[{ on := 0, ground := Ground.phase }, { on := 1, ground := Ground.phase }, { on := 2, ground := Ground.phase }, { on := 3, ground := Ground.phase }, { on := 4, ground := Ground.phase }, { on := 5, ground := Ground.phase }, { on := 6, ground := Ground.phase }, { on := 7, ground := Ground.phase }, { on := 8, ground := Ground.phase }, { on := 9, ground := Ground.phase }, { on := 10, ground := Ground.phase }, { on := 11, ground := Ground.phase }, { on := 12, ground := Ground.phase }, { on := 13, ground := Ground.phase }], guard := none }
def oC32_15 : Oper := { dst := none, op := Op.store 22 (Operand.tmp 157) (Operand.tmp 156), type := 0, pos := "l5_shape.go:97", after := #[{ on := 14, ground := Ground.data }, { on := 13, ground := Ground.data }, { on := 13, ground := Ground.chain }, { on := 0, ground := Ground.phase }, { on := 1, ground := Ground.phase }, { on := 2, ground := Ground.phase }, { on := 3, ground := Ground.phase }, { on := 4, ground := Ground.phase }, { on := 5, ground := Ground.phase }, { on := 6, ground := Ground.phase }, { on := 7, ground := Ground.phase }, { on := 8, ground := Ground.phase }, { on := 9, ground := Ground.phase }, { on := 10, ground := Ground.phase }, { on := 11, ground := Ground.phase }, { on := 12, ground := Ground.phase }, { on := 13, ground := Ground.phase }], guard := none }

/-- Region 32. -/
def opsC32 : Array Oper := #[oC32_0, oC32_1, oC32_2, oC32_3, oC32_4, oC32_5, oC32_6, oC32_7, oC32_8, oC32_9, oC32_10, oC32_11, oC32_12, oC32_13, oC32_14, oC32_15]

def outC32 (a : Act) (p q g n cap : Nat) (A AX : Addr) (l e k xn u v : Nat) (v' : Value) : Act :=
  (((((((((((((((a.put (some 143) (.pointer (some ⟨p, 2, none⟩))).put (some 144) (.slice (some ⟨g, 0, none⟩) n cap)).put (some 145) (.pointer (some ⟨q, 2, none⟩))).put (some 146) (.slice (some A) l e)).put (some 147) (.int .i64 (k : Nat))).put (some 148) (.int .i64 (xn : Nat))).put (some 149) (.int .i64 (u : Nat))).put (some 150) (.int .i64 (k : Nat))).put (some 151) (.int .i64 (xn : Nat))).put (some 152) (.int .i64 (u : Nat))).put (some 153) (.int .i64 (xn : Nat))).put (some 154) (.int .i64 (v : Nat))).put (some 155) (.slice (some AX) xn (e - u))).put (some 156) (v')).put (some 157) (.pointer (some ⟨p, 2, none⟩)))

set_option maxHeartbeats 4000000 in
set_option maxRecDepth 20000 in
theorem regionC32 {Q : Exit → Act → World → Prop} (a : Act) (W : World) (hsz : 174 ≤ a.tmps.size) (p q : Nat) (h14 : a.eval (.tmp 14) = .pointer (some ⟨p, 0, none⟩)) (hq : a.eval (.tmp 2) = .pointer (some ⟨q, 0, none⟩)) (k xn u v : Nat) (h15 : a.eval (.tmp 15) = .int .i64 (k : Nat)) (hM : a.eval (.tmp 9) = .int .i64 (xn : Nat))
    (hmul : IntKind.i64.wrap ((k : Int) * (xn : Int)) = (u : Int)) (hadd : IntKind.i64.wrap ((u : Int) + (xn : Int)) = (v : Int)) (g n cap : Nat) (xs news : List Value) (A AX : Addr) (l e : Nat) (hle : v ≤ e) (huv' : u ≤ v) (huv : v - u = xn) (hAX : (if e = u then some A else some (A.add u)) = some AX)
    (hl : news.length = xn * 1) (h1 : ∀ u ∈ news, u.oneCell' = true) (hnews : ∀ j u, news[j]? = some u → W.drew.cell? (AX.add j) = some u) (base : Nat) (hown : W.drew.ownsRow base 3 1 (.slice (some ⟨g, 0, none⟩) n cap) n xs) (hn : n + xn ≤ 1000000) (hbase : base ≤ W.heap.size) (S : World → Prop)
    (hS : ∀ wx, S wx → wx.cell? ⟨p, 2, none⟩ = some (.slice (some ⟨g, 0, none⟩) n cap) ∧ wx.cell? ⟨q, 2, none⟩ = some (.slice (some A) l e) ∧ wx.frozen? ⟨p, 2, none⟩ = false) (hS0 : S W.drew)
    (HA : ∀ w7, W.drew.grownBy w7 (some g) → S w7) (hQ : ∀ c a (d : Nat) v w, Q (.panic c) (a.put (some d) v) w → Q (.panic c) a w)
    (hend : ∀ g' cap' w7, w7.ownsRow base 3 1 (.slice (some ⟨g', 0, none⟩) (n + xn) cap') (n + xn) (xs ++ news) → W.drew.grownBy w7 (some g) → (g' = g ∨ g' = W.drew.heap.size) →
      Q .normal (outC32 a p q g n cap A AX l e k xn u v (.slice (some ⟨g', 0, none⟩) (n + xn) cap')) (w7.setCell ⟨p, 2, none⟩ (.slice (some ⟨g', 0, none⟩) (n + xn) cap'))) :
    (Code.region 32 opsC32 true).wp Try.prog Q a W := by
  obtain ⟨i0, hi, hz0, hz1, hz2⟩ := info_parts info_int
  refine wp_region_L S 15 (by kernel_rfl) ?_
  show wpAnyL _ _ _ _ _ _ (15 + 1) _ _ W.drew
  refine wpAnyL_put 0 143 (.pointer (some ⟨p, 2, none⟩)) (oi := oC32_0) rfl rfl (by kernel_rfl) (by kernel_rfl) (by kernel_rfl) (by kernel_rfl) hQ (wanted_none rfl) (fun w _ => rcF (.tmp 14) p rfl h14 w) hS0 ?_
  refine wpAnyL_put 1 144 (.slice (some ⟨g, 0, none⟩) n cap) (oi := oC32_1) rfl rfl (by kernel_rfl) (by kernel_rfl) (by kernel_rfl) (by kernel_rfl) hQ (wanted_none rfl) (fun w hw => rcL (.tmp 143) _ rfl (eval_eq (by omega)) w (hS w hw).1) hS0 ?_
  refine wpAnyL_put 2 145 (.pointer (some ⟨q, 2, none⟩)) (oi := oC32_2) rfl rfl (by kernel_rfl) (by kernel_rfl) (by kernel_rfl) (by kernel_rfl) hQ (wanted_none rfl) (fun w _ => rcF (.tmp 2) q rfl (by rw [eval_ne (by decide), eval_ne (by decide)]; exact hq) w) hS0 ?_
  refine wpAnyL_put 3 146 (.slice (some A) l e) (oi := oC32_3) rfl rfl (by kernel_rfl) (by kernel_rfl) (by kernel_rfl) (by kernel_rfl) hQ (wanted_none rfl) (fun w hw => rcL (.tmp 145) _ rfl (eval_eq (by rw [put_size, put_size]; omega)) w (hS w hw).2.1) hS0 ?_
  refine wpAnyL_put 4 147 (.int .i64 (k : Nat)) (oi := oC32_4) rfl rfl (by kernel_rfl) (by kernel_rfl) (by kernel_rfl) (by kernel_rfl) hQ (wanted_none rfl) (fun w _ => rcM (.tmp 15) rfl (by rw [eval_ne (by decide), eval_ne (by decide), eval_ne (by decide), eval_ne (by decide)]; exact h15) w) hS0 ?_
  refine wpAnyL_put 5 148 (.int .i64 (xn : Nat)) (oi := oC32_5) rfl rfl (by kernel_rfl) (by kernel_rfl) (by kernel_rfl) (by kernel_rfl) hQ (wanted_none rfl) (fun w _ => rcM (.tmp 9) rfl (by rw [eval_ne (by decide), eval_ne (by decide), eval_ne (by decide), eval_ne (by decide), eval_ne (by decide)]; exact hM) w) hS0 ?_
  refine wpAnyL_put 6 149 (.int .i64 (u : Nat)) (oi := oC32_6) rfl rfl (by kernel_rfl) (by kernel_rfl) (by kernel_rfl) (by kernel_rfl) hQ (wanted_none rfl) (fun w _ => rcMul (.tmp 147) (.tmp 148) rfl (by rw [eval_ne (by decide)]; exact eval_eq (by rw [put_size, put_size, put_size, put_size]; omega)) (eval_eq (by rw [put_size, put_size, put_size, put_size, put_size]; omega)) hmul w) hS0 ?_
  refine wpAnyL_put 7 150 (.int .i64 (k : Nat)) (oi := oC32_7) rfl rfl (by kernel_rfl) (by kernel_rfl) (by kernel_rfl) (by kernel_rfl) hQ (wanted_none rfl) (fun w _ => rcM (.tmp 15) rfl (by rw [eval_ne (by decide), eval_ne (by decide), eval_ne (by decide), eval_ne (by decide), eval_ne (by decide), eval_ne (by decide), eval_ne (by decide)]; exact h15) w) hS0 ?_
  refine wpAnyL_put 8 151 (.int .i64 (xn : Nat)) (oi := oC32_8) rfl rfl (by kernel_rfl) (by kernel_rfl) (by kernel_rfl) (by kernel_rfl) hQ (wanted_none rfl) (fun w _ => rcM (.tmp 9) rfl (by rw [eval_ne (by decide), eval_ne (by decide), eval_ne (by decide), eval_ne (by decide), eval_ne (by decide), eval_ne (by decide), eval_ne (by decide), eval_ne (by decide)]; exact hM) w) hS0 ?_
  refine wpAnyL_put 9 152 (.int .i64 (u : Nat)) (oi := oC32_9) rfl rfl (by kernel_rfl) (by kernel_rfl) (by kernel_rfl) (by kernel_rfl) hQ (wanted_none rfl) (fun w _ => rcMul (.tmp 150) (.tmp 151) rfl (by rw [eval_ne (by decide)]; exact eval_eq (by rw [put_size, put_size, put_size, put_size, put_size, put_size, put_size]; omega)) (eval_eq (by rw [put_size, put_size, put_size, put_size, put_size, put_size, put_size, put_size]; omega)) hmul w) hS0 ?_
  refine wpAnyL_put 10 153 (.int .i64 (xn : Nat)) (oi := oC32_10) rfl rfl (by kernel_rfl) (by kernel_rfl) (by kernel_rfl) (by kernel_rfl) hQ (wanted_none rfl) (fun w _ => rcM (.tmp 9) rfl (by rw [eval_ne (by decide), eval_ne (by decide), eval_ne (by decide), eval_ne (by decide), eval_ne (by decide), eval_ne (by decide), eval_ne (by decide), eval_ne (by decide), eval_ne (by decide), eval_ne (by decide)]; exact hM) w) hS0 ?_
  refine wpAnyL_put 11 154 (.int .i64 (v : Nat)) (oi := oC32_11) rfl rfl (by kernel_rfl) (by kernel_rfl) (by kernel_rfl) (by kernel_rfl) hQ (wanted_none rfl) (fun w _ => rcAdd (.tmp 152) (.tmp 153) rfl (by rw [eval_ne (by decide)]; exact eval_eq (by rw [put_size, put_size, put_size, put_size, put_size, put_size, put_size, put_size, put_size]; omega)) (eval_eq (by rw [put_size, put_size, put_size, put_size, put_size, put_size, put_size, put_size, put_size, put_size]; omega)) hadd w) hS0 ?_
  refine wpAnyL_put 12 155 (.slice (some AX) xn (e - u)) (oi := oC32_12) rfl rfl (by kernel_rfl) (by kernel_rfl) (by kernel_rfl) (by kernel_rfl) hQ (wanted_none rfl) (fun w _ => rcSl (.tmp 146) 149 154 rfl (by rw [eval_ne (by decide), eval_ne (by decide), eval_ne (by decide), eval_ne (by decide), eval_ne (by decide), eval_ne (by decide), eval_ne (by decide), eval_ne (by decide)]; exact eval_eq (by rw [put_size, put_size, put_size]; omega)) (by rw [eval_ne (by decide), eval_ne (by decide), eval_ne (by decide), eval_ne (by decide), eval_ne (by decide)]; exact eval_eq (by rw [put_size, put_size, put_size, put_size, put_size, put_size]; omega)) (eval_eq (by rw [put_size, put_size, put_size, put_size, put_size, put_size, put_size, put_size, put_size, put_size, put_size]; omega)) hle huv' huv hAX w) hS0 ?_
  refine wpAnyL_one (i := 13) (by kernel_rfl) ?_
  refine op_wp (o := oC32_13) rfl (wanted_none rfl) ?_
  refine wp_append_some _ (.tmp 144) (.tmp 155) 22 rfl base 3 i0 (.int .i64 0) 1 8 Try.underlying22 hi hz0 hz1 hz2 rfl (by decide) g n cap xs (by rw [eval_ne (by decide), eval_ne (by decide), eval_ne (by decide), eval_ne (by decide), eval_ne (by decide), eval_ne (by decide), eval_ne (by decide), eval_ne (by decide), eval_ne (by decide), eval_ne (by decide), eval_ne (by decide)]; exact eval_eq (by rw [put_size]; omega)) hown AX xn (e - u) news (eval_eq (by rw [put_size, put_size, put_size, put_size, put_size, put_size, put_size, put_size, put_size, put_size, put_size, put_size]; omega)) hl hnews h1 (by unfold maxLen; omega) (by omega) (by simpa using hbase) ?_
  intro g' cap' w7 hown7 hgrow hat
  have hS7 := HA w7 hgrow
  refine ⟨fun _ => hS7, ?_⟩
  show wpAnyL _ _ _ _ _ _ (1 + 1) _ (Act.put _ (some 156) _) _
  refine wpAnyL_put 14 157 (.pointer (some ⟨p, 2, none⟩)) (oi := oC32_14) rfl rfl (by kernel_rfl) (by kernel_rfl) (by kernel_rfl) (by kernel_rfl) hQ (wanted_none rfl) (fun w _ => rcF (.tmp 14) p rfl (by rw [eval_ne (by decide), eval_ne (by decide), eval_ne (by decide), eval_ne (by decide), eval_ne (by decide), eval_ne (by decide), eval_ne (by decide), eval_ne (by decide), eval_ne (by decide), eval_ne (by decide), eval_ne (by decide), eval_ne (by decide), eval_ne (by decide), eval_ne (by decide)]; exact h14) w) hS7 ?_
  refine wpAnyL_one (i := 15) (by kernel_rfl) ?_
  refine op_wp (o := oC32_15) rfl (wanted_none rfl) ?_
  unfold Oper.wp
  rw [rcS (o := oC32_15) (.tmp 157) (.tmp 156) p (s := some ⟨g', 0, none⟩) (l := n + xn) (c := cap') rfl (eval_eq (by rw [put_size, put_size, put_size, put_size, put_size, put_size, put_size, put_size, put_size, put_size, put_size, put_size, put_size, put_size]; omega)) (by rw [eval_ne (by decide)]; exact eval_eq (by rw [put_size, put_size, put_size, put_size, put_size, put_size, put_size, put_size, put_size, put_size, put_size, put_size, put_size]; omega)) w7 (hS w7 hS7).1 (hS w7 hS7).2.2]
  refine ⟨fun h => absurd rfl h, ?_⟩
  refine wpAnyL_done (by kernel_rfl) ?_ _
  have h := hend g' cap' w7 hown7 hgrow hat
  unfold outC32 at h
  rw [show oC32_15.dst = none from rfl, put_none]
  exact h

def oC33_0 : Oper := { dst := some 158, op := Op.fieldAddr 27 (Operand.tmp 14) 2, type := 0, pos := "l5_shape.go:98", after := #[], guard := none }
def oC33_1 : Oper := { dst := some 159, op := Op.load 22 (Operand.tmp 158), type := 22, pos := "l5_shape.go:98", after := #[{ on := 0, ground := Ground.data }], guard := none }
def oC33_2 : Oper := { dst := some 160, op := Op.fieldAddr 27 (Operand.tmp 3) 2, type := 0, pos := "l5_shape.go:98", after := #[], guard := none }
def oC33_3 : Oper := { dst := some 161, op := Op.load 22 (Operand.tmp 160), type := 22, pos := "l5_shape.go:98", after := #[{ on := 2, ground := Ground.data }], guard := none }
def oC33_4 : Oper := { dst := some 162, op := Op.move (Operand.tmp 15), type := 3, pos := "l5_shape.go:98", after := #[], guard := none }
def oC33_5 : Oper := { dst := some 163, op := Op.move (Operand.tmp 12), type := 3, pos := "l5_shape.go:98", after := #[], guard := none }
def oC33_6 : Oper := { dst := some 164, op := Op.binOp BinOp.mul 3 (Operand.tmp 162) (Operand.tmp 163) 3, type := 3, pos := "l5_shape.go:98", after := #[{ on := 4, ground := Ground.data }, { on := 5, ground := Ground.data }], guard := none }
def oC33_7 : Oper := { dst := some 165, op := Op.move (Operand.tmp 15), type := 3, pos := "l5_shape.go:98", after := #[], guard := none }
def oC33_8 : Oper := { dst := some 166, op := Op.move (Operand.tmp 12), type := 3, pos := "l5_shape.go:98", after := #[], guard := none }
def oC33_9 : Oper := { dst := some 167, op := Op.binOp BinOp.mul 3 (Operand.tmp 165) (Operand.tmp 166) 3, type := 3, pos := "l5_shape.go:98", after := #[{ on := 7, ground := Ground.data }, { on := 8, ground := Ground.data }], guard := none }
def oC33_10 : Oper := { dst := some 168, op := Op.move (Operand.tmp 12), type := 3, pos := "l5_shape.go:98", after := #[], guard := none }
def oC33_11 : Oper := { dst := some 169, op := Op.binOp BinOp.add 3 (Operand.tmp 167) (Operand.tmp 168) 3, type := 3, pos := "l5_shape.go:98", after := #[{ on := 9, ground := Ground.data }, { on := 10, ground := Ground.data }], guard := none }
def oC33_12 : Oper := { dst := some 170, op := Op.slice 22 (Operand.tmp 161) (some (Operand.tmp 164)) (some (Operand.tmp 169)) none, type := 22, pos := "l5_shape.go:98", after := #[{ on := 3, ground := Ground.data }, { on := 6, ground := Ground.data }, { on := 11, ground := Ground.data }], guard := none }
def oC33_13 : Oper := { dst := some 171, op := Op.call { callee := Callee.builtin Builtin.append, args := #[Operand.tmp 159, Operand.tmp 170], argTypes := #[22, 22] }, type := 22, pos := "l5_shape.go:98", after := #[{ on := 1, ground := Ground.data }, { on := 12, ground := Ground.data }], guard := none }
def oC33_14 : Oper := { dst := some 172, op := Op.fieldAddr 27 (Operand.tmp 14) 2, type := 0, pos := "l5_shape.go:98", after := #[{ on := 0, ground := Ground.phase }, { on := 1, ground := Ground.phase }, { on := 2, ground := Ground.phase }, { on := 3, ground := Ground.phase }, { on := 4, ground := Ground.phase }, { on := 5, ground := Ground.phase }, { on := 6, ground := Ground.phase }, { on := 7, ground := Ground.phase }, { on := 8, ground := Ground.phase }, { on := 9, ground := Ground.phase }, { on := 10, ground := Ground.phase }, { on := 11, ground := Ground.phase }, { on := 12, ground := Ground.phase }, { on := 13, ground := Ground.phase }], guard := none }
def oC33_15 : Oper := { dst := none, op := Op.store 22 (Operand.tmp 172) (Operand.tmp 171), type := 0, pos := "l5_shape.go:98", after := #[{ on := 14, ground := Ground.data }, { on := 13, ground := Ground.data }, { on := 13, ground := Ground.chain }, { on := 0, ground := Ground.phase }, { on := 1, ground := Ground.phase }, { on := 2, ground := Ground.phase }, { on := 3, ground := Ground.phase }, { on := 4, ground := Ground.phase }, { on := 5, ground := Ground.phase }, { on := 6, ground := Ground.phase }, { on := 7, ground := Ground.phase }, { on := 8, ground := Ground.phase }, { on := 9, ground := Ground.phase }, { on := 10, ground := Ground.phase }, { on := 11, ground := Ground.phase }, { on := 12, ground := Ground.phase }, { on := 13, ground := Ground.phase }], guard := none }

/-- Region 33. -/
def opsC33 : Array Oper := #[oC33_0, oC33_1, oC33_2, oC33_3, oC33_4, oC33_5, oC33_6, oC33_7, oC33_8, oC33_9, oC33_10, oC33_11, oC33_12, oC33_13, oC33_14, oC33_15]

def outC33 (a : Act) (p q g n cap : Nat) (A AX : Addr) (l e k xn u v : Nat) (v' : Value) : Act :=
  (((((((((((((((a.put (some 158) (.pointer (some ⟨p, 2, none⟩))).put (some 159) (.slice (some ⟨g, 0, none⟩) n cap)).put (some 160) (.pointer (some ⟨q, 2, none⟩))).put (some 161) (.slice (some A) l e)).put (some 162) (.int .i64 (k : Nat))).put (some 163) (.int .i64 (xn : Nat))).put (some 164) (.int .i64 (u : Nat))).put (some 165) (.int .i64 (k : Nat))).put (some 166) (.int .i64 (xn : Nat))).put (some 167) (.int .i64 (u : Nat))).put (some 168) (.int .i64 (xn : Nat))).put (some 169) (.int .i64 (v : Nat))).put (some 170) (.slice (some AX) xn (e - u))).put (some 171) (v')).put (some 172) (.pointer (some ⟨p, 2, none⟩)))

set_option maxHeartbeats 4000000 in
set_option maxRecDepth 20000 in
theorem regionC33 {Q : Exit → Act → World → Prop} (a : Act) (W : World) (hsz : 174 ≤ a.tmps.size) (p q : Nat) (h14 : a.eval (.tmp 14) = .pointer (some ⟨p, 0, none⟩)) (hq : a.eval (.tmp 3) = .pointer (some ⟨q, 0, none⟩)) (k xn u v : Nat) (h15 : a.eval (.tmp 15) = .int .i64 (k : Nat)) (hM : a.eval (.tmp 12) = .int .i64 (xn : Nat))
    (hmul : IntKind.i64.wrap ((k : Int) * (xn : Int)) = (u : Int)) (hadd : IntKind.i64.wrap ((u : Int) + (xn : Int)) = (v : Int)) (g n cap : Nat) (xs news : List Value) (A AX : Addr) (l e : Nat) (hle : v ≤ e) (huv' : u ≤ v) (huv : v - u = xn) (hAX : (if e = u then some A else some (A.add u)) = some AX)
    (hl : news.length = xn * 1) (h1 : ∀ u ∈ news, u.oneCell' = true) (hnews : ∀ j u, news[j]? = some u → W.drew.cell? (AX.add j) = some u) (base : Nat) (hown : W.drew.ownsRow base 3 1 (.slice (some ⟨g, 0, none⟩) n cap) n xs) (hn : n + xn ≤ 1000000) (hbase : base ≤ W.heap.size) (S : World → Prop)
    (hS : ∀ wx, S wx → wx.cell? ⟨p, 2, none⟩ = some (.slice (some ⟨g, 0, none⟩) n cap) ∧ wx.cell? ⟨q, 2, none⟩ = some (.slice (some A) l e) ∧ wx.frozen? ⟨p, 2, none⟩ = false) (hS0 : S W.drew)
    (HA : ∀ w7, W.drew.grownBy w7 (some g) → S w7) (hQ : ∀ c a (d : Nat) v w, Q (.panic c) (a.put (some d) v) w → Q (.panic c) a w)
    (hend : ∀ g' cap' w7, w7.ownsRow base 3 1 (.slice (some ⟨g', 0, none⟩) (n + xn) cap') (n + xn) (xs ++ news) → W.drew.grownBy w7 (some g) → (g' = g ∨ g' = W.drew.heap.size) →
      Q .normal (outC33 a p q g n cap A AX l e k xn u v (.slice (some ⟨g', 0, none⟩) (n + xn) cap')) (w7.setCell ⟨p, 2, none⟩ (.slice (some ⟨g', 0, none⟩) (n + xn) cap'))) :
    (Code.region 33 opsC33 true).wp Try.prog Q a W := by
  obtain ⟨i0, hi, hz0, hz1, hz2⟩ := info_parts info_int
  refine wp_region_L S 15 (by kernel_rfl) ?_
  show wpAnyL _ _ _ _ _ _ (15 + 1) _ _ W.drew
  refine wpAnyL_put 0 158 (.pointer (some ⟨p, 2, none⟩)) (oi := oC33_0) rfl rfl (by kernel_rfl) (by kernel_rfl) (by kernel_rfl) (by kernel_rfl) hQ (wanted_none rfl) (fun w _ => rcF (.tmp 14) p rfl h14 w) hS0 ?_
  refine wpAnyL_put 1 159 (.slice (some ⟨g, 0, none⟩) n cap) (oi := oC33_1) rfl rfl (by kernel_rfl) (by kernel_rfl) (by kernel_rfl) (by kernel_rfl) hQ (wanted_none rfl) (fun w hw => rcL (.tmp 158) _ rfl (eval_eq (by omega)) w (hS w hw).1) hS0 ?_
  refine wpAnyL_put 2 160 (.pointer (some ⟨q, 2, none⟩)) (oi := oC33_2) rfl rfl (by kernel_rfl) (by kernel_rfl) (by kernel_rfl) (by kernel_rfl) hQ (wanted_none rfl) (fun w _ => rcF (.tmp 3) q rfl (by rw [eval_ne (by decide), eval_ne (by decide)]; exact hq) w) hS0 ?_
  refine wpAnyL_put 3 161 (.slice (some A) l e) (oi := oC33_3) rfl rfl (by kernel_rfl) (by kernel_rfl) (by kernel_rfl) (by kernel_rfl) hQ (wanted_none rfl) (fun w hw => rcL (.tmp 160) _ rfl (eval_eq (by rw [put_size, put_size]; omega)) w (hS w hw).2.1) hS0 ?_
  refine wpAnyL_put 4 162 (.int .i64 (k : Nat)) (oi := oC33_4) rfl rfl (by kernel_rfl) (by kernel_rfl) (by kernel_rfl) (by kernel_rfl) hQ (wanted_none rfl) (fun w _ => rcM (.tmp 15) rfl (by rw [eval_ne (by decide), eval_ne (by decide), eval_ne (by decide), eval_ne (by decide)]; exact h15) w) hS0 ?_
  refine wpAnyL_put 5 163 (.int .i64 (xn : Nat)) (oi := oC33_5) rfl rfl (by kernel_rfl) (by kernel_rfl) (by kernel_rfl) (by kernel_rfl) hQ (wanted_none rfl) (fun w _ => rcM (.tmp 12) rfl (by rw [eval_ne (by decide), eval_ne (by decide), eval_ne (by decide), eval_ne (by decide), eval_ne (by decide)]; exact hM) w) hS0 ?_
  refine wpAnyL_put 6 164 (.int .i64 (u : Nat)) (oi := oC33_6) rfl rfl (by kernel_rfl) (by kernel_rfl) (by kernel_rfl) (by kernel_rfl) hQ (wanted_none rfl) (fun w _ => rcMul (.tmp 162) (.tmp 163) rfl (by rw [eval_ne (by decide)]; exact eval_eq (by rw [put_size, put_size, put_size, put_size]; omega)) (eval_eq (by rw [put_size, put_size, put_size, put_size, put_size]; omega)) hmul w) hS0 ?_
  refine wpAnyL_put 7 165 (.int .i64 (k : Nat)) (oi := oC33_7) rfl rfl (by kernel_rfl) (by kernel_rfl) (by kernel_rfl) (by kernel_rfl) hQ (wanted_none rfl) (fun w _ => rcM (.tmp 15) rfl (by rw [eval_ne (by decide), eval_ne (by decide), eval_ne (by decide), eval_ne (by decide), eval_ne (by decide), eval_ne (by decide), eval_ne (by decide)]; exact h15) w) hS0 ?_
  refine wpAnyL_put 8 166 (.int .i64 (xn : Nat)) (oi := oC33_8) rfl rfl (by kernel_rfl) (by kernel_rfl) (by kernel_rfl) (by kernel_rfl) hQ (wanted_none rfl) (fun w _ => rcM (.tmp 12) rfl (by rw [eval_ne (by decide), eval_ne (by decide), eval_ne (by decide), eval_ne (by decide), eval_ne (by decide), eval_ne (by decide), eval_ne (by decide), eval_ne (by decide)]; exact hM) w) hS0 ?_
  refine wpAnyL_put 9 167 (.int .i64 (u : Nat)) (oi := oC33_9) rfl rfl (by kernel_rfl) (by kernel_rfl) (by kernel_rfl) (by kernel_rfl) hQ (wanted_none rfl) (fun w _ => rcMul (.tmp 165) (.tmp 166) rfl (by rw [eval_ne (by decide)]; exact eval_eq (by rw [put_size, put_size, put_size, put_size, put_size, put_size, put_size]; omega)) (eval_eq (by rw [put_size, put_size, put_size, put_size, put_size, put_size, put_size, put_size]; omega)) hmul w) hS0 ?_
  refine wpAnyL_put 10 168 (.int .i64 (xn : Nat)) (oi := oC33_10) rfl rfl (by kernel_rfl) (by kernel_rfl) (by kernel_rfl) (by kernel_rfl) hQ (wanted_none rfl) (fun w _ => rcM (.tmp 12) rfl (by rw [eval_ne (by decide), eval_ne (by decide), eval_ne (by decide), eval_ne (by decide), eval_ne (by decide), eval_ne (by decide), eval_ne (by decide), eval_ne (by decide), eval_ne (by decide), eval_ne (by decide)]; exact hM) w) hS0 ?_
  refine wpAnyL_put 11 169 (.int .i64 (v : Nat)) (oi := oC33_11) rfl rfl (by kernel_rfl) (by kernel_rfl) (by kernel_rfl) (by kernel_rfl) hQ (wanted_none rfl) (fun w _ => rcAdd (.tmp 167) (.tmp 168) rfl (by rw [eval_ne (by decide)]; exact eval_eq (by rw [put_size, put_size, put_size, put_size, put_size, put_size, put_size, put_size, put_size]; omega)) (eval_eq (by rw [put_size, put_size, put_size, put_size, put_size, put_size, put_size, put_size, put_size, put_size]; omega)) hadd w) hS0 ?_
  refine wpAnyL_put 12 170 (.slice (some AX) xn (e - u)) (oi := oC33_12) rfl rfl (by kernel_rfl) (by kernel_rfl) (by kernel_rfl) (by kernel_rfl) hQ (wanted_none rfl) (fun w _ => rcSl (.tmp 161) 164 169 rfl (by rw [eval_ne (by decide), eval_ne (by decide), eval_ne (by decide), eval_ne (by decide), eval_ne (by decide), eval_ne (by decide), eval_ne (by decide), eval_ne (by decide)]; exact eval_eq (by rw [put_size, put_size, put_size]; omega)) (by rw [eval_ne (by decide), eval_ne (by decide), eval_ne (by decide), eval_ne (by decide), eval_ne (by decide)]; exact eval_eq (by rw [put_size, put_size, put_size, put_size, put_size, put_size]; omega)) (eval_eq (by rw [put_size, put_size, put_size, put_size, put_size, put_size, put_size, put_size, put_size, put_size, put_size]; omega)) hle huv' huv hAX w) hS0 ?_
  refine wpAnyL_one (i := 13) (by kernel_rfl) ?_
  refine op_wp (o := oC33_13) rfl (wanted_none rfl) ?_
  refine wp_append_some _ (.tmp 159) (.tmp 170) 22 rfl base 3 i0 (.int .i64 0) 1 8 Try.underlying22 hi hz0 hz1 hz2 rfl (by decide) g n cap xs (by rw [eval_ne (by decide), eval_ne (by decide), eval_ne (by decide), eval_ne (by decide), eval_ne (by decide), eval_ne (by decide), eval_ne (by decide), eval_ne (by decide), eval_ne (by decide), eval_ne (by decide), eval_ne (by decide)]; exact eval_eq (by rw [put_size]; omega)) hown AX xn (e - u) news (eval_eq (by rw [put_size, put_size, put_size, put_size, put_size, put_size, put_size, put_size, put_size, put_size, put_size, put_size]; omega)) hl hnews h1 (by unfold maxLen; omega) (by omega) (by simpa using hbase) ?_
  intro g' cap' w7 hown7 hgrow hat
  have hS7 := HA w7 hgrow
  refine ⟨fun _ => hS7, ?_⟩
  show wpAnyL _ _ _ _ _ _ (1 + 1) _ (Act.put _ (some 171) _) _
  refine wpAnyL_put 14 172 (.pointer (some ⟨p, 2, none⟩)) (oi := oC33_14) rfl rfl (by kernel_rfl) (by kernel_rfl) (by kernel_rfl) (by kernel_rfl) hQ (wanted_none rfl) (fun w _ => rcF (.tmp 14) p rfl (by rw [eval_ne (by decide), eval_ne (by decide), eval_ne (by decide), eval_ne (by decide), eval_ne (by decide), eval_ne (by decide), eval_ne (by decide), eval_ne (by decide), eval_ne (by decide), eval_ne (by decide), eval_ne (by decide), eval_ne (by decide), eval_ne (by decide), eval_ne (by decide)]; exact h14) w) hS7 ?_
  refine wpAnyL_one (i := 15) (by kernel_rfl) ?_
  refine op_wp (o := oC33_15) rfl (wanted_none rfl) ?_
  unfold Oper.wp
  rw [rcS (o := oC33_15) (.tmp 172) (.tmp 171) p (s := some ⟨g', 0, none⟩) (l := n + xn) (c := cap') rfl (eval_eq (by rw [put_size, put_size, put_size, put_size, put_size, put_size, put_size, put_size, put_size, put_size, put_size, put_size, put_size, put_size]; omega)) (by rw [eval_ne (by decide)]; exact eval_eq (by rw [put_size, put_size, put_size, put_size, put_size, put_size, put_size, put_size, put_size, put_size, put_size, put_size, put_size]; omega)) w7 (hS w7 hS7).1 (hS w7 hS7).2.2]
  refine ⟨fun h => absurd rfl h, ?_⟩
  refine wpAnyL_done (by kernel_rfl) ?_ _
  have h := hend g' cap' w7 hown7 hgrow hat
  unfold outC33 at h
  rw [show oC33_15.dst = none from rfl, put_none]
  exact h

end Go.Proofs.Ytogmcecnckgcpaa
