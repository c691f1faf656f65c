import Derived.Test.YtngbmcljhcckmaaRegOps
namespace Go.Proofs.Ytngbmcljhcckmaa
open Go.RowKit

def oIx_0 : Oper := { dst := some 37, op := Op.fieldAddr 26 (Operand.tmp 9) 2, type := 0, pos := "l5_shape.go:375", after := #[], guard := none }
def oIx_1 : Oper := { dst := some 38, op := Op.load 22 (Operand.tmp 37), type := 22, pos := "l5_shape.go:375", after := #[{ on := 0, ground := Ground.data }], guard := none }
def oIx_2 : Oper := { dst := some 39, op := Op.fieldAddr 26 (Operand.tmp 2) 2, type := 0, pos := "l5_shape.go:375", after := #[], guard := none }
def oIx_3 : Oper := { dst := some 40, op := Op.load 22 (Operand.tmp 39), type := 22, pos := "l5_shape.go:375", after := #[{ on := 2, ground := Ground.data }], guard := none }
def oIx_4 : Oper := { dst := some 41, op := Op.move (Operand.tmp 6), type := 22, pos := "l5_shape.go:375", after := #[], guard := none }
def oIx_5 : Oper := { dst := some 42, op := Op.move (Operand.tmp 10), type := 3, pos := "l5_shape.go:375", after := #[], guard := none }
def oIx_6 : Oper := { dst := some 43, op := Op.indexAddr 22 (Operand.tmp 41) (Operand.tmp 42), type := 0, pos := "l5_shape.go:375", after := #[{ on := 4, ground := Ground.data }, { on := 5, ground := Ground.data }], guard := none }
def oIx_7 : Oper := { dst := some 44, op := Op.load 3 (Operand.tmp 43), type := 3, pos := "l5_shape.go:375", after := #[{ on := 6, ground := Ground.data }], guard := none }
def oIx_8 : Oper := { dst := some 45, op := Op.indexAddr 22 (Operand.tmp 40) (Operand.tmp 44), type := 0, pos := "l5_shape.go:375", after := #[{ on := 3, ground := Ground.data }, { on := 7, ground := Ground.data }], guard := none }
def oIx_9 : Oper := { dst := some 46, op := Op.load 3 (Operand.tmp 45), type := 3, pos := "l5_shape.go:375", after := #[{ on := 8, ground := Ground.data }], guard := none }
def oIx_10 : Oper := { dst := some 47, op := Op.buildSlice 22 1 #[(0, Operand.tmp 46)], type := 22, pos := "l5_shape.go:375", after := #[{ on := 9, ground := Ground.data }], guard := none }
def oIx_11 : Oper := { dst := some 48, op := Op.call { callee := Callee.builtin Builtin.append, args := #[Operand.tmp 38, Operand.tmp 47], argTypes := #[22, 22] }, type := 22, pos := "l5_shape.go:375", after := #[{ on := 1, ground := Ground.data }, { on := 10, ground := Ground.data }], guard := none }
def oIx_12 : Oper := { dst := some 49, op := Op.fieldAddr 26 (Operand.tmp 9) 2, type := 0, pos := "l5_shape.go:375", after := #[{ on := 0, ground := Ground.phase }, { on := 1, ground := Ground.phase }, { on := 2, ground := Ground.phase }, { on := 3, ground := Ground.phase }, { on := 4, ground := Ground.phase }, { on := 5, ground := Ground.phase }, { on := 6, ground := Ground.phase }, { on := 7, ground := Ground.phase }, { on := 8, ground := Ground.phase }, { on := 9, ground := Ground.phase }, { on := 10, ground := Ground.phase }, { on := 11, ground := Ground.phase }], guard := none }
def oIx_13 : Oper := { dst := none, op := Op.store 22 (Operand.tmp 49) (Operand.tmp 48), type := 0, pos := "l5_shape.go:375", after := #[{ on := 12, ground := Ground.data }, { on := 11, ground := Ground.data }, { on := 11, ground := Ground.chain }, { on := 0, ground := Ground.phase }, { on := 1, ground := Ground.phase }, { on := 2, ground := Ground.phase }, { on := 3, ground := Ground.phase }, { on := 4, ground := Ground.phase }, { on := 5, ground := Ground.phase }, { on := 6, ground := Ground.phase }, { on := 7, ground := Ground.phase }, { on := 8, ground := Ground.phase }, { on := 9, ground := Ground.phase }, { on := 10, ground := Ground.phase }, { on := 11, ground := Ground.phase }], guard := none }

/-- Region 10. -/
def opsIx : Array Oper := #[oIx_0, oIx_1, oIx_2, oIx_3, oIx_4, oIx_5, oIx_6, oIx_7, oIx_8, oIx_9, oIx_10, oIx_11, oIx_12, oIx_13]

def outIx (a : Act) (W : World) (p q ga N ca i J g k cap bd od m2 d2 : Nat) (x : Int) (v' : Value) : Act :=
  (((((((((((((a.put (some 37) (.pointer (some ⟨p, 2, none⟩))).put (some 38) (.slice (some ⟨g, 0, none⟩) k cap)).put (some 39) (.pointer (some ⟨q, 2, none⟩))).put (some 40) (.slice (some ⟨bd, od, none⟩) m2 d2)).put (some 41) (.slice (some ⟨ga, 0, none⟩) N ca)).put (some 42) (.int .i64 (i : Nat))).put (some 43) (.pointer (some ⟨ga, 0 + i, none⟩))).put (some 44) (.int .i64 (J : Nat))).put (some 45) (.pointer (some ⟨bd, od + J, none⟩))).put (some 46) (.int .i64 x)).put (some 47) (.slice (some ⟨W.heap.size, 0, none⟩) 1 1)).put (some 48) (v')).put (some 49) (.pointer (some ⟨p, 2, none⟩)))

set_option maxHeartbeats 4000000 in
set_option maxRecDepth 20000 in
theorem regionIx {Q : Exit → Act → World → Prop} (a : Act) (W : World) (hsz : 51 ≤ a.tmps.size) (p q ga N ca i J g k cap bd od m2 d2 : Nat) (x : Int) (h9 : a.eval (.tmp 9) = .pointer (some ⟨p, 0, none⟩)) (h2 : a.eval (.tmp 2) = .pointer (some ⟨q, 0, none⟩)) (h6 : a.eval (.tmp 6) = .slice (some ⟨ga, 0, none⟩) N ca) (h10 : a.eval (.tmp 10) = .int .i64 (i : Nat)) (hi' : i < N) (hJ : J < m2)
    (xs : List Value) (base : Nat) (hown : W.ownsRow base 3 1 (.slice (some ⟨g, 0, none⟩) k cap) k xs) (hbase : base ≤ W.heap.size) (hn : k ≤ 4000000000000) (S : World → Prop)
    (hS : ∀ wx, S wx → wx.cell? ⟨p, 2, none⟩ = some (.slice (some ⟨g, 0, none⟩) k cap) ∧ wx.frozen? ⟨p, 2, none⟩ = false ∧ wx.cell? ⟨q, 2, none⟩ = some (.slice (some ⟨bd, od, none⟩) m2 d2) ∧ wx.cell? ⟨ga, 0 + i, none⟩ = some (.int .i64 (J : Nat)) ∧ wx.cell? ⟨bd, od + J, none⟩ = some (.int .i64 x)) (HK : ∀ wx, Below W.heap.size W wx → S wx)
    (HA : ∀ w7, (W.drew.alloc (.cells #[.int .i64 x] 3)).grownBy w7 (some g) → S w7) (hQ : ∀ c a (d : Nat) v w, Q (.panic c) (a.put (some d) v) w → Q (.panic c) a w)
    (hend : ∀ g' cap' w7, w7.ownsRow base 3 1 (.slice (some ⟨g', 0, none⟩) (k + 1) cap') (k + 1) (xs ++ [.int .i64 x]) → (W.drew.alloc (.cells #[.int .i64 x] 3)).grownBy w7 (Value.ownBlock (.slice (some ⟨g, 0, none⟩) k cap)) → (Value.ownBlock (.slice (some ⟨g, 0, none⟩) k cap) = some g' ∨ g' = W.drew.heap.size + 1) →
      Q .normal (outIx a W p q ga N ca i J g k cap bd od m2 d2 x (.slice (some ⟨g', 0, none⟩) (k + 1) cap')) (w7.setCell ⟨p, 2, none⟩ (.slice (some ⟨g', 0, none⟩) (k + 1) cap'))) :
    (Code.region 10 opsIx true).wp Try.prog Q a W := by
  have hb0 : Below W.heap.size W W.drew := (Below.refl _ _).drew
  have hS0 := HK _ hb0
  obtain ⟨i0, hi, hz0, hz1, hz2⟩ := info_parts info_int
  refine wp_region_L S 13 (by kernel_rfl) ?_
  show wpAnyL _ _ _ _ _ _ (13 + 1) _ _ W.drew
  refine wpAnyL_put 0 37 (.pointer (some ⟨p, 2, none⟩)) (oi := oIx_0) rfl rfl (by kernel_rfl) (by kernel_rfl) (by kernel_rfl) (by kernel_rfl) hQ (wanted_free rfl) (fun w hw => rgF2 (.tmp 9) p rfl h9 w) hS0 ?_
  refine wpAnyL_put 1 38 (.slice (some ⟨g, 0, none⟩) k cap) (oi := oIx_1) rfl rfl (by kernel_rfl) (by kernel_rfl) (by kernel_rfl) (by kernel_rfl) hQ (wanted_free rfl) (fun w hw => rgL (.tmp 37) _ rfl (eval_eq (by omega)) w (hS w hw).1) hS0 ?_
  refine wpAnyL_put 2 39 (.pointer (some ⟨q, 2, none⟩)) (oi := oIx_2) rfl rfl (by kernel_rfl) (by kernel_rfl) (by kernel_rfl) (by kernel_rfl) hQ (wanted_free rfl) (fun w hw => rgF2 (.tmp 2) q rfl (by rw [eval_ne (by decide), eval_ne (by decide)]; exact h2) w) hS0 ?_
  refine wpAnyL_put 3 40 (.slice (some ⟨bd, od, none⟩) m2 d2) (oi := oIx_3) rfl rfl (by kernel_rfl) (by kernel_rfl) (by kernel_rfl) (by kernel_rfl) hQ (wanted_free rfl) (fun w hw => rgL (.tmp 39) _ rfl (eval_eq (by rw [put_size, put_size]; omega)) w (hS w hw).2.2.1) hS0 ?_
  refine wpAnyL_put 4 41 (.slice (some ⟨ga, 0, none⟩) N ca) (oi := oIx_4) rfl rfl (by kernel_rfl) (by kernel_rfl) (by kernel_rfl) (by kernel_rfl) hQ (wanted_free rfl) (fun w hw => rgM (.tmp 6) rfl (by rw [eval_ne (by decide), eval_ne (by decide), eval_ne (by decide), eval_ne (by decide)]; exact h6) w) hS0 ?_
  refine wpAnyL_put 5 42 (.int .i64 (i : Nat)) (oi := oIx_5) rfl rfl (by kernel_rfl) (by kernel_rfl) (by kernel_rfl) (by kernel_rfl) hQ (wanted_free rfl) (fun w hw => rgM (.tmp 10) rfl (by rw [eval_ne (by decide), eval_ne (by decide), eval_ne (by decide), eval_ne (by decide), eval_ne (by decide)]; exact h10) w) hS0 ?_
  refine wpAnyL_put 6 43 (.pointer (some ⟨ga, 0 + i, none⟩)) (oi := oIx_6) rfl rfl (by kernel_rfl) (by kernel_rfl) (by kernel_rfl) (by kernel_rfl) hQ (wanted_free rfl) (fun w hw => rgX (.tmp 41) (.tmp 42) rfl (by rw [eval_ne (by decide)]; exact eval_eq (by rw [put_size, put_size, put_size, put_size]; omega)) (eval_eq (by rw [put_size, put_size, put_size, put_size, put_size]; omega)) hi' w) hS0 ?_
  refine wpAnyL_put 7 44 (.int .i64 (J : Nat)) (oi := oIx_7) rfl rfl (by kernel_rfl) (by kernel_rfl) (by kernel_rfl) (by kernel_rfl) hQ (wanted_free rfl) (fun w hw => rgI (.tmp 43) _ rfl (eval_eq (by rw [put_size, put_size, put_size, put_size, put_size, put_size]; omega)) w (hS w hw).2.2.2.1) hS0 ?_
  refine wpAnyL_put 8 45 (.pointer (some ⟨bd, od + J, none⟩)) (oi := oIx_8) rfl rfl (by kernel_rfl) (by kernel_rfl) (by kernel_rfl) (by kernel_rfl) hQ (wanted_free rfl) (fun w hw => rgX (.tmp 40) (.tmp 44) rfl (by rw [eval_ne (by decide), eval_ne (by decide), eval_ne (by decide), eval_ne (by decide)]; exact eval_eq (by rw [put_size, put_size, put_size]; omega)) (eval_eq (by rw [put_size, put_size, put_size, put_size, put_size, put_size, put_size]; omega)) hJ w) hS0 ?_
  refine wpAnyL_put 9 46 (.int .i64 x) (oi := oIx_9) rfl rfl (by kernel_rfl) (by kernel_rfl) (by kernel_rfl) (by kernel_rfl) hQ (wanted_free rfl) (fun w hw => rgI (.tmp 45) _ rfl (eval_eq (by rw [put_size, put_size, put_size, put_size, put_size, put_size, put_size, put_size]; omega)) w (hS w hw).2.2.2.2) hS0 ?_
  refine wpAnyL_one (i := 10) (by kernel_rfl) ?_
  refine op_wp (o := oIx_10) rfl (wanted_free rfl) ?_
  unfold Oper.wp
  rw [rgS1 (o := oIx_10) 46 rfl (eval_eq (by rw [put_size, put_size, put_size, put_size, put_size, put_size, put_size, put_size, put_size]; omega)) W.drew]
  have hbx : Below W.heap.size W (W.drew.alloc (.cells #[.int .i64 x] 3)) := hb0.alloc hb0.size _
  refine ⟨fun _ => HK _ hbx, ?_⟩
  show wpAnyL _ _ _ _ _ _ (2 + 1) _ (Act.put _ (some 47) _) _
  refine wpAnyL_one (i := 11) (by kernel_rfl) ?_
  refine op_wp (o := oIx_11) rfl (wanted_free rfl) ?_
  refine wp_append_lies _ (.tmp 38) (.tmp 47) 22 rfl base 3 i0 (.int .i64 0) 1 8 Try.underlying22 hi hz0 hz1 hz2 rfl (by decide) (.slice (some ⟨g, 0, none⟩) k cap) k xs (by rw [eval_ne (by decide), eval_ne (by decide), eval_ne (by decide), eval_ne (by decide), eval_ne (by decide), eval_ne (by decide), eval_ne (by decide), eval_ne (by decide), eval_ne (by decide)]; exact eval_eq (by rw [put_size]; omega)) (owns_below hown (Nat.le_refl _) hbx) ⟨W.heap.size, 0, none⟩ 1 1 [.int .i64 x] (eval_eq (by rw [put_size, put_size, put_size, put_size, put_size, put_size, put_size, put_size, put_size, put_size]; omega)) (by rfl) (cells_new W.drew _) (one_one _) (by omega) (by unfold maxLen; omega) (by omega) (by have := hb0.size; simp; omega) (W.drew.heap.size + 1) (by simp) ?_
  intro g' cap' w7 hown7 hgrow hat hlt
  have hS7 := HA w7 hgrow
  refine ⟨fun _ => hS7, ?_⟩
  show wpAnyL _ _ _ _ _ _ (1 + 1) _ (Act.put _ (some 48) _) _
  refine wpAnyL_put 12 49 (.pointer (some ⟨p, 2, none⟩)) (oi := oIx_12) rfl rfl (by kernel_rfl) (by kernel_rfl) (by kernel_rfl) (by kernel_rfl) hQ (wanted_free rfl) (fun w hw => rgF2 (.tmp 9) p rfl (by rw [eval_ne (by decide), eval_ne (by decide), eval_ne (by decide), eval_ne (by decide), eval_ne (by decide), eval_ne (by decide), eval_ne (by decide), eval_ne (by decide), eval_ne (by decide), eval_ne (by decide), eval_ne (by decide), eval_ne (by decide)]; exact h9) w) hS7 ?_
  refine wpAnyL_one (i := 13) (by kernel_rfl) ?_
  refine op_wp (o := oIx_13) rfl (wanted_free rfl) ?_
  unfold Oper.wp
  rw [rgSt (o := oIx_13) (.tmp 49) (.tmp 48) p (s := some ⟨g', 0, none⟩) (l := k + 1) (c := cap') rfl (eval_eq (by rw [put_size, put_size, put_size, put_size, put_size, put_size, put_size, put_size, put_size, put_size, put_size, put_size]; omega)) (by rw [eval_ne (by decide)]; exact eval_eq (by rw [put_size, put_size, put_size, put_size, put_size, put_size, put_size, put_size, put_size, put_size, put_size]; omega)) w7 (hS w7 hS7).1 (hS w7 hS7).2.1]
  refine ⟨fun h => absurd rfl h, ?_⟩
  refine wpAnyL_done (by kernel_rfl) ?_ _
  have h := hend g' cap' w7 hown7 hgrow hat
  unfold outIx at h
  rw [show oIx_13.dst = none from rfl, put_nothing]
  exact h

end Go.Proofs.Ytngbmcljhcckmaa
