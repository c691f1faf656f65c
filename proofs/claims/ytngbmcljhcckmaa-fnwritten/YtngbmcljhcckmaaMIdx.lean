import Derived.Test.YtngbmcljhcckmaaRegOps
import Derived.Test.YtngbmcljhcckmaaCatStage
import Derived.Test.YtngbmcljhcckmaaSpecWhere
import Derived.Test.YtngbmcljhcckmaaMStage
import Derived.Test.YtngbmcljhcckmaaSpecNone
namespace Go.Proofs.Ytngbmcljhcckmaa
open Go.RowKit

def oIx_0 : Oper := { dst := some 37, op := Op.fieldAddr 26 (Operand.tmp 9) 2, type := 0, pos := "l5_shape.go:375", after := #[], guard := none }
def oIx_1 : Oper := { dst := some 38, op := Op.load 22 (Operand.tmp 37), type := 22, pos := "l5_shape.go:375", after := #[{ on := 0, ground := Ground.data }], guard := none }
def oIx_2 : Oper := { dst := some 39, op := Op.fieldAddr 26 (Operand.tmp 2) 2, type := 0, pos := "l5_shape.go:375", after := #[], guard := none }
def oIx_3 : Oper := { dst := some 40, op := Op.load 22 (Operand.tmp 39), type := 22, pos := "l5_shape.go:375", after := #[{ on := 2, ground := Ground.data }], guard := none }
def oIx_4 : Oper := { dst := some 41, op := Op.move (Operand.tmp 6), type := 22, pos := "l5_shape.go:375", after := #[], guard := none }
def oIx_5 : Oper := { dst := some 42, op := Op.move (Operand.tmp 10), type := 3, pos := "l5_shape.go:375", after := #[], guard := none }
def oIx_6 : Oper := { dst := some 43, op := Op.indexAddr 22 (Operand.tmp 41) (Operand.tmp 42), type := 0, pos := "l5_shape.go:375", after := #[{ on := 4, ground := Ground.data }, { on := 5, ground := Ground.data }], guard := none }
def oIx_7 : Oper := { dst := some 44, op := Op.load 3 (Operand.tmp 43), type := 3, pos := "l5_shape.go:375", after := #[{ on := 6, ground := Ground.data }], guard := none }
def oIx_8 : Oper := { dst := some 45, op := Op.indexAddr 22 (Operand.tmp 40) (Operand.tmp 44), type := 0, pos := "l5_shape.go:375", after := #[{ on := 3, ground := Ground.data }, { on := 7, ground := Ground.data }], guard := none }
def oIx_9 : Oper := { dst := some 46, op := Op.load 3 (Operand.tmp 45), type := 3, pos := "l5_shape.go:375", after := #[{ on := 8, ground := Ground.data }], guard := none }
def oIx_10 : Oper := { dst := some 47, op := Op.buildSlice 22 1 #[(0, Operand.tmp 46)], type := 22, pos := "l5_shape.go:375", after := #[{ on := 9, ground := Ground.data }], guard := none }
def oIx_11 : Oper := { dst := some 48, op := Op.call { callee := Callee.builtin Builtin.append, args := #[Operand.tmp 38, Operand.tmp 47], argTypes := #[22, 22] }, type := 22, pos := "l5_shape.go:375", after := #[{ on := 1, ground := Ground.data }, { on := 10, ground := Ground.data }], guard := none }
def oIx_12 : Oper := { dst := some 49, op := Op.fieldAddr 26 (Operand.tmp 9) 2, type := 0, pos := "l5_shape.go:375", after := #[{ on := 0, ground := Ground.phase }, { on := 1, ground := Ground.phase }, { on := 2, ground := Ground.phase }, { on := 3, ground := Ground.phase }, { on := 4, ground := Ground.phase }, { on := 5, ground := Ground.phase }, { on := 6, ground := Ground.phase }, { on := 7, ground := Ground.phase }, { on := 8, ground := Ground.phase }, { on := 9, ground := Ground.phase }, { on := 10, ground := Ground.phase }, { on := 11, ground := Ground.phase }], guard := none }
def oIx_13 : Oper := { dst := none, op := Op.store 22 (Operand.tmp 49) (Operand.tmp 48), type := 0, pos := "l5_shape.go:375", after := #[{ on := 12, ground := Ground.data }, { on := 11, ground := Ground.data }, { on := 11, ground := Ground.chain }, { on := 0, ground := Ground.phase }, { on := 1, ground := Ground.phase }, { on := 2, ground := Ground.phase }, { on := 3, ground := Ground.phase }, { on := 4, ground := Ground.phase }, { on := 5, ground := Ground.phase }, { on := 6, ground := Ground.phase }, { on := 7, ground := Ground.phase }, { on := 8, ground := Ground.phase }, { on := 9, ground := Ground.phase }, { on := 10, ground := Ground.phase }, { on := 11, ground := Ground.phase }], guard := none }

/-- Region 10. -/
def opsIx : Array Oper := #[oIx_0, oIx_1, oIx_2, oIx_3, oIx_4, oIx_5, oIx_6, oIx_7, oIx_8, oIx_9, oIx_10, oIx_11, oIx_12, oIx_13]

def outIx (a : Act) (W : World) (p q ga N ca i J g k cap bd od m2 d2 : Nat) (x : Int) (v' : Value) : Act :=
  (((((((((((((a.put (some 37) (.pointer (some ⟨p, 2, none⟩))).put (some 38) (.slice (some ⟨g, 0, none⟩) k cap)).put (some 39) (.pointer (some ⟨q, 2, none⟩))).put (some 40) (.slice (some ⟨bd, od, none⟩) m2 d2)).put (some 41) (.slice (some ⟨ga, 0, none⟩) N ca)).put (some 42) (.int .i64 (i : Nat))).put (some 43) (.pointer (some ⟨ga, 0 + i, none⟩))).put (some 44) (.int .i64 (J : Nat))).put (some 45) (.pointer (some ⟨bd, od + J, none⟩))).put (some 46) (.int .i64 x)).put (some 47) (.slice (some ⟨W.heap.size, 0, none⟩) 1 1)).put (some 48) (v')).put (some 49) (.pointer (some ⟨p, 2, none⟩)))

set_option maxHeartbeats 4000000 in
set_option maxRecDepth 20000 in
theorem regionIx {Q : Exit → Act → World → Prop} (a : Act) (W : World) (hsz : 51 ≤ a.tmps.size) (p q ga N ca i J g k cap bd od m2 d2 : Nat) (x : Int) (h9 : a.eval (.tmp 9) = .pointer (some ⟨p, 0, none⟩)) (h2 : a.eval (.tmp 2) = .pointer (some ⟨q, 0, none⟩)) (h6 : a.eval (.tmp 6) = .slice (some ⟨ga, 0, none⟩) N ca) (h10 : a.eval (.tmp 10) = .int .i64 (i : Nat)) (hi' : i < N) (hJ : J < m2)
    (xs : List Value) (base : Nat) (hown : W.ownsRow base 3 1 (.slice (some ⟨g, 0, none⟩) k cap) k xs) (hbase : base ≤ W.heap.size) (hn : k ≤ 4000000000000) (S : World → Prop)
    (hS : ∀ wx, S wx → wx.cell? ⟨p, 2, none⟩ = some (.slice (some ⟨g, 0, none⟩) k cap) ∧ wx.frozen? ⟨p, 2, none⟩ = false ∧ wx.cell? ⟨q, 2, none⟩ = some (.slice (some ⟨bd, od, none⟩) m2 d2) ∧ wx.cell? ⟨ga, 0 + i, none⟩ = some (.int .i64 (J : Nat)) ∧ wx.cell? ⟨bd, od + J, none⟩ = some (.int .i64 x)) (HK : ∀ wx, Below W.heap.size W wx → S wx)
    (HA : ∀ w7, (W.drew.alloc (.cells #[.int .i64 x] 3)).grownBy w7 (some g) → S w7) (hQ : ∀ c a (d : Nat) v w, Q (.panic c) (a.put (some d) v) w → Q (.panic c) a w)
    (hend : ∀ g' cap' w7, w7.ownsRow base 3 1 (.slice (some ⟨g', 0, none⟩) (k + 1) cap') (k + 1) (xs ++ [.int .i64 x]) → (W.drew.alloc (.cells #[.int .i64 x] 3)).grownBy w7 (Value.ownBlock (.slice (some ⟨g, 0, none⟩) k cap)) → (Value.ownBlock (.slice (some ⟨g, 0, none⟩) k cap) = some g' ∨ g' = W.drew.heap.size + 1) →
      Q .normal (outIx a W p q ga N ca i J g k cap bd od m2 d2 x (.slice (some ⟨g', 0, none⟩) (k + 1) cap')) (w7.setCell ⟨p, 2, none⟩ (.slice (some ⟨g', 0, none⟩) (k + 1) cap'))) :
    (Code.region 10 opsIx true).wp Try.prog Q a W := by
  have hb0 : Below W.heap.size W W.drew := (Below.refl _ _).drew
  have hS0 := HK _ hb0
  obtain ⟨i0, hi, hz0, hz1, hz2⟩ := info_parts info_int
  refine wp_region_L S 13 (by kernel_rfl) ?_
  show wpAnyL _ _ _ _ _ _ (13 + 1) _ _ W.drew
  refine wpAnyL_put 0 37 (.pointer (some ⟨p, 2, none⟩)) (oi := oIx_0) rfl rfl (by kernel_rfl) (by kernel_rfl) (by kernel_rfl) (by kernel_rfl) hQ (wanted_free rfl) (fun w hw => rgF2 (.tmp 9) p rfl h9 w) hS0 ?_
  refine wpAnyL_put 1 38 (.slice (some ⟨g, 0, none⟩) k cap) (oi := oIx_1) rfl rfl (by kernel_rfl) (by kernel_rfl) (by kernel_rfl) (by kernel_rfl) hQ (wanted_free rfl) (fun w hw => rgL (.tmp 37) _ rfl (eval_eq (by omega)) w (hS w hw).1) hS0 ?_
  refine wpAnyL_put 2 39 (.pointer (some ⟨q, 2, none⟩)) (oi := oIx_2) rfl rfl (by kernel_rfl) (by kernel_rfl) (by kernel_rfl) (by kernel_rfl) hQ (wanted_free rfl) (fun w hw => rgF2 (.tmp 2) q rfl (by rw [eval_ne (by decide), eval_ne (by decide)]; exact h2) w) hS0 ?_
  refine wpAnyL_put 3 40 (.slice (some ⟨bd, od, none⟩) m2 d2) (oi := oIx_3) rfl rfl (by kernel_rfl) (by kernel_rfl) (by kernel_rfl) (by kernel_rfl) hQ (wanted_free rfl) (fun w hw => rgL (.tmp 39) _ rfl (eval_eq (by rw [put_size, put_size]; omega)) w (hS w hw).2.2.1) hS0 ?_
  refine wpAnyL_put 4 41 (.slice (some ⟨ga, 0, none⟩) N ca) (oi := oIx_4) rfl rfl (by kernel_rfl) (by kernel_rfl) (by kernel_rfl) (by kernel_rfl) hQ (wanted_free rfl) (fun w hw => rgM (.tmp 6) rfl (by rw [eval_ne (by decide), eval_ne (by decide), eval_ne (by decide), eval_ne (by decide)]; exact h6) w) hS0 ?_
  refine wpAnyL_put 5 42 (.int .i64 (i : Nat)) (oi := oIx_5) rfl rfl (by kernel_rfl) (by kernel_rfl) (by kernel_rfl) (by kernel_rfl) hQ (wanted_free rfl) (fun w hw => rgM (.tmp 10) rfl (by rw [eval_ne (by decide), eval_ne (by decide), eval_ne (by decide), eval_ne (by decide), eval_ne (by decide)]; exact h10) w) hS0 ?_
  refine wpAnyL_put 6 43 (.pointer (some ⟨ga, 0 + i, none⟩)) (oi := oIx_6) rfl rfl (by kernel_rfl) (by kernel_rfl) (by kernel_rfl) (by kernel_rfl) hQ (wanted_free rfl) (fun w hw => rgX (.tmp 41) (.tmp 42) rfl (by rw [eval_ne (by decide)]; exact eval_eq (by rw [put_size, put_size, put_size, put_size]; omega)) (eval_eq (by rw [put_size, put_size, put_size, put_size, put_size]; omega)) hi' w) hS0 ?_
  refine wpAnyL_put 7 44 (.int .i64 (J : Nat)) (oi := oIx_7) rfl rfl (by kernel_rfl) (by kernel_rfl) (by kernel_rfl) (by kernel_rfl) hQ (wanted_free rfl) (fun w hw => rgI (.tmp 43) _ rfl (eval_eq (by rw [put_size, put_size, put_size, put_size, put_size, put_size]; omega)) w (hS w hw).2.2.2.1) hS0 ?_
  refine wpAnyL_put 8 45 (.pointer (some ⟨bd, od + J, none⟩)) (oi := oIx_8) rfl rfl (by kernel_rfl) (by kernel_rfl) (by kernel_rfl) (by kernel_rfl) hQ (wanted_free rfl) (fun w hw => rgX (.tmp 40) (.tmp 44) rfl (by rw [eval_ne (by decide), eval_ne (by decide), eval_ne (by decide), eval_ne (by decide)]; exact eval_eq (by rw [put_size, put_size, put_size]; omega)) (eval_eq (by rw [put_size, put_size, put_size, put_size, put_size, put_size, put_size]; omega)) hJ w) hS0 ?_
  refine wpAnyL_put 9 46 (.int .i64 x) (oi := oIx_9) rfl rfl (by kernel_rfl) (by kernel_rfl) (by kernel_rfl) (by kernel_rfl) hQ (wanted_free rfl) (fun w hw => rgI (.tmp 45) _ rfl (eval_eq (by rw [put_size, put_size, put_size, put_size, put_size, put_size, put_size, put_size]; omega)) w (hS w hw).2.2.2.2) hS0 ?_
  refine wpAnyL_one (i := 10) (by kernel_rfl) ?_
  refine op_wp (o := oIx_10) rfl (wanted_free rfl) ?_
  unfold Oper.wp
  rw [rgS1 (o := oIx_10) 46 rfl (eval_eq (by rw [put_size, put_size, put_size, put_size, put_size, put_size, put_size, put_size, put_size]; omega)) W.drew]
  have hbx : Below W.heap.size W (W.drew.alloc (.cells #[.int .i64 x] 3)) := hb0.alloc hb0.size _
  refine ⟨fun _ => HK _ hbx, ?_⟩
  show wpAnyL _ _ _ _ _ _ (2 + 1) _ (Act.put _ (some 47) _) _
  refine wpAnyL_one (i := 11) (by kernel_rfl) ?_
  refine op_wp (o := oIx_11) rfl (wanted_free rfl) ?_
  refine wp_append_lies _ (.tmp 38) (.tmp 47) 22 rfl base 3 i0 (.int .i64 0) 1 8 Try.underlying22 hi hz0 hz1 hz2 rfl (by decide) (.slice (some ⟨g, 0, none⟩) k cap) k xs (by rw [eval_ne (by decide), eval_ne (by decide), eval_ne (by decide), eval_ne (by decide), eval_ne (by decide), eval_ne (by decide), eval_ne (by decide), eval_ne (by decide), eval_ne (by decide)]; exact eval_eq (by rw [put_size]; omega)) (owns_below hown (Nat.le_refl _) hbx) ⟨W.heap.size, 0, none⟩ 1 1 [.int .i64 x] (eval_eq (by rw [put_size, put_size, put_size, put_size, put_size, put_size, put_size, put_size, put_size, put_size]; omega)) (by rfl) (cells_new W.drew _) (one_one _) (by omega) (by unfold maxLen; omega) (by omega) (by have := hb0.size; simp; omega) (W.drew.heap.size + 1) (by simp) ?_
  intro g' cap' w7 hown7 hgrow hat hlt
  have hS7 := HA w7 hgrow
  refine ⟨fun _ => hS7, ?_⟩
  show wpAnyL _ _ _ _ _ _ (1 + 1) _ (Act.put _ (some 48) _) _
  refine wpAnyL_put 12 49 (.pointer (some ⟨p, 2, none⟩)) (oi := oIx_12) rfl rfl (by kernel_rfl) (by kernel_rfl) (by kernel_rfl) (by kernel_rfl) hQ (wanted_free rfl) (fun w hw => rgF2 (.tmp 9) p rfl (by rw [eval_ne (by decide), eval_ne (by decide), eval_ne (by decide), eval_ne (by decide), eval_ne (by decide), eval_ne (by decide), eval_ne (by decide), eval_ne (by decide), eval_ne (by decide), eval_ne (by decide), eval_ne (by decide), eval_ne (by decide)]; exact h9) w) hS7 ?_
  refine wpAnyL_one (i := 13) (by kernel_rfl) ?_
  refine op_wp (o := oIx_13) rfl (wanted_free rfl) ?_
  unfold Oper.wp
  rw [rgSt (o := oIx_13) (.tmp 49) (.tmp 48) p (s := some ⟨g', 0, none⟩) (l := k + 1) (c := cap') rfl (eval_eq (by rw [put_size, put_size, put_size, put_size, put_size, put_size, put_size, put_size, put_size, put_size, put_size, put_size]; omega)) (by rw [eval_ne (by decide)]; exact eval_eq (by rw [put_size, put_size, put_size, put_size, put_size, put_size, put_size, put_size, put_size, put_size, put_size]; omega)) w7 (hS w7 hS7).1 (hS w7 hS7).2.1]
  refine ⟨fun h => absurd rfl h, ?_⟩
  refine wpAnyL_done (by kernel_rfl) ?_ _
  have h := hend g' cap' w7 hown7 hgrow hat
  unfold outIx at h
  rw [show oIx_13.dst = none from rfl, put_nothing]
  exact h

end Go.Proofs.Ytngbmcljhcckmaa
namespace Go.Proofs.Ytngbmcljhcckmaa
open Go.RowKit

section
variable {w2 W w7 : World} {p g g' cap cap' n : Nat} {c : Bool} {ash : Option Addr} {m csh : Nat} {zs l : List Int}
theorem Gat.alloc (h : Gat w2 p c ash m csh zs l n W g cap) (o : Obj) : Gat w2 p c ash m csh zs l n (W.alloc o) g cap :=
  have hb : Below W.heap.size W (W.alloc o) := (Below.refl _ _).alloc (Nat.le_refl _) _
  ⟨h.box.below (Nat.le_refl _) hb, owns_below h.owns (Nat.le_refl _) hb, h.own.below (Nat.le_refl _) hb, h.ne, h.low.trans (hb.mono h.low.size), h.place⟩

theorem Gat.below {W' : World} (h : Gat w2 p c ash m csh zs l n W g cap) (hb : Below W.heap.size W W') : Gat w2 p c ash m csh zs l n W' g cap :=
  ⟨h.box.below (Nat.le_refl _) hb, owns_below h.owns (Nat.le_refl _) hb, h.own.below (Nat.le_refl _) hb, h.ne, h.low.trans (hb.mono h.low.size), h.place⟩

theorem Gat.grew1 (h : Gat w2 p c ash m csh zs l n W g cap) {x : Int} (hg : (W.drew.alloc (.cells #[.int .i64 x] 3)).grownBy w7 (some g)) :
    Box w7 p c (.slice ash m csh) (.slice (some ⟨g, 0, none⟩) n cap) ∧ Below w2.heap.size w2 w7 := (h.drew.alloc _).grew hg

theorem Gat.push1 (h : Gat w2 p c ash m csh zs l n W g cap) {x : Int} (hown : w7.ownsRow w2.heap.size 3 1 (.slice (some ⟨g', 0, none⟩) (n + 1) cap') (n + 1) (l.map (Value.int .i64) ++ [.int .i64 x]))
    (hg : (W.drew.alloc (.cells #[.int .i64 x] 3)).grownBy w7 (Value.ownBlock (.slice (some ⟨g, 0, none⟩) n cap))) (hat : Value.ownBlock (.slice (some ⟨g, 0, none⟩) n cap) = some g' ∨ g' = W.drew.heap.size + 1) :
    Gat w2 p c ash m csh zs (l ++ [x]) (n + 1) (w7.setCell ⟨p, 2, none⟩ (.slice (some ⟨g', 0, none⟩) (n + 1) cap')) g' cap' := by
  refine ((h.drew.alloc (.cells #[.int .i64 x] 3)).push (r := [x]) hown hg ?_).2
  rcases hat with e | e
  · left
    have e' : g = g' := by simpa [Value.ownBlock] using e
    exact e'.symm
  · right
    rw [e]
    simp
end

end Go.Proofs.Ytngbmcljhcckmaa
namespace Go.Proofs.Ytngbmcljhcckmaa
open Go.RowKit

/-- An array in box p, its elements so far l; all made behind the world Q. -/
structure GatQ (Q : World) (p : Nat) (c : Bool) (v1 : Value) (l : List Int) (n : Nat) (wr : World) (g cap : Nat) : Prop where
  box : Box wr p c v1 (.slice (some ⟨g, 0, none⟩) n cap)
  owns : wr.ownsRow Q.heap.size 3 1 (.slice (some ⟨g, 0, none⟩) n cap) n (l.map (Value.int .i64))
  low : Below Q.heap.size Q wr
  place : Q.heap.size ≤ p

section
variable {Q w w7 : World} {p g g' cap cap' n : Nat} {c : Bool} {v1 : Value} {l : List Int}

theorem GatQ.grew1 (h : GatQ Q p c v1 l n w g cap) {x : Int} (hg : (w.drew.alloc (.cells #[.int .i64 x] 3)).grownBy w7 (some g)) :
    Box w7 p c v1 (.slice (some ⟨g, 0, none⟩) n cap) ∧ Below Q.heap.size Q w7 := by
  have hb : Below w.heap.size w (w.drew.alloc (.cells #[.int .i64 x] 3)) := (Below.refl _ _).drew.alloc (Nat.le_refl _) _
  have ho := owns_below h.owns (Nat.le_refl _) hb
  exact ⟨(h.box.below (Nat.le_refl _) hb).grown0 ho hg, (h.low.trans (hb.mono h.low.size)).grown hg (by have := h.low.size; simp; omega) (by intro k hk; cases hk; exact owns_ge h.owns)⟩

theorem GatQ.push1 (h : GatQ Q p c v1 l n w g cap) {x : Int} (hown : w7.ownsRow Q.heap.size 3 1 (.slice (some ⟨g', 0, none⟩) (n + 1) cap') (n + 1) (l.map (Value.int .i64) ++ [.int .i64 x]))
    (hg : (w.drew.alloc (.cells #[.int .i64 x] 3)).grownBy w7 (Value.ownBlock (.slice (some ⟨g, 0, none⟩) n cap))) :
    GatQ Q p c v1 (l ++ [x]) (n + 1) (w7.setCell ⟨p, 2, none⟩ (.slice (some ⟨g', 0, none⟩) (n + 1) cap')) g' cap' := by
  obtain ⟨hb, hl⟩ := h.grew1 (x := x) hg
  refine ⟨hb.set2 _, ?_, hl.setCell h.place _, h.place⟩
  rw [List.map_append]
  exact owns_box_set hown hb _ _
end

set_option maxRecDepth 20000 in
set_option maxHeartbeats 8000000 in
theorem Index_any (c : Bool) (a1 a2 : Addr) (ap : Option Addr) (n1 n2 c1 c2 np cp : Nat) (sh dt : List Int) (ps : List PartD) (w : World) (h1 : Row w (some a1) n1 sh) (h2 : Row w (some a2) n2 dt) (hp : PRowN w ap np ps) :
    Calls Try.prog 26 #[.agg #[.bool c, .slice (some a1) n1 c1, .slice (some a2) n2 c2], .slice ap np cp] w (GivesRow w (indexA c sh dt ps)) := by
  have hl1 := hide h1.len
  have hl2 := hide h2.len
  have hs1 := h1.small
  have hs2 := h2.small
  have H1 := hide h1
  have H2 := hide h2
  have HP := hide hp
  clear h1 h2 hp
  obtain ⟨r1, hr1⟩ : ∃ r, arrOk c sh dt = r := ⟨_, rfl⟩
  have HR1 := hide hr1
  clear hr1
  go_enter Try.func26, Try.ntmps26
  go_wp2_with fail
  refine (ArrayOk_eq _ _ _ _ _ _ _ sh dt _ (((unhide H1).alloc _).alloc _) (((unhide H2).alloc _).alloc _) _ HR1).mono ?_
  rintro e w1 ⟨rfl, hb1⟩
  obtain ⟨B4, B6, hB1⟩ := boxes2 hb1
  have hz1 := B6.lt
  clear hb1
  obtain ⟨x0, x1, x2, x3, x4, x5, x6⟩ := B4.all
  cases r1 with
  | false =>
    have HS : Hid (indexA c sh dt ps = noAns 3) := index_bad (unhide HR1)
    go_wp2_with fail
    refine (l4None_any _).mono ?_
    rintro e w9 ⟨rfl, hb9⟩
    obtain ⟨q0, q1, q2, q3, q4, q5, q6⟩ := ((B6).below (Nat.le_refl _) hb9).all
    have hB9 := hide ((hB1).trans (hb9.mono (hB1).size))
    clear hb9 hB1 B4 B6 hz1 x0 x1 x2 x3 x4 x5 x6
    go_wp2
    refine bodyPost_ret (v := .tuple #[.agg #[.bool false, .slice none 0 0, .slice none 0 0], .int .i64 3]) (by simp [results, Try.results26, go_sem, q0, q1, q2]) rfl ?_
    rw [unhide HS]
    exact ⟨none, 0, 0, none, 0, 0, rfl, row_nil _ _, row_nil _ _, (((unhide hB9).setCell (by simp <;> omega) _).setCell (by simp <;> omega) _).setCell (by simp <;> omega) _⟩
  | true =>
    obtain ⟨code, hcode⟩ : ∃ x, partsCode sh ps = x := ⟨_, rfl⟩
    have HCODE := hide hcode
    obtain ⟨hsi, hpd, h5'⟩ := shapeIn_of (unhide HR1)
    have h5 : n1 ≤ 5 := by rw [← unhide hl1]; exact h5'
    obtain ⟨N, hN⟩ : ∃ N : Nat, code = 0 → prodAll (pSh sh ps) = (N : Int) := ⟨(prodAll (pSh sh ps)).toNat, fun h0 => by
      obtain ⟨ho, hb⟩ := parts_ok (by rw [hcode]; exact h0)
      have := (counts_in ho hsi hb).2.2
      omega⟩
    have HN := hide hN
    have HSI := hide hsi
    have HPD : Hid (prodAll sh = (n2 : Int)) := hpd.trans (by rw [unhide hl2])
    clear hcode hN hsi hpd h5'
    go_wp2_with fail
    refine (l5Where_any _ _ _ _ _ _ _ _ _ _ sh ps _ (by exact (unhide H1).below (Nat.le_refl _) hB1) (by exact (unhide HP).below (Nat.le_refl _) hB1) (unhide HSI) h5 code HCODE N (unhide HN)).mono ?_
    rintro e Q ⟨v, u, rfl, hbQ, hpl⟩
    have C4 := hide (B4.below (Nat.le_refl _) hbQ)
    have C6 := hide (B6.below (Nat.le_refl _) hbQ)
    have HBQ := hide (hB1.trans (hbQ.mono hB1.size))
    have HPL := hide hpl
    have hzQ : w.heap.size + 1 < Q.heap.size := by have := (unhide C6).lt; omega
    clear hbQ hpl B4 B6 hB1 hz1 x0 x1 x2 x3 x4 x5 x6
    clear w1
    obtain ⟨x0, x1, x2, x3, x4, x5, x6⟩ := (unhide C4).all
    by_cases hc0 : code = 0
    case neg =>
      have HS : Hid (indexA c sh dt ps = noAns code) := index_code (unhide HR1) code (unhide HCODE) hc0
      have hcb : (code != 0) = true := by simp [hc0]
      clear hc0 HPL HN
      go_wp2_with fail
      refine (l4None_any _).mono ?_
      rintro e w9 ⟨rfl, hb9⟩
      obtain ⟨q0, q1, q2, q3, q4, q5, q6⟩ := ((unhide C6).below (Nat.le_refl _) hb9).all
      have hB9 := hide ((unhide HBQ).trans (hb9.mono (unhide HBQ).size))
      clear hb9 C4 C6 x0 x1 x2 x3 x4 x5 x6
      go_wp2
      refine bodyPost_ret (v := .tuple #[.agg #[.bool false, .slice none 0 0, .slice none 0 0], .int .i64 code]) (by simp [results, Try.results26, go_sem, q0, q1, q2]) rfl ?_
      rw [unhide HS]
      exact ⟨none, 0, 0, none, 0, 0, rfl, row_nil _ _, row_nil _ _, (((unhide hB9).setCell (by simp <;> omega) _).setCell (by simp <;> omega) _).setCell (by simp <;> omega) _⟩
    subst hc0
    obtain ⟨ga, ca, gb, nb, cb, rfl, rfl, hca, hcb, hra, hrb⟩ := unhide HPL rfl
    have hNv := unhide HN rfl
    obtain ⟨ho, hsb⟩ := parts_ok (unhide HCODE)
    have hNb : N ≤ 10000 := by have := (counts_in ho (unhide HSI) hsb).2.2; omega
    have HGO : Hid (indexA c sh dt ps = ⟨c, pSh sh ps, vals (pickedAt dt sh ps) N, 0⟩) := index_go (unhide HR1) (unhide HCODE) N hNv
    have HWB : Hid (∀ t, t < N → 0 ≤ whereAt sh ps t ∧ whereAt sh ps t < (n2 : Int)) := fun t ht => by
      have := (where_bd ho (unhide HSI) hsb (t := t) (by rw [hNv]; omega)).2
      rw [unhide HPD] at this
      exact this
    have HRA := hide hra
    have HRB := hide hrb
    have HQ2 : Hid (Row Q (some a2) n2 dt) := (unhide H2).below (Nat.le_refl _) (unhide HBQ)
    clear hra hrb ho hsb hNv HN HPL HCODE HR1 HPD HSI hca hcb
    go_upto_region 7 with fail
    have HST : Hid (GatQ Q (Q.heap.size + 1) c (.slice (some ⟨gb, 0, none⟩) nb cb) [] 0 ((Q.alloc (.cells #[] 3)).alloc (.cells #[.bool c, .slice (some ⟨gb, 0, none⟩) nb cb, .slice (some ⟨Q.heap.size, 0, none⟩) 0 0] 26)) Q.heap.size 0) := by
      refine ⟨?_, owns_below (owns_empty Q) (Nat.le_refl _) ((Below.refl _ _).alloc (Nat.le_refl _) _), ((Below.refl _ _).alloc (Nat.le_refl _) _).alloc (by simp) _, by omega⟩
      have := Box.new (Q.alloc (.cells #[] 3)) c (.slice (some ⟨gb, 0, none⟩) nb cb) (.slice (some ⟨Q.heap.size, 0, none⟩) 0 0)
      simpa using this
    clear x0 x1 x2 x3 x4 x5 x6
    go_wp2_with fail
    go_loopw [10] (fun i wr => ∃ (k g cap : Nat), k ≤ N ∧ i = .int .i64 k ∧ Hid (GatQ Q (Q.heap.size + 1) c (.slice (some ⟨gb, 0, none⟩) nb cb) (vals (pickedAt dt sh ps) k) k wr g cap)) (fun i _ => N - (intOf i).toNat)
    case atStart => exact ⟨0, _, _, Nat.zero_le _, rfl, unhide HST⟩
    case round =>
      obtain ⟨k, g, cap, hk, rfl, HG⟩ := hrel
      clear HST
      by_cases hlt : k < N
      · have hst := unhide HG
        obtain ⟨ad1, o1, hbo, hb1, hcw⟩ := ((unhide HRA).below (Nat.le_refl _) hst.low).get hlt
        cases hbo
        rw [whereL_get _ _ hlt] at hcw
        have hwb := unhide HWB k hlt
        obtain ⟨J, hJ⟩ : ∃ J : Nat, whereAt sh ps k = J := ⟨(whereAt sh ps k).toNat, by omega⟩
        rw [hJ] at hcw hwb
        have hJl : J < n2 := by omega
        obtain ⟨bd, od, hbd, hb2, hcd⟩ := ((unhide HQ2).below (Nat.le_refl _) hst.low).get hJl
        cases hbd
        obtain ⟨x, hx⟩ : ∃ x, x = dt.getD J 0 := ⟨_, rfl⟩
        rw [← hx] at hcd
        have HSTEP : Hid (vals (pickedAt dt sh ps) (k + 1) = vals (pickedAt dt sh ps) k ++ [x]) := by
          have e : (pickedAt dt sh ps k).1 = x := by unfold pickedAt; rw [hJ, hx]; simp
          show vals _ _ = _
          unfold vals
          rw [List.range_succ, List.map_append]
          simp [e]
        have HSX : ∀ wx, Box wx (Q.heap.size + 1) c (.slice (some ⟨gb, 0, none⟩) nb cb) (.slice (some ⟨g, 0, none⟩) k cap) → Below Q.heap.size Q wx → wx.cell? ⟨Q.heap.size + 1, 2, none⟩ = some (.slice (some ⟨g, 0, none⟩) k cap) ∧ wx.frozen? ⟨Q.heap.size + 1, 2, none⟩ = false ∧ wx.cell? ⟨w.heap.size, 2, none⟩ = some (.slice (some ⟨bd, od, none⟩) n2 c2) ∧ wx.cell? ⟨ga, 0 + k, none⟩ = some (.int .i64 (J : Nat)) ∧ wx.cell? ⟨bd, od + J, none⟩ = some (.int .i64 x) := fun wx hbx hlx => by
          obtain ⟨z0, z1, z2, z3, z4, z5, z6⟩ := hbx.all
          have hgl := (unhide HRA).hi (k := ga) (at_self (by omega))
          have hbl := (unhide HQ2).hi (k := bd) (at_self (by omega))
          refine ⟨z2, by assumption, ((unhide C4).below (Nat.le_refl _) hlx).cells.2.2, ?_, ?_⟩
          · have := (hlx.cell (p := ⟨ga, 0 + k, none⟩) hgl).trans ((hst.low.cell (p := ⟨ga, 0 + k, none⟩) hgl).symm.trans (by simpa using hcw))
            simpa using this
          · exact (hlx.cell (p := ⟨bd, od + J, none⟩) hbl).trans ((hst.low.cell (p := ⟨bd, od + J, none⟩) hbl).symm.trans hcd)
        clear hcw hcd hb1 hb2 hx hwb hJ
        go_wp2_with fail
        refine regionIx _ wr (by simp) (Q.heap.size + 1) w.heap.size ga N ca k J g k cap bd od n2 c2 x rfl rfl rfl rfl hlt hJl ((vals (pickedAt dt sh ps) k).map (Value.int .i64)) Q.heap.size hst.owns hst.low.size (by omega)
          (fun wx => wx.cell? ⟨Q.heap.size + 1, 2, none⟩ = some (.slice (some ⟨g, 0, none⟩) k cap) ∧ wx.frozen? ⟨Q.heap.size + 1, 2, none⟩ = false ∧ wx.cell? ⟨w.heap.size, 2, none⟩ = some (.slice (some ⟨bd, od, none⟩) n2 c2) ∧ wx.cell? ⟨ga, 0 + k, none⟩ = some (.int .i64 (J : Nat)) ∧ wx.cell? ⟨bd, od + J, none⟩ = some (.int .i64 x)) (fun wx h => h)
          (fun wx hb => HSX wx (hst.box.below (Nat.le_refl _) hb) (hst.low.trans (hb.mono hst.low.size))) (fun w7 hg => HSX w7 (hst.grew1 hg).1 (hst.grew1 hg).2) (fun _ _ _ _ _ h => h) ?_
        intro g' cap' w7 hown' hgrow hat
        have hst6 : Hid (GatQ Q (Q.heap.size + 1) c (.slice (some ⟨gb, 0, none⟩) nb cb) (vals (pickedAt dt sh ps) (k + 1)) (k + 1) (w7.setCell ⟨Q.heap.size + 1, 2, none⟩ (.slice (some ⟨g', 0, none⟩) (k + 1) cap')) g' cap') := by
          show GatQ _ _ _ _ _ _ _ _ _
          rw [unhide HSTEP]
          exact hst.push1 hown' hgrow
        clear hst hown' hgrow hat HSX HG
        simp only [outIx, Act.put, List.setIfInBounds_toArray, List.set_cons_zero, List.set_cons_succ]
        go_wp2_with fail
        go_roundw
        case rel => exact ⟨k + 1, g', cap', by omega, by go_num, hst6⟩
        case measure => simp [intOf]; omega
      · obtain rfl : k = N := by omega
        have hst := unhide HG
        obtain ⟨ad', cd, hv, hD⟩ := Own.of_owns hst.owns (by omega)
        cases hv
        have Z6 := hide ((unhide C6).below (Nat.le_refl _) hst.low)
        obtain ⟨v0, v1, v2, v3, v4, v5, v6⟩ := hst.box.all
        obtain ⟨q0, q1, q2, q3, q4, q5, q6⟩ := (unhide Z6).all
        have HW6 := hide ((unhide HBQ).trans (hst.low.mono (unhide HBQ).size))
        have HO6 := hide ((unhide HRB).below (Nat.le_refl _) hst.low)
        have HD := hide hD
        clear hst hD HG hlt
        go_wp2
        have hx := (unhide Z6).sets (c' := c) (u1 := .slice (some ⟨gb, 0, none⟩) nb cb) (u2 := .slice (some ⟨g, 0, none⟩) k cap)
        obtain ⟨r0, r1, r2, _, _, _⟩ := hx.all
        refine bodyPost_ret (v := .tuple #[.agg #[.bool c, .slice (some ⟨gb, 0, none⟩) nb cb, .slice (some ⟨g, 0, none⟩) k cap], .int .i64 0]) (by simp [results, Try.results26, go_sem, r0, r1, r2]) rfl ?_
        rw [unhide HGO]
        exact ⟨_, _, _, _, _, _, rfl, (unhide HO6).sets (unhide Z6) _ _ _, (unhide HD).row.sets (unhide Z6) _ _ _, (((unhide HW6).setCell (by simp <;> omega) _).setCell (by simp <;> omega) _).setCell (by simp <;> omega) _⟩

end Go.Proofs.Ytngbmcljhcckmaa
namespace Go.Proofs.Ytngbmcljhcckmaa
open Go.RowKit

/-- As GivesRow, and the shape is not nil. -/
def GivesAt (w : World) (r : Ans) (e : Ending) (w' : World) : Prop := ∃ e1 k1 f1 e2 k2 f2, e = .returned (.tuple #[.agg #[.bool r.c, .slice e1 k1 f1, .slice e2 k2 f2], .int .i64 r.code]) ∧ Row w' e1 k1 r.sh ∧ Row w' e2 k2 r.dt ∧ Below w.heap.size w w' ∧ (r.code = 0 → ∃ gb, e1 = some ⟨gb, 0, none⟩)

set_option maxRecDepth 20000 in
set_option maxHeartbeats 8000000 in
theorem Index_at (c : Bool) (a1 a2 : Addr) (ap : Option Addr) (n1 n2 c1 c2 np cp : Nat) (sh dt : List Int) (ps : List PartD) (w : World) (h1 : Row w (some a1) n1 sh) (h2 : Row w (some a2) n2 dt) (hp : PRowN w ap np ps) :
    Calls Try.prog 26 #[.agg #[.bool c, .slice (some a1) n1 c1, .slice (some a2) n2 c2], .slice ap np cp] w (GivesAt w (indexA c sh dt ps)) := by
  have hl1 := hide h1.len
  have hl2 := hide h2.len
  have hs1 := h1.small
  have hs2 := h2.small
  have H1 := hide h1
  have H2 := hide h2
  have HP := hide hp
  clear h1 h2 hp
  obtain ⟨r1, hr1⟩ : ∃ r, arrOk c sh dt = r := ⟨_, rfl⟩
  have HR1 := hide hr1
  clear hr1
  go_enter Try.func26, Try.ntmps26
  go_wp2_with fail
  refine (ArrayOk_eq _ _ _ _ _ _ _ sh dt _ (((unhide H1).alloc _).alloc _) (((unhide H2).alloc _).alloc _) _ HR1).mono ?_
  rintro e w1 ⟨rfl, hb1⟩
  obtain ⟨B4, B6, hB1⟩ := boxes2 hb1
  have hz1 := B6.lt
  clear hb1
  obtain ⟨x0, x1, x2, x3, x4, x5, x6⟩ := B4.all
  cases r1 with
  | false =>
    have HS : Hid (indexA c sh dt ps = noAns 3) := index_bad (unhide HR1)
    go_wp2_with fail
    refine (l4None_any _).mono ?_
    rintro e w9 ⟨rfl, hb9⟩
    obtain ⟨q0, q1, q2, q3, q4, q5, q6⟩ := ((B6).below (Nat.le_refl _) hb9).all
    have hB9 := hide ((hB1).trans (hb9.mono (hB1).size))
    clear hb9 hB1 B4 B6 hz1 x0 x1 x2 x3 x4 x5 x6
    go_wp2
    refine bodyPost_ret (v := .tuple #[.agg #[.bool false, .slice none 0 0, .slice none 0 0], .int .i64 3]) (by simp [results, Try.results26, go_sem, q0, q1, q2]) rfl ?_
    rw [unhide HS]
    exact ⟨none, 0, 0, none, 0, 0, rfl, row_nil _ _, row_nil _ _, (((unhide hB9).setCell (by simp <;> omega) _).setCell (by simp <;> omega) _).setCell (by simp <;> omega) _, fun h => absurd (show (3 : Int) = 0 from h) (by decide)⟩
  | true =>
    obtain ⟨code, hcode⟩ : ∃ x, partsCode sh ps = x := ⟨_, rfl⟩
    have HCODE := hide hcode
    obtain ⟨hsi, hpd, h5'⟩ := shapeIn_of (unhide HR1)
    have h5 : n1 ≤ 5 := by rw [← unhide hl1]; exact h5'
    obtain ⟨N, hN⟩ : ∃ N : Nat, code = 0 → prodAll (pSh sh ps) = (N : Int) := ⟨(prodAll (pSh sh ps)).toNat, fun h0 => by
      obtain ⟨ho, hb⟩ := parts_ok (by rw [hcode]; exact h0)
      have := (counts_in ho hsi hb).2.2
      omega⟩
    have HN := hide hN
    have HSI := hide hsi
    have HPD : Hid (prodAll sh = (n2 : Int)) := hpd.trans (by rw [unhide hl2])
    clear hcode hN hsi hpd h5'
    go_wp2_with fail
    refine (l5Where_any _ _ _ _ _ _ _ _ _ _ sh ps _ (by exact (unhide H1).below (Nat.le_refl _) hB1) (by exact (unhide HP).below (Nat.le_refl _) hB1) (unhide HSI) h5 code HCODE N (unhide HN)).mono ?_
    rintro e Q ⟨v, u, rfl, hbQ, hpl⟩
    have C4 := hide (B4.below (Nat.le_refl _) hbQ)
    have C6 := hide (B6.below (Nat.le_refl _) hbQ)
    have HBQ := hide (hB1.trans (hbQ.mono hB1.size))
    have HPL := hide hpl
    have hzQ : w.heap.size + 1 < Q.heap.size := by have := (unhide C6).lt; omega
    clear hbQ hpl B4 B6 hB1 hz1 x0 x1 x2 x3 x4 x5 x6
    clear w1
    obtain ⟨x0, x1, x2, x3, x4, x5, x6⟩ := (unhide C4).all
    by_cases hc0 : code = 0
    case neg =>
      have HS : Hid (indexA c sh dt ps = noAns code) := index_code (unhide HR1) code (unhide HCODE) hc0
      have hcb : (code != 0) = true := by simp [hc0]
      have HC0 := hide hc0
      clear hc0 HPL HN
      go_wp2_with fail
      refine (l4None_any _).mono ?_
      rintro e w9 ⟨rfl, hb9⟩
      obtain ⟨q0, q1, q2, q3, q4, q5, q6⟩ := ((unhide C6).below (Nat.le_refl _) hb9).all
      have hB9 := hide ((unhide HBQ).trans (hb9.mono (unhide HBQ).size))
      clear hb9 C4 C6 x0 x1 x2 x3 x4 x5 x6
      go_wp2
      refine bodyPost_ret (v := .tuple #[.agg #[.bool false, .slice none 0 0, .slice none 0 0], .int .i64 code]) (by simp [results, Try.results26, go_sem, q0, q1, q2]) rfl ?_
      rw [unhide HS]
      exact ⟨none, 0, 0, none, 0, 0, rfl, row_nil _ _, row_nil _ _, (((unhide hB9).setCell (by simp <;> omega) _).setCell (by simp <;> omega) _).setCell (by simp <;> omega) _, fun h => absurd (show code = 0 from h) (unhide HC0)⟩
    subst hc0
    obtain ⟨ga, ca, gb, nb, cb, rfl, rfl, hca, hcb, hra, hrb⟩ := unhide HPL rfl
    have hNv := unhide HN rfl
    obtain ⟨ho, hsb⟩ := parts_ok (unhide HCODE)
    have hNb : N ≤ 10000 := by have := (counts_in ho (unhide HSI) hsb).2.2; omega
    have HGO : Hid (indexA c sh dt ps = ⟨c, pSh sh ps, vals (pickedAt dt sh ps) N, 0⟩) := index_go (unhide HR1) (unhide HCODE) N hNv
    have HWB : Hid (∀ t, t < N → 0 ≤ whereAt sh ps t ∧ whereAt sh ps t < (n2 : Int)) := fun t ht => by
      have := (where_bd ho (unhide HSI) hsb (t := t) (by rw [hNv]; omega)).2
      rw [unhide HPD] at this
      exact this
    have HRA := hide hra
    have HRB := hide hrb
    have HQ2 : Hid (Row Q (some a2) n2 dt) := (unhide H2).below (Nat.le_refl _) (unhide HBQ)
    clear hra hrb ho hsb hNv HN HPL HCODE HR1 HPD HSI hca hcb
    go_upto_region 7 with fail
    have HST : Hid (GatQ Q (Q.heap.size + 1) c (.slice (some ⟨gb, 0, none⟩) nb cb) [] 0 ((Q.alloc (.cells #[] 3)).alloc (.cells #[.bool c, .slice (some ⟨gb, 0, none⟩) nb cb, .slice (some ⟨Q.heap.size, 0, none⟩) 0 0] 26)) Q.heap.size 0) := by
      refine ⟨?_, owns_below (owns_empty Q) (Nat.le_refl _) ((Below.refl _ _).alloc (Nat.le_refl _) _), ((Below.refl _ _).alloc (Nat.le_refl _) _).alloc (by simp) _, by omega⟩
      have := Box.new (Q.alloc (.cells #[] 3)) c (.slice (some ⟨gb, 0, none⟩) nb cb) (.slice (some ⟨Q.heap.size, 0, none⟩) 0 0)
      simpa using this
    clear x0 x1 x2 x3 x4 x5 x6
    go_wp2_with fail
    go_loopw [10] (fun i wr => ∃ (k g cap : Nat), k ≤ N ∧ i = .int .i64 k ∧ Hid (GatQ Q (Q.heap.size + 1) c (.slice (some ⟨gb, 0, none⟩) nb cb) (vals (pickedAt dt sh ps) k) k wr g cap)) (fun i _ => N - (intOf i).toNat)
    case atStart => exact ⟨0, _, _, Nat.zero_le _, rfl, unhide HST⟩
    case round =>
      obtain ⟨k, g, cap, hk, rfl, HG⟩ := hrel
      clear HST
      by_cases hlt : k < N
      · have hst := unhide HG
        obtain ⟨ad1, o1, hbo, hb1, hcw⟩ := ((unhide HRA).below (Nat.le_refl _) hst.low).get hlt
        cases hbo
        rw [whereL_get _ _ hlt] at hcw
        have hwb := unhide HWB k hlt
        obtain ⟨J, hJ⟩ : ∃ J : Nat, whereAt sh ps k = J := ⟨(whereAt sh ps k).toNat, by omega⟩
        rw [hJ] at hcw hwb
        have hJl : J < n2 := by omega
        obtain ⟨bd, od, hbd, hb2, hcd⟩ := ((unhide HQ2).below (Nat.le_refl _) hst.low).get hJl
        cases hbd
        obtain ⟨x, hx⟩ : ∃ x, x = dt.getD J 0 := ⟨_, rfl⟩
        rw [← hx] at hcd
        have HSTEP : Hid (vals (pickedAt dt sh ps) (k + 1) = vals (pickedAt dt sh ps) k ++ [x]) := by
          have e : (pickedAt dt sh ps k).1 = x := by unfold pickedAt; rw [hJ, hx]; simp
          show vals _ _ = _
          unfold vals
          rw [List.range_succ, List.map_append]
          simp [e]
        have HSX : ∀ wx, Box wx (Q.heap.size + 1) c (.slice (some ⟨gb, 0, none⟩) nb cb) (.slice (some ⟨g, 0, none⟩) k cap) → Below Q.heap.size Q wx → wx.cell? ⟨Q.heap.size + 1, 2, none⟩ = some (.slice (some ⟨g, 0, none⟩) k cap) ∧ wx.frozen? ⟨Q.heap.size + 1, 2, none⟩ = false ∧ wx.cell? ⟨w.heap.size, 2, none⟩ = some (.slice (some ⟨bd, od, none⟩) n2 c2) ∧ wx.cell? ⟨ga, 0 + k, none⟩ = some (.int .i64 (J : Nat)) ∧ wx.cell? ⟨bd, od + J, none⟩ = some (.int .i64 x) := fun wx hbx hlx => by
          obtain ⟨z0, z1, z2, z3, z4, z5, z6⟩ := hbx.all
          have hgl := (unhide HRA).hi (k := ga) (at_self (by omega))
          have hbl := (unhide HQ2).hi (k := bd) (at_self (by omega))
          refine ⟨z2, by assumption, ((unhide C4).below (Nat.le_refl _) hlx).cells.2.2, ?_, ?_⟩
          · have := (hlx.cell (p := ⟨ga, 0 + k, none⟩) hgl).trans ((hst.low.cell (p := ⟨ga, 0 + k, none⟩) hgl).symm.trans (by simpa using hcw))
            simpa using this
          · exact (hlx.cell (p := ⟨bd, od + J, none⟩) hbl).trans ((hst.low.cell (p := ⟨bd, od + J, none⟩) hbl).symm.trans hcd)
        clear hcw hcd hb1 hb2 hx hwb hJ
        go_wp2_with fail
        refine regionIx _ wr (by simp) (Q.heap.size + 1) w.heap.size ga N ca k J g k cap bd od n2 c2 x rfl rfl rfl rfl hlt hJl ((vals (pickedAt dt sh ps) k).map (Value.int .i64)) Q.heap.size hst.owns hst.low.size (by omega)
          (fun wx => wx.cell? ⟨Q.heap.size + 1, 2, none⟩ = some (.slice (some ⟨g, 0, none⟩) k cap) ∧ wx.frozen? ⟨Q.heap.size + 1, 2, none⟩ = false ∧ wx.cell? ⟨w.heap.size, 2, none⟩ = some (.slice (some ⟨bd, od, none⟩) n2 c2) ∧ wx.cell? ⟨ga, 0 + k, none⟩ = some (.int .i64 (J : Nat)) ∧ wx.cell? ⟨bd, od + J, none⟩ = some (.int .i64 x)) (fun wx h => h)
          (fun wx hb => HSX wx (hst.box.below (Nat.le_refl _) hb) (hst.low.trans (hb.mono hst.low.size))) (fun w7 hg => HSX w7 (hst.grew1 hg).1 (hst.grew1 hg).2) (fun _ _ _ _ _ h => h) ?_
        intro g' cap' w7 hown' hgrow hat
        have hst6 : Hid (GatQ Q (Q.heap.size + 1) c (.slice (some ⟨gb, 0, none⟩) nb cb) (vals (pickedAt dt sh ps) (k + 1)) (k + 1) (w7.setCell ⟨Q.heap.size + 1, 2, none⟩ (.slice (some ⟨g', 0, none⟩) (k + 1) cap')) g' cap') := by
          show GatQ _ _ _ _ _ _ _ _ _
          rw [unhide HSTEP]
          exact hst.push1 hown' hgrow
        clear hst hown' hgrow hat HSX HG
        simp only [outIx, Act.put, List.setIfInBounds_toArray, List.set_cons_zero, List.set_cons_succ]
        go_wp2_with fail
        go_roundw
        case rel => exact ⟨k + 1, g', cap', by omega, by go_num, hst6⟩
        case measure => simp [intOf]; omega
      · obtain rfl : k = N := by omega
        have hst := unhide HG
        obtain ⟨ad', cd, hv, hD⟩ := Own.of_owns hst.owns (by omega)
        cases hv
        have Z6 := hide ((unhide C6).below (Nat.le_refl _) hst.low)
        obtain ⟨v0, v1, v2, v3, v4, v5, v6⟩ := hst.box.all
        obtain ⟨q0, q1, q2, q3, q4, q5, q6⟩ := (unhide Z6).all
        have HW6 := hide ((unhide HBQ).trans (hst.low.mono (unhide HBQ).size))
        have HO6 := hide ((unhide HRB).below (Nat.le_refl _) hst.low)
        have HD := hide hD
        clear hst hD HG hlt
        go_wp2
        have hx := (unhide Z6).sets (c' := c) (u1 := .slice (some ⟨gb, 0, none⟩) nb cb) (u2 := .slice (some ⟨g, 0, none⟩) k cap)
        obtain ⟨r0, r1, r2, _, _, _⟩ := hx.all
        refine bodyPost_ret (v := .tuple #[.agg #[.bool c, .slice (some ⟨gb, 0, none⟩) nb cb, .slice (some ⟨g, 0, none⟩) k cap], .int .i64 0]) (by simp [results, Try.results26, go_sem, r0, r1, r2]) rfl ?_
        rw [unhide HGO]
        exact ⟨_, _, _, _, _, _, rfl, (unhide HO6).sets (unhide Z6) _ _ _, (unhide HD).row.sets (unhide Z6) _ _ _, (((unhide HW6).setCell (by simp <;> omega) _).setCell (by simp <;> omega) _).setCell (by simp <;> omega) _, fun _ => ⟨_, rfl⟩⟩

end Go.Proofs.Ytngbmcljhcckmaa
