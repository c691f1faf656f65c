import Derived.Test.YtlnangnimbgpoaaImplGather
import Derived.Test.YtlnangnimbgpoaaImplSorted
import Derived.Test.YtlnangnimbgpoaaTransGath
import Derived.Test.YtlnangnimbgpoaaImplInOrderN
import Derived.Test.YtlnangnimbgpoaaImplList5
import Derived.Test.YtlnangnimbgpoaaImplEnd5
import Derived.Deep.DeepCutAuto
namespace Go.Proofs.Ytlnangnimbgpoaa
open Go.RowKit Go.Shelf

theorem eg_trans : ∀ args w, (callFunc 49 args).run Try.prog w = .ok (.enter 49 args) w := enters_of Try.func49 (by kernel_rfl) rfl

set_option maxRecDepth 20000 in
set_option maxHeartbeats 2000000 in
theorem transClo (pk r cd : Nat) (c : Bool) (v : Value) (kd : Option Addr) (dt zs : List Int) (w : World) (hpk : Box w pk c v (.slice kd r cd)) (hr : Row w kd r dt) (ho : orderOk dt r r = true) (hz : zs.length = r) (h5 : r ≤ 5) :
    NumOk 49 #[.pointer (some ⟨pk, 0, none⟩)] (transF dt) zs r w := by
  intro D hD hDl k hk ib W hW hB
  obtain ⟨_, _, k2, _, _, _⟩ := (hpk.below (Nat.le_refl _) hW).all
  obtain ⟨bk, ok, rfl, _, ck⟩ := (hr.below (Nat.le_refl _) hW).get hk
  have hrg := order_range ho k hk
  have hlt := stepOk_lt (order_step ho hk)
  obtain ⟨j, hj⟩ : ∃ j, axNo dt k = j := ⟨_, rfl⟩
  have hdk : dt.getD k 0 = (j : Int) + 1 := by rw [← hj]; unfold axNo; omega
  rw [hj] at hlt
  rw [hdk] at ck
  have cd' := hB.cell (i := j) (by omega)
  obtain ⟨x, hx⟩ : ∃ x, D.getD j 0 = x := ⟨_, rfl⟩
  rw [hx] at cd'
  have HF : Hid (transF dt D k = x) := by show _ = _; unfold transF; rw [hj, hx]
  have hw1 : IntKind.i64.wrap ((j : Int) + 1 - 1) = (j : Int) := by rw [IntKind.wrap_i64]; omega
  rw [hz]
  clear hW hB hD hDl hpk hr ho hz hx hj hdk hrg
  go_enter Try.func49, Try.ntmps49
  go_wp2_with fail
  go_ret
  exact ⟨ret_int HF.out.symm, Below.refl _ _⟩

set_option maxRecDepth 20000 in
set_option maxHeartbeats 4000000 in
theorem implTranspose_code (c d : Bool) (a1 a2 b1 b2 : Addr) (n1 n2 m1 m2 c1 c2 d1 d2 : Nat) (sh dt sh' dt' : List Int) (w : World) (h1 : Row w (some a1) n1 sh) (h2 : Row w (some a2) n2 dt) (k1 : Row w (some b1) m1 sh') (k2 : Row w (some b2) m2 dt') (r : Int) (hrc : codeList c d sh dt sh' dt' = r) (hr : r ≠ 0) :
    Calls Try.prog 17 #[.agg #[.bool c, .slice (some a1) n1 c1, .slice (some a2) n2 c2], .agg #[.bool d, .slice (some b1) m1 d1, .slice (some b2) m2 d2]] w (GivesOwn w (noAns r)) := by
  have HRC := hide hrc
  have hs2 := h2.small
  have hs4 := k2.small
  have hs3 := k1.small
  have H1 := hide h1
  have H2 := hide h2
  have K1 := hide k1
  have K2 := hide k2
  have q : (r != 0) = true := by simp [hr]
  clear h1 h2 k1 k2 hrc hr
  go_enter Try.func17, Try.ntmps17
  go_wp2_with (first | (go_at_call 45; refine (implListCode_any c d (some a1) (some a2) (some b1) (some b2) n1 n2 m1 m2 c1 c2 d1 d2 sh dt sh' dt' _ ((((unhide H1).alloc _).alloc _).alloc _) ((((unhide H2).alloc _).alloc _).alloc _) ((((unhide K1).alloc _).alloc _).alloc _) ((((unhide K2).alloc _).alloc _).alloc _) _ HRC).mono ?_; rintro e w1 ⟨rfl, hb1⟩; obtain ⟨B0, B1, B2, hB1⟩ := boxes3 hb1; have HB0 := hide B0; have HB1 := hide B1; have HB2 := hide B2; have HB := hide hB1; obtain ⟨x0, x1, x2, x3, x4, x5, x6⟩ := B0.all; obtain ⟨y0, y1, y2, y3, y4, y5, y6⟩ := B1.all; obtain ⟨q0, q1, q2, q3, q4, q5, q6⟩ := B2.all; clear hb1 hB1 B0 B1 B2))
  refine bodyPost_ret (v := .tuple #[.agg #[.bool false, .slice none 0 0, .slice none 0 0], .int .i64 r]) (by simp [results, Try.results17, go_sem, q0, q1, q2]) rfl ?_
  exact gives_none ((((unhide HB).setCell (by simp <;> omega) _).setCell (by simp <;> omega) _).setCell (by simp <;> omega) _)

set_option maxRecDepth 20000 in
set_option maxHeartbeats 4000000 in
theorem implTranspose_len (c d : Bool) (a1 a2 b1 b2 : Addr) (n1 n2 m1 m2 c1 c2 d1 d2 : Nat) (sh dt sh' dt' : List Int) (w : World) (h1 : Row w (some a1) n1 sh) (h2 : Row w (some a2) n2 dt) (k1 : Row w (some b1) m1 sh') (k2 : Row w (some b2) m2 dt') (hrc : codeList c d sh dt sh' dt' = 0) (hn : n2 ≠ m1) :
    Calls Try.prog 17 #[.agg #[.bool c, .slice (some a1) n1 c1, .slice (some a2) n2 c2], .agg #[.bool d, .slice (some b1) m1 d1, .slice (some b2) m2 d2]] w (GivesOwn w (noAns 5)) := by
  have HRC := hide hrc
  have hs2 := h2.small
  have hs4 := k2.small
  have hs3 := k1.small
  have H1 := hide h1
  have H2 := hide h2
  have K1 := hide k1
  have K2 := hide k2
  have q : ((n2 : Int) != (m1 : Int)) = true := by simp; omega
  clear h1 h2 k1 k2 hrc
  go_enter Try.func17, Try.ntmps17
  go_wp2_with (first | (go_at_call 45; refine (implListCode_any c d (some a1) (some a2) (some b1) (some b2) n1 n2 m1 m2 c1 c2 d1 d2 sh dt sh' dt' _ ((((unhide H1).alloc _).alloc _).alloc _) ((((unhide H2).alloc _).alloc _).alloc _) ((((unhide K1).alloc _).alloc _).alloc _) ((((unhide K2).alloc _).alloc _).alloc _) _ HRC).mono ?_; rintro e w1 ⟨rfl, hb1⟩; obtain ⟨B0, B1, B2, hB1⟩ := boxes3 hb1; have HB0 := hide B0; have HB1 := hide B1; have HB2 := hide B2; have HB := hide hB1; obtain ⟨x0, x1, x2, x3, x4, x5, x6⟩ := B0.all; obtain ⟨y0, y1, y2, y3, y4, y5, y6⟩ := B1.all; obtain ⟨q0, q1, q2, q3, q4, q5, q6⟩ := B2.all; clear hb1 hB1 B0 B1 B2))
  refine bodyPost_ret (v := .tuple #[.agg #[.bool false, .slice none 0 0, .slice none 0 0], .int .i64 5]) (by simp [results, Try.results17, go_sem, q0, q1, q2]) rfl ?_
  exact gives_none ((((unhide HB).setCell (by simp <;> omega) _).setCell (by simp <;> omega) _).setCell (by simp <;> omega) _)

set_option maxRecDepth 20000 in
set_option maxHeartbeats 4000000 in
theorem implTranspose_dom (c d : Bool) (a1 a2 b1 b2 : Addr) (n1 m1 m2 c1 c2 d1 d2 : Nat) (sh dt sh' dt' : List Int) (w : World) (h1 : Row w (some a1) n1 sh) (h2 : Row w (some a2) m1 dt) (k1 : Row w (some b1) m1 sh') (k2 : Row w (some b2) m2 dt') (hrc : codeList c d sh dt sh' dt' = 0) (h5 : m1 ≤ 5) (ho : inTurn (sortedI dt) m1 = false) :
    Calls Try.prog 17 #[.agg #[.bool c, .slice (some a1) n1 c1, .slice (some a2) m1 c2], .agg #[.bool d, .slice (some b1) m1 d1, .slice (some b2) m2 d2]] w (GivesOwn w (noAns 3)) := by
  have HRC := hide hrc
  have HOR := hide ho
  have hs2 := h2.small
  have hs4 := k2.small
  have hs3 := k1.small
  have H1 := hide h1
  have H2 := hide h2
  have K1 := hide k1
  have K2 := hide k2
  clear h1 h2 k1 k2 hrc ho
  go_enter Try.func17, Try.ntmps17
  go_wp2_with (first | (go_at_call 45; refine (implListCode_any c d (some a1) (some a2) (some b1) (some b2) n1 m1 m1 m2 c1 c2 d1 d2 sh dt sh' dt' _ ((((unhide H1).alloc _).alloc _).alloc _) ((((unhide H2).alloc _).alloc _).alloc _) ((((unhide K1).alloc _).alloc _).alloc _) ((((unhide K2).alloc _).alloc _).alloc _) _ HRC).mono ?_; rintro e w1 ⟨rfl, hb1⟩; obtain ⟨B0, B1, B2, hB1⟩ := boxes3 hb1; have HB0 := hide B0; have HB1 := hide B1; have HB2 := hide B2; have HB := hide hB1; obtain ⟨x0, x1, x2, x3, x4, x5, x6⟩ := B0.all; obtain ⟨y0, y1, y2, y3, y4, y5, y6⟩ := B1.all; obtain ⟨q0, q1, q2, q3, q4, q5, q6⟩ := B2.all; clear hb1 hB1 B0 B1 B2) | (go_at_call 46; refine (isOrder_any _ _ _ dt _ ((unhide H2).below (Nat.le_refl _) (unhide HB)) (by omega) _ HOR).mono ?_; rintro e w2 ⟨rfl, hb2⟩; have HB0' := hide ((unhide HB0).below (Nat.le_refl _) hb2); have HB1' := hide ((unhide HB1).below (Nat.le_refl _) hb2); have HB2' := hide ((unhide HB2).below (Nat.le_refl _) hb2); have HC := hide ((unhide HB).trans (hb2.mono (by omega))); clear hb2 x0 x1 x2 x3 x4 x5 x6 y0 y1 y2 y3 y4 y5 y6 q0 q1 q2 q3 q4 q5 q6 HB0 HB1 HB2 HB; obtain ⟨x0, x1, x2, x3, x4, x5, x6⟩ := (unhide HB0').all; obtain ⟨y0, y1, y2, y3, y4, y5, y6⟩ := (unhide HB1').all; obtain ⟨q0, q1, q2, q3, q4, q5, q6⟩ := (unhide HB2').all))
  refine bodyPost_ret (v := .tuple #[.agg #[.bool false, .slice none 0 0, .slice none 0 0], .int .i64 3]) (by simp [results, Try.results17, go_sem, q0, q1, q2]) rfl ?_
  exact gives_none ((((unhide HC).setCell (by simp <;> omega) _).setCell (by simp <;> omega) _).setCell (by simp <;> omega) _)

set_option maxRecDepth 20000 in
set_option maxHeartbeats 4000000 in
theorem implTranspose_good (c d : Bool) (a1 a2 b1 b2 : Addr) (n1 m1 m2 c1 c2 d1 d2 : Nat) (sh dt sh' dt' : List Int) (w : World) (h1 : Row w (some a1) n1 sh) (h2 : Row w (some a2) m1 dt) (k1 : Row w (some b1) m1 sh') (k2 : Row w (some b2) m2 dt') (hrc : codeList c d sh dt sh' dt' = 0) (hok' : arrOk d sh' dt' = true) (ho : orderOk dt m1 m1 = true) :
    Calls Try.prog 17 #[.agg #[.bool c, .slice (some a1) n1 c1, .slice (some a2) m1 c2], .agg #[.bool d, .slice (some b1) m1 d1, .slice (some b2) m2 d2]] w (GivesOwn w ⟨d, turnN dt sh' m1 m1, vals (gatherAt d sh' dt' (transF dt) (turnN dt sh' m1 m1)) m2, 0⟩) := by
  obtain ⟨hin, hpr, h5⟩ := shapeIn_of hok'
  rw [k2.len] at hpr
  rw [k1.len] at h5
  have hpm := turn_perm (sh := sh') ho h2.len k1.len
  have HPZ : Hid (prodAll (turnN dt sh' m1 m1) = (m2 : Int)) := by rw [prodAll_perm hpm]; exact hpr
  have HIZ := hide (shapeIn_perm hpm.symm hin)
  have HIN := hide hin
  have HPR := hide hpr
  have HORD := hide ho
  have HRC := hide hrc
  have HOR : Hid (inTurn (sortedI dt) m1 = true) := by rw [← order_is h2.len]; exact hide ho
  have hs2 := h2.small
  have hs4 := k2.small
  have hs3 := k1.small
  have H1 := hide h1
  have H2 := hide h2
  have K1 := hide k1
  have K2 := hide k2
  clear h1 h2 k1 k2 hrc ho hin hpr hpm
  go_enter Try.func17, Try.ntmps17
  go_upto_region 8 with (first | (go_at_call 45; refine (implListCode_any c d (some a1) (some a2) (some b1) (some b2) n1 m1 m1 m2 c1 c2 d1 d2 sh dt sh' dt' _ ((((unhide H1).alloc _).alloc _).alloc _) ((((unhide H2).alloc _).alloc _).alloc _) ((((unhide K1).alloc _).alloc _).alloc _) ((((unhide K2).alloc _).alloc _).alloc _) _ HRC).mono ?_; rintro e w1 ⟨rfl, hb1⟩; obtain ⟨B0, B1, B2, hB1⟩ := boxes3 hb1; have HB0 := hide B0; have HB1 := hide B1; have HB2 := hide B2; have HB := hide hB1; obtain ⟨x0, x1, x2, x3, x4, x5, x6⟩ := B0.all; obtain ⟨y0, y1, y2, y3, y4, y5, y6⟩ := B1.all; obtain ⟨q0, q1, q2, q3, q4, q5, q6⟩ := B2.all; clear hb1 hB1 B0 B1 B2) | (go_at_call 46; refine (isOrder_any _ _ _ dt _ ((unhide H2).below (Nat.le_refl _) (unhide HB)) (by omega) _ HOR).mono ?_; rintro e w2 ⟨rfl, hb2⟩; have HB0' := hide ((unhide HB0).below (Nat.le_refl _) hb2); have HB1' := hide ((unhide HB1).below (Nat.le_refl _) hb2); have HB2' := hide ((unhide HB2).below (Nat.le_refl _) hb2); have HC := hide ((unhide HB).trans (hb2.mono (by omega))); clear hb2 x0 x1 x2 x3 x4 x5 x6 y0 y1 y2 y3 y4 y5 y6 q0 q1 q2 q3 q4 q5 q6 HB0 HB1 HB2 HB; obtain ⟨x0, x1, x2, x3, x4, x5, x6⟩ := (unhide HB0').all; obtain ⟨y0, y1, y2, y3, y4, y5, y6⟩ := (unhide HB1').all; obtain ⟨q0, q1, q2, q3, q4, q5, q6⟩ := (unhide HB2').all))
  obtain ⟨bx, hbx⟩ : ∃ bx, bx = w.heap.size + 1 + 1 := ⟨_, rfl⟩
  obtain ⟨wz, hwz⟩ : ∃ wz, wz = w2 := ⟨_, rfl⟩
  have hzb : bx < wz.heap.size := by rw [hbx, hwz]; exact q6
  have HZ0 : Hid (Box wz w.heap.size c (.slice (some a1) n1 c1) (.slice (some a2) m1 c2)) := by rw [hwz]; exact unhide HB0'
  have HZ1 : Hid (Box wz (w.heap.size + 1) d (.slice (some b1) m1 d1) (.slice (some b2) m2 d2)) := by rw [hwz]; exact unhide HB1'
  have HZ2 : Hid (Box wz bx false (.slice none 0 0) (.slice none 0 0)) := by rw [hwz, hbx]; exact unhide HB2'
  have HBZ : Hid (Below w.heap.size w wz) := by rw [hwz]; exact unhide HC
  have H2Z := hide ((unhide H2).below (Nat.le_refl _) (unhide HBZ))
  have K1Z := hide ((unhide K1).below (Nat.le_refl _) (unhide HBZ))
  have K2Z := hide ((unhide K2).below (Nat.le_refl _) (unhide HBZ))
  rw [← hwz, ← hbx]
  clear hwz HB0' HB1' HB2' HC x0 x1 x2 x3 x4 x5 x6 y0 y1 y2 y3 y4 y5 y6 q0 q1 q2 q3 q4 q5 q6 HRC HOR H1 H2 K1 K2
  obtain ⟨zz, hzz⟩ : ∃ zz, zz = turnN dt sh' m1 m1 := ⟨_, rfl⟩
  have HZL : Hid (zz.length = m1) := by rw [hzz]; exact turnN_len _ _ _ _
  rw [← hzz] at HPZ HIZ ⊢
  have HZZ := hide hzz
  clear hzz
  go_cut [5] (fun v wx => v = .int .i64 0 ∧ Res5 w d zz (vals (gatherAt d sh' dt' (transF dt) zz) m2) m1 m2 bx wx)
  case first =>
    have HKEEP : ∀ wx, But (fun k => k = bx) wz wx → wx.cell? ⟨w.heap.size + 1, 0, none⟩ = some (.bool d) ∧ wx.cell? ⟨w.heap.size + 1, 1, none⟩ = some (.slice (some b1) m1 d1) ∧ wx.cell? ⟨w.heap.size + 1, 2, none⟩ = some (.slice (some b2) m2 d2) ∧ wx.cell? ⟨w.heap.size, 2, none⟩ = some (.slice (some a2) m1 c2) := fun wx hwx => by
      obtain ⟨y0, y1, y2, _, _, _⟩ := (unhide HZ1).all
      exact ⟨(hwx.cellAt (by omega) (by omega)).trans y0, (hwx.cellAt (by omega) (by omega)).trans y1, (hwx.cellAt (by omega) (by omega)).trans y2, (hwx.cellAt (by omega) (by omega)).trans (unhide HZ0).all.2.2.1⟩
    obtain ⟨y0, y1, y2, y3⟩ := HKEEP _ (But.refl _ _)
    obtain ⟨r0, r1, r2, r3, r4, r5, r6⟩ := (unhide HZ2).all
    have hwb : w.heap.size + 1 < bx := by omega
    clear hbx
    go_region_held3 (fun wx => wx.cell? ⟨w.heap.size + 1, 0, none⟩ = some (.bool d) ∧ wx.cell? ⟨w.heap.size + 1, 1, none⟩ = some (.slice (some b1) m1 d1) ∧ wx.cell? ⟨w.heap.size + 1, 2, none⟩ = some (.slice (some b2) m2 d2) ∧ wx.cell? ⟨w.heap.size, 2, none⟩ = some (.slice (some a2) m1 c2)) (first | exact HKEEP _ (But.refl _ _).drew | exact HKEEP _ (But.of_below (unhide HKC)) | exact HKEEP _ (But.of_below (unhide HKG)) | exact HKEEP _ ((((But.of_below (S := fun k => k = bx) (unhide HKG)).setCell (p := ⟨bx, 0, none⟩) rfl _).setCell (p := ⟨bx, 1, none⟩) rfl _).setCell (p := ⟨bx, 2, none⟩) rfl _))
      (first
      | (go_at_call 48; refine (inOrder_any (some b1) (some a2) m1 d1 c2 sh' dt _ ((unhide K1Z).below (Nat.le_refl _) (Below.refl _ wz).drew) ((unhide H2Z).below (Nat.le_refl _) (Below.refl _ wz).drew) h5 (unhide HORD)).mono ?_; rintro e wC ⟨gs, rfl, hgs, hbs, hbC⟩; rw [← unhide HZZ] at hbs; have HKC : Hid (Below wz.heap.size wz wC) := (Below.refl _ wz).drew.trans hbC; have HGS := hide hbs; have HGL : Hid (wz.heap.size ≤ gs) := hgs; clear hgs hbs hbC r0 r1 r2 r3 r4 r5 r6 y0 y1 y2 y3; obtain ⟨y0, y1, y2, y3⟩ := HKEEP _ (But.of_below (unhide HKC)); obtain ⟨r0, r1, r2, r3, r4, r5, r6⟩ := ((unhide HZ2).below (Nat.le_refl _) (unhide HKC)).all)
      | (go_at_call 47; refine (gathered_any d (some b1) (some b2) (some ⟨gs, 0, none⟩) m1 m2 d1 d2 m1 m1 sh' dt' zz 49 _ eg_trans (transF dt) _ m2 ((unhide K1Z).below (Nat.le_refl _) (unhide HKC)) ((unhide K2Z).below (Nat.le_refl _) (unhide HKC)) ((unhide HGS).row (unhide HZL) (by omega)) (unhide HIN) (unhide HIZ) h5 (unhide HPZ) (unhide HPR) (transClo w.heap.size m1 c2 c _ (some a2) dt zz _ ((unhide HZ0).below (Nat.le_refl _) (unhide HKC)) ((unhide H2Z).below (Nat.le_refl _) (unhide HKC)) (unhide HORD) (unhide HZL) h5)).mono ?_; rintro e wG ⟨gd, rfl, hgd, hBG, hbG⟩; have HKG : Hid (Below wz.heap.size wz wG) := (unhide HKC).trans (hbG.mono (unhide HKC).size); have HBG := hide hBG; have HGD := hide hgd; have HGH := hide (unhide HGS).lt; have HOG := hide (((unhide HGS).below (Nat.le_refl _) hbG).own (B := wz.heap.size) (unhide HZL) (by omega) (unhide HGL)); clear hgd hBG hbG r0 r1 r2 r3 r4 r5 r6 y0 y1 y2 y3; obtain ⟨y0, y1, y2, y3⟩ := HKEEP _ (But.of_below (unhide HKG)); obtain ⟨r0, r1, r2, r3, r4, r5, r6⟩ := ((unhide HZ2).below (Nat.le_refl _) (unhide HKG)).all))
    all_goals go_wp2_with fail
    all_goals (go_meet; case rel => exact ⟨rfl, Res5.set ((unhide HZ2).below (Nat.le_refl _) (unhide HKG)) ((unhide HOG).mono (by have := (unhide HBZ).size; omega)) (by have := unhide HGD; have := (unhide HKC).size; have := (unhide HBZ).size; omega) (unhide HBG) (fun h => by have := at_eq h; have := unhide HGD; have := unhide HGH; omega) ((unhide HBZ).trans ((unhide HKG).mono (unhide HBZ).size)) (fun h => by have := at_eq h; have := unhide HGL; omega) (by have := unhide HGD; have := (unhide HKC).size; omega) (by omega)⟩)
  case rest =>
    obtain ⟨w3, hw3⟩ : ∃ x, x = wc := ⟨_, rfl⟩
    subst hw3
    obtain ⟨rfl, ash, csh, gd, hb, hO, hgd, hB, hne, hbl⟩ := hcut
    obtain ⟨q0, q1, q2, q3, q4, q5, q6⟩ := hb.all
    clear hb
    go_wp2_with fail
    refine bodyPost_ret (v := .tuple #[.agg #[.bool d, .slice ash m1 csh, .slice (some ⟨gd, 0, none⟩) m2 m2], .int .i64 0]) (by simp [results, Try.results17, go_sem, q0, q1, q2]) rfl ?_
    rw [← unhide HZZ]
    exact gives_res (by simp [vals]) (by omega) hO hgd hB hne hbl

theorem codeListT_bad1 {c d : Bool} {sh dt sh' dt' : List Int} (h : arrOk c sh dt = false) : codeList c d sh dt sh' dt' = 3 := by unfold codeList; rw [if_neg (by simp [h])]
theorem codeListT_bad2 {c d : Bool} {sh dt sh' dt' : List Int} (h : arrOk d sh' dt' = false) : codeList c d sh dt sh' dt' = 3 := by unfold codeList; rw [if_neg (by simp [h])]
theorem codeListT_ok {c d : Bool} {sh dt sh' dt' : List Int} (h : arrOk c sh dt = true) (h' : arrOk d sh' dt' = true) : codeList c d sh dt sh' dt' = listCode c sh.length := by unfold codeList; rw [if_pos ⟨h, h'⟩]

theorem implTranspose_any (c d : Bool) (a1 a2 b1 b2 : Addr) (n1 n2 m1 m2 c1 c2 d1 d2 : Nat) (sh dt sh' dt' : List Int) (w : World) (h1 : Row w (some a1) n1 sh) (h2 : Row w (some a2) n2 dt) (k1 : Row w (some b1) m1 sh') (k2 : Row w (some b2) m2 dt') :
    Calls Try.prog 17 #[.agg #[.bool c, .slice (some a1) n1 c1, .slice (some a2) n2 c2], .agg #[.bool d, .slice (some b1) m1 d1, .slice (some b2) m2 d2]] w (GivesOwn w (transpose c d sh dt sh' dt')) := by
  cases hok : arrOk c sh dt with
  | false => rw [transpose_bad1 hok]; exact implTranspose_code c d a1 a2 b1 b2 n1 n2 m1 m2 c1 c2 d1 d2 sh dt sh' dt' w h1 h2 k1 k2 3 (codeListT_bad1 hok) (by omega)
  | true =>
    cases hok' : arrOk d sh' dt' with
    | false => rw [transpose_bad2 hok']; exact implTranspose_code c d a1 a2 b1 b2 n1 n2 m1 m2 c1 c2 d1 d2 sh dt sh' dt' w h1 h2 k1 k2 3 (codeListT_bad2 hok') (by omega)
    | true =>
      have hcl := codeListT_ok hok hok'
      by_cases h0 : listCode c sh.length = 0
      · rw [h0] at hcl
        by_cases hn : n2 = m1
        · subst hn
          have hl : dt.length = sh'.length := by rw [h2.len, k1.len]
          have h5 : n2 ≤ 5 := by rw [← k1.len]; exact (shapeIn_of hok').2.2
          cases ho : orderOk dt sh'.length sh'.length with
          | false =>
            rw [transpose_dom hok hok' h0 hl ho]
            exact implTranspose_dom c d a1 a2 b1 b2 n1 n2 m2 c1 c2 d1 d2 sh dt sh' dt' w h1 h2 k1 k2 hcl h5 (by rw [← order_is h2.len, ← k1.len]; exact ho)
          | true =>
            rw [transpose_go hok hok' h0 hl ho, ← trans_vals hok' ho, k1.len, k2.len]
            exact implTranspose_good c d a1 a2 b1 b2 n1 n2 m2 c1 c2 d1 d2 sh dt sh' dt' w h1 h2 k1 k2 hcl hok' (by rw [← k1.len]; exact ho)
        · rw [transpose_len hok hok' h0 (by rw [h2.len, k1.len]; exact hn)]
          exact implTranspose_len c d a1 a2 b1 b2 n1 n2 m1 m2 c1 c2 d1 d2 sh dt sh' dt' w h1 h2 k1 k2 hcl hn
      · rw [transpose_list hok hok' _ rfl h0]
        exact implTranspose_code c d a1 a2 b1 b2 n1 n2 m1 m2 c1 c2 d1 d2 sh dt sh' dt' w h1 h2 k1 k2 _ hcl h0

end Go.Proofs.Ytlnangnimbgpoaa
