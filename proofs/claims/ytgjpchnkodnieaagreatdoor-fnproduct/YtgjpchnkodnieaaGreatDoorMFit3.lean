import Derived.Test.YtgjpchnkodnieaaGreatDoorMFit2
import Derived.Test.YtgjpchnkodnieaaGreatDoorMFit2
import Derived.Test.YtgjpchnkodnieaaGreatDoorMFit2
import Derived.Test.YtgjpchnkodnieaaGreatDoorMFit2
import Derived.Test.YtgjpchnkodnieaaGreatDoorMFit2
import Derived.Test.YtgjpchnkodnieaaGreatDoorMFit2
import Derived.Deep.DeepCutAuto
import Derived.Shelf.Slices.Reverse
import Derived.Ground.NamesProg
import Derived.Test.YtgjpchnkodnieaaGreatDoorProg
import Derived.Sort.OwnSortedInts
import Derived.Test.YtgjpchnkodnieaaGreatDoorMFit0
import Derived.Test.YtgjpchnkodnieaaGreatDoorMFit0
import Derived.RangeFuncRecord
import Derived.MapKept
import Derived.Shelf.Abstract
import Derived.Laws.EntriesVeiled
import Derived.Test.YtgjpchnkodnieaaGreatDoorMFit1
import Derived.Deep.RegionLaw
import Derived.Deep.WholeRow
import Derived.Deep.AppendLies
import Derived.Test.YtgjpchnkodnieaaGreatDoorChecked
namespace Go.Proofs.YtgjpchnkodnieaaGreatDoor
open Go.RowKit Go.Shelf

theorem eg_trans : ∀ args w, (callFunc 61 args).run Tryz.prog w = .ok (.enter 61 args) w := enters_of Tryz.func61 (by kernel_rfl) rfl

set_option maxRecDepth 20000 in
set_option maxHeartbeats 2000000 in
theorem transClo (pk r cd : Nat) (c : Bool) (v : Value) (kd : Option Addr) (dt zs : List Int) (w : World) (hpk : Box w pk c v (.slice kd r cd)) (hr : Row w kd r dt) (ho : orderOk dt r r = true) (hz : zs.length = r) (h5 : r ≤ 5) :
    NumOk 61 #[.pointer (some ⟨pk, 0, none⟩)] (transF dt) zs r w := by
  intro D hD hDl k hk ib W hW hB
  obtain ⟨_, _, k2, _, _, _⟩ := (hpk.below (Nat.le_refl _) hW).all
  obtain ⟨bk, ok, rfl, _, ck⟩ := (hr.below (Nat.le_refl _) hW).get hk
  have hrg := order_range ho k hk
  have hlt := stepOk_lt (order_step ho hk)
  obtain ⟨j, hj⟩ : ∃ j, axNo dt k = j := ⟨_, rfl⟩
  have hdk : dt.getD k 0 = (j : Int) + 1 := by rw [← hj]; unfold axNo; omega
  rw [hj] at hlt
  rw [hdk] at ck
  have cd' := hB.cell (i := j) (by omega)
  obtain ⟨x, hx⟩ : ∃ x, D.getD j 0 = x := ⟨_, rfl⟩
  rw [hx] at cd'
  have HF : Hid (transF dt D k = x) := by show _ = _; unfold transF; rw [hj, hx]
  have hw1 : IntKind.i64.wrap ((j : Int) + 1 - 1) = (j : Int) := by rw [IntKind.wrap_i64]; omega
  rw [hz]
  clear hW hB hD hDl hpk hr ho hz hx hj hdk hrg
  go_enter Tryz.func61, Tryz.ntmps61
  go_wp2_with fail
  go_ret
  exact ⟨ret_int HF.out.symm, Below.refl _ _⟩

set_option maxRecDepth 20000 in
set_option maxHeartbeats 4000000 in
theorem implTranspose_code (c d : Bool) (a1 a2 b1 b2 : Option Addr) (n1 n2 m1 m2 c1 c2 d1 d2 : Nat) (sh dt sh' dt' : List Int) (w : World) (h1 : Row w a1 n1 sh) (h2 : Row w a2 n2 dt) (k1 : Row w b1 m1 sh') (k2 : Row w b2 m2 dt') (r : Int) (hrc : codeList c d sh dt sh' dt' = r) (hr : r ≠ 0) :
    Calls Tryz.prog 15 #[.agg #[.bool c, .slice a1 n1 c1, .slice a2 n2 c2], .agg #[.bool d, .slice b1 m1 d1, .slice b2 m2 d2]] w (GivesOwn w (noAns r)) := by
  have HRC := hide hrc
  have hs2 := h2.small
  have hs4 := k2.small
  have hs3 := k1.small
  have H1 := hide h1
  have H2 := hide h2
  have K1 := hide k1
  have K2 := hide k2
  have q : (r != 0) = true := by simp [hr]
  clear h1 h2 k1 k2 hrc hr
  go_enter Tryz.func15, Tryz.ntmps15
  go_wp2_with (first | (go_at_call 57; refine (implListCode_any c d a1 a2 b1 b2 n1 n2 m1 m2 c1 c2 d1 d2 sh dt sh' dt' _ ((((unhide H1).alloc _).alloc _).alloc _) ((((unhide H2).alloc _).alloc _).alloc _) ((((unhide K1).alloc _).alloc _).alloc _) ((((unhide K2).alloc _).alloc _).alloc _) _ HRC).mono ?_; rintro e w1 ⟨rfl, hb1⟩; obtain ⟨B0, B1, B2, hB1⟩ := boxes3 hb1; have HB0 := hide B0; have HB1 := hide B1; have HB2 := hide B2; have HB := hide hB1; obtain ⟨x0, x1, x2, x3, x4, x5, x6⟩ := B0.all; obtain ⟨y0, y1, y2, y3, y4, y5, y6⟩ := B1.all; obtain ⟨q0, q1, q2, q3, q4, q5, q6⟩ := B2.all; clear hb1 hB1 B0 B1 B2))
  refine bodyPost_ret (v := .tuple #[.agg #[.bool false, .slice none 0 0, .slice none 0 0], .int .i64 r]) (by simp [results, Tryz.results15, go_sem, q0, q1, q2]) rfl ?_
  exact gives_none ((((unhide HB).setCell (by simp <;> omega) _).setCell (by simp <;> omega) _).setCell (by simp <;> omega) _)

set_option maxRecDepth 20000 in
set_option maxHeartbeats 4000000 in
theorem implTranspose_len (c d : Bool) (a1 a2 b1 b2 : Option Addr) (n1 n2 m1 m2 c1 c2 d1 d2 : Nat) (sh dt sh' dt' : List Int) (w : World) (h1 : Row w a1 n1 sh) (h2 : Row w a2 n2 dt) (k1 : Row w b1 m1 sh') (k2 : Row w b2 m2 dt') (hrc : codeList c d sh dt sh' dt' = 0) (hn : n2 ≠ m1) :
    Calls Tryz.prog 15 #[.agg #[.bool c, .slice a1 n1 c1, .slice a2 n2 c2], .agg #[.bool d, .slice b1 m1 d1, .slice b2 m2 d2]] w (GivesOwn w (noAns 5)) := by
  have HRC := hide hrc
  have hs2 := h2.small
  have hs4 := k2.small
  have hs3 := k1.small
  have H1 := hide h1
  have H2 := hide h2
  have K1 := hide k1
  have K2 := hide k2
  have q : ((n2 : Int) != (m1 : Int)) = true := by simp; omega
  clear h1 h2 k1 k2 hrc
  go_enter Tryz.func15, Tryz.ntmps15
  go_wp2_with (first | (go_at_call 57; refine (implListCode_any c d a1 a2 b1 b2 n1 n2 m1 m2 c1 c2 d1 d2 sh dt sh' dt' _ ((((unhide H1).alloc _).alloc _).alloc _) ((((unhide H2).alloc _).alloc _).alloc _) ((((unhide K1).alloc _).alloc _).alloc _) ((((unhide K2).alloc _).alloc _).alloc _) _ HRC).mono ?_; rintro e w1 ⟨rfl, hb1⟩; obtain ⟨B0, B1, B2, hB1⟩ := boxes3 hb1; have HB0 := hide B0; have HB1 := hide B1; have HB2 := hide B2; have HB := hide hB1; obtain ⟨x0, x1, x2, x3, x4, x5, x6⟩ := B0.all; obtain ⟨y0, y1, y2, y3, y4, y5, y6⟩ := B1.all; obtain ⟨q0, q1, q2, q3, q4, q5, q6⟩ := B2.all; clear hb1 hB1 B0 B1 B2))
  refine bodyPost_ret (v := .tuple #[.agg #[.bool false, .slice none 0 0, .slice none 0 0], .int .i64 5]) (by simp [results, Tryz.results15, go_sem, q0, q1, q2]) rfl ?_
  exact gives_none ((((unhide HB).setCell (by simp <;> omega) _).setCell (by simp <;> omega) _).setCell (by simp <;> omega) _)

set_option maxRecDepth 20000 in
set_option maxHeartbeats 4000000 in
theorem implTranspose_dom (c d : Bool) (a1 a2 b1 b2 : Option Addr) (n1 m1 m2 c1 c2 d1 d2 : Nat) (sh dt sh' dt' : List Int) (w : World) (h1 : Row w a1 n1 sh) (h2 : Row w a2 m1 dt) (k1 : Row w b1 m1 sh') (k2 : Row w b2 m2 dt') (hrc : codeList c d sh dt sh' dt' = 0) (h5 : m1 ≤ 5) (ho : inTurn (sortedI dt) m1 = false) :
    Calls Tryz.prog 15 #[.agg #[.bool c, .slice a1 n1 c1, .slice a2 m1 c2], .agg #[.bool d, .slice b1 m1 d1, .slice b2 m2 d2]] w (GivesOwn w (noAns 3)) := by
  have HRC := hide hrc
  have HOR := hide ho
  have hs2 := h2.small
  have hs4 := k2.small
  have hs3 := k1.small
  have H1 := hide h1
  have H2 := hide h2
  have K1 := hide k1
  have K2 := hide k2
  clear h1 h2 k1 k2 hrc ho
  go_enter Tryz.func15, Tryz.ntmps15
  go_wp2_with (first | (go_at_call 57; refine (implListCode_any c d a1 a2 b1 b2 n1 m1 m1 m2 c1 c2 d1 d2 sh dt sh' dt' _ ((((unhide H1).alloc _).alloc _).alloc _) ((((unhide H2).alloc _).alloc _).alloc _) ((((unhide K1).alloc _).alloc _).alloc _) ((((unhide K2).alloc _).alloc _).alloc _) _ HRC).mono ?_; rintro e w1 ⟨rfl, hb1⟩; obtain ⟨B0, B1, B2, hB1⟩ := boxes3 hb1; have HB0 := hide B0; have HB1 := hide B1; have HB2 := hide B2; have HB := hide hB1; obtain ⟨x0, x1, x2, x3, x4, x5, x6⟩ := B0.all; obtain ⟨y0, y1, y2, y3, y4, y5, y6⟩ := B1.all; obtain ⟨q0, q1, q2, q3, q4, q5, q6⟩ := B2.all; clear hb1 hB1 B0 B1 B2) | (go_at_call 58; refine (isOrder_any _ _ _ dt _ ((unhide H2).below (Nat.le_refl _) (unhide HB)) (by omega) _ HOR).mono ?_; rintro e w2 ⟨rfl, hb2⟩; have HB0' := hide ((unhide HB0).below (Nat.le_refl _) hb2); have HB1' := hide ((unhide HB1).below (Nat.le_refl _) hb2); have HB2' := hide ((unhide HB2).below (Nat.le_refl _) hb2); have HC := hide ((unhide HB).trans (hb2.mono (by omega))); clear hb2 x0 x1 x2 x3 x4 x5 x6 y0 y1 y2 y3 y4 y5 y6 q0 q1 q2 q3 q4 q5 q6 HB0 HB1 HB2 HB; obtain ⟨x0, x1, x2, x3, x4, x5, x6⟩ := (unhide HB0').all; obtain ⟨y0, y1, y2, y3, y4, y5, y6⟩ := (unhide HB1').all; obtain ⟨q0, q1, q2, q3, q4, q5, q6⟩ := (unhide HB2').all))
  refine bodyPost_ret (v := .tuple #[.agg #[.bool false, .slice none 0 0, .slice none 0 0], .int .i64 3]) (by simp [results, Tryz.results15, go_sem, q0, q1, q2]) rfl ?_
  exact gives_none ((((unhide HC).setCell (by simp <;> omega) _).setCell (by simp <;> omega) _).setCell (by simp <;> omega) _)

set_option maxRecDepth 20000 in
set_option maxHeartbeats 4000000 in
theorem implTranspose_good (c d : Bool) (a1 a2 b1 b2 : Option Addr) (n1 m1 m2 c1 c2 d1 d2 : Nat) (sh dt sh' dt' : List Int) (w : World) (h1 : Row w a1 n1 sh) (h2 : Row w a2 m1 dt) (k1 : Row w b1 m1 sh') (k2 : Row w b2 m2 dt') (hrc : codeList c d sh dt sh' dt' = 0) (hok' : arrOk d sh' dt' = true) (ho : orderOk dt m1 m1 = true) :
    Calls Tryz.prog 15 #[.agg #[.bool c, .slice a1 n1 c1, .slice a2 m1 c2], .agg #[.bool d, .slice b1 m1 d1, .slice b2 m2 d2]] w (GivesOwn w ⟨d, turnN dt sh' m1 m1, vals (gatherAt d sh' dt' (transF dt) (turnN dt sh' m1 m1)) m2, 0⟩) := by
  obtain ⟨hin, hpr, h5⟩ := shapeIn_of hok'
  rw [k2.len] at hpr
  rw [k1.len] at h5
  have hpm := turn_perm (sh := sh') ho h2.len k1.len
  have HPZ : Hid (prodAll (turnN dt sh' m1 m1) = (m2 : Int)) := by rw [prodAll_perm hpm]; exact hpr
  have HIZ := hide (shapeIn_perm hpm.symm hin)
  have HIN := hide hin
  have HPR := hide hpr
  have HORD := hide ho
  have HRC := hide hrc
  have HOR : Hid (inTurn (sortedI dt) m1 = true) := by rw [← order_is h2.len]; exact hide ho
  have hs2 := h2.small
  have hs4 := k2.small
  have hs3 := k1.small
  have H1 := hide h1
  have H2 := hide h2
  have K1 := hide k1
  have K2 := hide k2
  clear h1 h2 k1 k2 hrc ho hin hpr hpm
  go_enter Tryz.func15, Tryz.ntmps15
  go_upto_region 8 with (first | (go_at_call 57; refine (implListCode_any c d a1 a2 b1 b2 n1 m1 m1 m2 c1 c2 d1 d2 sh dt sh' dt' _ ((((unhide H1).alloc _).alloc _).alloc _) ((((unhide H2).alloc _).alloc _).alloc _) ((((unhide K1).alloc _).alloc _).alloc _) ((((unhide K2).alloc _).alloc _).alloc _) _ HRC).mono ?_; rintro e w1 ⟨rfl, hb1⟩; obtain ⟨B0, B1, B2, hB1⟩ := boxes3 hb1; have HB0 := hide B0; have HB1 := hide B1; have HB2 := hide B2; have HB := hide hB1; obtain ⟨x0, x1, x2, x3, x4, x5, x6⟩ := B0.all; obtain ⟨y0, y1, y2, y3, y4, y5, y6⟩ := B1.all; obtain ⟨q0, q1, q2, q3, q4, q5, q6⟩ := B2.all; clear hb1 hB1 B0 B1 B2) | (go_at_call 58; refine (isOrder_any _ _ _ dt _ ((unhide H2).below (Nat.le_refl _) (unhide HB)) (by omega) _ HOR).mono ?_; rintro e w2 ⟨rfl, hb2⟩; have HB0' := hide ((unhide HB0).below (Nat.le_refl _) hb2); have HB1' := hide ((unhide HB1).below (Nat.le_refl _) hb2); have HB2' := hide ((unhide HB2).below (Nat.le_refl _) hb2); have HC := hide ((unhide HB).trans (hb2.mono (by omega))); clear hb2 x0 x1 x2 x3 x4 x5 x6 y0 y1 y2 y3 y4 y5 y6 q0 q1 q2 q3 q4 q5 q6 HB0 HB1 HB2 HB; obtain ⟨x0, x1, x2, x3, x4, x5, x6⟩ := (unhide HB0').all; obtain ⟨y0, y1, y2, y3, y4, y5, y6⟩ := (unhide HB1').all; obtain ⟨q0, q1, q2, q3, q4, q5, q6⟩ := (unhide HB2').all))
  obtain ⟨bx, hbx⟩ : ∃ bx, bx = w.heap.size + 1 + 1 := ⟨_, rfl⟩
  obtain ⟨wz, hwz⟩ : ∃ wz, wz = w2 := ⟨_, rfl⟩
  have hzb : bx < wz.heap.size := by rw [hbx, hwz]; exact q6
  have HZ0 : Hid (Box wz w.heap.size c (.slice a1 n1 c1) (.slice a2 m1 c2)) := by rw [hwz]; exact unhide HB0'
  have HZ1 : Hid (Box wz (w.heap.size + 1) d (.slice b1 m1 d1) (.slice b2 m2 d2)) := by rw [hwz]; exact unhide HB1'
  have HZ2 : Hid (Box wz bx false (.slice none 0 0) (.slice none 0 0)) := by rw [hwz, hbx]; exact unhide HB2'
  have HBZ : Hid (Below w.heap.size w wz) := by rw [hwz]; exact unhide HC
  have H2Z := hide ((unhide H2).below (Nat.le_refl _) (unhide HBZ))
  have K1Z := hide ((unhide K1).below (Nat.le_refl _) (unhide HBZ))
  have K2Z := hide ((unhide K2).below (Nat.le_refl _) (unhide HBZ))
  rw [← hwz, ← hbx]
  clear hwz HB0' HB1' HB2' HC x0 x1 x2 x3 x4 x5 x6 y0 y1 y2 y3 y4 y5 y6 q0 q1 q2 q3 q4 q5 q6 HRC HOR H1 H2 K1 K2
  obtain ⟨zz, hzz⟩ : ∃ zz, zz = turnN dt sh' m1 m1 := ⟨_, rfl⟩
  have HZL : Hid (zz.length = m1) := by rw [hzz]; exact turnN_len _ _ _ _
  rw [← hzz] at HPZ HIZ ⊢
  have HZZ := hide hzz
  clear hzz
  go_cut [5] (fun v wx => v = .int .i64 0 ∧ Res5 w d zz (vals (gatherAt d sh' dt' (transF dt) zz) m2) m1 m2 bx wx)
  case first =>
    have HKEEP : ∀ wx, But (fun k => k = bx) wz wx → wx.cell? ⟨w.heap.size + 1, 0, none⟩ = some (.bool d) ∧ wx.cell? ⟨w.heap.size + 1, 1, none⟩ = some (.slice b1 m1 d1) ∧ wx.cell? ⟨w.heap.size + 1, 2, none⟩ = some (.slice b2 m2 d2) ∧ wx.cell? ⟨w.heap.size, 2, none⟩ = some (.slice a2 m1 c2) := fun wx hwx => by
      obtain ⟨y0, y1, y2, _, _, _⟩ := (unhide HZ1).all
      exact ⟨(hwx.cellAt (by omega) (by omega)).trans y0, (hwx.cellAt (by omega) (by omega)).trans y1, (hwx.cellAt (by omega) (by omega)).trans y2, (hwx.cellAt (by omega) (by omega)).trans (unhide HZ0).all.2.2.1⟩
    obtain ⟨y0, y1, y2, y3⟩ := HKEEP _ (But.refl _ _)
    obtain ⟨r0, r1, r2, r3, r4, r5, r6⟩ := (unhide HZ2).all
    have hwb : w.heap.size + 1 < bx := by omega
    clear hbx
    go_region_held3 (fun wx => wx.cell? ⟨w.heap.size + 1, 0, none⟩ = some (.bool d) ∧ wx.cell? ⟨w.heap.size + 1, 1, none⟩ = some (.slice b1 m1 d1) ∧ wx.cell? ⟨w.heap.size + 1, 2, none⟩ = some (.slice b2 m2 d2) ∧ wx.cell? ⟨w.heap.size, 2, none⟩ = some (.slice a2 m1 c2)) (first | exact HKEEP _ (But.refl _ _).drew | exact HKEEP _ (But.of_below (unhide HKC)) | exact HKEEP _ (But.of_below (unhide HKG)) | exact HKEEP _ ((((But.of_below (S := fun k => k = bx) (unhide HKG)).setCell (p := ⟨bx, 0, none⟩) rfl _).setCell (p := ⟨bx, 1, none⟩) rfl _).setCell (p := ⟨bx, 2, none⟩) rfl _))
      (first
      | (go_at_call 60; refine (inOrder_any b1 a2 m1 d1 c2 sh' dt _ ((unhide K1Z).below (Nat.le_refl _) (Below.refl _ wz).drew) ((unhide H2Z).below (Nat.le_refl _) (Below.refl _ wz).drew) h5 (unhide HORD)).mono ?_; rintro e wC ⟨gs, rfl, hgs, hbs, hbC⟩; rw [← unhide HZZ] at hbs; have HKC : Hid (Below wz.heap.size wz wC) := (Below.refl _ wz).drew.trans hbC; have HGS := hide hbs; have HGL : Hid (wz.heap.size ≤ gs) := hgs; clear hgs hbs hbC r0 r1 r2 r3 r4 r5 r6 y0 y1 y2 y3; obtain ⟨y0, y1, y2, y3⟩ := HKEEP _ (But.of_below (unhide HKC)); obtain ⟨r0, r1, r2, r3, r4, r5, r6⟩ := ((unhide HZ2).below (Nat.le_refl _) (unhide HKC)).all)
      | (go_at_call 59; refine (gathered_any d b1 b2 (some ⟨gs, 0, none⟩) m1 m2 d1 d2 m1 m1 sh' dt' zz 61 _ eg_trans (transF dt) _ m2 ((unhide K1Z).below (Nat.le_refl _) (unhide HKC)) ((unhide K2Z).below (Nat.le_refl _) (unhide HKC)) ((unhide HGS).row (unhide HZL) (by omega)) (unhide HIN) (unhide HIZ) h5 (unhide HPZ) (unhide HPR) (transClo w.heap.size m1 c2 c _ a2 dt zz _ ((unhide HZ0).below (Nat.le_refl _) (unhide HKC)) ((unhide H2Z).below (Nat.le_refl _) (unhide HKC)) (unhide HORD) (unhide HZL) h5)).mono ?_; rintro e wG ⟨gd, rfl, hgd, hBG, hbG⟩; have HKG : Hid (Below wz.heap.size wz wG) := (unhide HKC).trans (hbG.mono (unhide HKC).size); have HBG := hide hBG; have HGD := hide hgd; have HGH := hide (unhide HGS).lt; have HOG := hide (((unhide HGS).below (Nat.le_refl _) hbG).own (B := wz.heap.size) (unhide HZL) (by omega) (unhide HGL)); clear hgd hBG hbG r0 r1 r2 r3 r4 r5 r6 y0 y1 y2 y3; obtain ⟨y0, y1, y2, y3⟩ := HKEEP _ (But.of_below (unhide HKG)); obtain ⟨r0, r1, r2, r3, r4, r5, r6⟩ := ((unhide HZ2).below (Nat.le_refl _) (unhide HKG)).all))
    all_goals go_wp2_with fail
    all_goals (go_meet; case rel => exact ⟨rfl, Res5.set ((unhide HZ2).below (Nat.le_refl _) (unhide HKG)) ((unhide HOG).mono (by have := (unhide HBZ).size; omega)) (by have := unhide HGD; have := (unhide HKC).size; have := (unhide HBZ).size; omega) (unhide HBG) (fun h => by have := at_eq h; have := unhide HGD; have := unhide HGH; omega) ((unhide HBZ).trans ((unhide HKG).mono (unhide HBZ).size)) (fun h => by have := at_eq h; have := unhide HGL; omega) (by have := unhide HGD; have := (unhide HKC).size; omega) (by omega)⟩)
  case rest =>
    obtain ⟨w3, hw3⟩ : ∃ x, x = wc := ⟨_, rfl⟩
    subst hw3
    obtain ⟨rfl, ash, csh, gd, hb, hO, hgd, hB, hne, hbl⟩ := hcut
    obtain ⟨q0, q1, q2, q3, q4, q5, q6⟩ := hb.all
    clear hb
    go_wp2_with fail
    refine bodyPost_ret (v := .tuple #[.agg #[.bool d, .slice ash m1 csh, .slice (some ⟨gd, 0, none⟩) m2 m2], .int .i64 0]) (by simp [results, Tryz.results15, go_sem, q0, q1, q2]) rfl ?_
    rw [← unhide HZZ]
    exact gives_res (by simp [vals]) (by omega) hO hgd hB hne hbl

theorem codeListT_bad1 {c d : Bool} {sh dt sh' dt' : List Int} (h : arrOk c sh dt = false) : codeList c d sh dt sh' dt' = 3 := by unfold codeList; rw [if_neg (by simp [h])]
theorem codeListT_bad2 {c d : Bool} {sh dt sh' dt' : List Int} (h : arrOk d sh' dt' = false) : codeList c d sh dt sh' dt' = 3 := by unfold codeList; rw [if_neg (by simp [h])]
theorem codeListT_ok {c d : Bool} {sh dt sh' dt' : List Int} (h : arrOk c sh dt = true) (h' : arrOk d sh' dt' = true) : codeList c d sh dt sh' dt' = listCode c sh.length := by unfold codeList; rw [if_pos ⟨h, h'⟩]

theorem implTranspose_any (c d : Bool) (a1 a2 b1 b2 : Option Addr) (n1 n2 m1 m2 c1 c2 d1 d2 : Nat) (sh dt sh' dt' : List Int) (w : World) (h1 : Row w a1 n1 sh) (h2 : Row w a2 n2 dt) (k1 : Row w b1 m1 sh') (k2 : Row w b2 m2 dt') :
    Calls Tryz.prog 15 #[.agg #[.bool c, .slice a1 n1 c1, .slice a2 n2 c2], .agg #[.bool d, .slice b1 m1 d1, .slice b2 m2 d2]] w (GivesOwn w (transpose c d sh dt sh' dt')) := by
  cases hok : arrOk c sh dt with
  | false => rw [transpose_bad1 hok]; exact implTranspose_code c d a1 a2 b1 b2 n1 n2 m1 m2 c1 c2 d1 d2 sh dt sh' dt' w h1 h2 k1 k2 3 (codeListT_bad1 hok) (by omega)
  | true =>
    cases hok' : arrOk d sh' dt' with
    | false => rw [transpose_bad2 hok']; exact implTranspose_code c d a1 a2 b1 b2 n1 n2 m1 m2 c1 c2 d1 d2 sh dt sh' dt' w h1 h2 k1 k2 3 (codeListT_bad2 hok') (by omega)
    | true =>
      have hcl := codeListT_ok hok hok'
      by_cases h0 : listCode c sh.length = 0
      · rw [h0] at hcl
        by_cases hn : n2 = m1
        · subst hn
          have hl : dt.length = sh'.length := by rw [h2.len, k1.len]
          have h5 : n2 ≤ 5 := by rw [← k1.len]; exact (shapeIn_of hok').2.2
          cases ho : orderOk dt sh'.length sh'.length with
          | false =>
            rw [transpose_dom hok hok' h0 hl ho]
            exact implTranspose_dom c d a1 a2 b1 b2 n1 n2 m2 c1 c2 d1 d2 sh dt sh' dt' w h1 h2 k1 k2 hcl h5 (by rw [← order_is h2.len, ← k1.len]; exact ho)
          | true =>
            rw [transpose_go hok hok' h0 hl ho, ← trans_vals hok' ho, k1.len, k2.len]
            exact implTranspose_good c d a1 a2 b1 b2 n1 n2 m2 c1 c2 d1 d2 sh dt sh' dt' w h1 h2 k1 k2 hcl hok' (by rw [← k1.len]; exact ho)
        · rw [transpose_len hok hok' h0 (by rw [h2.len, k1.len]; exact hn)]
          exact implTranspose_len c d a1 a2 b1 b2 n1 n2 m1 m2 c1 c2 d1 d2 sh dt sh' dt' w h1 h2 k1 k2 hcl hn
      · rw [transpose_list hok hok' _ rfl h0]
        exact implTranspose_code c d a1 a2 b1 b2 n1 n2 m1 m2 c1 c2 d1 d2 sh dt sh' dt' w h1 h2 k1 k2 _ hcl h0

end Go.Proofs.YtgjpchnkodnieaaGreatDoor
namespace Go.Proofs
open Go.Shelf
def Tryz.revI_ren : Go.Shelf.Ren := ⟨fun | 112 => 221 | n => n, fun | 28 => 23 | 3 => 3 | 4 => 4 | 0 => 0 | n => n, fun | n => n⟩
theorem Tryz.revI : Go.Proofs.Lays.n112 Tryz.prog Tryz.revI_ren := {
  mixed := by kernel_rfl
  f112 := Tryz.func221.trans (congrArg some (by kernel_rfl))
  t0 := Tryz.underlying0
  a0 := Tryz.isAgg0
  z0 := Tryz.sizeOf0
  v0 := Tryz.zeroValue0
  t3 := Tryz.underlying3
  a3 := Tryz.isAgg3
  z3 := Tryz.sizeOf3
  v3 := Tryz.zeroValue3
  t4 := Tryz.underlying4
  a4 := Tryz.isAgg4
  z4 := Tryz.sizeOf4
  v4 := Tryz.zeroValue4
  t28 := Tryz.underlying23
  a28 := Tryz.isAgg23
  z28 := Tryz.sizeOf23
  v28 := Tryz.zeroValue23 }
end Go.Proofs
namespace Go.Proofs.YtgjpchnkodnieaaGreatDoor
open Go.RowKit Go.Shelf

/-- What a method gives: an array of its own, laid in the answer's box. -/
theorem own_end {w W : World} {p : Nat} {c d : Bool} {y1 y2 : Option Addr} {l1 k1 l2 k2 : Nat} {code : Int} {b1 b2 : Option Addr} {m1 d1 m2 d2 : Nat} {sh dt : List Int} (hx : Box W p c (.slice y1 l1 k1) (.slice y2 l2 k2)) (h1 : Own W w.heap.size b1 m1 sh) (h2 : Own W w.heap.size b2 m2 dt) (hap : Apart b1 m1 b2 m2) (hb : Below w.heap.size w W) (hp : w.heap.size ≤ p) :
    GivesOwn w ⟨d, sh, dt, code⟩ (.returned (.tuple #[.agg #[.bool d, .slice b1 m1 d1, .slice b2 m2 d2], .int .i64 code])) (((W.setCell ⟨p, 0, none⟩ (.bool d)).setCell ⟨p, 1, none⟩ (.slice b1 m1 d1)).setCell ⟨p, 2, none⟩ (.slice b2 m2 d2)) := by
  have e1 : ∀ k, At b1 m1 k → k ≠ p := fun k hk => h1.row.notBox hx hk
  have e2 : ∀ k, At b2 m2 k → k ≠ p := fun k hk => h2.row.notBox hx hk
  exact ⟨_, _, _, _, _, _, rfl, ((h1.other (q := ⟨p, 0, none⟩) e1 _).other (q := ⟨p, 1, none⟩) e1 _).other (q := ⟨p, 2, none⟩) e1 _, ((h2.other (q := ⟨p, 0, none⟩) e2 _).other (q := ⟨p, 1, none⟩) e2 _).other (q := ⟨p, 2, none⟩) e2 _, hap, ((hb.setCell (p := ⟨p, 0, none⟩) hp _).setCell (p := ⟨p, 1, none⟩) hp _).setCell (p := ⟨p, 2, none⟩) hp _⟩

theorem put_all (zs ts : List Int) (h : ts.length = zs.length) : Go.Sort.putCells (Value.int .i64) 0 ts.toArray (zs.map (Value.int .i64)).toArray = (ts.map (Value.int .i64)).toArray := by
  have h1 := take_putCellsI (zs.map (Value.int .i64)).toArray ts (by simp; omega)
  rw [List.take_of_length_le (by simp [Go.Sort.putCells]; omega)] at h1
  exact Array.ext' (by simpa using h1)

theorem Reverse_blk (g cap n : Nat) (zs : List Int) (w : World) (hb : Blk w g zs) (hn : zs.length = n) (hs : n ≤ 10000) :
    Calls Tryz.prog 221 #[.slice (some ⟨g, 0, none⟩) n cap] w fun e w' => e = .returned (.tuple #[]) ∧ Blk w' g zs.reverse ∧ But (fun x => x = g) w w' := by
  have hb' : w.heap[g]? = some (.cells (zs.map (Value.int .i64)).toArray 3 (0, 0)) := hb
  have hH := holds_of_blockI (ss := zs) hb' (List.take_of_length_le (by simp))
  subst hn
  refine (Any.slices_Reverse_int Tryz.revI g 0 cap zs w hH (by omega)).mono ?_
  rintro e w' ⟨rfl, q, rfl⟩
  have h1 := heap_sortedI (n := q) (os := #[]) zs.reverse.toArray hb'
  have h2 := grownBy_sortedI (w := w) (g := g) (n := q) (os := #[]) zs.reverse.toArray
  rw [Go.Sort.grow_empty] at h1 h2
  rw [put_all _ _ (by simp)] at h1
  exact ⟨rfl, h1, h2.os, h2.tape, h2.output, h2.size, fun k hk hne => h2.block k hk (fun e => by cases e; exact hne rfl)⟩

theorem up_rev (n : Nat) : (upTo n).reverse = downTo n := by
  apply List.ext_getElem
  · simp [upTo, downTo]
  · intro i h1 h2
    simp [upTo, downTo] at h1 h2 ⊢
    omega

end Go.Proofs.YtgjpchnkodnieaaGreatDoor
namespace Go.Proofs.YtgjpchnkodnieaaGreatDoor
open Go.RowKit Go.Shelf

theorem check_int (w : World) (em : Bool) (k : Int) : (Instr.checkKey em 10000 3 (.int .i64 k)).run Tryz.prog w = .ok () w := MapKept.run_checkKey Tryz.underlying3 (by simp [MapKept.IsKey]) em 9999
theorem find_int (w : World) (k : Int) (es : List MapEntry) (r : Option (Nat × Value)) (hf : Instr.findNow (.int .i64) (.int .i64 k) es 0 = some r) : (Instr.findKey 3 (.int .i64 k) es).run Tryz.prog w = .ok r w := by
  unfold Instr.findKey
  simp only [Sem.run_bind, run_underlying Tryz.underlying3, Result.andThen, hf]
  rfl

/-- An entry more in a map that was made last. -/
theorem ins_step (T E : TypeId) (hT : Tryz.prog.underlying T = some (.map 3 E)) (w : World) (es : List MapEntry) (c : Nat) (k : Int) (v : Value) (hf : Instr.findNow (.int .i64) (.int .i64 k) es 0 = some none) :
    (Instr.mapUpdate T (.map (some w.heap.size)) (.int .i64 k) v).run Tryz.prog (w.alloc (.map es.toArray c)) = .ok () (w.alloc (.map (es ++ [(⟨.int .i64 k, v, c⟩ : MapEntry)]).toArray (c + 1))) := by
  have hb := World.alloc_heap_new w (.map es.toArray c)
  have e : (w.heap.push (Obj.map es.toArray c)).setIfInBounds w.heap.size (Obj.map (es ++ [(⟨.int .i64 k, v, c⟩ : MapEntry)]).toArray (c + 1)) = w.heap.push (Obj.map (es ++ [(⟨.int .i64 k, v, c⟩ : MapEntry)]).toArray (c + 1)) := by
    apply Array.ext'
    simp
  unfold Instr.mapUpdate
  simp only [Sem.run_bind, run_underlying hT, Result.andThen, MapKept.run_getObj_map hb, check_int, find_int _ _ _ _ hf]
  rw [show (es.toArray.push ({ key := Value.int IntKind.i64 k, val := v, born := c } : MapEntry)) = (es ++ [(⟨.int .i64 k, v, c⟩ : MapEntry)]).toArray by simp]
  rw [MapKept.run_setObj_map _ hb]
  exact congrArg (fun h => Result.ok () ({ w with heap := h } : World)) e

theorem look_hit (T E : TypeId) (hT : Tryz.prog.underlying T = some (.map 3 E)) (w : World) (p : Nat) (es : List MapEntry) (c i : Nat) (k : Int) (v : Value) (hb : w.heap[p]? = some (.map es.toArray c)) (hf : Instr.findNow (.int .i64) (.int .i64 k) es 0 = some (some (i, v))) :
    (Instr.lookup T (.map (some p)) (.int .i64 k) true).run Tryz.prog w = .ok (.tuple #[v, .bool true]) w := by
  simp [Instr.lookup, run_underlying hT, MapKept.run_getObj_map hb, check_int, find_int _ _ _ _ hf, Result.andThen]

theorem look_miss (T E : TypeId) (hT : Tryz.prog.underlying T = some (.map 3 E)) (w : World) (p : Nat) (es : List MapEntry) (c : Nat) (k : Int) (z : Value) (hz : (zeroValue E).run Tryz.prog w = .ok z w) (hb : w.heap[p]? = some (.map es.toArray c)) (hf : Instr.findNow (.int .i64) (.int .i64 k) es 0 = some none) :
    (Instr.lookup T (.map (some p)) (.int .i64 k) true).run Tryz.prog w = .ok (.tuple #[z, .bool false]) w := by
  simp [Instr.lookup, run_underlying hT, MapKept.run_getObj_map hb, check_int, find_int _ _ _ _ hf, hz, Result.andThen]

theorem make_map (T : TypeId) (w : World) : (Instr.makeMap T none).run Tryz.prog w = .ok (.map (some w.heap.size)) (w.alloc (.map #[] 0)) := by
  simp [Instr.makeMap, Result.andThen]

/-- The functions of one argument. -/
def monTab (op : Int) : List MapEntry := [⟨.int .i64 1, .func (.func 137) #[.int .i64 op] #[], 0⟩,
  ⟨.int .i64 2, .func (.func 137) #[.int .i64 op] #[], 1⟩,
  ⟨.int .i64 3, .func (.func 137) #[.int .i64 op] #[], 2⟩,
  ⟨.int .i64 7, .func (.func 137) #[.int .i64 op] #[], 3⟩,
  ⟨.int .i64 17, .func (.func 137) #[.int .i64 op] #[], 4⟩,
  ⟨.int .i64 18, .func (.func 138) #[.int .i64 op] #[], 5⟩,
  ⟨.int .i64 19, .func (.func 139) #[.int .i64 op] #[], 6⟩,
  ⟨.int .i64 20, .func (.func 140) #[.int .i64 op] #[], 7⟩,
  ⟨.int .i64 28, .func (.func 140) #[.int .i64 op] #[], 8⟩,
  ⟨.int .i64 21, .func (.func 141) #[.int .i64 op] #[], 9⟩,
  ⟨.int .i64 22, .func (.func 141) #[.int .i64 op] #[], 10⟩,
  ⟨.int .i64 23, .func (.func 142) #[.int .i64 op] #[], 11⟩,
  ⟨.int .i64 24, .func (.func 143) #[.int .i64 op] #[], 12⟩,
  ⟨.int .i64 26, .func (.func 144) #[.int .i64 op] #[], 13⟩,
  ⟨.int .i64 27, .func (.func 144) #[.int .i64 op] #[], 14⟩,
  ⟨.int .i64 33, .func (.func 145) #[.int .i64 op] #[], 15⟩]

set_option maxRecDepth 100000 in
set_option maxHeartbeats 8000000 in
theorem monads_any (op : Int) (w : World) :
    Calls Tryz.prog 52 #[.int .i64 op] w fun e w' => e = .returned (.map (some w.heap.size)) ∧ w' = w.alloc (.map (monTab op).toArray 16) := by
  have i0 := ins_step 74 _ Tryz.underlying74 w [] 0 1 (.func (.func 137) #[.int .i64 op] #[]) (by rfl)
  simp only [List.nil_append, Nat.reduceAdd] at i0
  have i1 := ins_step 74 _ Tryz.underlying74 w [⟨.int .i64 1, .func (.func 137) #[.int .i64 op] #[], 0⟩] 1 2 (.func (.func 137) #[.int .i64 op] #[]) (by rfl)
  simp only [List.cons_append, List.nil_append, Nat.reduceAdd] at i1
  have i2 := ins_step 74 _ Tryz.underlying74 w [⟨.int .i64 1, .func (.func 137) #[.int .i64 op] #[], 0⟩, ⟨.int .i64 2, .func (.func 137) #[.int .i64 op] #[], 1⟩] 2 3 (.func (.func 137) #[.int .i64 op] #[]) (by rfl)
  simp only [List.cons_append, List.nil_append, Nat.reduceAdd] at i2
  have i3 := ins_step 74 _ Tryz.underlying74 w [⟨.int .i64 1, .func (.func 137) #[.int .i64 op] #[], 0⟩, ⟨.int .i64 2, .func (.func 137) #[.int .i64 op] #[], 1⟩, ⟨.int .i64 3, .func (.func 137) #[.int .i64 op] #[], 2⟩] 3 7 (.func (.func 137) #[.int .i64 op] #[]) (by rfl)
  simp only [List.cons_append, List.nil_append, Nat.reduceAdd] at i3
  have i4 := ins_step 74 _ Tryz.underlying74 w [⟨.int .i64 1, .func (.func 137) #[.int .i64 op] #[], 0⟩, ⟨.int .i64 2, .func (.func 137) #[.int .i64 op] #[], 1⟩, ⟨.int .i64 3, .func (.func 137) #[.int .i64 op] #[], 2⟩, ⟨.int .i64 7, .func (.func 137) #[.int .i64 op] #[], 3⟩] 4 17 (.func (.func 137) #[.int .i64 op] #[]) (by rfl)
  simp only [List.cons_append, List.nil_append, Nat.reduceAdd] at i4
  have i5 := ins_step 74 _ Tryz.underlying74 w [⟨.int .i64 1, .func (.func 137) #[.int .i64 op] #[], 0⟩, ⟨.int .i64 2, .func (.func 137) #[.int .i64 op] #[], 1⟩, ⟨.int .i64 3, .func (.func 137) #[.int .i64 op] #[], 2⟩, ⟨.int .i64 7, .func (.func 137) #[.int .i64 op] #[], 3⟩, ⟨.int .i64 17, .func (.func 137) #[.int .i64 op] #[], 4⟩] 5 18 (.func (.func 138) #[.int .i64 op] #[]) (by rfl)
  simp only [List.cons_append, List.nil_append, Nat.reduceAdd] at i5
  have i6 := ins_step 74 _ Tryz.underlying74 w [⟨.int .i64 1, .func (.func 137) #[.int .i64 op] #[], 0⟩, ⟨.int .i64 2, .func (.func 137) #[.int .i64 op] #[], 1⟩, ⟨.int .i64 3, .func (.func 137) #[.int .i64 op] #[], 2⟩, ⟨.int .i64 7, .func (.func 137) #[.int .i64 op] #[], 3⟩, ⟨.int .i64 17, .func (.func 137) #[.int .i64 op] #[], 4⟩, ⟨.int .i64 18, .func (.func 138) #[.int .i64 op] #[], 5⟩] 6 19 (.func (.func 139) #[.int .i64 op] #[]) (by rfl)
  simp only [List.cons_append, List.nil_append, Nat.reduceAdd] at i6
  have i7 := ins_step 74 _ Tryz.underlying74 w [⟨.int .i64 1, .func (.func 137) #[.int .i64 op] #[], 0⟩, ⟨.int .i64 2, .func (.func 137) #[.int .i64 op] #[], 1⟩, ⟨.int .i64 3, .func (.func 137) #[.int .i64 op] #[], 2⟩, ⟨.int .i64 7, .func (.func 137) #[.int .i64 op] #[], 3⟩, ⟨.int .i64 17, .func (.func 137) #[.int .i64 op] #[], 4⟩, ⟨.int .i64 18, .func (.func 138) #[.int .i64 op] #[], 5⟩, ⟨.int .i64 19, .func (.func 139) #[.int .i64 op] #[], 6⟩] 7 20 (.func (.func 140) #[.int .i64 op] #[]) (by rfl)
  simp only [List.cons_append, List.nil_append, Nat.reduceAdd] at i7
  have i8 := ins_step 74 _ Tryz.underlying74 w [⟨.int .i64 1, .func (.func 137) #[.int .i64 op] #[], 0⟩, ⟨.int .i64 2, .func (.func 137) #[.int .i64 op] #[], 1⟩, ⟨.int .i64 3, .func (.func 137) #[.int .i64 op] #[], 2⟩, ⟨.int .i64 7, .func (.func 137) #[.int .i64 op] #[], 3⟩, ⟨.int .i64 17, .func (.func 137) #[.int .i64 op] #[], 4⟩, ⟨.int .i64 18, .func (.func 138) #[.int .i64 op] #[], 5⟩, ⟨.int .i64 19, .func (.func 139) #[.int .i64 op] #[], 6⟩, ⟨.int .i64 20, .func (.func 140) #[.int .i64 op] #[], 7⟩] 8 28 (.func (.func 140) #[.int .i64 op] #[]) (by rfl)
  simp only [List.cons_append, List.nil_append, Nat.reduceAdd] at i8
  have i9 := ins_step 74 _ Tryz.underlying74 w [⟨.int .i64 1, .func (.func 137) #[.int .i64 op] #[], 0⟩, ⟨.int .i64 2, .func (.func 137) #[.int .i64 op] #[], 1⟩, ⟨.int .i64 3, .func (.func 137) #[.int .i64 op] #[], 2⟩, ⟨.int .i64 7, .func (.func 137) #[.int .i64 op] #[], 3⟩, ⟨.int .i64 17, .func (.func 137) #[.int .i64 op] #[], 4⟩, ⟨.int .i64 18, .func (.func 138) #[.int .i64 op] #[], 5⟩, ⟨.int .i64 19, .func (.func 139) #[.int .i64 op] #[], 6⟩, ⟨.int .i64 20, .func (.func 140) #[.int .i64 op] #[], 7⟩, ⟨.int .i64 28, .func (.func 140) #[.int .i64 op] #[], 8⟩] 9 21 (.func (.func 141) #[.int .i64 op] #[]) (by rfl)
  simp only [List.cons_append, List.nil_append, Nat.reduceAdd] at i9
  have i10 := ins_step 74 _ Tryz.underlying74 w [⟨.int .i64 1, .func (.func 137) #[.int .i64 op] #[], 0⟩, ⟨.int .i64 2, .func (.func 137) #[.int .i64 op] #[], 1⟩, ⟨.int .i64 3, .func (.func 137) #[.int .i64 op] #[], 2⟩, ⟨.int .i64 7, .func (.func 137) #[.int .i64 op] #[], 3⟩, ⟨.int .i64 17, .func (.func 137) #[.int .i64 op] #[], 4⟩, ⟨.int .i64 18, .func (.func 138) #[.int .i64 op] #[], 5⟩, ⟨.int .i64 19, .func (.func 139) #[.int .i64 op] #[], 6⟩, ⟨.int .i64 20, .func (.func 140) #[.int .i64 op] #[], 7⟩, ⟨.int .i64 28, .func (.func 140) #[.int .i64 op] #[], 8⟩, ⟨.int .i64 21, .func (.func 141) #[.int .i64 op] #[], 9⟩] 10 22 (.func (.func 141) #[.int .i64 op] #[]) (by rfl)
  simp only [List.cons_append, List.nil_append, Nat.reduceAdd] at i10
  have i11 := ins_step 74 _ Tryz.underlying74 w [⟨.int .i64 1, .func (.func 137) #[.int .i64 op] #[], 0⟩, ⟨.int .i64 2, .func (.func 137) #[.int .i64 op] #[], 1⟩, ⟨.int .i64 3, .func (.func 137) #[.int .i64 op] #[], 2⟩, ⟨.int .i64 7, .func (.func 137) #[.int .i64 op] #[], 3⟩, ⟨.int .i64 17, .func (.func 137) #[.int .i64 op] #[], 4⟩, ⟨.int .i64 18, .func (.func 138) #[.int .i64 op] #[], 5⟩, ⟨.int .i64 19, .func (.func 139) #[.int .i64 op] #[], 6⟩, ⟨.int .i64 20, .func (.func 140) #[.int .i64 op] #[], 7⟩, ⟨.int .i64 28, .func (.func 140) #[.int .i64 op] #[], 8⟩, ⟨.int .i64 21, .func (.func 141) #[.int .i64 op] #[], 9⟩, ⟨.int .i64 22, .func (.func 141) #[.int .i64 op] #[], 10⟩] 11 23 (.func (.func 142) #[.int .i64 op] #[]) (by rfl)
  simp only [List.cons_append, List.nil_append, Nat.reduceAdd] at i11
  have i12 := ins_step 74 _ Tryz.underlying74 w [⟨.int .i64 1, .func (.func 137) #[.int .i64 op] #[], 0⟩, ⟨.int .i64 2, .func (.func 137) #[.int .i64 op] #[], 1⟩, ⟨.int .i64 3, .func (.func 137) #[.int .i64 op] #[], 2⟩, ⟨.int .i64 7, .func (.func 137) #[.int .i64 op] #[], 3⟩, ⟨.int .i64 17, .func (.func 137) #[.int .i64 op] #[], 4⟩, ⟨.int .i64 18, .func (.func 138) #[.int .i64 op] #[], 5⟩, ⟨.int .i64 19, .func (.func 139) #[.int .i64 op] #[], 6⟩, ⟨.int .i64 20, .func (.func 140) #[.int .i64 op] #[], 7⟩, ⟨.int .i64 28, .func (.func 140) #[.int .i64 op] #[], 8⟩, ⟨.int .i64 21, .func (.func 141) #[.int .i64 op] #[], 9⟩, ⟨.int .i64 22, .func (.func 141) #[.int .i64 op] #[], 10⟩, ⟨.int .i64 23, .func (.func 142) #[.int .i64 op] #[], 11⟩] 12 24 (.func (.func 143) #[.int .i64 op] #[]) (by rfl)
  simp only [List.cons_append, List.nil_append, Nat.reduceAdd] at i12
  have i13 := ins_step 74 _ Tryz.underlying74 w [⟨.int .i64 1, .func (.func 137) #[.int .i64 op] #[], 0⟩, ⟨.int .i64 2, .func (.func 137) #[.int .i64 op] #[], 1⟩, ⟨.int .i64 3, .func (.func 137) #[.int .i64 op] #[], 2⟩, ⟨.int .i64 7, .func (.func 137) #[.int .i64 op] #[], 3⟩, ⟨.int .i64 17, .func (.func 137) #[.int .i64 op] #[], 4⟩, ⟨.int .i64 18, .func (.func 138) #[.int .i64 op] #[], 5⟩, ⟨.int .i64 19, .func (.func 139) #[.int .i64 op] #[], 6⟩, ⟨.int .i64 20, .func (.func 140) #[.int .i64 op] #[], 7⟩, ⟨.int .i64 28, .func (.func 140) #[.int .i64 op] #[], 8⟩, ⟨.int .i64 21, .func (.func 141) #[.int .i64 op] #[], 9⟩, ⟨.int .i64 22, .func (.func 141) #[.int .i64 op] #[], 10⟩, ⟨.int .i64 23, .func (.func 142) #[.int .i64 op] #[], 11⟩, ⟨.int .i64 24, .func (.func 143) #[.int .i64 op] #[], 12⟩] 13 26 (.func (.func 144) #[.int .i64 op] #[]) (by rfl)
  simp only [List.cons_append, List.nil_append, Nat.reduceAdd] at i13
  have i14 := ins_step 74 _ Tryz.underlying74 w [⟨.int .i64 1, .func (.func 137) #[.int .i64 op] #[], 0⟩, ⟨.int .i64 2, .func (.func 137) #[.int .i64 op] #[], 1⟩, ⟨.int .i64 3, .func (.func 137) #[.int .i64 op] #[], 2⟩, ⟨.int .i64 7, .func (.func 137) #[.int .i64 op] #[], 3⟩, ⟨.int .i64 17, .func (.func 137) #[.int .i64 op] #[], 4⟩, ⟨.int .i64 18, .func (.func 138) #[.int .i64 op] #[], 5⟩, ⟨.int .i64 19, .func (.func 139) #[.int .i64 op] #[], 6⟩, ⟨.int .i64 20, .func (.func 140) #[.int .i64 op] #[], 7⟩, ⟨.int .i64 28, .func (.func 140) #[.int .i64 op] #[], 8⟩, ⟨.int .i64 21, .func (.func 141) #[.int .i64 op] #[], 9⟩, ⟨.int .i64 22, .func (.func 141) #[.int .i64 op] #[], 10⟩, ⟨.int .i64 23, .func (.func 142) #[.int .i64 op] #[], 11⟩, ⟨.int .i64 24, .func (.func 143) #[.int .i64 op] #[], 12⟩, ⟨.int .i64 26, .func (.func 144) #[.int .i64 op] #[], 13⟩] 14 27 (.func (.func 144) #[.int .i64 op] #[]) (by rfl)
  simp only [List.cons_append, List.nil_append, Nat.reduceAdd] at i14
  have i15 := ins_step 74 _ Tryz.underlying74 w [⟨.int .i64 1, .func (.func 137) #[.int .i64 op] #[], 0⟩, ⟨.int .i64 2, .func (.func 137) #[.int .i64 op] #[], 1⟩, ⟨.int .i64 3, .func (.func 137) #[.int .i64 op] #[], 2⟩, ⟨.int .i64 7, .func (.func 137) #[.int .i64 op] #[], 3⟩, ⟨.int .i64 17, .func (.func 137) #[.int .i64 op] #[], 4⟩, ⟨.int .i64 18, .func (.func 138) #[.int .i64 op] #[], 5⟩, ⟨.int .i64 19, .func (.func 139) #[.int .i64 op] #[], 6⟩, ⟨.int .i64 20, .func (.func 140) #[.int .i64 op] #[], 7⟩, ⟨.int .i64 28, .func (.func 140) #[.int .i64 op] #[], 8⟩, ⟨.int .i64 21, .func (.func 141) #[.int .i64 op] #[], 9⟩, ⟨.int .i64 22, .func (.func 141) #[.int .i64 op] #[], 10⟩, ⟨.int .i64 23, .func (.func 142) #[.int .i64 op] #[], 11⟩, ⟨.int .i64 24, .func (.func 143) #[.int .i64 op] #[], 12⟩, ⟨.int .i64 26, .func (.func 144) #[.int .i64 op] #[], 13⟩, ⟨.int .i64 27, .func (.func 144) #[.int .i64 op] #[], 14⟩] 15 33 (.func (.func 145) #[.int .i64 op] #[]) (by rfl)
  simp only [List.cons_append, List.nil_append, Nat.reduceAdd] at i15
  have hmm := make_map 74 w
  go_enter Tryz.func52, Tryz.ntmps52
  go_wp2_with fail
  go_ret
  exact ⟨rfl, rfl⟩

end Go.Proofs.YtgjpchnkodnieaaGreatDoor
namespace Go.Proofs.YtgjpchnkodnieaaGreatDoor
open Go.RowKit

theorem withinM_any (n lo hi : Int) (w : World) : Calls Tryz.prog 50 #[.int .i64 n, .int .i64 lo, .int .i64 hi] w fun e w' => e = .returned (.bool (decide (lo ≤ n ∧ n ≤ hi))) ∧ w' = w := by
  obtain ⟨r, hr⟩ : ∃ r, decide (lo ≤ n ∧ n ≤ hi) = r := ⟨_, rfl⟩
  rw [hr]
  have HR := hide hr
  clear hr
  by_cases h1 : lo ≤ n
  · by_cases h2 : n ≤ hi
    · have HE : Hid (true = r) := by show _ = _; rw [← unhide HR, decide_eq_true ⟨h1, h2⟩]
      go_enter Tryz.func50, Tryz.ntmps50
      go_wp2
      go_ret
      refine ⟨ret_bool ?_, rfl⟩
      first | exact unhide HE | (rw [← unhide HE]; simp; omega)
    · have HE : Hid (false = r) := by show _ = _; rw [← unhide HR, decide_eq_false (fun h => h2 h.2)]
      go_enter Tryz.func50, Tryz.ntmps50
      go_wp2
      go_ret
      refine ⟨ret_bool ?_, rfl⟩
      first | exact unhide HE | (rw [← unhide HE]; simp; omega)
  · have HE : Hid (false = r) := by show _ = _; rw [← unhide HR, decide_eq_false (fun h => h1 h.1)]
    go_enter Tryz.func50, Tryz.ntmps50
    go_wp2
    go_ret
    refine ⟨ret_bool ?_, rfl⟩
    first | exact unhide HE | (rw [← unhide HE]; simp; omega)

theorem withinM (n lo hi : Int) (r : Bool) (h : decide (lo ≤ n ∧ n ≤ hi) = r) (w : World) : Calls Tryz.prog 50 #[.int .i64 n, .int .i64 lo, .int .i64 hi] w fun e w' => e = .returned (.bool r) ∧ w' = w := by
  rw [← h]; exact withinM_any n lo hi w

end Go.Proofs.YtgjpchnkodnieaaGreatDoor
namespace Go.Proofs.YtgjpchnkodnieaaGreatDoor
open Go.RowKit

/-- As GivesOwn, and the slices' room is said. -/
def GivesCap (w : World) (r : Ans) (e : Ending) (w' : World) : Prop := ∃ b1 m1 d1 b2 m2 d2, e = .returned (.tuple #[.agg #[.bool r.c, .slice b1 m1 d1, .slice b2 m2 d2], .int .i64 r.code]) ∧ Own w' w.heap.size b1 m1 r.sh ∧ Own w' w.heap.size b2 m2 r.dt ∧ Apart b1 m1 b2 m2 ∧ Below w.heap.size w w' ∧ (m1 ≤ d1 ∧ m2 ≤ d2 ∧ (r.code = 0 → ∃ ad, b2 = some ad))

theorem GivesCap.own {w w' : World} {r : Ans} {e : Ending} (h : GivesCap w r e w') : GivesOwn w r e w' := by
  obtain ⟨b1, m1, d1, b2, m2, d2, he, h1, h2, h3, h4, _⟩ := h
  exact ⟨b1, m1, d1, b2, m2, d2, he, h1, h2, h3, h4⟩

theorem cap_none {w w' : World} {code : Int} (hc : code ≠ 0) (h : Below w.heap.size w w') : GivesCap w (noAns code) (.returned (.tuple #[.agg #[.bool false, .slice none 0 0, .slice none 0 0], .int .i64 code])) w' :=
  ⟨none, 0, 0, none, 0, 0, rfl, own_none _ _ _, own_none _ _ _, fun _ h => absurd rfl h.1, h, Nat.le_refl _, Nat.le_refl _, fun e => absurd e hc⟩

theorem Res5.setC {w W : World} {d : Bool} {zs ys : List Int} {n N box gd csh : Nat} {ash : Option Addr} {v1 v2 : Value} {c : Bool} (hb : Box W box c v1 v2) (hO : Own W w.heap.size ash n zs) (hg : w.heap.size ≤ gd) (hB : Blk W gd ys) (hne : ¬ At ash n gd) (hbl : Below w.heap.size w W) (hb1 : ¬ At ash n box) (hb2 : gd ≠ box) (hw : w.heap.size ≤ box) (hc : n ≤ csh) :
    ∃ ash' csh' gd', Box (((W.setCell ⟨box, 0, none⟩ (.bool d)).setCell ⟨box, 1, none⟩ (.slice ash n csh)).setCell ⟨box, 2, none⟩ (.slice (some ⟨gd, 0, none⟩) N N)) box d (.slice ash' n csh') (.slice (some ⟨gd', 0, none⟩) N N) ∧ Own (((W.setCell ⟨box, 0, none⟩ (.bool d)).setCell ⟨box, 1, none⟩ (.slice ash n csh)).setCell ⟨box, 2, none⟩ (.slice (some ⟨gd, 0, none⟩) N N)) w.heap.size ash' n zs ∧ w.heap.size ≤ gd' ∧ Blk (((W.setCell ⟨box, 0, none⟩ (.bool d)).setCell ⟨box, 1, none⟩ (.slice ash n csh)).setCell ⟨box, 2, none⟩ (.slice (some ⟨gd, 0, none⟩) N N)) gd' ys ∧ ¬ At ash' n gd' ∧ Below w.heap.size w (((W.setCell ⟨box, 0, none⟩ (.bool d)).setCell ⟨box, 1, none⟩ (.slice ash n csh)).setCell ⟨box, 2, none⟩ (.slice (some ⟨gd, 0, none⟩) N N)) ∧ n ≤ csh' := by
  have hk : ∀ k, At ash n k → k ≠ box := fun k hk e => hb1 (e ▸ hk)
  exact ⟨ash, csh, gd, hb.sets, ((hO.other (q := ⟨box, 0, none⟩) hk _).other (q := ⟨box, 1, none⟩) hk _).other (q := ⟨box, 2, none⟩) hk _, hg, ((hB.other (p := ⟨box, 0, none⟩) hb2 _).other (p := ⟨box, 1, none⟩) hb2 _).other (p := ⟨box, 2, none⟩) hb2 _, hne, ((hbl.setCell (p := ⟨box, 0, none⟩) hw _).setCell (p := ⟨box, 1, none⟩) hw _).setCell (p := ⟨box, 2, none⟩) hw _, hc⟩

theorem cap_res {w wx : World} {d : Bool} {zs ys : List Int} {n N gd csh : Nat} {ash : Option Addr} (hl : ys.length = N) (hN : N ≤ 17592186044416) (hO : Own wx w.heap.size ash n zs) (hg : w.heap.size ≤ gd) (hB : Blk wx gd ys) (hne : ¬ At ash n gd) (hbl : Below w.heap.size w wx) (hc : n ≤ csh) :
    GivesCap w ⟨d, zs, ys, 0⟩ (.returned (.tuple #[.agg #[.bool d, .slice ash n csh, .slice (some ⟨gd, 0, none⟩) N N], .int .i64 0])) wx :=
  ⟨ash, n, csh, some ⟨gd, 0, none⟩, N, N, rfl, hO, hB.own hl hN hg, fun k h1 h2 => by have := at_eq h2; subst this; exact hne h1, hbl, hc, Nat.le_refl _, fun _ => ⟨_, rfl⟩⟩

end Go.Proofs.YtgjpchnkodnieaaGreatDoor
namespace Go.Proofs.YtgjpchnkodnieaaGreatDoor
open Go.RowKit Go.Shelf

def Res5C (w : World) (d : Bool) (zs ys : List Int) (n N box : Nat) (wx : World) : Prop :=
  ∃ ash csh gd, Box wx box d (.slice ash n csh) (.slice (some ⟨gd, 0, none⟩) N N) ∧ Own wx w.heap.size ash n zs ∧ w.heap.size ≤ gd ∧ Blk wx gd ys ∧ ¬ At ash n gd ∧ Below w.heap.size w wx ∧ n ≤ csh

set_option maxRecDepth 20000 in
set_option maxHeartbeats 4000000 in
theorem implTranspose_goodC (c d : Bool) (a1 a2 b1 b2 : Option Addr) (n1 m1 m2 c1 c2 d1 d2 : Nat) (sh dt sh' dt' : List Int) (w : World) (h1 : Row w a1 n1 sh) (h2 : Row w a2 m1 dt) (k1 : Row w b1 m1 sh') (k2 : Row w b2 m2 dt') (hrc : codeList c d sh dt sh' dt' = 0) (hok' : arrOk d sh' dt' = true) (ho : orderOk dt m1 m1 = true) :
    Calls Tryz.prog 15 #[.agg #[.bool c, .slice a1 n1 c1, .slice a2 m1 c2], .agg #[.bool d, .slice b1 m1 d1, .slice b2 m2 d2]] w (GivesCap w ⟨d, turnN dt sh' m1 m1, vals (gatherAt d sh' dt' (transF dt) (turnN dt sh' m1 m1)) m2, 0⟩) := by
  obtain ⟨hin, hpr, h5⟩ := shapeIn_of hok'
  rw [k2.len] at hpr
  rw [k1.len] at h5
  have hpm := turn_perm (sh := sh') ho h2.len k1.len
  have HPZ : Hid (prodAll (turnN dt sh' m1 m1) = (m2 : Int)) := by rw [prodAll_perm hpm]; exact hpr
  have HIZ := hide (shapeIn_perm hpm.symm hin)
  have HIN := hide hin
  have HPR := hide hpr
  have HORD := hide ho
  have HRC := hide hrc
  have HOR : Hid (inTurn (sortedI dt) m1 = true) := by rw [← order_is h2.len]; exact hide ho
  have hs2 := h2.small
  have hs4 := k2.small
  have hs3 := k1.small
  have H1 := hide h1
  have H2 := hide h2
  have K1 := hide k1
  have K2 := hide k2
  clear h1 h2 k1 k2 hrc ho hin hpr hpm
  go_enter Tryz.func15, Tryz.ntmps15
  go_upto_region 8 with (first | (go_at_call 57; refine (implListCode_any c d a1 a2 b1 b2 n1 m1 m1 m2 c1 c2 d1 d2 sh dt sh' dt' _ ((((unhide H1).alloc _).alloc _).alloc _) ((((unhide H2).alloc _).alloc _).alloc _) ((((unhide K1).alloc _).alloc _).alloc _) ((((unhide K2).alloc _).alloc _).alloc _) _ HRC).mono ?_; rintro e w1 ⟨rfl, hb1⟩; obtain ⟨B0, B1, B2, hB1⟩ := boxes3 hb1; have HB0 := hide B0; have HB1 := hide B1; have HB2 := hide B2; have HB := hide hB1; obtain ⟨x0, x1, x2, x3, x4, x5, x6⟩ := B0.all; obtain ⟨y0, y1, y2, y3, y4, y5, y6⟩ := B1.all; obtain ⟨q0, q1, q2, q3, q4, q5, q6⟩ := B2.all; clear hb1 hB1 B0 B1 B2) | (go_at_call 58; refine (isOrder_any _ _ _ dt _ ((unhide H2).below (Nat.le_refl _) (unhide HB)) (by omega) _ HOR).mono ?_; rintro e w2 ⟨rfl, hb2⟩; have HB0' := hide ((unhide HB0).below (Nat.le_refl _) hb2); have HB1' := hide ((unhide HB1).below (Nat.le_refl _) hb2); have HB2' := hide ((unhide HB2).below (Nat.le_refl _) hb2); have HC := hide ((unhide HB).trans (hb2.mono (by omega))); clear hb2 x0 x1 x2 x3 x4 x5 x6 y0 y1 y2 y3 y4 y5 y6 q0 q1 q2 q3 q4 q5 q6 HB0 HB1 HB2 HB; obtain ⟨x0, x1, x2, x3, x4, x5, x6⟩ := (unhide HB0').all; obtain ⟨y0, y1, y2, y3, y4, y5, y6⟩ := (unhide HB1').all; obtain ⟨q0, q1, q2, q3, q4, q5, q6⟩ := (unhide HB2').all))
  obtain ⟨bx, hbx⟩ : ∃ bx, bx = w.heap.size + 1 + 1 := ⟨_, rfl⟩
  obtain ⟨wz, hwz⟩ : ∃ wz, wz = w2 := ⟨_, rfl⟩
  have hzb : bx < wz.heap.size := by rw [hbx, hwz]; exact q6
  have HZ0 : Hid (Box wz w.heap.size c (.slice a1 n1 c1) (.slice a2 m1 c2)) := by rw [hwz]; exact unhide HB0'
  have HZ1 : Hid (Box wz (w.heap.size + 1) d (.slice b1 m1 d1) (.slice b2 m2 d2)) := by rw [hwz]; exact unhide HB1'
  have HZ2 : Hid (Box wz bx false (.slice none 0 0) (.slice none 0 0)) := by rw [hwz, hbx]; exact unhide HB2'
  have HBZ : Hid (Below w.heap.size w wz) := by rw [hwz]; exact unhide HC
  have H2Z := hide ((unhide H2).below (Nat.le_refl _) (unhide HBZ))
  have K1Z := hide ((unhide K1).below (Nat.le_refl _) (unhide HBZ))
  have K2Z := hide ((unhide K2).below (Nat.le_refl _) (unhide HBZ))
  rw [← hwz, ← hbx]
  clear hwz HB0' HB1' HB2' HC x0 x1 x2 x3 x4 x5 x6 y0 y1 y2 y3 y4 y5 y6 q0 q1 q2 q3 q4 q5 q6 HRC HOR H1 H2 K1 K2
  obtain ⟨zz, hzz⟩ : ∃ zz, zz = turnN dt sh' m1 m1 := ⟨_, rfl⟩
  have HZL : Hid (zz.length = m1) := by rw [hzz]; exact turnN_len _ _ _ _
  rw [← hzz] at HPZ HIZ ⊢
  have HZZ := hide hzz
  clear hzz
  go_cut [5] (fun v wx => v = .int .i64 0 ∧ Res5C w d zz (vals (gatherAt d sh' dt' (transF dt) zz) m2) m1 m2 bx wx)
  case first =>
    have HKEEP : ∀ wx, But (fun k => k = bx) wz wx → wx.cell? ⟨w.heap.size + 1, 0, none⟩ = some (.bool d) ∧ wx.cell? ⟨w.heap.size + 1, 1, none⟩ = some (.slice b1 m1 d1) ∧ wx.cell? ⟨w.heap.size + 1, 2, none⟩ = some (.slice b2 m2 d2) ∧ wx.cell? ⟨w.heap.size, 2, none⟩ = some (.slice a2 m1 c2) := fun wx hwx => by
      obtain ⟨y0, y1, y2, _, _, _⟩ := (unhide HZ1).all
      exact ⟨(hwx.cellAt (by omega) (by omega)).trans y0, (hwx.cellAt (by omega) (by omega)).trans y1, (hwx.cellAt (by omega) (by omega)).trans y2, (hwx.cellAt (by omega) (by omega)).trans (unhide HZ0).all.2.2.1⟩
    obtain ⟨y0, y1, y2, y3⟩ := HKEEP _ (But.refl _ _)
    obtain ⟨r0, r1, r2, r3, r4, r5, r6⟩ := (unhide HZ2).all
    have hwb : w.heap.size + 1 < bx := by omega
    clear hbx
    go_region_held3 (fun wx => wx.cell? ⟨w.heap.size + 1, 0, none⟩ = some (.bool d) ∧ wx.cell? ⟨w.heap.size + 1, 1, none⟩ = some (.slice b1 m1 d1) ∧ wx.cell? ⟨w.heap.size + 1, 2, none⟩ = some (.slice b2 m2 d2) ∧ wx.cell? ⟨w.heap.size, 2, none⟩ = some (.slice a2 m1 c2)) (first | exact HKEEP _ (But.refl _ _).drew | exact HKEEP _ (But.of_below (unhide HKC)) | exact HKEEP _ (But.of_below (unhide HKG)) | exact HKEEP _ ((((But.of_below (S := fun k => k = bx) (unhide HKG)).setCell (p := ⟨bx, 0, none⟩) rfl _).setCell (p := ⟨bx, 1, none⟩) rfl _).setCell (p := ⟨bx, 2, none⟩) rfl _))
      (first
      | (go_at_call 60; refine (inOrder_any b1 a2 m1 d1 c2 sh' dt _ ((unhide K1Z).below (Nat.le_refl _) (Below.refl _ wz).drew) ((unhide H2Z).below (Nat.le_refl _) (Below.refl _ wz).drew) h5 (unhide HORD)).mono ?_; rintro e wC ⟨gs, rfl, hgs, hbs, hbC⟩; rw [← unhide HZZ] at hbs; have HKC : Hid (Below wz.heap.size wz wC) := (Below.refl _ wz).drew.trans hbC; have HGS := hide hbs; have HGL : Hid (wz.heap.size ≤ gs) := hgs; clear hgs hbs hbC r0 r1 r2 r3 r4 r5 r6 y0 y1 y2 y3; obtain ⟨y0, y1, y2, y3⟩ := HKEEP _ (But.of_below (unhide HKC)); obtain ⟨r0, r1, r2, r3, r4, r5, r6⟩ := ((unhide HZ2).below (Nat.le_refl _) (unhide HKC)).all)
      | (go_at_call 59; refine (gathered_any d b1 b2 (some ⟨gs, 0, none⟩) m1 m2 d1 d2 m1 m1 sh' dt' zz 61 _ eg_trans (transF dt) _ m2 ((unhide K1Z).below (Nat.le_refl _) (unhide HKC)) ((unhide K2Z).below (Nat.le_refl _) (unhide HKC)) ((unhide HGS).row (unhide HZL) (by omega)) (unhide HIN) (unhide HIZ) h5 (unhide HPZ) (unhide HPR) (transClo w.heap.size m1 c2 c _ a2 dt zz _ ((unhide HZ0).below (Nat.le_refl _) (unhide HKC)) ((unhide H2Z).below (Nat.le_refl _) (unhide HKC)) (unhide HORD) (unhide HZL) h5)).mono ?_; rintro e wG ⟨gd, rfl, hgd, hBG, hbG⟩; have HKG : Hid (Below wz.heap.size wz wG) := (unhide HKC).trans (hbG.mono (unhide HKC).size); have HBG := hide hBG; have HGD := hide hgd; have HGH := hide (unhide HGS).lt; have HOG := hide (((unhide HGS).below (Nat.le_refl _) hbG).own (B := wz.heap.size) (unhide HZL) (by omega) (unhide HGL)); clear hgd hBG hbG r0 r1 r2 r3 r4 r5 r6 y0 y1 y2 y3; obtain ⟨y0, y1, y2, y3⟩ := HKEEP _ (But.of_below (unhide HKG)); obtain ⟨r0, r1, r2, r3, r4, r5, r6⟩ := ((unhide HZ2).below (Nat.le_refl _) (unhide HKG)).all))
    all_goals go_wp2_with fail
    all_goals (go_meet; case rel => exact ⟨rfl, Res5.setC ((unhide HZ2).below (Nat.le_refl _) (unhide HKG)) ((unhide HOG).mono (by have := (unhide HBZ).size; omega)) (by have := unhide HGD; have := (unhide HKC).size; have := (unhide HBZ).size; omega) (unhide HBG) (fun h => by have := at_eq h; have := unhide HGD; have := unhide HGH; omega) ((unhide HBZ).trans ((unhide HKG).mono (unhide HBZ).size)) (fun h => by have := at_eq h; have := unhide HGL; omega) (by have := unhide HGD; have := (unhide HKC).size; omega) (by omega) (Nat.le_refl _)⟩)
  case rest =>
    obtain ⟨w3, hw3⟩ : ∃ x, x = wc := ⟨_, rfl⟩
    subst hw3
    obtain ⟨rfl, ash, csh, gd, hb, hO, hgd, hB, hne, hbl, hcp⟩ := hcut
    obtain ⟨q0, q1, q2, q3, q4, q5, q6⟩ := hb.all
    clear hb
    go_wp2_with fail
    refine bodyPost_ret (v := .tuple #[.agg #[.bool d, .slice ash m1 csh, .slice (some ⟨gd, 0, none⟩) m2 m2], .int .i64 0]) (by simp [results, Tryz.results15, go_sem, q0, q1, q2]) rfl ?_
    rw [← unhide HZZ]
    exact cap_res (by simp [vals]) (by omega) hO hgd hB hne hbl hcp

/-- Where Transpose answers well, its answer's room is said. -/
theorem implTranspose_cap (c d : Bool) (a1 a2 b1 b2 : Option Addr) (n1 n2 m1 m2 c1 c2 d1 d2 : Nat) (sh dt sh' dt' : List Int) (w : World) (h1 : Row w a1 n1 sh) (h2 : Row w a2 n2 dt) (k1 : Row w b1 m1 sh') (k2 : Row w b2 m2 dt') (hok : arrOk c sh dt = true) (hok' : arrOk d sh' dt' = true) (hlc : listCode c sh.length = 0) (hl : n2 = m1) (ho : orderOk dt m1 m1 = true) :
    Calls Tryz.prog 15 #[.agg #[.bool c, .slice a1 n1 c1, .slice a2 n2 c2], .agg #[.bool d, .slice b1 m1 d1, .slice b2 m2 d2]] w (GivesCap w (transpose c d sh dt sh' dt')) := by
  subst hl
  have e1 := k1.len
  have e2 := k2.len
  have ho' : orderOk dt sh'.length sh'.length = true := by rw [e1]; exact ho
  rw [transpose_go hok hok' hlc (by rw [h2.len, e1]) ho', ← trans_vals hok' ho', e1, e2]
  exact implTranspose_goodC c d a1 a2 b1 b2 n1 n2 m2 c1 c2 d1 d2 sh dt sh' dt' w h1 h2 k1 k2 ((codeListT_ok hok hok').trans hlc) hok' ho

end Go.Proofs.YtgjpchnkodnieaaGreatDoor
namespace Go.Proofs.YtgjpchnkodnieaaGreatDoor
open Go.RowKit Go.Shelf

theorem cap_end {w w' : World} {r : Ans} {d : Bool} {code : Int} {b1 b2 : Option Addr} {m1 d1 m2 d2 : Nat} (h : GivesOwn w r (.returned (.tuple #[.agg #[.bool d, .slice b1 m1 d1, .slice b2 m2 d2], .int .i64 code])) w') (hc : m1 ≤ d1 ∧ m2 ≤ d2 ∧ (r.code = 0 → ∃ ad, b2 = some ad)) :
    GivesCap w r (.returned (.tuple #[.agg #[.bool d, .slice b1 m1 d1, .slice b2 m2 d2], .int .i64 code])) w' := by
  obtain ⟨_, _, _, _, _, _, he, h1, h2, h3, h4⟩ := h
  cases he
  exact ⟨_, _, _, _, _, _, rfl, h1, h2, h3, h4, hc⟩

theorem zero_monP (w : World) : (zeroValue 72).run Tryz.prog w = .ok .nilFunc w := by kernel_rfl

theorem egm_turnP : ∀ args w, (callFunc 142 args).run Tryz.prog w = .ok (.enter 142 args) w := enters_of Tryz.func142 (by kernel_rfl) rfl

set_option maxRecDepth 20000 in
set_option maxHeartbeats 8000000 in
theorem mon_turnC (op : Int) (c : Bool) (a1 a2 : Option Addr) (n1 n2 c1 c2 : Nat) (sh dt : List Int) (w : World) (h1 : Row w a1 n1 sh) (h2 : Row w a2 n2 dt) (hn5 : n1 ≤ 5) (hok : arrOk c sh dt = true) (hvk : arrOk false [(n1 : Int)] (downTo n1) = true) (hvo : orderOk (downTo n1) n1 n1 = true) :
    Calls Tryz.prog 142 #[.int .i64 op, .agg #[.bool c, .slice a1 n1 c1, .slice a2 n2 c2]] w (GivesCap w (transpose false c [(n1 : Int)] (downTo n1) sh dt)) := by
  have hl1 := hide h1.len
  have hl2 := hide h2.len
  have hs1 := h1.small
  have hs2 := h2.small
  have H1 := hide h1
  have H2 := hide h2
  clear h1 h2
  obtain ⟨W0, hW0⟩ : ∃ W0, W0 = (w.alloc (.cells #[.bool c, .slice a1 n1 c1, .slice a2 n2 c2] 25)).alloc (.cells #[.bool false, .slice none 0 0, .slice none 0 0] 25) := ⟨_, rfl⟩
  obtain ⟨B4, B5, hB0⟩ := boxes2 (w := w) (c := c) (v1 := .slice a1 n1 c1) (v2 := .slice a2 n2 c2) (Below.refl _ _)
  rw [← hW0] at B4 B5 hB0
  have E4 := hide B4
  have E6 := hide B5
  have HB := hide hB0
  obtain ⟨x0, x1, x2, x3, x4, x5, x6⟩ := B4.all
  have hz6 := (unhide E6).lt
  have K1 := hide ((unhide H1).below (Nat.le_refl _) hB0)
  have K2 := hide ((unhide H2).below (Nat.le_refl _) hB0)
  clear B4 B5 hB0
  have hcl := numbersUpTo_any n1 (by omega) W0
  rw [hW0] at hcl x0 x1 x2 x3 x4 x5 x6
  obtain ⟨rc, rsh, rdt, rp, hr⟩ : ∃ rc rsh rdt rp, transpose false c [(n1 : Int)] (downTo n1) sh dt = ⟨rc, rsh, rdt, rp⟩ := ⟨_, _, _, _, rfl⟩
  have HRR := hide hr
  rw [hr]
  clear hr
  go_enter Tryz.func142, Tryz.ntmps142
  go_upto_region 2 with (go_at_call 218; refine hcl.mono ?_; rintro e w4 ⟨s, g, rfl, hs0, hg0, hsg, hbs, hbg, hb4⟩; rw [← hW0] at hs0 hg0 hb4; have R1 := hide hbs; have R2 := hide hbg; have HK4 := hide hb4; clear hbs hbg hb4)
  clear hcl x0 x1 x2 x3 x4 x5 x6 hW0
  obtain ⟨W5, hW5⟩ : ∃ W, W = w4.alloc (.cells #[.bool false, .slice (some ⟨s, 0, none⟩) 1 1, .slice (some ⟨g, 0, none⟩) n1 n1] 25) := ⟨_, rfl⟩
  obtain ⟨p5, hp5⟩ : ∃ p, p = w4.heap.size := ⟨_, rfl⟩
  have hK5 : Below w4.heap.size w4 W5 := by rw [hW5]; exact (Below.refl _ _).alloc (Nat.le_refl _) _
  have HX5 : Hid (Box W5 p5 false (.slice (some ⟨s, 0, none⟩) 1 1) (.slice (some ⟨g, 0, none⟩) n1 n1)) := by rw [hW5, hp5]; exact Box.new _ _ _ _
  have S1 := hide ((unhide R1).below (Nat.le_refl _) hK5)
  have S2 := hide ((unhide R2).below (Nat.le_refl _) hK5)
  have HK : Hid (Below W0.heap.size W0 W5) := (unhide HK4).trans (hK5.mono (unhide HK4).size)
  have F4 := hide ((unhide E4).below (Nat.le_refl _) (unhide HK))
  have F6 := hide ((unhide E6).below (Nat.le_refl _) (unhide HK))
  have hsz := (unhide HK4).size
  have hgp : g < p5 := by rw [hp5]; exact (unhide R2).lt
  have hsp : s < p5 := by rw [hp5]; exact (unhide R1).lt
  rw [← hW5, ← hp5]
  clear hW5 hp5 hK5 R1 R2 HK4 E4 E6
  obtain ⟨y0, y1, y2, y3, y4, y5, y6⟩ := (unhide HX5).all
  have hrv := Reverse_blk g n1 n1 (upTo n1) W5 (unhide S2) (upTo_len n1) (by omega)
  rw [up_rev] at hrv
  go_upto_region 3 with (go_at_call 221; refine hrv.mono ?_; rintro e w6 ⟨rfl, hb6, hbt⟩; have T2 := hide hb6; have HBT := hide hbt; clear hb6 hbt)
  clear hrv y0 y1 y2 y3 y4 y5 y6
  have hz0 := (unhide HB).size
  have G4 := hide ((unhide F4).but (unhide HBT) (show ¬ w.heap.size = g by omega))
  have G6 := hide ((unhide F6).but (unhide HBT) (show ¬ w.heap.size + 1 = g by omega))
  have G5 := hide ((unhide HX5).but (unhide HBT) (show ¬ p5 = g by omega))
  have T1 : Hid (Blk w6 s [(n1 : Int)]) := ((unhide HBT).block s (by have := (unhide HX5).lt; omega) (by omega)).trans (unhide S1)
  have HB6 : Hid (Below w.heap.size w w6) := ((unhide HB).trans ((unhide HK).mono (unhide HB).size)).trans ((unhide HBT).below (by have := (unhide HK).size; omega) (fun y hy => by omega))
  have L1 := hide ((unhide H1).below (Nat.le_refl _) (unhide HB6))
  have L2 := hide ((unhide H2).below (Nat.le_refl _) (unhide HB6))
  clear S1 S2 F4 F6 HX5 HBT HK
  obtain ⟨x0, x1, x2, x3, x4, x5, x6⟩ := (unhide G4).all
  obtain ⟨y0, y1, y2, y3, y4, y5, y6⟩ := (unhide G5).all
  have htr := implTranspose_cap false c (some ⟨s, 0, none⟩) (some ⟨g, 0, none⟩) a1 a2 1 n1 n1 n2 1 n1 c1 c2 [(n1 : Int)] (downTo n1) sh dt w6 ((unhide T1).row rfl (by omega)) ((unhide T2).row (downTo_len n1) (by omega)) (unhide L1) (unhide L2) hvk hok rfl rfl hvo
  rw [unhide HRR] at htr
  go_wp2_with (go_at_call 15; refine htr.mono ?_; rintro e w7 ⟨b1, m1, d1, b2, m2, d2, rfl, r1, r2, hap, hb7, hcp⟩; have Q1 := hide r1; have Q2 := hide r2; have HX := hide ((unhide G6).below (Nat.le_refl _) hb7); have HBX := hide ((unhide HB6).trans (hb7.mono (unhide HB6).size)); simp only; obtain ⟨q0, q1, q2, q3, q4, q5, q6⟩ := (unhide HX).all; clear r1 r2 hb7)
  have hx := (unhide HX).sets (c' := rc) (u1 := .slice b1 m1 d1) (u2 := .slice b2 m2 d2)
  obtain ⟨s0, s1, s2, _, _, _⟩ := hx.all
  refine bodyPost_ret (v := .tuple #[.agg #[.bool rc, .slice b1 m1 d1, .slice b2 m2 d2], .int .i64 rp]) (by simp [results, Tryz.results142, go_sem, s0, s1, s2]) rfl ?_
  refine cap_end (own_end (unhide HX) ((unhide Q1).mono (unhide HB6).size) ((unhide Q2).mono (unhide HB6).size) hap (unhide HBX) (by omega)) hcp

set_option maxRecDepth 20000 in
set_option maxHeartbeats 8000000 in
theorem implMon_hitC (op : Int) (m i : Nat) (X : Ans) (eg : ∀ args w, (callFunc m args).run Tryz.prog w = .ok (.enter m args) w) (hop : 1 ≤ op ∧ op ≤ 33) (hf : Instr.findNow (.int .i64) (.int .i64 op) (monTab op) 0 = some (some (i, .func (.func m) #[.int .i64 op] #[]))) (c : Bool) (a1 a2 : Option Addr) (n1 n2 c1 c2 : Nat) (sh dt : List Int) (w : World) (h1 : Row w a1 n1 sh) (h2 : Row w a2 n2 dt) (hok : arrOk c sh dt = true) (hcall : ∀ W, Below w.heap.size w W → Calls Tryz.prog m #[.int .i64 op, .agg #[.bool c, .slice a1 n1 c1, .slice a2 n2 c2]] W (GivesCap W X)) :
    Calls Tryz.prog 11 #[.int .i64 op, .agg #[.bool c, .slice a1 n1 c1, .slice a2 n2 c2]] w (GivesCap w (X)) := by
  have HC := hide hcall
  clear hcall
  have H1 := hide h1
  have H2 := hide h2
  have HR : Hid (arrOk c sh dt = true) := hok
  clear h1 h2 hok
  obtain ⟨W0, hW0⟩ : ∃ W0, W0 = (w.alloc (.cells #[.bool c, .slice a1 n1 c1, .slice a2 n2 c2] 25)).alloc (.cells #[.bool false, .slice none 0 0, .slice none 0 0] 25) := ⟨_, rfl⟩
  obtain ⟨B4, B5, hB0⟩ := boxes2 (w := w) (c := c) (v1 := .slice a1 n1 c1) (v2 := .slice a2 n2 c2) (Below.refl _ _)
  rw [← hW0] at B4 B5 hB0
  have D4 := hide B4
  have D6 := hide B5
  have HB0 := hide hB0
  obtain ⟨x0, x1, x2, x3, x4, x5, x6⟩ := B4.all
  obtain ⟨q0, q1, q2, q3, q4, q5, q6⟩ := B5.all
  have hz6 := (unhide D6).lt
  have hwi := withinM op 1 33 true (by first | exact decide_eq_true (by omega) | exact decide_eq_false (by omega)) W0
  have hoa := implArrayOk_eq c a1 a2 n1 n2 c1 c2 sh dt W0 ((unhide H1).below (Nat.le_refl _) hB0) ((unhide H2).below (Nat.le_refl _) hB0) true HR
  rw [hW0] at hwi hoa x0 x1 x2 x3 x4 x5 x6 q0 q1 q2 q3 q4 q5 q6
  clear B4 B5 hB0
  go_enter Tryz.func11, Tryz.ntmps11
  have hlk : ∀ W : World, (Instr.lookup 74 (.map (some W.heap.size)) (.int .i64 op) true).run Tryz.prog (W.alloc (.map (monTab op).toArray 16)) = .ok (.tuple #[.func (.func m) #[.int .i64 op] #[], .bool true]) (W.alloc (.map (monTab op).toArray 16)) := fun W => look_hit _ _ Tryz.underlying74 _ _ _ 16 i op _ (World.alloc_heap_new W _) hf
  generalize hMT : (monTab op).toArray = MT at hlk
  have hmo : ∀ W, Calls Tryz.prog 52 #[.int .i64 op] W fun e w' => e = .returned (.map (some W.heap.size)) ∧ w' = W.alloc (.map MT 16) := fun W => by rw [← hMT]; exact monads_any op W
  obtain ⟨rc, rsh, rdt, rp⟩ := X
  clear hf hop hMT
  go_upto_region 4 with (first | (go_at_call 50; refine hwi.mono ?_; rintro e w2 ⟨rfl, hw2⟩; rw [hw2]; clear hw2) | (go_at_call 51; refine hoa.mono ?_; rintro e w3 ⟨rfl, hb3⟩; rw [← hW0] at hb3; have HB3 := hide hb3; have E4 := hide ((unhide D4).below (Nat.le_refl _) hb3); have E6 := hide ((unhide D6).below (Nat.le_refl _) hb3); have HB := hide ((unhide HB0).trans (hb3.mono (unhide HB0).size)); clear x0 x1 x2 x3 x4 x5 x6 q0 q1 q2 q3 q4 q5 q6; obtain ⟨x0, x1, x2, x3, x4, x5, x6⟩ := (unhide E4).all; obtain ⟨q0, q1, q2, q3, q4, q5, q6⟩ := (unhide E6).all; clear hb3) | (go_at_call 52; refine (hmo _).mono ?_; rintro e w4 ⟨rfl, hw4⟩; have hlk3 := hlk w3; subst hw4))
  clear hmo hlk hlk3
  obtain ⟨W4, hW4⟩ : ∃ W, W = w3.alloc (.map MT 16) := ⟨_, rfl⟩
  have hK4 : Below w3.heap.size w3 W4 := by rw [hW4]; exact (Below.refl _ _).alloc (Nat.le_refl _) _
  have F4 := hide ((unhide E4).below (Nat.le_refl _) hK4)
  have F6 := hide ((unhide E6).below (Nat.le_refl _) hK4)
  have HB4 := hide ((unhide HB).trans (hK4.mono (unhide HB).size))
  have hcl := unhide HC W4 (unhide HB4)
  rw [← hW4]
  clear hW4 hK4 E4 E6 x0 x1 x2 x3 x4 x5 x6 q0 q1 q2 q3 q4 q5 q6
  obtain ⟨x0, x1, x2, x3, x4, x5, x6⟩ := (unhide F4).all
  have hz0 := (unhide HB4).size
  go_wp2_with (go_at_fn m; refine hcl.mono ?_; rintro e w5 ⟨b1, m1, d1, b2, m2, d2, rfl, r1, r2, hap, hb5, hcp⟩; have R1 := hide r1; have R2 := hide r2; have HX := hide ((unhide F6).below (Nat.le_refl _) hb5); have HBX := hide ((unhide HB4).trans (hb5.mono (unhide HB4).size)); simp only; obtain ⟨q0, q1, q2, q3, q4, q5, q6⟩ := (unhide HX).all; clear r1 r2 hb5)
  have hx := (unhide HX).sets (c' := rc) (u1 := .slice b1 m1 d1) (u2 := .slice b2 m2 d2)
  obtain ⟨s0, s1, s2, _, _, _⟩ := hx.all
  refine bodyPost_ret (v := .tuple #[.agg #[.bool rc, .slice b1 m1 d1, .slice b2 m2 d2], .int .i64 rp]) (by simp [results, Tryz.results11, go_sem, s0, s1, s2]) rfl ?_
  refine cap_end (own_end (unhide HX) ((unhide R1).mono hz0) ((unhide R2).mono hz0) hap (unhide HBX) (by omega)) hcp

/-- The developers' Monad turns a matrix. -/
theorem implMon_turn (c : Bool) (a1 a2 : Option Addr) (n2 c1 c2 : Nat) (R C : Nat) (dt : List Int) (w : World) (h1 : Row w a1 2 [(R : Int), (C : Int)]) (h2 : Row w a2 n2 dt) (hok : arrOk c [(R : Int), (C : Int)] dt = true) :
    Calls Tryz.prog 11 #[.int .i64 23, .agg #[.bool c, .slice a1 2 c1, .slice a2 n2 c2]] w (GivesCap w ⟨c, [(C : Int), (R : Int)], tr2 dt R C, 0⟩) := by
  rw [← turn2 hok]
  exact implMon_hitC 23 _ 11 _ egm_turnP (by omega) rfl c a1 a2 2 n2 c1 c2 _ dt w h1 h2 hok (fun W hW => mon_turnC 23 c a1 a2 2 n2 c1 c2 _ dt W (h1.below (Nat.le_refl _) hW) (h2.below (Nat.le_refl _) hW) (by omega) hok (by decide) (by decide))

end Go.Proofs.YtgjpchnkodnieaaGreatDoor
namespace Go.Proofs.YtgjpchnkodnieaaGreatDoor
open Go.RowKit

theorem vals_rep (x : Int) (n : Nat) : vals (fun _ => (x, 0)) n = List.replicate n x := by
  unfold vals
  rw [List.map_const']
  simp

set_option maxRecDepth 20000 in
set_option maxHeartbeats 4000000 in
theorem l4Stretch_any (c : Bool) (a1 a2 : Addr) (n1 n2 c1 c2 N : Nat) (sh dt : List Int) (w : World) (h1 : Row w (some a1) n1 sh) (h2 : Row w (some a2) n2 dt) (hc1 : n1 ≤ c1) (hN : N ≤ 10000) (hd : sh = [] → 0 < n2) :
    Calls Tryz.prog 103 #[.agg #[.bool c, .slice (some a1) n1 c1, .slice (some a2) n2 c2], .int .i64 (N : Nat)] w fun e w' => ∃ b1 m1 d1 b2 m2 d2, e = .returned (.agg #[.bool c, .slice (some b1) m1 d1, .slice (some b2) m2 d2]) ∧ Row w' (some b1) m1 (stSh N sh) ∧ Row w' (some b2) m2 (stDt N sh dt) ∧ m1 ≤ d1 ∧ Below w.heap.size w w' := by
  have hl1 := hide h1.len
  have hs1 := h1.small
  have hs2 := h2.small
  have H1 := hide h1
  have H2 := hide h2
  clear h1 h2
  by_cases hn0 : n1 = 0
  · subst hn0
    have hse : sh = [] := List.length_eq_zero_iff.mp (unhide hl1)
    subst hse
    have hdl := hd rfl
    clear hd
    obtain ⟨bb, ob, hab, hblt, hc⟩ := (unhide H2).get hdl
    cases hab
    rw [Nat.add_zero] at hc
    obtain ⟨x, hx⟩ : ∃ x, x = dt.getD 0 0 := ⟨_, rfl⟩
    rw [← hx] at hc
    have HX := hide hx
    clear hx
    obtain ⟨f, hf⟩ : ∃ f : Nat → Int × Int, f = fun _ => (x, 0) := ⟨_, rfl⟩
    have HF : Hid (∀ P, f P = (x, 0)) := fun P => by rw [hf]
    have HV : Hid (∀ P, vals f P = List.replicate P x) := fun P => by rw [hf]; exact vals_rep x P
    clear hf
    obtain ⟨W0, hW0⟩ : ∃ W0, W0 = (w.alloc (.cells #[.bool c, .slice (some a1) 0 c1, .slice (some ⟨bb, ob, none⟩) n2 c2] 25)).alloc (.cells #[.bool false, .slice none 0 0, .slice none 0 0] 25) := ⟨_, rfl⟩
    have hz0' : W0.heap.size = w.heap.size + 2 := by rw [hW0]; simp
    have D5 : Hid (Box W0 w.heap.size c (.slice (some a1) 0 c1) (.slice (some ⟨bb, ob, none⟩) n2 c2)) := by rw [hW0]; exact (Box.new _ _ _ _).alloc _
    have D6 : Hid (Box W0 (w.heap.size + 1) false (.slice none 0 0) (.slice none 0 0)) := by
      rw [hW0]
      have := Box.new (w.alloc (.cells #[.bool c, .slice (some a1) 0 c1, .slice (some ⟨bb, ob, none⟩) n2 c2] 25)) false (.slice none 0 0) (.slice none 0 0)
      show Box _ _ _ _ _
      simpa using this
    have hB0 : Hid (Below w.heap.size w W0) := by rw [hW0]; exact ((Below.refl _ _).alloc (Nat.le_refl _) _).alloc (by simp) _
    have hst0 : Hid (Stage W0 (w.heap.size + 4) c (some ⟨w.heap.size + 2, 0, none⟩) 1 1 [(N : Int)] f 0 (((W0.alloc (.cells #[.int .i64 (N : Nat)] 3)).alloc (.cells #[] 3)).alloc (.cells #[.bool c, .slice (some ⟨w.heap.size + 2, 0, none⟩) 1 1, .slice (some ⟨w.heap.size + 3, 0, none⟩) 0 0] 25)) (w.heap.size + 3) 0) := by
      have hb1 : Blk (W0.alloc (.cells #[.int .i64 (N : Nat)] 3)) (w.heap.size + 2) [(N : Int)] := by
        have := heap_alloc_last W0 (.cells #[.int .i64 (N : Nat)] 3)
        rw [hz0'] at this
        exact this
      have hb2 : Blk ((W0.alloc (.cells #[.int .i64 (N : Nat)] 3)).alloc (.cells #[] 3)) (w.heap.size + 3) [] := by
        have := Blk.new (W0.alloc (.cells #[.int .i64 (N : Nat)] 3))
        simp [hz0'] at this
        exact this
      refine Stage.start f ?_ (hb2.alloc _) (((hb1.own (n := 1) (B := W0.heap.size) rfl (by omega) (by omega)).alloc _).alloc _) ((((Below.refl _ _).alloc (Nat.le_refl _) _).alloc (by simp) _).alloc (by simp <;> omega) _) (by omega) (by omega) (fun k hk => by have := at_eq hk; omega)
      have := Box.new ((W0.alloc (.cells #[.int .i64 (N : Nat)] 3)).alloc (.cells #[] 3)) c (.slice (some ⟨w.heap.size + 2, 0, none⟩) 1 1) (.slice (some ⟨w.heap.size + 3, 0, none⟩) 0 0)
      simp [hz0'] at this
      exact this
    rw [hW0] at hst0
    obtain ⟨i0, hi, hz0, hz1, hz2⟩ := info_parts info_int
    go_enter Tryz.func103, Tryz.ntmps103
    go_wp2_with fail
    rw [← hW0] at hst0
    go_loopw [6] (fun i wr => ∃ P g cap, P ≤ N ∧ i = .int .i64 (P : Nat) ∧ Hid (Stage W0 (w.heap.size + 4) c (some ⟨w.heap.size + 2, 0, none⟩) 1 1 [(N : Int)] f P wr g cap)) (fun i _ => N - (intOf i).toNat)
    case atStart =>
      rw [hW0] at hst0 ⊢
      exact ⟨0, _, _, Nat.zero_le _, rfl, hst0⟩
    case round =>
      clear hst0
      obtain ⟨P, g, cap, hP, rfl, hst⟩ := hrel
      have hst' := unhide hst
      obtain ⟨y0, y1, y2, y3, y4, y5, y6⟩ := ((unhide D5).low (by omega) hst'.low).all
      obtain ⟨z0, z1, z2, z3, z4, z5, z6⟩ := hst'.box.all
      by_cases hlt : P < N
      · have hc' := (((unhide hB0).trans (hst'.low.mono (by omega))).cell (p := ⟨bb, ob, none⟩) hblt).trans hc
        clear hW0
        go_wp2_with fail
        go_region_law
          (first
            | (refine step_append_lies _ (by rfl) _ _ _ (by rfl) W0.heap.size 3 i0 _ 1 8 Tryz.underlying23 hi hz0 hz1 hz2 rfl (by omega) (.slice (some ⟨g, 0, none⟩) P cap) P ((vals f P).map (Value.int .i64)) (by rfl) (by first | exact (hst'.owns.alloc _).drew | exact hst'.drew.owns.alloc _) ⟨wr.heap.size, 0, none⟩ 1 1 [.int .i64 x] (by rfl) (by rfl) (by exact cells_new wr _) (one_one _) (by omega) (by unfold maxLen; omega) (by omega) (by have := hst'.low.size; simp; omega) (wr.heap.size + 1) (by simp) ?_; intro g' cap' w7 hown' hgrow hat hlt7; obtain ⟨hb7, hst7⟩ := hst'.drew.push _ (unhide HF P) hown' (by exact hgrow) hat; obtain ⟨t0, t1, t2, t3, t4, t5, t6⟩ := hb7.all))
        all_goals
          go_wp2_with fail
          go_roundw
          case rel => exact ⟨P + 1, g', cap', by omega, by go_num, hst7⟩
          case measure => simp [intOf]; omega
      · have hPN : P = N := by omega
        subst hPN
        obtain ⟨ad', cd, hv, hD⟩ := Own.of_owns hst'.owns (by omega)
        cases hv
        have G6 := hide ((unhide D6).low (by omega) hst'.low)
        obtain ⟨q0, q1, q2, q3, q4, q5, q6⟩ := (unhide G6).all
        have HW6 := hide ((unhide hB0).trans (hst'.low.mono (by omega)))
        have HO6 := hide hst'.own
        have HD := hide hD
        clear hst hst' hD hW0
        go_wp2
        refine bodyPost_ret (v := .agg #[.bool c, .slice (some ⟨w.heap.size + 2, 0, none⟩) 1 1, .slice (some ⟨g, 0, none⟩) P cap]) (by simp [results, Tryz.results103, go_sem, q0, q1, q2]) rfl ?_
        refine ⟨_, 1, 1, _, P, cap, rfl, ?_, ?_, Nat.le_refl _, (((unhide HW6).setCell (by simp) _).setCell (by simp) _).setCell (by simp) _⟩
        · exact (unhide HO6).row.sets (unhide G6) _ _ _
        · have e : stDt (P : Int) [] dt = vals f P := by rw [unhide HV P, unhide HX]; simp [stDt]
          rw [e]
          exact (unhide HD).row.sets (unhide G6) _ _ _
  · have hp : (0 : Int) < (n1 : Int) := by omega
    have hne : sh ≠ [] := fun e => hn0 (by rw [← unhide hl1, e]; rfl)
    have e1 : stSh N sh = sh := by simp [stSh, hne]
    have e2 : stDt N sh dt = dt := by simp [stDt, hne]
    rw [e1, e2]
    clear e1 e2 hd
    go_enter Tryz.func103, Tryz.ntmps103
    go_wp2
    refine bodyPost_ret (v := .agg #[.bool c, .slice (some a1) n1 c1, .slice (some a2) n2 c2]) (by simp [results, Tryz.results103, go_sem]) rfl ?_
    exact ⟨_, n1, c1, _, n2, c2, rfl, ((unhide H1).alloc _).alloc _, ((unhide H2).alloc _).alloc _, hc1, ((Below.refl _ _).alloc (Nat.le_refl _) _).alloc (by simp) _⟩

end Go.Proofs.YtgjpchnkodnieaaGreatDoor
namespace Go.Proofs.YtgjpchnkodnieaaGreatDoor
open Go.RowKit

/-- A line laid as a vector. -/
def LaidX (wr : World) (c : Bool) (n : Nat) (l : List Int) (r : Value) (wx : World) : Prop :=
  ∃ p s g cap, r = .pointer (some ⟨p, 0, none⟩) ∧ Box wx p c (.slice (some ⟨s, 0, none⟩) 1 1) (.slice (some ⟨g, 0, none⟩) n cap) ∧ Row wx (some ⟨s, 0, none⟩) 1 [(n : Int)] ∧ Row wx (some ⟨g, 0, none⟩) n l ∧ Below wr.heap.size wr wx

theorem Blk.one (w : World) (n : Int) : Blk (w.alloc (.cells #[.int .i64 n] 3)) w.heap.size [n] := heap_alloc_last w _
theorem Blk.row1 {w : World} {s : Nat} {n : Int} (h : Blk w s [n]) : Row w (some ⟨s, 0, none⟩) 1 [n] := h.row rfl (by omega)

theorem lx_cbz {wr wA : World} {c : Bool} {n g cap : Nat} {l : List Int} (hR : Row wA (some ⟨g, 0, none⟩) n l) (hK : Below wr.heap.size wr wA) : LaidX wr c n l (.pointer (some ⟨wA.heap.size + 1, 0, none⟩)) ((wA.alloc (.cells #[.int .i64 (n : Nat)] 3)).alloc (.cells #[.bool c, .slice (some ⟨wA.heap.size, 0, none⟩) 1 1, .slice (some ⟨g, 0, none⟩) n cap] 25)) := by
  have hs := hK.size
  refine ⟨wA.heap.size + 1, wA.heap.size, g, cap, rfl, ?_, (Blk.one wA n).row1.alloc _, (hR.alloc _).alloc _, (hK.alloc hs _).alloc (by simp; omega) _⟩
  have := Box.new (wA.alloc (.cells #[.int .i64 (n : Nat)] 3)) c (.slice (some ⟨wA.heap.size, 0, none⟩) 1 1) (.slice (some ⟨g, 0, none⟩) n cap)
  simpa using this

theorem lx_czb {wr wA : World} {c : Bool} {n g cap : Nat} {l : List Int} (hR : Row wA (some ⟨g, 0, none⟩) n l) (hK : Below wr.heap.size wr wA) : LaidX wr c n l (.pointer (some ⟨wA.heap.size, 0, none⟩)) ((wA.alloc (.cells #[.bool c, .slice (some ⟨wA.heap.size + 1, 0, none⟩) 1 1, .slice (some ⟨g, 0, none⟩) n cap] 25)).alloc (.cells #[.int .i64 (n : Nat)] 3)) := by
  have hs := hK.size
  refine ⟨wA.heap.size, wA.heap.size + 1, g, cap, rfl, (Box.new _ _ _ _).alloc _, ?_, (hR.alloc _).alloc _, (hK.alloc hs _).alloc (by simp; omega) _⟩
  have := (Blk.one (wA.alloc (.cells #[.bool c, .slice (some ⟨wA.heap.size + 1, 0, none⟩) 1 1, .slice (some ⟨g, 0, none⟩) n cap] 25)) n).row1
  simpa using this

theorem lx_bcz {wr wA : World} {c : Bool} {n g s cap : Nat} {l : List Int} (hR : Row wA (some ⟨g, 0, none⟩) n l) (hK : Below wr.heap.size wr wA) (hQ : Blk wA s [(n : Int)]) : LaidX wr c n l (.pointer (some ⟨wA.heap.size, 0, none⟩)) (wA.alloc (.cells #[.bool c, .slice (some ⟨s, 0, none⟩) 1 1, .slice (some ⟨g, 0, none⟩) n cap] 25)) :=
  ⟨wA.heap.size, s, g, cap, rfl, Box.new _ _ _ _, hQ.row1.alloc _, hR.alloc _, hK.alloc hK.size _⟩

theorem lx_zc {wr wA : World} {c c' : Bool} {n g s p cap : Nat} {l : List Int} {a1 a2 : Option Addr} {l1 l2 k1 k2 : Nat} (hR : Row wA (some ⟨g, 0, none⟩) n l) (hK : Below wr.heap.size wr wA) (hP : Box wA p c' (.slice a1 l1 k1) (.slice a2 l2 k2)) (hp : wr.heap.size ≤ p) (hQ : Blk wA s [(n : Int)]) :
    LaidX wr c n l (.pointer (some ⟨p, 0, none⟩)) (((wA.setCell ⟨p, 0, none⟩ (.bool c)).setCell ⟨p, 1, none⟩ (.slice (some ⟨s, 0, none⟩) 1 1)).setCell ⟨p, 2, none⟩ (.slice (some ⟨g, 0, none⟩) n cap)) :=
  ⟨p, s, g, cap, rfl, hP.sets, hQ.row1.sets hP _ _ _, hR.sets hP _ _ _, ((hK.setCell hp _).setCell hp _).setCell hp _⟩

theorem lx_zcb {wr wA : World} {c c' : Bool} {n g p cap : Nat} {l : List Int} {a1 a2 : Option Addr} {l1 l2 k1 k2 : Nat} (hR : Row wA (some ⟨g, 0, none⟩) n l) (hK : Below wr.heap.size wr wA) (hP : Box wA p c' (.slice a1 l1 k1) (.slice a2 l2 k2)) (hp : wr.heap.size ≤ p) :
    LaidX wr c n l (.pointer (some ⟨p, 0, none⟩)) ((((wA.setCell ⟨p, 0, none⟩ (.bool c)).setCell ⟨p, 1, none⟩ (.slice (some ⟨wA.heap.size, 0, none⟩) 1 1)).setCell ⟨p, 2, none⟩ (.slice (some ⟨g, 0, none⟩) n cap)).alloc (.cells #[.int .i64 (n : Nat)] 3)) := by
  refine ⟨p, wA.heap.size, g, cap, rfl, hP.sets.alloc _, ?_, (hR.sets hP _ _ _).alloc _, (((hK.setCell hp _).setCell hp _).setCell hp _).alloc (by simpa using hK.size) _⟩
  have := (Blk.one (((wA.setCell ⟨p, 0, none⟩ (.bool c)).setCell ⟨p, 1, none⟩ (.slice (some ⟨wA.heap.size, 0, none⟩) 1 1)).setCell ⟨p, 2, none⟩ (.slice (some ⟨g, 0, none⟩) n cap)) n).row1
  simpa using this

end Go.Proofs.YtgjpchnkodnieaaGreatDoor
namespace Go.Proofs.YtgjpchnkodnieaaGreatDoor
open Go.RowKit

set_option maxHeartbeats 400000 in
theorem l4Without_any (b off n cap : Nat) (sh : List Int) (first : Bool) (w : World) (h : Row w (some ⟨b, off, none⟩) n sh) (hn : 0 < n) (hcap : n ≤ cap) :
    Calls Tryz.prog 105 #[.slice (some ⟨b, off, none⟩) n cap, .bool first] w fun e w' => ∃ a' cap', e = .returned (.slice a' (n - 1) cap') ∧ Own w' w.heap.size a' (n - 1) (without sh first) ∧ Below w.heap.size w w' := by
  have H := hide h
  have hlen := hide h.len
  have hsm := h.small
  clear h
  have hz : ∀ (ad : Addr), n - 1 = 0 → Row w (some ad) (n - 1) (sh.drop 1) := fun ad h0 => by
    rw [h0]
    exact ⟨by rw [List.length_drop, unhide hlen]; exact h0, by omega, .inl rfl⟩
  cases first with
  | true =>
    go_enter Tryz.func105, Tryz.ntmps105
    go_wp2_with fail
    all_goals
      refine (l3Ints_any _ _ _ (sh.drop 1) _ (by first | exact row_tail (unhide H) hn | exact hz _ (by omega))).mono ?_
      rintro e w1 ⟨a', cap', rfl, hO, hb⟩
      go_wp2
      go_ret
      exact ⟨a', cap', rfl, hO, hb⟩
  | false =>
    have HE : Hid (without sh false = sh.take (n - 1)) := by show _ = _; unfold without; rw [unhide hlen]; rfl
    have hn1 : (n : Int) - 1 = ((n - 1 : Nat) : Int) := by omega
    go_enter Tryz.func105, Tryz.ntmps105
    go_wp2_with fail
    all_goals
      refine (l3Ints_any _ _ _ (sh.take (n - 1)) _ (by first | exact row_head (unhide H) (Nat.sub_le _ _))).mono ?_
      rintro e w1 ⟨a', cap', rfl, hO, hb⟩
      go_wp2
      go_ret
      exact ⟨a', cap', rfl, by rw [unhide HE]; exact hO, hb⟩

end Go.Proofs.YtgjpchnkodnieaaGreatDoor
namespace Go.Proofs.YtgjpchnkodnieaaGreatDoor
open Go.RowKit

set_option maxHeartbeats 400000 in
theorem l4Without_some (b off n cap : Nat) (sh : List Int) (first : Bool) (w : World) (h : Row w (some ⟨b, off, none⟩) n sh) (hn : 0 < n) (hcap : n ≤ cap) :
    Calls Tryz.prog 105 #[.slice (some ⟨b, off, none⟩) n cap, .bool first] w fun e w' => ∃ g cap', e = .returned (.slice (some ⟨g, 0, none⟩) (n - 1) cap') ∧ Own w' w.heap.size (some ⟨g, 0, none⟩) (n - 1) (without sh first) ∧ Below w.heap.size w w' := by
  have H := hide h
  have hlen := hide h.len
  have hsm := h.small
  clear h
  have hz : ∀ (ad : Addr), n - 1 = 0 → Row w (some ad) (n - 1) (sh.drop 1) := fun ad h0 => by
    rw [h0]
    exact ⟨by rw [List.length_drop, unhide hlen]; exact h0, by omega, .inl rfl⟩
  cases first with
  | true =>
    go_enter Tryz.func105, Tryz.ntmps105
    go_wp2_with fail
    all_goals
      refine (l3Ints_some _ _ _ (sh.drop 1) _ (by first | exact row_tail (unhide H) hn | exact hz _ (by omega))).mono ?_
      rintro e w1 ⟨a', cap', rfl, hO, hb⟩
      go_wp2
      go_ret
      exact ⟨a', cap', rfl, hO, hb⟩
  | false =>
    have HE : Hid (without sh false = sh.take (n - 1)) := by show _ = _; unfold without; rw [unhide hlen]; rfl
    have hn1 : (n : Int) - 1 = ((n - 1 : Nat) : Int) := by omega
    go_enter Tryz.func105, Tryz.ntmps105
    go_wp2_with fail
    all_goals
      refine (l3Ints_some _ _ _ (sh.take (n - 1)) _ (by first | exact row_head (unhide H) (Nat.sub_le _ _))).mono ?_
      rintro e w1 ⟨a', cap', rfl, hO, hb⟩
      go_wp2
      go_ret
      exact ⟨a', cap', rfl, by rw [unhide HE]; exact hO, hb⟩

end Go.Proofs.YtgjpchnkodnieaaGreatDoor
namespace Go.Proofs.YtgjpchnkodnieaaGreatDoor
open Go.RowKit

theorem owns_cap {w : World} {base e size n m cap : Nat} {a : Option Addr} {xs : List Value} (h : w.ownsRow base e size (.slice a m cap) n xs) : n ≤ cap := by
  rcases h.2 with ⟨e, h0⟩ | ⟨g, cap', cur, e, _, _, hc, _⟩
  · omega
  · cases e; exact hc

set_option maxHeartbeats 1000000 in
theorem l4Line_any (c : Bool) (v1 : Value) (a2 : Option Addr) (n2 c2 p n A q : Nat) (dt : List Int) (w : World) (h2 : Row w a2 n2 dt) (hin : ∀ i, i < n → (p * n + i) * A + q < n2) (hp : p ≤ 10000) (hn : n ≤ 10000) (hA : A ≤ 10000) (hq : q ≤ 10000) (hn2 : n2 ≤ 10000) :
    Calls Tryz.prog 107 #[.agg #[.bool c, v1, .slice a2 n2 c2], .int .i64 p, .int .i64 n, .int .i64 A, .int .i64 q] w fun e w' => ∃ a' cap', e = .returned (.slice a' n cap') ∧ Own w' w.heap.size a' n (lineOf dt p n A q) ∧ Below w.heap.size w w' ∧ n ≤ cap' := by
  have H2 := hide h2
  have HIN := hide hin
  clear h2 hin
  obtain ⟨i0, hi, hz0, hz1, hz2⟩ := info_parts info_int
  go_enter Tryz.func107, Tryz.ntmps107
  go_wp2_with fail
  go_loopw [11, 12] (fun v i wr => ∃ k : Nat, k ≤ n ∧ i = .int .i64 k ∧ Hid (wr.ownsRow (w.heap.size + 1) 3 1 v k (((lineOf dt p n A q).take k).map (Value.int .i64))) ∧ Hid (Below (w.heap.size + 1) (w.alloc (.cells #[.bool c, v1, .slice a2 n2 c2] 25)) wr)) (fun _ i _ => n - (intOf i).toNat)
  case atStart =>
    refine ⟨0, Nat.zero_le _, rfl, ?_, ?_⟩
    · have := owns_empty (w.alloc (.cells #[.bool c, v1, .slice a2 n2 c2] 25))
      show World.ownsRow _ _ _ _ _ _ _
      simpa using this
    · exact (Below.refl _ _).alloc (by simp) _
  case round =>
    obtain ⟨k, hk, rfl, hown, hbl⟩ := hrel
    have hsz := (unhide hbl).size
    simp at hsz
    by_cases hlt : k < n
    · obtain ⟨j, hj⟩ : ∃ j, j = (p * n + k) * A + q := ⟨_, rfl⟩
      have hj2 := unhide HIN k hlt
      rw [← hj] at hj2
      have hidx : ((p : Int) * (n : Int) + (k : Int)) * (A : Int) + (q : Int) = (j : Int) := by rw [hj]; simp
      have e1a : 0 ≤ (p : Int) * (n : Int) := by rw [← Int.natCast_mul]; omega
      have e1b : (p : Int) * (n : Int) ≤ 100000000 := by
        have := Nat.mul_le_mul hp hn
        rw [← Int.natCast_mul]; omega
      have e2a : 0 ≤ ((p : Int) * (n : Int) + (k : Int)) * (A : Int) := Int.mul_nonneg (by omega) (by omega)
      have e2b : ((p : Int) * (n : Int) + (k : Int)) * (A : Int) ≤ 10000 := by omega
      obtain ⟨b, off, rfl, hblt, hc⟩ := (unhide H2).get hj2
      have hB0 : Below w.heap.size w wr := ((Below.refl _ _).alloc (Nat.le_refl _) _).trans ((unhide hbl).mono (by omega))
      have hc' := (hB0.cell (p := ⟨b, off + j, none⟩) hblt).trans hc
      have hbox : wr.cell? ⟨w.heap.size, 2, none⟩ = some (.slice (some ⟨b, off, none⟩) n2 c2) := by
        rw [(unhide hbl).cell (p := ⟨w.heap.size, 2, none⟩) (by simp)]
        simp
      obtain ⟨x, hx⟩ : ∃ x, x = dt.getD j 0 := ⟨_, rfl⟩
      rw [← hx] at hc'
      have HX : Hid (((lineOf dt p n A q).take (k + 1)).map (Value.int .i64) = ((lineOf dt p n A q).take k).map (Value.int .i64) ++ [.int .i64 x]) := by
        show _ = _
        rw [line_snoc _ _ _ _ _ _ hlt, ← hj, ← hx]
      clear hc hx hj
      have hown1 := unhide hown
      have HBL := hide (unhide hbl)
      clear hown hbl hB0
      go_wp2_with (at_builtin; refine wpList_append_own _ rfl _ _ 23 rfl (w.heap.size + 1) 3 i0 (.int .i64 0) 1 8 Tryz.underlying23 hi hz0 hz1 hz2 rfl (by decide) _ _ _ rfl (hown1.alloc _) ⟨wr.heap.size, 0, none⟩ 1 1 [.int .i64 x] rfl rfl (cells_new _ _) (one_one _) (by unfold maxLen; omega) (by omega) (by simp; omega) ?_; intro u1 w6 hown' hgrow hnil; clear hnil; obtain ⟨av, cv, rfl⟩ := owns_slice hown'; have HB := hide (below_append _ hown1 hsz hgrow); clear hgrow)
      have HN' : Hid (w6.ownsRow (w.heap.size + 1) 3 1 (.slice av (k + 1) cv) (k + 1) (((lineOf dt p n A q).take (k + 1)).map (Value.int .i64))) := by
        show w6.ownsRow _ _ _ _ _ _
        rw [unhide HX]
        exact hown'
      go_roundw
      case rel => exact ⟨k + 1, by omega, by go_num, HN', (unhide HBL).trans (unhide HB)⟩
      case measure => simp [intOf]; omega
    · have hkn : k = n := by omega
      subst hkn
      have hown1 := unhide hown
      rw [List.take_of_length_le (by rw [line_len]; exact Nat.le_refl _)] at hown1
      obtain ⟨ad, cd, rfl, hD⟩ := Own.of_owns hown1 (by omega)
      have hcap := owns_cap hown1
      have HD := hide (hD.mono (B' := w.heap.size) (by omega))
      have HB0 : Hid (Below w.heap.size w wr) := ((Below.refl _ _).alloc (Nat.le_refl _) _).trans ((unhide hbl).mono (by omega))
      clear hown1 hown hD hbl
      go_wp2
      go_ret
      exact ⟨ad, cd, rfl, unhide HD, unhide HB0, hcap⟩

end Go.Proofs.YtgjpchnkodnieaaGreatDoor
namespace Go.Proofs.YtgjpchnkodnieaaGreatDoor
open Go.RowKit

set_option maxHeartbeats 1000000 in
theorem l4Line_some (c : Bool) (v1 : Value) (a2 : Option Addr) (n2 c2 p n A q : Nat) (dt : List Int) (w : World) (h2 : Row w a2 n2 dt) (hin : ∀ i, i < n → (p * n + i) * A + q < n2) (hp : p ≤ 10000) (hn : n ≤ 10000) (hA : A ≤ 10000) (hq : q ≤ 10000) (hn2 : n2 ≤ 10000) :
    Calls Tryz.prog 107 #[.agg #[.bool c, v1, .slice a2 n2 c2], .int .i64 p, .int .i64 n, .int .i64 A, .int .i64 q] w fun e w' => ∃ g cap', e = .returned (.slice (some ⟨g, 0, none⟩) n cap') ∧ Own w' w.heap.size (some ⟨g, 0, none⟩) n (lineOf dt p n A q) ∧ Below w.heap.size w w' ∧ n ≤ cap' := by
  have H2 := hide h2
  have HIN := hide hin
  clear h2 hin
  obtain ⟨i0, hi, hz0, hz1, hz2⟩ := info_parts info_int
  go_enter Tryz.func107, Tryz.ntmps107
  go_wp2_with fail
  go_loopw [11, 12] (fun v i wr => ∃ k g cap : Nat, k ≤ n ∧ i = .int .i64 k ∧ v = .slice (some ⟨g, 0, none⟩) k cap ∧ Hid (wr.ownsRow (w.heap.size + 1) 3 1 v k (((lineOf dt p n A q).take k).map (Value.int .i64))) ∧ Hid (Below (w.heap.size + 1) (w.alloc (.cells #[.bool c, v1, .slice a2 n2 c2] 25)) wr)) (fun _ i _ => n - (intOf i).toNat)
  case atStart =>
    refine ⟨0, _, _, Nat.zero_le _, rfl, rfl, ?_, ?_⟩
    · have := owns_empty (w.alloc (.cells #[.bool c, v1, .slice a2 n2 c2] 25))
      show World.ownsRow _ _ _ _ _ _ _
      simpa using this
    · exact (Below.refl _ _).alloc (by simp) _
  case round =>
    obtain ⟨k, g, cap, hk, rfl, rfl, hown, hbl⟩ := hrel
    have hsz := (unhide hbl).size
    simp at hsz
    by_cases hlt : k < n
    · obtain ⟨j, hj⟩ : ∃ j, j = (p * n + k) * A + q := ⟨_, rfl⟩
      have hj2 := unhide HIN k hlt
      rw [← hj] at hj2
      have hidx : ((p : Int) * (n : Int) + (k : Int)) * (A : Int) + (q : Int) = (j : Int) := by rw [hj]; simp
      have e1a : 0 ≤ (p : Int) * (n : Int) := by rw [← Int.natCast_mul]; omega
      have e1b : (p : Int) * (n : Int) ≤ 100000000 := by
        have := Nat.mul_le_mul hp hn
        rw [← Int.natCast_mul]; omega
      have e2a : 0 ≤ ((p : Int) * (n : Int) + (k : Int)) * (A : Int) := Int.mul_nonneg (by omega) (by omega)
      have e2b : ((p : Int) * (n : Int) + (k : Int)) * (A : Int) ≤ 10000 := by omega
      obtain ⟨b, off, rfl, hblt, hc⟩ := (unhide H2).get hj2
      have hB0 : Below w.heap.size w wr := ((Below.refl _ _).alloc (Nat.le_refl _) _).trans ((unhide hbl).mono (by omega))
      have hc' := (hB0.cell (p := ⟨b, off + j, none⟩) hblt).trans hc
      have hbox : wr.cell? ⟨w.heap.size, 2, none⟩ = some (.slice (some ⟨b, off, none⟩) n2 c2) := by
        rw [(unhide hbl).cell (p := ⟨w.heap.size, 2, none⟩) (by simp)]
        simp
      obtain ⟨x, hx⟩ : ∃ x, x = dt.getD j 0 := ⟨_, rfl⟩
      rw [← hx] at hc'
      have HX : Hid (((lineOf dt p n A q).take (k + 1)).map (Value.int .i64) = ((lineOf dt p n A q).take k).map (Value.int .i64) ++ [.int .i64 x]) := by
        show _ = _
        rw [line_snoc _ _ _ _ _ _ hlt, ← hj, ← hx]
      clear hc hx hj
      have hown1 := unhide hown
      have HBL := hide (unhide hbl)
      clear hown hbl hB0
      go_wp2_with (at_builtin; refine wpList_append_lies _ rfl _ _ 23 rfl (w.heap.size + 1) 3 i0 (.int .i64 0) 1 8 Tryz.underlying23 hi hz0 hz1 hz2 rfl (by decide) _ _ _ rfl (hown1.alloc _) ⟨wr.heap.size, 0, none⟩ 1 1 [.int .i64 x] rfl rfl (cells_new _ _) (one_one _) (by omega) (by unfold maxLen; omega) (by omega) (by simp; omega) (wr.heap.size + 1) (by simp) ?_; intro g' cap' w6 hown' hgrow hat hlt7; have HB := hide (below_append _ hown1 hsz hgrow); clear hgrow hat hlt7)
      have HN' : Hid (w6.ownsRow (w.heap.size + 1) 3 1 (.slice (some ⟨g', 0, none⟩) (k + 1) cap') (k + 1) (((lineOf dt p n A q).take (k + 1)).map (Value.int .i64))) := by
        show w6.ownsRow _ _ _ _ _ _
        rw [unhide HX]
        exact hown'
      go_roundw
      case rel => exact ⟨k + 1, g', cap', by omega, by go_num, rfl, HN', (unhide HBL).trans (unhide HB)⟩
      case measure => simp [intOf]; omega
    · have hkn : k = n := by omega
      subst hkn
      have hown1 := unhide hown
      rw [List.take_of_length_le (by rw [line_len]; exact Nat.le_refl _)] at hown1
      obtain ⟨ad, cd, hv, hD⟩ := Own.of_owns hown1 (by omega)
      cases hv
      have hcap := owns_cap hown1
      have HD := hide (hD.mono (B' := w.heap.size) (by omega))
      have HB0 : Hid (Below w.heap.size w wr) := ((Below.refl _ _).alloc (Nat.le_refl _) _).trans ((unhide hbl).mono (by omega))
      clear hown1 hown hD hbl
      go_wp2
      go_ret
      exact ⟨g, cap, rfl, unhide HD, unhide HB0, hcap⟩

end Go.Proofs.YtgjpchnkodnieaaGreatDoor
namespace Go.Proofs.YtgjpchnkodnieaaGreatDoor
open Go.RowKit

set_option maxHeartbeats 400000 in
theorem truth_call (b : Bool) (w : World) : Calls Tryz.prog 200 #[.bool b] w fun e w' => e = .returned (.int .i64 (truth b)) ∧ w' = w := by
  cases b
  all_goals
    go_enter Tryz.func200, Tryz.ntmps200
    go_wp2
    go_ret
    exact ⟨rfl, rfl⟩

set_option maxHeartbeats 400000 in
theorem l4In_any (v : Int) (w : World) : Calls Tryz.prog 202 #[.int .i64 v] w fun e w' => e = .returned (.bool (inM v)) ∧ w' = w := by
  by_cases h1 : v ≤ 1000000000000000
  · by_cases h2 : -1000000000000000 ≤ v
    · have HE : Hid (inM v = true) := inM_of h2 h1
      go_enter Tryz.func202, Tryz.ntmps202
      go_wp2
      go_ret
      exact ⟨ret_bool HE.out.symm, rfl⟩
    · have HE : Hid (inM v = false) := inM_not (by omega)
      go_enter Tryz.func202, Tryz.ntmps202
      go_wp2
      go_ret
      exact ⟨ret_bool HE.out.symm, rfl⟩
  · have HE : Hid (inM v = false) := inM_not (by omega)
    go_enter Tryz.func202, Tryz.ntmps202
    go_wp2
    go_ret
    exact ⟨ret_bool HE.out.symm, rfl⟩

theorem prod_sign {a b x y : Int} (hx : x = a ∨ x = -a) (hy : y = b ∨ y = -b) : x * y = a * b ∨ x * y = -(a * b) := by
  rcases hx with rfl | rfl <;> rcases hy with rfl | rfl <;> simp [Int.neg_mul, Int.mul_neg]

set_option maxHeartbeats 2000000 in
theorem l4Times_any (a b : Int) (w : World) (ha : -1000000000000000 ≤ a ∧ a ≤ 1000000000000000) (hb : -1000000000000000 ≤ b ∧ b ≤ 1000000000000000) : Calls Tryz.prog 201 #[.int .i64 a, .int .i64 b] w fun e w' => e = .returned (.tuple #[.int .i64 (timesOf a b).1, .bool (timesOf a b).2]) ∧ w' = w := by
  obtain ⟨ha1, ha2⟩ := ha
  obtain ⟨hb1, hb2⟩ := hb
  by_cases h0 : a = 0
  · subst h0
    have HE : Hid (timesOf 0 b = (0, true)) := by show _ = _; simp [timesOf, inM]
    go_enter Tryz.func201, Tryz.ntmps201
    go_wp2
    go_ret2
    exact ⟨ret_ib (by rw [unhide HE]) (by rw [unhide HE]), rfl⟩
  by_cases h1 : b = 0
  · subst h1
    have HE : Hid (timesOf a 0 = (0, true)) := by show _ = _; simp [timesOf, inM]
    have q0 : (a == 0) = false := by simp [h0]
    clear h0
    go_enter Tryz.func201, Tryz.ntmps201
    go_wp2
    go_ret2
    exact ⟨ret_ib (by rw [unhide HE]) (by rw [unhide HE]), rfl⟩
  have q0 : (a == 0) = false := by simp [h0]
  have q1 : (b == 0) = false := by simp [h1]
  obtain ⟨x, hx⟩ : ∃ x, (if a < 0 then -a else a) = x := ⟨_, rfl⟩
  obtain ⟨y, hy⟩ : ∃ y, (if b < 0 then -b else b) = y := ⟨_, rfl⟩
  have hy0 : 0 < y := by rw [← hy]; split <;> omega
  have hyn : ¬ y = 0 := by omega
  have hxy : x * y = a * b ∨ x * y = -(a * b) := prod_sign (by rw [← hx]; split <;> simp) (by rw [← hy]; split <;> simp)
  have hp0 : 0 ≤ x * y := Int.mul_nonneg (by rw [← hx]; split <;> omega) (by omega)
  have hq : (1000000000000000 : Int).tdiv y < x ↔ 1000000000000000 < x * y := tdiv_lt hy0
  obtain ⟨t, ht⟩ : ∃ t, (1000000000000000 : Int).tdiv y = t := ⟨_, rfl⟩
  have htb : 0 ≤ t ∧ t ≤ 1000000000000000 := by
    rw [← ht, Int.tdiv_eq_ediv_of_nonneg (by omega)]
    exact ⟨Int.ediv_nonneg (by omega) (by omega), Int.ediv_le_self _ (by omega)⟩
  obtain ⟨ht1, ht2⟩ := htb
  rw [ht] at hq
  obtain ⟨pr, hpr⟩ : ∃ pr, a * b = pr := ⟨_, rfl⟩
  rw [hpr] at hxy
  by_cases hbig : t < x
  · have HE : Hid (timesOf a b = (0, false)) := times_big (by rw [hpr]; exact inM_not (by have := hq.mp hbig; omega))
    clear hq hxy hp0 h0 h1
    by_cases hs : a < 0
    all_goals by_cases hu : b < 0
    all_goals
      simp only [hs, hu, if_true, if_false] at hx hy
      subst hx hy
      go_enter Tryz.func201, Tryz.ntmps201
      go_wp2
      go_ret2
      exact ⟨ret_ib (by rw [unhide HE]) (by rw [unhide HE]), rfl⟩
  · have hle : x * y ≤ 1000000000000000 := by
      by_cases h' : 1000000000000000 < x * y
      · exact absurd (hq.mpr h') hbig
      · omega
    have hpb1 : -1000000000000000 ≤ pr := by omega
    have hpb2 : pr ≤ 1000000000000000 := by omega
    have HE : Hid (timesOf a b = (pr, true)) := by show _ = _; rw [times_ok (by rw [hpr]; exact inM_of hpb1 hpb2), hpr]
    clear hq hxy hp0 hle h0 h1
    by_cases hs : a < 0
    all_goals by_cases hu : b < 0
    all_goals
      simp only [hs, hu, if_true, if_false] at hx hy
      subst hx hy
      go_enter Tryz.func201, Tryz.ntmps201
      go_wp2
      go_ret2
      exact ⟨ret_ib (by rw [unhide HE]) (by rw [unhide HE]), rfl⟩

theorem l4Times_eq (a b : Int) (w : World) (ha : -1000000000000000 ≤ a ∧ a ≤ 1000000000000000) (hb : -1000000000000000 ≤ b ∧ b ≤ 1000000000000000) (r1 : Int) (r2 : Bool) (hr : Hid (timesOf a b = (r1, r2))) : Calls Tryz.prog 201 #[.int .i64 a, .int .i64 b] w fun e w' => e = .returned (.tuple #[.int .i64 r1, .bool r2]) ∧ w' = w := by
  have := l4Times_any a b w ha hb
  rw [unhide hr] at this
  exact this

end Go.Proofs.YtgjpchnkodnieaaGreatDoor
namespace Go.Proofs.YtgjpchnkodnieaaGreatDoor
open Go.RowKit

theorem pow_ok {a b : Int} (h : inM (a ^ b.toNat) = true) : powOf a b = (a ^ b.toNat, true) := by simp [powOf, h]
theorem pow_big {a b : Int} (h : inM (a ^ b.toNat) = false) : powOf a b = (0, false) := by simp [powOf, h]

theorem pow_zero_base {b : Int} (h : 0 < b) : powOf 0 b = (0, true) := by
  have : (0 : Int) ^ b.toNat = 0 := Int.zero_pow (by omega)
  rw [pow_ok (by rw [this]; rfl), this]
theorem pow_zero_zero : powOf 0 0 = (1, true) := by simp [powOf, inM]
theorem pow_one_base {b : Int} : powOf 1 b = (1, true) := by
  have : (1 : Int) ^ b.toNat = 1 := Int.one_pow
  rw [pow_ok (by rw [this]; rfl), this]
theorem neg_one_pow (n : Nat) : ((-1 : Int)) ^ n = 1 - (n % 2 : Nat) * 2 := by
  induction n with
  | zero => rfl
  | succ n ih => rw [Int.pow_succ, ih]; omega
theorem pow_neg_one {b : Int} (h : 0 ≤ b) : powOf (-1) b = (1 - b.tmod 2 * 2, true) := by
  have e : b.tmod 2 = ((b.toNat % 2 : Nat) : Int) := by rw [Int.tmod_eq_emod_of_nonneg h]; omega
  have : (-1 : Int) ^ b.toNat = 1 - b.tmod 2 * 2 := by rw [neg_one_pow, e]
  rw [pow_ok (by rw [this]; have : 0 ≤ b.tmod 2 ∧ b.tmod 2 ≤ 1 := by rw [e]; omega
                 exact inM_of (by omega) (by omega)), this]

set_option maxHeartbeats 2000000 in
theorem l4Power_any (a b : Int) (w : World) (ha : -1000000000000000 ≤ a ∧ a ≤ 1000000000000000) (hb0 : 0 ≤ b) (hb : b ≤ 1000000000000000) : Calls Tryz.prog 236 #[.int .i64 a, .int .i64 b] w fun e w' => e = .returned (.tuple #[.int .i64 (powOf a b).1, .bool (powOf a b).2]) ∧ w' = w := by
  by_cases h0 : a = 0
  · subst h0
    by_cases hz : b = 0
    · subst hz
      have HE : Hid (powOf 0 0 = (truth true, true)) := pow_zero_zero
      go_enter Tryz.func236, Tryz.ntmps236
      go_wp2_with (go_at_call 200; refine (truth_call _ _).mono ?_; rintro e w1 ⟨rfl, rfl⟩)
      go_ret2
      exact ⟨ret_ib (by rw [unhide HE]) (by rw [unhide HE]), rfl⟩
    · have HE : Hid (powOf 0 b = (truth false, true)) := pow_zero_base (by omega)
      have qz : (b == 0) = false := by simp [hz]
      go_enter Tryz.func236, Tryz.ntmps236
      go_wp2_with (go_at_call 200; refine (truth_call _ _).mono ?_; rintro e w1 ⟨rfl, rfl⟩)
      go_ret2
      exact ⟨ret_ib (by rw [unhide HE]) (by rw [unhide HE]), rfl⟩
  by_cases h1 : a = 1
  · subst h1
    have HE : Hid (powOf 1 b = (truth true, true)) := pow_one_base
    go_enter Tryz.func236, Tryz.ntmps236
    go_wp2_with (go_at_call 200; refine (truth_call _ _).mono ?_; rintro e w1 ⟨rfl, rfl⟩)
    go_ret2
    exact ⟨ret_ib (by rw [unhide HE]) (by rw [unhide HE]), rfl⟩
  have q0 : (a == 0) = false := by simp [h0]
  have q1 : (a == 1) = false := by simp [h1]
  by_cases h2 : a = -1
  · subst h2
    have HE := hide (pow_neg_one hb0)
    have hm : 0 ≤ b.tmod 2 ∧ b.tmod 2 ≤ 1 := by rw [Int.tmod_eq_emod_of_nonneg hb0]; omega
    obtain ⟨m, hm0⟩ : ∃ m, b.tmod 2 = m := ⟨_, rfl⟩
    rw [hm0] at hm HE
    obtain ⟨hm1, hm2⟩ := hm
    go_enter Tryz.func236, Tryz.ntmps236
    go_wp2
    go_ret2
    exact ⟨ret_ib (by rw [unhide HE]) (by rw [unhide HE]), rfl⟩
  have q2 : (a == -1) = false := by simp [h2]
  have h3 := hide (abs_ge_two h0 h1 h2)
  clear h0 h1 h2
  obtain ⟨n, hn⟩ : ∃ n : Nat, b = n := ⟨b.toNat, by omega⟩
  subst hn
  go_enter Tryz.func236, Tryz.ntmps236
  go_wp2
  go_loop [6, 7] (fun v i => ∃ (k : Nat) (x : Int), k ≤ n ∧ i = .int .i64 k ∧ v = .int .i64 x ∧ Hid (a ^ k = x) ∧ Hid (inM (a ^ k) = true)) (fun _ i => n - (intOf i).toNat)
  case atStart => exact ⟨0, 1, Nat.zero_le _, rfl, rfl, hide (by simp), hide (by simp [inM])⟩
  case round =>
    obtain ⟨k, x, hk, rfl, rfl, hx, hin⟩ := hrel
    have hxb : -1000000000000000 ≤ x ∧ x ≤ 1000000000000000 := by rw [← unhide hx]; exact inM_bd (unhide hin)
    by_cases hlt : k < n
    · have hps : a ^ (k + 1) = x * a := by rw [Int.pow_succ, unhide hx]
      by_cases hbig : inM (x * a) = true
      · have HT : Hid (timesOf x a = (x * a, true)) := times_ok hbig
        have hyb := inM_bd hbig
        obtain ⟨y, hy⟩ : ∃ y, x * a = y := ⟨_, rfl⟩
        rw [hy] at HT hbig hyb hps
        have HP := hide hps
        have HIN : Hid (inM (a ^ (k + 1)) = true) := by show _ = _; rw [hps]; exact hbig
        clear hy hbig hps
        go_wp2_with (go_at_call 201; refine (l4Times_eq _ _ _ hxb ha _ _ HT).mono ?_; rintro e w1 ⟨rfl, rfl⟩)
        go_round
        case rel => exact ⟨k + 1, y, by omega, by go_num, rfl, HP, HIN⟩
        case measure => simp [intOf]; omega
      · have hb' : inM (x * a) = false := by simpa using hbig
        have HT : Hid (timesOf x a = (0, false)) := times_big hb'
        have HE : Hid (powOf a n = (0, false)) := pow_big (pow_step_big (unhide h3) (k + 1) _ (by simp; omega) (by rw [hps]; exact hb'))
        clear hbig hb' hps
        go_wp2_with (go_at_call 201; refine (l4Times_eq _ _ _ hxb ha _ _ HT).mono ?_; rintro e w1 ⟨rfl, rfl⟩)
        go_ret2
        exact ⟨ret_ib (by rw [unhide HE]) (by rw [unhide HE]), rfl⟩
    · have hkn : k = n := by omega
      subst hkn
      have HE : Hid (powOf a k = (x, true)) := by show _ = _; rw [pow_ok (by simpa using unhide hin)]; simpa using unhide hx
      go_wp2
      go_ret2
      exact ⟨ret_ib (by rw [unhide HE]) (by rw [unhide HE]), rfl⟩

end Go.Proofs.YtgjpchnkodnieaaGreatDoor
namespace Go.Proofs.YtgjpchnkodnieaaGreatDoor
open Go.RowKit

theorem truth_eq (b : Bool) (w : World) (r : Int) (hr : Hid (truth b = r)) : Calls Tryz.prog 200 #[.bool b] w fun e w' => e = .returned (.int .i64 r) ∧ w' = w := by
  rw [← unhide hr]; exact truth_call b w

set_option maxHeartbeats 2000000 in
theorem l4Order_any (op a b : Int) (w : World) (hop : op = 5 ∨ op = 6 ∨ op = 9 ∨ op = 10 ∨ op = 11 ∨ op = 12 ∨ op = 13 ∨ op = 14) : Calls Tryz.prog 237 #[.int .i64 op, .int .i64 a, .int .i64 b] w fun e w' => e = .returned (.int .i64 (orderOf op a b)) ∧ w' = w := by
  have hcmp : a < b ∨ a = b ∨ b < a := by omega
  rcases hcmp with h | h | h
  · have k1 : (a == b) = false := by simp; omega
    have k2 : ¬ b < a := by omega
    have k3 : a ≤ b := by omega
    rcases hop with rfl | rfl | rfl | rfl | rfl | rfl | rfl | rfl
    all_goals
      go_enter Tryz.func237, Tryz.ntmps237
      go_wp2_with (go_at_call 200; refine (truth_call _ _).mono ?_; rintro e w1 ⟨rfl, rfl⟩)
      go_ret
      exact ⟨ret_int (by simp [orderOf, truth] <;> omega), rfl⟩
  · subst h
    rcases hop with rfl | rfl | rfl | rfl | rfl | rfl | rfl | rfl
    all_goals
      go_enter Tryz.func237, Tryz.ntmps237
      go_wp2_with (go_at_call 200; refine (truth_call _ _).mono ?_; rintro e w1 ⟨rfl, rfl⟩)
      go_ret
      exact ⟨ret_int (by simp [orderOf, truth]), rfl⟩
  · have k1 : (a == b) = false := by simp; omega
    have k2 : ¬ a < b := by omega
    have k3 : b ≤ a := by omega
    have k5 : ¬ a ≤ b := by omega
    rcases hop with rfl | rfl | rfl | rfl | rfl | rfl | rfl | rfl
    all_goals
      go_enter Tryz.func237, Tryz.ntmps237
      go_wp2_with (go_at_call 200; refine (truth_call _ _).mono ?_; rintro e w1 ⟨rfl, rfl⟩)
      go_ret
      exact ⟨ret_int (by simp [orderOf, truth] <;> omega), rfl⟩

end Go.Proofs.YtgjpchnkodnieaaGreatDoor
namespace Go.Proofs.YtgjpchnkodnieaaGreatDoor
open Go.RowKit

theorem l4In_eq (v : Int) (w : World) (r : Bool) (hr : Hid (inM v = r)) : Calls Tryz.prog 202 #[.int .i64 v] w fun e w' => e = .returned (.bool r) ∧ w' = w := by
  rw [← unhide hr]; exact l4In_any v w
theorem l4Mod_eq (a b : Int) (w : World) (ha : -1000000000000000 ≤ a ∧ a ≤ 1000000000000000) (hb : -1000000000000000 ≤ b ∧ b ≤ 1000000000000000) (r : Int) (hr : Hid (modOf a b = r)) : Calls Tryz.prog 196 #[.int .i64 a, .int .i64 b] w fun e w' => e = .returned (.int .i64 r) ∧ w' = w := by
  rw [← unhide hr]; exact l4Mod_any a b w ha hb
theorem l4Power_eq (a b : Int) (w : World) (ha : -1000000000000000 ≤ a ∧ a ≤ 1000000000000000) (hb0 : 0 ≤ b) (hb : b ≤ 1000000000000000) (r1 : Int) (r2 : Bool) (hr : Hid (powOf a b = (r1, r2))) : Calls Tryz.prog 236 #[.int .i64 a, .int .i64 b] w fun e w' => e = .returned (.tuple #[.int .i64 r1, .bool r2]) ∧ w' = w := by
  have := l4Power_any a b w ha hb0 hb
  rw [unhide hr] at this
  exact this
theorem l4Order_eq (op a b : Int) (w : World) (hop : op = 5 ∨ op = 6 ∨ op = 9 ∨ op = 10 ∨ op = 11 ∨ op = 12 ∨ op = 13 ∨ op = 14) (r : Int) (hr : Hid (orderOf op a b = r)) : Calls Tryz.prog 237 #[.int .i64 op, .int .i64 a, .int .i64 b] w fun e w' => e = .returned (.int .i64 r) ∧ w' = w := by
  rw [← unhide hr]; exact l4Order_any op a b w hop

theorem lim_ok {v : Int} (h : inM v = true) : limited (v, true) = (v, 0) := by simp [limited, h]
theorem lim_no {v : Int} (h : inM v = false) : limited (v, true) = (0, 7) := by simp [limited, h]
theorem lim_bad {v : Int} : limited (v, false) = (0, 7) := by simp [limited]

def TwoC (op a b : Int) : Prop := ∀ w : World, Calls Tryz.prog 183 #[.int .i64 op, .int .i64 a, .int .i64 b] w fun e w' => e = .returned (.tuple #[.int .i64 (twoOf op a b).1, .int .i64 (twoOf op a b).2]) ∧ w' = w

set_option maxHeartbeats 1000000 in
theorem two1 {a b : Int} (ha : -1000000000000000 ≤ a ∧ a ≤ 1000000000000000) (hb : -1000000000000000 ≤ b ∧ b ≤ 1000000000000000) : TwoC 1 a b := by
  intro w
  obtain ⟨ha1, ha2⟩ := ha
  obtain ⟨hb1, hb2⟩ := hb
  obtain ⟨r, hr⟩ : ∃ r, inM (a + b) = r := ⟨_, rfl⟩
  have HR := hide hr
  cases r with
  | true =>
    have HE : Hid (twoOf 1 a b = (a + b, 0)) := lim_ok hr
    clear hr
    go_enter Tryz.func183, Tryz.ntmps183
    go_wp2_with (go_at_call 202; refine (l4In_eq _ _ _ HR).mono ?_; rintro e w1 ⟨rfl, rfl⟩)
    go_ret2
    exact ⟨ret_two (by rw [unhide HE]) (by rw [unhide HE]), rfl⟩
  | false =>
    have HE : Hid (twoOf 1 a b = (0, 7)) := lim_no hr
    clear hr
    go_enter Tryz.func183, Tryz.ntmps183
    go_wp2_with (go_at_call 202; refine (l4In_eq _ _ _ HR).mono ?_; rintro e w1 ⟨rfl, rfl⟩)
    go_ret2
    exact ⟨ret_two (by rw [unhide HE]) (by rw [unhide HE]), rfl⟩

set_option maxHeartbeats 1000000 in
theorem two2 {a b : Int} (ha : -1000000000000000 ≤ a ∧ a ≤ 1000000000000000) (hb : -1000000000000000 ≤ b ∧ b ≤ 1000000000000000) : TwoC 2 a b := by
  intro w
  obtain ⟨ha1, ha2⟩ := ha
  obtain ⟨hb1, hb2⟩ := hb
  obtain ⟨r, hr⟩ : ∃ r, inM (a - b) = r := ⟨_, rfl⟩
  have HR := hide hr
  cases r with
  | true =>
    have HE : Hid (twoOf 2 a b = (a - b, 0)) := lim_ok hr
    clear hr
    go_enter Tryz.func183, Tryz.ntmps183
    go_wp2_with (go_at_call 202; refine (l4In_eq _ _ _ HR).mono ?_; rintro e w1 ⟨rfl, rfl⟩)
    go_ret2
    exact ⟨ret_two (by rw [unhide HE]) (by rw [unhide HE]), rfl⟩
  | false =>
    have HE : Hid (twoOf 2 a b = (0, 7)) := lim_no hr
    clear hr
    go_enter Tryz.func183, Tryz.ntmps183
    go_wp2_with (go_at_call 202; refine (l4In_eq _ _ _ HR).mono ?_; rintro e w1 ⟨rfl, rfl⟩)
    go_ret2
    exact ⟨ret_two (by rw [unhide HE]) (by rw [unhide HE]), rfl⟩

set_option maxHeartbeats 1000000 in
theorem two3 {a b : Int} (ha : -1000000000000000 ≤ a ∧ a ≤ 1000000000000000) (hb : -1000000000000000 ≤ b ∧ b ≤ 1000000000000000) : TwoC 3 a b := by
  intro w
  have HE : Hid (twoOf 3 a b = limited (timesOf a b)) := rfl
  obtain ⟨q, hq⟩ : ∃ q, timesOf a b = q := ⟨_, rfl⟩
  obtain ⟨v, ok⟩ := q
  have HQ := hide hq
  rw [hq] at HE
  clear hq
  cases ok with
  | false =>
    rw [lim_bad] at HE
    go_enter Tryz.func183, Tryz.ntmps183
    go_wp2_with (go_at_call 201; refine (l4Times_eq _ _ _ ha hb _ _ HQ).mono ?_; rintro e w1 ⟨rfl, rfl⟩)
    go_ret2
    exact ⟨ret_two (by rw [unhide HE]) (by rw [unhide HE]), rfl⟩
  | true =>
    obtain ⟨r, hr⟩ : ∃ r, inM v = r := ⟨_, rfl⟩
    have HR := hide hr
    cases r with
    | true =>
      rw [lim_ok hr] at HE
      clear hr
      go_enter Tryz.func183, Tryz.ntmps183
      go_wp2_with (first | (go_at_call 201; refine (l4Times_eq _ _ _ ha hb _ _ HQ).mono ?_; rintro e w1 ⟨rfl, rfl⟩) | (go_at_call 202; refine (l4In_eq _ _ _ HR).mono ?_; rintro e w1 ⟨rfl, rfl⟩))
      go_ret2
      exact ⟨ret_two (by rw [unhide HE]) (by rw [unhide HE]), rfl⟩
    | false =>
      rw [lim_no hr] at HE
      clear hr
      go_enter Tryz.func183, Tryz.ntmps183
      go_wp2_with (first | (go_at_call 201; refine (l4Times_eq _ _ _ ha hb _ _ HQ).mono ?_; rintro e w1 ⟨rfl, rfl⟩) | (go_at_call 202; refine (l4In_eq _ _ _ HR).mono ?_; rintro e w1 ⟨rfl, rfl⟩))
      go_ret2
      exact ⟨ret_two (by rw [unhide HE]) (by rw [unhide HE]), rfl⟩

set_option maxHeartbeats 1000000 in
theorem two4 {a b : Int} (ha : -1000000000000000 ≤ a ∧ a ≤ 1000000000000000) (hb : -1000000000000000 ≤ b ∧ b ≤ 1000000000000000) : TwoC 4 a b := by
  intro w
  obtain ⟨ha1, ha2⟩ := ha
  obtain ⟨hb1, hb2⟩ := hb
  have HE : Hid (twoOf 4 a b = (if a = 0 ∧ b = 0 then (1, 0) else if b = 0 ∨ a.tmod b ≠ 0 then (0, 3) else limited (a.tdiv b, true))) := rfl
  by_cases hz : b = 0
  · subst hz
    by_cases h0 : a = 0
    · subst h0
      rw [if_pos ⟨rfl, rfl⟩] at HE
      go_enter Tryz.func183, Tryz.ntmps183
      go_wp2
      go_ret2
      exact ⟨ret_two (by rw [unhide HE]) (by rw [unhide HE]), rfl⟩
    · rw [if_neg (fun h => h0 h.1), if_pos (.inl rfl)] at HE
      have q0 : (a == 0) = false := by simp [h0]
      go_enter Tryz.func183, Tryz.ntmps183
      go_wp2
      go_ret2
      exact ⟨ret_two (by rw [unhide HE]) (by rw [unhide HE]), rfl⟩
  have qz : (b == 0) = false := by simp [hz]
  rw [if_neg (fun h => hz h.2)] at HE
  obtain ⟨m, hm⟩ : ∃ m, a.tmod b = m := ⟨_, rfl⟩
  rw [hm] at HE
  by_cases hm0 : m = 0
  · subst hm0
    rw [if_neg (by simp [hz])] at HE
    have hd : -1000000000000000 ≤ a.tdiv b ∧ a.tdiv b ≤ 1000000000000000 := by
      have h1 := Int.natAbs_tdiv_le_natAbs a b
      omega
    obtain ⟨v, hv⟩ : ∃ v, a.tdiv b = v := ⟨_, rfl⟩
    rw [hv] at HE hd
    rw [lim_ok (inM_of hd.1 hd.2)] at HE
    obtain ⟨hd1, hd2⟩ := hd
    have HR : Hid (inM v = true) := inM_of hd1 hd2
    by_cases h0 : a = 0
    · subst h0
      have hv0 : v = 0 := by rw [← hv]; simp
      subst hv0
      clear hv hm
      go_enter Tryz.func183, Tryz.ntmps183
      go_wp2_with (go_at_call 202; refine (l4In_eq _ _ _ HR).mono ?_; rintro e w1 ⟨rfl, rfl⟩)
      go_ret2
      exact ⟨ret_two (by rw [unhide HE]) (by rw [unhide HE]), rfl⟩
    · have q0 : (a == 0) = false := by simp [h0]
      go_enter Tryz.func183, Tryz.ntmps183
      go_wp2_with (go_at_call 202; refine (l4In_eq _ _ _ HR).mono ?_; rintro e w1 ⟨rfl, rfl⟩)
      go_ret2
      exact ⟨ret_two (by rw [unhide HE]) (by rw [unhide HE]), rfl⟩
  · rw [if_pos (.inr hm0)] at HE
    have qm : (m != 0) = true := by simp [hm0]
    have h0 : ¬ a = 0 := by rintro rfl; simp at hm; exact hm0 hm.symm
    have q0 : (a == 0) = false := by simp [h0]
    go_enter Tryz.func183, Tryz.ntmps183
    go_wp2
    go_ret2
    exact ⟨ret_two (by rw [unhide HE]) (by rw [unhide HE]), rfl⟩

set_option maxHeartbeats 1000000 in
theorem two7 {a b : Int} (ha : -1000000000000000 ≤ a ∧ a ≤ 1000000000000000) (hb : -1000000000000000 ≤ b ∧ b ≤ 1000000000000000) : TwoC 7 a b := by
  intro w
  have HE : Hid (twoOf 7 a b = limited (modOf a b, true)) := rfl
  obtain ⟨v, hv⟩ : ∃ v, modOf a b = v := ⟨_, rfl⟩
  have HV := hide hv
  rw [hv] at HE
  clear hv
  obtain ⟨r, hr⟩ : ∃ r, inM v = r := ⟨_, rfl⟩
  have HR := hide hr
  cases r with
  | true =>
    rw [lim_ok hr] at HE
    clear hr
    go_enter Tryz.func183, Tryz.ntmps183
    go_wp2_with (first | (go_at_call 196; refine (l4Mod_eq _ _ _ ha hb _ HV).mono ?_; rintro e w1 ⟨rfl, rfl⟩) | (go_at_call 202; refine (l4In_eq _ _ _ HR).mono ?_; rintro e w1 ⟨rfl, rfl⟩))
    go_ret2
    exact ⟨ret_two (by rw [unhide HE]) (by rw [unhide HE]), rfl⟩
  | false =>
    rw [lim_no hr] at HE
    clear hr
    go_enter Tryz.func183, Tryz.ntmps183
    go_wp2_with (first | (go_at_call 196; refine (l4Mod_eq _ _ _ ha hb _ HV).mono ?_; rintro e w1 ⟨rfl, rfl⟩) | (go_at_call 202; refine (l4In_eq _ _ _ HR).mono ?_; rintro e w1 ⟨rfl, rfl⟩))
    go_ret2
    exact ⟨ret_two (by rw [unhide HE]) (by rw [unhide HE]), rfl⟩

set_option maxHeartbeats 1000000 in
theorem two8 {a b : Int} (ha : -1000000000000000 ≤ a ∧ a ≤ 1000000000000000) (hb : -1000000000000000 ≤ b ∧ b ≤ 1000000000000000) : TwoC 8 a b := by
  intro w
  have HE : Hid (twoOf 8 a b = (if b < 0 then (0, 3) else limited (powOf a b))) := rfl
  by_cases hn : b < 0
  · rw [if_pos hn] at HE
    go_enter Tryz.func183, Tryz.ntmps183
    go_wp2
    go_ret2
    exact ⟨ret_two (by rw [unhide HE]) (by rw [unhide HE]), rfl⟩
  rw [if_neg hn] at HE
  obtain ⟨q, hq⟩ : ∃ q, powOf a b = q := ⟨_, rfl⟩
  obtain ⟨v, ok⟩ := q
  have HQ := hide hq
  rw [hq] at HE
  clear hq
  cases ok with
  | false =>
    rw [lim_bad] at HE
    go_enter Tryz.func183, Tryz.ntmps183
    go_wp2_with (go_at_call 236; refine (l4Power_eq _ _ _ ha (by omega) hb.2 _ _ HQ).mono ?_; rintro e w1 ⟨rfl, rfl⟩)
    go_ret2
    exact ⟨ret_two (by rw [unhide HE]) (by rw [unhide HE]), rfl⟩
  | true =>
    obtain ⟨r, hr⟩ : ∃ r, inM v = r := ⟨_, rfl⟩
    have HR := hide hr
    cases r with
    | true =>
      rw [lim_ok hr] at HE
      clear hr
      go_enter Tryz.func183, Tryz.ntmps183
      go_wp2_with (first | (go_at_call 236; refine (l4Power_eq _ _ _ ha (by omega) hb.2 _ _ HQ).mono ?_; rintro e w1 ⟨rfl, rfl⟩) | (go_at_call 202; refine (l4In_eq _ _ _ HR).mono ?_; rintro e w1 ⟨rfl, rfl⟩))
      go_ret2
      exact ⟨ret_two (by rw [unhide HE]) (by rw [unhide HE]), rfl⟩
    | false =>
      rw [lim_no hr] at HE
      clear hr
      go_enter Tryz.func183, Tryz.ntmps183
      go_wp2_with (first | (go_at_call 236; refine (l4Power_eq _ _ _ ha (by omega) hb.2 _ _ HQ).mono ?_; rintro e w1 ⟨rfl, rfl⟩) | (go_at_call 202; refine (l4In_eq _ _ _ HR).mono ?_; rintro e w1 ⟨rfl, rfl⟩))
      go_ret2
      exact ⟨ret_two (by rw [unhide HE]) (by rw [unhide HE]), rfl⟩

end Go.Proofs.YtgjpchnkodnieaaGreatDoor
