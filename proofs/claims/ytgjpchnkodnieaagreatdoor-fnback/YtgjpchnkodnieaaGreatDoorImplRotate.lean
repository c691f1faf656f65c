import Derived.Test.YtgjpchnkodnieaaGreatDoorMFit2
import Derived.Test.YtgjpchnkodnieaaGreatDoorImplRotC
import Derived.Test.YtgjpchnkodnieaaGreatDoorMFit2
import Derived.Test.YtgjpchnkodnieaaGreatDoorMFit2
import Derived.Test.YtgjpchnkodnieaaGreatDoorMFit2
import Derived.Deep.RegionHeld3
import Derived.Deep.DeepCutAuto
namespace Go.Proofs.YtgjpchnkodnieaaGreatDoor
open Go.RowKit Go.Shelf

set_option maxRecDepth 20000 in
set_option maxHeartbeats 4000000 in
theorem implRotate_bad1 (c d : Bool) (a1 a2 b1 b2 : Option Addr) (n1 n2 m1 m2 c1 c2 d1 d2 : Nat) (sh dt : List Int) (fl : Bool) (w : World) (h1 : Row w a1 n1 sh) (h2 : Row w a2 n2 dt) (hok : arrOk c sh dt = false) :
    Calls Tryz.prog 17 #[.agg #[.bool c, .slice a1 n1 c1, .slice a2 n2 c2], .agg #[.bool d, .slice b1 m1 d1, .slice b2 m2 d2], .bool fl] w (GivesOwn w (noAns 3)) := by
  have HR := hide hok
  have H1 := hide h1
  have H2 := hide h2
  clear h1 h2 hok
  go_enter Tryz.func17, Tryz.ntmps17
  go_wp2_with (first | (go_at_call_of 51 (Value.slice a1 n1 c1); refine (implArrayOk_eq _ _ _ _ _ _ _ sh dt _ ((((unhide H1).alloc _).alloc _).alloc _) ((((unhide H2).alloc _).alloc _).alloc _) _ HR).mono ?_; rintro e w1 ⟨rfl, hb1⟩; obtain ⟨B0, B1, B2, hB1⟩ := boxes3 hb1; have HB0 := hide B0; have HB1 := hide B1; have HB2 := hide B2; have HB := hide hB1; obtain ⟨x0, x1, x2, x3, x4, x5, x6⟩ := B0.all; obtain ⟨y0, y1, y2, y3, y4, y5, y6⟩ := B1.all; obtain ⟨q0, q1, q2, q3, q4, q5, q6⟩ := B2.all; clear hb1 hB1 B0 B1 B2))
  refine bodyPost_ret (v := .tuple #[.agg #[.bool false, .slice none 0 0, .slice none 0 0], .int .i64 3]) (by simp [results, Tryz.results17, go_sem, q0, q1, q2]) rfl ?_
  exact gives_none ((((unhide HB).setCell (by simp <;> omega) _).setCell (by simp <;> omega) _).setCell (by simp <;> omega) _)

set_option maxRecDepth 20000 in
set_option maxHeartbeats 4000000 in
theorem implRotate_bad2 (c d : Bool) (a1 a2 b1 b2 : Option Addr) (n1 n2 m1 m2 c1 c2 d1 d2 : Nat) (sh dt sh' dt' : List Int) (fl : Bool) (w : World) (h1 : Row w a1 n1 sh) (h2 : Row w a2 n2 dt) (k1 : Row w b1 m1 sh') (k2 : Row w b2 m2 dt') (hok : arrOk c sh dt = true) (hok' : arrOk d sh' dt' = false) :
    Calls Tryz.prog 17 #[.agg #[.bool c, .slice a1 n1 c1, .slice a2 n2 c2], .agg #[.bool d, .slice b1 m1 d1, .slice b2 m2 d2], .bool fl] w (GivesOwn w (noAns 3)) := by
  have HR := hide hok
  have HR' := hide hok'
  have hs2 := h2.small
  have hs4 := k2.small
  have H1 := hide h1
  have H2 := hide h2
  have K1 := hide k1
  have K2 := hide k2
  clear h1 h2 k1 k2 hok hok'
  go_enter Tryz.func17, Tryz.ntmps17
  go_wp2_with (first | (go_at_call_of 51 (Value.slice a1 n1 c1); refine (implArrayOk_eq _ _ _ _ _ _ _ sh dt _ ((((unhide H1).alloc _).alloc _).alloc _) ((((unhide H2).alloc _).alloc _).alloc _) _ HR).mono ?_; rintro e w1 ⟨rfl, hb1⟩; obtain ⟨B0, B1, B2, hB1⟩ := boxes3 hb1; have HB0 := hide B0; have HB1 := hide B1; have HB2 := hide B2; have HB := hide hB1; obtain ⟨x0, x1, x2, x3, x4, x5, x6⟩ := B0.all; obtain ⟨y0, y1, y2, y3, y4, y5, y6⟩ := B1.all; obtain ⟨q0, q1, q2, q3, q4, q5, q6⟩ := B2.all; clear hb1 hB1 B0 B1 B2) | (go_at_call_of 51 (Value.slice b1 m1 d1); refine (implArrayOk_eq _ _ _ _ _ _ _ sh' dt' _ ((unhide K1).below (Nat.le_refl _) (unhide HB)) ((unhide K2).below (Nat.le_refl _) (unhide HB)) _ HR').mono ?_; rintro e w2 ⟨rfl, hb2⟩; have HB0' := hide ((unhide HB0).below (Nat.le_refl _) hb2); have HB1' := hide ((unhide HB1).below (Nat.le_refl _) hb2); have HB2' := hide ((unhide HB2).below (Nat.le_refl _) hb2); have HC := hide ((unhide HB).trans (hb2.mono (by omega))); clear hb2 x0 x1 x2 x3 x4 x5 x6 y0 y1 y2 y3 y4 y5 y6 q0 q1 q2 q3 q4 q5 q6 HB0 HB1 HB2 HB; obtain ⟨x0, x1, x2, x3, x4, x5, x6⟩ := (unhide HB0').all; obtain ⟨y0, y1, y2, y3, y4, y5, y6⟩ := (unhide HB1').all; obtain ⟨q0, q1, q2, q3, q4, q5, q6⟩ := (unhide HB2').all))
  refine bodyPost_ret (v := .tuple #[.agg #[.bool false, .slice none 0 0, .slice none 0 0], .int .i64 3]) (by simp [results, Tryz.results17, go_sem, q0, q1, q2]) rfl ?_
  exact gives_none ((((unhide HC).setCell (by simp <;> omega) _).setCell (by simp <;> omega) _).setCell (by simp <;> omega) _)

set_option maxRecDepth 20000 in
set_option maxHeartbeats 4000000 in
theorem implRotate_len (c d : Bool) (a1 a2 b1 b2 : Option Addr) (n1 n2 m1 m2 c1 c2 d1 d2 : Nat) (sh dt sh' dt' : List Int) (fl : Bool) (w : World) (h1 : Row w a1 n1 sh) (h2 : Row w a2 n2 dt) (k1 : Row w b1 m1 sh') (k2 : Row w b2 m2 dt') (hok : arrOk c sh dt = true) (hok' : arrOk d sh' dt' = true) (hne : n2 ≠ 1) :
    Calls Tryz.prog 17 #[.agg #[.bool c, .slice a1 n1 c1, .slice a2 n2 c2], .agg #[.bool d, .slice b1 m1 d1, .slice b2 m2 d2], .bool fl] w (GivesOwn w (noAns 5)) := by
  have HR := hide hok
  have HR' := hide hok'
  have hs2 := h2.small
  have hs4 := k2.small
  have H1 := hide h1
  have H2 := hide h2
  have K1 := hide k1
  have K2 := hide k2
  clear h1 h2 k1 k2 hok hok'
  have q : ((n2 : Int) != 1) = true := by simp; omega
  go_enter Tryz.func17, Tryz.ntmps17
  go_wp2_with (first | (go_at_call_of 51 (Value.slice a1 n1 c1); refine (implArrayOk_eq _ _ _ _ _ _ _ sh dt _ ((((unhide H1).alloc _).alloc _).alloc _) ((((unhide H2).alloc _).alloc _).alloc _) _ HR).mono ?_; rintro e w1 ⟨rfl, hb1⟩; obtain ⟨B0, B1, B2, hB1⟩ := boxes3 hb1; have HB0 := hide B0; have HB1 := hide B1; have HB2 := hide B2; have HB := hide hB1; obtain ⟨x0, x1, x2, x3, x4, x5, x6⟩ := B0.all; obtain ⟨y0, y1, y2, y3, y4, y5, y6⟩ := B1.all; obtain ⟨q0, q1, q2, q3, q4, q5, q6⟩ := B2.all; clear hb1 hB1 B0 B1 B2) | (go_at_call_of 51 (Value.slice b1 m1 d1); refine (implArrayOk_eq _ _ _ _ _ _ _ sh' dt' _ ((unhide K1).below (Nat.le_refl _) (unhide HB)) ((unhide K2).below (Nat.le_refl _) (unhide HB)) _ HR').mono ?_; rintro e w2 ⟨rfl, hb2⟩; have HB0' := hide ((unhide HB0).below (Nat.le_refl _) hb2); have HB1' := hide ((unhide HB1).below (Nat.le_refl _) hb2); have HB2' := hide ((unhide HB2).below (Nat.le_refl _) hb2); have HC := hide ((unhide HB).trans (hb2.mono (by omega))); clear hb2 x0 x1 x2 x3 x4 x5 x6 y0 y1 y2 y3 y4 y5 y6 q0 q1 q2 q3 q4 q5 q6 HB0 HB1 HB2 HB; obtain ⟨x0, x1, x2, x3, x4, x5, x6⟩ := (unhide HB0').all; obtain ⟨y0, y1, y2, y3, y4, y5, y6⟩ := (unhide HB1').all; obtain ⟨q0, q1, q2, q3, q4, q5, q6⟩ := (unhide HB2').all))
  refine bodyPost_ret (v := .tuple #[.agg #[.bool false, .slice none 0 0, .slice none 0 0], .int .i64 5]) (by simp [results, Tryz.results17, go_sem, q0, q1, q2]) rfl ?_
  exact gives_none ((((unhide HC).setCell (by simp <;> omega) _).setCell (by simp <;> omega) _).setCell (by simp <;> omega) _)

set_option maxRecDepth 20000 in
set_option maxHeartbeats 4000000 in
theorem implRotate_dom (d : Bool) (a1 a2 b1 b2 : Option Addr) (n1 n2 m1 m2 c1 c2 d1 d2 : Nat) (sh dt sh' dt' : List Int) (fl : Bool) (w : World) (h1 : Row w a1 n1 sh) (h2 : Row w a2 n2 dt) (k1 : Row w b1 m1 sh') (k2 : Row w b2 m2 dt') (hok : arrOk true sh dt = true) (hok' : arrOk d sh' dt' = true) (hne : n2 = 1) :
    Calls Tryz.prog 17 #[.agg #[.bool true, .slice a1 n1 c1, .slice a2 n2 c2], .agg #[.bool d, .slice b1 m1 d1, .slice b2 m2 d2], .bool fl] w (GivesOwn w (noAns 3)) := by
  subst hne
  have HR := hide hok
  have HR' := hide hok'
  have hs2 := h2.small
  have hs4 := k2.small
  have H1 := hide h1
  have H2 := hide h2
  have K1 := hide k1
  have K2 := hide k2
  clear h1 h2 k1 k2 hok hok'
  go_enter Tryz.func17, Tryz.ntmps17
  go_wp2_with (first | (go_at_call_of 51 (Value.slice a1 n1 c1); refine (implArrayOk_eq _ _ _ _ _ _ _ sh dt _ ((((unhide H1).alloc _).alloc _).alloc _) ((((unhide H2).alloc _).alloc _).alloc _) _ HR).mono ?_; rintro e w1 ⟨rfl, hb1⟩; obtain ⟨B0, B1, B2, hB1⟩ := boxes3 hb1; have HB0 := hide B0; have HB1 := hide B1; have HB2 := hide B2; have HB := hide hB1; obtain ⟨x0, x1, x2, x3, x4, x5, x6⟩ := B0.all; obtain ⟨y0, y1, y2, y3, y4, y5, y6⟩ := B1.all; obtain ⟨q0, q1, q2, q3, q4, q5, q6⟩ := B2.all; clear hb1 hB1 B0 B1 B2) | (go_at_call_of 51 (Value.slice b1 m1 d1); refine (implArrayOk_eq _ _ _ _ _ _ _ sh' dt' _ ((unhide K1).below (Nat.le_refl _) (unhide HB)) ((unhide K2).below (Nat.le_refl _) (unhide HB)) _ HR').mono ?_; rintro e w2 ⟨rfl, hb2⟩; have HB0' := hide ((unhide HB0).below (Nat.le_refl _) hb2); have HB1' := hide ((unhide HB1).below (Nat.le_refl _) hb2); have HB2' := hide ((unhide HB2).below (Nat.le_refl _) hb2); have HC := hide ((unhide HB).trans (hb2.mono (by omega))); clear hb2 x0 x1 x2 x3 x4 x5 x6 y0 y1 y2 y3 y4 y5 y6 q0 q1 q2 q3 q4 q5 q6 HB0 HB1 HB2 HB; obtain ⟨x0, x1, x2, x3, x4, x5, x6⟩ := (unhide HB0').all; obtain ⟨y0, y1, y2, y3, y4, y5, y6⟩ := (unhide HB1').all; obtain ⟨q0, q1, q2, q3, q4, q5, q6⟩ := (unhide HB2').all))
  refine bodyPost_ret (v := .tuple #[.agg #[.bool false, .slice none 0 0, .slice none 0 0], .int .i64 3]) (by simp [results, Tryz.results17, go_sem, q0, q1, q2]) rfl ?_
  exact gives_none ((((unhide HC).setCell (by simp <;> omega) _).setCell (by simp <;> omega) _).setCell (by simp <;> omega) _)

set_option maxRecDepth 20000 in
set_option maxHeartbeats 4000000 in
theorem implRotate_good (d : Bool) (a1 a2 b1 b2 : Option Addr) (n1 m1 m2 c1 c2 d1 d2 : Nat) (sh dt sh' dt' : List Int) (fl : Bool) (w : World) (h1 : Row w a1 n1 sh) (h2 : Row w a2 1 dt) (k1 : Row w b1 m1 sh') (k2 : Row w b2 m2 dt') (hok : arrOk false sh dt = true) (hok' : arrOk d sh' dt' = true) (z : Int) (hz : (if fl then 0 else (m1 : Int) - 1) = z) :
    Calls Tryz.prog 17 #[.agg #[.bool false, .slice a1 n1 c1, .slice a2 1 c2], .agg #[.bool d, .slice b1 m1 d1, .slice b2 m2 d2], .bool fl] w (GivesOwn w ⟨d, sh', vals (gatherAt d sh' dt' (rotF sh' z (dt.getD 0 0)) sh') m2, 0⟩) := by
  obtain ⟨hin, hpr, h5⟩ := shapeIn_of hok'
  have hxb := dataOk_bd hok (k := 0) (by rw [h2.len]; omega)
  have hl2 := k2.len
  have hl1 := k1.len
  rw [hl2] at hpr
  rw [hl1] at h5
  have HR := hide hok
  have HR' := hide hok'
  have HZ : Hid ((if fl then 0 else (m1 : Int) - 1) = z) := hz
  have HZM : Hid (0 < m1 → 0 ≤ z ∧ z < m1) := fun h => by rw [← hz]; split <;> omega
  have hs4 := k2.small
  have H1 := hide h1
  have H2 := hide h2
  have K1 := hide k1
  have K2 := hide k2
  have HIN := hide hin
  have HPR := hide hpr
  have HXB := hide hxb
  clear h1 h2 k1 k2 hok hok' hin hpr hxb hl1 hl2 hz
  go_enter Tryz.func17, Tryz.ntmps17
  go_upto_region 8 with (first | (go_at_call_of 51 (Value.slice a1 n1 c1); refine (implArrayOk_eq _ _ _ _ _ _ _ sh dt _ ((((unhide H1).alloc _).alloc _).alloc _) ((((unhide H2).alloc _).alloc _).alloc _) _ HR).mono ?_; rintro e w1 ⟨rfl, hb1⟩; obtain ⟨B0, B1, B2, hB1⟩ := boxes3 hb1; have HB0 := hide B0; have HB1 := hide B1; have HB2 := hide B2; have HB := hide hB1; obtain ⟨x0, x1, x2, x3, x4, x5, x6⟩ := B0.all; obtain ⟨y0, y1, y2, y3, y4, y5, y6⟩ := B1.all; obtain ⟨q0, q1, q2, q3, q4, q5, q6⟩ := B2.all; clear hb1 hB1 B0 B1 B2) | (go_at_call_of 51 (Value.slice b1 m1 d1); refine (implArrayOk_eq _ _ _ _ _ _ _ sh' dt' _ ((unhide K1).below (Nat.le_refl _) (unhide HB)) ((unhide K2).below (Nat.le_refl _) (unhide HB)) _ HR').mono ?_; rintro e w2 ⟨rfl, hb2⟩; have HB0' := hide ((unhide HB0).below (Nat.le_refl _) hb2); have HB1' := hide ((unhide HB1).below (Nat.le_refl _) hb2); have HB2' := hide ((unhide HB2).below (Nat.le_refl _) hb2); have HC := hide ((unhide HB).trans (hb2.mono (by omega))); clear hb2 x0 x1 x2 x3 x4 x5 x6 y0 y1 y2 y3 y4 y5 y6 q0 q1 q2 q3 q4 q5 q6 HB0 HB1 HB2 HB; obtain ⟨x0, x1, x2, x3, x4, x5, x6⟩ := (unhide HB0').all; obtain ⟨y0, y1, y2, y3, y4, y5, y6⟩ := (unhide HB1').all; obtain ⟨q0, q1, q2, q3, q4, q5, q6⟩ := (unhide HB2').all) | (go_at_call 62; refine (axisAt_int _ m1 d1 fl _ (by omega) z HZ).mono ?_; rintro e w' ⟨rfl, hw⟩; obtain rfl := hw.symm))
  obtain ⟨pt, hpt⟩ : ∃ pt, pt = w2.heap.size := ⟨_, rfl⟩
  obtain ⟨bx, hbx⟩ : ∃ bx, bx = w.heap.size + 1 + 1 := ⟨_, rfl⟩
  obtain ⟨wz, hwz⟩ : ∃ wz, wz = w2.alloc (.cells #[.int .i64 z] 3) := ⟨_, rfl⟩
  have hzz : pt < wz.heap.size := by rw [hwz, hpt]; simp
  have hzb : bx < pt := by rw [hbx, hpt]; exact q6
  have HZ0 : Hid (Box wz w.heap.size false (.slice a1 n1 c1) (.slice a2 1 c2)) := by rw [hwz]; exact (unhide HB0').alloc _
  have HZ1 : Hid (Box wz (w.heap.size + 1) d (.slice b1 m1 d1) (.slice b2 m2 d2)) := by rw [hwz]; exact (unhide HB1').alloc _
  have HZ2 : Hid (Box wz bx false (.slice none 0 0) (.slice none 0 0)) := by rw [hwz, hbx]; exact (unhide HB2').alloc _
  have HZT : Hid (wz.cell? ⟨pt, 0, none⟩ = some (.int .i64 z)) := by
    have h3 := World.alloc_heap_new w2 (.cells #[.int .i64 z] 3)
    rw [← hwz, ← hpt] at h3
    show _ = _
    simp [World.cell?, h3]
  have HBZ : Hid (Below w.heap.size w wz) := by rw [hwz]; exact (unhide HC).alloc (by omega) _
  rw [← hwz, ← hpt, ← hbx]
  clear hwz hpt HB0' HB1' HB2' HC x0 x1 x2 x3 x4 x5 x6 y0 y1 y2 y3 y4 y5 y6 q0 q1 q2 q3 q4 q5 q6 HR HR'
  have K1Z := hide ((unhide K1).below (Nat.le_refl _) (unhide HBZ))
  have K2Z := hide ((unhide K2).below (Nat.le_refl _) (unhide HBZ))
  have H2Z := hide ((unhide H2).below (Nat.le_refl _) (unhide HBZ))
  clear H1 H2 K1 K2
  go_cut [7] (fun v wx => v = .int .i64 0 ∧ Res5 w d sh' (vals (gatherAt d sh' dt' (rotF sh' z (dt.getD 0 0)) sh') m2) m1 m2 bx wx)
  case first =>
    have HKEEP : ∀ wx, But (fun k => k = bx) wz wx → wx.cell? ⟨w.heap.size + 1, 0, none⟩ = some (.bool d) ∧ wx.cell? ⟨w.heap.size + 1, 1, none⟩ = some (.slice b1 m1 d1) ∧ wx.cell? ⟨w.heap.size + 1, 2, none⟩ = some (.slice b2 m2 d2) ∧ wx.cell? ⟨pt, 0, none⟩ = some (.int .i64 z) := fun wx hwx => by
      obtain ⟨y0, y1, y2, _, _, _⟩ := (unhide HZ1).all
      exact ⟨(hwx.cellAt (by omega) (by omega)).trans y0, (hwx.cellAt (by omega) (by omega)).trans y1, (hwx.cellAt (by omega) (by omega)).trans y2, (hwx.cellAt (by omega) (by omega)).trans (unhide HZT)⟩
    obtain ⟨y0, y1, y2, y3⟩ := HKEEP _ (But.refl _ _)
    obtain ⟨r0, r1, r2, r3, r4, r5, r6⟩ := (unhide HZ2).all
    have hwb : w.heap.size + 1 < bx := by omega
    clear hbx
    go_region_held3 (fun wx => wx.cell? ⟨w.heap.size + 1, 0, none⟩ = some (.bool d) ∧ wx.cell? ⟨w.heap.size + 1, 1, none⟩ = some (.slice b1 m1 d1) ∧ wx.cell? ⟨w.heap.size + 1, 2, none⟩ = some (.slice b2 m2 d2) ∧ wx.cell? ⟨pt, 0, none⟩ = some (.int .i64 z)) (first | exact HKEEP _ ((((But.of_below (S := fun k => k = bx) (unhide HKG)).setCell (p := ⟨bx, 0, none⟩) rfl _).setCell (p := ⟨bx, 1, none⟩) rfl _).setCell (p := ⟨bx, 2, none⟩) rfl _) | exact HKEEP _ (But.of_below (unhide HKG)) | exact HKEEP _ (But.of_below (unhide HKB)) | exact HKEEP _ (But.of_below (unhide HKC)) | exact HKEEP _ (But.of_below (unhide HKO)) | exact HKEEP _ (But.refl _ _).drew)
      (first
      | (go_at_call 63; (first | (have hP := unhide HKO) | (have hP : Below wz.heap.size wz wz.drew := (Below.refl _ wz).drew)); refine (Clone_opt b1 m1 d1 sh' _ ((unhide K1Z).below (Nat.le_refl _) hP)).mono ?_; rintro e wC ⟨ash, csh, rfl, hcap, hO, hbC⟩; have HKC : Hid (Below wz.heap.size wz wC) := hP.trans (hbC.mono hP.size); have HKB := HKC; have HO := hide (hO.mono hP.size); have HOH : Hid (∀ x, At ash m1 x → x < wC.heap.size) := (fun x hx => hO.row.hi hx); (first | (have HA2 : Hid (wC.cell? ⟨wz.heap.size, 0, none⟩ = some (.int .i64 z) ∧ wC.cell? ⟨wz.heap.size + 1, 0, none⟩ = some (.func (.func 65) #[] #[.pointer (some ⟨w.heap.size, 0, none⟩), .pointer (some ⟨w.heap.size + 1, 0, none⟩), .pointer (some ⟨pt, 0, none⟩)])) := ⟨(hbC.cell (p := ⟨wz.heap.size, 0, none⟩) (World.block_lt_of_cell? _ _ (unhide HA1).1)).trans (unhide HA1).1, (hbC.cell (p := ⟨wz.heap.size + 1, 0, none⟩) (World.block_lt_of_cell? _ _ (unhide HA1).2)).trans (unhide HA1).2⟩) | skip); clear hcap hO hbC r0 r1 r2 r3 r4 r5 r6 y0 y1 y2 y3; obtain ⟨y0, y1, y2, y3⟩ := HKEEP _ (But.of_below (unhide HKC)); obtain ⟨r0, r1, r2, r3, r4, r5, r6⟩ := ((unhide HZ2).below (Nat.le_refl _) (unhide HKC)).all)
      | (go_at_call 64; refine (onAxis_int z _ _ 65 #[.pointer (some ⟨w.heap.size, 0, none⟩), .pointer (some ⟨w.heap.size + 1, 0, none⟩), .pointer (some ⟨pt, 0, none⟩)] rfl).mono ?_; rintro e wO ⟨rfl, hwO⟩; (first | (have HKB : Hid (Below wz.heap.size wz wO) := (by rw [hwO]; exact (((unhide HKC).alloc (unhide HKC).size _).alloc (by have := (unhide HKC).size; simp; omega) _)); have HA2 : Hid (wO.cell? ⟨wC.heap.size, 0, none⟩ = some (.int .i64 z) ∧ wO.cell? ⟨wC.heap.size + 1, 0, none⟩ = some (.func (.func 65) #[] #[.pointer (some ⟨w.heap.size, 0, none⟩), .pointer (some ⟨w.heap.size + 1, 0, none⟩), .pointer (some ⟨pt, 0, none⟩)])) := (by rw [hwO]; exact two_cellsR wC _ _); have HO := hide (show Own wO wz.heap.size ash m1 sh' by rw [hwO]; exact ((unhide HO).alloc _).alloc _); have HOH : Hid (∀ x, At ash m1 x → x < wO.heap.size) := (fun x hx => by have := unhide HOH x hx; rw [hwO]; simp; omega)) | (have HKO : Hid (Below wz.heap.size wz wO) := (by rw [hwO]; exact (((Below.refl _ wz).drew.alloc (Nat.le_refl _) _).alloc (by simp) _)); have HA1 : Hid (wO.cell? ⟨wz.heap.size, 0, none⟩ = some (.int .i64 z) ∧ wO.cell? ⟨wz.heap.size + 1, 0, none⟩ = some (.func (.func 65) #[] #[.pointer (some ⟨w.heap.size, 0, none⟩), .pointer (some ⟨w.heap.size + 1, 0, none⟩), .pointer (some ⟨pt, 0, none⟩)])) := (by rw [hwO]; exact two_cellsR wz.drew _ _); have HKB := HKO)); clear hwO r0 r1 r2 r3 r4 r5 r6 y0 y1 y2 y3; obtain ⟨y0, y1, y2, y3⟩ := HKEEP _ (But.of_below (unhide HKB)); obtain ⟨r0, r1, r2, r3, r4, r5, r6⟩ := ((unhide HZ2).below (Nat.le_refl _) (unhide HKB)).all)
      | (go_at_call 59; refine (gathered_any d b1 b2 ash m1 m2 d1 d2 m1 csh sh' dt' sh' 152 _ eg_onAxis (rotF sh' z (dt.getD 0 0)) _ m2 ((unhide K1Z).below (Nat.le_refl _) (unhide HKB)) ((unhide K2Z).below (Nat.le_refl _) (unhide HKB)) (unhide HO).row (unhide HIN) (unhide HIN) h5 (unhide HPR) (unhide HPR) (rotClo _ _ pt w.heap.size (w.heap.size + 1) z _ false d _ _ a2 b1 c2 m1 d1 sh' dt _ (unhide HA2).1 (unhide HA2).2 (((unhide HKB).cell (p := ⟨pt, 0, none⟩) hzz).trans (unhide HZT)) (unhide HZM) ((unhide HZ0).below (Nat.le_refl _) (unhide HKB)) ((unhide HZ1).below (Nat.le_refl _) (unhide HKB)) ((unhide H2Z).below (Nat.le_refl _) (unhide HKB)) rfl (unhide HXB) ((unhide K1Z).below (Nat.le_refl _) (unhide HKB)) (unhide HIN))).mono ?_; rintro e wG ⟨gd, rfl, hgd, hBG, hbG⟩; have HKG : Hid (Below wz.heap.size wz wG) := (unhide HKB).trans (hbG.mono (unhide HKB).size); have HBG := hide hBG; have HGD := hide hgd; have HOG := hide ((unhide HO).below (Nat.le_refl _) hbG); have HKS := hide ((unhide HKB).size); clear hgd hBG hbG r0 r1 r2 r3 r4 r5 r6 y0 y1 y2 y3; obtain ⟨y0, y1, y2, y3⟩ := HKEEP _ (But.of_below (unhide HKG)); obtain ⟨r0, r1, r2, r3, r4, r5, r6⟩ := ((unhide HZ2).below (Nat.le_refl _) (unhide HKG)).all))
    all_goals go_wp2_with fail
    all_goals (go_meet; case rel => exact ⟨rfl, Res5.set ((unhide HZ2).below (Nat.le_refl _) (unhide HKG)) ((unhide HOG).mono (by have := (unhide HBZ).size; omega)) (by have := unhide HGD; have := unhide HKS; omega) (unhide HBG) (fun h => by have := unhide HOH _ h; have := unhide HGD; omega) ((unhide HBZ).trans ((unhide HKG).mono (unhide HBZ).size)) (fun h => by have := (unhide HO).low h; omega) (by have := unhide HGD; have := unhide HKS; omega) (by omega)⟩)
  case rest =>
    obtain ⟨w3, hw3⟩ : ∃ x, x = wc := ⟨_, rfl⟩
    subst hw3
    obtain ⟨rfl, ash, csh, gd, hb, hO, hgd, hB, hne, hbl⟩ := hcut
    obtain ⟨q0, q1, q2, q3, q4, q5, q6⟩ := hb.all
    clear hb
    go_wp2_with fail
    refine bodyPost_ret (v := .tuple #[.agg #[.bool d, .slice ash m1 csh, .slice (some ⟨gd, 0, none⟩) m2 m2], .int .i64 0]) (by simp [results, Tryz.results17, go_sem, q0, q1, q2]) rfl ?_
    exact gives_res (by simp [vals]) hs4 hO hgd hB hne hbl

end Go.Proofs.YtgjpchnkodnieaaGreatDoor
