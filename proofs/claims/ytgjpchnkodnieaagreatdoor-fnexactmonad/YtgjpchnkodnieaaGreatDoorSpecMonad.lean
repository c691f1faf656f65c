import Derived.Test.YtgjpchnkodnieaaGreatDoorSpecMonA
namespace Go.Proofs.YtgjpchnkodnieaaGreatDoor
open Go.RowKit

theorem row_drew {w : World} {a : Option Addr} {n : Nat} {zs : List Int} (h : Row w a n zs) : Row w.drew a n zs := h.below (Nat.le_refl _) (Below.refl _ _).drew

set_option maxRecDepth 20000 in
set_option maxHeartbeats 8000000 in
theorem Monad_20 (c : Bool) (a1 a2 : Addr) (n1 n2 c1 c2 : Nat) (sh dt : List Int) (w : World) (h1 : Row w (some a1) n1 sh) (h2 : Row w (some a2) n2 dt) (hok : arrOk c sh dt = true) :
    Calls Tryz.prog 20 #[.int .i64 20, .agg #[.bool c, .slice (some a1) n1 c1, .slice (some a2) n2 c2]] w (GivesRow w (monadA 20 c sh dt)) := by
  have HM := hide (show monadA 20 c sh dt = ⟨c, [(dt.length : Int)], dt, 0⟩ from (mon_is hok (by decide) (by decide)).trans (by simp))
  have hl1 := hide h1.len
  have hl2 := hide h2.len
  have hs1 := h1.small
  have hs2 := h2.small
  have H1 := hide h1
  have H2 := hide h2
  have HR := hide hok
  clear h1 h2 hok
  obtain ⟨W0, hW0⟩ : ∃ W0, W0 = (w.alloc (.cells #[.bool c, .slice (some a1) n1 c1, .slice (some a2) n2 c2] 25)).alloc (.cells #[.bool false, .slice none 0 0, .slice none 0 0] 25) := ⟨_, rfl⟩
  obtain ⟨B4, B5, hB0⟩ := boxes2 (w := w) (c := c) (v1 := .slice (some a1) n1 c1) (v2 := .slice (some a2) n2 c2) (Below.refl _ _)
  rw [← hW0] at B4 B5 hB0
  have D4 := hide B4
  have D6 := hide B5
  have HB0 := hide hB0
  have hcall := ArrayOk_eq c (some a1) (some a2) n1 n2 c1 c2 sh dt W0 ((unhide H1).below (Nat.le_refl _) hB0) ((unhide H2).below (Nat.le_refl _) hB0) true HR
  obtain ⟨y0, y1, y2, y3, y4, y5, y6⟩ := B4.all
  rw [hW0] at hcall y0 y1 y2 y3 y4 y5 y6
  clear B4 B5 hB0
  go_enter Tryz.func20, Tryz.ntmps20
  go_upto_region 10 with (go_at_call 10; refine hcall.mono ?_; rintro e w3 ⟨rfl, hb3⟩; rw [← hW0] at hb3; have HB3 := hide hb3; have E4 := hide ((unhide D4).below (Nat.le_refl _) hb3); obtain ⟨x0, x1, x2, x3, x4, x5, x6⟩ := (unhide E4).all; clear hb3)
  have E6 := hide ((unhide D6).below (Nat.le_refl _) (unhide HB3))
  have HB := hide ((unhide HB0).trans ((unhide HB3).mono (unhide HB0).size))
  clear D4 D6 HB0 HB3 y0 y1 y2 y3 y4 y5 y6 hW0 W0 hcall
  have hz6 := (unhide E6).lt
  have K1 := hide ((unhide H1).below (Nat.le_refl _) (unhide HB))
  have K2 := hide ((unhide H2).below (Nat.le_refl _) (unhide HB))
  have HS : Hid (monadA 20 c sh dt = ⟨c, [(n2 : Int)], dt, 0⟩) := by rw [← unhide hl2]; exact unhide HM
  clear HM
  have hK0 : Below w3.heap.size w3 w3.drew := (Below.refl _ _).drew
  have HKEEP : ∀ wx, Below (w.heap.size + 1) w3 wx → Below (w.heap.size + 1) w3 wx ∧ wx.cell? ⟨w.heap.size, 0, none⟩ = some (.bool c) ∧ wx.cell? ⟨w.heap.size, 2, none⟩ = some (.slice (some a2) n2 c2) := fun wx hwx => ⟨hwx, ((unhide E4).low (by omega) hwx).cells.1, ((unhide E4).low (by omega) hwx).cells.2.2⟩
  have hR9 : ∀ wx, Below w3.heap.size w3 wx → Row wx (some a2) n2 dt := fun wx hwx => (unhide K2).below (Nat.le_refl _) hwx
  clear x1 x3 x4 x5
  go_region_held (fun wx => Below (w.heap.size + 1) w3 wx ∧ wx.cell? ⟨w.heap.size, 0, none⟩ = some (.bool c) ∧ wx.cell? ⟨w.heap.size, 2, none⟩ = some (.slice (some a2) n2 c2)) (first | exact HKEEP _ (hK4.mono (by omega)) | exact HKEEP _ ((hK4.alloc hK4.size _).mono (by omega)) | exact HKEEP _ ((((hK4.mono (by omega)).setCell (by simp) _).setCell (by simp) _).setCell (by simp) _) | exact HKEEP _ ((((hK4.mono (by omega)).setCell (by simp) _).setCell (by simp) _).setCell (by simp) _ |>.alloc (by have := hK4.size; simp; omega) _) | exact HKEEP _ (hK0.mono (by omega)) | exact HKEEP _ ((hK0.alloc (by simp) _).mono (by omega)) | exact HKEEP _ ((((Below.refl _ _).alloc (Nat.le_refl _) _).drew).mono (by omega)))
    (first
    | (go_at_call 71; refine (l3Ints_some a2 n2 c2 dt _ (by first | exact hR9 _ hK0 | exact hR9 _ (hK0.alloc (by simp) _) | exact hR9 _ ((Below.refl _ _).alloc (Nat.le_refl _) _).drew)).mono ?_; rintro e w4 ⟨g2, d2, rfl, ho, hb4⟩; have R2 := hide ho.row; have hK4 : Below w3.heap.size w3 w4 := (by first | exact hK0.trans (hb4.mono (by simp)) | exact (hK0.alloc (by simp) _).trans (hb4.mono (by simp)) | exact (((Below.refl _ _).alloc (Nat.le_refl _) _).drew).trans (hb4.mono (by simp))); (first | (with_reducible have hR1 := (row_one _ _).below (Nat.le_refl _) hb4) | (with_reducible have hR1 := (row_drew (row_one _ _)).below (Nat.le_refl _) hb4) | skip); obtain ⟨q0, q1, q2, q3, q4, q5, q6⟩ := ((unhide E6).below (Nat.le_refl _) hK4).all; clear ho hb4))
  all_goals go_wp2_with fail
  all_goals
    have HX := hide ((unhide E6).below (Nat.le_refl _) hK4)
    have HBX := hide ((unhide HB).trans (hK4.mono (unhide HB).size))
    have hbz := (unhide HBX).size
    first
    | (have hx := (unhide HX).sets (c' := c) (u1 := .slice (some ⟨w3.heap.size, 0, none⟩) 1 1) (u2 := .slice (some ⟨g2, 0, none⟩) n2 d2)
       obtain ⟨s0, s1, s2, _, _, _⟩ := hx.all
       have hR1' : Row w4 (some ⟨w3.heap.size, 0, none⟩) 1 [(n2 : Int)] := by simpa using hR1
       refine bodyPost_ret (v := .tuple #[.agg #[.bool c, .slice (some ⟨w3.heap.size, 0, none⟩) 1 1, .slice (some ⟨g2, 0, none⟩) n2 d2], .int .i64 0]) (by simp [results, Tryz.results20, go_sem, s0, s1, s2]) rfl ?_
       rw [unhide HS]
       exact ⟨_, _, _, _, _, _, rfl, hR1'.sets (unhide HX) _ _ _, (unhide R2).sets (unhide HX) _ _ _, (((unhide HBX).setCell (by simp <;> omega) _).setCell (by simp <;> omega) _).setCell (by simp <;> omega) _⟩)
    | (have hx := (unhide HX).sets (c' := c) (u1 := .slice (some ⟨w4.heap.size, 0, none⟩) 1 1) (u2 := .slice (some ⟨g2, 0, none⟩) n2 d2)
       obtain ⟨s0, s1, s2, _, _, _⟩ := (hx.alloc (.cells #[.int .i64 (n2 : Nat)] 3)).all
       have hrv : Row ((((w4.setCell ⟨w.heap.size + 1, 0, none⟩ (.bool c)).setCell ⟨w.heap.size + 1, 1, none⟩ (.slice (some ⟨w4.heap.size, 0, none⟩) 1 1)).setCell ⟨w.heap.size + 1, 2, none⟩ (.slice (some ⟨g2, 0, none⟩) n2 d2)).alloc (.cells #[.int .i64 (n2 : Nat)] 3)) (some ⟨w4.heap.size, 0, none⟩) 1 [(n2 : Int)] := by have := row_one (((w4.setCell ⟨w.heap.size + 1, 0, none⟩ (.bool c)).setCell ⟨w.heap.size + 1, 1, none⟩ (.slice (some ⟨w4.heap.size, 0, none⟩) 1 1)).setCell ⟨w.heap.size + 1, 2, none⟩ (.slice (some ⟨g2, 0, none⟩) n2 d2)) (n2 : Int); simpa using this
       refine bodyPost_ret (v := .tuple #[.agg #[.bool c, .slice (some ⟨w4.heap.size, 0, none⟩) 1 1, .slice (some ⟨g2, 0, none⟩) n2 d2], .int .i64 0]) (by simp [results, Tryz.results20, go_sem, s0, s1, s2]) rfl ?_
       rw [unhide HS]
       exact ⟨_, _, _, _, _, _, rfl, hrv, ((unhide R2).sets (unhide HX) _ _ _).alloc _, Below.alloc ((((unhide HBX).setCell (by simp <;> omega) _).setCell (by simp <;> omega) _).setCell (by simp <;> omega) _) (by simp; omega) _⟩)

set_option maxRecDepth 20000 in
set_option maxHeartbeats 8000000 in
theorem Monad_28 (c : Bool) (a1 a2 : Addr) (n1 n2 c1 c2 : Nat) (sh dt : List Int) (w : World) (h1 : Row w (some a1) n1 sh) (h2 : Row w (some a2) n2 dt) (hok : arrOk c sh dt = true) :
    Calls Tryz.prog 20 #[.int .i64 28, .agg #[.bool c, .slice (some a1) n1 c1, .slice (some a2) n2 c2]] w (GivesRow w (monadA 28 c sh dt)) := by
  have HM := hide (show monadA 28 c sh dt = ⟨c, [(dt.length : Int)], dt, 0⟩ from (mon_is hok (by decide) (by decide)).trans (by simp))
  have hl1 := hide h1.len
  have hl2 := hide h2.len
  have hs1 := h1.small
  have hs2 := h2.small
  have H1 := hide h1
  have H2 := hide h2
  have HR := hide hok
  clear h1 h2 hok
  obtain ⟨W0, hW0⟩ : ∃ W0, W0 = (w.alloc (.cells #[.bool c, .slice (some a1) n1 c1, .slice (some a2) n2 c2] 25)).alloc (.cells #[.bool false, .slice none 0 0, .slice none 0 0] 25) := ⟨_, rfl⟩
  obtain ⟨B4, B5, hB0⟩ := boxes2 (w := w) (c := c) (v1 := .slice (some a1) n1 c1) (v2 := .slice (some a2) n2 c2) (Below.refl _ _)
  rw [← hW0] at B4 B5 hB0
  have D4 := hide B4
  have D6 := hide B5
  have HB0 := hide hB0
  have hcall := ArrayOk_eq c (some a1) (some a2) n1 n2 c1 c2 sh dt W0 ((unhide H1).below (Nat.le_refl _) hB0) ((unhide H2).below (Nat.le_refl _) hB0) true HR
  obtain ⟨y0, y1, y2, y3, y4, y5, y6⟩ := B4.all
  rw [hW0] at hcall y0 y1 y2 y3 y4 y5 y6
  clear B4 B5 hB0
  go_enter Tryz.func20, Tryz.ntmps20
  go_upto_region 10 with (go_at_call 10; refine hcall.mono ?_; rintro e w3 ⟨rfl, hb3⟩; rw [← hW0] at hb3; have HB3 := hide hb3; have E4 := hide ((unhide D4).below (Nat.le_refl _) hb3); obtain ⟨x0, x1, x2, x3, x4, x5, x6⟩ := (unhide E4).all; clear hb3)
  have E6 := hide ((unhide D6).below (Nat.le_refl _) (unhide HB3))
  have HB := hide ((unhide HB0).trans ((unhide HB3).mono (unhide HB0).size))
  clear D4 D6 HB0 HB3 y0 y1 y2 y3 y4 y5 y6 hW0 W0 hcall
  have hz6 := (unhide E6).lt
  have K1 := hide ((unhide H1).below (Nat.le_refl _) (unhide HB))
  have K2 := hide ((unhide H2).below (Nat.le_refl _) (unhide HB))
  have HS : Hid (monadA 28 c sh dt = ⟨c, [(n2 : Int)], dt, 0⟩) := by rw [← unhide hl2]; exact unhide HM
  clear HM
  have hK0 : Below w3.heap.size w3 w3.drew := (Below.refl _ _).drew
  have HKEEP : ∀ wx, Below (w.heap.size + 1) w3 wx → Below (w.heap.size + 1) w3 wx ∧ wx.cell? ⟨w.heap.size, 0, none⟩ = some (.bool c) ∧ wx.cell? ⟨w.heap.size, 2, none⟩ = some (.slice (some a2) n2 c2) := fun wx hwx => ⟨hwx, ((unhide E4).low (by omega) hwx).cells.1, ((unhide E4).low (by omega) hwx).cells.2.2⟩
  have hR9 : ∀ wx, Below w3.heap.size w3 wx → Row wx (some a2) n2 dt := fun wx hwx => (unhide K2).below (Nat.le_refl _) hwx
  clear x1 x3 x4 x5
  go_region_held (fun wx => Below (w.heap.size + 1) w3 wx ∧ wx.cell? ⟨w.heap.size, 0, none⟩ = some (.bool c) ∧ wx.cell? ⟨w.heap.size, 2, none⟩ = some (.slice (some a2) n2 c2)) (first | exact HKEEP _ (hK4.mono (by omega)) | exact HKEEP _ ((hK4.alloc hK4.size _).mono (by omega)) | exact HKEEP _ ((((hK4.mono (by omega)).setCell (by simp) _).setCell (by simp) _).setCell (by simp) _) | exact HKEEP _ ((((hK4.mono (by omega)).setCell (by simp) _).setCell (by simp) _).setCell (by simp) _ |>.alloc (by have := hK4.size; simp; omega) _) | exact HKEEP _ (hK0.mono (by omega)) | exact HKEEP _ ((hK0.alloc (by simp) _).mono (by omega)) | exact HKEEP _ ((((Below.refl _ _).alloc (Nat.le_refl _) _).drew).mono (by omega)))
    (first
    | (go_at_call 71; refine (l3Ints_some a2 n2 c2 dt _ (by first | exact hR9 _ hK0 | exact hR9 _ (hK0.alloc (by simp) _) | exact hR9 _ ((Below.refl _ _).alloc (Nat.le_refl _) _).drew)).mono ?_; rintro e w4 ⟨g2, d2, rfl, ho, hb4⟩; have R2 := hide ho.row; have hK4 : Below w3.heap.size w3 w4 := (by first | exact hK0.trans (hb4.mono (by simp)) | exact (hK0.alloc (by simp) _).trans (hb4.mono (by simp)) | exact (((Below.refl _ _).alloc (Nat.le_refl _) _).drew).trans (hb4.mono (by simp))); (first | (with_reducible have hR1 := (row_one _ _).below (Nat.le_refl _) hb4) | (with_reducible have hR1 := (row_drew (row_one _ _)).below (Nat.le_refl _) hb4) | skip); obtain ⟨q0, q1, q2, q3, q4, q5, q6⟩ := ((unhide E6).below (Nat.le_refl _) hK4).all; clear ho hb4))
  all_goals go_wp2_with fail
  all_goals
    have HX := hide ((unhide E6).below (Nat.le_refl _) hK4)
    have HBX := hide ((unhide HB).trans (hK4.mono (unhide HB).size))
    have hbz := (unhide HBX).size
    first
    | (have hx := (unhide HX).sets (c' := c) (u1 := .slice (some ⟨w3.heap.size, 0, none⟩) 1 1) (u2 := .slice (some ⟨g2, 0, none⟩) n2 d2)
       obtain ⟨s0, s1, s2, _, _, _⟩ := hx.all
       have hR1' : Row w4 (some ⟨w3.heap.size, 0, none⟩) 1 [(n2 : Int)] := by simpa using hR1
       refine bodyPost_ret (v := .tuple #[.agg #[.bool c, .slice (some ⟨w3.heap.size, 0, none⟩) 1 1, .slice (some ⟨g2, 0, none⟩) n2 d2], .int .i64 0]) (by simp [results, Tryz.results20, go_sem, s0, s1, s2]) rfl ?_
       rw [unhide HS]
       exact ⟨_, _, _, _, _, _, rfl, hR1'.sets (unhide HX) _ _ _, (unhide R2).sets (unhide HX) _ _ _, (((unhide HBX).setCell (by simp <;> omega) _).setCell (by simp <;> omega) _).setCell (by simp <;> omega) _⟩)
    | (have hx := (unhide HX).sets (c' := c) (u1 := .slice (some ⟨w4.heap.size, 0, none⟩) 1 1) (u2 := .slice (some ⟨g2, 0, none⟩) n2 d2)
       obtain ⟨s0, s1, s2, _, _, _⟩ := (hx.alloc (.cells #[.int .i64 (n2 : Nat)] 3)).all
       have hrv : Row ((((w4.setCell ⟨w.heap.size + 1, 0, none⟩ (.bool c)).setCell ⟨w.heap.size + 1, 1, none⟩ (.slice (some ⟨w4.heap.size, 0, none⟩) 1 1)).setCell ⟨w.heap.size + 1, 2, none⟩ (.slice (some ⟨g2, 0, none⟩) n2 d2)).alloc (.cells #[.int .i64 (n2 : Nat)] 3)) (some ⟨w4.heap.size, 0, none⟩) 1 [(n2 : Int)] := by have := row_one (((w4.setCell ⟨w.heap.size + 1, 0, none⟩ (.bool c)).setCell ⟨w.heap.size + 1, 1, none⟩ (.slice (some ⟨w4.heap.size, 0, none⟩) 1 1)).setCell ⟨w.heap.size + 1, 2, none⟩ (.slice (some ⟨g2, 0, none⟩) n2 d2)) (n2 : Int); simpa using this
       refine bodyPost_ret (v := .tuple #[.agg #[.bool c, .slice (some ⟨w4.heap.size, 0, none⟩) 1 1, .slice (some ⟨g2, 0, none⟩) n2 d2], .int .i64 0]) (by simp [results, Tryz.results20, go_sem, s0, s1, s2]) rfl ?_
       rw [unhide HS]
       exact ⟨_, _, _, _, _, _, rfl, hrv, ((unhide R2).sets (unhide HX) _ _ _).alloc _, Below.alloc ((((unhide HBX).setCell (by simp <;> omega) _).setCell (by simp <;> omega) _).setCell (by simp <;> omega) _) (by simp; omega) _⟩)

set_option maxRecDepth 20000 in
set_option maxHeartbeats 8000000 in
theorem Monad_23 (c : Bool) (a1 a2 : Addr) (n1 n2 c1 c2 : Nat) (sh dt : List Int) (w : World) (h1 : Row w (some a1) n1 sh) (h2 : Row w (some a2) n2 dt) (hok : arrOk c sh dt = true) :
    Calls Tryz.prog 20 #[.int .i64 23, .agg #[.bool c, .slice (some a1) n1 c1, .slice (some a2) n2 c2]] w (GivesRow w (monadA 23 c sh dt)) := by
  have HM := hide (show monadA 23 c sh dt = transpose false c [(sh.length : Int)] (downTo sh.length) sh dt from (mon_is hok (by decide) (by decide)).trans (by simp))
  have hl1 := hide h1.len
  have hl2 := hide h2.len
  have hs1 := h1.small
  have hs2 := h2.small
  have H1 := hide h1
  have H2 := hide h2
  have HR := hide hok
  clear h1 h2 hok
  obtain ⟨W0, hW0⟩ : ∃ W0, W0 = (w.alloc (.cells #[.bool c, .slice (some a1) n1 c1, .slice (some a2) n2 c2] 25)).alloc (.cells #[.bool false, .slice none 0 0, .slice none 0 0] 25) := ⟨_, rfl⟩
  obtain ⟨B4, B5, hB0⟩ := boxes2 (w := w) (c := c) (v1 := .slice (some a1) n1 c1) (v2 := .slice (some a2) n2 c2) (Below.refl _ _)
  rw [← hW0] at B4 B5 hB0
  have D4 := hide B4
  have D6 := hide B5
  have HB0 := hide hB0
  have hcall := ArrayOk_eq c (some a1) (some a2) n1 n2 c1 c2 sh dt W0 ((unhide H1).below (Nat.le_refl _) hB0) ((unhide H2).below (Nat.le_refl _) hB0) true HR
  obtain ⟨y0, y1, y2, y3, y4, y5, y6⟩ := B4.all
  rw [hW0] at hcall y0 y1 y2 y3 y4 y5 y6
  clear B4 B5 hB0
  go_enter Tryz.func20, Tryz.ntmps20
  go_upto_region 14 with (go_at_call 10; refine hcall.mono ?_; rintro e w3 ⟨rfl, hb3⟩; rw [← hW0] at hb3; have HB3 := hide hb3; have E4 := hide ((unhide D4).below (Nat.le_refl _) hb3); obtain ⟨x0, x1, x2, x3, x4, x5, x6⟩ := (unhide E4).all; clear hb3)
  have E6 := hide ((unhide D6).below (Nat.le_refl _) (unhide HB3))
  have HB := hide ((unhide HB0).trans ((unhide HB3).mono (unhide HB0).size))
  clear D4 D6 HB0 HB3 y0 y1 y2 y3 y4 y5 y6 hW0 W0 hcall
  have hz6 := (unhide E6).lt
  have K1 := hide ((unhide H1).below (Nat.le_refl _) (unhide HB))
  have K2 := hide ((unhide H2).below (Nat.le_refl _) (unhide HB))
  have hn5 : n1 ≤ 5 := by rw [← unhide hl1]; exact (shapeIn_of (unhide HR)).2.2
  obtain ⟨rc, rsh, rdt, rp, hr⟩ : ∃ rc rsh rdt rp, transpose false c [(n1 : Int)] (downTo n1) sh dt = ⟨rc, rsh, rdt, rp⟩ := ⟨_, _, _, _, rfl⟩
  have HRR := hide hr
  have HS : Hid (monadA 23 c sh dt = ⟨rc, rsh, rdt, rp⟩) := by
    show _ = _
    rw [← hr, ← unhide hl1]
    exact unhide HM
  clear HM hr
  have hK0 : Below w3.heap.size w3 w3.drew := (Below.refl _ _).drew
  have HKEEP : ∀ wx, Below (w.heap.size + 1) w3 wx → Below (w.heap.size + 1) w3 wx ∧ wx.cell? ⟨w.heap.size, 0, none⟩ = some (.bool c) ∧ wx.cell? ⟨w.heap.size, 1, none⟩ = some (.slice (some a1) n1 c1) ∧ wx.cell? ⟨w.heap.size, 2, none⟩ = some (.slice (some a2) n2 c2) := fun wx hwx => ⟨hwx, ((unhide E4).low (by omega) hwx).cells⟩
  clear x3 x4 x5
  go_region_held (fun wx => Below (w.heap.size + 1) w3 wx ∧ wx.cell? ⟨w.heap.size, 0, none⟩ = some (.bool c) ∧ wx.cell? ⟨w.heap.size, 1, none⟩ = some (.slice (some a1) n1 c1) ∧ wx.cell? ⟨w.heap.size, 2, none⟩ = some (.slice (some a2) n2 c2)) (first | exact HKEEP _ (hK5.mono (by omega)) | exact HKEEP _ ((((hK5.mono (by omega)).setCell (by simp) _).setCell (by simp) _).setCell (by simp) _) | exact HKEEP _ (hK4.mono (by omega)) | exact HKEEP _ (hK0.mono (by omega)))
    (first
    | (go_at_call 73; refine (l6Backward_any n1 (by omega) _).mono ?_; rintro e w4 ⟨g1, g2, d2, rfl, r1, r2, hb4⟩; have R1 := hide r1; have R2 := hide r2; have hK4 : Below w3.heap.size w3 w4 := hK0.trans (hb4.mono (by simp)); clear r1 r2 hb4)
    | (go_at_call 14; refine (Transpose_any false c ⟨g1, 0, none⟩ ⟨g2, 0, none⟩ a1 a2 1 n1 n1 n2 1 d2 c1 c2 [(n1 : Int)] (downTo n1) sh dt _ (unhide R1) (unhide R2) ((unhide K1).below (Nat.le_refl _) hK4) ((unhide K2).below (Nat.le_refl _) hK4)).mono ?_; rintro e w5 ⟨b1, m1, f1, b2, m2, f2, rfl, s1, s2, hb5⟩; (have HR' := unhide HRR; rw [HR'] at s1 s2 ⊢; simp only at s1 s2 ⊢; clear HR'); have S1 := hide s1; have S2 := hide s2; have hK5 : Below w3.heap.size w3 w5 := hK4.trans (hb5.mono hK4.size); obtain ⟨q0, q1, q2, q3, q4, q5, q6⟩ := ((unhide E6).below (Nat.le_refl _) hK5).all; clear s1 s2 hb5))
  all_goals go_wp2_with fail
  all_goals
    have HX := hide ((unhide E6).below (Nat.le_refl _) hK5)
    have HBX := hide ((unhide HB).trans (hK5.mono (unhide HB).size))
    have hx := (unhide HX).sets (c' := rc) (u1 := .slice b1 m1 f1) (u2 := .slice b2 m2 f2)
    obtain ⟨s0, s1, s2, _, _, _⟩ := hx.all
    refine bodyPost_ret (v := .tuple #[.agg #[.bool rc, .slice b1 m1 f1, .slice b2 m2 f2], .int .i64 rp]) (by simp [results, Tryz.results20, go_sem, s0, s1, s2]) rfl ?_
    rw [unhide HS]
    exact ⟨_, _, _, _, _, _, rfl, (unhide S1).sets (unhide HX) _ _ _, (unhide S2).sets (unhide HX) _ _ _, (((unhide HBX).setCell (by simp <;> omega) _).setCell (by simp <;> omega) _).setCell (by simp <;> omega) _⟩

set_option maxRecDepth 20000 in
set_option maxHeartbeats 8000000 in
theorem Monad_no (op : Int) (ho : op = 4 ∨ op = 5 ∨ op = 6 ∨ op = 8 ∨ op = 9 ∨ op = 10 ∨ op = 11 ∨ op = 12 ∨ op = 13 ∨ op = 14 ∨ op = 15 ∨ op = 16 ∨ op = 25 ∨ op = 29 ∨ op = 30 ∨ op = 31 ∨ op = 32) (c : Bool) (a1 a2 : Addr) (n1 n2 c1 c2 : Nat) (sh dt : List Int) (w : World) (h1 : Row w (some a1) n1 sh) (h2 : Row w (some a2) n2 dt) (hok : arrOk c sh dt = true) :
    Calls Tryz.prog 20 #[.int .i64 op, .agg #[.bool c, .slice (some a1) n1 c1, .slice (some a2) n2 c2]] w (GivesRow w (monadA op c sh dt)) := by
  have HS : Hid (monadA op c sh dt = noAns 1) := by
    show _ = _
    rw [mon_is hok (by omega) (by unfold oneOp; exact decide_eq_false (by omega))]
    simp only [show ¬ op = 18 by omega, show ¬ op = 19 by omega, show ¬ (op = 20 ∨ op = 28) by omega, show ¬ op = 21 by omega, show ¬ op = 22 by omega, show ¬ op = 23 by omega, show ¬ op = 24 by omega, show ¬ op = 26 by omega, show ¬ op = 27 by omega, show ¬ op = 33 by omega, if_false]
  have g1 : ¬ op < 1 := by omega
  have g2 : ¬ 33 < op := by omega
  have g3 : ¬ op ≤ 3 := by omega
  have e7 : (op == 7) = false := by simp; omega
  have e17 : (op == 17) = false := by simp; omega
  have e18 : (op == 18) = false := by simp; omega
  have e19 : (op == 19) = false := by simp; omega
  have e20 : (op == 20) = false := by simp; omega
  have e28 : (op == 28) = false := by simp; omega
  have e21 : (op == 21) = false := by simp; omega
  have e22 : (op == 22) = false := by simp; omega
  have e23 : (op == 23) = false := by simp; omega
  have e24 : (op == 24) = false := by simp; omega
  have e26 : (op == 26) = false := by simp; omega
  have e27 : (op == 27) = false := by simp; omega
  have e33 : (op == 33) = false := by simp; omega
  clear ho
  have hl1 := hide h1.len
  have hl2 := hide h2.len
  have hs1 := h1.small
  have hs2 := h2.small
  have H1 := hide h1
  have H2 := hide h2
  have HR := hide hok
  clear h1 h2 hok
  obtain ⟨W0, hW0⟩ : ∃ W0, W0 = (w.alloc (.cells #[.bool c, .slice (some a1) n1 c1, .slice (some a2) n2 c2] 25)).alloc (.cells #[.bool false, .slice none 0 0, .slice none 0 0] 25) := ⟨_, rfl⟩
  obtain ⟨B4, B5, hB0⟩ := boxes2 (w := w) (c := c) (v1 := .slice (some a1) n1 c1) (v2 := .slice (some a2) n2 c2) (Below.refl _ _)
  rw [← hW0] at B4 B5 hB0
  have D4 := hide B4
  have D6 := hide B5
  have HB0 := hide hB0
  have hcall := ArrayOk_eq c (some a1) (some a2) n1 n2 c1 c2 sh dt W0 ((unhide H1).below (Nat.le_refl _) hB0) ((unhide H2).below (Nat.le_refl _) hB0) true HR
  obtain ⟨y0, y1, y2, y3, y4, y5, y6⟩ := B4.all
  rw [hW0] at hcall y0 y1 y2 y3 y4 y5 y6
  clear B4 B5 hB0
  go_enter Tryz.func20, Tryz.ntmps20
  go_upto_region 27 with (go_at_call 10; refine hcall.mono ?_; rintro e w3 ⟨rfl, hb3⟩; rw [← hW0] at hb3; have HB3 := hide hb3; have E4 := hide ((unhide D4).below (Nat.le_refl _) hb3); obtain ⟨x0, x1, x2, x3, x4, x5, x6⟩ := (unhide E4).all; clear hb3)
  have E6 := hide ((unhide D6).below (Nat.le_refl _) (unhide HB3))
  have HB := hide ((unhide HB0).trans ((unhide HB3).mono (unhide HB0).size))
  clear D4 D6 HB0 HB3 y0 y1 y2 y3 y4 y5 y6 hW0 W0 hcall
  have hz6 := (unhide E6).lt
  have K1 := hide ((unhide H1).below (Nat.le_refl _) (unhide HB))
  have K2 := hide ((unhide H2).below (Nat.le_refl _) (unhide HB))
  go_wp2_with fail
  refine (l4None_any _).mono ?_
  rintro e w9 ⟨rfl, hb9⟩
  obtain ⟨q0, q1, q2, q3, q4, q5, q6⟩ := ((unhide E6).below (Nat.le_refl _) hb9).all
  have hB9 := hide ((unhide HB).trans (hb9.mono (unhide HB).size))
  clear hb9 E4 E6 HB x0 x1 x2 x3 x4 x5 x6
  go_wp2
  refine bodyPost_ret (v := .tuple #[.agg #[.bool false, .slice none 0 0, .slice none 0 0], .int .i64 1]) (by simp [results, Tryz.results20, go_sem, q0, q1, q2]) rfl ?_
  rw [unhide HS]
  exact ⟨none, 0, 0, none, 0, 0, rfl, row_nil _ _, row_nil _ _, (((unhide hB9).setCell (by simp <;> omega) _).setCell (by simp <;> omega) _).setCell (by simp <;> omega) _⟩

set_option maxRecDepth 20000 in
set_option maxHeartbeats 8000000 in
theorem Monad_bad (op : Int) (c : Bool) (a1 a2 : Addr) (n1 n2 c1 c2 : Nat) (sh dt : List Int) (w : World) (h1 : Row w (some a1) n1 sh) (h2 : Row w (some a2) n2 dt) (hok : arrOk c sh dt = false) :
    Calls Tryz.prog 20 #[.int .i64 op, .agg #[.bool c, .slice (some a1) n1 c1, .slice (some a2) n2 c2]] w (GivesRow w (monadA op c sh dt)) := by
  have HS : Hid (monadA op c sh dt = noAns 3) := mon_bad (by rw [hok]; simp)
  have hl1 := hide h1.len
  have hl2 := hide h2.len
  have hs1 := h1.small
  have hs2 := h2.small
  have H1 := hide h1
  have H2 := hide h2
  have HR := hide hok
  clear h1 h2 hok
  obtain ⟨W0, hW0⟩ : ∃ W0, W0 = (w.alloc (.cells #[.bool c, .slice (some a1) n1 c1, .slice (some a2) n2 c2] 25)).alloc (.cells #[.bool false, .slice none 0 0, .slice none 0 0] 25) := ⟨_, rfl⟩
  obtain ⟨B4, B5, hB0⟩ := boxes2 (w := w) (c := c) (v1 := .slice (some a1) n1 c1) (v2 := .slice (some a2) n2 c2) (Below.refl _ _)
  rw [← hW0] at B4 B5 hB0
  have D4 := hide B4
  have D6 := hide B5
  have HB0 := hide hB0
  have hcall := ArrayOk_eq c (some a1) (some a2) n1 n2 c1 c2 sh dt W0 ((unhide H1).below (Nat.le_refl _) hB0) ((unhide H2).below (Nat.le_refl _) hB0) false HR
  obtain ⟨y0, y1, y2, y3, y4, y5, y6⟩ := B4.all
  rw [hW0] at hcall y0 y1 y2 y3 y4 y5 y6
  clear B4 B5 hB0
  go_enter Tryz.func20, Tryz.ntmps20
  go_upto_region 2 with (go_at_call 10; refine hcall.mono ?_; rintro e w3 ⟨rfl, hb3⟩; rw [← hW0] at hb3; have HB3 := hide hb3; have E4 := hide ((unhide D4).below (Nat.le_refl _) hb3); obtain ⟨x0, x1, x2, x3, x4, x5, x6⟩ := (unhide E4).all; clear hb3)
  have E6 := hide ((unhide D6).below (Nat.le_refl _) (unhide HB3))
  have HB := hide ((unhide HB0).trans ((unhide HB3).mono (unhide HB0).size))
  clear D4 D6 HB0 HB3 y0 y1 y2 y3 y4 y5 y6 hW0 W0 hcall
  have hz6 := (unhide E6).lt
  have K1 := hide ((unhide H1).below (Nat.le_refl _) (unhide HB))
  have K2 := hide ((unhide H2).below (Nat.le_refl _) (unhide HB))
  go_wp2_with fail
  refine (l4None_any _).mono ?_
  rintro e w9 ⟨rfl, hb9⟩
  obtain ⟨q0, q1, q2, q3, q4, q5, q6⟩ := ((unhide E6).below (Nat.le_refl _) hb9).all
  have hB9 := hide ((unhide HB).trans (hb9.mono (unhide HB).size))
  clear hb9 E4 E6 HB x0 x1 x2 x3 x4 x5 x6
  go_wp2
  refine bodyPost_ret (v := .tuple #[.agg #[.bool false, .slice none 0 0, .slice none 0 0], .int .i64 3]) (by simp [results, Tryz.results20, go_sem, q0, q1, q2]) rfl ?_
  rw [unhide HS]
  exact ⟨none, 0, 0, none, 0, 0, rfl, row_nil _ _, row_nil _ _, (((unhide hB9).setCell (by simp <;> omega) _).setCell (by simp <;> omega) _).setCell (by simp <;> omega) _⟩

set_option maxRecDepth 20000 in
set_option maxHeartbeats 8000000 in
theorem Monad_low (op : Int) (ho : op < 1) (c : Bool) (a1 a2 : Addr) (n1 n2 c1 c2 : Nat) (sh dt : List Int) (w : World) (h1 : Row w (some a1) n1 sh) (h2 : Row w (some a2) n2 dt) (hok : arrOk c sh dt = true) :
    Calls Tryz.prog 20 #[.int .i64 op, .agg #[.bool c, .slice (some a1) n1 c1, .slice (some a2) n2 c2]] w (GivesRow w (monadA op c sh dt)) := by
  have HS : Hid (monadA op c sh dt = noAns 3) := mon_bad (by omega)
  have g1 : decide (op < 1) = true := by simpa using ho
  clear ho
  have hl1 := hide h1.len
  have hl2 := hide h2.len
  have hs1 := h1.small
  have hs2 := h2.small
  have H1 := hide h1
  have H2 := hide h2
  have HR := hide hok
  clear h1 h2 hok
  obtain ⟨W0, hW0⟩ : ∃ W0, W0 = (w.alloc (.cells #[.bool c, .slice (some a1) n1 c1, .slice (some a2) n2 c2] 25)).alloc (.cells #[.bool false, .slice none 0 0, .slice none 0 0] 25) := ⟨_, rfl⟩
  obtain ⟨B4, B5, hB0⟩ := boxes2 (w := w) (c := c) (v1 := .slice (some a1) n1 c1) (v2 := .slice (some a2) n2 c2) (Below.refl _ _)
  rw [← hW0] at B4 B5 hB0
  have D4 := hide B4
  have D6 := hide B5
  have HB0 := hide hB0
  have hcall := ArrayOk_eq c (some a1) (some a2) n1 n2 c1 c2 sh dt W0 ((unhide H1).below (Nat.le_refl _) hB0) ((unhide H2).below (Nat.le_refl _) hB0) true HR
  obtain ⟨y0, y1, y2, y3, y4, y5, y6⟩ := B4.all
  rw [hW0] at hcall y0 y1 y2 y3 y4 y5 y6
  clear B4 B5 hB0
  go_enter Tryz.func20, Tryz.ntmps20
  go_upto_region 2 with (go_at_call 10; refine hcall.mono ?_; rintro e w3 ⟨rfl, hb3⟩; rw [← hW0] at hb3; have HB3 := hide hb3; have E4 := hide ((unhide D4).below (Nat.le_refl _) hb3); obtain ⟨x0, x1, x2, x3, x4, x5, x6⟩ := (unhide E4).all; clear hb3)
  have E6 := hide ((unhide D6).below (Nat.le_refl _) (unhide HB3))
  have HB := hide ((unhide HB0).trans ((unhide HB3).mono (unhide HB0).size))
  clear D4 D6 HB0 HB3 y0 y1 y2 y3 y4 y5 y6 hW0 W0 hcall
  have hz6 := (unhide E6).lt
  have K1 := hide ((unhide H1).below (Nat.le_refl _) (unhide HB))
  have K2 := hide ((unhide H2).below (Nat.le_refl _) (unhide HB))
  go_wp2_with fail
  refine (l4None_any _).mono ?_
  rintro e w9 ⟨rfl, hb9⟩
  obtain ⟨q0, q1, q2, q3, q4, q5, q6⟩ := ((unhide E6).below (Nat.le_refl _) hb9).all
  have hB9 := hide ((unhide HB).trans (hb9.mono (unhide HB).size))
  clear hb9 E4 E6 HB x0 x1 x2 x3 x4 x5 x6
  go_wp2
  refine bodyPost_ret (v := .tuple #[.agg #[.bool false, .slice none 0 0, .slice none 0 0], .int .i64 3]) (by simp [results, Tryz.results20, go_sem, q0, q1, q2]) rfl ?_
  rw [unhide HS]
  exact ⟨none, 0, 0, none, 0, 0, rfl, row_nil _ _, row_nil _ _, (((unhide hB9).setCell (by simp <;> omega) _).setCell (by simp <;> omega) _).setCell (by simp <;> omega) _⟩

set_option maxRecDepth 20000 in
set_option maxHeartbeats 8000000 in
theorem Monad_high (op : Int) (ho : 33 < op) (c : Bool) (a1 a2 : Addr) (n1 n2 c1 c2 : Nat) (sh dt : List Int) (w : World) (h1 : Row w (some a1) n1 sh) (h2 : Row w (some a2) n2 dt) (hok : arrOk c sh dt = true) :
    Calls Tryz.prog 20 #[.int .i64 op, .agg #[.bool c, .slice (some a1) n1 c1, .slice (some a2) n2 c2]] w (GivesRow w (monadA op c sh dt)) := by
  have HS : Hid (monadA op c sh dt = noAns 3) := mon_bad (by omega)
  have g1 : ¬ op < 1 := by omega
  have g2 : decide (33 < op) = true := by simpa using ho
  clear ho
  have hl1 := hide h1.len
  have hl2 := hide h2.len
  have hs1 := h1.small
  have hs2 := h2.small
  have H1 := hide h1
  have H2 := hide h2
  have HR := hide hok
  clear h1 h2 hok
  obtain ⟨W0, hW0⟩ : ∃ W0, W0 = (w.alloc (.cells #[.bool c, .slice (some a1) n1 c1, .slice (some a2) n2 c2] 25)).alloc (.cells #[.bool false, .slice none 0 0, .slice none 0 0] 25) := ⟨_, rfl⟩
  obtain ⟨B4, B5, hB0⟩ := boxes2 (w := w) (c := c) (v1 := .slice (some a1) n1 c1) (v2 := .slice (some a2) n2 c2) (Below.refl _ _)
  rw [← hW0] at B4 B5 hB0
  have D4 := hide B4
  have D6 := hide B5
  have HB0 := hide hB0
  have hcall := ArrayOk_eq c (some a1) (some a2) n1 n2 c1 c2 sh dt W0 ((unhide H1).below (Nat.le_refl _) hB0) ((unhide H2).below (Nat.le_refl _) hB0) true HR
  obtain ⟨y0, y1, y2, y3, y4, y5, y6⟩ := B4.all
  rw [hW0] at hcall y0 y1 y2 y3 y4 y5 y6
  clear B4 B5 hB0
  go_enter Tryz.func20, Tryz.ntmps20
  go_upto_region 2 with (go_at_call 10; refine hcall.mono ?_; rintro e w3 ⟨rfl, hb3⟩; rw [← hW0] at hb3; have HB3 := hide hb3; have E4 := hide ((unhide D4).below (Nat.le_refl _) hb3); obtain ⟨x0, x1, x2, x3, x4, x5, x6⟩ := (unhide E4).all; clear hb3)
  have E6 := hide ((unhide D6).below (Nat.le_refl _) (unhide HB3))
  have HB := hide ((unhide HB0).trans ((unhide HB3).mono (unhide HB0).size))
  clear D4 D6 HB0 HB3 y0 y1 y2 y3 y4 y5 y6 hW0 W0 hcall
  have hz6 := (unhide E6).lt
  have K1 := hide ((unhide H1).below (Nat.le_refl _) (unhide HB))
  have K2 := hide ((unhide H2).below (Nat.le_refl _) (unhide HB))
  go_wp2_with fail
  refine (l4None_any _).mono ?_
  rintro e w9 ⟨rfl, hb9⟩
  obtain ⟨q0, q1, q2, q3, q4, q5, q6⟩ := ((unhide E6).below (Nat.le_refl _) hb9).all
  have hB9 := hide ((unhide HB).trans (hb9.mono (unhide HB).size))
  clear hb9 E4 E6 HB x0 x1 x2 x3 x4 x5 x6
  go_wp2
  refine bodyPost_ret (v := .tuple #[.agg #[.bool false, .slice none 0 0, .slice none 0 0], .int .i64 3]) (by simp [results, Tryz.results20, go_sem, q0, q1, q2]) rfl ?_
  rw [unhide HS]
  exact ⟨none, 0, 0, none, 0, 0, rfl, row_nil _ _, row_nil _ _, (((unhide hB9).setCell (by simp <;> omega) _).setCell (by simp <;> omega) _).setCell (by simp <;> omega) _⟩

theorem specMonad_any (op : Int) (c : Bool) (a1 a2 : Addr) (n1 n2 c1 c2 : Nat) (sh dt : List Int) (w : World) (h1 : Row w (some a1) n1 sh) (h2 : Row w (some a2) n2 dt) :
    Calls Tryz.prog 20 #[.int .i64 op, .agg #[.bool c, .slice (some a1) n1 c1, .slice (some a2) n2 c2]] w (GivesRow w (monadA op c sh dt)) := by
  cases hok : arrOk c sh dt with
  | false => exact Monad_bad op c a1 a2 n1 n2 c1 c2 sh dt w h1 h2 hok
  | true =>
    by_cases h3 : op < 1
    · exact Monad_low op h3 c a1 a2 n1 n2 c1 c2 sh dt w h1 h2 hok
    by_cases h4 : 33 < op
    · exact Monad_high op h4 c a1 a2 n1 n2 c1 c2 sh dt w h1 h2 hok
    by_cases hn : op = 4 ∨ op = 5 ∨ op = 6 ∨ op = 8 ∨ op = 9 ∨ op = 10 ∨ op = 11 ∨ op = 12 ∨ op = 13 ∨ op = 14 ∨ op = 15 ∨ op = 16 ∨ op = 25 ∨ op = 29 ∨ op = 30 ∨ op = 31 ∨ op = 32
    · exact Monad_no op hn c a1 a2 n1 n2 c1 c2 sh dt w h1 h2 hok
    have : op = 1 ∨ op = 2 ∨ op = 3 ∨ op = 7 ∨ op = 17 ∨ op = 18 ∨ op = 19 ∨ op = 20 ∨ op = 28 ∨ op = 21 ∨ op = 22 ∨ op = 23 ∨ op = 24 ∨ op = 26 ∨ op = 27 ∨ op = 33 := by omega
    rcases this with rfl | rfl | rfl | rfl | rfl | rfl | rfl | rfl | rfl | rfl | rfl | rfl | rfl | rfl | rfl | rfl
    · exact Monad_1 c a1 a2 n1 n2 c1 c2 sh dt w h1 h2 hok
    · exact Monad_2 c a1 a2 n1 n2 c1 c2 sh dt w h1 h2 hok
    · exact Monad_3 c a1 a2 n1 n2 c1 c2 sh dt w h1 h2 hok
    · exact Monad_7 c a1 a2 n1 n2 c1 c2 sh dt w h1 h2 hok
    · exact Monad_17 c a1 a2 n1 n2 c1 c2 sh dt w h1 h2 hok
    · exact Monad_18 c a1 a2 n1 n2 c1 c2 sh dt w h1 h2 hok
    · exact Monad_19 c a1 a2 n1 n2 c1 c2 sh dt w h1 h2 hok
    · exact Monad_20 c a1 a2 n1 n2 c1 c2 sh dt w h1 h2 hok
    · exact Monad_28 c a1 a2 n1 n2 c1 c2 sh dt w h1 h2 hok
    · exact Monad_21 c a1 a2 n1 n2 c1 c2 sh dt w h1 h2 hok
    · exact Monad_22 c a1 a2 n1 n2 c1 c2 sh dt w h1 h2 hok
    · exact Monad_23 c a1 a2 n1 n2 c1 c2 sh dt w h1 h2 hok
    · exact Monad_24 c a1 a2 n1 n2 c1 c2 sh dt w h1 h2 hok
    · exact Monad_26 c a1 a2 n1 n2 c1 c2 sh dt w h1 h2 hok
    · exact Monad_27 c a1 a2 n1 n2 c1 c2 sh dt w h1 h2 hok
    · exact Monad_33 c a1 a2 n1 n2 c1 c2 sh dt w h1 h2 hok

end Go.Proofs.YtgjpchnkodnieaaGreatDoor
