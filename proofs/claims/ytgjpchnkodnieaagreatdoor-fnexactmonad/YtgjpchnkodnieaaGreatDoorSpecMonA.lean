import Derived.Test.YtgjpchnkodnieaaGreatDoorMFit2
import Derived.Test.YtgjpchnkodnieaaGreatDoorSpecRev6
import Derived.Test.YtgjpchnkodnieaaGreatDoorMFit2
import Derived.Test.YtgjpchnkodnieaaGreatDoorSpecFill
import Derived.Test.YtgjpchnkodnieaaGreatDoorMFit1
import Derived.Test.YtgjpchnkodnieaaGreatDoorSpecTranspose
import Derived.Test.YtgjpchnkodnieaaGreatDoorSpecGrade
import Derived.Test.YtgjpchnkodnieaaGreatDoorMFit0
import Derived.Test.YtgjpchnkodnieaaGreatDoorMFit0
import Derived.Deep.RegionHeld
import Derived.Deep.RegionHeld3
namespace Go.Proofs.YtgjpchnkodnieaaGreatDoor
open Go.RowKit

set_option maxRecDepth 20000 in
set_option maxHeartbeats 8000000 in
theorem Monad_1 (c : Bool) (a1 a2 : Addr) (n1 n2 c1 c2 : Nat) (sh dt : List Int) (w : World) (h1 : Row w (some a1) n1 sh) (h2 : Row w (some a2) n2 dt) (hok : arrOk c sh dt = true) :
    Calls Tryz.prog 20 #[.int .i64 1, .agg #[.bool c, .slice (some a1) n1 c1, .slice (some a2) n2 c2]] w (GivesRow w (monadA 1 c sh dt)) := by
  have HM := hide (mon_one (op := 1) hok (by decide))
  have hl1 := hide h1.len
  have hl2 := hide h2.len
  have hs1 := h1.small
  have hs2 := h2.small
  have H1 := hide h1
  have H2 := hide h2
  have HR := hide hok
  clear h1 h2 hok
  obtain ⟨W0, hW0⟩ : ∃ W0, W0 = (w.alloc (.cells #[.bool c, .slice (some a1) n1 c1, .slice (some a2) n2 c2] 25)).alloc (.cells #[.bool false, .slice none 0 0, .slice none 0 0] 25) := ⟨_, rfl⟩
  obtain ⟨B4, B5, hB0⟩ := boxes2 (w := w) (c := c) (v1 := .slice (some a1) n1 c1) (v2 := .slice (some a2) n2 c2) (Below.refl _ _)
  rw [← hW0] at B4 B5 hB0
  have D4 := hide B4
  have D6 := hide B5
  have HB0 := hide hB0
  have hcall := ArrayOk_eq c (some a1) (some a2) n1 n2 c1 c2 sh dt W0 ((unhide H1).below (Nat.le_refl _) hB0) ((unhide H2).below (Nat.le_refl _) hB0) true HR
  obtain ⟨y0, y1, y2, y3, y4, y5, y6⟩ := B4.all
  rw [hW0] at hcall y0 y1 y2 y3 y4 y5 y6
  clear B4 B5 hB0
  go_enter Tryz.func20, Tryz.ntmps20
  go_upto_region 4 with (go_at_call 10; refine hcall.mono ?_; rintro e w3 ⟨rfl, hb3⟩; rw [← hW0] at hb3; have HB3 := hide hb3; have E4 := hide ((unhide D4).below (Nat.le_refl _) hb3); obtain ⟨x0, x1, x2, x3, x4, x5, x6⟩ := (unhide E4).all; clear hb3)
  have E6 := hide ((unhide D6).below (Nat.le_refl _) (unhide HB3))
  have HB := hide ((unhide HB0).trans ((unhide HB3).mono (unhide HB0).size))
  clear D4 D6 HB0 HB3 y0 y1 y2 y3 y4 y5 y6 hW0 W0 hcall
  have hz6 := (unhide E6).lt
  have K1 := hide ((unhide H1).below (Nat.le_refl _) (unhide HB))
  have K2 := hide ((unhide H2).below (Nat.le_refl _) (unhide HB))
  obtain ⟨rc, rsh, rdt, rp, hr⟩ : ∃ rc rsh rdt rp, scalar1 1 c sh dt = ⟨rc, rsh, rdt, rp⟩ := ⟨_, _, _, _, rfl⟩
  have hcl := Scalar1_any 1 c a1 a2 n1 n2 c1 c2 sh dt w3 (unhide K1) (unhide K2)
  rw [hr] at hcl
  have HS : Hid (monadA 1 c sh dt = ⟨rc, rsh, rdt, rp⟩) := by rw [← hr]; exact unhide HM
  clear hr HM
  go_wp2_with (go_at_call 68; refine hcl.mono ?_; rintro e w4 ⟨b1, m1, d1, b2, m2, d2, rfl, r1, r2, hb4⟩; have R1 := hide r1; have R2 := hide r2; have HX := hide ((unhide E6).below (Nat.le_refl _) hb4); have HBX := hide ((unhide HB).trans (hb4.mono (unhide HB).size)); simp only; obtain ⟨q0, q1, q2, q3, q4, q5, q6⟩ := (unhide HX).all; clear r1 r2 hb4)
  have hx := (unhide HX).sets (c' := rc) (u1 := .slice b1 m1 d1) (u2 := .slice b2 m2 d2)
  obtain ⟨s0, s1, s2, _, _, _⟩ := hx.all
  refine bodyPost_ret (v := .tuple #[.agg #[.bool rc, .slice b1 m1 d1, .slice b2 m2 d2], .int .i64 rp]) (by simp [results, Tryz.results20, go_sem, s0, s1, s2]) rfl ?_
  rw [unhide HS]
  exact ⟨_, _, _, _, _, _, rfl, (unhide R1).sets (unhide HX) _ _ _, (unhide R2).sets (unhide HX) _ _ _, (((unhide HBX).setCell (by simp <;> omega) _).setCell (by simp <;> omega) _).setCell (by simp <;> omega) _⟩

set_option maxRecDepth 20000 in
set_option maxHeartbeats 8000000 in
theorem Monad_2 (c : Bool) (a1 a2 : Addr) (n1 n2 c1 c2 : Nat) (sh dt : List Int) (w : World) (h1 : Row w (some a1) n1 sh) (h2 : Row w (some a2) n2 dt) (hok : arrOk c sh dt = true) :
    Calls Tryz.prog 20 #[.int .i64 2, .agg #[.bool c, .slice (some a1) n1 c1, .slice (some a2) n2 c2]] w (GivesRow w (monadA 2 c sh dt)) := by
  have HM := hide (mon_one (op := 2) hok (by decide))
  have hl1 := hide h1.len
  have hl2 := hide h2.len
  have hs1 := h1.small
  have hs2 := h2.small
  have H1 := hide h1
  have H2 := hide h2
  have HR := hide hok
  clear h1 h2 hok
  obtain ⟨W0, hW0⟩ : ∃ W0, W0 = (w.alloc (.cells #[.bool c, .slice (some a1) n1 c1, .slice (some a2) n2 c2] 25)).alloc (.cells #[.bool false, .slice none 0 0, .slice none 0 0] 25) := ⟨_, rfl⟩
  obtain ⟨B4, B5, hB0⟩ := boxes2 (w := w) (c := c) (v1 := .slice (some a1) n1 c1) (v2 := .slice (some a2) n2 c2) (Below.refl _ _)
  rw [← hW0] at B4 B5 hB0
  have D4 := hide B4
  have D6 := hide B5
  have HB0 := hide hB0
  have hcall := ArrayOk_eq c (some a1) (some a2) n1 n2 c1 c2 sh dt W0 ((unhide H1).below (Nat.le_refl _) hB0) ((unhide H2).below (Nat.le_refl _) hB0) true HR
  obtain ⟨y0, y1, y2, y3, y4, y5, y6⟩ := B4.all
  rw [hW0] at hcall y0 y1 y2 y3 y4 y5 y6
  clear B4 B5 hB0
  go_enter Tryz.func20, Tryz.ntmps20
  go_upto_region 4 with (go_at_call 10; refine hcall.mono ?_; rintro e w3 ⟨rfl, hb3⟩; rw [← hW0] at hb3; have HB3 := hide hb3; have E4 := hide ((unhide D4).below (Nat.le_refl _) hb3); obtain ⟨x0, x1, x2, x3, x4, x5, x6⟩ := (unhide E4).all; clear hb3)
  have E6 := hide ((unhide D6).below (Nat.le_refl _) (unhide HB3))
  have HB := hide ((unhide HB0).trans ((unhide HB3).mono (unhide HB0).size))
  clear D4 D6 HB0 HB3 y0 y1 y2 y3 y4 y5 y6 hW0 W0 hcall
  have hz6 := (unhide E6).lt
  have K1 := hide ((unhide H1).below (Nat.le_refl _) (unhide HB))
  have K2 := hide ((unhide H2).below (Nat.le_refl _) (unhide HB))
  obtain ⟨rc, rsh, rdt, rp, hr⟩ : ∃ rc rsh rdt rp, scalar1 2 c sh dt = ⟨rc, rsh, rdt, rp⟩ := ⟨_, _, _, _, rfl⟩
  have hcl := Scalar1_any 2 c a1 a2 n1 n2 c1 c2 sh dt w3 (unhide K1) (unhide K2)
  rw [hr] at hcl
  have HS : Hid (monadA 2 c sh dt = ⟨rc, rsh, rdt, rp⟩) := by rw [← hr]; exact unhide HM
  clear hr HM
  go_wp2_with (go_at_call 68; refine hcl.mono ?_; rintro e w4 ⟨b1, m1, d1, b2, m2, d2, rfl, r1, r2, hb4⟩; have R1 := hide r1; have R2 := hide r2; have HX := hide ((unhide E6).below (Nat.le_refl _) hb4); have HBX := hide ((unhide HB).trans (hb4.mono (unhide HB).size)); simp only; obtain ⟨q0, q1, q2, q3, q4, q5, q6⟩ := (unhide HX).all; clear r1 r2 hb4)
  have hx := (unhide HX).sets (c' := rc) (u1 := .slice b1 m1 d1) (u2 := .slice b2 m2 d2)
  obtain ⟨s0, s1, s2, _, _, _⟩ := hx.all
  refine bodyPost_ret (v := .tuple #[.agg #[.bool rc, .slice b1 m1 d1, .slice b2 m2 d2], .int .i64 rp]) (by simp [results, Tryz.results20, go_sem, s0, s1, s2]) rfl ?_
  rw [unhide HS]
  exact ⟨_, _, _, _, _, _, rfl, (unhide R1).sets (unhide HX) _ _ _, (unhide R2).sets (unhide HX) _ _ _, (((unhide HBX).setCell (by simp <;> omega) _).setCell (by simp <;> omega) _).setCell (by simp <;> omega) _⟩

set_option maxRecDepth 20000 in
set_option maxHeartbeats 8000000 in
theorem Monad_3 (c : Bool) (a1 a2 : Addr) (n1 n2 c1 c2 : Nat) (sh dt : List Int) (w : World) (h1 : Row w (some a1) n1 sh) (h2 : Row w (some a2) n2 dt) (hok : arrOk c sh dt = true) :
    Calls Tryz.prog 20 #[.int .i64 3, .agg #[.bool c, .slice (some a1) n1 c1, .slice (some a2) n2 c2]] w (GivesRow w (monadA 3 c sh dt)) := by
  have HM := hide (mon_one (op := 3) hok (by decide))
  have hl1 := hide h1.len
  have hl2 := hide h2.len
  have hs1 := h1.small
  have hs2 := h2.small
  have H1 := hide h1
  have H2 := hide h2
  have HR := hide hok
  clear h1 h2 hok
  obtain ⟨W0, hW0⟩ : ∃ W0, W0 = (w.alloc (.cells #[.bool c, .slice (some a1) n1 c1, .slice (some a2) n2 c2] 25)).alloc (.cells #[.bool false, .slice none 0 0, .slice none 0 0] 25) := ⟨_, rfl⟩
  obtain ⟨B4, B5, hB0⟩ := boxes2 (w := w) (c := c) (v1 := .slice (some a1) n1 c1) (v2 := .slice (some a2) n2 c2) (Below.refl _ _)
  rw [← hW0] at B4 B5 hB0
  have D4 := hide B4
  have D6 := hide B5
  have HB0 := hide hB0
  have hcall := ArrayOk_eq c (some a1) (some a2) n1 n2 c1 c2 sh dt W0 ((unhide H1).below (Nat.le_refl _) hB0) ((unhide H2).below (Nat.le_refl _) hB0) true HR
  obtain ⟨y0, y1, y2, y3, y4, y5, y6⟩ := B4.all
  rw [hW0] at hcall y0 y1 y2 y3 y4 y5 y6
  clear B4 B5 hB0
  go_enter Tryz.func20, Tryz.ntmps20
  go_upto_region 4 with (go_at_call 10; refine hcall.mono ?_; rintro e w3 ⟨rfl, hb3⟩; rw [← hW0] at hb3; have HB3 := hide hb3; have E4 := hide ((unhide D4).below (Nat.le_refl _) hb3); obtain ⟨x0, x1, x2, x3, x4, x5, x6⟩ := (unhide E4).all; clear hb3)
  have E6 := hide ((unhide D6).below (Nat.le_refl _) (unhide HB3))
  have HB := hide ((unhide HB0).trans ((unhide HB3).mono (unhide HB0).size))
  clear D4 D6 HB0 HB3 y0 y1 y2 y3 y4 y5 y6 hW0 W0 hcall
  have hz6 := (unhide E6).lt
  have K1 := hide ((unhide H1).below (Nat.le_refl _) (unhide HB))
  have K2 := hide ((unhide H2).below (Nat.le_refl _) (unhide HB))
  obtain ⟨rc, rsh, rdt, rp, hr⟩ : ∃ rc rsh rdt rp, scalar1 3 c sh dt = ⟨rc, rsh, rdt, rp⟩ := ⟨_, _, _, _, rfl⟩
  have hcl := Scalar1_any 3 c a1 a2 n1 n2 c1 c2 sh dt w3 (unhide K1) (unhide K2)
  rw [hr] at hcl
  have HS : Hid (monadA 3 c sh dt = ⟨rc, rsh, rdt, rp⟩) := by rw [← hr]; exact unhide HM
  clear hr HM
  go_wp2_with (go_at_call 68; refine hcl.mono ?_; rintro e w4 ⟨b1, m1, d1, b2, m2, d2, rfl, r1, r2, hb4⟩; have R1 := hide r1; have R2 := hide r2; have HX := hide ((unhide E6).below (Nat.le_refl _) hb4); have HBX := hide ((unhide HB).trans (hb4.mono (unhide HB).size)); simp only; obtain ⟨q0, q1, q2, q3, q4, q5, q6⟩ := (unhide HX).all; clear r1 r2 hb4)
  have hx := (unhide HX).sets (c' := rc) (u1 := .slice b1 m1 d1) (u2 := .slice b2 m2 d2)
  obtain ⟨s0, s1, s2, _, _, _⟩ := hx.all
  refine bodyPost_ret (v := .tuple #[.agg #[.bool rc, .slice b1 m1 d1, .slice b2 m2 d2], .int .i64 rp]) (by simp [results, Tryz.results20, go_sem, s0, s1, s2]) rfl ?_
  rw [unhide HS]
  exact ⟨_, _, _, _, _, _, rfl, (unhide R1).sets (unhide HX) _ _ _, (unhide R2).sets (unhide HX) _ _ _, (((unhide HBX).setCell (by simp <;> omega) _).setCell (by simp <;> omega) _).setCell (by simp <;> omega) _⟩

set_option maxRecDepth 20000 in
set_option maxHeartbeats 8000000 in
theorem Monad_7 (c : Bool) (a1 a2 : Addr) (n1 n2 c1 c2 : Nat) (sh dt : List Int) (w : World) (h1 : Row w (some a1) n1 sh) (h2 : Row w (some a2) n2 dt) (hok : arrOk c sh dt = true) :
    Calls Tryz.prog 20 #[.int .i64 7, .agg #[.bool c, .slice (some a1) n1 c1, .slice (some a2) n2 c2]] w (GivesRow w (monadA 7 c sh dt)) := by
  have HM := hide (mon_one (op := 7) hok (by decide))
  have hl1 := hide h1.len
  have hl2 := hide h2.len
  have hs1 := h1.small
  have hs2 := h2.small
  have H1 := hide h1
  have H2 := hide h2
  have HR := hide hok
  clear h1 h2 hok
  obtain ⟨W0, hW0⟩ : ∃ W0, W0 = (w.alloc (.cells #[.bool c, .slice (some a1) n1 c1, .slice (some a2) n2 c2] 25)).alloc (.cells #[.bool false, .slice none 0 0, .slice none 0 0] 25) := ⟨_, rfl⟩
  obtain ⟨B4, B5, hB0⟩ := boxes2 (w := w) (c := c) (v1 := .slice (some a1) n1 c1) (v2 := .slice (some a2) n2 c2) (Below.refl _ _)
  rw [← hW0] at B4 B5 hB0
  have D4 := hide B4
  have D6 := hide B5
  have HB0 := hide hB0
  have hcall := ArrayOk_eq c (some a1) (some a2) n1 n2 c1 c2 sh dt W0 ((unhide H1).below (Nat.le_refl _) hB0) ((unhide H2).below (Nat.le_refl _) hB0) true HR
  obtain ⟨y0, y1, y2, y3, y4, y5, y6⟩ := B4.all
  rw [hW0] at hcall y0 y1 y2 y3 y4 y5 y6
  clear B4 B5 hB0
  go_enter Tryz.func20, Tryz.ntmps20
  go_upto_region 4 with (go_at_call 10; refine hcall.mono ?_; rintro e w3 ⟨rfl, hb3⟩; rw [← hW0] at hb3; have HB3 := hide hb3; have E4 := hide ((unhide D4).below (Nat.le_refl _) hb3); obtain ⟨x0, x1, x2, x3, x4, x5, x6⟩ := (unhide E4).all; clear hb3)
  have E6 := hide ((unhide D6).below (Nat.le_refl _) (unhide HB3))
  have HB := hide ((unhide HB0).trans ((unhide HB3).mono (unhide HB0).size))
  clear D4 D6 HB0 HB3 y0 y1 y2 y3 y4 y5 y6 hW0 W0 hcall
  have hz6 := (unhide E6).lt
  have K1 := hide ((unhide H1).below (Nat.le_refl _) (unhide HB))
  have K2 := hide ((unhide H2).below (Nat.le_refl _) (unhide HB))
  obtain ⟨rc, rsh, rdt, rp, hr⟩ : ∃ rc rsh rdt rp, scalar1 7 c sh dt = ⟨rc, rsh, rdt, rp⟩ := ⟨_, _, _, _, rfl⟩
  have hcl := Scalar1_any 7 c a1 a2 n1 n2 c1 c2 sh dt w3 (unhide K1) (unhide K2)
  rw [hr] at hcl
  have HS : Hid (monadA 7 c sh dt = ⟨rc, rsh, rdt, rp⟩) := by rw [← hr]; exact unhide HM
  clear hr HM
  go_wp2_with (go_at_call 68; refine hcl.mono ?_; rintro e w4 ⟨b1, m1, d1, b2, m2, d2, rfl, r1, r2, hb4⟩; have R1 := hide r1; have R2 := hide r2; have HX := hide ((unhide E6).below (Nat.le_refl _) hb4); have HBX := hide ((unhide HB).trans (hb4.mono (unhide HB).size)); simp only; obtain ⟨q0, q1, q2, q3, q4, q5, q6⟩ := (unhide HX).all; clear r1 r2 hb4)
  have hx := (unhide HX).sets (c' := rc) (u1 := .slice b1 m1 d1) (u2 := .slice b2 m2 d2)
  obtain ⟨s0, s1, s2, _, _, _⟩ := hx.all
  refine bodyPost_ret (v := .tuple #[.agg #[.bool rc, .slice b1 m1 d1, .slice b2 m2 d2], .int .i64 rp]) (by simp [results, Tryz.results20, go_sem, s0, s1, s2]) rfl ?_
  rw [unhide HS]
  exact ⟨_, _, _, _, _, _, rfl, (unhide R1).sets (unhide HX) _ _ _, (unhide R2).sets (unhide HX) _ _ _, (((unhide HBX).setCell (by simp <;> omega) _).setCell (by simp <;> omega) _).setCell (by simp <;> omega) _⟩

set_option maxRecDepth 20000 in
set_option maxHeartbeats 8000000 in
theorem Monad_17 (c : Bool) (a1 a2 : Addr) (n1 n2 c1 c2 : Nat) (sh dt : List Int) (w : World) (h1 : Row w (some a1) n1 sh) (h2 : Row w (some a2) n2 dt) (hok : arrOk c sh dt = true) :
    Calls Tryz.prog 20 #[.int .i64 17, .agg #[.bool c, .slice (some a1) n1 c1, .slice (some a2) n2 c2]] w (GivesRow w (monadA 17 c sh dt)) := by
  have HM := hide (mon_one (op := 17) hok (by decide))
  have hl1 := hide h1.len
  have hl2 := hide h2.len
  have hs1 := h1.small
  have hs2 := h2.small
  have H1 := hide h1
  have H2 := hide h2
  have HR := hide hok
  clear h1 h2 hok
  obtain ⟨W0, hW0⟩ : ∃ W0, W0 = (w.alloc (.cells #[.bool c, .slice (some a1) n1 c1, .slice (some a2) n2 c2] 25)).alloc (.cells #[.bool false, .slice none 0 0, .slice none 0 0] 25) := ⟨_, rfl⟩
  obtain ⟨B4, B5, hB0⟩ := boxes2 (w := w) (c := c) (v1 := .slice (some a1) n1 c1) (v2 := .slice (some a2) n2 c2) (Below.refl _ _)
  rw [← hW0] at B4 B5 hB0
  have D4 := hide B4
  have D6 := hide B5
  have HB0 := hide hB0
  have hcall := ArrayOk_eq c (some a1) (some a2) n1 n2 c1 c2 sh dt W0 ((unhide H1).below (Nat.le_refl _) hB0) ((unhide H2).below (Nat.le_refl _) hB0) true HR
  obtain ⟨y0, y1, y2, y3, y4, y5, y6⟩ := B4.all
  rw [hW0] at hcall y0 y1 y2 y3 y4 y5 y6
  clear B4 B5 hB0
  go_enter Tryz.func20, Tryz.ntmps20
  go_upto_region 4 with (go_at_call 10; refine hcall.mono ?_; rintro e w3 ⟨rfl, hb3⟩; rw [← hW0] at hb3; have HB3 := hide hb3; have E4 := hide ((unhide D4).below (Nat.le_refl _) hb3); obtain ⟨x0, x1, x2, x3, x4, x5, x6⟩ := (unhide E4).all; clear hb3)
  have E6 := hide ((unhide D6).below (Nat.le_refl _) (unhide HB3))
  have HB := hide ((unhide HB0).trans ((unhide HB3).mono (unhide HB0).size))
  clear D4 D6 HB0 HB3 y0 y1 y2 y3 y4 y5 y6 hW0 W0 hcall
  have hz6 := (unhide E6).lt
  have K1 := hide ((unhide H1).below (Nat.le_refl _) (unhide HB))
  have K2 := hide ((unhide H2).below (Nat.le_refl _) (unhide HB))
  obtain ⟨rc, rsh, rdt, rp, hr⟩ : ∃ rc rsh rdt rp, scalar1 17 c sh dt = ⟨rc, rsh, rdt, rp⟩ := ⟨_, _, _, _, rfl⟩
  have hcl := Scalar1_any 17 c a1 a2 n1 n2 c1 c2 sh dt w3 (unhide K1) (unhide K2)
  rw [hr] at hcl
  have HS : Hid (monadA 17 c sh dt = ⟨rc, rsh, rdt, rp⟩) := by rw [← hr]; exact unhide HM
  clear hr HM
  go_wp2_with (go_at_call 68; refine hcl.mono ?_; rintro e w4 ⟨b1, m1, d1, b2, m2, d2, rfl, r1, r2, hb4⟩; have R1 := hide r1; have R2 := hide r2; have HX := hide ((unhide E6).below (Nat.le_refl _) hb4); have HBX := hide ((unhide HB).trans (hb4.mono (unhide HB).size)); simp only; obtain ⟨q0, q1, q2, q3, q4, q5, q6⟩ := (unhide HX).all; clear r1 r2 hb4)
  have hx := (unhide HX).sets (c' := rc) (u1 := .slice b1 m1 d1) (u2 := .slice b2 m2 d2)
  obtain ⟨s0, s1, s2, _, _, _⟩ := hx.all
  refine bodyPost_ret (v := .tuple #[.agg #[.bool rc, .slice b1 m1 d1, .slice b2 m2 d2], .int .i64 rp]) (by simp [results, Tryz.results20, go_sem, s0, s1, s2]) rfl ?_
  rw [unhide HS]
  exact ⟨_, _, _, _, _, _, rfl, (unhide R1).sets (unhide HX) _ _ _, (unhide R2).sets (unhide HX) _ _ _, (((unhide HBX).setCell (by simp <;> omega) _).setCell (by simp <;> omega) _).setCell (by simp <;> omega) _⟩

set_option maxRecDepth 20000 in
set_option maxHeartbeats 8000000 in
theorem Monad_19 (c : Bool) (a1 a2 : Addr) (n1 n2 c1 c2 : Nat) (sh dt : List Int) (w : World) (h1 : Row w (some a1) n1 sh) (h2 : Row w (some a2) n2 dt) (hok : arrOk c sh dt = true) :
    Calls Tryz.prog 20 #[.int .i64 19, .agg #[.bool c, .slice (some a1) n1 c1, .slice (some a2) n2 c2]] w (GivesRow w (monadA 19 c sh dt)) := by
  have HM := hide (show monadA 19 c sh dt = iotaA c dt from (mon_is hok (by decide) (by decide)).trans (by simp))
  have hl1 := hide h1.len
  have hl2 := hide h2.len
  have hs1 := h1.small
  have hs2 := h2.small
  have H1 := hide h1
  have H2 := hide h2
  have HR := hide hok
  clear h1 h2 hok
  obtain ⟨W0, hW0⟩ : ∃ W0, W0 = (w.alloc (.cells #[.bool c, .slice (some a1) n1 c1, .slice (some a2) n2 c2] 25)).alloc (.cells #[.bool false, .slice none 0 0, .slice none 0 0] 25) := ⟨_, rfl⟩
  obtain ⟨B4, B5, hB0⟩ := boxes2 (w := w) (c := c) (v1 := .slice (some a1) n1 c1) (v2 := .slice (some a2) n2 c2) (Below.refl _ _)
  rw [← hW0] at B4 B5 hB0
  have D4 := hide B4
  have D6 := hide B5
  have HB0 := hide hB0
  have hcall := ArrayOk_eq c (some a1) (some a2) n1 n2 c1 c2 sh dt W0 ((unhide H1).below (Nat.le_refl _) hB0) ((unhide H2).below (Nat.le_refl _) hB0) true HR
  obtain ⟨y0, y1, y2, y3, y4, y5, y6⟩ := B4.all
  rw [hW0] at hcall y0 y1 y2 y3 y4 y5 y6
  clear B4 B5 hB0
  go_enter Tryz.func20, Tryz.ntmps20
  go_upto_region 8 with (go_at_call 10; refine hcall.mono ?_; rintro e w3 ⟨rfl, hb3⟩; rw [← hW0] at hb3; have HB3 := hide hb3; have E4 := hide ((unhide D4).below (Nat.le_refl _) hb3); obtain ⟨x0, x1, x2, x3, x4, x5, x6⟩ := (unhide E4).all; clear hb3)
  have E6 := hide ((unhide D6).below (Nat.le_refl _) (unhide HB3))
  have HB := hide ((unhide HB0).trans ((unhide HB3).mono (unhide HB0).size))
  clear D4 D6 HB0 HB3 y0 y1 y2 y3 y4 y5 y6 hW0 W0 hcall
  have hz6 := (unhide E6).lt
  have K1 := hide ((unhide H1).below (Nat.le_refl _) (unhide HB))
  have K2 := hide ((unhide H2).below (Nat.le_refl _) (unhide HB))
  obtain ⟨rc, rsh, rdt, rp, hr⟩ : ∃ rc rsh rdt rp, iotaA c dt = ⟨rc, rsh, rdt, rp⟩ := ⟨_, _, _, _, rfl⟩
  have hcl := l6Iota_any c (some a1) a2 n1 n2 c1 c2 dt w3 (unhide K2) (fun k hk => dataOk_bd (unhide HR) (by rw [unhide hl2]; exact hk))
  rw [hr] at hcl
  have HS : Hid (monadA 19 c sh dt = ⟨rc, rsh, rdt, rp⟩) := by rw [← hr]; exact unhide HM
  clear hr HM
  go_wp2_with (go_at_call 70; refine hcl.mono ?_; rintro e w4 ⟨b1, m1, d1, b2, m2, d2, rfl, r1, r2, hb4⟩; have R1 := hide r1; have R2 := hide r2; have HX := hide ((unhide E6).below (Nat.le_refl _) hb4); have HBX := hide ((unhide HB).trans (hb4.mono (unhide HB).size)); simp only; obtain ⟨q0, q1, q2, q3, q4, q5, q6⟩ := (unhide HX).all; clear r1 r2 hb4)
  have hx := (unhide HX).sets (c' := rc) (u1 := .slice b1 m1 d1) (u2 := .slice b2 m2 d2)
  obtain ⟨s0, s1, s2, _, _, _⟩ := hx.all
  refine bodyPost_ret (v := .tuple #[.agg #[.bool rc, .slice b1 m1 d1, .slice b2 m2 d2], .int .i64 rp]) (by simp [results, Tryz.results20, go_sem, s0, s1, s2]) rfl ?_
  rw [unhide HS]
  exact ⟨_, _, _, _, _, _, rfl, (unhide R1).sets (unhide HX) _ _ _, (unhide R2).sets (unhide HX) _ _ _, (((unhide HBX).setCell (by simp <;> omega) _).setCell (by simp <;> omega) _).setCell (by simp <;> omega) _⟩

set_option maxRecDepth 20000 in
set_option maxHeartbeats 8000000 in
theorem Monad_26 (c : Bool) (a1 a2 : Addr) (n1 n2 c1 c2 : Nat) (sh dt : List Int) (w : World) (h1 : Row w (some a1) n1 sh) (h2 : Row w (some a2) n2 dt) (hok : arrOk c sh dt = true) :
    Calls Tryz.prog 20 #[.int .i64 26, .agg #[.bool c, .slice (some a1) n1 c1, .slice (some a2) n2 c2]] w (GivesRow w (monadA 26 c sh dt)) := by
  have HM := hide (show monadA 26 c sh dt = gradeA c sh dt false from (mon_is hok (by decide) (by decide)).trans (by simp))
  have hl1 := hide h1.len
  have hl2 := hide h2.len
  have hs1 := h1.small
  have hs2 := h2.small
  have H1 := hide h1
  have H2 := hide h2
  have HR := hide hok
  clear h1 h2 hok
  obtain ⟨W0, hW0⟩ : ∃ W0, W0 = (w.alloc (.cells #[.bool c, .slice (some a1) n1 c1, .slice (some a2) n2 c2] 25)).alloc (.cells #[.bool false, .slice none 0 0, .slice none 0 0] 25) := ⟨_, rfl⟩
  obtain ⟨B4, B5, hB0⟩ := boxes2 (w := w) (c := c) (v1 := .slice (some a1) n1 c1) (v2 := .slice (some a2) n2 c2) (Below.refl _ _)
  rw [← hW0] at B4 B5 hB0
  have D4 := hide B4
  have D6 := hide B5
  have HB0 := hide hB0
  have hcall := ArrayOk_eq c (some a1) (some a2) n1 n2 c1 c2 sh dt W0 ((unhide H1).below (Nat.le_refl _) hB0) ((unhide H2).below (Nat.le_refl _) hB0) true HR
  obtain ⟨y0, y1, y2, y3, y4, y5, y6⟩ := B4.all
  rw [hW0] at hcall y0 y1 y2 y3 y4 y5 y6
  clear B4 B5 hB0
  go_enter Tryz.func20, Tryz.ntmps20
  go_upto_region 21 with (go_at_call 10; refine hcall.mono ?_; rintro e w3 ⟨rfl, hb3⟩; rw [← hW0] at hb3; have HB3 := hide hb3; have E4 := hide ((unhide D4).below (Nat.le_refl _) hb3); obtain ⟨x0, x1, x2, x3, x4, x5, x6⟩ := (unhide E4).all; clear hb3)
  have E6 := hide ((unhide D6).below (Nat.le_refl _) (unhide HB3))
  have HB := hide ((unhide HB0).trans ((unhide HB3).mono (unhide HB0).size))
  clear D4 D6 HB0 HB3 y0 y1 y2 y3 y4 y5 y6 hW0 W0 hcall
  have hz6 := (unhide E6).lt
  have K1 := hide ((unhide H1).below (Nat.le_refl _) (unhide HB))
  have K2 := hide ((unhide H2).below (Nat.le_refl _) (unhide HB))
  obtain ⟨rc, rsh, rdt, rp, hr⟩ : ∃ rc rsh rdt rp, gradeA c sh dt false = ⟨rc, rsh, rdt, rp⟩ := ⟨_, _, _, _, rfl⟩
  have hcl := Grade_any c false a1 a2 n1 n2 c1 c2 sh dt w3 (unhide K1) (unhide K2)
  rw [hr] at hcl
  have HS : Hid (monadA 26 c sh dt = ⟨rc, rsh, rdt, rp⟩) := by rw [← hr]; exact unhide HM
  clear hr HM
  go_wp2_with (go_at_call 75; refine hcl.mono ?_; rintro e w4 ⟨b1, m1, d1, b2, m2, d2, rfl, r1, r2, hb4⟩; have R1 := hide r1; have R2 := hide r2; have HX := hide ((unhide E6).below (Nat.le_refl _) hb4); have HBX := hide ((unhide HB).trans (hb4.mono (unhide HB).size)); simp only; obtain ⟨q0, q1, q2, q3, q4, q5, q6⟩ := (unhide HX).all; clear r1 r2 hb4)
  have hx := (unhide HX).sets (c' := rc) (u1 := .slice b1 m1 d1) (u2 := .slice b2 m2 d2)
  obtain ⟨s0, s1, s2, _, _, _⟩ := hx.all
  refine bodyPost_ret (v := .tuple #[.agg #[.bool rc, .slice b1 m1 d1, .slice b2 m2 d2], .int .i64 rp]) (by simp [results, Tryz.results20, go_sem, s0, s1, s2]) rfl ?_
  rw [unhide HS]
  exact ⟨_, _, _, _, _, _, rfl, (unhide R1).sets (unhide HX) _ _ _, (unhide R2).sets (unhide HX) _ _ _, (((unhide HBX).setCell (by simp <;> omega) _).setCell (by simp <;> omega) _).setCell (by simp <;> omega) _⟩

set_option maxRecDepth 20000 in
set_option maxHeartbeats 8000000 in
theorem Monad_27 (c : Bool) (a1 a2 : Addr) (n1 n2 c1 c2 : Nat) (sh dt : List Int) (w : World) (h1 : Row w (some a1) n1 sh) (h2 : Row w (some a2) n2 dt) (hok : arrOk c sh dt = true) :
    Calls Tryz.prog 20 #[.int .i64 27, .agg #[.bool c, .slice (some a1) n1 c1, .slice (some a2) n2 c2]] w (GivesRow w (monadA 27 c sh dt)) := by
  have HM := hide (show monadA 27 c sh dt = gradeA c sh dt true from (mon_is hok (by decide) (by decide)).trans (by simp))
  have hl1 := hide h1.len
  have hl2 := hide h2.len
  have hs1 := h1.small
  have hs2 := h2.small
  have H1 := hide h1
  have H2 := hide h2
  have HR := hide hok
  clear h1 h2 hok
  obtain ⟨W0, hW0⟩ : ∃ W0, W0 = (w.alloc (.cells #[.bool c, .slice (some a1) n1 c1, .slice (some a2) n2 c2] 25)).alloc (.cells #[.bool false, .slice none 0 0, .slice none 0 0] 25) := ⟨_, rfl⟩
  obtain ⟨B4, B5, hB0⟩ := boxes2 (w := w) (c := c) (v1 := .slice (some a1) n1 c1) (v2 := .slice (some a2) n2 c2) (Below.refl _ _)
  rw [← hW0] at B4 B5 hB0
  have D4 := hide B4
  have D6 := hide B5
  have HB0 := hide hB0
  have hcall := ArrayOk_eq c (some a1) (some a2) n1 n2 c1 c2 sh dt W0 ((unhide H1).below (Nat.le_refl _) hB0) ((unhide H2).below (Nat.le_refl _) hB0) true HR
  obtain ⟨y0, y1, y2, y3, y4, y5, y6⟩ := B4.all
  rw [hW0] at hcall y0 y1 y2 y3 y4 y5 y6
  clear B4 B5 hB0
  go_enter Tryz.func20, Tryz.ntmps20
  go_upto_region 21 with (go_at_call 10; refine hcall.mono ?_; rintro e w3 ⟨rfl, hb3⟩; rw [← hW0] at hb3; have HB3 := hide hb3; have E4 := hide ((unhide D4).below (Nat.le_refl _) hb3); obtain ⟨x0, x1, x2, x3, x4, x5, x6⟩ := (unhide E4).all; clear hb3)
  have E6 := hide ((unhide D6).below (Nat.le_refl _) (unhide HB3))
  have HB := hide ((unhide HB0).trans ((unhide HB3).mono (unhide HB0).size))
  clear D4 D6 HB0 HB3 y0 y1 y2 y3 y4 y5 y6 hW0 W0 hcall
  have hz6 := (unhide E6).lt
  have K1 := hide ((unhide H1).below (Nat.le_refl _) (unhide HB))
  have K2 := hide ((unhide H2).below (Nat.le_refl _) (unhide HB))
  obtain ⟨rc, rsh, rdt, rp, hr⟩ : ∃ rc rsh rdt rp, gradeA c sh dt true = ⟨rc, rsh, rdt, rp⟩ := ⟨_, _, _, _, rfl⟩
  have hcl := Grade_any c true a1 a2 n1 n2 c1 c2 sh dt w3 (unhide K1) (unhide K2)
  rw [hr] at hcl
  have HS : Hid (monadA 27 c sh dt = ⟨rc, rsh, rdt, rp⟩) := by rw [← hr]; exact unhide HM
  clear hr HM
  go_wp2_with (go_at_call 75; refine hcl.mono ?_; rintro e w4 ⟨b1, m1, d1, b2, m2, d2, rfl, r1, r2, hb4⟩; have R1 := hide r1; have R2 := hide r2; have HX := hide ((unhide E6).below (Nat.le_refl _) hb4); have HBX := hide ((unhide HB).trans (hb4.mono (unhide HB).size)); simp only; obtain ⟨q0, q1, q2, q3, q4, q5, q6⟩ := (unhide HX).all; clear r1 r2 hb4)
  have hx := (unhide HX).sets (c' := rc) (u1 := .slice b1 m1 d1) (u2 := .slice b2 m2 d2)
  obtain ⟨s0, s1, s2, _, _, _⟩ := hx.all
  refine bodyPost_ret (v := .tuple #[.agg #[.bool rc, .slice b1 m1 d1, .slice b2 m2 d2], .int .i64 rp]) (by simp [results, Tryz.results20, go_sem, s0, s1, s2]) rfl ?_
  rw [unhide HS]
  exact ⟨_, _, _, _, _, _, rfl, (unhide R1).sets (unhide HX) _ _ _, (unhide R2).sets (unhide HX) _ _ _, (((unhide HBX).setCell (by simp <;> omega) _).setCell (by simp <;> omega) _).setCell (by simp <;> omega) _⟩

set_option maxRecDepth 20000 in
set_option maxHeartbeats 8000000 in
theorem Monad_21 (c : Bool) (a1 a2 : Addr) (n1 n2 c1 c2 : Nat) (sh dt : List Int) (w : World) (h1 : Row w (some a1) n1 sh) (h2 : Row w (some a2) n2 dt) (hok : arrOk c sh dt = true) :
    Calls Tryz.prog 20 #[.int .i64 21, .agg #[.bool c, .slice (some a1) n1 c1, .slice (some a2) n2 c2]] w (GivesRow w (monadA 21 c sh dt)) := by
  have HM := hide (show monadA 21 c sh dt = revA c sh dt false from (mon_is hok (by decide) (by decide)).trans (by simp))
  have hl1 := hide h1.len
  have hl2 := hide h2.len
  have hs1 := h1.small
  have hs2 := h2.small
  have H1 := hide h1
  have H2 := hide h2
  have HR := hide hok
  clear h1 h2 hok
  obtain ⟨W0, hW0⟩ : ∃ W0, W0 = (w.alloc (.cells #[.bool c, .slice (some a1) n1 c1, .slice (some a2) n2 c2] 25)).alloc (.cells #[.bool false, .slice none 0 0, .slice none 0 0] 25) := ⟨_, rfl⟩
  obtain ⟨B4, B5, hB0⟩ := boxes2 (w := w) (c := c) (v1 := .slice (some a1) n1 c1) (v2 := .slice (some a2) n2 c2) (Below.refl _ _)
  rw [← hW0] at B4 B5 hB0
  have D4 := hide B4
  have D6 := hide B5
  have HB0 := hide hB0
  have hcall := ArrayOk_eq c (some a1) (some a2) n1 n2 c1 c2 sh dt W0 ((unhide H1).below (Nat.le_refl _) hB0) ((unhide H2).below (Nat.le_refl _) hB0) true HR
  obtain ⟨y0, y1, y2, y3, y4, y5, y6⟩ := B4.all
  rw [hW0] at hcall y0 y1 y2 y3 y4 y5 y6
  clear B4 B5 hB0
  go_enter Tryz.func20, Tryz.ntmps20
  go_upto_region 12 with (go_at_call 10; refine hcall.mono ?_; rintro e w3 ⟨rfl, hb3⟩; rw [← hW0] at hb3; have HB3 := hide hb3; have E4 := hide ((unhide D4).below (Nat.le_refl _) hb3); obtain ⟨x0, x1, x2, x3, x4, x5, x6⟩ := (unhide E4).all; clear hb3)
  have E6 := hide ((unhide D6).below (Nat.le_refl _) (unhide HB3))
  have HB := hide ((unhide HB0).trans ((unhide HB3).mono (unhide HB0).size))
  clear D4 D6 HB0 HB3 y0 y1 y2 y3 y4 y5 y6 hW0 W0 hcall
  have hz6 := (unhide E6).lt
  have K1 := hide ((unhide H1).below (Nat.le_refl _) (unhide HB))
  have K2 := hide ((unhide H2).below (Nat.le_refl _) (unhide HB))
  obtain ⟨rc, rsh, rdt, rp, hr⟩ : ∃ rc rsh rdt rp, revA c sh dt false = ⟨rc, rsh, rdt, rp⟩ := ⟨_, _, _, _, rfl⟩
  have hrp : rp = 0 := by have := congrArg Ans.code hr; unfold revA at this; split at this <;> exact this.symm
  subst hrp
  have hcl := l6Reversed_any c a1 a2 n1 n2 c1 c2 sh dt false w3 (unhide K1) (unhide K2) (unhide HR)
  rw [hr] at hcl
  have HS : Hid (monadA 21 c sh dt = ⟨rc, rsh, rdt, 0⟩) := by rw [← hr]; exact unhide HM
  clear hr HM
  go_wp2_with (go_at_call 72; refine hcl.mono ?_; rintro e w4 ⟨b1, m1, d1, b2, m2, d2, rfl, r1, r2, hb4⟩; have R1 := hide r1; have R2 := hide r2; have HX := hide ((unhide E6).below (Nat.le_refl _) hb4); have HBX := hide ((unhide HB).trans (hb4.mono (unhide HB).size)); simp only; obtain ⟨q0, q1, q2, q3, q4, q5, q6⟩ := (unhide HX).all; clear r1 r2 hb4)
  have hx := (unhide HX).sets (c' := rc) (u1 := .slice b1 m1 d1) (u2 := .slice b2 m2 d2)
  obtain ⟨s0, s1, s2, _, _, _⟩ := hx.all
  refine bodyPost_ret (v := .tuple #[.agg #[.bool rc, .slice b1 m1 d1, .slice b2 m2 d2], .int .i64 0]) (by simp [results, Tryz.results20, go_sem, s0, s1, s2]) rfl ?_
  rw [unhide HS]
  exact ⟨_, _, _, _, _, _, rfl, (unhide R1).sets (unhide HX) _ _ _, (unhide R2).sets (unhide HX) _ _ _, (((unhide HBX).setCell (by simp <;> omega) _).setCell (by simp <;> omega) _).setCell (by simp <;> omega) _⟩

set_option maxRecDepth 20000 in
set_option maxHeartbeats 8000000 in
theorem Monad_22 (c : Bool) (a1 a2 : Addr) (n1 n2 c1 c2 : Nat) (sh dt : List Int) (w : World) (h1 : Row w (some a1) n1 sh) (h2 : Row w (some a2) n2 dt) (hok : arrOk c sh dt = true) :
    Calls Tryz.prog 20 #[.int .i64 22, .agg #[.bool c, .slice (some a1) n1 c1, .slice (some a2) n2 c2]] w (GivesRow w (monadA 22 c sh dt)) := by
  have HM := hide (show monadA 22 c sh dt = revA c sh dt true from (mon_is hok (by decide) (by decide)).trans (by simp))
  have hl1 := hide h1.len
  have hl2 := hide h2.len
  have hs1 := h1.small
  have hs2 := h2.small
  have H1 := hide h1
  have H2 := hide h2
  have HR := hide hok
  clear h1 h2 hok
  obtain ⟨W0, hW0⟩ : ∃ W0, W0 = (w.alloc (.cells #[.bool c, .slice (some a1) n1 c1, .slice (some a2) n2 c2] 25)).alloc (.cells #[.bool false, .slice none 0 0, .slice none 0 0] 25) := ⟨_, rfl⟩
  obtain ⟨B4, B5, hB0⟩ := boxes2 (w := w) (c := c) (v1 := .slice (some a1) n1 c1) (v2 := .slice (some a2) n2 c2) (Below.refl _ _)
  rw [← hW0] at B4 B5 hB0
  have D4 := hide B4
  have D6 := hide B5
  have HB0 := hide hB0
  have hcall := ArrayOk_eq c (some a1) (some a2) n1 n2 c1 c2 sh dt W0 ((unhide H1).below (Nat.le_refl _) hB0) ((unhide H2).below (Nat.le_refl _) hB0) true HR
  obtain ⟨y0, y1, y2, y3, y4, y5, y6⟩ := B4.all
  rw [hW0] at hcall y0 y1 y2 y3 y4 y5 y6
  clear B4 B5 hB0
  go_enter Tryz.func20, Tryz.ntmps20
  go_upto_region 12 with (go_at_call 10; refine hcall.mono ?_; rintro e w3 ⟨rfl, hb3⟩; rw [← hW0] at hb3; have HB3 := hide hb3; have E4 := hide ((unhide D4).below (Nat.le_refl _) hb3); obtain ⟨x0, x1, x2, x3, x4, x5, x6⟩ := (unhide E4).all; clear hb3)
  have E6 := hide ((unhide D6).below (Nat.le_refl _) (unhide HB3))
  have HB := hide ((unhide HB0).trans ((unhide HB3).mono (unhide HB0).size))
  clear D4 D6 HB0 HB3 y0 y1 y2 y3 y4 y5 y6 hW0 W0 hcall
  have hz6 := (unhide E6).lt
  have K1 := hide ((unhide H1).below (Nat.le_refl _) (unhide HB))
  have K2 := hide ((unhide H2).below (Nat.le_refl _) (unhide HB))
  obtain ⟨rc, rsh, rdt, rp, hr⟩ : ∃ rc rsh rdt rp, revA c sh dt true = ⟨rc, rsh, rdt, rp⟩ := ⟨_, _, _, _, rfl⟩
  have hrp : rp = 0 := by have := congrArg Ans.code hr; unfold revA at this; split at this <;> exact this.symm
  subst hrp
  have hcl := l6Reversed_any c a1 a2 n1 n2 c1 c2 sh dt true w3 (unhide K1) (unhide K2) (unhide HR)
  rw [hr] at hcl
  have HS : Hid (monadA 22 c sh dt = ⟨rc, rsh, rdt, 0⟩) := by rw [← hr]; exact unhide HM
  clear hr HM
  go_wp2_with (go_at_call 72; refine hcl.mono ?_; rintro e w4 ⟨b1, m1, d1, b2, m2, d2, rfl, r1, r2, hb4⟩; have R1 := hide r1; have R2 := hide r2; have HX := hide ((unhide E6).below (Nat.le_refl _) hb4); have HBX := hide ((unhide HB).trans (hb4.mono (unhide HB).size)); simp only; obtain ⟨q0, q1, q2, q3, q4, q5, q6⟩ := (unhide HX).all; clear r1 r2 hb4)
  have hx := (unhide HX).sets (c' := rc) (u1 := .slice b1 m1 d1) (u2 := .slice b2 m2 d2)
  obtain ⟨s0, s1, s2, _, _, _⟩ := hx.all
  refine bodyPost_ret (v := .tuple #[.agg #[.bool rc, .slice b1 m1 d1, .slice b2 m2 d2], .int .i64 0]) (by simp [results, Tryz.results20, go_sem, s0, s1, s2]) rfl ?_
  rw [unhide HS]
  exact ⟨_, _, _, _, _, _, rfl, (unhide R1).sets (unhide HX) _ _ _, (unhide R2).sets (unhide HX) _ _ _, (((unhide HBX).setCell (by simp <;> omega) _).setCell (by simp <;> omega) _).setCell (by simp <;> omega) _⟩

set_option maxRecDepth 20000 in
set_option maxHeartbeats 8000000 in
theorem Monad_18 (c : Bool) (a1 a2 : Addr) (n1 n2 c1 c2 : Nat) (sh dt : List Int) (w : World) (h1 : Row w (some a1) n1 sh) (h2 : Row w (some a2) n2 dt) (hok : arrOk c sh dt = true) :
    Calls Tryz.prog 20 #[.int .i64 18, .agg #[.bool c, .slice (some a1) n1 c1, .slice (some a2) n2 c2]] w (GivesRow w (monadA 18 c sh dt)) := by
  have HM := hide (show monadA 18 c sh dt = ⟨false, [(sh.length : Int)], sh, 0⟩ from (mon_is hok (by decide) (by decide)).trans (by simp))
  have hl1 := hide h1.len
  have hl2 := hide h2.len
  have hs1 := h1.small
  have hs2 := h2.small
  have H1 := hide h1
  have H2 := hide h2
  have HR := hide hok
  clear h1 h2 hok
  obtain ⟨W0, hW0⟩ : ∃ W0, W0 = (w.alloc (.cells #[.bool c, .slice (some a1) n1 c1, .slice (some a2) n2 c2] 25)).alloc (.cells #[.bool false, .slice none 0 0, .slice none 0 0] 25) := ⟨_, rfl⟩
  obtain ⟨B4, B5, hB0⟩ := boxes2 (w := w) (c := c) (v1 := .slice (some a1) n1 c1) (v2 := .slice (some a2) n2 c2) (Below.refl _ _)
  rw [← hW0] at B4 B5 hB0
  have D4 := hide B4
  have D6 := hide B5
  have HB0 := hide hB0
  have hcall := ArrayOk_eq c (some a1) (some a2) n1 n2 c1 c2 sh dt W0 ((unhide H1).below (Nat.le_refl _) hB0) ((unhide H2).below (Nat.le_refl _) hB0) true HR
  obtain ⟨y0, y1, y2, y3, y4, y5, y6⟩ := B4.all
  rw [hW0] at hcall y0 y1 y2 y3 y4 y5 y6
  clear B4 B5 hB0
  go_enter Tryz.func20, Tryz.ntmps20
  go_upto_region 6 with (go_at_call 10; refine hcall.mono ?_; rintro e w3 ⟨rfl, hb3⟩; rw [← hW0] at hb3; have HB3 := hide hb3; have E4 := hide ((unhide D4).below (Nat.le_refl _) hb3); obtain ⟨x0, x1, x2, x3, x4, x5, x6⟩ := (unhide E4).all; clear hb3)
  have E6 := hide ((unhide D6).below (Nat.le_refl _) (unhide HB3))
  have HB := hide ((unhide HB0).trans ((unhide HB3).mono (unhide HB0).size))
  clear D4 D6 HB0 HB3 y0 y1 y2 y3 y4 y5 y6 hW0 W0 hcall
  have hz6 := (unhide E6).lt
  have K1 := hide ((unhide H1).below (Nat.le_refl _) (unhide HB))
  have K2 := hide ((unhide H2).below (Nat.le_refl _) (unhide HB))
  have HS : Hid (monadA 18 c sh dt = ⟨false, [(n1 : Int)], sh, 0⟩) := by rw [← unhide hl1]; exact unhide HM
  have hcl := l6Vector_any a1 n1 c1 sh w3 (unhide K1)
  clear HM
  go_wp2_with (go_at_call 69; refine hcl.mono ?_; rintro e w4 ⟨g1, g2, d2, rfl, r1, r2, hb4⟩; have R1 := hide r1; have R2 := hide r2; have HX := hide ((unhide E6).below (Nat.le_refl _) hb4); have HBX := hide ((unhide HB).trans (hb4.mono (unhide HB).size)); obtain ⟨q0, q1, q2, q3, q4, q5, q6⟩ := (unhide HX).all; clear r1 r2 hb4)
  have hx := (unhide HX).sets (c' := false) (u1 := .slice (some ⟨g1, 0, none⟩) 1 1) (u2 := .slice (some ⟨g2, 0, none⟩) n1 d2)
  obtain ⟨s0, s1, s2, _, _, _⟩ := hx.all
  refine bodyPost_ret (v := .tuple #[.agg #[.bool false, .slice (some ⟨g1, 0, none⟩) 1 1, .slice (some ⟨g2, 0, none⟩) n1 d2], .int .i64 0]) (by simp [results, Tryz.results20, go_sem, s0, s1, s2]) rfl ?_
  rw [unhide HS]
  exact ⟨_, _, _, _, _, _, rfl, (unhide R1).sets (unhide HX) _ _ _, (unhide R2).sets (unhide HX) _ _ _, (((unhide HBX).setCell (by simp <;> omega) _).setCell (by simp <;> omega) _).setCell (by simp <;> omega) _⟩

set_option maxRecDepth 20000 in
set_option maxHeartbeats 8000000 in
theorem Monad_33 (c : Bool) (a1 a2 : Addr) (n1 n2 c1 c2 : Nat) (sh dt : List Int) (w : World) (h1 : Row w (some a1) n1 sh) (h2 : Row w (some a2) n2 dt) (hok : arrOk c sh dt = true) :
    Calls Tryz.prog 20 #[.int .i64 33, .agg #[.bool c, .slice (some a1) n1 c1, .slice (some a2) n2 c2]] w (GivesRow w (monadA 33 c sh dt)) := by
  have HM := hide (show monadA 33 c sh dt = ⟨false, [], [if sh = [] then 1 else sh.getD 0 0], 0⟩ from (mon_is hok (by decide) (by decide)).trans (by simp))
  have hl1 := hide h1.len
  have hl2 := hide h2.len
  have hs1 := h1.small
  have hs2 := h2.small
  have H1 := hide h1
  have H2 := hide h2
  have HR := hide hok
  clear h1 h2 hok
  obtain ⟨W0, hW0⟩ : ∃ W0, W0 = (w.alloc (.cells #[.bool c, .slice (some a1) n1 c1, .slice (some a2) n2 c2] 25)).alloc (.cells #[.bool false, .slice none 0 0, .slice none 0 0] 25) := ⟨_, rfl⟩
  obtain ⟨B4, B5, hB0⟩ := boxes2 (w := w) (c := c) (v1 := .slice (some a1) n1 c1) (v2 := .slice (some a2) n2 c2) (Below.refl _ _)
  rw [← hW0] at B4 B5 hB0
  have D4 := hide B4
  have D6 := hide B5
  have HB0 := hide hB0
  have hcall := ArrayOk_eq c (some a1) (some a2) n1 n2 c1 c2 sh dt W0 ((unhide H1).below (Nat.le_refl _) hB0) ((unhide H2).below (Nat.le_refl _) hB0) true HR
  obtain ⟨y0, y1, y2, y3, y4, y5, y6⟩ := B4.all
  rw [hW0] at hcall y0 y1 y2 y3 y4 y5 y6
  clear B4 B5 hB0
  go_enter Tryz.func20, Tryz.ntmps20
  go_upto_region 23 with (go_at_call 10; refine hcall.mono ?_; rintro e w3 ⟨rfl, hb3⟩; rw [← hW0] at hb3; have HB3 := hide hb3; have E4 := hide ((unhide D4).below (Nat.le_refl _) hb3); obtain ⟨x0, x1, x2, x3, x4, x5, x6⟩ := (unhide E4).all; clear hb3)
  have E6 := hide ((unhide D6).below (Nat.le_refl _) (unhide HB3))
  have HB := hide ((unhide HB0).trans ((unhide HB3).mono (unhide HB0).size))
  clear D4 D6 HB0 HB3 y0 y1 y2 y3 y4 y5 y6 hW0 W0 hcall
  have hz6 := (unhide E6).lt
  have K1 := hide ((unhide H1).below (Nat.le_refl _) (unhide HB))
  have K2 := hide ((unhide H2).below (Nat.le_refl _) (unhide HB))
  by_cases hn : n1 = 0
  · obtain ⟨v, hv⟩ : ∃ v : Int, v = 1 := ⟨_, rfl⟩
    have HS : Hid (monadA 33 c sh dt = ⟨false, [], [v], 0⟩) := by
      show _ = _
      rw [unhide HM, if_pos (List.length_eq_zero_iff.mp (by rw [unhide hl1]; exact hn)), hv]
    have g0 : ¬ 0 < n1 := by omega
    clear hn HM
    obtain ⟨q0, q1, q2, q3, q4, q5, q6⟩ := (unhide E6).all
    subst hv
    go_wp2_with fail
    have hx := (unhide E6).sets (c' := false) (u1 := .slice (some ⟨w3.heap.size, 0, none⟩) 0 0) (u2 := .slice (some ⟨w3.heap.size + 1, 0, none⟩) 1 1)
    obtain ⟨s0, s1, s2, _, _, _⟩ := ((hx.alloc (.cells #[] 3)).alloc (.cells #[.int .i64 1] 3)).all
    have hrv : Row (((((w3.setCell ⟨w.heap.size + 1, 0, none⟩ (.bool false)).setCell ⟨w.heap.size + 1, 1, none⟩ (.slice (some ⟨w3.heap.size, 0, none⟩) 0 0)).setCell ⟨w.heap.size + 1, 2, none⟩ (.slice (some ⟨w3.heap.size + 1, 0, none⟩) 1 1)).alloc (.cells #[] 3)).alloc (.cells #[.int .i64 1] 3)) (some ⟨w3.heap.size + 1, 0, none⟩) 1 [1] := by have := row_one ((((w3.setCell ⟨w.heap.size + 1, 0, none⟩ (.bool false)).setCell ⟨w.heap.size + 1, 1, none⟩ (.slice (some ⟨w3.heap.size, 0, none⟩) 0 0)).setCell ⟨w.heap.size + 1, 2, none⟩ (.slice (some ⟨w3.heap.size + 1, 0, none⟩) 1 1)).alloc (.cells #[] 3)) 1; simpa using this
    have hbz := (unhide HB).size
    have hbv : Below w.heap.size w (((((w3.setCell ⟨w.heap.size + 1, 0, none⟩ (.bool false)).setCell ⟨w.heap.size + 1, 1, none⟩ (.slice (some ⟨w3.heap.size, 0, none⟩) 0 0)).setCell ⟨w.heap.size + 1, 2, none⟩ (.slice (some ⟨w3.heap.size + 1, 0, none⟩) 1 1)).alloc (.cells #[] 3)).alloc (.cells #[.int .i64 1] 3)) := Below.alloc (Below.alloc ((((unhide HB).setCell (by simp <;> omega) _).setCell (by simp <;> omega) _).setCell (by simp <;> omega) _) (by simp; omega) _) (by simp; omega) _
    refine bodyPost_ret (v := .tuple #[.agg #[.bool false, .slice (some ⟨w3.heap.size, 0, none⟩) 0 0, .slice (some ⟨w3.heap.size + 1, 0, none⟩) 1 1], .int .i64 0]) (by simp [results, Tryz.results20, go_sem, s0, s1, s2]) rfl ?_
    rw [unhide HS]
    exact ⟨_, _, _, _, _, _, rfl, row_nil _ _, hrv, hbv⟩
  · obtain ⟨bk, ok, hab, hbk, hck⟩ := (unhide K1).get (by omega : 0 < n1)
    cases hab
    rw [Nat.add_zero] at hck
    obtain ⟨v, hv⟩ : ∃ v : Int, v = sh.getD 0 0 := ⟨_, rfl⟩
    rw [← hv] at hck
    have HS : Hid (monadA 33 c sh dt = ⟨false, [], [v], 0⟩) := by
      show _ = _
      rw [unhide HM, if_neg (fun e => hn (by rw [← unhide hl1, e]; rfl)), hv]
    have g0 : 0 < n1 := by omega
    clear hn HM hv
    obtain ⟨q0, q1, q2, q3, q4, q5, q6⟩ := (unhide E6).all
    go_wp2_with fail
    have hx := (unhide E6).sets (c' := false) (u1 := .slice (some ⟨w3.heap.size, 0, none⟩) 0 0) (u2 := .slice (some ⟨w3.heap.size + 1, 0, none⟩) 1 1)
    obtain ⟨s0, s1, s2, _, _, _⟩ := ((hx.alloc (.cells #[] 3)).alloc (.cells #[.int .i64 v] 3)).all
    have hrv : Row (((((w3.setCell ⟨w.heap.size + 1, 0, none⟩ (.bool false)).setCell ⟨w.heap.size + 1, 1, none⟩ (.slice (some ⟨w3.heap.size, 0, none⟩) 0 0)).setCell ⟨w.heap.size + 1, 2, none⟩ (.slice (some ⟨w3.heap.size + 1, 0, none⟩) 1 1)).alloc (.cells #[] 3)).alloc (.cells #[.int .i64 v] 3)) (some ⟨w3.heap.size + 1, 0, none⟩) 1 [v] := by have := row_one ((((w3.setCell ⟨w.heap.size + 1, 0, none⟩ (.bool false)).setCell ⟨w.heap.size + 1, 1, none⟩ (.slice (some ⟨w3.heap.size, 0, none⟩) 0 0)).setCell ⟨w.heap.size + 1, 2, none⟩ (.slice (some ⟨w3.heap.size + 1, 0, none⟩) 1 1)).alloc (.cells #[] 3)) v; simpa using this
    have hbz := (unhide HB).size
    have hbv : Below w.heap.size w (((((w3.setCell ⟨w.heap.size + 1, 0, none⟩ (.bool false)).setCell ⟨w.heap.size + 1, 1, none⟩ (.slice (some ⟨w3.heap.size, 0, none⟩) 0 0)).setCell ⟨w.heap.size + 1, 2, none⟩ (.slice (some ⟨w3.heap.size + 1, 0, none⟩) 1 1)).alloc (.cells #[] 3)).alloc (.cells #[.int .i64 v] 3)) := Below.alloc (Below.alloc ((((unhide HB).setCell (by simp <;> omega) _).setCell (by simp <;> omega) _).setCell (by simp <;> omega) _) (by simp; omega) _) (by simp; omega) _
    refine bodyPost_ret (v := .tuple #[.agg #[.bool false, .slice (some ⟨w3.heap.size, 0, none⟩) 0 0, .slice (some ⟨w3.heap.size + 1, 0, none⟩) 1 1], .int .i64 0]) (by simp [results, Tryz.results20, go_sem, s0, s1, s2]) rfl ?_
    rw [unhide HS]
    exact ⟨_, _, _, _, _, _, rfl, row_nil _ _, hrv, hbv⟩

set_option maxRecDepth 20000 in
set_option maxHeartbeats 8000000 in
theorem Monad_24 (c : Bool) (a1 a2 : Addr) (n1 n2 c1 c2 : Nat) (sh dt : List Int) (w : World) (h1 : Row w (some a1) n1 sh) (h2 : Row w (some a2) n2 dt) (hok : arrOk c sh dt = true) :
    Calls Tryz.prog 20 #[.int .i64 24, .agg #[.bool c, .slice (some a1) n1 c1, .slice (some a2) n2 c2]] w (GivesRow w (monadA 24 c sh dt)) := by
  have HM := hide (show monadA 24 c sh dt = ⟨c, [], [if dt = [] then fillOf c else dt.getD 0 0], 0⟩ from (mon_is hok (by decide) (by decide)).trans (by simp))
  have hl1 := hide h1.len
  have hl2 := hide h2.len
  have hs1 := h1.small
  have hs2 := h2.small
  have H1 := hide h1
  have H2 := hide h2
  have HR := hide hok
  clear h1 h2 hok
  obtain ⟨W0, hW0⟩ : ∃ W0, W0 = (w.alloc (.cells #[.bool c, .slice (some a1) n1 c1, .slice (some a2) n2 c2] 25)).alloc (.cells #[.bool false, .slice none 0 0, .slice none 0 0] 25) := ⟨_, rfl⟩
  obtain ⟨B4, B5, hB0⟩ := boxes2 (w := w) (c := c) (v1 := .slice (some a1) n1 c1) (v2 := .slice (some a2) n2 c2) (Below.refl _ _)
  rw [← hW0] at B4 B5 hB0
  have D4 := hide B4
  have D6 := hide B5
  have HB0 := hide hB0
  have hcall := ArrayOk_eq c (some a1) (some a2) n1 n2 c1 c2 sh dt W0 ((unhide H1).below (Nat.le_refl _) hB0) ((unhide H2).below (Nat.le_refl _) hB0) true HR
  obtain ⟨y0, y1, y2, y3, y4, y5, y6⟩ := B4.all
  rw [hW0] at hcall y0 y1 y2 y3 y4 y5 y6
  clear B4 B5 hB0
  go_enter Tryz.func20, Tryz.ntmps20
  go_upto_region 16 with (go_at_call 10; refine hcall.mono ?_; rintro e w3 ⟨rfl, hb3⟩; rw [← hW0] at hb3; have HB3 := hide hb3; have E4 := hide ((unhide D4).below (Nat.le_refl _) hb3); obtain ⟨x0, x1, x2, x3, x4, x5, x6⟩ := (unhide E4).all; clear hb3)
  have E6 := hide ((unhide D6).below (Nat.le_refl _) (unhide HB3))
  have HB := hide ((unhide HB0).trans ((unhide HB3).mono (unhide HB0).size))
  clear D4 D6 HB0 HB3 y0 y1 y2 y3 y4 y5 y6 hW0 W0 hcall
  have hz6 := (unhide E6).lt
  have K1 := hide ((unhide H1).below (Nat.le_refl _) (unhide HB))
  have K2 := hide ((unhide H2).below (Nat.le_refl _) (unhide HB))
  have hfl := l3Fill_any c w3
  by_cases hn : n2 = 0
  · obtain ⟨v, hv⟩ : ∃ v : Int, v = fillOf c := ⟨_, rfl⟩
    rw [← hv] at hfl
    have HS : Hid (monadA 24 c sh dt = ⟨c, [], [v], 0⟩) := by
      show _ = _
      rw [unhide HM, if_pos (List.length_eq_zero_iff.mp (by rw [unhide hl2]; exact hn)), hv]
    have g0 : ¬ 0 < n2 := by omega
    clear hn HM hv
    obtain ⟨q0, q1, q2, q3, q4, q5, q6⟩ := (unhide E6).all
    go_wp2_with (go_at_call 74; refine hfl.mono ?_; rintro e w4 ⟨rfl, rfl⟩)
    have hx := (unhide E6).sets (c' := c) (u1 := .slice (some ⟨w4.heap.size, 0, none⟩) 0 0) (u2 := .slice (some ⟨w4.heap.size + 1, 0, none⟩) 1 1)
    obtain ⟨s0, s1, s2, _, _, _⟩ := ((hx.alloc (.cells #[] 3)).alloc (.cells #[.int .i64 v] 3)).all
    have hrv : Row (((((w4.setCell ⟨w.heap.size + 1, 0, none⟩ (.bool c)).setCell ⟨w.heap.size + 1, 1, none⟩ (.slice (some ⟨w4.heap.size, 0, none⟩) 0 0)).setCell ⟨w.heap.size + 1, 2, none⟩ (.slice (some ⟨w4.heap.size + 1, 0, none⟩) 1 1)).alloc (.cells #[] 3)).alloc (.cells #[.int .i64 v] 3)) (some ⟨w4.heap.size + 1, 0, none⟩) 1 [v] := by have := row_one ((((w4.setCell ⟨w.heap.size + 1, 0, none⟩ (.bool c)).setCell ⟨w.heap.size + 1, 1, none⟩ (.slice (some ⟨w4.heap.size, 0, none⟩) 0 0)).setCell ⟨w.heap.size + 1, 2, none⟩ (.slice (some ⟨w4.heap.size + 1, 0, none⟩) 1 1)).alloc (.cells #[] 3)) v; simpa using this
    have hbz := (unhide HB).size
    have hbv : Below w.heap.size w (((((w4.setCell ⟨w.heap.size + 1, 0, none⟩ (.bool c)).setCell ⟨w.heap.size + 1, 1, none⟩ (.slice (some ⟨w4.heap.size, 0, none⟩) 0 0)).setCell ⟨w.heap.size + 1, 2, none⟩ (.slice (some ⟨w4.heap.size + 1, 0, none⟩) 1 1)).alloc (.cells #[] 3)).alloc (.cells #[.int .i64 v] 3)) := Below.alloc (Below.alloc ((((unhide HB).setCell (by simp <;> omega) _).setCell (by simp <;> omega) _).setCell (by simp <;> omega) _) (by simp; omega) _) (by simp; omega) _
    refine bodyPost_ret (v := .tuple #[.agg #[.bool c, .slice (some ⟨w4.heap.size, 0, none⟩) 0 0, .slice (some ⟨w4.heap.size + 1, 0, none⟩) 1 1], .int .i64 0]) (by simp [results, Tryz.results20, go_sem, s0, s1, s2]) rfl ?_
    rw [unhide HS]
    exact ⟨_, _, _, _, _, _, rfl, row_nil _ _, hrv, hbv⟩
  · obtain ⟨bk, ok, hab, hbk, hck⟩ := (unhide K2).get (by omega : 0 < n2)
    cases hab
    rw [Nat.add_zero] at hck
    obtain ⟨v, hv⟩ : ∃ v : Int, v = dt.getD 0 0 := ⟨_, rfl⟩
    rw [← hv] at hck
    have HS : Hid (monadA 24 c sh dt = ⟨c, [], [v], 0⟩) := by
      show _ = _
      rw [unhide HM, if_neg (fun e => hn (by rw [← unhide hl2, e]; rfl)), hv]
    have g0 : 0 < n2 := by omega
    clear hn HM hv
    obtain ⟨q0, q1, q2, q3, q4, q5, q6⟩ := (unhide E6).all
    go_wp2_with (go_at_call 74; refine hfl.mono ?_; rintro e w4 ⟨rfl, rfl⟩)
    have hx := (unhide E6).sets (c' := c) (u1 := .slice (some ⟨w4.heap.size, 0, none⟩) 0 0) (u2 := .slice (some ⟨w4.heap.size + 1, 0, none⟩) 1 1)
    obtain ⟨s0, s1, s2, _, _, _⟩ := ((hx.alloc (.cells #[] 3)).alloc (.cells #[.int .i64 v] 3)).all
    have hrv : Row (((((w4.setCell ⟨w.heap.size + 1, 0, none⟩ (.bool c)).setCell ⟨w.heap.size + 1, 1, none⟩ (.slice (some ⟨w4.heap.size, 0, none⟩) 0 0)).setCell ⟨w.heap.size + 1, 2, none⟩ (.slice (some ⟨w4.heap.size + 1, 0, none⟩) 1 1)).alloc (.cells #[] 3)).alloc (.cells #[.int .i64 v] 3)) (some ⟨w4.heap.size + 1, 0, none⟩) 1 [v] := by have := row_one ((((w4.setCell ⟨w.heap.size + 1, 0, none⟩ (.bool c)).setCell ⟨w.heap.size + 1, 1, none⟩ (.slice (some ⟨w4.heap.size, 0, none⟩) 0 0)).setCell ⟨w.heap.size + 1, 2, none⟩ (.slice (some ⟨w4.heap.size + 1, 0, none⟩) 1 1)).alloc (.cells #[] 3)) v; simpa using this
    have hbz := (unhide HB).size
    have hbv : Below w.heap.size w (((((w4.setCell ⟨w.heap.size + 1, 0, none⟩ (.bool c)).setCell ⟨w.heap.size + 1, 1, none⟩ (.slice (some ⟨w4.heap.size, 0, none⟩) 0 0)).setCell ⟨w.heap.size + 1, 2, none⟩ (.slice (some ⟨w4.heap.size + 1, 0, none⟩) 1 1)).alloc (.cells #[] 3)).alloc (.cells #[.int .i64 v] 3)) := Below.alloc (Below.alloc ((((unhide HB).setCell (by simp <;> omega) _).setCell (by simp <;> omega) _).setCell (by simp <;> omega) _) (by simp; omega) _) (by simp; omega) _
    refine bodyPost_ret (v := .tuple #[.agg #[.bool c, .slice (some ⟨w4.heap.size, 0, none⟩) 0 0, .slice (some ⟨w4.heap.size + 1, 0, none⟩) 1 1], .int .i64 0]) (by simp [results, Tryz.results20, go_sem, s0, s1, s2]) rfl ?_
    rw [unhide HS]
    exact ⟨_, _, _, _, _, _, rfl, row_nil _ _, hrv, hbv⟩

end Go.Proofs.YtgjpchnkodnieaaGreatDoor
