import Derived.Test.YtlnangnimbgpoaaSortedMath
import Derived.Test.YtlnangnimbgpoaaMDraw
import Derived.Test.YtlnangnimbgpoaaLwCallO
import Derived.Test.YtlnangnimbgpoaaImplGrade
import Derived.Test.YtlnangnimbgpoaaImplIndex
import Derived.Test.YtlnangnimbgpoaaImplFindA
import Derived.Test.YtlnangnimbgpoaaMBase
import Derived.Test.YtlnangnimbgpoaaBoolRow
import Derived.Deep.RegionHeld
import Derived.Deep.DeepCutAuto
import Derived.BigRegion
import Derived.BigQuiet
namespace Go.Proofs.Ytlnangnimbgpoaa
open Go.RowKit

/-- A list of one part. -/
theorem part_at {W : World} {g n1 n2 c1 c2 : Nat} {s1 s2 : Addr} {c : Bool} {sh dt : List Int} (hh : W.heap[g]? = some (.cells #[.bool false, .bool c, .slice (some s1) n1 c1, .slice (some s2) n2 c2] 42 (0, 0))) (h1 : Row W (some s1) n1 sh) (h2 : Row W (some s2) n2 dt) : PRowN W (some ⟨g, 0, none⟩) 1 [⟨false, c, sh, dt⟩] := by
  refine ⟨⟨rfl, by omega, .inr ⟨g, 0, rfl, lt_of_block hh, fun i hi => ?_⟩⟩, fun b off e hlt i hi _ => ?_⟩
  · have hi0 : i = 0 := by omega
    subst hi0
    exact ⟨some s1, n1, c1, some s2, n2, c2, by simp [World.cell?, hh, part], by simp [World.cell?, hh, part], by simp [World.cell?, hh], by simp [World.cell?, hh], h1, h2⟩
  · have hi0 : i = 0 := by omega
    subst hi0
    cases e
    exact ⟨s1, n1, c1, by simp [World.cell?, hh]⟩

/-- .. laid anew. -/
theorem part_new {w : World} {s1 s2 : Addr} {n1 n2 c1 c2 : Nat} {c : Bool} {sh dt : List Int} (h1 : Row w (some s1) n1 sh) (h2 : Row w (some s2) n2 dt) : PRowN (w.alloc (.cells #[.bool false, .bool c, .slice (some s1) n1 c1, .slice (some s2) n2 c2] 42)) (some ⟨w.heap.size, 0, none⟩) 1 [⟨false, c, sh, dt⟩] := by
  refine part_at (c1 := c1) (c2 := c2) ?_ (h1.alloc _) (h2.alloc _)
  show (w.heap.push _)[w.heap.size]? = _
  simp

theorem part_newB {w : World} {o : Obj} {s1 s2 : Addr} {n1 n2 c1 c2 : Nat} {c : Bool} {sh dt : List Int} (h1 : Row w (some s1) n1 sh) (h2 : Row w (some s2) n2 dt) : PRowN ((w.alloc o).alloc (.cells #[.bool false, .bool c, .slice (some s1) n1 c1, .slice (some s2) n2 c2] 42)) (some ⟨w.heap.size + 1, 0, none⟩) 1 [⟨false, c, sh, dt⟩] := by
  have := part_new (c1 := c1) (c2 := c2) (c := c) (h1.alloc o) (h2.alloc o)
  rwa [World.size_alloc] at this

set_option maxRecDepth 20000 in
set_option maxHeartbeats 16000000 in
theorem law_sorted (a : Option Addr) (n c : Nat) (w : World) (hby : Bytes w a n) (hc : n ≤ c) (hn : n ≤ 1048576) :
    Calls Try.prog 5 #[.slice a n c] w fun e w' => e = .returned (.bool true) ∧ Below w.heap.size w w' := by
  have hcall := DrawGrade_any a n c w hby hc hn
  have hnz : ¬ (1048576 : Int) < (n : Int) := by omega
  clear hby hc
  go_enter Try.func5, Try.ntmps5
  go_upto_region 4 with (go_at_call 18; refine hcall.mono ?_; rintro e w1 ⟨d, down, a1, a2, n1, n2, c1, c2, sh, dt, rfl, o1, o2, h1, h2, hb1⟩; have HO1 := hide o1; have HO2 := hide o2; have HB1 := hide hb1; clear o1 o2 hb1)
  clear hcall
  obtain ⟨W2, hW2⟩ : ∃ W, W = w1.alloc (.cells #[.bool d, .slice (some a1) n1 c1, .slice (some a2) n2 c2] 26) := ⟨_, rfl⟩
  obtain ⟨P, hP⟩ : ∃ P, P = w1.heap.size := ⟨_, rfl⟩
  have HX2 : Hid (Box W2 P d (.slice (some a1) n1 c1) (.slice (some a2) n2 c2)) := by rw [hW2, hP]; exact Box.new w1 _ _ _
  have HB2 : Hid (Below w.heap.size w W2) := by rw [hW2]; exact (unhide HB1).alloc (unhide HB1).size _
  have R1 : Hid (Row W2 (some a1) n1 sh) := by rw [hW2]; exact ((unhide HO1).alloc _).row
  have R2 : Hid (Row W2 (some a2) n2 dt) := by rw [hW2]; exact ((unhide HO2).alloc _).row
  rw [← hW2, ← hP]
  clear hW2 hP HO1 HO2 HB1
  obtain ⟨y0, y1, y2, y3, y4, y5, y6⟩ := (unhide HX2).all
  obtain ⟨r, hr⟩ : ∃ r, arrOk d sh dt = r := ⟨_, rfl⟩
  have HR := hide hr
  clear hr
  cases r with
  | false =>
    go_wp2_with (go_at_call 19; refine (ArrayOk_eq _ _ _ _ _ _ _ sh dt _ (unhide R1) (unhide R2) _ HR).mono ?_; rintro e w3 ⟨rfl, hb3⟩; have HB3 := hide ((unhide HB2).trans (hb3.mono (unhide HB2).size)); clear hb3)
    exact bodyPost_ret (v := .bool true) (by simp [results, Try.results5, go_sem]) rfl ⟨rfl, unhide HB3⟩
  | true =>
    by_cases hn1 : n1 = 1
    case neg =>
      have g1 : ((n1 : Int) != 1) = true := by simp; omega
      clear hn1
      go_wp2_with (go_at_call 19; refine (ArrayOk_eq _ _ _ _ _ _ _ sh dt _ (unhide R1) (unhide R2) _ HR).mono ?_; rintro e w3 ⟨rfl, hb3⟩; have HB3 := hide ((unhide HB2).trans (hb3.mono (unhide HB2).size)); obtain ⟨z0, z1, z2, z3, z4, z5, z6⟩ := ((unhide HX2).below (Nat.le_refl _) hb3).all; clear hb3 y0 y1 y2 y3 y4 y5 y6)
      exact bodyPost_ret (v := .bool true) (by simp [results, Try.results5, go_sem]) rfl ⟨rfl, unhide HB3⟩
    subst hn1
    have hlen := (unhide R2).len
    have hshe := line_shape (unhide HR) (unhide R1).len
    rw [hlen] at hshe
    subst hshe
    have hN : n2 ≤ 10000 := by
      have e := arr_parts (unhide HR)
      have e1 := prodAll_bd _ e.1 1
      rw [show List.take 1 [(n2 : Int)] = [(n2 : Int)] from rfl, prodAll_count _ e.1, e.2, hlen] at e1
      omega
    have HLEN := hide hlen
    have HGR : Hid (gradeA d [(n2 : Int)] dt down = ⟨false, [(n2 : Int)], gradeL (gradeK down dt) dt.length, 0⟩) := grade_go (unhide HR) rfl (gradeL_is _ _)
    have HGL : Hid ((gradeL (gradeK down dt) dt.length).length = n2) := by show _ = _; rw [gradeL_len, hlen]
    clear hlen h1 h2
    go_upto_region 7 with (first
      | (go_at_call 19; refine (ArrayOk_eq _ _ _ _ _ _ _ [(n2 : Int)] dt _ (unhide R1) (unhide R2) _ HR).mono ?_; rintro e w3 ⟨rfl, hb3⟩; have HX3 := hide ((unhide HX2).below (Nat.le_refl _) hb3); have HB3 := hide ((unhide HB2).trans (hb3.mono (unhide HB2).size)); have R13 := hide ((unhide R1).below (Nat.le_refl _) hb3); have R23 := hide ((unhide R2).below (Nat.le_refl _) hb3); clear hb3 y0 y1 y2 y3 y4 y5 y6; obtain ⟨y0, y1, y2, y3, y4, y5, y6⟩ := (unhide HX3).all)
      | (go_at_call 20; refine (lwArray_src d (some a1) (some a2) 1 n2 c1 c2 [(n2 : Int)] dt _ (Src.some (unhide R13)) (Src.some (unhide R23)) (by omega) (by omega)).mono ?_; rintro e w4 ⟨g1, g2, x1, x2, rfl, hX1, hX2, _, _, hb4⟩; have HXA := hide hX1; have HXB := hide hX2; have HX4 := hide ((unhide HX3).below (Nat.le_refl _) hb4); have HB4 := hide ((unhide HB3).trans (hb4.mono (unhide HB3).size)); have R14 := hide ((unhide R13).below (Nat.le_refl _) hb4); have R24 := hide ((unhide R23).below (Nat.le_refl _) hb4); clear hb4 hX1 hX2)
      | (go_at_call 12; refine (implGrade_any d down (some ⟨g1, 0, none⟩) (some ⟨g2, 0, none⟩) 1 n2 x1 x2 [(n2 : Int)] dt _ (unhide HXA).row (unhide HXB).row).mono ?_; rintro e w5 ⟨b1, m1, d1, b2, m2, d2, rfl, hE1, hE2, _, hb5, hk1, hk2, hsm⟩; (have HR' := unhide HGR; rw [HR'] at hE1 hE2 hsm ⊢; simp only at hE1 hE2 hsm ⊢; clear HR'); have HE1 := hide hE1.row; have HE2 := hide hE2.row; have HSM := hide (hsm trivial); have HX5 := hide ((unhide HX4).below (Nat.le_refl _) hb5); have HB5 := hide ((unhide HB4).trans (hb5.mono (unhide HB4).size)); have R15 := hide ((unhide R14).below (Nat.le_refl _) hb5); have R25 := hide ((unhide R24).below (Nat.le_refl _) hb5); clear hb5 hE1 hE2 hsm hk1 hk2))
    clear R1 R2 HX2 HB2 HX3 HB3 R13 R23 HX4 HB4 R14 R24 HXA HXB y0 y1 y2 y3 y4 y5 y6
    obtain ⟨b2, rfl⟩ := unhide HSM
    have hm1 : m1 = 1 := (unhide HE1).len.symm
    have hm2 : m2 = n2 := (unhide HE2).len.symm.trans (unhide HGL)
    subst hm1
    subst m2
    obtain ⟨b1, o1, rfl, -, -⟩ := (unhide HE1).get (k := 0) (by omega)
    obtain ⟨Y, hY⟩ : ∃ W, W = w5.alloc (.cells #[.bool false, .slice (some ⟨b1, o1, none⟩) 1 d1, .slice (some b2) n2 d2] 26) := ⟨_, rfl⟩
    obtain ⟨PG, hPG⟩ : ∃ P, P = w5.heap.size := ⟨_, rfl⟩
    have BG : Hid (Box Y PG false (.slice (some ⟨b1, o1, none⟩) 1 d1) (.slice (some b2) n2 d2)) := by rw [hY, hPG]; exact Box.new w5 _ _ _
    have BA : Hid (Box Y P d (.slice (some a1) 1 c1) (.slice (some a2) n2 c2)) := by rw [hY]; exact (unhide HX5).alloc _
    have RG1 : Hid (Row Y (some ⟨b1, o1, none⟩) 1 [(n2 : Int)]) := by rw [hY]; exact (unhide HE1).alloc _
    have RG2 : Hid (Row Y (some b2) n2 (gradeL (gradeK down dt) dt.length)) := by rw [hY]; exact (unhide HE2).alloc _
    have RA1 : Hid (Row Y (some a1) 1 [(n2 : Int)]) := by rw [hY]; exact (unhide R15).alloc _
    have RA2 : Hid (Row Y (some a2) n2 dt) := by rw [hY]; exact (unhide R25).alloc _
    have HBY : Hid (Below w.heap.size w Y) := by rw [hY]; exact (unhide HB5).alloc (unhide HB5).size _
    rw [← hY, ← hPG]
    clear hY hPG HE1 HE2 HSM HX5 HB5 R15 R25
    clear w5 w4 w3 W2
    obtain ⟨x0, x1', x2', x3, x4, x5, x6⟩ := (unhide BA).all
    obtain ⟨y0, y1, y2, y3, y4, y5, y6⟩ := (unhide BG).all
    go_upto_region 9 with fail
    go_cut [7, 8] (fun r6 r7 wr => r7 = .int .i64 0 ∧ ∃ p e1 k1 f1 ad k2 f2, r6 = .pointer (some ⟨p, 0, none⟩) ∧ Box wr p d (.slice e1 k1 f1) (.slice (some ad) k2 f2) ∧ Row wr e1 k1 [(n2 : Int)] ∧ Row wr (some ad) k2 (lineX down dt n2) ∧ Below Y.heap.size Y wr)
    case first => as_aux_lemma =>
      have HKEEP : ∀ wx, Below Y.heap.size Y wx → Below Y.heap.size Y wx ∧ wx.cell? ⟨P, 0, none⟩ = some (.bool d) ∧ wx.cell? ⟨P, 1, none⟩ = some (.slice (some a1) 1 c1) ∧ wx.cell? ⟨P, 2, none⟩ = some (.slice (some a2) n2 c2) ∧ wx.cell? ⟨PG, 0, none⟩ = some (.bool false) ∧ wx.cell? ⟨PG, 1, none⟩ = some (.slice (some ⟨b1, o1, none⟩) 1 d1) ∧ wx.cell? ⟨PG, 2, none⟩ = some (.slice (some b2) n2 d2) := fun wx hwx => by
        obtain ⟨t0, t1, t2, _, _, _⟩ := ((unhide BA).below (Nat.le_refl _) hwx).all
        obtain ⟨t3, t4, t5, _, _, _⟩ := ((unhide BG).below (Nat.le_refl _) hwx).all
        exact ⟨hwx, t0, t1, t2, t3, t4, t5⟩
      have HIX := hide (index_grade (c := d) (down := down) (unhide HLEN) hN (unhide HR))
      go_region_held (fun wx => Below Y.heap.size Y wx ∧ wx.cell? ⟨P, 0, none⟩ = some (.bool d) ∧ wx.cell? ⟨P, 1, none⟩ = some (.slice (some a1) 1 c1) ∧ wx.cell? ⟨P, 2, none⟩ = some (.slice (some a2) n2 c2) ∧ wx.cell? ⟨PG, 0, none⟩ = some (.bool false) ∧ wx.cell? ⟨PG, 1, none⟩ = some (.slice (some ⟨b1, o1, none⟩) 1 d1) ∧ wx.cell? ⟨PG, 2, none⟩ = some (.slice (some b2) n2 d2)) (first | exact HKEEP _ hK5 | exact HKEEP _ (((hK5.setCell (by have h3 := hK3.size; have h4 := hK4.size; simp <;> omega) _).setCell (by have h3 := hK3.size; have h4 := hK4.size; simp <;> omega) _).setCell (by have h3 := hK3.size; have h4 := hK4.size; simp <;> omega) _) | exact HKEEP _ (hK5.alloc hK5.size _) | exact HKEEP _ hK4 | exact HKEEP _ (hK4.alloc hK4.size _) | exact HKEEP _ ((hK4.alloc hK4.size _).alloc (by have h4 := hK4.size; simp; omega) _) | exact HKEEP _ hK3 | exact HKEEP _ (hK3.alloc hK3.size _) | exact HKEEP _ (Below.refl _ _).drew | exact HKEEP _ ((Below.refl _ _).drew.alloc (by simp <;> omega) _))
        (first
        | (go_at_call_of 20 (Value.slice (some a1) 1 c1); refine (lwArray_src _ (some a1) (some a2) _ _ _ _ [(n2 : Int)] dt _ (by first | exact Src.some ((unhide RA1).below (Nat.le_refl _) (Below.refl _ _).drew) | exact Src.some (((unhide RA1).below (Nat.le_refl _) (Below.refl _ _).drew).alloc _)) (by first | exact Src.some ((unhide RA2).below (Nat.le_refl _) (Below.refl _ _).drew) | exact Src.some (((unhide RA2).below (Nat.le_refl _) (Below.refl _ _).drew).alloc _)) (by omega) (by omega)).mono ?_; rintro e wI ⟨g1, g2, z1, z2, rfl, hX1, hX2, _, _, hb3⟩; have hK3 : Below Y.heap.size Y wI := (by first | exact (Below.refl _ _).drew.trans (hb3.mono (by simp)) | exact ((Below.refl _ _).drew.alloc (by simp) _).trans (hb3.mono (by simp))); (first | have hP3 := (Box.new _ _ _ _).below (Nat.le_refl _) hb3 | have hP3 := (Box.new _ _ _ _).drew.below (Nat.le_refl _) hb3 | skip); obtain ⟨_, x0, x1', x2', x3, x4, x5⟩ := HKEEP _ hK3)
        | (go_at_call_of 20 (Value.slice (some ⟨b1, o1, none⟩) 1 d1); refine (lwArray_src _ (some ⟨b1, o1, none⟩) (some b2) _ _ _ _ [(n2 : Int)] (gradeL (gradeK down dt) dt.length) _ (by first | exact Src.some ((unhide RG1).below (Nat.le_refl _) hK3) | exact Src.some (((unhide RG1).below (Nat.le_refl _) hK3).alloc _)) (by first | exact Src.some ((unhide RG2).below (Nat.le_refl _) hK3) | exact Src.some (((unhide RG2).below (Nat.le_refl _) hK3).alloc _)) (by omega) (by omega)).mono ?_; rintro e wJ ⟨g3, g4, z3', z4', rfl, hX3, hX4, _, _, hb4⟩; have hK4 : Below Y.heap.size Y wJ := (by first | exact hK3.trans (hb4.mono hK3.size) | exact (hK3.alloc hK3.size _).trans (hb4.mono (by have := hK3.size; simp; omega))); (first | have hP4 := hP3.below (Nat.le_refl _) hb4 | have hP4 := (Box.new _ _ _ _).below (Nat.le_refl _) hb4 | skip); have hX1' : Row wJ (some ⟨g1, 0, none⟩) 1 [(n2 : Int)] := (by first | exact hX1.row.below (Nat.le_refl _) hb4 | exact (hX1.row.alloc _).below (Nat.le_refl _) hb4); have hX2' : Row wJ (some ⟨g2, 0, none⟩) n2 dt := (by first | exact hX2.row.below (Nat.le_refl _) hb4 | exact (hX2.row.alloc _).below (Nat.le_refl _) hb4); obtain ⟨_, z0, z1, z2, z3, z4, z5⟩ := HKEEP _ hK4)
        | (go_at_call 21; refine (implIndex_any d ⟨g1, 0, none⟩ ⟨g2, 0, none⟩ _ 1 n2 _ _ 1 1 [(n2 : Int)] dt [⟨false, false, [(n2 : Int)], gradeL (gradeK down dt) dt.length⟩] _ (by first | exact hX1'.alloc _ | exact (hX1'.alloc _).alloc _) (by first | exact hX2'.alloc _ | exact (hX2'.alloc _).alloc _) (by first | exact part_new hX3.row hX4.row | exact (part_new hX3.row hX4.row).alloc _ | exact part_newB hX3.row hX4.row)).mono ?_; rintro e wL ⟨i1, j1, l1, i2, j2, l2, rfl, hE1', hE2', _, hb5, _, _, hsm⟩; have hE1 := hE1'.row; have hE2 := hE2'.row; clear hE1' hE2'; (have HR' := unhide HIX; rw [HR'] at hE1 hE2 hsm ⊢; simp only at hE1 hE2 hsm ⊢; clear HR'); obtain ⟨ad, rfl⟩ := hsm trivial; have hK5 : Below Y.heap.size Y wL := (by first | exact (hK4.alloc hK4.size _).trans (hb5.mono (by have := hK4.size; simp; omega)) | exact ((hK4.alloc hK4.size _).alloc (by have := hK4.size; simp; omega) _).trans (hb5.mono (by have := hK4.size; simp; omega))); (first | (have hP5 := (hP4.alloc _).below (Nat.le_refl _) hb5; obtain ⟨u0, u1, u2, u3, u4, u5, u6⟩ := hP5.free'; (try simp at u0 u1 u2 u3 u4 u5 u6)) | (have hP5 := (Box.new _ _ _ _).below (Nat.le_refl _) hb5; rw [World.size_alloc] at hP5; obtain ⟨u0, u1, u2, u3, u4, u5, u6⟩ := hP5.free'; (try simp at u0 u1 u2 u3 u4 u5 u6)) | (have hP5 := ((Box.new _ _ _ _).alloc _).below (Nat.le_refl _) hb5; obtain ⟨u0, u1, u2, u3, u4, u5, u6⟩ := hP5.free'; (try simp at u0 u1 u2 u3 u4 u5 u6)) | skip); obtain ⟨_, z0', z1', z2', z3', z4', z5'⟩ := HKEEP _ hK5))
      all_goals go_wp2_with fail
      all_goals (go_meet; case rel => first | exact ⟨rfl, _, _, _, _, _, _, _, rfl, hP5.sets, hE1.sets hP5 _ _ _, hE2.sets hP5 _ _ _, ((hK5.setCell (by have h3 := hK3.size; have h4 := hK4.size; simp <;> omega) _).setCell (by have h3 := hK3.size; have h4 := hK4.size; simp <;> omega) _).setCell (by have h3 := hK3.size; have h4 := hK4.size; simp <;> omega) _⟩ | exact ⟨rfl, _, _, _, _, _, _, _, rfl, Box.new _ _ _ _, hE1.alloc _, hE2.alloc _, hK5.alloc hK5.size _⟩)
    case rest =>
    obtain ⟨rfl, PX, e1, k1, f1, e2, k2, f2, rfl, hbX, hI1, hI2, hbc⟩ := hcut
    obtain ⟨Z, hZ⟩ : ∃ x, x = wc := ⟨_, rfl⟩
    subst hZ
    have hk1 : k1 = 1 := hI1.len.symm
    have hk2 : k2 = n2 := by have := hI2.len; simp [lineX] at this; omega
    subst hk1
    subst k2
    obtain ⟨bx, ox, rfl, -, -⟩ := hI1.get (k := 0) (by omega)
    have BX := hide hbX
    have RX1 := hide hI1
    have RX2 := hide hI2
    replace BA := hide ((unhide BA).below (Nat.le_refl _) hbc)
    replace BG := hide ((unhide BG).below (Nat.le_refl _) hbc)
    replace RA1 := hide ((unhide RA1).below (Nat.le_refl _) hbc)
    replace RA2 := hide ((unhide RA2).below (Nat.le_refl _) hbc)
    replace RG2 := hide ((unhide RG2).below (Nat.le_refl _) hbc)
    have HBZ := hide ((unhide HBY).trans (hbc.mono (unhide HBY).size))
    clear hbX hI1 hI2 hbc HBY RG1 x0 x1' x2' x3 x4 x5 x6 y0 y1 y2 y3 y4 y5 y6
    clear Y
    obtain ⟨x0, x1', x2', x3, x4, x5, x6⟩ := (unhide BA).all
    obtain ⟨y0, y1, y2, y3, y4, y5, y6⟩ := (unhide BX).all
    go_upto_region 10 with fail
    go_cut [9, 10] (fun r6 r7 wr => r7 = .int .i64 0 ∧ ∃ p i1 j1 l1 i2 j2 l2, r6 = .pointer (some ⟨p, 0, none⟩) ∧ Box wr p false (.slice i1 j1 l1) (.slice i2 j2 l2) ∧ Row wr i2 j2 ((List.range n2).map (gF d down dt)) ∧ Below Z.heap.size Z wr)
    case first => as_aux_lemma =>
      have HKEEP : ∀ wx, Below Z.heap.size Z wx → Below Z.heap.size Z wx ∧ wx.cell? ⟨P, 0, none⟩ = some (.bool d) ∧ wx.cell? ⟨P, 1, none⟩ = some (.slice (some a1) 1 c1) ∧ wx.cell? ⟨P, 2, none⟩ = some (.slice (some a2) n2 c2) ∧ wx.cell? ⟨PX, 0, none⟩ = some (.bool d) ∧ wx.cell? ⟨PX, 1, none⟩ = some (.slice (some ⟨bx, ox, none⟩) 1 f1) ∧ wx.cell? ⟨PX, 2, none⟩ = some (.slice (some e2) n2 f2) := fun wx hwx => by
        obtain ⟨t0, t1, t2, _, _, _⟩ := ((unhide BA).below (Nat.le_refl _) hwx).all
        obtain ⟨t3, t4, t5, _, _, _⟩ := ((unhide BX).below (Nat.le_refl _) hwx).all
        exact ⟨hwx, t0, t1, t2, t3, t4, t5⟩
      have HFD := hide (find_grade (c := d) (down := down) (unhide HLEN) hN (unhide HR))
      go_region_held (fun wx => Below Z.heap.size Z wx ∧ wx.cell? ⟨P, 0, none⟩ = some (.bool d) ∧ wx.cell? ⟨P, 1, none⟩ = some (.slice (some a1) 1 c1) ∧ wx.cell? ⟨P, 2, none⟩ = some (.slice (some a2) n2 c2) ∧ wx.cell? ⟨PX, 0, none⟩ = some (.bool d) ∧ wx.cell? ⟨PX, 1, none⟩ = some (.slice (some ⟨bx, ox, none⟩) 1 f1) ∧ wx.cell? ⟨PX, 2, none⟩ = some (.slice (some e2) n2 f2)) (first | exact HKEEP _ hK5 | exact HKEEP _ (((hK5.setCell (by have h3 := hK3.size; have h4 := hK4.size; simp <;> omega) _).setCell (by have h3 := hK3.size; have h4 := hK4.size; simp <;> omega) _).setCell (by have h3 := hK3.size; have h4 := hK4.size; simp <;> omega) _) | exact HKEEP _ (hK5.alloc hK5.size _) | exact HKEEP _ hK4 | exact HKEEP _ (hK4.alloc hK4.size _) | exact HKEEP _ hK3 | exact HKEEP _ (hK3.alloc hK3.size _) | exact HKEEP _ (Below.refl _ _).drew | exact HKEEP _ ((Below.refl _ _).drew.alloc (by simp <;> omega) _))
        (first
        | (go_at_call_of 20 (Value.slice (some a1) 1 c1); refine (lwArray_src _ (some a1) (some a2) _ _ _ _ [(n2 : Int)] dt _ (by first | exact Src.some ((unhide RA1).below (Nat.le_refl _) (Below.refl _ _).drew) | exact Src.some (((unhide RA1).below (Nat.le_refl _) (Below.refl _ _).drew).alloc _)) (by first | exact Src.some ((unhide RA2).below (Nat.le_refl _) (Below.refl _ _).drew) | exact Src.some (((unhide RA2).below (Nat.le_refl _) (Below.refl _ _).drew).alloc _)) (by omega) (by omega)).mono ?_; rintro e wI ⟨g1, g2, z1, z2, rfl, hX1, hX2, _, _, hb3⟩; have hK3 : Below Z.heap.size Z wI := (by first | exact (Below.refl _ _).drew.trans (hb3.mono (by simp)) | exact ((Below.refl _ _).drew.alloc (by simp) _).trans (hb3.mono (by simp))); (first | have hP3 := (Box.new _ _ _ _).below (Nat.le_refl _) hb3 | have hP3 := (Box.new _ _ _ _).drew.below (Nat.le_refl _) hb3 | skip); obtain ⟨_, x0, x1', x2', x3, x4, x5⟩ := HKEEP _ hK3)
        | (go_at_call_of 20 (Value.slice (some ⟨bx, ox, none⟩) 1 f1); refine (lwArray_src _ (some ⟨bx, ox, none⟩) (some e2) _ _ _ _ [(n2 : Int)] (lineX down dt n2) _ (by first | exact Src.some ((unhide RX1).below (Nat.le_refl _) hK3) | exact Src.some (((unhide RX1).below (Nat.le_refl _) hK3).alloc _)) (by first | exact Src.some ((unhide RX2).below (Nat.le_refl _) hK3) | exact Src.some (((unhide RX2).below (Nat.le_refl _) hK3).alloc _)) (by omega) (by omega)).mono ?_; rintro e wJ ⟨g3, g4, z3', z4', rfl, hX3, hX4, _, _, hb4⟩; have hK4 : Below Z.heap.size Z wJ := (by first | exact hK3.trans (hb4.mono hK3.size) | exact (hK3.alloc hK3.size _).trans (hb4.mono (by have := hK3.size; simp; omega))); (first | have hP4 := hP3.below (Nat.le_refl _) hb4 | have hP4 := (Box.new _ _ _ _).below (Nat.le_refl _) hb4 | skip); have hX1' : Row wJ (some ⟨g1, 0, none⟩) 1 [(n2 : Int)] := (by first | exact hX1.row.below (Nat.le_refl _) hb4 | exact (hX1.row.alloc _).below (Nat.le_refl _) hb4); have hX2' : Row wJ (some ⟨g2, 0, none⟩) n2 dt := (by first | exact hX2.row.below (Nat.le_refl _) hb4 | exact (hX2.row.alloc _).below (Nat.le_refl _) hb4); obtain ⟨_, z0, z1, z2, z3, z4, z5⟩ := HKEEP _ hK4)
        | (go_at_call 22; refine (implFind_any d d ⟨g1, 0, none⟩ ⟨g2, 0, none⟩ ⟨g3, 0, none⟩ ⟨g4, 0, none⟩ 1 n2 1 n2 _ _ _ _ [(n2 : Int)] dt [(n2 : Int)] (lineX down dt n2) _ (by first | exact hX1' | exact hX1'.alloc _) (by first | exact hX2' | exact hX2'.alloc _) (by first | exact hX3.row | exact hX3.row.alloc _) (by first | exact hX4.row | exact hX4.row.alloc _)).mono ?_; rintro e wL ⟨i1, j1, l1, i2, j2, l2, rfl, hE1', hE2', _, hb5⟩; have hE2 := hE2'.row; clear hE1' hE2'; (have HR' := unhide HFD; rw [HR'] at hE2 ⊢; simp only at hE2 ⊢; clear HR'); have hK5 : Below Z.heap.size Z wL := (by first | exact hK4.trans (hb5.mono hK4.size) | exact (hK4.alloc hK4.size _).trans (hb5.mono (by have := hK4.size; simp; omega))); (first | (have hP5 := hP4.below (Nat.le_refl _) hb5; obtain ⟨u0, u1, u2, u3, u4, u5, u6⟩ := hP5.free'; (try simp at u0 u1 u2 u3 u4 u5 u6)) | (have hP5 := (Box.new _ _ _ _).below (Nat.le_refl _) hb5; obtain ⟨u0, u1, u2, u3, u4, u5, u6⟩ := hP5.free'; (try simp at u0 u1 u2 u3 u4 u5 u6)) | skip); obtain ⟨_, z0', z1', z2', z3', z4', z5'⟩ := HKEEP _ hK5))
      all_goals go_wp2_with fail
      all_goals (go_meet; case rel => first | exact ⟨rfl, _, _, _, _, _, _, _, rfl, hP5.sets, hE2.sets hP5 _ _ _, ((hK5.setCell (by have h3 := hK3.size; have h4 := hK4.size; simp <;> omega) _).setCell (by have h3 := hK3.size; have h4 := hK4.size; simp <;> omega) _).setCell (by have h3 := hK3.size; have h4 := hK4.size; simp <;> omega) _⟩ | exact ⟨rfl, _, _, _, _, _, _, _, rfl, Box.new _ _ _ _, hE2.alloc _, hK5.alloc hK5.size _⟩)
    case rest =>
    obtain ⟨rfl, PF, i1, j1, l1, i2, j2, l2, rfl, hbF, hF2, hbc⟩ := hcut
    obtain ⟨Z2, hZ2⟩ : ∃ x, x = wc := ⟨_, rfl⟩
    subst hZ2
    have hj2 : j2 = n2 := by have := hF2.len; simp at this; omega
    subst j2
    have BF := hide hbF
    have RF2 := hide hF2
    replace BA := hide ((unhide BA).below (Nat.le_refl _) hbc)
    replace BG := hide ((unhide BG).below (Nat.le_refl _) hbc)
    replace BX := hide ((unhide BX).below (Nat.le_refl _) hbc)
    replace RA2 := hide ((unhide RA2).below (Nat.le_refl _) hbc)
    replace RG2 := hide ((unhide RG2).below (Nat.le_refl _) hbc)
    replace RX2 := hide ((unhide RX2).below (Nat.le_refl _) hbc)
    replace HBZ := hide ((unhide HBZ).trans (hbc.mono (unhide HBZ).size))
    clear hbF hF2 hbc RA1 RX1 x0 x1' x2' x3 x4 x5 x6 y0 y1 y2 y3 y4 y5 y6
    clear Z
    obtain ⟨x0, x1', x2', x3, x4, x5, x6⟩ := (unhide BA).all
    obtain ⟨y0, y1, y2, y3, y4, y5, y6⟩ := (unhide BX).all
    obtain ⟨v0, v1, v2, v3, v4, v5, v6⟩ := (unhide BF).all
    have hmk := run_make_row' (P := Try.prog) 44 4 (.bool false) 1 Try.underlying44 info_boolT rfl .i64 .i64 (n2 + 1) (by omega) (by omega)
    have hmk2 : ((n2 + 1 : Nat) : Int) = (n2 : Int) + 1 := by omega
    rw [hmk2] at hmk
    clear hmk2
    go_wp2_with fail
    obtain ⟨S, hS⟩ : ∃ S, S = Z2.heap.size := ⟨_, rfl⟩
    obtain ⟨V, hV⟩ : ∃ V, V = Z2.alloc (.cells (madeCells #[.bool false] (n2 + 1)) 4) := ⟨_, rfl⟩
    have HBB : Hid (BBlk V S (seenG down dt n2 0)) := by rw [hV, seenG_zero]; exact BBlk.made Z2 _ S hS
    have HBV : Hid (Below w.heap.size w V) := by rw [hV]; exact (unhide HBZ).alloc (unhide HBZ).size _
    have QA : Hid (Box V P d (.slice (some a1) 1 c1) (.slice (some a2) n2 c2) ∧ P ≠ S) := by rw [hV]; exact ⟨(unhide BA).alloc _, by have := (unhide BA).lt; omega⟩
    have QG : Hid (Box V PG false (.slice (some ⟨b1, o1, none⟩) 1 d1) (.slice (some b2) n2 d2) ∧ PG ≠ S) := by rw [hV]; exact ⟨(unhide BG).alloc _, by have := (unhide BG).lt; omega⟩
    have QX : Hid (Box V PX d (.slice (some ⟨bx, ox, none⟩) 1 f1) (.slice (some e2) n2 f2) ∧ PX ≠ S) := by rw [hV]; exact ⟨(unhide BX).alloc _, by have := (unhide BX).lt; omega⟩
    have QF : Hid (Box V PF false (.slice i1 j1 l1) (.slice i2 n2 l2) ∧ PF ≠ S) := by rw [hV]; exact ⟨(unhide BF).alloc _, by have := (unhide BF).lt; omega⟩
    have TA : Hid (Row V (some a2) n2 dt ∧ ∀ k, k = S → ¬ At (some a2) n2 k) := by rw [hV]; exact ⟨(unhide RA2).alloc _, fun k hk hA => by have := (unhide RA2).hi hA; omega⟩
    have TG : Hid (Row V (some b2) n2 (gradeL (gradeK down dt) dt.length) ∧ ∀ k, k = S → ¬ At (some b2) n2 k) := by rw [hV]; exact ⟨(unhide RG2).alloc _, fun k hk hA => by have := (unhide RG2).hi hA; omega⟩
    have TX : Hid (Row V (some e2) n2 (lineX down dt n2) ∧ ∀ k, k = S → ¬ At (some e2) n2 k) := by rw [hV]; exact ⟨(unhide RX2).alloc _, fun k hk hA => by have := (unhide RX2).hi hA; omega⟩
    have TF : Hid (Row V i2 n2 ((List.range n2).map (gF d down dt)) ∧ ∀ k, k = S → ¬ At i2 n2 k) := by rw [hV]; exact ⟨(unhide RF2).alloc _, fun k hk hA => by have := (unhide RF2).hi hA; omega⟩
    have hSw : w.heap.size ≤ S := by rw [hS]; exact (unhide HBZ).size
    rw [← hV, ← hS]
    clear hV hS HBZ BA BG BX BF RA2 RG2 RX2 RF2 x0 x1' x2' x3 x4 x5 x6 y0 y1 y2 y3 y4 y5 y6 v0 v1 v2 v3 v4 v5 v6 hmk
    clear Z2
    go_loopw [12] (fun v wr => ∃ i : Nat, i ≤ n2 ∧ v = .int .i64 i ∧ Hid (BBlk wr S (seenG down dt n2 i)) ∧ Hid (But (fun x => x = S) V wr)) (fun v _ => n2 - (intOf v).toNat)
    case atStart => exact ⟨0, Nat.zero_le _, rfl, HBB, But.refl _ _⟩
    case round => as_aux_lemma =>
      obtain ⟨i, hi, rfl, HB, HU⟩ := hrel
      clear HBB
      have HPK : Hid (∀ wx, But (fun x => x = S) V wx → wx.cell? ⟨P, 2, none⟩ = some (.slice (some a2) n2 c2) ∧ wx.cell? ⟨PG, 2, none⟩ = some (.slice (some b2) n2 d2) ∧ wx.cell? ⟨PX, 2, none⟩ = some (.slice (some e2) n2 f2) ∧ wx.cell? ⟨PF, 2, none⟩ = some (.slice i2 n2 l2)) := fun wx hw =>
        ⟨((unhide QA).1.but hw (unhide QA).2).all.2.2.1, ((unhide QG).1.but hw (unhide QG).2).all.2.2.1, ((unhide QX).1.but hw (unhide QX).2).all.2.2.1, ((unhide QF).1.but hw (unhide QF).2).all.2.2.1⟩
      obtain ⟨pA, pG, pX, pF⟩ := unhide HPK _ (unhide HU)
      by_cases hlt : i < n2
      case neg =>
        obtain rfl : i = n2 := by omega
        have hii : ¬ (i : Int) < (i : Int) := by omega
        have HBE : Hid (Below w.heap.size w wr) := (unhide HBV).trans ((unhide HU).below (unhide HBV).size (by rintro x rfl; exact hSw))
        clear hlt
        go_wp2_with fail
        exact bodyPost_ret (v := .bool true) (by simp [results, Try.results5, go_sem]) rfl ⟨rfl, unhide HBE⟩
      have hlti : (i : Int) < (n2 : Int) := by omega
      obtain ⟨X, hX, hXn⟩ := gP_at (down := down) (unhide HLEN) hlt
      obtain ⟨Y, hY, hYn, hYP, hYX⟩ := gF_at (c := d) (down := down) (unhide HLEN) hlt
      obtain ⟨T, hT⟩ : ∃ T, T = X + 1 := ⟨_, rfl⟩
      obtain ⟨U, hU⟩ : ∃ U, U = Y + 1 := ⟨_, rfl⟩
      have hPT : gP down dt i = (T : Int) := by rw [hX, hT]; omega
      have hFU : gF d down dt i = (U : Int) := by rw [hY, hU]; omega
      have hUT : U ≤ T := by rw [hPT, hFU] at hYP; omega
      have hTn : T ≤ n2 := by omega
      have eT : (T : Int) - 1 = (X : Int) := by omega
      have eU : (U : Int) - 1 = (Y : Int) := by omega
      have HSN := hide (seenG_new (unhide HLEN) hlt hPT hTn)
      have HSS := hide (seenG_step (n := n2) hPT)
      have HGN : Hid (∀ wx, But (fun x => x = S) V wx → ∀ k, k < n2 → ∃ ag bg og bxx oxx bff off, b2 = ag ∧ ag = ⟨bg, og, none⟩ ∧ e2 = ⟨bxx, oxx, none⟩ ∧ i2 = some ⟨bff, off, none⟩ ∧ wx.cell? ⟨bg, og + k, none⟩ = some (.int .i64 (gP down dt k)) ∧ wx.cell? ⟨bxx, oxx + k, none⟩ = some (.int .i64 (gX down dt k)) ∧ wx.cell? ⟨bff, off + k, none⟩ = some (.int .i64 (gF d down dt k))) := fun wx hw k hk => by
        obtain ⟨bg, og, eg, -, cg⟩ := (hw.row (unhide TG).1 (unhide TG).2).get hk
        obtain ⟨bxx, oxx, ex, -, cx⟩ := (hw.row (unhide TX).1 (unhide TX).2).get hk
        obtain ⟨bff, off, ef, -, cf⟩ := (hw.row (unhide TF).1 (unhide TF).2).get hk
        cases eg
        cases ex
        refine ⟨_, bg, og, bxx, oxx, bff, off, rfl, rfl, rfl, ef, cg, ?_, ?_⟩
        · rw [cx]; simp [lineX, hk]
        · rw [cf]; simp [hk]
      obtain ⟨ag, bg, og, bxx, oxx, bff, off, rfl, rfl, rfl, rfl, cg, cx, cf⟩ := unhide HGN _ (unhide HU) i hlt
      obtain ⟨bd, od, ed, -, cdX⟩ := ((unhide HU).row (unhide TA).1 (unhide TA).2).get hXn
      obtain ⟨_, _, ed', -, cdY⟩ := ((unhide HU).row (unhide TA).1 (unhide TA).2).get hYn
      cases ed
      cases ed'
      have hXX : dt.getD X 0 = gX down dt i := by unfold gX; rw [hPT, eT, Int.toNat_natCast]
      rw [hYX] at cdY
      rw [hXX] at cdX
      rw [hPT] at cg
      rw [hFU] at cf
      have cS := (unhide HB).cell (i := T) (by rw [seenG_len]; omega)
      have fS := (unhide HB).free T
      rw [unhide HSN] at cS
      obtain ⟨xv, hxv⟩ : ∃ x, gX down dt i = x := ⟨_, rfl⟩
      have HXV := hide hxv
      rw [hxv] at cx cdX cdY
      have HPT := hide hPT
      have HFU := hide hFU
      have HT := hide hT
      have HU' := hide hU
      have hXi : (X : Int) < (n2 : Int) := by omega
      have hYi : (Y : Int) < (n2 : Int) := by omega
      have hTi : (T : Int) < ((n2 + 1 : Nat) : Int) := by omega
      have hT0 : 1 ≤ T := by omega
      have hU0 : 1 ≤ U := by omega
      clear hX hY hYX hYP hXX hxv hPT hFU hT hU
      go_upto_region 17 with fail
      go_cut [185] (fun u wx => u = .bool false ∧ ∃ q, wx = wr.drewN q)
      case first => as_aux_lemma =>
        have dd1 : decide (T < 1) = false := by simp; omega
        have dd1i : decide ((T : Int) < 1) = false := by simp; omega
        have dd2 : decide (n2 < T) = false := by simp; omega
        have dd3 : decide (U < 1) = false := by simp; omega
        have dd3i : decide ((U : Int) < 1) = false := by simp; omega
        have dd4 : decide (T < U) = false := by simp; omega
        simp only [List.append]
        go_big_quiet (fail)
        go_wp2_with fail
        go_meet
        case rel => exact ⟨rfl, _, rfl⟩
      case rest =>
      obtain ⟨rfl, q, rfl⟩ := hcut
      obtain ⟨wq, hwq⟩ : ∃ x, x = wr.drewN q := ⟨_, rfl⟩
      rw [← hwq]
      have HBq : Hid (BBlk wq S (seenG down dt n2 i)) := by rw [hwq]; exact unhide HB
      have HUq : Hid (But (fun x => x = S) V wq) := by rw [hwq]; exact (unhide HU).drewN q
      clear hwq HB HU pA pG pX pF cg cx cf cdX cdY cS fS hXi hYi
      clear wr
      obtain ⟨pA, pG, pX, pF⟩ := unhide HPK _ (unhide HUq)
      have cg : wq.cell? ⟨bg, og + i, none⟩ = some (.int .i64 (T : Nat)) := by
        obtain ⟨ag', bg', og', bx', ox', bf', of', h0, h1, h2, h3, h4, h5, h6⟩ := unhide HGN _ (unhide HUq) i hlt
        subst h0
        cases h1
        rw [h4, unhide HPT]
      have fS := (unhide HBq).free T
      have cS := (unhide HBq).cell (i := T) (by rw [seenG_len]; omega)
      have HBm : Hid (BBlk (wq.setCell ⟨S, T, none⟩ (.bool true)) S (seenG down dt n2 (i + 1))) := by
        show BBlk _ _ _
        rw [← unhide HSS]
        exact (unhide HBq).set T true
      have HUm : Hid (But (fun x => x = S) V (wq.setCell ⟨S, T, none⟩ (.bool true))) := (unhide HUq).setCell (p := ⟨S, T, none⟩) rfl _
      go_upto_region 20 with fail
      obtain ⟨wm, hwm⟩ : ∃ x, x = wq.setCell ⟨S, T, none⟩ (.bool true) := ⟨_, rfl⟩
      rw [← hwm] at HBm HUm ⊢
      clear hwm pA pG pX pF cg fS cS HBq HUq
      clear wq
      obtain ⟨pA, pG, pX, pF⟩ := unhide HPK _ (unhide HUm)
      by_cases hi0 : i = 0
      · subst hi0
        go_wp2_with fail
        go_roundw
        case rel => exact ⟨1, by omega, by go_num, HBm, HUm⟩
        case measure => simp [intOf]; omega
      obtain ⟨i0, hi1⟩ : ∃ i0, i = i0 + 1 := ⟨i - 1, by omega⟩
      have gi0 : ((i : Int) == 0) = false := by simp; omega
      have ei : (i : Int) - 1 = (i0 : Int) := by omega
      have hi0n : i0 < n2 := by omega
      have hi0i : (i0 : Int) < (n2 : Int) := by omega
      obtain ⟨X0, hX0, -⟩ := gP_at (down := down) (unhide HLEN) hi0n
      obtain ⟨Y0, hY0, -, -, -⟩ := gF_at (c := d) (down := down) (unhide HLEN) hi0n
      obtain ⟨T0, hT0'⟩ : ∃ T, T = X0 + 1 := ⟨_, rfl⟩
      obtain ⟨U0, hU0'⟩ : ∃ U, U = Y0 + 1 := ⟨_, rfl⟩
      have hPT0 : gP down dt i0 = (T0 : Int) := by rw [hX0, hT0']; omega
      have hFU0 : gF d down dt i0 = (U0 : Int) := by rw [hY0, hU0']; omega
      obtain ⟨xv0, hxv0⟩ : ∃ x, gX down dt i0 = x := ⟨_, rfl⟩
      have HCE : Hid (wm.cell? ⟨bg, og + i, none⟩ = some (.int .i64 (T : Nat)) ∧ wm.cell? ⟨bxx, oxx + i, none⟩ = some (.int .i64 xv) ∧ wm.cell? ⟨bff, off + i, none⟩ = some (.int .i64 (U : Nat)) ∧ wm.cell? ⟨bg, og + i0, none⟩ = some (.int .i64 (T0 : Nat)) ∧ wm.cell? ⟨bxx, oxx + i0, none⟩ = some (.int .i64 xv0) ∧ wm.cell? ⟨bff, off + i0, none⟩ = some (.int .i64 (U0 : Nat))) := by
        obtain ⟨ag', bg', og', bx', ox', bf', of', h0, h1, h2, h3, h4, h5, h6⟩ := unhide HGN _ (unhide HUm) i hlt
        obtain ⟨ag2, bg2, og2, bx2, ox2, bf2, of2, k0, k1, k2, k3, k4, k5, k6⟩ := unhide HGN _ (unhide HUm) i0 hi0n
        subst h0
        subst k0
        cases h1
        cases h2
        cases h3
        cases k1
        cases k2
        cases k3
        rw [unhide HPT] at h4
        rw [unhide HXV] at h5
        rw [unhide HFU] at h6
        rw [hPT0] at k4
        rw [hxv0] at k5
        rw [hFU0] at k6
        exact ⟨h4, h5, h6, k4, k5, k6⟩
      obtain ⟨cg, cx, cf, cg0, cx0, cf0⟩ := unhide HCE
      have HI1 := hide hi1
      by_cases hxx : xv = xv0
      · have hTT : T0 < T := by
          have := g_same (down := down) (i := i0) (unhide HLEN) (by rw [← hi1]; exact hlt) (by rw [← hi1, unhide HXV, hxv0]; exact hxx)
          rw [← hi1, unhide HPT, hPT0] at this
          omega
        have hUU : U = U0 := by
          have := g_sameF (c := d) (down := down) (dt := dt) (i := i0) (by rw [← hi1, unhide HXV, hxv0]; exact hxx)
          rw [← hi1, unhide HFU, hFU0] at this
          omega
        subst hxx
        subst hUU
        have dT : decide (T < T0) = false := by simp; omega
        clear hi1 hX0 hY0 hT0' hU0' hPT0 hFU0 hxv0 hi0 hTT HCE
        go_wp2_with fail
        go_quiet (fail)
        go_wp2_with fail
        go_quiet (fail)
        go_wp2_with fail
        go_roundw
        case rel => exact ⟨i + 1, by omega, by go_num, unhide HBm, (unhide HUm).drewN _⟩
        case measure => simp [intOf]; omega
      · have hdf := g_diff (c := d) (down := down) (i := i0) (unhide HLEN) (by rw [← hi1]; exact hlt) (by rw [← hi1, unhide HXV, hxv0]; exact hxx)
        rw [← hi1, unhide HXV, hxv0, unhide HFU, unhide HPT] at hdf
        have hUT2 : U = T := by omega
        have hne : (xv == xv0) = false := by simp [hxx]
        have hdx := hdf.1
        have HDX := hide hdx
        subst hUT2
        clear hi1 hX0 hY0 hT0' hU0' hPT0 hFU0 hxv0 hi0 HCE hdf hxx hdx
        cases down with
        | true =>
          go_wp2_with fail
          go_quiet (fail)
          go_wp2_with fail
          have hdx := unhide HDX
          go_big_quiet (fail)
          go_wp2_with fail
          go_roundw
          case rel => exact ⟨i + 1, by omega, by go_num, unhide HBm, (unhide HUm).drewN _⟩
          case measure => simp [intOf]; omega
        | false =>
          go_wp2_with fail
          go_quiet (fail)
          go_wp2_with fail
          have hdx := unhide HDX
          go_big_quiet (fail)
          go_wp2_with fail
          go_roundw
          case rel => exact ⟨i + 1, by omega, by go_num, unhide HBm, (unhide HUm).drewN _⟩
          case measure => simp [intOf]; omega

end Go.Proofs.Ytlnangnimbgpoaa
