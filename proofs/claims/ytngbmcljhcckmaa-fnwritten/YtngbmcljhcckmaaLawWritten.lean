import Derived.Test.YtngbmcljhcckmaaMLw
import Derived.Test.YtngbmcljhcckmaaMLw
import Derived.Test.YtngbmcljhcckmaaMSpecR
import Derived.Test.YtngbmcljhcckmaaMSpecR
import Derived.Test.YtngbmcljhcckmaaImplReplaceS
import Derived.Test.YtngbmcljhcckmaaImplIndex
import Derived.Test.YtngbmcljhcckmaaMMath
import Derived.Test.YtngbmcljhcckmaaMBase
import Derived.Deep.RegionHeld
import Derived.Deep.DeepCutAuto
namespace Go.Proofs.Ytngbmcljhcckmaa
open Go.RowKit

set_option maxRecDepth 20000 in
set_option maxHeartbeats 16000000 in
theorem law_written (hdraw : DrawOk) (a : Option Addr) (n cn : Nat) (w : World) (hby : Bytes w a n) (hc : n ≤ cn) (hn : n ≤ 1048576) :
    Calls Try.prog 7 #[.slice a n cn] w fun e w' => e = .returned (.bool true) ∧ Below w.heap.size w w' := by
  have hcall := hdraw a n cn w hby hc hn
  have hnz : ¬ (1048576 : Int) < (n : Int) := by omega
  clear hby hc hdraw
  go_enter Try.func7, Try.ntmps7
  go_wp2_with fail
  refine hcall.mono ?_
  rintro e w1 ⟨c, a1, a2, n1, n2, c1, c2, sh, dt, B0, g, cap, k, xs, ps, d, b1, b2, m1, m2, d1, d2, sh', dt', rfl, h1, h2, hg, k1, k2, hn1, hn2, hk, hm1, hm2, hb1⟩
  clear hcall
  go_upto_region 4 with fail
  obtain ⟨X, hX⟩ : ∃ X, X = (w1.alloc (.cells #[.bool c, .slice (some a1) n1 c1, .slice (some a2) n2 c2] 26)).alloc (.cells #[.bool d, .slice (some b1) m1 d1, .slice (some b2) m2 d2] 26) := ⟨_, rfl⟩
  have HA : Hid (Below w1.heap.size w1 X) := by rw [hX]; exact ((Below.refl _ _).alloc (Nat.le_refl _) _).alloc (by simp) _
  have B3 : Hid (Box X w1.heap.size c (.slice (some a1) n1 c1) (.slice (some a2) n2 c2)) := by rw [hX]; exact (Box.new _ _ _ _).alloc _
  have B5 : Hid (Box X (w1.heap.size + 1) d (.slice (some b1) m1 d1) (.slice (some b2) m2 d2)) := by
    rw [hX]
    have := Box.new (w1.alloc (.cells #[.bool c, .slice (some a1) n1 c1, .slice (some a2) n2 c2] 26)) d (.slice (some b1) m1 d1) (.slice (some b2) m2 d2)
    rw [World.size_alloc] at this
    exact this
  have HK := hide (hb1.trans ((unhide HA).mono hb1.size))
  have R1 := hide (h1.below (Nat.le_refl _) (unhide HA))
  have R2 := hide (h2.below (Nat.le_refl _) (unhide HA))
  have S1 := hide (k1.below (Nat.le_refl _) (unhide HA))
  have S2 := hide (k2.below (Nat.le_refl _) (unhide HA))
  have G0 := hide (hg.below (unhide HA))
  obtain ⟨P3, hP3⟩ : ∃ p, p = w1.heap.size := ⟨_, rfl⟩
  rw [← hP3] at B3 B5
  rw [← hX, ← hP3]
  clear hX hP3 HA h1 h2 k1 k2 hg hb1
  clear w1
  obtain ⟨P5, hP5⟩ : ∃ p, p = P3 + 1 := ⟨_, rfl⟩
  rw [← hP5] at B5
  rw [← hP5]
  clear hP5
  have hl2 := hide (unhide R2).len
  have hl4 := hide (unhide S2).len
  obtain ⟨R, hR⟩ : ∃ R, replaceA c sh dt ps d sh' dt' = R := ⟨_, rfl⟩
  have HR := hide hR
  clear hR
  obtain ⟨x0, x1, x2, x3, x4, x5, x6⟩ := (unhide B3).all
  obtain ⟨y0, y1, y2, y3, y4, y5, y6⟩ := (unhide B5).all
  go_wp2_with fail
  refine (Replace_any c d a1 a2 b1 b2 (some ⟨g, 0, none⟩) n1 n2 c1 c2 k cap m1 m2 d1 d2 sh dt ps sh' dt' _ (unhide R1) (unhide R2) ((unhide G0).rowN (by omega)) (unhide S1) (unhide S2)).mono ?_
  rintro e V ⟨e1, k1, f1, e2, k2, f2, rfl, hE1, hE2, hbV⟩
  rw [unhide HR] at hE1 hE2 ⊢
  clear x0 x1 x2 x3 x4 x5 x6 y0 y1 y2 y3 y4 y5 y6
  replace HK := hide ((unhide HK).trans (hbV.mono (unhide HK).size))
  replace B3 := hide ((unhide B3).below (Nat.le_refl _) hbV)
  replace B5 := hide ((unhide B5).below (Nat.le_refl _) hbV)
  replace R1 := hide ((unhide R1).below (Nat.le_refl _) hbV)
  replace R2 := hide ((unhide R2).below (Nat.le_refl _) hbV)
  replace S1 := hide ((unhide S1).below (Nat.le_refl _) hbV)
  replace S2 := hide ((unhide S2).below (Nat.le_refl _) hbV)
  replace G0 := hide ((unhide G0).below hbV)
  have T1 := hide hE1
  have T2 := hide hE2
  clear hbV hE1 hE2
  clear X
  obtain ⟨N, hN⟩ : ∃ N : Nat, partsCode sh ps = 0 → prodAll (pSh sh ps) = (N : Int) := ⟨(prodAll (pSh sh ps)).toNat, fun h0 => by have := (shapeIn_b (parts_ok h0).2).bd; omega⟩
  have HN := hide hN
  clear hN
  obtain ⟨rc, rsh, rdt, rcode⟩ := R
  simp only at T1 T2 ⊢
  obtain ⟨x0, x1, x2, x3, x4, x5, x6⟩ := (unhide B3).all
  go_wp2_with fail
  refine (Where_any c a1 a2 (some ⟨g, 0, none⟩) n1 n2 c1 c2 k cap sh dt ps _ (by exact (unhide R1).alloc _) (by exact (unhide R2).alloc _) (by exact ((unhide G0).below ((Below.refl _ _).alloc (Nat.le_refl _) _)).rowN (by omega)) N (unhide HN)).mono ?_
  rintro e Y ⟨v, bo, rfl, hbY, hwh⟩
  clear x0 x1 x2 x3 x4 x5 x6
  have B6 : Hid (Box Y V.heap.size rc (.slice e1 k1 f1) (.slice e2 k2 f2)) := (Box.new V _ _ _).below (Nat.le_refl _) hbY
  replace HK := hide (((unhide HK).alloc (unhide HK).size _).trans (hbY.mono (by have := (unhide HK).size; simp; omega)))
  replace B3 := hide (((unhide B3).alloc _).below (Nat.le_refl _) hbY)
  replace B5 := hide (((unhide B5).alloc _).below (Nat.le_refl _) hbY)
  replace R1 := hide (((unhide R1).alloc _).below (Nat.le_refl _) hbY)
  replace R2 := hide (((unhide R2).alloc _).below (Nat.le_refl _) hbY)
  replace S1 := hide (((unhide S1).alloc _).below (Nat.le_refl _) hbY)
  replace S2 := hide (((unhide S2).alloc _).below (Nat.le_refl _) hbY)
  replace G0 := hide (((unhide G0).below ((Below.refl _ _).alloc (Nat.le_refl _) _)).below hbY)
  replace T1 := hide (((unhide T1).alloc _).below (Nat.le_refl _) hbY)
  replace T2 := hide (((unhide T2).alloc _).below (Nat.le_refl _) hbY)
  have HWH := hide hwh
  obtain ⟨P6, hP6⟩ : ∃ p, p = V.heap.size := ⟨_, rfl⟩
  rw [← hP6] at B6
  rw [← hP6]
  clear hP6 hbY hwh
  clear V
  obtain ⟨x0, x1, x2, x3, x4, x5, x6⟩ := (unhide B3).all
  obtain ⟨y0, y1, y2, y3, y4, y5, y6⟩ := (unhide B5).all
  go_wp2_with fail
  go_cut [10, 11] (fun r6 r7 wr => r7 = .int .i64 rcode ∧ ∃ p i1 j1 l1 i2 j2 l2, r6 = .pointer (some ⟨p, 0, none⟩) ∧ Box wr p rc (.slice i1 j1 l1) (.slice i2 j2 l2) ∧ Row wr i1 j1 rsh ∧ Row wr i2 j2 rdt ∧ (rcode = 0 → (∃ ad, i1 = some ad) ∧ ∃ ad, i2 = some ad) ∧ Below Y.heap.size Y wr)
  case first =>
    have HKEEP : ∀ wx, Below Y.heap.size Y wx → Below Y.heap.size Y wx ∧ wx.cell? ⟨P3, 0, none⟩ = some (.bool c) ∧ wx.cell? ⟨P3, 1, none⟩ = some (.slice (some a1) n1 c1) ∧ wx.cell? ⟨P3, 2, none⟩ = some (.slice (some a2) n2 c2) ∧ wx.cell? ⟨P5, 0, none⟩ = some (.bool d) ∧ wx.cell? ⟨P5, 1, none⟩ = some (.slice (some b1) m1 d1) ∧ wx.cell? ⟨P5, 2, none⟩ = some (.slice (some b2) m2 d2) := fun wx hwx => by
      obtain ⟨t0, t1, t2, _, _, _⟩ := ((unhide B3).below (Nat.le_refl _) hwx).all
      obtain ⟨t3, t4, t5, _, _, _⟩ := ((unhide B5).below (Nat.le_refl _) hwx).all
      exact ⟨hwx, t0, t1, t2, t3, t4, t5⟩
    go_region_held (fun wx => Below Y.heap.size Y wx ∧ wx.cell? ⟨P3, 0, none⟩ = some (.bool c) ∧ wx.cell? ⟨P3, 1, none⟩ = some (.slice (some a1) n1 c1) ∧ wx.cell? ⟨P3, 2, none⟩ = some (.slice (some a2) n2 c2) ∧ wx.cell? ⟨P5, 0, none⟩ = some (.bool d) ∧ wx.cell? ⟨P5, 1, none⟩ = some (.slice (some b1) m1 d1) ∧ wx.cell? ⟨P5, 2, none⟩ = some (.slice (some b2) m2 d2)) (first | exact HKEEP _ hK5 | exact HKEEP _ (((hK5.setCell (by have h3 := hK3.size; have hp := hKP.size; have h4 := hK4.size; simp <;> omega) _).setCell (by have h3 := hK3.size; have hp := hKP.size; have h4 := hK4.size; simp <;> omega) _).setCell (by have h3 := hK3.size; have hp := hKP.size; have h4 := hK4.size; simp <;> omega) _) | exact HKEEP _ (hK5.alloc hK5.size _) | exact HKEEP _ hK4 | exact HKEEP _ (hK4.alloc hK4.size _) | exact HKEEP _ hKP | exact HKEEP _ (hKP.alloc hKP.size _) | exact HKEEP _ hK3 | exact HKEEP _ (hK3.alloc hK3.size _) | exact HKEEP _ (Below.refl _ _).drew | exact HKEEP _ ((Below.refl _ _).drew.alloc (by simp <;> omega) _))
      (first
      | (go_at_call_of 22 (Value.slice (some a1) n1 c1); refine (lwArray_src _ (some a1) (some a2) _ _ _ _ sh dt _ (by first | exact Src.some ((unhide R1).below (Nat.le_refl _) (Below.refl _ _).drew) | exact Src.some (((unhide R1).below (Nat.le_refl _) (Below.refl _ _).drew).alloc _)) (by first | exact Src.some ((unhide R2).below (Nat.le_refl _) (Below.refl _ _).drew) | exact Src.some (((unhide R2).below (Nat.le_refl _) (Below.refl _ _).drew).alloc _)) (by omega) (by omega)).mono ?_; rintro e wI ⟨g1, g2, x1, x2, rfl, hX1, hX2, _, _, hb3⟩; have hK3 : Below Y.heap.size Y wI := (by first | exact (Below.refl _ _).drew.trans (hb3.mono (by simp)) | exact ((Below.refl _ _).drew.alloc (by simp) _).trans (hb3.mono (by simp))); (first | have hP3 := (Box.new _ _ _ _).below (Nat.le_refl _) hb3 | have hP3 := (Box.new _ _ _ _).drew.below (Nat.le_refl _) hb3 | skip); obtain ⟨_, x0, x1', x2', x3, x4, x5⟩ := HKEEP _ hK3)
      | (go_at_call 35; refine (lwParts_any B0 g k cap xs ps _ (by first | exact (unhide G0).below hK3 | exact ((unhide G0).below hK3).below ((Below.refl _ _).alloc (Nat.le_refl _) _)) (by omega)).mono ?_; rintro e wP ⟨gp, capp, xsp, rfl, hXP, hbP⟩; have hKP : Below Y.heap.size Y wP := (by first | exact hK3.trans (hbP.mono hK3.size) | exact (hK3.alloc hK3.size _).trans (hbP.mono (by have := hK3.size; simp; omega))); (first | have hPP := hP3.below (Nat.le_refl _) hbP | have hPP := (Box.new _ _ _ _).below (Nat.le_refl _) hbP | skip); have hX1P : Row wP (some ⟨g1, 0, none⟩) n1 sh := (by first | exact hX1.row.below (Nat.le_refl _) hbP | exact (hX1.row.alloc _).below (Nat.le_refl _) hbP); have hX2P : Row wP (some ⟨g2, 0, none⟩) n2 dt := (by first | exact hX2.row.below (Nat.le_refl _) hbP | exact (hX2.row.alloc _).below (Nat.le_refl _) hbP); obtain ⟨_, xP0, xP1, xP2, xP3, xP4, xP5⟩ := HKEEP _ hKP)
      | (go_at_call_of 22 (Value.slice (some b1) m1 d1); refine (lwArray_src _ (some b1) (some b2) _ _ _ _ sh' dt' _ (by first | exact Src.some ((unhide S1).below (Nat.le_refl _) hKP) | exact Src.some (((unhide S1).below (Nat.le_refl _) hKP).alloc _)) (by first | exact Src.some ((unhide S2).below (Nat.le_refl _) hKP) | exact Src.some (((unhide S2).below (Nat.le_refl _) hKP).alloc _)) (by omega) (by omega)).mono ?_; rintro e wJ ⟨g3, g4, x3', x4', rfl, hX3, hX4, _, _, hb4⟩; have hK4 : Below Y.heap.size Y wJ := (by first | exact hKP.trans (hb4.mono hKP.size) | exact (hKP.alloc hKP.size _).trans (hb4.mono (by have := hKP.size; simp; omega))); (first | have hP4 := hPP.below (Nat.le_refl _) hb4 | have hP4 := (Box.new _ _ _ _).below (Nat.le_refl _) hb4 | skip); have hX1' : Row wJ (some ⟨g1, 0, none⟩) n1 sh := (by first | exact hX1P.below (Nat.le_refl _) hb4 | exact (hX1P.alloc _).below (Nat.le_refl _) hb4); have hX2' : Row wJ (some ⟨g2, 0, none⟩) n2 dt := (by first | exact hX2P.below (Nat.le_refl _) hb4 | exact (hX2P.alloc _).below (Nat.le_refl _) hb4); have hXP' : PRowN wJ (some ⟨gp, 0, none⟩) k ps := (by first | exact (hXP.rowN (by omega)).below (Nat.le_refl _) hb4 | exact ((hXP.rowN (by omega)).alloc _).below (Nat.le_refl _) hb4); obtain ⟨_, z0, z1, z2, z3, z4, z5⟩ := HKEEP _ hK4)
      | (go_at_call 34; refine (implReplace_some c d ⟨g1, 0, none⟩ ⟨g2, 0, none⟩ ⟨g3, 0, none⟩ ⟨g4, 0, none⟩ (some ⟨gp, 0, none⟩) n1 n2 _ _ k capp m1 m2 _ _ sh dt ps sh' dt' _ (by first | exact hX1' | exact (hX1').alloc _) (by first | exact hX2' | exact (hX2').alloc _) (by first | exact hXP' | exact (hXP').alloc _) (by first | exact hX3.row | exact (hX3.row).alloc _) (by first | exact hX4.row | exact (hX4.row).alloc _)).mono ?_; rintro e wL ⟨i1, j1, l1, i2, j2, l2, rfl, hE1', hE2', _, hb5, hsm⟩; have hE1 := hE1'.row; have hE2 := hE2'.row; clear hE1' hE2'; (have HR' := unhide HR; rw [HR'] at hE1 hE2 hsm ⊢; simp only at hE1 hE2 hsm ⊢; clear HR'); have hK5 : Below Y.heap.size Y wL := (by first | exact hK4.trans (hb5.mono hK4.size) | exact (hK4.alloc hK4.size _).trans (hb5.mono (by have := hK4.size; simp; omega))); (first | (have hP5 := hP4.below (Nat.le_refl _) hb5; obtain ⟨u0, u1, u2, u3, u4, u5, u6⟩ := hP5.free'; (try simp at u0 u1 u2 u3 u4 u5 u6)) | (have hP5 := (Box.new _ _ _ _).below (Nat.le_refl _) hb5; obtain ⟨u0, u1, u2, u3, u4, u5, u6⟩ := hP5.free'; (try simp at u0 u1 u2 u3 u4 u5 u6)) | skip); obtain ⟨_, z0', z1', z2', z3', z4', z5'⟩ := HKEEP _ hK5))
    all_goals go_wp2_with fail
    all_goals (go_meet; case rel => first | exact ⟨rfl, _, _, _, _, _, _, _, rfl, hP5.sets, hE1.sets hP5 _ _ _, hE2.sets hP5 _ _ _, hsm, ((hK5.setCell (by have h3 := hK3.size; have hp := hKP.size; have h4 := hK4.size; simp <;> omega) _).setCell (by have h3 := hK3.size; have hp := hKP.size; have h4 := hK4.size; simp <;> omega) _).setCell (by have h3 := hK3.size; have hp := hKP.size; have h4 := hK4.size; simp <;> omega) _⟩ | exact ⟨rfl, _, _, _, _, _, _, _, rfl, Box.new _ _ _ _, hE1.alloc _, hE2.alloc _, hsm, hK5.alloc hK5.size _⟩)
  case rest =>
  obtain ⟨rfl, P10, i1, j1, l1, i2, j2, l2, rfl, hb10, hI1, hI2, hsm, hbc⟩ := hcut
  clear x0 x1 x2 x3 x4 x5 x6 y0 y1 y2 y3 y4 y5 y6
  have HWH2 : Hid (arrOk c sh dt = true → partsCode sh ps = 0 → ∃ ga ca, v = .slice (some ⟨ga, 0, none⟩) N ca ∧ Row wc (some ⟨ga, 0, none⟩) N (whereL sh ps N)) := fun h0 h1 => by
    obtain ⟨ga, ca, e, hr⟩ := unhide HWH h0 h1
    exact ⟨ga, ca, e, hr.below (Nat.le_refl _) hbc⟩
  replace HK := hide ((unhide HK).trans (hbc.mono (unhide HK).size))
  replace B3 := hide ((unhide B3).below (Nat.le_refl _) hbc)
  replace B5 := hide ((unhide B5).below (Nat.le_refl _) hbc)
  replace R1 := hide ((unhide R1).below (Nat.le_refl _) hbc)
  replace R2 := hide ((unhide R2).below (Nat.le_refl _) hbc)
  replace S1 := hide ((unhide S1).below (Nat.le_refl _) hbc)
  replace S2 := hide ((unhide S2).below (Nat.le_refl _) hbc)
  replace G0 := hide ((unhide G0).below hbc)
  replace T1 := hide ((unhide T1).below (Nat.le_refl _) hbc)
  replace T2 := hide ((unhide T2).below (Nat.le_refl _) hbc)
  replace B6 := hide ((unhide B6).below (Nat.le_refl _) hbc)
  have B10 := hide hb10
  have I1 := hide hI1
  have I2 := hide hI2
  have HSM := hide hsm
  clear hbc hb10 hI1 hI2 hsm HWH
  clear Y
  obtain ⟨Y, hY⟩ : ∃ x, x = wc := ⟨_, rfl⟩
  subst hY
  by_cases hc0 : rcode = 0
  case neg =>
    have hq1 : (rcode != rcode) = false := by simp
    have hq2 : (rcode != 0) = true := by simp [hc0]
    have hq3 : (rcode == rcode) = true := by simp
    clear hc0
    go_wp2
    go_ret
    exact ⟨rfl, unhide HK⟩
  subst hc0
  obtain ⟨hok1, hok2, hpc, hft, hcd, hrc, hrs, hrd⟩ := repl_inv (unhide HR)
  have hNv := unhide HN hpc
  have hNb : N ≤ 10000 := by have := (shapeIn_b (parts_ok hpc).2).bd; omega
  obtain ⟨ga, ca, rfl, hwr⟩ := unhide HWH2 hok1 hpc
  have W0 := hide hwr
  subst hcd hrc hrs
  obtain ⟨wh, hwh⟩ : ∃ f, f = whereAt rsh ps := ⟨_, rfl⟩
  have hrd' : rdt = intoN dt dt' wh N := by rw [hrd, hNv, hwh]; simp
  have HCT := fit_count hok2 hft hNv
  rw [unhide hl4] at HCT
  obtain ⟨hpo, hsb⟩ := parts_ok hpc
  obtain ⟨hsi, hpd, h5'⟩ := shapeIn_of hok1
  have HWB : Hid (∀ t, t < N → 0 ≤ wh t ∧ wh t < (dt.length : Int)) := fun t ht => by
    have := (where_bd hpo hsi hsb (t := t) (by rw [hNv]; omega)).2
    rw [hpd] at this
    rw [hwh]
    exact this
  have HOK : Hid (arrOk rc rsh rdt = true) := by show _ = _; rw [hrd']; exact into_ok hok1 hok2 (by rw [unhide hl4]; exact HCT)
  have HIX : Hid (indexA rc rsh rdt ps = ⟨rc, pSh rsh ps, vals (pickedAt rdt rsh ps) N, 0⟩) := index_go (unhide HOK) hpc N hNv
  have HWL : Hid (∀ i, i < N → (whereL rsh ps N).getD i 0 = wh i) := fun i hi => by rw [whereL_get _ _ hi, hwh]
  have HPK : Hid (∀ i, i < N → (vals (pickedAt rdt rsh ps) N).getD i 0 = rdt.getD (wh i).toNat 0) := fun i hi => by
    unfold vals
    rw [map_range_get _ _ _ hi, hwh]
    rfl
  have HRD := hide hrd'
  obtain ⟨⟨s1, rfl⟩, s2, rfl⟩ := unhide HSM rfl
  have hj1 := (unhide I1).len
  have hj2 := (unhide I2).len
  have hj1b : j1 ≤ 5 := by rw [← hj1]; exact h5'
  have hj2b : j2 = n2 := by rw [← hj2, hrd', into_len]; exact unhide hl2
  subst hj2b
  clear hok1 hok2 hpc hft hNv hwh hrd hrd' hpo hsb hsi hpd h5' hwr HWH2 HSM HN hj1 hj2
  obtain ⟨x0, x1, x2, x3, x4, x5, x6⟩ := (unhide B10).all
  obtain ⟨y0, y1, y2, y3, y4, y5, y6⟩ := (unhide B6).all
  have hq1 : ((0 : Int) != 0) = false := by simp
  go_wp2_with fail
  refine (eqArray_refl _ _ _ _ _ _ _ _ _ _ _ _ _ rsh rdt _ (by exact unhide I1) (by exact unhide I2) (by exact unhide T1) (by exact unhide T2)).mono ?_
  rintro e V ⟨rfl, hbV⟩
  clear x0 x1 x2 x3 x4 x5 x6 y0 y1 y2 y3 y4 y5 y6
  clear B6 T1 T2 S1 R1 HR HOK
  replace HK := hide ((unhide HK).trans (hbV.mono (unhide HK).size))
  replace B3 := hide ((unhide B3).below (Nat.le_refl _) hbV)
  replace B5 := hide ((unhide B5).below (Nat.le_refl _) hbV)
  replace R2 := hide ((unhide R2).below (Nat.le_refl _) hbV)
  replace S2 := hide ((unhide S2).below (Nat.le_refl _) hbV)
  replace G0 := hide ((unhide G0).below hbV)
  replace B10 := hide ((unhide B10).below (Nat.le_refl _) hbV)
  replace I1 := hide ((unhide I1).below (Nat.le_refl _) hbV)
  replace I2 := hide ((unhide I2).below (Nat.le_refl _) hbV)
  replace W0 := hide ((unhide W0).below (Nat.le_refl _) hbV)
  clear hbV
  clear Y
  obtain ⟨x0, x1, x2, x3, x4, x5, x6⟩ := (unhide B10).all
  go_wp2_with fail
  refine (lwArray_src _ (some s1) (some s2) _ _ _ _ rsh rdt _ (Src.some (unhide I1)) (Src.some (unhide I2)) (by omega) (by omega)).mono ?_
  rintro e Y ⟨g1, g2, x1', x2', rfl, hX1, hX2, _, _, hbY⟩
  clear x0 x1 x2 x3 x4 x5 x6
  clear I1
  replace HK := hide ((unhide HK).trans (hbY.mono (unhide HK).size))
  replace B3 := hide ((unhide B3).below (Nat.le_refl _) hbY)
  replace B5 := hide ((unhide B5).below (Nat.le_refl _) hbY)
  replace R2 := hide ((unhide R2).below (Nat.le_refl _) hbY)
  replace S2 := hide ((unhide S2).below (Nat.le_refl _) hbY)
  replace G0 := hide ((unhide G0).below hbY)
  replace B10 := hide ((unhide B10).below (Nat.le_refl _) hbY)
  replace I2 := hide ((unhide I2).below (Nat.le_refl _) hbY)
  replace W0 := hide ((unhide W0).below (Nat.le_refl _) hbY)
  have X1 := hide hX1.row
  have X2 := hide hX2.row
  clear hbY hX1 hX2
  clear V
  go_wp2_with fail
  refine (lwParts_any B0 g k cap xs ps _ (unhide G0) (by omega)).mono ?_
  rintro e V ⟨gp, capp, xsp, rfl, hXP, hbV⟩
  clear G0
  replace HK := hide ((unhide HK).trans (hbV.mono (unhide HK).size))
  replace B3 := hide ((unhide B3).below (Nat.le_refl _) hbV)
  replace B5 := hide ((unhide B5).below (Nat.le_refl _) hbV)
  replace R2 := hide ((unhide R2).below (Nat.le_refl _) hbV)
  replace S2 := hide ((unhide S2).below (Nat.le_refl _) hbV)
  replace B10 := hide ((unhide B10).below (Nat.le_refl _) hbV)
  replace I2 := hide ((unhide I2).below (Nat.le_refl _) hbV)
  replace W0 := hide ((unhide W0).below (Nat.le_refl _) hbV)
  replace X1 := hide ((unhide X1).below (Nat.le_refl _) hbV)
  replace X2 := hide ((unhide X2).below (Nat.le_refl _) hbV)
  have XP := hide (hXP.rowN (by omega))
  clear hbV hXP
  clear Y
  go_wp2_with fail
  refine (implIndex_any rc ⟨g1, 0, none⟩ ⟨g2, 0, none⟩ (some ⟨gp, 0, none⟩) _ _ _ _ k capp rsh rdt ps _ (unhide X1) (unhide X2) (unhide XP)).mono ?_
  rintro e Y ⟨r1, o1, q1, r2, o2, q2, rfl, hO1, hO2, _, hbY, _⟩
  rw [unhide HIX] at hO1 hO2 ⊢
  simp only at hO1 hO2 ⊢
  clear X1 X2 XP
  replace HK := hide ((unhide HK).trans (hbY.mono (unhide HK).size))
  replace B3 := hide ((unhide B3).below (Nat.le_refl _) hbY)
  replace B5 := hide ((unhide B5).below (Nat.le_refl _) hbY)
  replace R2 := hide ((unhide R2).below (Nat.le_refl _) hbY)
  replace S2 := hide ((unhide S2).below (Nat.le_refl _) hbY)
  replace B10 := hide ((unhide B10).below (Nat.le_refl _) hbY)
  replace I2 := hide ((unhide I2).below (Nat.le_refl _) hbY)
  replace W0 := hide ((unhide W0).below (Nat.le_refl _) hbY)
  have Q2 := hide hO2.row
  have ho2 : o2 = N := by have := hO2.len; rw [vals_len] at this; omega
  subst ho2
  clear hbY hO1 hO2 HIX
  clear V
  go_upto_region 12 with fail
  obtain ⟨V, hV⟩ : ∃ V, V = Y.alloc (.cells #[.bool rc, .slice r1 o1 q1, .slice r2 o2 q2] 26) := ⟨_, rfl⟩
  have hbV : Below Y.heap.size Y V := by rw [hV]; exact (Below.refl _ _).alloc (Nat.le_refl _) _
  have B12 : Hid (Box V Y.heap.size rc (.slice r1 o1 q1) (.slice r2 o2 q2)) := by rw [hV]; exact Box.new _ _ _ _
  replace HK := hide ((unhide HK).trans (hbV.mono (unhide HK).size))
  replace B3 := hide ((unhide B3).below (Nat.le_refl _) hbV)
  replace B5 := hide ((unhide B5).below (Nat.le_refl _) hbV)
  replace R2 := hide ((unhide R2).below (Nat.le_refl _) hbV)
  replace S2 := hide ((unhide S2).below (Nat.le_refl _) hbV)
  replace B10 := hide ((unhide B10).below (Nat.le_refl _) hbV)
  replace I2 := hide ((unhide I2).below (Nat.le_refl _) hbV)
  replace W0 := hide ((unhide W0).below (Nat.le_refl _) hbV)
  replace Q2 := hide ((unhide Q2).below (Nat.le_refl _) hbV)
  obtain ⟨P12, hP12⟩ : ∃ p, p = Y.heap.size := ⟨_, rfl⟩
  rw [← hP12] at B12
  rw [← hV, ← hP12]
  clear hV hP12 hbV
  clear Y
  have hmk := run_make_row' (P := Try.prog) 22 3 (.int .i64 0) 8 Try.underlying22 info_int rfl .i64 .i64 j2 (by omega) (by omega)
  obtain ⟨x0, x1, x2, x3, x4, x5, x6⟩ := (unhide B3).all
  obtain ⟨y0, y1, y2, y3, y4, y5, y6⟩ := (unhide B12).all
  go_wp2_with fail
  obtain ⟨X, hX⟩ : ∃ X, X = V.alloc (.cells (madeCells #[.int .i64 0] j2) 3) := ⟨_, rfl⟩
  have hbX : Below V.heap.size V X := by rw [hX]; exact (Below.refl _ _).alloc (Nat.le_refl _) _
  have L0 : Hid (Blk X V.heap.size (lastN wh dt.length 0)) := by show Blk _ _ _; rw [hX, unhide hl2]; exact Blk.made V j2 _ rfl
  clear x0 x1 x2 x3 x4 x5 x6 y0 y1 y2 y3 y4 y5 y6
  have lB3 := (unhide B3).lt
  have lB5 := (unhide B5).lt
  have lB10 := (unhide B10).lt
  have lB12 := (unhide B12).lt
  have HHI : Hid ((∀ x, At (some ⟨ga, 0, none⟩) o2 x → x < V.heap.size) ∧ (∀ x, At r2 o2 x → x < V.heap.size) ∧ (∀ x, At (some s2) j2 x → x < V.heap.size) ∧ (∀ x, At (some a2) j2 x → x < V.heap.size) ∧ (∀ x, At (some b2) m2 x → x < V.heap.size)) := ⟨fun x h => (unhide W0).hi h, fun x h => (unhide Q2).hi h, fun x h => (unhide I2).hi h, fun x h => (unhide R2).hi h, fun x h => (unhide S2).hi h⟩
  have hgz : w.heap.size ≤ V.heap.size := (unhide HK).size
  replace HK := hide ((unhide HK).trans (hbX.mono (unhide HK).size))
  replace B3 := hide ((unhide B3).below (Nat.le_refl _) hbX)
  replace B5 := hide ((unhide B5).below (Nat.le_refl _) hbX)
  replace R2 := hide ((unhide R2).below (Nat.le_refl _) hbX)
  replace S2 := hide ((unhide S2).below (Nat.le_refl _) hbX)
  replace B10 := hide ((unhide B10).below (Nat.le_refl _) hbX)
  replace I2 := hide ((unhide I2).below (Nat.le_refl _) hbX)
  replace W0 := hide ((unhide W0).below (Nat.le_refl _) hbX)
  replace Q2 := hide ((unhide Q2).below (Nat.le_refl _) hbX)
  replace B12 := hide ((unhide B12).below (Nat.le_refl _) hbX)
  obtain ⟨gl, hgl⟩ : ∃ p, p = V.heap.size := ⟨_, rfl⟩
  rw [← hgl] at L0 HHI hgz lB3 lB5 lB10 lB12
  rw [← hX, ← hgl]
  clear hX hgl hbX hmk
  clear V
  have HBX : Hid (∀ wr, But (fun x => x = gl) X wr → Box wr P3 rc (.slice (some a1) n1 c1) (.slice (some a2) j2 c2) ∧ Box wr P5 rc (.slice (some b1) m1 d1) (.slice (some b2) m2 d2) ∧ Box wr P10 rc (.slice (some s1) j1 l1) (.slice (some s2) j2 l2) ∧ Box wr P12 rc (.slice r1 o1 q1) (.slice r2 o2 q2) ∧ Row wr (some a2) j2 dt ∧ Row wr (some b2) m2 dt' ∧ Row wr (some s2) j2 rdt ∧ Row wr (some ⟨ga, 0, none⟩) o2 (whereL rsh ps o2) ∧ Row wr r2 o2 (vals (pickedAt rdt rsh ps) o2)) := fun wr hb =>
    ⟨(unhide B3).but hb (by omega), (unhide B5).but hb (by omega), (unhide B10).but hb (by omega), (unhide B12).but hb (by omega), hb.row (unhide R2) (fun x hx hh => by have := (unhide HHI).2.2.2.1 x hh; omega), hb.row (unhide S2) (fun x hx hh => by have := (unhide HHI).2.2.2.2 x hh; omega), hb.row (unhide I2) (fun x hx hh => by have := (unhide HHI).2.2.1 x hh; omega), hb.row (unhide W0) (fun x hx hh => by have := (unhide HHI).1 x hh; omega), hb.row (unhide Q2) (fun x hx hh => by have := (unhide HHI).2.1 x hh; omega)⟩
  clear B3 B5 B10 B12 R2 S2 I2 W0 Q2 HHI lB3 lB5 lB10 lB12
  have hl2' := unhide hl2
  go_loopw [15] (fun i wr => ∃ q : Nat, q ≤ o2 ∧ i = .int .i64 q ∧ Hid (Blk wr gl (lastN wh dt.length q) ∧ But (fun x => x = gl) X wr)) (fun i _ => o2 - (intOf i).toNat)
  case atStart => exact ⟨0, Nat.zero_le _, rfl, unhide L0, But.refl _ _⟩
  case round =>
    obtain ⟨q, hq, rfl, HQ⟩ := hrel
    clear L0
    by_cases hlt : q < o2
    · obtain ⟨hbk, hbt⟩ := unhide HQ
      obtain ⟨_, _, _, _, _, _, _, hw, _⟩ := unhide HBX wr hbt
      obtain ⟨ga', oa', hga, _, hcw⟩ := hw.get hlt
      cases hga
      rw [unhide HWL q hlt, Nat.zero_add] at hcw
      have hwb := unhide HWB q hlt
      obtain ⟨J, hJ⟩ : ∃ J : Nat, wh q = J := ⟨(wh q).toNat, by omega⟩
      rw [hJ] at hcw hwb
      have hJl : J < j2 := by omega
      have hcl := hbk.cell (i := J) (by rw [last_len]; omega)
      have hcf := hbk.free J
      have HST : Hid (Blk (wr.setCell ⟨gl, J, none⟩ (.int .i64 ((q : Int) + 1))) gl (lastN wh dt.length (q + 1)) ∧ But (fun x => x = gl) X (wr.setCell ⟨gl, J, none⟩ (.int .i64 ((q : Int) + 1)))) := ⟨by have := hbk.set J ((q : Int) + 1); rwa [last_step hJ] at this, hbt.setCell (p := ⟨gl, J, none⟩) rfl _⟩
      have hlti : (q : Int) < (o2 : Int) := by omega
      clear hbk hbt hw hwb hJ HQ
      go_wp2_with fail
      go_roundw
      case rel => exact ⟨q + 1, by omega, by go_num, unhide HST⟩
      case measure => simp [intOf]; omega
    · obtain rfl : q = o2 := by omega
      have hlti : ¬ (q : Int) < (q : Int) := by omega
      obtain ⟨Z, hZ⟩ : ∃ x, x = wr := ⟨_, rfl⟩
      subst hZ
      obtain ⟨hbk, hbt⟩ := unhide HQ
      have HZ : Hid (∀ wx, Below Z.heap.size Z wx → Blk wx gl (lastN wh dt.length q) ∧ But (fun x => x = gl) X wx) := fun wx hwx => ⟨hbk.below (Nat.le_refl _) hwx, (hbt.trans (T := fun _ => False) (But.of_below hwx)).mono (fun _ hk => hk.elim id False.elim)⟩
      have HKZ := hide ((unhide HK).trans (hbt.below (unhide HK).size (fun x hx => by omega)))
      clear hbk hbt HQ hlt
      go_wp2_with fail
      go_loopw [16] (fun i wr => ∃ s : Nat, s ≤ q ∧ i = .int .i64 s ∧ Hid (Below Z.heap.size Z wr)) (fun i _ => q - (intOf i).toNat)
      case atStart => exact ⟨0, Nat.zero_le _, rfl, Below.refl _ _⟩
      case round =>
        obtain ⟨s, hs, rfl, HS⟩ := hrel
        obtain ⟨hbk, hbt⟩ := unhide HZ wr (unhide HS)
        obtain ⟨c3, c5, c10, c12, ra, rb, rg, hw, rr⟩ := unhide HBX wr hbt
        by_cases hlt : s < q
        · obtain ⟨ga', oa', hga, _, hcw⟩ := hw.get hlt
          cases hga
          rw [unhide HWL s hlt, Nat.zero_add] at hcw
          have hwb := unhide HWB s hlt
          obtain ⟨J, hJ⟩ : ∃ J : Nat, wh s = J := ⟨(wh s).toNat, by omega⟩
          obtain ⟨jl, hjl, hla, hin⟩ := last_at dt dt' wh q (unhide HWB) hlt hJ
          obtain ⟨rb', ro', hrr, _, hcr⟩ := rr.get hlt
          rw [unhide HPK s hlt, hJ] at hcr
          rw [hJ] at hcw hwb
          have hJl : J < j2 := by omega
          have hcl := hbk.cell (i := J) (by rw [last_len]; omega)
          rw [hla] at hcl
          have hm0 : 0 < m2 := by omega
          obtain ⟨r, hr⟩ : ∃ r, jl % m2 = r := ⟨_, rfl⟩
          have hrl : r < m2 := by rw [← hr]; exact Nat.mod_lt _ hm0
          obtain ⟨bb, ob, hab, _, hcb⟩ := rb.get hrl
          cases hab
          obtain ⟨xv, hxv⟩ : ∃ x, x = dt'.getD r 0 := ⟨_, rfl⟩
          rw [← hxv] at hcb
          have hxe : rdt.getD (J : Int).toNat 0 = xv := by rw [unhide HRD, hxv, ← hr, ← unhide hl4]; simpa using hin
          rw [hxe] at hcr
          have hq1 : (jl : Int).tmod (m2 : Int) = (r : Int) := by rw [Int.tmod_eq_emod_of_nonneg (by omega), ← hr]; rfl
          have hq2 : (jl : Int) % (m2 : Int) = (r : Int) := by rw [← hr]; rfl
          have g0' : ((m2 : Int) == 0) = false := by simp; omega
          have hsub : IntKind.i64.wrap ((jl : Int) + 1 - 1) = (jl : Int) := by rw [IntKind.wrap_i64]; omega
          have hsub2 : (jl : Int) + 1 - 1 = (jl : Int) := by omega
          obtain ⟨y0, y1, y2, y3, y4, y5, y6⟩ := c12.all
          obtain ⟨z0, z1, z2, z3, z4, z5, z6⟩ := c5.all
          rw [hrr] at y2
          have hxx : (xv != xv) = false := by simp
          have hlti : (s : Int) < (q : Int) := by omega
          have hJi : (J : Int) < (j2 : Int) := by omega
          have hri : (r : Int) < (m2 : Int) := by omega
          clear hbk hbt hw hwb hJ c3 c5 c10 c12 ra rb rg rr hla hin hr hxv hxe hrr
          go_wp2_with fail
          go_big_quiet (fail)
          go_wp2_with fail
          go_roundw
          case rel => exact ⟨s + 1, by omega, by go_num, Below.drewN (unhide HS) _⟩
          case measure => simp [intOf]; omega
        · obtain rfl : s = q := by omega
          have hlti : ¬ (s : Int) < (s : Int) := by omega
          clear hbk hbt c5 c10 c12 ra rb rg hw rr hlt
          obtain ⟨y0, y1, y2, y3, y4, y5, y6⟩ := c3.all
          clear c3
          go_wp2_with fail
          go_loopw [17] (fun i wr => ∃ t : Nat, t ≤ j2 ∧ i = .int .i64 t ∧ Hid (Below Z.heap.size Z wr)) (fun i _ => j2 - (intOf i).toNat)
          case atStart => exact ⟨0, Nat.zero_le _, rfl, HS⟩
          case round =>
            obtain ⟨t, ht, rfl, HT⟩ := hrel
            clear y0 y1 y2 y3 y4 y5 y6
            obtain ⟨hbk, hbt⟩ := unhide HZ wr (unhide HT)
            obtain ⟨c3, c5, c10, c12, ra, rb, rg, hw, rr⟩ := unhide HBX wr hbt
            obtain ⟨y0, y1, y2, y3, y4, y5, y6⟩ := c3.all
            by_cases htl : t < j2
            · have hcl := hbk.cell (i := t) (by rw [last_len]; omega)
              obtain ⟨lv, hlv⟩ : ∃ x, (lastN wh dt.length s).getD t 0 = x := ⟨_, rfl⟩
              rw [hlv] at hcl
              have hti : (t : Int) < (j2 : Int) := by omega
              by_cases hl0 : lv = 0
              · subst hl0
                obtain ⟨ba, oa, hba, _, hca⟩ := ra.get htl
                cases hba
                obtain ⟨bs, os, hbs, _, hcs⟩ := rg.get htl
                cases hbs
                obtain ⟨av, hav⟩ : ∃ x, x = dt.getD t 0 := ⟨_, rfl⟩
                have hge : rdt.getD t 0 = av := by rw [unhide HRD, hav]; exact last_none dt dt' wh s (unhide HWB) (by omega) hlv
                rw [← hav] at hca
                rw [hge] at hcs
                have haa : (av != av) = false := by simp
                obtain ⟨z0, z1, z2, z3, z4, z5, z6⟩ := c10.all
                clear hbk hbt c3 c5 c10 c12 ra rb rg hw rr hlv hav hge
                go_wp2_with fail
                go_big_quiet (fail)
                go_wp2_with fail
                go_roundw
                case rel => exact ⟨t + 1, by omega, by go_num, Below.drewN (unhide HT) _⟩
                case measure => simp [intOf]; omega
              · have hlb : (lv == 0) = false := by simp [hl0]
                clear hbk hbt c3 c5 c10 c12 ra rb rg hw rr hlv hl0
                go_wp2_with fail
                go_big_quiet (fail)
                go_wp2_with fail
                go_roundw
                case rel => exact ⟨t + 1, by omega, by go_num, Below.drewN (unhide HT) _⟩
                case measure => simp [intOf]; omega
            · obtain rfl : t = j2 := by omega
              have hti : ¬ (t : Int) < (t : Int) := by omega
              have HE := hide ((unhide HKZ).trans ((unhide HT).mono (unhide HKZ).size))
              clear hbk hbt c3 c5 c10 c12 ra rb rg hw rr
              go_wp2
              go_ret
              exact ⟨rfl, unhide HE⟩

end Go.Proofs.Ytngbmcljhcckmaa
