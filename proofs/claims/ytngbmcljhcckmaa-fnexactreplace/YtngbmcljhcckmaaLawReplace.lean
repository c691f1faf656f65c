import Derived.Test.YtngbmcljhcckmaaPMark
import Derived.Test.YtngbmcljhcckmaaMBase
import Derived.Deep.RegionHeld
namespace Go.Proofs.Ytngbmcljhcckmaa
open Go.RowKit
namespace LawReplace

def Spec (F : Bool → List Int → List Int → List PartD → Bool → List Int → List Int → Ans) : Prop := ∀ (c d : Bool) (a1 a2 ap b1 b2 : Addr) (n1 n2 c1 c2 np cp m1 m2 d1 d2 : Nat) (sh dt : List Int) (ps : List PartD) (sh' dt' : List Int) (w : World) (_ : Row w (some a1) n1 sh) (_ : Row w (some a2) n2 dt) (_ : PRowN w (some ap) np ps) (_ : Row w (some b1) m1 sh') (_ : Row w (some b2) m2 dt'),
    Calls Try.prog 32 #[.agg #[.bool c, .slice (some a1) n1 c1, .slice (some a2) n2 c2], .slice (some ap) np cp, .agg #[.bool d, .slice (some b1) m1 d1, .slice (some b2) m2 d2]] w fun e w' => ∃ e1 k1 f1 e2 k2 f2, e = .returned (.tuple #[.agg #[.bool (F c sh dt ps d sh' dt').c, .slice e1 k1 f1, .slice e2 k2 f2], .int .i64 (F c sh dt ps d sh' dt').code]) ∧ Row w' e1 k1 (F c sh dt ps d sh' dt').sh ∧ Row w' e2 k2 (F c sh dt ps d sh' dt').dt ∧ Below w.heap.size w w'

def Impl (F : Bool → List Int → List Int → List PartD → Bool → List Int → List Int → Ans) : Prop := ∀ (c d : Bool) (a1 a2 ap b1 b2 : Addr) (n1 n2 c1 c2 np cp m1 m2 d1 d2 : Nat) (sh dt : List Int) (ps : List PartD) (sh' dt' : List Int) (w : World) (_ : Row w (some a1) n1 sh) (_ : Row w (some a2) n2 dt) (_ : PRowN w (some ap) np ps) (_ : Row w (some b1) m1 sh') (_ : Row w (some b2) m2 dt'),
    Calls Try.prog 34 #[.agg #[.bool c, .slice (some a1) n1 c1, .slice (some a2) n2 c2], .slice (some ap) np cp, .agg #[.bool d, .slice (some b1) m1 d1, .slice (some b2) m2 d2]] w fun e w' => ∃ e1 k1 f1 e2 k2 f2, e = .returned (.tuple #[.agg #[.bool (F c sh dt ps d sh' dt').c, .slice e1 k1 f1, .slice e2 k2 f2], .int .i64 (F c sh dt ps d sh' dt').code]) ∧ Own w' w.heap.size e1 k1 (F c sh dt ps d sh' dt').sh ∧ Own w' w.heap.size e2 k2 (F c sh dt ps d sh' dt').dt ∧ Apart e1 k1 e2 k2 ∧ Below w.heap.size w w'

set_option maxRecDepth 20000 in
set_option maxHeartbeats 8000000 in
theorem law_walk (F : Bool → List Int → List Int → List PartD → Bool → List Int → List Int → Ans) (hspec : Spec F) (himp : Impl F) (c d : Bool) (a1 a2 ap b1 b2 : Option Addr) (n1 n2 c1 c2 np cp m1 m2 d1 d2 : Nat) (sh dt : List Int) (ps : List PartD) (sh' dt' : List Int) (w : World) (h1 : Raw w a1 n1 sh) (h2 : Raw w a2 n2 dt) (hp : PRaw w ap np ps) (k1 : Raw w b1 m1 sh') (k2 : Raw w b2 m2 dt') :
    Calls Try.prog 8 #[.agg #[.bool c, .slice a1 n1 c1, .slice a2 n2 c2], .slice ap np cp, .agg #[.bool d, .slice b1 m1 d1, .slice b2 m2 d2]] w fun e w' => e = .returned (.bool true) ∧ Below w.heap.size w w' := by
  by_cases hA : (1048576 : Int) < n1 + n2
  · go_enter Try.func8, Try.ntmps8
    go_wp2_with fail
    refine (szArray_big _ _ _ _ _ _ _ _ _ h1.max h2.max (by omega) (by omega) hA).mono ?_
    rintro e w1 ⟨rfl, hb1⟩
    have hK1 := hb1.mono (B' := w.heap.size + 2) (by simp)
    obtain ⟨hB1, hz1, hc1⟩ := box2 hK1
    go_wp2
    go_ret
    exact ⟨rfl, hB1⟩
  have hA' : (n1 : Int) + n2 ≤ 1048576 := by omega
  clear hA
  have H1 := hide (h1.row (by omega))
  have H2 := hide (h2.row (by omega))
  have HP := hide hp
  have HQ1 := hide k1
  have HQ2 := hide k2
  clear h1 h2 hp k1 k2
  have HS := hide (hspec c d)
  have HI := hide (himp c d)
  clear hspec himp
  obtain ⟨R, hR⟩ : ∃ R, F c sh dt ps d sh' dt' = R := ⟨_, rfl⟩
  obtain ⟨rc, rsh, rdt, rcode⟩ := R
  have HR := hide hR
  clear hR
  go_enter Try.func8, Try.ntmps8
  go_wp2_with fail
  refine (szArray_ok _ _ _ _ _ _ _ _ _ (by omega) (by omega)).mono ?_
  rintro e w1 ⟨rfl, hb1⟩
  have hK1 := hb1.mono (B' := w.heap.size + 2) (by simp)
  obtain ⟨hB1, hz1, hc1⟩ := box2 hK1
  clear hb1
  have hq1 : ¬ ((1048576 : Int) - n1 - n2 < 0) := by omega
  go_wp2_with fail
  refine (szPartS_any _ _ _ ps _ _ (by exact (unhide HP).below (Nat.le_refl _) hB1) (by omega) (by omega)).mono ?_
  rintro e w2 ⟨r2, rfl, hr2, hb2⟩
  have hK2 := hide (hK1.trans (hb2.mono (by omega)))
  obtain ⟨hB2, hz2, hc2⟩ := box2 (unhide hK2)
  clear hb2 hK1 hB1 hz1 hc1 w1
  rcases hr2 with rfl | ⟨q0, q1, q2, q3⟩
  · go_wp2
    go_ret
    exact ⟨rfl, hB2⟩
  have hq2 : ¬ (r2 < 0) := by omega
  have hr2l : r2 ≤ 1048576 := by omega
  have HPR := hide ((unhide HP).row q2 q3)
  have HSM := hide q3
  clear q1 q3 HP
  by_cases hC : r2 < (m1 : Int) + m2
  · have hm1 := (unhide HQ1).max
    have hm2 := (unhide HQ2).max
    go_wp2_with fail
    refine (szArray_big _ _ _ _ _ _ _ _ _ hm1 hm2 q0 hr2l hC).mono ?_
    rintro e w3 ⟨rfl, hb3⟩
    have hK3 := hB2.trans (hb3.mono (by omega))
    go_wp2
    go_ret
    exact ⟨rfl, hK3⟩
  have hC' : (m1 : Int) + m2 ≤ r2 := by omega
  have K1 := hide ((unhide HQ1).row (by omega))
  have K2 := hide ((unhide HQ2).row (by omega))
  clear HQ1 HQ2 hC
  go_wp2_with fail
  refine (szArray_ok _ _ _ _ _ _ _ _ _ hr2l hC').mono ?_
  rintro e w3 ⟨rfl, hb3⟩
  have hK3 := hide ((unhide hK2).trans (hb3.mono (by omega)))
  have hq3 : ¬ (r2 - (m1 : Int) - m2 < 0) := by omega
  clear hb3 hK2 hB2 hz2 hc2 w2
  have HARG : Hid (∀ wr, Below (w.heap.size + 2) ((w.alloc (.cells #[.bool c, .slice a1 n1 c1, .slice a2 n2 c2] 24)).alloc (.cells #[.bool d, .slice b1 m1 d1, .slice b2 m2 d2] 24)) wr → Below w.heap.size w wr ∧ w.heap.size + 2 ≤ wr.heap.size ∧ w.heap.size < wr.heap.size ∧ w.heap.size + 1 < wr.heap.size ∧ wr.cell? ⟨w.heap.size, 0, none⟩ = some (.bool c) ∧ wr.cell? ⟨w.heap.size, 1, none⟩ = some (.slice a1 n1 c1) ∧ wr.cell? ⟨w.heap.size, 2, none⟩ = some (.slice a2 n2 c2) ∧ wr.cell? ⟨w.heap.size + 1, 0, none⟩ = some (.bool d) ∧ wr.cell? ⟨w.heap.size + 1, 1, none⟩ = some (.slice b1 m1 d1) ∧ wr.cell? ⟨w.heap.size + 1, 2, none⟩ = some (.slice b2 m2 d2)) := by
    intro wr hK
    obtain ⟨hB, hz, hc⟩ := box2 hK
    refine ⟨hB, hz, by omega, by omega, ?_, ?_, ?_, ?_, ?_, ?_⟩
    all_goals (rw [hc _ _ (by omega)]; simp [World.cell?_alloc_past])
  generalize hW0 : ((w.alloc (.cells #[.bool c, .slice a1 n1 c1, .slice a2 n2 c2] 24)).alloc (.cells #[.bool d, .slice b1 m1 d1, .slice b2 m2 d2] 24)) = W0 at hK3 HARG
  clear hW0
  have HK := hK3
  clear hK3
  have hm1b : m1 ≤ 1048576 := by omega
  have hm2b : m2 ≤ 1048576 := by omega
  clear hC' hr2l hq2 q0
  obtain ⟨hB, hz, s0, s1, x0, x1, x2, x3, x4, x5⟩ := unhide HARG _ (unhide HK)
  go_wp2_with fail
  go_cut [8, 9] (fun r6 r7 wr => r7 = .int .i64 rcode ∧ ∃ p e1 k1 f1 e2 k2 f2, r6 = .pointer (some ⟨p, 0, none⟩) ∧ Box wr p rc (.slice e1 k1 f1) (.slice e2 k2 f2) ∧ Row wr e1 k1 rsh ∧ Row wr e2 k2 rdt ∧ w3.heap.size ≤ p ∧ Below w3.heap.size w3 wr)
  case first =>
    have HARG2 : ∀ wx, Below w3.heap.size w3 wx → Below w.heap.size w wx ∧ w.heap.size + 2 ≤ wx.heap.size ∧ w.heap.size < wx.heap.size ∧ w.heap.size + 1 < wx.heap.size ∧ wx.cell? ⟨w.heap.size, 0, none⟩ = some (.bool c) ∧ wx.cell? ⟨w.heap.size, 1, none⟩ = some (.slice a1 n1 c1) ∧ wx.cell? ⟨w.heap.size, 2, none⟩ = some (.slice a2 n2 c2) ∧ wx.cell? ⟨w.heap.size + 1, 0, none⟩ = some (.bool d) ∧ wx.cell? ⟨w.heap.size + 1, 1, none⟩ = some (.slice b1 m1 d1) ∧ wx.cell? ⟨w.heap.size + 1, 2, none⟩ = some (.slice b2 m2 d2) := fun wx hwx => unhide HARG _ ((unhide HK).trans (hwx.mono hz))
    have HKEEP : ∀ wx, Below w3.heap.size w3 wx → Below w3.heap.size w3 wx ∧ wx.cell? ⟨w.heap.size, 0, none⟩ = some (.bool c) ∧ wx.cell? ⟨w.heap.size, 1, none⟩ = some (.slice a1 n1 c1) ∧ wx.cell? ⟨w.heap.size, 2, none⟩ = some (.slice a2 n2 c2) ∧ wx.cell? ⟨w.heap.size + 1, 0, none⟩ = some (.bool d) ∧ wx.cell? ⟨w.heap.size + 1, 1, none⟩ = some (.slice b1 m1 d1) ∧ wx.cell? ⟨w.heap.size + 1, 2, none⟩ = some (.slice b2 m2 d2) := fun wx hwx => ⟨hwx, (HARG2 _ hwx).2.2.2.2⟩
    go_region_held (fun wx => Below w3.heap.size w3 wx ∧ wx.cell? ⟨w.heap.size, 0, none⟩ = some (.bool c) ∧ wx.cell? ⟨w.heap.size, 1, none⟩ = some (.slice a1 n1 c1) ∧ wx.cell? ⟨w.heap.size, 2, none⟩ = some (.slice a2 n2 c2) ∧ wx.cell? ⟨w.heap.size + 1, 0, none⟩ = some (.bool d) ∧ wx.cell? ⟨w.heap.size + 1, 1, none⟩ = some (.slice b1 m1 d1) ∧ wx.cell? ⟨w.heap.size + 1, 2, none⟩ = some (.slice b2 m2 d2)) (first | exact HKEEP _ hK5 | exact HKEEP _ (((hK5.setCell (by have h3 := hK3.size; have hp := hKP.size; have h4 := hK4.size; simp <;> omega) _).setCell (by have h3 := hK3.size; have hp := hKP.size; have h4 := hK4.size; simp <;> omega) _).setCell (by have h3 := hK3.size; have hp := hKP.size; have h4 := hK4.size; simp <;> omega) _) | exact HKEEP _ (hK5.alloc hK5.size _) | exact HKEEP _ hK4 | exact HKEEP _ (hK4.alloc hK4.size _) | exact HKEEP _ hKP | exact HKEEP _ (hKP.alloc hKP.size _) | exact HKEEP _ hK3 | exact HKEEP _ (hK3.alloc hK3.size _) | exact HKEEP _ (Below.refl _ _).drew | exact HKEEP _ ((Below.refl _ _).drew.alloc (by simp <;> omega) _))
      (first
      | (go_at_call_of 11 (Value.slice a1 n1 c1); refine (toArray_any _ _ _ _ _ _ _ sh dt _ (by first | exact (unhide H1).below (Nat.le_refl _) hB.drew | exact ((unhide H1).below (Nat.le_refl _) hB.drew).alloc _) (by first | exact (unhide H2).below (Nat.le_refl _) hB.drew | exact ((unhide H2).below (Nat.le_refl _) hB.drew).alloc _)).mono ?_; rintro e wI ⟨g1, g2, rfl, hg, hlt, hX1, hX2, hb3⟩; have hK3 : Below w3.heap.size w3 wI := (by first | exact (Below.refl _ _).drew.trans (hb3.mono (by simp)) | exact ((Below.refl _ _).drew.alloc (by simp) _).trans (hb3.mono (by simp))); (first | have hP3 := (Box.new _ _ _ _).below (Nat.le_refl _) hb3 | have hP3 := (Box.new _ _ _ _).drew.below (Nat.le_refl _) hb3 | skip); obtain ⟨hB3, hz3, t0, t1, x0, x1, x2, x3, x4, x5⟩ := HARG2 _ hK3)
      | (go_at_call 27; refine (toPartS_any _ _ _ ps _ (by first | exact (unhide HPR).below (Nat.le_refl _) hB3 | exact ((unhide HPR).below (Nat.le_refl _) hB3).alloc _) (unhide HSM)).mono ?_; rintro e wP ⟨gp, rfl, hgp, hXP, hbP⟩; have hKP : Below w3.heap.size w3 wP := (by first | exact hK3.trans (hbP.mono hK3.size) | exact (hK3.alloc hK3.size _).trans (hbP.mono (by have := hK3.size; simp; omega))); (first | have hPP := hP3.below (Nat.le_refl _) hbP | have hPP := (Box.new _ _ _ _).below (Nat.le_refl _) hbP | skip); have hX1P : Blk wP g1 sh := (by first | exact hX1.below (Nat.le_refl _) hbP | exact (hX1.alloc _).below (Nat.le_refl _) hbP); have hX2P : Blk wP g2 dt := (by first | exact hX2.below (Nat.le_refl _) hbP | exact (hX2.alloc _).below (Nat.le_refl _) hbP); obtain ⟨hBP, hzP, t0', t1', xP0, xP1, xP2, xP3, xP4, xP5⟩ := HARG2 _ hKP)
      | (go_at_call_of 11 (Value.slice b1 m1 d1); refine (toArray_any _ _ _ _ _ _ _ sh' dt' _ (by first | exact (unhide K1).below (Nat.le_refl _) hBP | exact ((unhide K1).below (Nat.le_refl _) hBP).alloc _) (by first | exact (unhide K2).below (Nat.le_refl _) hBP | exact ((unhide K2).below (Nat.le_refl _) hBP).alloc _)).mono ?_; rintro e wJ ⟨g3, g4, rfl, hg', hlt', hX3, hX4, hb4⟩; have hK4 : Below w3.heap.size w3 wJ := (by first | exact hKP.trans (hb4.mono hKP.size) | exact (hKP.alloc hKP.size _).trans (hb4.mono (by have := hKP.size; simp; omega))); (first | have hP4 := hPP.below (Nat.le_refl _) hb4 | have hP4 := (Box.new _ _ _ _).below (Nat.le_refl _) hb4 | skip); have hX1' : Blk wJ g1 sh := (by first | exact hX1P.below (Nat.le_refl _) hb4 | exact (hX1P.alloc _).below (Nat.le_refl _) hb4); have hX2' : Blk wJ g2 dt := (by first | exact hX2P.below (Nat.le_refl _) hb4 | exact (hX2P.alloc _).below (Nat.le_refl _) hb4); have hXP' : PNew wJ gp np wP.heap.size ps := (by first | exact hXP.below (Nat.le_refl _) hb4 | exact (hXP.alloc _).below (Nat.le_refl _) hb4); obtain ⟨hB4, hz4, s0', s1', z0, z1, z2, z3, z4, z5⟩ := HARG2 _ hK4)
      | (go_at_call 32; refine (unhide HS _ _ _ _ _ _ _ _ _ _ _ _ _ _ _ sh dt ps sh' dt' _ (by first | exact hX1'.row (unhide H1).len (unhide H1).small | exact (hX1'.alloc _).row (unhide H1).len (unhide H1).small) (by first | exact hX2'.row (unhide H2).len (unhide H2).small | exact (hX2'.alloc _).row (unhide H2).len (unhide H2).small) (by first | exact hXP'.rowN | exact (hXP'.alloc _).rowN) (by first | exact hX3.row (unhide K1).len (unhide K1).small | exact (hX3.alloc _).row (unhide K1).len (unhide K1).small) (by first | exact hX4.row (unhide K2).len (unhide K2).small | exact (hX4.alloc _).row (unhide K2).len (unhide K2).small)).mono ?_; rintro e wL ⟨e1, k1, f1, e2, k2, f2, rfl, hE1, hE2, hb5⟩; (have HR' := unhide HR; rw [HR'] at hE1 hE2 ⊢; simp only at hE1 hE2 ⊢; clear HR'); have hK5 : Below w3.heap.size w3 wL := (by first | exact hK4.trans (hb5.mono hK4.size) | exact (hK4.alloc hK4.size _).trans (hb5.mono (by have := hK4.size; simp; omega))); (first | (have hP5 := hP4.below (Nat.le_refl _) hb5; obtain ⟨u0, u1, u2, u3, u4, u5, u6⟩ := hP5.free'; (try simp at u0 u1 u2 u3 u4 u5 u6)) | (have hP5 := (Box.new _ _ _ _).below (Nat.le_refl _) hb5; obtain ⟨u0, u1, u2, u3, u4, u5, u6⟩ := hP5.free'; (try simp at u0 u1 u2 u3 u4 u5 u6)) | skip); obtain ⟨hB5, hz5, s0'', s1'', z0', z1', z2', z3', z4', z5'⟩ := HARG2 _ hK5))
    all_goals go_wp2_with fail
    all_goals (go_meet; case rel => first | exact ⟨rfl, _, _, _, _, _, _, _, rfl, hP5.sets, hE1.sets hP5 _ _ _, hE2.sets hP5 _ _ _, (by first | exact Nat.le_refl _ | exact hK3.size | exact hKP.size | exact hK4.size | omega), ((hK5.setCell (by have h3 := hK3.size; have hp := hKP.size; have h4 := hK4.size; simp <;> omega) _).setCell (by have h3 := hK3.size; have hp := hKP.size; have h4 := hK4.size; simp <;> omega) _).setCell (by have h3 := hK3.size; have hp := hKP.size; have h4 := hK4.size; simp <;> omega) _⟩ | exact ⟨rfl, _, _, _, _, _, _, _, rfl, Box.new _ _ _ _, hE1.alloc _, hE2.alloc _, by first | exact hK5.size | omega, hK5.alloc hK5.size _⟩)
  case rest =>
  obtain ⟨rfl, p6, e1, k1, f1, e2, k2, f2, rfl, hb6, hE1, hE2, hp6l, hbc⟩ := hcut
  replace HK := hide ((unhide HK).trans (hbc.mono hz))
  have B6 := hide hb6
  have T1 := hide hE1
  have T2 := hide hE2
  have hp6z : w.heap.size + 2 ≤ p6 := by omega
  have hp6 : p6 < wc.heap.size := hb6.lt
  have HL1 : Hid (∀ k, At e1 k1 k → k < wc.heap.size) := fun k hk => hE1.hi hk
  have HL2 : Hid (∀ k, At e2 k2 k → k < wc.heap.size) := fun k hk => hE2.hi hk
  clear hp6l HS
  clear hB hz s0 s1 x0 x1 x2 x3 x4 x5
  clear hbc hb6 hE1 hE2
  clear w3
  obtain ⟨hB, hz, s0, s1, x0, x1, x2, x3, x4, x5⟩ := unhide HARG _ (unhide HK)
  obtain ⟨y0, y1, y2, y3, y4, y5, y6⟩ := (unhide B6).free'
  go_wp2_with fail
  refine (toArray_any _ _ _ _ _ _ _ sh dt _ (by exact (unhide H1).below (Nat.le_refl _) hB) (by exact (unhide H2).below (Nat.le_refl _) hB)).mono ?_
  rintro e w6 ⟨h1, h2, rfl, hg, hlt, hX1, hX2, hb6⟩
  replace HK := hide ((unhide HK).trans (hb6.mono hz))
  replace B6 := hide ((unhide B6).below (Nat.le_refl _) hb6)
  replace T1 := hide ((unhide T1).below (Nat.le_refl _) hb6)
  replace T2 := hide ((unhide T2).below (Nat.le_refl _) hb6)
  have hg2 : h2 < w6.heap.size := hX2.lt
  have X1 := hide (hX1.own (B := h1) (unhide H1).len (unhide H1).small (Nat.le_refl _))
  have X2 := hide (hX2.own (B := h1) (unhide H2).len (unhide H2).small (by omega))
  clear hB hz s0 s1 x0 x1 x2 x3 x4 x5 y0 y1 y2 y3 y4 y5 y6
  clear hb6 hX1 hX2
  generalize wc.heap.size = z5 at *
  clear wc
  obtain ⟨hB, hz, s0, s1, x0, x1, x2, x3, x4, x5⟩ := unhide HARG _ (unhide HK)
  go_wp2_with fail
  refine (toPartS_any _ _ _ ps _ (by exact ((unhide HPR).below (Nat.le_refl _) hB).alloc _) (unhide HSM)).mono ?_
  rintro e w7 ⟨gq, rfl, hgq, hXP, hb7⟩
  replace HK := hide (((unhide HK).alloc hz _).trans (hb7.mono (by simp; omega)))
  replace B6 := hide (((unhide B6).alloc _).below (Nat.le_refl _) hb7)
  replace T1 := hide (((unhide T1).alloc _).below (Nat.le_refl _) hb7)
  replace T2 := hide (((unhide T2).alloc _).below (Nat.le_refl _) hb7)
  replace X1 := hide (((unhide X1).alloc _).below (Nat.le_refl _) hb7)
  replace X2 := hide (((unhide X2).alloc _).below (Nat.le_refl _) hb7)
  have B8 : Hid (Box w7 w6.heap.size c (.slice (some ⟨h1, 0, none⟩) n1 n1) (.slice (some ⟨h2, 0, none⟩) n2 n2)) := (Box.new w6 _ _ _).below (Nat.le_refl _) hb7
  have hgp : w6.heap.size < gq := by simp at hgq; omega
  have XP := hide hXP
  clear hB hz s0 s1 x0 x1 x2 x3 x4 x5
  clear hb7 hXP hgq
  generalize w6.heap.size = p8 at *
  clear w6
  obtain ⟨hB, hz, s0, s1, x0, x1, x2, x3, x4, x5⟩ := unhide HARG _ (unhide HK)
  go_wp2_with fail
  refine (toArray_any _ _ _ _ _ _ _ sh' dt' _ (by exact (unhide K1).below (Nat.le_refl _) hB) (by exact (unhide K2).below (Nat.le_refl _) hB)).mono ?_
  rintro e w8 ⟨h3, h4, rfl, hg3, hlt3, hX3, hX4, hb8⟩
  replace HK := hide ((unhide HK).trans (hb8.mono hz))
  replace B6 := hide ((unhide B6).below (Nat.le_refl _) hb8)
  replace T1 := hide ((unhide T1).below (Nat.le_refl _) hb8)
  replace T2 := hide ((unhide T2).below (Nat.le_refl _) hb8)
  replace X1 := hide ((unhide X1).below (Nat.le_refl _) hb8)
  replace X2 := hide ((unhide X2).below (Nat.le_refl _) hb8)
  replace B8 := hide ((unhide B8).below (Nat.le_refl _) hb8)
  replace XP := hide ((unhide XP).below (Nat.le_refl _) hb8)
  have hg4 : h4 < w8.heap.size := hX4.lt
  have Y3 := hide (hX3.own (B := h3) (unhide K1).len (unhide K1).small (Nat.le_refl _))
  have Y4 := hide (hX4.own (B := h3) (unhide K2).len (unhide K2).small (by omega))
  have hXPH : gq < w7.heap.size := (unhide XP).1
  clear hB hz s0 s1 x0 x1 x2 x3 x4 x5
  clear hb8 hX3 hX4
  generalize w7.heap.size = q7 at *
  clear w7
  obtain ⟨hB, hz, s0, s1, x0, x1, x2, x3, x4, x5⟩ := unhide HARG _ (unhide HK)
  obtain ⟨y0, y1, y2, y3, y4, y5, y6⟩ := (unhide B8).free'
  go_wp2_with fail
  refine (unhide HI _ _ _ _ _ _ _ _ _ _ _ _ _ _ _ sh dt ps sh' dt' _ (by exact ((unhide X1).alloc _).row) (by exact ((unhide X2).alloc _).row) (by exact ((unhide XP).alloc _).rowN) (by exact ((unhide Y3).alloc _).row) (by exact ((unhide Y4).alloc _).row)).mono ?_
  rintro e w9 ⟨i1, j1, l1, i2, j2, l2, rfl, hO1, hO2, hap, hb9⟩
  have HR' := unhide HR
  rw [HR'] at hO1 hO2 ⊢
  simp only at hO1 hO2 ⊢
  clear HR'
  replace HK := hide (((unhide HK).alloc hz _).trans (hb9.mono (by simp; omega)))
  replace B6 := hide (((unhide B6).alloc _).below (Nat.le_refl _) hb9)
  replace T1 := hide (((unhide T1).alloc _).below (Nat.le_refl _) hb9)
  replace T2 := hide (((unhide T2).alloc _).below (Nat.le_refl _) hb9)
  replace X1 := hide (((unhide X1).alloc _).below (Nat.le_refl _) hb9)
  replace X2 := hide (((unhide X2).alloc _).below (Nat.le_refl _) hb9)
  replace B8 := hide (((unhide B8).alloc _).below (Nat.le_refl _) hb9)
  replace XP := hide (((unhide XP).alloc _).below (Nat.le_refl _) hb9)
  replace Y3 := hide (((unhide Y3).alloc _).below (Nat.le_refl _) hb9)
  replace Y4 := hide (((unhide Y4).alloc _).below (Nat.le_refl _) hb9)
  rw [World.size_alloc] at hO1 hO2
  have B9 : Hid (Box w9 w8.heap.size d (.slice (some ⟨h3, 0, none⟩) m1 m1) (.slice (some ⟨h4, 0, none⟩) m2 m2)) := (Box.new w8 _ _ _).below (Nat.le_refl _) hb9
  have O1 := hide hO1
  have O2 := hide hO2
  have HAP := hide hap
  have HU1 : Hid (∀ k, At i1 j1 k → k < w9.heap.size) := fun k hk => hO1.row.hi hk
  have HU2 : Hid (∀ k, At i2 j2 k → k < w9.heap.size) := fun k hk => hO2.row.hi hk
  have hsz := hb9.size
  rw [World.size_alloc] at hsz
  clear hB hz s0 s1 x0 x1 x2 x3 x4 x5 y0 y1 y2 y3 y4 y5 y6
  clear hb9 hO1 hO2 hap
  generalize w8.heap.size = p9 at *
  clear w8
  obtain ⟨hB, hz, s0, s1, x0, x1, x2, x3, x4, x5⟩ := unhide HARG _ (unhide HK)
  obtain ⟨y0, y1, y2, y3, y4, y5, y6⟩ := (unhide B6).free'
  go_wp2_with fail
  refine (eqArray_refl _ _ _ _ _ _ _ _ _ _ _ _ _ rsh rdt _ (by exact ((unhide O1).alloc _).row) (by exact ((unhide O2).alloc _).row) (by exact (unhide T1).alloc _) (by exact (unhide T2).alloc _)).mono ?_
  rintro e wA ⟨rfl, hbA⟩
  replace HK := hide (((unhide HK).alloc hz _).trans (hbA.mono (by simp; omega)))
  replace B6 := hide (((unhide B6).alloc _).below (Nat.le_refl _) hbA)
  replace T1 := hide (((unhide T1).alloc _).below (Nat.le_refl _) hbA)
  replace T2 := hide (((unhide T2).alloc _).below (Nat.le_refl _) hbA)
  replace X1 := hide (((unhide X1).alloc _).below (Nat.le_refl _) hbA)
  replace X2 := hide (((unhide X2).alloc _).below (Nat.le_refl _) hbA)
  replace B8 := hide (((unhide B8).alloc _).below (Nat.le_refl _) hbA)
  replace XP := hide (((unhide XP).alloc _).below (Nat.le_refl _) hbA)
  replace Y3 := hide (((unhide Y3).alloc _).below (Nat.le_refl _) hbA)
  replace Y4 := hide (((unhide Y4).alloc _).below (Nat.le_refl _) hbA)
  replace B9 := hide (((unhide B9).alloc _).below (Nat.le_refl _) hbA)
  replace O1 := hide (((unhide O1).alloc _).below (Nat.le_refl _) hbA)
  replace O2 := hide (((unhide O2).alloc _).below (Nat.le_refl _) hbA)
  have BA : Hid (Box wA w9.heap.size rc (.slice i1 j1 l1) (.slice i2 j2 l2)) := (Box.new w9 _ _ _).below (Nat.le_refl _) hbA
  clear hB hz s0 s1 x0 x1 x2 x3 x4 x5 y0 y1 y2 y3 y4 y5 y6
  clear hbA
  generalize w9.heap.size = pA at *
  clear w9
  have hcc : (rcode != rcode) = false := by simp
  obtain ⟨hB, hz, s0, s1, x0, x1, x2, x3, x4, x5⟩ := unhide HARG _ (unhide HK)
  obtain ⟨y0, y1, y2, y3, y4, y5, y6⟩ := (unhide B8).free'
  go_wp2_with fail
  go_cut [71] (fun r wr => r = .bool false ∧ Below wA.heap.size wA wr)
  case first =>
    go_region_with (first
      | (go_at_call 11; refine (toArray_any _ _ _ _ _ _ _ sh dt _ (by exact (unhide H1).below (Nat.le_refl _) hB.drew) (by exact (unhide H2).below (Nat.le_refl _) hB.drew)).mono ?_; rintro e v7 ⟨g5, g6, rfl, hg, hlt2, hZ1, hZ2, hb7⟩; obtain ⟨hc7, hf7⟩ := bcell hb7; clear hf7; simp at hc7)
      | (go_at_call 13; refine (eqArray_refl _ _ _ _ _ _ _ _ _ _ _ _ _ sh dt _ (by exact (unhide X1).row.below (Nat.le_refl _) ((Below.refl _ _).drew.trans hb7)) (by exact (unhide X2).row.below (Nat.le_refl _) ((Below.refl _ _).drew.trans hb7)) (by exact hZ1.row (unhide H1).len (unhide H1).small) (by exact hZ2.row (unhide H2).len (unhide H2).small)).mono ?_; rintro e v8 ⟨rfl, hb8⟩))
    all_goals go_wp2_with fail
    all_goals (go_meet; case rel => exact ⟨rfl, ((Below.refl _ _).drew.trans hb7).trans (hb8.mono hb7.size)⟩)
  case rest =>
  obtain ⟨rfl, hbc⟩ := hcut
  replace HK := hide ((unhide HK).trans (hbc.mono hz))
  replace B6 := hide ((unhide B6).below (Nat.le_refl _) hbc)
  replace T1 := hide ((unhide T1).below (Nat.le_refl _) hbc)
  replace T2 := hide ((unhide T2).below (Nat.le_refl _) hbc)
  replace X1 := hide ((unhide X1).below (Nat.le_refl _) hbc)
  replace X2 := hide ((unhide X2).below (Nat.le_refl _) hbc)
  replace B8 := hide ((unhide B8).below (Nat.le_refl _) hbc)
  replace XP := hide ((unhide XP).below (Nat.le_refl _) hbc)
  replace Y3 := hide ((unhide Y3).below (Nat.le_refl _) hbc)
  replace Y4 := hide ((unhide Y4).below (Nat.le_refl _) hbc)
  replace B9 := hide ((unhide B9).below (Nat.le_refl _) hbc)
  replace O1 := hide ((unhide O1).below (Nat.le_refl _) hbc)
  replace O2 := hide ((unhide O2).below (Nat.le_refl _) hbc)
  replace BA := hide ((unhide BA).below (Nat.le_refl _) hbc)
  clear hB hz s0 s1 x0 x1 x2 x3 x4 x5 y0 y1 y2 y3 y4 y5 y6
  clear hbc
  clear wA
  obtain ⟨wB, hwc⟩ : ∃ x, x = wc := ⟨_, rfl⟩
  subst hwc
  obtain ⟨hB, hz, s0, s1, x0, x1, x2, x3, x4, x5⟩ := unhide HARG _ (unhide HK)
  go_wp2_with fail
  refine (toPartS_any _ _ _ ps _ (by exact (unhide HPR).below (Nat.le_refl _) hB) (unhide HSM)).mono ?_
  rintro e wd ⟨gr, rfl, hgr, hXQ, hbd⟩
  replace HK := hide ((unhide HK).trans (hbd.mono hz))
  replace B6 := hide ((unhide B6).below (Nat.le_refl _) hbd)
  replace T1 := hide ((unhide T1).below (Nat.le_refl _) hbd)
  replace T2 := hide ((unhide T2).below (Nat.le_refl _) hbd)
  replace X1 := hide ((unhide X1).below (Nat.le_refl _) hbd)
  replace X2 := hide ((unhide X2).below (Nat.le_refl _) hbd)
  replace B8 := hide ((unhide B8).below (Nat.le_refl _) hbd)
  replace XP := hide ((unhide XP).below (Nat.le_refl _) hbd)
  replace Y3 := hide ((unhide Y3).below (Nat.le_refl _) hbd)
  replace Y4 := hide ((unhide Y4).below (Nat.le_refl _) hbd)
  replace B9 := hide ((unhide B9).below (Nat.le_refl _) hbd)
  replace O1 := hide ((unhide O1).below (Nat.le_refl _) hbd)
  replace O2 := hide ((unhide O2).below (Nat.le_refl _) hbd)
  replace BA := hide ((unhide BA).below (Nat.le_refl _) hbd)
  have XQ := hide hXQ
  clear hB hz s0 s1 x0 x1 x2 x3 x4 x5
  clear hbd hXQ hgr
  clear wB
  obtain ⟨hB, hz, s0, s1, x0, x1, x2, x3, x4, x5⟩ := unhide HARG _ (unhide HK)
  go_wp2_with fail
  refine (eqPartS_refl _ _ _ _ _ ps _ (by exact (unhide XP).row) (by exact (unhide XQ).row)).mono ?_
  rintro e we ⟨rfl, hbe⟩
  clear XQ
  replace HK := hide ((unhide HK).trans (hbe.mono hz))
  replace B6 := hide ((unhide B6).below (Nat.le_refl _) hbe)
  replace T1 := hide ((unhide T1).below (Nat.le_refl _) hbe)
  replace T2 := hide ((unhide T2).below (Nat.le_refl _) hbe)
  replace X1 := hide ((unhide X1).below (Nat.le_refl _) hbe)
  replace X2 := hide ((unhide X2).below (Nat.le_refl _) hbe)
  replace B8 := hide ((unhide B8).below (Nat.le_refl _) hbe)
  replace XP := hide ((unhide XP).below (Nat.le_refl _) hbe)
  replace Y3 := hide ((unhide Y3).below (Nat.le_refl _) hbe)
  replace Y4 := hide ((unhide Y4).below (Nat.le_refl _) hbe)
  replace B9 := hide ((unhide B9).below (Nat.le_refl _) hbe)
  replace O1 := hide ((unhide O1).below (Nat.le_refl _) hbe)
  replace O2 := hide ((unhide O2).below (Nat.le_refl _) hbe)
  replace BA := hide ((unhide BA).below (Nat.le_refl _) hbe)
  clear hB hz s0 s1 x0 x1 x2 x3 x4 x5
  clear hbe 
  clear wd
  obtain ⟨hB, hz, s0, s1, x0, x1, x2, x3, x4, x5⟩ := unhide HARG _ (unhide HK)
  obtain ⟨y0, y1, y2, y3, y4, y5, y6⟩ := (unhide B9).free'
  go_wp2_with fail
  go_cut [81] (fun r wr => r = .bool false ∧ Below we.heap.size we wr)
  case first =>
    go_region_with (first
      | (go_at_call 11; refine (toArray_any _ _ _ _ _ _ _ sh' dt' _ (by exact (unhide K1).below (Nat.le_refl _) hB.drew) (by exact (unhide K2).below (Nat.le_refl _) hB.drew)).mono ?_; rintro e v7 ⟨g5, g6, rfl, hg, hlt2, hZ1, hZ2, hb7⟩; obtain ⟨hc7, hf7⟩ := bcell hb7; clear hf7; simp at hc7)
      | (go_at_call 13; refine (eqArray_refl _ _ _ _ _ _ _ _ _ _ _ _ _ sh' dt' _ (by exact (unhide Y3).row.below (Nat.le_refl _) ((Below.refl _ _).drew.trans hb7)) (by exact (unhide Y4).row.below (Nat.le_refl _) ((Below.refl _ _).drew.trans hb7)) (by exact hZ1.row (unhide K1).len (unhide K1).small) (by exact hZ2.row (unhide K2).len (unhide K2).small)).mono ?_; rintro e v8 ⟨rfl, hb8⟩))
    all_goals go_wp2_with fail
    all_goals (go_meet; case rel => exact ⟨rfl, ((Below.refl _ _).drew.trans hb7).trans (hb8.mono hb7.size)⟩)
  case rest =>
  obtain ⟨rfl, hbc⟩ := hcut
  replace HK := hide ((unhide HK).trans (hbc.mono hz))
  replace B6 := hide ((unhide B6).below (Nat.le_refl _) hbc)
  replace T1 := hide ((unhide T1).below (Nat.le_refl _) hbc)
  replace T2 := hide ((unhide T2).below (Nat.le_refl _) hbc)
  replace X1 := hide ((unhide X1).below (Nat.le_refl _) hbc)
  replace X2 := hide ((unhide X2).below (Nat.le_refl _) hbc)
  replace B8 := hide ((unhide B8).below (Nat.le_refl _) hbc)
  replace XP := hide ((unhide XP).below (Nat.le_refl _) hbc)
  replace Y3 := hide ((unhide Y3).below (Nat.le_refl _) hbc)
  replace Y4 := hide ((unhide Y4).below (Nat.le_refl _) hbc)
  replace B9 := hide ((unhide B9).below (Nat.le_refl _) hbc)
  replace O1 := hide ((unhide O1).below (Nat.le_refl _) hbc)
  replace O2 := hide ((unhide O2).below (Nat.le_refl _) hbc)
  replace BA := hide ((unhide BA).below (Nat.le_refl _) hbc)
  clear hB hz s0 s1 x0 x1 x2 x3 x4 x5 y0 y1 y2 y3 y4 y5 y6
  clear hbc
  clear we
  obtain ⟨wE, hwc⟩ : ∃ x, x = wc := ⟨_, rfl⟩
  subst hwc
  obtain ⟨hB, hz, s0, s1, x0, x1, x2, x3, x4, x5⟩ := unhide HARG _ (unhide HK)
  obtain ⟨y0, y1, y2, y3, y4, y5, y6⟩ := (unhide B8).free'
  go_wp2_with fail
  refine (markArray_any _ _ _ _ _ _ _ h1 sh dt _ _ (by exact unhide X1) (by exact unhide X2) (fun k h h' => by have := at_eq h; have := at_eq h'; omega) (by omega) (by omega)).mono ?_
  rintro e wf ⟨rfl, hM1, hM2, hbut⟩
  clear hM1 hM2
  have hS : ∀ k, (At (some ⟨h1, 0, none⟩) n1 k ∨ At (some ⟨h2, 0, none⟩) n2 k) → h1 ≤ k ∧ k < p8 := fun k hk => by rcases hk with hk | hk <;> have := at_eq hk <;> omega
  replace HK := hide ((unhide HK).trans (hbut.below hz (fun k hk => by have := hS k hk; omega)))
  clear X1
  clear X2
  clear B8
  replace B6 := hide ((unhide B6).but hbut (fun hk => by have := hS _ hk; omega))
  replace T1 := hide (hbut.row (unhide T1) (fun k hk hk' => by have := hS k hk; have := unhide HL1 k hk'; omega))
  replace T2 := hide (hbut.row (unhide T2) (fun k hk hk' => by have := hS k hk; have := unhide HL2 k hk'; omega))
  replace XP := hide ((unhide XP).but hbut (fun x hx1 hx2 hk => by have := hS x hk; omega))
  replace Y3 := hide (hbut.own (unhide Y3) (fun k hk hk' => by have := hS k hk; have := at_eq hk'; omega))
  replace Y4 := hide (hbut.own (unhide Y4) (fun k hk hk' => by have := hS k hk; have := at_eq hk'; omega))
  replace B9 := hide ((unhide B9).but hbut (fun hk => by have := hS _ hk; omega))
  replace O1 := hide (hbut.own (unhide O1) (fun k hk hk' => by have := hS k hk; have := (unhide O1).low hk'; omega))
  replace O2 := hide (hbut.own (unhide O2) (fun k hk hk' => by have := hS k hk; have := (unhide O2).low hk'; omega))
  replace BA := hide ((unhide BA).but hbut (fun hk => by have := hS _ hk; omega))
  clear hB hz s0 s1 x0 x1 x2 x3 x4 x5 y0 y1 y2 y3 y4 y5 y6
  clear hbut hS
  clear wE
  obtain ⟨hB, hz, s0, s1, x0, x1, x2, x3, x4, x5⟩ := unhide HARG _ (unhide HK)
  go_wp2_with fail
  refine (markPartS_any _ _ _ ps _ _ (by exact unhide XP) (by omega) (by omega)).mono ?_
  rintro e wg ⟨km, rfl, hkm0, hkm1, hbut⟩
  have hS : ∀ k, (gq ≤ k ∧ k < q7) → gq ≤ k ∧ k < q7 := fun k hk => hk
  replace HK := hide ((unhide HK).trans (hbut.below hz (fun k hk => by have := hS k hk; omega)))
  clear XP
  replace B6 := hide ((unhide B6).but hbut (fun hk => by have := hS _ hk; omega))
  replace T1 := hide (hbut.row (unhide T1) (fun k hk hk' => by have := hS k hk; have := unhide HL1 k hk'; omega))
  replace T2 := hide (hbut.row (unhide T2) (fun k hk hk' => by have := hS k hk; have := unhide HL2 k hk'; omega))
  replace Y3 := hide (hbut.own (unhide Y3) (fun k hk hk' => by have := hS k hk; have := at_eq hk'; omega))
  replace Y4 := hide (hbut.own (unhide Y4) (fun k hk hk' => by have := hS k hk; have := at_eq hk'; omega))
  replace B9 := hide ((unhide B9).but hbut (fun hk => by have := hS _ hk; omega))
  replace O1 := hide (hbut.own (unhide O1) (fun k hk hk' => by have := hS k hk; have := (unhide O1).low hk'; omega))
  replace O2 := hide (hbut.own (unhide O2) (fun k hk hk' => by have := hS k hk; have := (unhide O2).low hk'; omega))
  replace BA := hide ((unhide BA).but hbut (fun hk => by have := hS _ hk; omega))
  clear hB hz s0 s1 x0 x1 x2 x3 x4 x5
  clear hbut hS
  clear wf
  obtain ⟨hB, hz, s0, s1, x0, x1, x2, x3, x4, x5⟩ := unhide HARG _ (unhide HK)
  obtain ⟨y0, y1, y2, y3, y4, y5, y6⟩ := (unhide B9).free'
  go_wp2_with fail
  refine (markArray_any _ _ _ _ _ _ _ h3 sh' dt' _ _ (by exact unhide Y3) (by exact unhide Y4) (fun k h h' => by have := at_eq h; have := at_eq h'; omega) hkm0 hkm1).mono ?_
  rintro e wh ⟨rfl, hM1, hM2, hbut⟩
  clear hM1 hM2
  have hS : ∀ k, (At (some ⟨h3, 0, none⟩) m1 k ∨ At (some ⟨h4, 0, none⟩) m2 k) → h3 ≤ k ∧ k < p9 := fun k hk => by rcases hk with hk | hk <;> have := at_eq hk <;> omega
  replace HK := hide ((unhide HK).trans (hbut.below hz (fun k hk => by have := hS k hk; omega)))
  clear Y3
  clear Y4
  clear B9
  replace B6 := hide ((unhide B6).but hbut (fun hk => by have := hS _ hk; omega))
  replace T1 := hide (hbut.row (unhide T1) (fun k hk hk' => by have := hS k hk; have := unhide HL1 k hk'; omega))
  replace T2 := hide (hbut.row (unhide T2) (fun k hk hk' => by have := hS k hk; have := unhide HL2 k hk'; omega))
  replace O1 := hide (hbut.own (unhide O1) (fun k hk hk' => by have := hS k hk; have := (unhide O1).low hk'; omega))
  replace O2 := hide (hbut.own (unhide O2) (fun k hk hk' => by have := hS k hk; have := (unhide O2).low hk'; omega))
  replace BA := hide ((unhide BA).but hbut (fun hk => by have := hS _ hk; omega))
  clear hB hz s0 s1 x0 x1 x2 x3 x4 x5 y0 y1 y2 y3 y4 y5 y6
  clear hbut hS
  clear wg
  have hkm2 : ¬ (km + (m1 : Int) + m2 < 0) := by omega
  obtain ⟨hB, hz, s0, s1, x0, x1, x2, x3, x4, x5⟩ := unhide HARG _ (unhide HK)
  obtain ⟨y0, y1, y2, y3, y4, y5, y6⟩ := (unhide B6).free'
  obtain ⟨q0, q1, q2, q3, q4, q5, q6⟩ := (unhide BA).free'
  go_wp2_with fail
  refine (eqArray_refl _ _ _ _ _ _ _ _ _ _ _ _ _ rsh rdt _ (by exact (unhide O1).row) (by exact (unhide O2).row) (by exact unhide T1) (by exact unhide T2)).mono ?_
  rintro e wi ⟨rfl, hbi⟩
  replace HK := hide ((unhide HK).trans (hbi.mono hz))
  replace B6 := hide ((unhide B6).below (Nat.le_refl _) hbi)
  replace T1 := hide ((unhide T1).below (Nat.le_refl _) hbi)
  replace T2 := hide ((unhide T2).below (Nat.le_refl _) hbi)
  replace O1 := hide ((unhide O1).below (Nat.le_refl _) hbi)
  replace O2 := hide ((unhide O2).below (Nat.le_refl _) hbi)
  replace BA := hide ((unhide BA).below (Nat.le_refl _) hbi)
  clear hB hz s0 s1 x0 x1 x2 x3 x4 x5 y0 y1 y2 y3 y4 y5 y6 q0 q1 q2 q3 q4 q5 q6
  clear hbi 
  clear wh
  obtain ⟨hB, hz, s0, s1, x0, x1, x2, x3, x4, x5⟩ := unhide HARG _ (unhide HK)
  obtain ⟨y0, y1, y2, y3, y4, y5, y6⟩ := (unhide BA).free'
  go_wp2_with fail
  refine (markArray_any _ _ _ _ _ _ _ (p9 + 1) rsh rdt _ _ (by exact unhide O1) (by exact unhide O2) (unhide HAP) (by omega) (by omega)).mono ?_
  rintro e wj ⟨rfl, hM1, hM2, hbut⟩
  have hS : ∀ k, (At i1 j1 k ∨ At i2 j2 k) → p9 + 1 ≤ k ∧ k < pA := fun k hk => by rcases hk with hk | hk; exact ⟨(unhide O1).low hk, unhide HU1 k hk⟩; exact ⟨(unhide O2).low hk, unhide HU2 k hk⟩
  have M1 := hide hM1.row
  have M2 := hide hM2.row
  have hks : j1 ≤ 17592186044416 ∧ j2 ≤ 17592186044416 := ⟨(unhide O1).small, (unhide O2).small⟩
  obtain ⟨hks1, hks2⟩ := hks
  replace HK := hide ((unhide HK).trans (hbut.below hz (fun k hk => by have := hS k hk; omega)))
  clear O1
  clear O2
  replace B6 := hide ((unhide B6).but hbut (fun hk => by have := hS _ hk; omega))
  replace T1 := hide (hbut.row (unhide T1) (fun k hk hk' => by have := hS k hk; have := unhide HL1 k hk'; omega))
  replace T2 := hide (hbut.row (unhide T2) (fun k hk hk' => by have := hS k hk; have := unhide HL2 k hk'; omega))
  replace BA := hide ((unhide BA).but hbut (fun hk => by have := hS _ hk; omega))
  clear hB hz s0 s1 x0 x1 x2 x3 x4 x5 y0 y1 y2 y3 y4 y5 y6
  clear hbut hS hM1 hM2
  clear wi
  obtain ⟨hB, hz, s0, s1, x0, x1, x2, x3, x4, x5⟩ := unhide HARG _ (unhide HK)
  obtain ⟨y0, y1, y2, y3, y4, y5, y6⟩ := (unhide BA).free'
  go_wp2_with fail
  refine (heldArray_marks _ _ _ _ _ _ _ _ _ (by exact unhide M1) (by exact unhide M2) (by omega) (by omega)).mono ?_
  rintro e wk ⟨rfl, hbk⟩
  clear M1 M2 BA
  replace HK := hide ((unhide HK).trans (hbk.mono hz))
  replace B6 := hide ((unhide B6).below (Nat.le_refl _) hbk)
  replace T1 := hide ((unhide T1).below (Nat.le_refl _) hbk)
  replace T2 := hide ((unhide T2).below (Nat.le_refl _) hbk)
  clear hB hz s0 s1 x0 x1 x2 x3 x4 x5 y0 y1 y2 y3 y4 y5 y6
  clear hbk 
  clear wj
  have hq0 : ¬ ((1 : Int) + j1 + j2 < 0) := by omega
  obtain ⟨hB, hz, s0, s1, x0, x1, x2, x3, x4, x5⟩ := unhide HARG _ (unhide HK)
  go_wp2_with fail
  go_cut [18, 19] (fun r6 r7 wr => r7 = .int .i64 rcode ∧ ∃ p e1 k1 f1 e2 k2 f2, r6 = .pointer (some ⟨p, 0, none⟩) ∧ Box wr p rc (.slice e1 k1 f1) (.slice e2 k2 f2) ∧ Row wr e1 k1 rsh ∧ Row wr e2 k2 rdt ∧ wk.heap.size ≤ p ∧ Below wk.heap.size wk wr)
  case first =>
    have HARG2 : ∀ wx, Below wk.heap.size wk wx → Below w.heap.size w wx ∧ w.heap.size + 2 ≤ wx.heap.size ∧ w.heap.size < wx.heap.size ∧ w.heap.size + 1 < wx.heap.size ∧ wx.cell? ⟨w.heap.size, 0, none⟩ = some (.bool c) ∧ wx.cell? ⟨w.heap.size, 1, none⟩ = some (.slice a1 n1 c1) ∧ wx.cell? ⟨w.heap.size, 2, none⟩ = some (.slice a2 n2 c2) ∧ wx.cell? ⟨w.heap.size + 1, 0, none⟩ = some (.bool d) ∧ wx.cell? ⟨w.heap.size + 1, 1, none⟩ = some (.slice b1 m1 d1) ∧ wx.cell? ⟨w.heap.size + 1, 2, none⟩ = some (.slice b2 m2 d2) := fun wx hwx => unhide HARG _ ((unhide HK).trans (hwx.mono hz))
    have HKEEP : ∀ wx, Below wk.heap.size wk wx → Below wk.heap.size wk wx ∧ wx.cell? ⟨w.heap.size, 0, none⟩ = some (.bool c) ∧ wx.cell? ⟨w.heap.size, 1, none⟩ = some (.slice a1 n1 c1) ∧ wx.cell? ⟨w.heap.size, 2, none⟩ = some (.slice a2 n2 c2) ∧ wx.cell? ⟨w.heap.size + 1, 0, none⟩ = some (.bool d) ∧ wx.cell? ⟨w.heap.size + 1, 1, none⟩ = some (.slice b1 m1 d1) ∧ wx.cell? ⟨w.heap.size + 1, 2, none⟩ = some (.slice b2 m2 d2) := fun wx hwx => ⟨hwx, (HARG2 _ hwx).2.2.2.2⟩
    go_region_held (fun wx => Below wk.heap.size wk wx ∧ wx.cell? ⟨w.heap.size, 0, none⟩ = some (.bool c) ∧ wx.cell? ⟨w.heap.size, 1, none⟩ = some (.slice a1 n1 c1) ∧ wx.cell? ⟨w.heap.size, 2, none⟩ = some (.slice a2 n2 c2) ∧ wx.cell? ⟨w.heap.size + 1, 0, none⟩ = some (.bool d) ∧ wx.cell? ⟨w.heap.size + 1, 1, none⟩ = some (.slice b1 m1 d1) ∧ wx.cell? ⟨w.heap.size + 1, 2, none⟩ = some (.slice b2 m2 d2)) (first | exact HKEEP _ hK5 | exact HKEEP _ (((hK5.setCell (by have h3 := hK3.size; have hp := hKP.size; have h4 := hK4.size; simp <;> omega) _).setCell (by have h3 := hK3.size; have hp := hKP.size; have h4 := hK4.size; simp <;> omega) _).setCell (by have h3 := hK3.size; have hp := hKP.size; have h4 := hK4.size; simp <;> omega) _) | exact HKEEP _ (hK5.alloc hK5.size _) | exact HKEEP _ hK4 | exact HKEEP _ (hK4.alloc hK4.size _) | exact HKEEP _ hKP | exact HKEEP _ (hKP.alloc hKP.size _) | exact HKEEP _ hK3 | exact HKEEP _ (hK3.alloc hK3.size _) | exact HKEEP _ (Below.refl _ _).drew | exact HKEEP _ ((Below.refl _ _).drew.alloc (by simp <;> omega) _))
      (first
      | (go_at_call_of 11 (Value.slice a1 n1 c1); refine (toArray_any _ _ _ _ _ _ _ sh dt _ (by first | exact (unhide H1).below (Nat.le_refl _) hB.drew | exact ((unhide H1).below (Nat.le_refl _) hB.drew).alloc _) (by first | exact (unhide H2).below (Nat.le_refl _) hB.drew | exact ((unhide H2).below (Nat.le_refl _) hB.drew).alloc _)).mono ?_; rintro e wI ⟨g1, g2, rfl, hg, hlt, hX1, hX2, hb3⟩; have hK3 : Below wk.heap.size wk wI := (by first | exact (Below.refl _ _).drew.trans (hb3.mono (by simp)) | exact ((Below.refl _ _).drew.alloc (by simp) _).trans (hb3.mono (by simp))); (first | have hP3 := (Box.new _ _ _ _).below (Nat.le_refl _) hb3 | have hP3 := (Box.new _ _ _ _).drew.below (Nat.le_refl _) hb3 | skip); obtain ⟨hB3, hz3, t0, t1, x0, x1, x2, x3, x4, x5⟩ := HARG2 _ hK3)
      | (go_at_call 27; refine (toPartS_any _ _ _ ps _ (by first | exact (unhide HPR).below (Nat.le_refl _) hB3 | exact ((unhide HPR).below (Nat.le_refl _) hB3).alloc _) (unhide HSM)).mono ?_; rintro e wP ⟨gp, rfl, hgp, hXP, hbP⟩; have hKP : Below wk.heap.size wk wP := (by first | exact hK3.trans (hbP.mono hK3.size) | exact (hK3.alloc hK3.size _).trans (hbP.mono (by have := hK3.size; simp; omega))); (first | have hPP := hP3.below (Nat.le_refl _) hbP | have hPP := (Box.new _ _ _ _).below (Nat.le_refl _) hbP | skip); have hX1P : Blk wP g1 sh := (by first | exact hX1.below (Nat.le_refl _) hbP | exact (hX1.alloc _).below (Nat.le_refl _) hbP); have hX2P : Blk wP g2 dt := (by first | exact hX2.below (Nat.le_refl _) hbP | exact (hX2.alloc _).below (Nat.le_refl _) hbP); obtain ⟨hBP, hzP, t0', t1', xP0, xP1, xP2, xP3, xP4, xP5⟩ := HARG2 _ hKP)
      | (go_at_call_of 11 (Value.slice b1 m1 d1); refine (toArray_any _ _ _ _ _ _ _ sh' dt' _ (by first | exact (unhide K1).below (Nat.le_refl _) hBP | exact ((unhide K1).below (Nat.le_refl _) hBP).alloc _) (by first | exact (unhide K2).below (Nat.le_refl _) hBP | exact ((unhide K2).below (Nat.le_refl _) hBP).alloc _)).mono ?_; rintro e wJ ⟨g3, g4, rfl, hg', hlt', hX3, hX4, hb4⟩; have hK4 : Below wk.heap.size wk wJ := (by first | exact hKP.trans (hb4.mono hKP.size) | exact (hKP.alloc hKP.size _).trans (hb4.mono (by have := hKP.size; simp; omega))); (first | have hP4 := hPP.below (Nat.le_refl _) hb4 | have hP4 := (Box.new _ _ _ _).below (Nat.le_refl _) hb4 | skip); have hX1' : Blk wJ g1 sh := (by first | exact hX1P.below (Nat.le_refl _) hb4 | exact (hX1P.alloc _).below (Nat.le_refl _) hb4); have hX2' : Blk wJ g2 dt := (by first | exact hX2P.below (Nat.le_refl _) hb4 | exact (hX2P.alloc _).below (Nat.le_refl _) hb4); have hXP' : PNew wJ gp np wP.heap.size ps := (by first | exact hXP.below (Nat.le_refl _) hb4 | exact (hXP.alloc _).below (Nat.le_refl _) hb4); obtain ⟨hB4, hz4, s0', s1', z0, z1, z2, z3, z4, z5⟩ := HARG2 _ hK4)
      | (go_at_call 34; refine (unhide HI _ _ _ _ _ _ _ _ _ _ _ _ _ _ _ sh dt ps sh' dt' _ (by first | exact hX1'.row (unhide H1).len (unhide H1).small | exact (hX1'.alloc _).row (unhide H1).len (unhide H1).small) (by first | exact hX2'.row (unhide H2).len (unhide H2).small | exact (hX2'.alloc _).row (unhide H2).len (unhide H2).small) (by first | exact hXP'.rowN | exact (hXP'.alloc _).rowN) (by first | exact hX3.row (unhide K1).len (unhide K1).small | exact (hX3.alloc _).row (unhide K1).len (unhide K1).small) (by first | exact hX4.row (unhide K2).len (unhide K2).small | exact (hX4.alloc _).row (unhide K2).len (unhide K2).small)).mono ?_; rintro e wL ⟨e1, k1, f1, e2, k2, f2, rfl, hE1', hE2', hap', hb5⟩; have hE1 := hE1'.row; have hE2 := hE2'.row; clear hE1' hE2' hap'; (have HR' := unhide HR; rw [HR'] at hE1 hE2 ⊢; simp only at hE1 hE2 ⊢; clear HR'); have hK5 : Below wk.heap.size wk wL := (by first | exact hK4.trans (hb5.mono hK4.size) | exact (hK4.alloc hK4.size _).trans (hb5.mono (by have := hK4.size; simp; omega))); (first | (have hP5 := hP4.below (Nat.le_refl _) hb5; obtain ⟨u0, u1, u2, u3, u4, u5, u6⟩ := hP5.free'; (try simp at u0 u1 u2 u3 u4 u5 u6)) | (have hP5 := (Box.new _ _ _ _).below (Nat.le_refl _) hb5; obtain ⟨u0, u1, u2, u3, u4, u5, u6⟩ := hP5.free'; (try simp at u0 u1 u2 u3 u4 u5 u6)) | skip); obtain ⟨hB5, hz5, s0'', s1'', z0', z1', z2', z3', z4', z5'⟩ := HARG2 _ hK5))
    all_goals go_wp2_with fail
    all_goals (go_meet; case rel => first | exact ⟨rfl, _, _, _, _, _, _, _, rfl, hP5.sets, hE1.sets hP5 _ _ _, hE2.sets hP5 _ _ _, (by first | exact Nat.le_refl _ | exact hK3.size | exact hKP.size | exact hK4.size | omega), ((hK5.setCell (by have h3 := hK3.size; have hp := hKP.size; have h4 := hK4.size; simp <;> omega) _).setCell (by have h3 := hK3.size; have hp := hKP.size; have h4 := hK4.size; simp <;> omega) _).setCell (by have h3 := hK3.size; have hp := hKP.size; have h4 := hK4.size; simp <;> omega) _⟩ | exact ⟨rfl, _, _, _, _, _, _, _, rfl, Box.new _ _ _ _, hE1.alloc _, hE2.alloc _, by first | exact hK5.size | omega, hK5.alloc hK5.size _⟩)
  case rest =>
  obtain ⟨rfl, pB, i1', j1', l1', i2', j2', l2', rfl, hbB, hr1, hr2, hpBl, hbc⟩ := hcut
  replace HK := hide ((unhide HK).trans (hbc.mono hz))
  replace B6 := hide ((unhide B6).below (Nat.le_refl _) hbc)
  replace T1 := hide ((unhide T1).below (Nat.le_refl _) hbc)
  replace T2 := hide ((unhide T2).below (Nat.le_refl _) hbc)
  have BB := hide hbB
  have R1 := hide hr1
  have R2 := hide hr2
  clear hB hz s0 s1 x0 x1 x2 x3 x4 x5
  clear hbc hbB hr1 hr2 hpBl
  clear wk
  obtain ⟨hB, hz, s0, s1, x0, x1, x2, x3, x4, x5⟩ := unhide HARG _ (unhide HK)
  obtain ⟨y0, y1, y2, y3, y4, y5, y6⟩ := (unhide B6).free'
  obtain ⟨q0, q1, q2, q3, q4, q5, q6⟩ := (unhide BB).free'
  go_wp2_with fail
  refine (eqArray_refl _ _ _ _ _ _ _ _ _ _ _ _ _ rsh rdt _ (by exact unhide R1) (by exact unhide R2) (by exact unhide T1) (by exact unhide T2)).mono ?_
  rintro e wn ⟨rfl, hbn⟩
  have HE := hide (hB.trans (hbn.mono (by omega)))
  clear hB hz s0 s1 x0 x1 x2 x3 x4 x5 y0 y1 y2 y3 y4 y5 y6 q0 q1 q2 q3 q4 q5 q6
  clear hbn HK T1 T2 R1 R2 B6 BB
  go_wp2
  go_ret
  exact ⟨rfl, unhide HE⟩

end LawReplace
end Go.Proofs.Ytngbmcljhcckmaa
