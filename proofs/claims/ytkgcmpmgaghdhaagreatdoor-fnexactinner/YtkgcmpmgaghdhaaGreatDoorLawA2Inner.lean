import Derived.Test.YtkgcmpmgaghdhaaGreatDoorMFit0
import Derived.Test.YtkgcmpmgaghdhaaGreatDoorMFit0
import Derived.Deep.RegionHeld
import Derived.Test.YtkgcmpmgaghdhaaGreatDoorMFit0
namespace Go.Proofs.YtkgcmpmgaghdhaaGreatDoor
open Go.RowKit
namespace LawInner

def Spec (F : Int → Int → Bool → Bool → List Int → List Int → List Int → List Int → Ans) : Prop := ∀ (op : Int) (og : Int) (c d : Bool) (a1 a2 b1 b2 : Addr) (n1 n2 m1 m2 c1 c2 d1 d2 : Nat) (sh dt sh' dt' : List Int) (w : World) (_ : Row w (some a1) n1 sh) (_ : Row w (some a2) n2 dt) (_ : Row w (some b1) m1 sh') (_ : Row w (some b2) m2 dt') (_ : n1 ≤ c1) (_ : n2 ≤ c2) (_ : m1 ≤ d1) (_ : m2 ≤ d2),
    Calls Tryz.prog 27 #[.int .i64 op, .int .i64 og, .agg #[.bool c, .slice (some a1) n1 c1, .slice (some a2) n2 c2], .agg #[.bool d, .slice (some b1) m1 d1, .slice (some b2) m2 d2]] w fun e w' => ∃ e1 k1 f1 e2 k2 f2, e = .returned (.tuple #[.agg #[.bool (F op og c d sh dt sh' dt').c, .slice e1 k1 f1, .slice e2 k2 f2], .int .i64 (F op og c d sh dt sh' dt').code]) ∧ Row w' e1 k1 (F op og c d sh dt sh' dt').sh ∧ Row w' e2 k2 (F op og c d sh dt sh' dt').dt ∧ Below w.heap.size w w'

def Impl (F : Int → Int → Bool → Bool → List Int → List Int → List Int → List Int → Ans) : Prop := ∀ (op : Int) (og : Int) (c d : Bool) (a1 a2 b1 b2 : Addr) (n1 n2 m1 m2 c1 c2 d1 d2 : Nat) (sh dt sh' dt' : List Int) (w : World) (_ : Row w (some a1) n1 sh) (_ : Row w (some a2) n2 dt) (_ : Row w (some b1) m1 sh') (_ : Row w (some b2) m2 dt') (_ : n1 ≤ c1) (_ : n2 ≤ c2) (_ : m1 ≤ d1) (_ : m2 ≤ d2) (ga gb : Addr) (_ : GlF w ga gb),
    Calls Tryz.prog 29 #[.int .i64 op, .int .i64 og, .agg #[.bool c, .slice (some a1) n1 c1, .slice (some a2) n2 c2], .agg #[.bool d, .slice (some b1) m1 d1, .slice (some b2) m2 d2]] w fun e w' => ∃ e1 k1 f1 e2 k2 f2, e = .returned (.tuple #[.agg #[.bool (F op og c d sh dt sh' dt').c, .slice e1 k1 f1, .slice e2 k2 f2], .int .i64 (F op og c d sh dt sh' dt').code]) ∧ Own w' w.heap.size e1 k1 (F op og c d sh dt sh' dt').sh ∧ Own w' w.heap.size e2 k2 (F op og c d sh dt sh' dt').dt ∧ Apart e1 k1 e2 k2 ∧ Below w.heap.size w w'

set_option maxRecDepth 20000 in
set_option maxHeartbeats 8000000 in
theorem law_small (F : Int → Int → Bool → Bool → List Int → List Int → List Int → List Int → Ans) (hspec : Spec F) (himp : Impl F) (op : Int) (og : Int) (c d : Bool) (a1 a2 b1 b2 : Option Addr) (n1 n2 m1 m2 c1 c2 d1 d2 : Nat) (sh dt sh' dt' : List Int) (w : World) (h1 : Row w a1 n1 sh) (h2 : Row w a2 n2 dt) (k1 : Row w b1 m1 sh') (k2 : Row w b2 m2 dt') (ga gb : Addr) (hG : GlF w ga gb)
    (hA : (n1 : Int) + n2 ≤ 1048576) (hB : (m1 : Int) + m2 ≤ 1048576 - n1 - n2) :
    Calls Tryz.prog 6 #[.int .i64 op, .int .i64 og, .agg #[.bool c, .slice a1 n1 c1, .slice a2 n2 c2], .agg #[.bool d, .slice b1 m1 d1, .slice b2 m2 d2]] w fun e w' => e = .returned (.bool true) ∧ Below w.heap.size w w' := by
  have HG := hide hG
  clear hG
  have H1 := hide h1
  have H2 := hide h2
  have K1 := hide k1
  have K2 := hide k2
  clear h1 h2 k1 k2
  have HS := hide (hspec op og c d)
  have HI := hide (himp op og c d)
  clear hspec himp
  obtain ⟨R, hR⟩ : ∃ R, F op og c d sh dt sh' dt' = R := ⟨_, rfl⟩
  obtain ⟨rc, rsh, rdt, rcode⟩ := R
  have HR := hide hR
  clear hR
  go_enter Tryz.func6, Tryz.ntmps6
  go_wp2_with fail
  refine (szArray_ok _ _ _ _ _ _ _ _ _ (by omega) (by omega)).mono ?_
  rintro e w1 ⟨rfl, hb1⟩
  have hK1 := hb1.mono (B' := w.heap.size + 2) (by simp)
  obtain ⟨hB1, hz1, hc1⟩ := box2 hK1
  clear hb1
  go_wp2_with fail
  refine (szArray_ok _ _ _ _ _ _ _ _ _ (by omega) (by omega)).mono ?_
  rintro e w2 ⟨rfl, hb2⟩
  have hK2 := hide (hK1.trans (hb2.mono (by omega)))
  obtain ⟨hB2, hz2, hc2⟩ := box2 (unhide hK2)
  clear hb2 hK1 hB1 hz1 hc1 w1
  have HARG : Hid (∀ wr, Below (w.heap.size + 2) ((w.alloc (.cells #[.bool c, .slice a1 n1 c1, .slice a2 n2 c2] 41)).alloc (.cells #[.bool d, .slice b1 m1 d1, .slice b2 m2 d2] 41)) wr → Below w.heap.size w wr ∧ w.heap.size + 2 ≤ wr.heap.size ∧ w.heap.size < wr.heap.size ∧ w.heap.size + 1 < wr.heap.size ∧ wr.cell? ⟨w.heap.size, 0, none⟩ = some (.bool c) ∧ wr.cell? ⟨w.heap.size, 1, none⟩ = some (.slice a1 n1 c1) ∧ wr.cell? ⟨w.heap.size, 2, none⟩ = some (.slice a2 n2 c2) ∧ wr.cell? ⟨w.heap.size + 1, 0, none⟩ = some (.bool d) ∧ wr.cell? ⟨w.heap.size + 1, 1, none⟩ = some (.slice b1 m1 d1) ∧ wr.cell? ⟨w.heap.size + 1, 2, none⟩ = some (.slice b2 m2 d2)) := by
    intro wr hK
    obtain ⟨hB, hz, hc⟩ := box2 hK
    refine ⟨hB, hz, by omega, by omega, ?_, ?_, ?_, ?_, ?_, ?_⟩
    all_goals (rw [hc _ _ (by omega)]; simp [World.cell?_alloc_past])
  generalize hW0 : ((w.alloc (.cells #[.bool c, .slice a1 n1 c1, .slice a2 n2 c2] 41)).alloc (.cells #[.bool d, .slice b1 m1 d1, .slice b2 m2 d2] 41)) = W0 at hK2 HARG
  clear hB2 hz2 hc2 hW0
  obtain ⟨hB2, hz2, hs0, hs1, y0, y1, y2, y3, y4, y5⟩ := unhide HARG _ (unhide hK2)
  go_wp2_with fail
  go_cut [10, 11] (fun r6 r7 wr => r7 = .int .i64 rcode ∧ ∃ p e1 k1 f1 e2 k2 f2, r6 = .pointer (some ⟨p, 0, none⟩) ∧ Box wr p rc (.slice e1 k1 f1) (.slice e2 k2 f2) ∧ Row wr e1 k1 rsh ∧ Row wr e2 k2 rdt ∧ w.heap.size + 2 ≤ p ∧ Below (w.heap.size + 2) W0 wr)
  case first =>
    have HKEEP : ∀ wx, Below (w.heap.size + 2) W0 wx → Below (w.heap.size + 2) W0 wx ∧ wx.cell? ⟨w.heap.size, 0, none⟩ = some (.bool c) ∧ wx.cell? ⟨w.heap.size, 1, none⟩ = some (.slice a1 n1 c1) ∧ wx.cell? ⟨w.heap.size, 2, none⟩ = some (.slice a2 n2 c2) ∧ wx.cell? ⟨w.heap.size + 1, 0, none⟩ = some (.bool d) ∧ wx.cell? ⟨w.heap.size + 1, 1, none⟩ = some (.slice b1 m1 d1) ∧ wx.cell? ⟨w.heap.size + 1, 2, none⟩ = some (.slice b2 m2 d2) := fun wx hwx => ⟨hwx, (unhide HARG _ hwx).2.2.2.2⟩
    go_region_held (fun wx => Below (w.heap.size + 2) W0 wx ∧ wx.cell? ⟨w.heap.size, 0, none⟩ = some (.bool c) ∧ wx.cell? ⟨w.heap.size, 1, none⟩ = some (.slice a1 n1 c1) ∧ wx.cell? ⟨w.heap.size, 2, none⟩ = some (.slice a2 n2 c2) ∧ wx.cell? ⟨w.heap.size + 1, 0, none⟩ = some (.bool d) ∧ wx.cell? ⟨w.heap.size + 1, 1, none⟩ = some (.slice b1 m1 d1) ∧ wx.cell? ⟨w.heap.size + 1, 2, none⟩ = some (.slice b2 m2 d2)) (first | exact HKEEP _ hK5 | exact HKEEP _ (((hK5.setCell (by simp <;> omega) _).setCell (by simp <;> omega) _).setCell (by simp <;> omega) _) | exact HKEEP _ (hK5.alloc hz5 _) | exact HKEEP _ hK4 | exact HKEEP _ (hK4.alloc hz4 _) | exact HKEEP _ hK3 | exact HKEEP _ (hK3.alloc hz3 _) | exact HKEEP _ (unhide hK2).drew | exact HKEEP _ ((unhide hK2).drew.alloc (by simp <;> omega) _))
      (first
      | (go_at_call_of 28 (Value.slice a1 n1 c1); refine (toArray_any _ _ _ _ _ _ _ sh dt _ (by first | exact (unhide H1).below (Nat.le_refl _) hB2.drew | exact ((unhide H1).below (Nat.le_refl _) hB2.drew).alloc _) (by first | exact (unhide H2).below (Nat.le_refl _) hB2.drew | exact ((unhide H2).below (Nat.le_refl _) hB2.drew).alloc _)).mono ?_; rintro e w3 ⟨g1, g2, rfl, hg, hlt, hX1, hX2, hb3⟩; have hK3 : Below (w.heap.size + 2) W0 w3 := (by first | exact (unhide hK2).drew.trans (hb3.mono (by simp; omega)) | exact ((unhide hK2).drew.alloc (by simp; omega) _).trans (hb3.mono (by simp; omega))); (first | have hP3 := (Box.new _ _ _ _).below (Nat.le_refl _) hb3 | have hP3 := (Box.new _ _ _ _).drew.below (Nat.le_refl _) hb3 | skip); obtain ⟨hB3, hz3, t0, t1, x0, x1, x2, x3, x4, x5⟩ := unhide HARG _ hK3)
      | (go_at_call_of 28 (Value.slice b1 m1 d1); refine (toArray_any _ _ _ _ _ _ _ sh' dt' _ (by first | exact (unhide K1).below (Nat.le_refl _) hB3 | exact ((unhide K1).below (Nat.le_refl _) hB3).alloc _) (by first | exact (unhide K2).below (Nat.le_refl _) hB3 | exact ((unhide K2).below (Nat.le_refl _) hB3).alloc _)).mono ?_; rintro e w4 ⟨g3, g4, rfl, hg', hlt', hX3, hX4, hb4⟩; have hK4 : Below (w.heap.size + 2) W0 w4 := (by first | exact hK3.trans (hb4.mono (by omega)) | exact (hK3.alloc hz3 _).trans (hb4.mono (by simp; omega))); (first | have hP4 := hP3.below (Nat.le_refl _) hb4 | have hP4 := (Box.new _ _ _ _).below (Nat.le_refl _) hb4 | skip); have hX1' : Blk w4 g1 sh := (by first | exact hX1.below (Nat.le_refl _) hb4 | exact (hX1.alloc _).below (Nat.le_refl _) hb4); have hX2' : Blk w4 g2 dt := (by first | exact hX2.below (Nat.le_refl _) hb4 | exact (hX2.alloc _).below (Nat.le_refl _) hb4); obtain ⟨hB4, hz4, s0, s1, z0, z1, z2, z3, z4, z5⟩ := unhide HARG _ hK4)
      | (go_at_call 27; refine (unhide HS _ _ _ _ _ _ _ _ _ _ _ _ sh dt sh' dt'  _ (by first | exact hX1'.row (unhide H1).len (unhide H1).small | exact (hX1'.alloc _).row (unhide H1).len (unhide H1).small) (by first | exact hX2'.row (unhide H2).len (unhide H2).small | exact (hX2'.alloc _).row (unhide H2).len (unhide H2).small) (by first | exact hX3.row (unhide K1).len (unhide K1).small | exact (hX3.alloc _).row (unhide K1).len (unhide K1).small) (by first | exact hX4.row (unhide K2).len (unhide K2).small | exact (hX4.alloc _).row (unhide K2).len (unhide K2).small) (Nat.le_refl _) (Nat.le_refl _) (Nat.le_refl _) (Nat.le_refl _)).mono ?_; rintro e w5 ⟨e1, k1, f1, e2, k2, f2, rfl, hE1, hE2, hb5⟩; (have HR' := unhide HR; rw [HR'] at hE1 hE2 ⊢; simp only at hE1 hE2 ⊢; clear HR'); have hK5 : Below (w.heap.size + 2) W0 w5 := (by first | exact hK4.trans (hb5.mono (by omega)) | exact (hK4.alloc hz4 _).trans (hb5.mono (by simp; omega))); (first | (have hP5 := hP4.below (Nat.le_refl _) hb5; obtain ⟨u0, u1, u2, u3, u4, u5, u6⟩ := hP5.free'; (try simp at u0 u1 u2 u3 u4 u5 u6)) | (have hP5 := (Box.new _ _ _ _).below (Nat.le_refl _) hb5; obtain ⟨u0, u1, u2, u3, u4, u5, u6⟩ := hP5.free'; (try simp at u0 u1 u2 u3 u4 u5 u6)) | skip); obtain ⟨hB5, hz5, s0', s1', z0', z1', z2', z3', z4', z5'⟩ := unhide HARG _ hK5))
    all_goals go_wp2_with fail
    all_goals (go_meet; case rel => first | exact ⟨rfl, _, _, _, _, _, _, _, rfl, hP5.sets, hE1.sets hP5 _ _ _, hE2.sets hP5 _ _ _, by omega, ((hK5.setCell (by simp <;> omega) _).setCell (by simp <;> omega) _).setCell (by simp <;> omega) _⟩ | exact ⟨rfl, _, _, _, _, _, _, _, rfl, Box.new _ _ _ _, hE1.alloc _, hE2.alloc _, by omega, hK5.alloc hz5 _⟩)
  case rest =>
    obtain ⟨rfl, p6, e1, k1, f1, e2, k2, f2, rfl, hb6, hr1, hr2, hp6l, hKc⟩ := hcut
    clear hK2 hB2 hz2 hs0 hs1 y0 y1 y2 y3 y4 y5 w2 HS
    have B6 := hide hb6
    have HT1 := hide hr1
    have HT2 := hide hr2
    have HK := hide hKc
    clear hb6 hr1 hr2 hKc
    obtain ⟨hB, hz, s0, s1, x0, x1, x2, x3, x4, x5⟩ := unhide HARG _ (unhide HK)
    go_wp2_with fail
    refine (toArray_any _ _ _ _ _ _ _ sh dt _ (by exact (unhide H1).below (Nat.le_refl _) hB) (by exact (unhide H2).below (Nat.le_refl _) hB)).mono ?_
    rintro e w3 ⟨g1, g2, rfl, hg, hlt, hX1, hX2, hb3⟩
    have HK3 := hide ((unhide HK).trans (hb3.mono hz))
    have B63 := hide ((unhide B6).below (Nat.le_refl _) hb3)
    have HT13 := hide ((unhide HT1).below (Nat.le_refl _) hb3)
    have HT23 := hide ((unhide HT2).below (Nat.le_refl _) hb3)
    have HL1 : Hid (∀ k, At e1 k1 k → k < g1) := fun k hk => by have := (unhide HT1).hi hk; omega
    have HL2 : Hid (∀ k, At e2 k2 k → k < g1) := fun k hk => by have := (unhide HT2).hi hk; omega
    have hg1 : p6 < g1 := by have := (unhide B6).lt; omega
    have hg2 : g2 < w3.heap.size := hX2.lt
    clear hb3 HK B6 HT1 HT2 hB hz s0 s1 x0 x1 x2 x3 x4 x5 hg wc
    obtain ⟨hB, hz, s0, s1, x0, x1, x2, x3, x4, x5⟩ := unhide HARG _ (unhide HK3)
    go_wp2_with fail
    refine (toArray_any _ _ _ _ _ _ _ sh' dt' _ (by exact ((unhide K1).below (Nat.le_refl _) hB).alloc _) (by exact ((unhide K2).below (Nat.le_refl _) hB).alloc _)).mono ?_
    rintro e w4 ⟨g3, g4, rfl, hg, hlt', hX3, hX4, hb4⟩
    have HK4 := hide (((unhide HK3).alloc hz _).trans (hb4.mono (by simp; omega)))
    have B64 := hide (((unhide B63).alloc _).below (Nat.le_refl _) hb4)
    have HT14 := hide (((unhide HT13).alloc _).below (Nat.le_refl _) hb4)
    have HT24 := hide (((unhide HT23).alloc _).below (Nat.le_refl _) hb4)
    have B84 : Hid (Box w4 w3.heap.size c (.slice (some ⟨g1, 0, none⟩) n1 n1) (.slice (some ⟨g2, 0, none⟩) n2 n2)) := (Box.new w3 _ _ _).below (Nat.le_refl _) hb4
    have hX14 := (hX1.alloc _).below (Nat.le_refl _) hb4
    have hX24 := (hX2.alloc _).below (Nat.le_refl _) hb4
    have hg3 : w3.heap.size < g3 := by simp at hg; omega
    have hg4 : g4 < w4.heap.size := hX4.lt
    have hp8 : w3.heap.size < w4.heap.size := (unhide B84).lt
    clear hb4 HK3 B63 HT13 HT23 hX1 hX2 hB hz s0 s1 x0 x1 x2 x3 x4 x5 hg
    generalize w3.heap.size = p8 at *
    clear w3
    obtain ⟨hB, hz, s0, s1, x0, x1, x2, x3, x4, x5⟩ := unhide HARG _ (unhide HK4)
    obtain ⟨y0, y1, y2, y3, y4, y5, y6⟩ := (unhide B84).free'
    go_wp2_with fail
    refine (unhide HI _ _ _ _ _ _ _ _ _ _ _ _ sh dt sh' dt'  _ (by exact (hX14.alloc _).row (unhide H1).len (unhide H1).small) (by exact (hX24.alloc _).row (unhide H2).len (unhide H2).small) (by exact (hX3.alloc _).row (unhide K1).len (unhide K1).small) (by exact (hX4.alloc _).row (unhide K2).len (unhide K2).small) (Nat.le_refl _) (Nat.le_refl _) (Nat.le_refl _) (Nat.le_refl _) ga gb (by exact ((unhide HG).below hB).alloc _)).mono ?_
    rintro e w5 ⟨i1, j1, l1, i2, j2, l2, rfl, hO1, hO2, hap, hb5⟩
    have HR' := unhide HR
    rw [HR'] at hO1 hO2 ⊢
    simp only at hO1 hO2 ⊢
    clear HR'
    have hO1' : Own w5 (w4.heap.size + 1) i1 j1 rsh := by simpa using hO1
    have hO2' : Own w5 (w4.heap.size + 1) i2 j2 rdt := by simpa using hO2
    have HO1 := hide hO1'
    have HO2 := hide hO2'
    have HAP := hide hap
    have HU1 : Hid (∀ k, At i1 j1 k → k < w5.heap.size) := fun k hk => hO1'.row.hi hk
    have HU2 : Hid (∀ k, At i2 j2 k → k < w5.heap.size) := fun k hk => hO2'.row.hi hk
    have HK5 := hide (((unhide HK4).alloc hz _).trans (hb5.mono (by simp; omega)))
    have B65 := hide (((unhide B64).alloc _).below (Nat.le_refl _) hb5)
    have B85 := hide (((unhide B84).alloc _).below (Nat.le_refl _) hb5)
    have B95 : Hid (Box w5 w4.heap.size d (.slice (some ⟨g3, 0, none⟩) m1 m1) (.slice (some ⟨g4, 0, none⟩) m2 m2)) := (Box.new w4 _ _ _).below (Nat.le_refl _) hb5
    have HT15 := hide (((unhide HT14).alloc _).below (Nat.le_refl _) hb5)
    have HT25 := hide (((unhide HT24).alloc _).below (Nat.le_refl _) hb5)
    have HX15 := hide ((hX14.alloc _).below (Nat.le_refl _) hb5)
    have HX25 := hide ((hX24.alloc _).below (Nat.le_refl _) hb5)
    have HX35 := hide ((hX3.alloc _).below (Nat.le_refl _) hb5)
    have HX45 := hide ((hX4.alloc _).below (Nat.le_refl _) hb5)
    have hp9 : w4.heap.size < w5.heap.size := (unhide B95).lt
    clear hb5 HK4 B64 B84 HT14 HT24 hX14 hX24 hX3 hX4 hO1 hO2 hO1' hO2' hap hB hz s0 s1 x0 x1 x2 x3 x4 x5 y0 y1 y2 y3 y4 y5 y6
    generalize w4.heap.size = p9 at *
    clear w4
    obtain ⟨hB, hz, s0, s1, x0, x1, x2, x3, x4, x5⟩ := unhide HARG _ (unhide HK5)
    obtain ⟨y0, y1, y2, y3, y4, y5, y6⟩ := (unhide B65).free'
    go_wp2_with fail
    refine (eqArray_refl _ _ _ _ _ _ _ _ _ _ _ _ _ rsh rdt _ (by exact ((unhide HO1).alloc _).row) (by exact ((unhide HO2).alloc _).row) (by exact (unhide HT15).alloc _) (by exact (unhide HT25).alloc _)).mono ?_
    rintro e w6 ⟨rfl, hb6⟩
    have HK6 := hide (((unhide HK5).alloc hz _).trans (hb6.mono (by simp; omega)))
    have B66 := hide (((unhide B65).alloc _).below (Nat.le_refl _) hb6)
    have B86 := hide (((unhide B85).alloc _).below (Nat.le_refl _) hb6)
    have B96 := hide (((unhide B95).alloc _).below (Nat.le_refl _) hb6)
    have BA6 : Hid (Box w6 w5.heap.size rc (.slice i1 j1 l1) (.slice i2 j2 l2)) := (Box.new w5 _ _ _).below (Nat.le_refl _) hb6
    have HT16 := hide (((unhide HT15).alloc _).below (Nat.le_refl _) hb6)
    have HT26 := hide (((unhide HT25).alloc _).below (Nat.le_refl _) hb6)
    have HO16 := hide (((unhide HO1).alloc _).below (Nat.le_refl _) hb6)
    have HO26 := hide (((unhide HO2).alloc _).below (Nat.le_refl _) hb6)
    have HX16 := hide (((unhide HX15).alloc _).below (Nat.le_refl _) hb6)
    have HX26 := hide (((unhide HX25).alloc _).below (Nat.le_refl _) hb6)
    have HX36 := hide (((unhide HX35).alloc _).below (Nat.le_refl _) hb6)
    have HX46 := hide (((unhide HX45).alloc _).below (Nat.le_refl _) hb6)
    clear hb6 HK5 B65 B85 B95 HT15 HT25 HO1 HO2 HX15 HX25 HX35 HX45 hB hz s0 s1 x0 x1 x2 x3 x4 x5 y0 y1 y2 y3 y4 y5 y6
    generalize w5.heap.size = pA at *
    clear w5
    obtain ⟨hB, hz, s0, s1, x0, x1, x2, x3, x4, x5⟩ := unhide HARG _ (unhide HK6)
    obtain ⟨y0, y1, y2, y3, y4, y5, y6⟩ := (unhide B86).free'
    have hcc : (rcode != rcode) = false := by simp
    go_wp2_with fail
    go_cut [66] (fun r wr => r = .bool false ∧ Below w6.heap.size w6 wr)
    case first =>
      go_region_with (first
        | (go_at_call 28; refine (toArray_any _ _ _ _ _ _ _ sh dt _ (by exact (unhide H1).below (Nat.le_refl _) hB.drew) (by exact (unhide H2).below (Nat.le_refl _) hB.drew)).mono ?_; rintro e w7 ⟨g5, g6, rfl, hg, hlt2, hZ1, hZ2, hb7⟩; obtain ⟨hc7, hf7⟩ := bcell hb7; clear hf7; simp at hc7)
        | (go_at_call 17; refine (eqArray_refl _ _ _ _ _ _ _ _ _ _ _ _ _ sh dt _ (by exact ((unhide HX16).drew.below (Nat.le_refl _) hb7).row (unhide H1).len (unhide H1).small) (by exact ((unhide HX26).drew.below (Nat.le_refl _) hb7).row (unhide H2).len (unhide H2).small) (by exact hZ1.row (unhide H1).len (unhide H1).small) (by exact hZ2.row (unhide H2).len (unhide H2).small)).mono ?_; rintro e w8 ⟨rfl, hb8⟩))
      all_goals go_wp2_with fail
      all_goals (go_meet; case rel => exact ⟨rfl, ((Below.refl _ _).drew.trans hb7).trans (hb8.mono hb7.size)⟩)
    case rest =>
      obtain ⟨rfl, hbc⟩ := hcut
      have HK7 := hide ((unhide HK6).trans (hbc.mono hz))
      have B67 := hide ((unhide B66).below (Nat.le_refl _) hbc)
      have B87 := hide ((unhide B86).below (Nat.le_refl _) hbc)
      have B97 := hide ((unhide B96).below (Nat.le_refl _) hbc)
      have BA7 := hide ((unhide BA6).below (Nat.le_refl _) hbc)
      have HT17 := hide ((unhide HT16).below (Nat.le_refl _) hbc)
      have HT27 := hide ((unhide HT26).below (Nat.le_refl _) hbc)
      have HO17 := hide ((unhide HO16).below (Nat.le_refl _) hbc)
      have HO27 := hide ((unhide HO26).below (Nat.le_refl _) hbc)
      have HX17 := hide ((unhide HX16).below (Nat.le_refl _) hbc)
      have HX27 := hide ((unhide HX26).below (Nat.le_refl _) hbc)
      have HX37 := hide ((unhide HX36).below (Nat.le_refl _) hbc)
      have HX47 := hide ((unhide HX46).below (Nat.le_refl _) hbc)
      clear hbc HK6 B66 B86 B96 BA6 HT16 HT26 HO16 HO26 HX16 HX26 HX36 HX46 hB hz s0 s1 x0 x1 x2 x3 x4 x5 y0 y1 y2 y3 y4 y5 y6 w6
      obtain ⟨hB, hz, s0, s1, x0, x1, x2, x3, x4, x5⟩ := unhide HARG _ (unhide HK7)
      obtain ⟨y0, y1, y2, y3, y4, y5, y6⟩ := (unhide B97).free'
      go_wp2_with fail
      go_cut [71] (fun r wr => r = .bool false ∧ Below wc.heap.size wc wr)
      case first =>
        go_region_with (first
          | (go_at_call 28; refine (toArray_any _ _ _ _ _ _ _ sh' dt' _ (by exact (unhide K1).below (Nat.le_refl _) hB.drew) (by exact (unhide K2).below (Nat.le_refl _) hB.drew)).mono ?_; rintro e w7 ⟨g5, g6, rfl, hg, hlt2, hZ1, hZ2, hb7⟩; obtain ⟨hc7, hf7⟩ := bcell hb7; clear hf7; simp at hc7)
          | (go_at_call 17; refine (eqArray_refl _ _ _ _ _ _ _ _ _ _ _ _ _ sh' dt' _ (by exact ((unhide HX37).drew.below (Nat.le_refl _) hb7).row (unhide K1).len (unhide K1).small) (by exact ((unhide HX47).drew.below (Nat.le_refl _) hb7).row (unhide K2).len (unhide K2).small) (by exact hZ1.row (unhide K1).len (unhide K1).small) (by exact hZ2.row (unhide K2).len (unhide K2).small)).mono ?_; rintro e w8 ⟨rfl, hb8⟩))
        all_goals go_wp2_with fail
        all_goals (go_meet; case rel => exact ⟨rfl, ((Below.refl _ _).drew.trans hb7).trans (hb8.mono hb7.size)⟩)
      case rest =>
        obtain ⟨rfl, hbd⟩ := hcut
        have HK8 := hide ((unhide HK7).trans (hbd.mono hz))
        have B68 := hide ((unhide B67).below (Nat.le_refl _) hbd)
        have B88 := hide ((unhide B87).below (Nat.le_refl _) hbd)
        have B98 := hide ((unhide B97).below (Nat.le_refl _) hbd)
        have BA8 := hide ((unhide BA7).below (Nat.le_refl _) hbd)
        have HT18 := hide ((unhide HT17).below (Nat.le_refl _) hbd)
        have HT28 := hide ((unhide HT27).below (Nat.le_refl _) hbd)
        have HO18 := hide ((unhide HO17).below (Nat.le_refl _) hbd)
        have HO28 := hide ((unhide HO27).below (Nat.le_refl _) hbd)
        have HX18 := hide ((unhide HX17).below (Nat.le_refl _) hbd)
        have HX28 := hide ((unhide HX27).below (Nat.le_refl _) hbd)
        have HX38 := hide ((unhide HX37).below (Nat.le_refl _) hbd)
        have HX48 := hide ((unhide HX47).below (Nat.le_refl _) hbd)
        clear hbd HK7 B67 B87 B97 BA7 HT17 HT27 HO17 HO27 HX17 HX27 HX37 HX47 hB hz s0 s1 x0 x1 x2 x3 x4 x5 y0 y1 y2 y3 y4 y5 y6
        obtain ⟨y0, y1, y2, y3, y4, y5, y6⟩ := (unhide B88).free'
        go_wp2_with fail
        refine (markArray_any _ _ _ _ _ _ _ g1 sh dt _ _ (by exact (unhide HX18).own (unhide H1).len (unhide H1).small (Nat.le_refl _)) (by exact (unhide HX28).own (unhide H2).len (unhide H2).small (by omega)) (fun k h h' => by have := at_eq h; have := at_eq h'; omega) (by omega) (by omega)).mono ?_
        rintro e w9 ⟨rfl, hM1, hM2, hbut⟩
        clear hM1 hM2
        have hS : ∀ k, (At (some ⟨g1, 0, none⟩) n1 k ∨ At (some ⟨g2, 0, none⟩) n2 k) → g1 ≤ k ∧ k < p8 := fun k hk => by rcases hk with hk | hk <;> have := at_eq hk <;> omega
        have HK9 := hide ((unhide HK8).trans (hbut.below (unhide HARG _ (unhide HK8)).2.1 (fun k hk => by have := hS k hk; omega)))
        have B69 := hide ((unhide B68).but hbut (fun hk => by have := hS _ hk; omega))
        have B99 := hide ((unhide B98).but hbut (fun hk => by have := hS _ hk; omega))
        have BA9 := hide ((unhide BA8).but hbut (fun hk => by have := hS _ hk; omega))
        have HT19 := hide (hbut.row (unhide HT18) (fun k hk hk' => by have := hS k hk; have := unhide HL1 k hk'; omega))
        have HT29 := hide (hbut.row (unhide HT28) (fun k hk hk' => by have := hS k hk; have := unhide HL2 k hk'; omega))
        have HO19 := hide (hbut.own (unhide HO18) (fun k hk hk' => by have := hS k hk; have := (unhide HO18).low hk'; omega))
        have HO29 := hide (hbut.own (unhide HO28) (fun k hk hk' => by have := hS k hk; have := (unhide HO28).low hk'; omega))
        have hY3 : Own w9 g3 (some ⟨g3, 0, none⟩) m1 sh' := hbut.own ((unhide HX38).own (unhide K1).len (unhide K1).small (Nat.le_refl _)) (fun k hk hk' => by have := hS k hk; have := at_eq hk'; omega)
        have hY4 : Own w9 g3 (some ⟨g4, 0, none⟩) m2 dt' := hbut.own ((unhide HX48).own (unhide K2).len (unhide K2).small (by omega)) (fun k hk hk' => by have := hS k hk; have := at_eq hk'; omega)
        have HY3 := hide hY3
        have HY4 := hide hY4
        clear hbut hS HK8 B68 B88 B98 BA8 HT18 HT28 HO18 HO28 HX18 HX28 HX38 HX48 hY3 hY4 y0 y1 y2 y3 y4 y5 y6
        obtain ⟨y0, y1, y2, y3, y4, y5, y6⟩ := (unhide B99).free'
        go_wp2_with fail
        refine (markArray_any _ _ _ _ _ _ _ g3 sh' dt' _ _ (by exact unhide HY3) (by exact unhide HY4) (fun k h h' => by have := at_eq h; have := at_eq h'; omega) (by omega) (by omega)).mono ?_
        rintro e wa ⟨rfl, hM1, hM2, hbut⟩
        clear hM1 hM2
        have hS : ∀ k, (At (some ⟨g3, 0, none⟩) m1 k ∨ At (some ⟨g4, 0, none⟩) m2 k) → g3 ≤ k ∧ k < p9 := fun k hk => by rcases hk with hk | hk <;> have := at_eq hk <;> omega
        have HKa := hide ((unhide HK9).trans (hbut.below (unhide HARG _ (unhide HK9)).2.1 (fun k hk => by have := hS k hk; omega)))
        have B6a := hide ((unhide B69).but hbut (fun hk => by have := hS _ hk; omega))
        have BAa := hide ((unhide BA9).but hbut (fun hk => by have := hS _ hk; omega))
        have HT1a := hide (hbut.row (unhide HT19) (fun k hk hk' => by have := hS k hk; have := unhide HL1 k hk'; omega))
        have HT2a := hide (hbut.row (unhide HT29) (fun k hk hk' => by have := hS k hk; have := unhide HL2 k hk'; omega))
        have HO1a := hide (hbut.own (unhide HO19) (fun k hk hk' => by have := hS k hk; have := (unhide HO19).low hk'; omega))
        have HO2a := hide (hbut.own (unhide HO29) (fun k hk hk' => by have := hS k hk; have := (unhide HO29).low hk'; omega))
        clear hbut hS HK9 B69 B99 BA9 HT19 HT29 HO19 HO29 HY3 HY4 y0 y1 y2 y3 y4 y5 y6 w9
        obtain ⟨y0, y1, y2, y3, y4, y5, y6⟩ := (unhide B6a).free'
        obtain ⟨q0, q1, q2, q3, q4, q5, q6⟩ := (unhide BAa).free'
        go_wp2_with fail
        refine (eqArray_refl _ _ _ _ _ _ _ _ _ _ _ _ _ rsh rdt _ (by exact (unhide HO1a).row) (by exact (unhide HO2a).row) (by exact unhide HT1a) (by exact unhide HT2a)).mono ?_
        rintro e wb ⟨rfl, hbb⟩
        have HKb := hide ((unhide HKa).trans (hbb.mono (unhide HARG _ (unhide HKa)).2.1))
        have B6b := hide ((unhide B6a).below (Nat.le_refl _) hbb)
        have BAb := hide ((unhide BAa).below (Nat.le_refl _) hbb)
        have HT1b := hide ((unhide HT1a).below (Nat.le_refl _) hbb)
        have HT2b := hide ((unhide HT2a).below (Nat.le_refl _) hbb)
        have HO1b := hide ((unhide HO1a).below (Nat.le_refl _) hbb)
        have HO2b := hide ((unhide HO2a).below (Nat.le_refl _) hbb)
        clear hbb HKa B6a BAa HT1a HT2a HO1a HO2a y0 y1 y2 y3 y4 y5 y6 q0 q1 q2 q3 q4 q5 q6 wa
        obtain ⟨y0, y1, y2, y3, y4, y5, y6⟩ := (unhide BAb).free'
        go_wp2_with fail
        refine (markArray_any _ _ _ _ _ _ _ (p9 + 1) rsh rdt _ _ (by exact unhide HO1b) (by exact unhide HO2b) (unhide HAP) (by omega) (by omega)).mono ?_
        rintro e wd ⟨rfl, hM1, hM2, hbut⟩
        have hS : ∀ k, (At i1 j1 k ∨ At i2 j2 k) → p9 + 1 ≤ k ∧ k < pA := fun k hk => by rcases hk with hk | hk; exact ⟨(unhide HO1b).low hk, unhide HU1 k hk⟩; exact ⟨(unhide HO2b).low hk, unhide HU2 k hk⟩
        have HKd := hide ((unhide HKb).trans (hbut.below (unhide HARG _ (unhide HKb)).2.1 (fun k hk => by have := hS k hk; omega)))
        have B6d := hide ((unhide B6b).but hbut (fun hk => by have := hS _ hk; omega))
        have BAd := hide ((unhide BAb).but hbut (fun hk => by have := hS _ hk; omega))
        have HT1d := hide (hbut.row (unhide HT1b) (fun k hk hk' => by have := hS k hk; have := unhide HL1 k hk'; omega))
        have HT2d := hide (hbut.row (unhide HT2b) (fun k hk hk' => by have := hS k hk; have := unhide HL2 k hk'; omega))
        have HM1 := hide hM1.row
        have HM2 := hide hM2.row
        have hks : j1 ≤ 17592186044416 ∧ j2 ≤ 17592186044416 := ⟨(unhide HO1b).small, (unhide HO2b).small⟩
        obtain ⟨hks1, hks2⟩ := hks
        clear hbut hS HKb B6b BAb HT1b HT2b HO1b HO2b hM1 hM2 y0 y1 y2 y3 y4 y5 y6 wb
        obtain ⟨y0, y1, y2, y3, y4, y5, y6⟩ := (unhide BAd).free'
        go_wp2_with fail
        refine (heldArray_marks _ _ _ _ _ _ _ _ _ (by exact unhide HM1) (by exact unhide HM2) (by omega) (by omega)).mono ?_
        rintro e we ⟨rfl, hbe⟩
        have HKb := hide ((unhide HKd).trans (hbe.mono (unhide HARG _ (unhide HKd)).2.1))
        have B6e := hide ((unhide B6d).below (Nat.le_refl _) hbe)
        have HT1e := hide ((unhide HT1d).below (Nat.le_refl _) hbe)
        have HT2e := hide ((unhide HT2d).below (Nat.le_refl _) hbe)
        clear hbe HKd B6d BAd HT1d HT2d HM1 HM2 y0 y1 y2 y3 y4 y5 y6 wd
        have hq0 : ¬ ((1 : Int) + j1 + j2 < 0) := by omega
        obtain ⟨hBb, hzb, s0, s1, x0, x1, x2, x3, x4, x5⟩ := unhide HARG _ (unhide HKb)
        go_wp2_with fail
        go_cut [19, 20] (fun r6 r7 wr => r7 = .int .i64 rcode ∧ ∃ p i1 j1 l1 i2 j2 l2, r6 = .pointer (some ⟨p, 0, none⟩) ∧ Box wr p rc (.slice i1 j1 l1) (.slice i2 j2 l2) ∧ Row wr i1 j1 rsh ∧ Row wr i2 j2 rdt ∧ we.heap.size ≤ p ∧ Below we.heap.size we wr)
        case first =>
          have HARG2 : ∀ wx, Below we.heap.size we wx → Below w.heap.size w wx ∧ w.heap.size + 2 ≤ wx.heap.size ∧ w.heap.size < wx.heap.size ∧ w.heap.size + 1 < wx.heap.size ∧ wx.cell? ⟨w.heap.size, 0, none⟩ = some (.bool c) ∧ wx.cell? ⟨w.heap.size, 1, none⟩ = some (.slice a1 n1 c1) ∧ wx.cell? ⟨w.heap.size, 2, none⟩ = some (.slice a2 n2 c2) ∧ wx.cell? ⟨w.heap.size + 1, 0, none⟩ = some (.bool d) ∧ wx.cell? ⟨w.heap.size + 1, 1, none⟩ = some (.slice b1 m1 d1) ∧ wx.cell? ⟨w.heap.size + 1, 2, none⟩ = some (.slice b2 m2 d2) := fun wx hwx => unhide HARG _ ((unhide HKb).trans (hwx.mono hzb))
          have HKEEP : ∀ wx, Below we.heap.size we wx → Below we.heap.size we wx ∧ wx.cell? ⟨w.heap.size, 0, none⟩ = some (.bool c) ∧ wx.cell? ⟨w.heap.size, 1, none⟩ = some (.slice a1 n1 c1) ∧ wx.cell? ⟨w.heap.size, 2, none⟩ = some (.slice a2 n2 c2) ∧ wx.cell? ⟨w.heap.size + 1, 0, none⟩ = some (.bool d) ∧ wx.cell? ⟨w.heap.size + 1, 1, none⟩ = some (.slice b1 m1 d1) ∧ wx.cell? ⟨w.heap.size + 1, 2, none⟩ = some (.slice b2 m2 d2) := fun wx hwx => ⟨hwx, (HARG2 _ hwx).2.2.2.2⟩
          go_region_held (fun wx => Below we.heap.size we wx ∧ wx.cell? ⟨w.heap.size, 0, none⟩ = some (.bool c) ∧ wx.cell? ⟨w.heap.size, 1, none⟩ = some (.slice a1 n1 c1) ∧ wx.cell? ⟨w.heap.size, 2, none⟩ = some (.slice a2 n2 c2) ∧ wx.cell? ⟨w.heap.size + 1, 0, none⟩ = some (.bool d) ∧ wx.cell? ⟨w.heap.size + 1, 1, none⟩ = some (.slice b1 m1 d1) ∧ wx.cell? ⟨w.heap.size + 1, 2, none⟩ = some (.slice b2 m2 d2)) (first | exact HKEEP _ hK5 | exact HKEEP _ (((hK5.setCell (by have h3 := hK3.size; have h4 := hK4.size; simp <;> omega) _).setCell (by have h3 := hK3.size; have h4 := hK4.size; simp <;> omega) _).setCell (by have h3 := hK3.size; have h4 := hK4.size; simp <;> omega) _) | exact HKEEP _ (hK5.alloc hK5.size _) | exact HKEEP _ hK4 | exact HKEEP _ (hK4.alloc hK4.size _) | exact HKEEP _ hK3 | exact HKEEP _ (hK3.alloc hK3.size _) | exact HKEEP _ (Below.refl _ _).drew | exact HKEEP _ ((Below.refl _ _).drew.alloc (by simp <;> omega) _))
            (first
            | (go_at_call_of 28 (Value.slice a1 n1 c1); refine (toArray_any _ _ _ _ _ _ _ sh dt _ (by first | exact (unhide H1).below (Nat.le_refl _) hBb.drew | exact ((unhide H1).below (Nat.le_refl _) hBb.drew).alloc _) (by first | exact (unhide H2).below (Nat.le_refl _) hBb.drew | exact ((unhide H2).below (Nat.le_refl _) hBb.drew).alloc _)).mono ?_; rintro e w3 ⟨g1, g2, rfl, hg, hlt, hX1, hX2, hb3⟩; have hK3 : Below we.heap.size we w3 := (by first | exact (Below.refl _ _).drew.trans (hb3.mono (by simp)) | exact ((Below.refl _ _).drew.alloc (by simp) _).trans (hb3.mono (by simp))); (first | have hP3 := (Box.new _ _ _ _).below (Nat.le_refl _) hb3 | have hP3 := (Box.new _ _ _ _).drew.below (Nat.le_refl _) hb3 | skip); obtain ⟨hB3, hz3, t0, t1, x0, x1, x2, x3, x4, x5⟩ := HARG2 _ hK3)
            | (go_at_call_of 28 (Value.slice b1 m1 d1); refine (toArray_any _ _ _ _ _ _ _ sh' dt' _ (by first | exact (unhide K1).below (Nat.le_refl _) hB3 | exact ((unhide K1).below (Nat.le_refl _) hB3).alloc _) (by first | exact (unhide K2).below (Nat.le_refl _) hB3 | exact ((unhide K2).below (Nat.le_refl _) hB3).alloc _)).mono ?_; rintro e w4 ⟨g3, g4, rfl, hg', hlt', hX3, hX4, hb4⟩; have hK4 : Below we.heap.size we w4 := (by first | exact hK3.trans (hb4.mono hK3.size) | exact (hK3.alloc hK3.size _).trans (hb4.mono (by have := hK3.size; simp; omega))); (first | have hP4 := hP3.below (Nat.le_refl _) hb4 | have hP4 := (Box.new _ _ _ _).below (Nat.le_refl _) hb4 | skip); have hX1' : Blk w4 g1 sh := (by first | exact hX1.below (Nat.le_refl _) hb4 | exact (hX1.alloc _).below (Nat.le_refl _) hb4); have hX2' : Blk w4 g2 dt := (by first | exact hX2.below (Nat.le_refl _) hb4 | exact (hX2.alloc _).below (Nat.le_refl _) hb4); obtain ⟨hB4, hz4, s0, s1, z0, z1, z2, z3, z4, z5⟩ := HARG2 _ hK4)
            | (go_at_call 29; refine (unhide HI _ _ _ _ _ _ _ _ _ _ _ _ sh dt sh' dt'  _ (by first | exact hX1'.row (unhide H1).len (unhide H1).small | exact (hX1'.alloc _).row (unhide H1).len (unhide H1).small) (by first | exact hX2'.row (unhide H2).len (unhide H2).small | exact (hX2'.alloc _).row (unhide H2).len (unhide H2).small) (by first | exact hX3.row (unhide K1).len (unhide K1).small | exact (hX3.alloc _).row (unhide K1).len (unhide K1).small) (by first | exact hX4.row (unhide K2).len (unhide K2).small | exact (hX4.alloc _).row (unhide K2).len (unhide K2).small) (Nat.le_refl _) (Nat.le_refl _) (Nat.le_refl _) (Nat.le_refl _) ga gb (by first | exact (unhide HG).below (HARG2 _ hK4).1 | exact ((unhide HG).below (HARG2 _ hK4).1).alloc _)).mono ?_; rintro e w5 ⟨i1', j1', l1', i2', j2', l2', rfl, hE1', hE2', hap', hb5⟩; have hE1 := hE1'.row; have hE2 := hE2'.row; clear hE1' hE2' hap'; (have HR' := unhide HR; rw [HR'] at hE1 hE2 ⊢; simp only at hE1 hE2 ⊢; clear HR'); have hK5 : Below we.heap.size we w5 := (by first | exact hK4.trans (hb5.mono hK4.size) | exact (hK4.alloc hK4.size _).trans (hb5.mono (by have := hK4.size; simp; omega))); (first | (have hP5 := hP4.below (Nat.le_refl _) hb5; obtain ⟨u0, u1, u2, u3, u4, u5, u6⟩ := hP5.free'; (try simp at u0 u1 u2 u3 u4 u5 u6)) | (have hP5 := (Box.new _ _ _ _).below (Nat.le_refl _) hb5; obtain ⟨u0, u1, u2, u3, u4, u5, u6⟩ := hP5.free'; (try simp at u0 u1 u2 u3 u4 u5 u6)) | skip); obtain ⟨hB5, hz5, s0', s1', z0', z1', z2', z3', z4', z5'⟩ := HARG2 _ hK5))
          all_goals go_wp2_with fail
          all_goals (go_meet; case rel => first | exact ⟨rfl, _, _, _, _, _, _, _, rfl, hP5.sets, hE1.sets hP5 _ _ _, hE2.sets hP5 _ _ _, (by first | exact Nat.le_refl _ | exact hK3.size | exact hK4.size | omega), ((hK5.setCell (by have h3 := hK3.size; have h4 := hK4.size; simp <;> omega) _).setCell (by have h3 := hK3.size; have h4 := hK4.size; simp <;> omega) _).setCell (by have h3 := hK3.size; have h4 := hK4.size; simp <;> omega) _⟩ | exact ⟨rfl, _, _, _, _, _, _, _, rfl, Box.new _ _ _ _, hE1.alloc _, hE2.alloc _, by first | exact hK5.size | omega, hK5.alloc hK5.size _⟩)
        case rest =>
          obtain ⟨rfl, p, i1', j1', l1', i2', j2', l2', rfl, hb6, hr1, hr2, hp6l', hbf⟩ := hcut
          have HKf := hide (hBb.trans (hbf.mono (by omega)))
          have HT1f := hide ((unhide HT1e).below (Nat.le_refl _) hbf)
          have HT2f := hide ((unhide HT2e).below (Nat.le_refl _) hbf)
          have HR1 := hide hr1
          have HR2 := hide hr2
          obtain ⟨y0, y1, y2, y3, y4, y5, y6⟩ := ((unhide B6e).below (Nat.le_refl _) hbf).free'
          obtain ⟨q0, q1, q2, q3, q4, q5, q6⟩ := hb6.free'
          have hsz : w.heap.size ≤ wc.heap.size := (unhide HKf).size
          clear hbf hb6 hr1 hr2 HKb B6e HT1e HT2e hBb hzb s0 s1 x0 x1 x2 x3 x4 x5
          go_wp2_with fail
          refine (eqArray_refl _ _ _ _ _ _ _ _ _ _ _ _ _ rsh rdt _ (by exact unhide HR1) (by exact unhide HR2) (by exact unhide HT1f) (by exact unhide HT2f)).mono ?_
          rintro e wg ⟨rfl, hbg⟩
          have HKg := hide ((unhide HKf).trans (hbg.mono hsz))
          clear hbg HKf HT1f HT2f HR1 HR2 y0 y1 y2 y3 y4 y5 y6 q0 q1 q2 q3 q4 q5 q6
          go_wp2
          go_ret
          exact ⟨rfl, unhide HKg⟩

set_option maxHeartbeats 400000 in
theorem law_big1 (op : Int) (og : Int) (c d : Bool) (a1 a2 b1 b2 : Option Addr) (n1 n2 m1 m2 c1 c2 d1 d2 : Nat) (w : World) (h1 : n1 ≤ 9223372036854775807) (h2 : n2 ≤ 9223372036854775807) (hA : (1048576 : Int) < n1 + n2) :
    Calls Tryz.prog 6 #[.int .i64 op, .int .i64 og, .agg #[.bool c, .slice a1 n1 c1, .slice a2 n2 c2], .agg #[.bool d, .slice b1 m1 d1, .slice b2 m2 d2]] w fun e w' => e = .returned (.bool true) ∧ Below w.heap.size w w' := by
  go_enter Tryz.func6, Tryz.ntmps6
  go_wp2_with fail
  refine (szArray_big _ _ _ _ _ _ _ _ _ (by omega) (by omega) (by omega) (by omega) (by omega)).mono ?_
  rintro e w1 ⟨rfl, hb1⟩
  have hK1 := hb1.mono (B' := w.heap.size + 2) (by simp)
  obtain ⟨hB1, hz1, hc1⟩ := box2 hK1
  go_wp2
  go_ret
  exact ⟨rfl, hB1⟩

set_option maxHeartbeats 400000 in
theorem law_big2 (op : Int) (og : Int) (c d : Bool) (a1 a2 b1 b2 : Option Addr) (n1 n2 m1 m2 c1 c2 d1 d2 : Nat) (w : World) (h1 : m1 ≤ 9223372036854775807) (h2 : m2 ≤ 9223372036854775807)
    (hA : (n1 : Int) + n2 ≤ 1048576) (hB : 1048576 - (n1 : Int) - n2 < m1 + m2) :
    Calls Tryz.prog 6 #[.int .i64 op, .int .i64 og, .agg #[.bool c, .slice a1 n1 c1, .slice a2 n2 c2], .agg #[.bool d, .slice b1 m1 d1, .slice b2 m2 d2]] w fun e w' => e = .returned (.bool true) ∧ Below w.heap.size w w' := by
  go_enter Tryz.func6, Tryz.ntmps6
  go_wp2_with fail
  refine (szArray_ok _ _ _ _ _ _ _ _ _ (by omega) (by omega)).mono ?_
  rintro e w1 ⟨rfl, hb1⟩
  have hK1 := hb1.mono (B' := w.heap.size + 2) (by simp)
  obtain ⟨hB1, hz1, hc1⟩ := box2 hK1
  go_wp2_with fail
  refine (szArray_big _ _ _ _ _ _ _ _ _ (by omega) (by omega) (by omega) (by omega) (by omega)).mono ?_
  rintro e w2 ⟨rfl, hb2⟩
  have hK2 := hB1.trans (hb2.mono (by omega))
  go_wp2
  go_ret
  exact ⟨rfl, hK2⟩

theorem law_walk (F : Int → Int → Bool → Bool → List Int → List Int → List Int → List Int → Ans) (hspec : Spec F) (himp : Impl F) (op : Int) (og : Int) (c d : Bool) (a1 a2 b1 b2 : Option Addr) (n1 n2 m1 m2 c1 c2 d1 d2 : Nat) (sh dt sh' dt' : List Int) (w : World) (h1 : Raw w a1 n1 sh) (h2 : Raw w a2 n2 dt) (k1 : Raw w b1 m1 sh') (k2 : Raw w b2 m2 dt') (ga gb : Addr) (hG : GlF w ga gb) :
    Calls Tryz.prog 6 #[.int .i64 op, .int .i64 og, .agg #[.bool c, .slice a1 n1 c1, .slice a2 n2 c2], .agg #[.bool d, .slice b1 m1 d1, .slice b2 m2 d2]] w fun e w' => e = .returned (.bool true) ∧ Below w.heap.size w w' := by
  by_cases hA : (1048576 : Int) < n1 + n2
  · exact law_big1 op og c d a1 a2 b1 b2 n1 n2 m1 m2 c1 c2 d1 d2  w h1.max h2.max hA
  · by_cases hB : 1048576 - (n1 : Int) - n2 < m1 + m2
    · exact law_big2 op og c d a1 a2 b1 b2 n1 n2 m1 m2 c1 c2 d1 d2  w k1.max k2.max (by omega) hB
    · exact law_small F hspec himp op og c d a1 a2 b1 b2 n1 n2 m1 m2 c1 c2 d1 d2 sh dt sh' dt'  w (h1.row (by omega)) (h2.row (by omega)) (k1.row (by omega)) (k2.row (by omega)) ga gb hG (by omega) (by omega)

end LawInner
end Go.Proofs.YtkgcmpmgaghdhaaGreatDoor
