import Derived.Test.YtgjpchnkodnieaaGreatDoorMFit0
import Derived.Test.YtgjpchnkodnieaaGreatDoorMFit0
namespace Go.Proofs.YtgjpchnkodnieaaGreatDoor
open Go.RowKit
namespace LawMonad

def Spec (F : Int → Bool → List Int → List Int → Ans) : Prop := ∀ (op : Int) (c : Bool) (a1 a2 : Addr) (n1 n2 c1 c2 : Nat) (sh dt : List Int) (w : World) (_ : Row w (some a1) n1 sh) (_ : Row w (some a2) n2 dt) (_ : n1 ≤ c1) (_ : n2 ≤ c2),
    Calls Tryz.prog 20 #[.int .i64 op, .agg #[.bool c, .slice (some a1) n1 c1, .slice (some a2) n2 c2]] w fun e w' => ∃ b1 m1 d1 b2 m2 d2, e = .returned (.tuple #[.agg #[.bool (F op c sh dt).c, .slice b1 m1 d1, .slice b2 m2 d2], .int .i64 (F op c sh dt).code]) ∧ Row w' b1 m1 (F op c sh dt).sh ∧ Row w' b2 m2 (F op c sh dt).dt ∧ Below w.heap.size w w'

def Impl (F : Int → Bool → List Int → List Int → Ans) : Prop := ∀ (op : Int) (c : Bool) (a1 a2 : Addr) (n1 n2 c1 c2 : Nat) (sh dt : List Int) (w : World) (_ : Row w (some a1) n1 sh) (_ : Row w (some a2) n2 dt) (_ : n1 ≤ c1) (_ : n2 ≤ c2) (ga gb : Addr) (_ : Gl w ga gb),
    Calls Tryz.prog 11 #[.int .i64 op, .agg #[.bool c, .slice (some a1) n1 c1, .slice (some a2) n2 c2]] w fun e w' => ∃ b1 m1 d1 b2 m2 d2, e = .returned (.tuple #[.agg #[.bool (F op c sh dt).c, .slice b1 m1 d1, .slice b2 m2 d2], .int .i64 (F op c sh dt).code]) ∧ Own w' w.heap.size b1 m1 (F op c sh dt).sh ∧ Own w' w.heap.size b2 m2 (F op c sh dt).dt ∧ Apart b1 m1 b2 m2 ∧ Below w.heap.size w w'

set_option maxRecDepth 20000 in
set_option maxHeartbeats 4000000 in
theorem law_small (F : Int → Bool → List Int → List Int → Ans) (hspec : Spec F) (himp : Impl F) (op : Int) (c : Bool) (a1 a2 : Option Addr) (n1 n2 c1 c2 : Nat) (sh dt : List Int) (w : World) (h1 : Row w a1 n1 sh) (h2 : Row w a2 n2 dt) (ga gb : Addr) (hG : Gl w ga gb) (hA : (n1 : Int) + n2 ≤ 1048576) :
    Calls Tryz.prog 4 #[.int .i64 op, .agg #[.bool c, .slice a1 n1 c1, .slice a2 n2 c2]] w fun e w' => e = .returned (.bool true) ∧ Below w.heap.size w w' := by
  have HG := hide hG
  clear hG
  have H1 := hide h1
  have H2 := hide h2
  clear h1 h2
  have HS := hide (hspec op c)
  have HI := hide (himp op c)
  clear hspec himp
  go_enter Tryz.func4, Tryz.ntmps4
  go_wp2_with fail
  refine (szArray_ok _ _ _ _ _ _ _ _ _ (by omega) (by omega)).mono ?_
  rintro e w1 ⟨rfl, hb1⟩
  have hK1 := hide (hb1.mono (B' := w.heap.size + 1) (by simp))
  obtain ⟨hB1, hz1, hc1⟩ := box1 (unhide hK1)
  clear hb1
  go_wp2_with fail
  refine (toArray_any _ _ _ _ _ _ _ sh dt _ (by exact (unhide H1).below (Nat.le_refl _) hB1) (by exact (unhide H2).below (Nat.le_refl _) hB1)).mono ?_
  rintro e w2 ⟨g1, g2, rfl, hg, hlt, hX1, hX2, hb2⟩
  have hK2 := hide ((unhide hK1).trans (hb2.mono (by omega)))
  obtain ⟨hB2, hz2, hc2⟩ := box1 (unhide hK2)
  clear hb2 hK1 hB1 hz1 hc1 hg w1
  go_wp2_with fail
  refine (unhide HS _ _ _ _ _ _ sh dt  _ (by exact hX1.row (unhide H1).len (unhide H1).small) (by exact hX2.row (unhide H2).len (unhide H2).small) (Nat.le_refl _) (Nat.le_refl _)).mono ?_
  rintro e w3 ⟨b1, m1, d1, b2, m2, d2, rfl, hR1, hR2, hb3⟩
  have hK3 := hide ((unhide hK2).trans (hb3.mono (by omega)))
  obtain ⟨hB3, hz3, hc3⟩ := box1 (unhide hK3)
  have hz3' : w.heap.size < w3.heap.size := by omega
  clear hb3 hK2 hB2 hz2 hc2 hlt hX1 hX2 w2
  have hF : F op c sh dt = F op c sh dt := rfl
  generalize hr : F op c sh dt = r at *
  obtain ⟨rc, rsh, rdt, rcode⟩ := r
  have HR := hide hr
  clear hF hr
  simp only at hR1 hR2
  have HR1 := hide hR1
  have HR2 := hide hR2
  clear hR1 hR2
  go_wp2_with fail
  refine (toArray_any _ _ _ _ _ _ _ sh dt _ (by exact ((unhide H1).below (Nat.le_refl _) hB3).alloc _) (by exact ((unhide H2).below (Nat.le_refl _) hB3).alloc _)).mono ?_
  rintro e w4 ⟨g3, g4, rfl, hg, hlt, hX1, hX2, hb4⟩
  have hK4 := hide (((unhide hK3).alloc hz3 _).trans (hb4.mono (by simp; omega)))
  have B6 : Hid (Box w4 w3.heap.size rc (.slice b1 m1 d1) (.slice b2 m2 d2)) := (Box.new w3 _ _ _).below (Nat.le_refl _) hb4
  have HQ1 : Hid (Row w4 b1 m1 rsh) := ((unhide HR1).alloc _).below (Nat.le_refl _) hb4
  have HQ2 : Hid (Row w4 b2 m2 rdt) := ((unhide HR2).alloc _).below (Nat.le_refl _) hb4
  have HL1 : Hid (∀ k, At b1 m1 k → k < g3) := fun k hk => by have := (unhide HR1).hi hk; simp at hg; omega
  have HL2 : Hid (∀ k, At b2 m2 k → k < g3) := fun k hk => by have := (unhide HR2).hi hk; simp at hg; omega
  obtain ⟨hB4, hz4, hc4⟩ := box1 (unhide hK4)
  have hz4' : w.heap.size < w4.heap.size := by omega
  have hg3 : w3.heap.size < g3 := by simp at hg; omega
  have hp6l : w.heap.size + 1 ≤ w3.heap.size := hz3
  clear hb4 hK3 hB3 hz3 hc3 hz3' hg HR1 HR2
  generalize w3.heap.size = p6 at *
  clear w3
  have hg4 : g4 < w4.heap.size := hX2.lt
  go_wp2_with fail
  refine (unhide HI _ _ _ _ _ _ sh dt  _ (by exact (hX1.alloc _).row (unhide H1).len (unhide H1).small) (by exact (hX2.alloc _).row (unhide H2).len (unhide H2).small) (Nat.le_refl _) (Nat.le_refl _) ga gb (by exact ((unhide HG).below hB4).alloc _)).mono ?_
  rintro e w5 ⟨e1, k1, f1, e2, k2, f2, rfl, hO1, hO2, hap, hb5⟩
  have hK5 := hide (((unhide hK4).alloc hz4 _).trans (hb5.mono (by simp; omega)))
  have HR' := unhide HR
  rw [HR'] at hO1 hO2 ⊢
  simp only at hO1 hO2 ⊢
  clear HR'
  have HX1 := hide ((hX1.alloc _).below (Nat.le_refl _) hb5)
  have HX2 := hide ((hX2.alloc _).below (Nat.le_refl _) hb5)
  have B6' := hide (((unhide B6).alloc _).below (Nat.le_refl _) hb5)
  have B8 : Hid (Box w5 w4.heap.size c (.slice (some ⟨g3, 0, none⟩) n1 n1) (.slice (some ⟨g4, 0, none⟩) n2 n2)) := (Box.new w4 _ _ _).below (Nat.le_refl _) hb5
  have HT1 := hide (((unhide HQ1).alloc _).below (Nat.le_refl _) hb5)
  have HT2 := hide (((unhide HQ2).alloc _).below (Nat.le_refl _) hb5)
  have hO1' : Own w5 (w4.heap.size + 1) e1 k1 rsh := by simpa using hO1
  have hO2' : Own w5 (w4.heap.size + 1) e2 k2 rdt := by simpa using hO2
  have HO1 := hide hO1'
  have HO2 := hide hO2'
  have HAP := hide hap
  have HU1 : Hid (∀ k, At e1 k1 k → k < w5.heap.size) := fun k hk => hO1'.row.hi hk
  have HU2 : Hid (∀ k, At e2 k2 k → k < w5.heap.size) := fun k hk => hO2'.row.hi hk
  obtain ⟨hB5, hz5, hc5⟩ := box1 (unhide hK5)
  have hz5' : w.heap.size < w5.heap.size := by omega
  have hp8 : w4.heap.size < w5.heap.size := (unhide B8).lt
  have hp6 : p6 < w5.heap.size := (unhide B6').lt
  obtain ⟨x60, x61, x62⟩ := (unhide B6').cells
  clear hb5 hK4 hB4 hz4 hc4 hz4' hX1 hX2 B6 HQ1 HQ2 hO1 hO2 hO1' hO2' hap
  generalize w4.heap.size = p8 at *
  clear w4
  go_wp2_with fail
  refine (eqArray_refl _ _ _ _ _ _ _ _ _ _ _ _ _ rsh rdt _ (by exact ((unhide HO1).alloc _).row) (by exact ((unhide HO2).alloc _).row) (by exact (unhide HT1).alloc _) (by exact (unhide HT2).alloc _)).mono ?_
  rintro e w6 ⟨rfl, hb6⟩
  have hK6 := hide (((unhide hK5).alloc hz5 _).trans (hb6.mono (by simp; omega)))
  have HX1a := hide (((unhide HX1).alloc _).below (Nat.le_refl _) hb6)
  have HX2a := hide (((unhide HX2).alloc _).below (Nat.le_refl _) hb6)
  have B6a := hide (((unhide B6').alloc _).below (Nat.le_refl _) hb6)
  have B8a := hide (((unhide B8).alloc _).below (Nat.le_refl _) hb6)
  have B9a : Hid (Box w6 w5.heap.size rc (.slice e1 k1 f1) (.slice e2 k2 f2)) := (Box.new w5 _ _ _).below (Nat.le_refl _) hb6
  have HT1a := hide (((unhide HT1).alloc _).below (Nat.le_refl _) hb6)
  have HT2a := hide (((unhide HT2).alloc _).below (Nat.le_refl _) hb6)
  have HO1a := hide (((unhide HO1).alloc _).below (Nat.le_refl _) hb6)
  have HO2a := hide (((unhide HO2).alloc _).below (Nat.le_refl _) hb6)
  obtain ⟨hB6, hz6, hc6⟩ := box1 (unhide hK6)
  have hz6' : w.heap.size < w6.heap.size := by omega
  have hp8' : p8 < w6.heap.size := (unhide B8a).lt
  obtain ⟨x80, x81, x82⟩ := (unhide B8a).cells
  clear hb6 hK5 hB5 hz5 hc5 hz5' hp6 x60 x61 x62 B6' B8 HX1 HX2 HT1 HT2 HO1 HO2
  generalize w5.heap.size = p9 at *
  clear w5
  have hcc : (rcode != rcode) = false := by simp
  go_wp2_with fail
  go_cut [49] (fun r wr => r = .bool false ∧ Below w6.heap.size w6 wr)
  case first =>
    go_region_with (first
      | (go_at_call 21; refine (toArray_any _ _ _ _ _ _ _ sh dt _ (by exact (unhide H1).below (Nat.le_refl _) hB6.drew) (by exact (unhide H2).below (Nat.le_refl _) hB6.drew)).mono ?_; rintro e w7 ⟨g5, g6, rfl, hg, hlt, hZ1, hZ2, hb7⟩; obtain ⟨hc7, hf7⟩ := bcell hb7; clear hf7; simp at hc7)
      | (go_at_call 13; refine (eqArray_refl _ _ _ _ _ _ _ _ _ _ _ _ _ sh dt _ (by exact ((unhide HX1a).drew.below (Nat.le_refl _) hb7).row (unhide H1).len (unhide H1).small) (by exact ((unhide HX2a).drew.below (Nat.le_refl _) hb7).row (unhide H2).len (unhide H2).small) (by exact hZ1.row (unhide H1).len (unhide H1).small) (by exact hZ2.row (unhide H2).len (unhide H2).small)).mono ?_; rintro e w8 ⟨rfl, hb8⟩))
    all_goals go_wp2_with fail
    all_goals (go_meet; case rel => exact ⟨rfl, ((Below.refl _ _).drew.trans hb7).trans (hb8.mono hb7.size)⟩)
  case rest =>
    obtain ⟨rfl, hbc⟩ := hcut
    have hK7 := hide ((unhide hK6).trans (hbc.mono hz6))
    have HX1b := hide ((unhide HX1a).below (Nat.le_refl _) hbc)
    have HX2b := hide ((unhide HX2a).below (Nat.le_refl _) hbc)
    have B6b := hide ((unhide B6a).below (Nat.le_refl _) hbc)
    have B8b := hide ((unhide B8a).below (Nat.le_refl _) hbc)
    have B9b := hide ((unhide B9a).below (Nat.le_refl _) hbc)
    have HT1b := hide ((unhide HT1a).below (Nat.le_refl _) hbc)
    have HT2b := hide ((unhide HT2a).below (Nat.le_refl _) hbc)
    have HO1b := hide ((unhide HO1a).below (Nat.le_refl _) hbc)
    have HO2b := hide ((unhide HO2a).below (Nat.le_refl _) hbc)
    clear hbc hK6 hB6 hz6 hc6 hz6' hp8' x80 x81 x82 HX1a HX2a B6a B8a B9a HT1a HT2a HO1a HO2a w6
    obtain ⟨x80, x81, x82⟩ := (unhide B8b).cells
    have hp8' : p8 < wc.heap.size := (unhide B8b).lt
    go_wp2_with fail
    refine (markArray_any _ _ _ _ _ _ _ g3 sh dt _ _ (by exact (unhide HX1b).own (unhide H1).len (unhide H1).small (Nat.le_refl _)) (by exact (unhide HX2b).own (unhide H2).len (unhide H2).small (by omega)) (fun k h h' => by have := at_eq h; have := at_eq h'; omega) (by omega) (by omega)).mono ?_
    rintro e w7 ⟨rfl, hM1, hM2, hbut⟩
    clear hM1 hM2
    have hS : ∀ k, (At (some ⟨g3, 0, none⟩) n1 k ∨ At (some ⟨g4, 0, none⟩) n2 k) → g3 ≤ k ∧ k < p8 := fun k hk => by rcases hk with hk | hk <;> have := at_eq hk <;> omega
    have hK8 := hide ((unhide hK7).trans (hbut.below (by omega) (fun k hk => by have := hS k hk; omega)))
    have B6c := hide ((unhide B6b).but hbut (fun hk => by have := hS _ hk; omega))
    have B9c := hide ((unhide B9b).but hbut (fun hk => by have := hS _ hk; omega))
    have HT1c := hide (hbut.row (unhide HT1b) (fun k hk hk' => by have := hS k hk; have := unhide HL1 k hk'; omega))
    have HT2c := hide (hbut.row (unhide HT2b) (fun k hk hk' => by have := hS k hk; have := unhide HL2 k hk'; omega))
    have HO1c := hide (hbut.own (unhide HO1b) (fun k hk hk' => by have := hS k hk; have := (unhide HO1b).low hk'; omega))
    have HO2c := hide (hbut.own (unhide HO2b) (fun k hk hk' => by have := hS k hk; have := (unhide HO2b).low hk'; omega))
    clear hbut hS hK7 HX1b HX2b B6b B8b B9b HT1b HT2b HO1b HO2b hp8' x80 x81 x82 wc
    obtain ⟨x60, x61, x62⟩ := (unhide B6c).cells
    obtain ⟨x90, x91, x92⟩ := (unhide B9c).cells
    have hp6' : p6 < w7.heap.size := (unhide B6c).lt
    have hp9' : p9 < w7.heap.size := (unhide B9c).lt
    go_wp2_with fail
    refine (eqArray_refl _ _ _ _ _ _ _ _ _ _ _ _ _ rsh rdt _ (by exact (unhide HO1c).row) (by exact (unhide HO2c).row) (by exact unhide HT1c) (by exact unhide HT2c)).mono ?_
    rintro e w8 ⟨rfl, hb8⟩
    have hz7 : w.heap.size + 1 ≤ w7.heap.size := by omega
    have hK9 := hide ((unhide hK8).trans (hb8.mono hz7))
    have B6d := hide ((unhide B6c).below (Nat.le_refl _) hb8)
    have B9d := hide ((unhide B9c).below (Nat.le_refl _) hb8)
    have HT1d := hide ((unhide HT1c).below (Nat.le_refl _) hb8)
    have HT2d := hide ((unhide HT2c).below (Nat.le_refl _) hb8)
    have HO1d := hide ((unhide HO1c).below (Nat.le_refl _) hb8)
    have HO2d := hide ((unhide HO2c).below (Nat.le_refl _) hb8)
    clear hb8 hK8 B6c B9c HT1c HT2c HO1c HO2c x60 x61 x62 x90 x91 x92 hp6' hp9' hz7 w7
    obtain ⟨x90, x91, x92⟩ := (unhide B9d).cells
    have hp9' : p9 < w8.heap.size := (unhide B9d).lt
    go_wp2_with fail
    refine (markArray_any _ _ _ _ _ _ _ (p8 + 1) rsh rdt _ _ (by exact unhide HO1d) (by exact unhide HO2d) (unhide HAP) (by omega) (by omega)).mono ?_
    rintro e w9 ⟨rfl, hM1, hM2, hbut⟩
    have hS : ∀ k, (At e1 k1 k ∨ At e2 k2 k) → p8 + 1 ≤ k ∧ k < p9 := fun k hk => by rcases hk with hk | hk; exact ⟨(unhide HO1d).low hk, unhide HU1 k hk⟩; exact ⟨(unhide HO2d).low hk, unhide HU2 k hk⟩
    have hKa := hide ((unhide hK9).trans (hbut.below (by omega) (fun k hk => by have := hS k hk; omega)))
    have B6e := hide ((unhide B6d).but hbut (fun hk => by have := hS _ hk; omega))
    have B9e := hide ((unhide B9d).but hbut (fun hk => by have := hS _ hk; omega))
    have HT1e := hide (hbut.row (unhide HT1d) (fun k hk hk' => by have := hS k hk; have := unhide HL1 k hk'; omega))
    have HT2e := hide (hbut.row (unhide HT2d) (fun k hk hk' => by have := hS k hk; have := unhide HL2 k hk'; omega))
    have HM1 := hide hM1.row
    have HM2 := hide hM2.row
    have hkk : k1 = rsh.length ∧ k2 = rdt.length := ⟨(unhide HO1d).len.symm, (unhide HO2d).len.symm⟩
    have hks : k1 ≤ 17592186044416 ∧ k2 ≤ 17592186044416 := ⟨(unhide HO1d).small, (unhide HO2d).small⟩
    obtain ⟨hks1, hks2⟩ := hks
    clear hbut hS hK9 B6d B9d HT1d HT2d HO1d HO2d x90 x91 x92 hp9' hM1 hM2 hkk w8
    obtain ⟨x90, x91, x92⟩ := (unhide B9e).cells
    have hp9' : p9 < w9.heap.size := (unhide B9e).lt
    go_wp2_with fail
    refine (heldArray_marks _ _ _ _ _ _ _ _ _ (by exact unhide HM1) (by exact unhide HM2) (by omega) (by omega)).mono ?_
    rintro e wa ⟨rfl, hba⟩
    have hz9 : w.heap.size + 1 ≤ w9.heap.size := by omega
    have hKb := hide ((unhide hKa).trans (hba.mono hz9))
    have B6f := hide ((unhide B6e).below (Nat.le_refl _) hba)
    have HT1f := hide ((unhide HT1e).below (Nat.le_refl _) hba)
    have HT2f := hide ((unhide HT2e).below (Nat.le_refl _) hba)
    clear hba hKa B6e B9e HT1e HT2e HM1 HM2 x90 x91 x92 hp9' hz9 w9
    obtain ⟨hBb, hzb, hcb⟩ := box1 (unhide hKb)
    have hzb' : w.heap.size < wa.heap.size := by omega
    have hq0 : ¬ ((1 : Int) + k1 + k2 < 0) := by omega
    go_wp2_with fail
    refine (toArray_any _ _ _ _ _ _ _ sh dt _ (by exact (unhide H1).below (Nat.le_refl _) hBb) (by exact (unhide H2).below (Nat.le_refl _) hBb)).mono ?_
    rintro e wb ⟨g5, g6, rfl, hg, hlt2, hX1, hX2, hbb⟩
    clear hg hlt2
    have hKc := hide ((unhide hKb).trans (hbb.mono hzb))
    have B6g := hide ((unhide B6f).below (Nat.le_refl _) hbb)
    have HT1g := hide ((unhide HT1f).below (Nat.le_refl _) hbb)
    have HT2g := hide ((unhide HT2f).below (Nat.le_refl _) hbb)
    clear hbb hKb B6f HT1f HT2f hBb hzb hcb hzb' wa
    go_wp2_with fail
    refine (unhide HI _ _ _ _ _ _ sh dt  _ (by exact hX1.row (unhide H1).len (unhide H1).small) (by exact hX2.row (unhide H2).len (unhide H2).small) (Nat.le_refl _) (Nat.le_refl _) ga gb (by exact (unhide HG).below (box1 (unhide hKc)).1)).mono ?_
    rintro e wd ⟨i1, j1, l1, i2, j2, l2, rfl, hO1, hO2, hap, hbd⟩
    clear hap
    have HR' := unhide HR
    rw [HR'] at hO1 hO2 ⊢
    simp only at hO1 hO2 ⊢
    clear HR'
    obtain ⟨hBb, hzb, hcb⟩ := box1 (unhide hKc)
    have hKd := hide (hBb.trans (hbd.mono (by omega)))
    have B6h := hide ((unhide B6g).below (Nat.le_refl _) hbd)
    have HT1h := hide ((unhide HT1g).below (Nat.le_refl _) hbd)
    have HT2h := hide ((unhide HT2g).below (Nat.le_refl _) hbd)
    have HO1 := hide hO1.row
    have HO2 := hide hO2.row
    have hsz : w.heap.size ≤ wd.heap.size := (unhide hKd).size
    clear hbd hKc B6g HT1g HT2g hO1 hO2 hBb hzb hcb hX1 hX2 wb
    obtain ⟨x60, x61, x62⟩ := (unhide B6h).cells
    have hp6' : p6 < wd.heap.size := (unhide B6h).lt
    go_wp2_with fail
    refine (eqArray_refl _ _ _ _ _ _ _ _ _ _ _ _ _ rsh rdt _ (by exact (unhide HO1).alloc _) (by exact (unhide HO2).alloc _) (by exact (unhide HT1h).alloc _) (by exact (unhide HT2h).alloc _)).mono ?_
    rintro e we ⟨rfl, hbe⟩
    have hKe := hide (((unhide hKd).alloc hsz _).trans (hbe.mono (by simp; omega)))
    clear hbe hKd B6h HT1h HT2h HO1 HO2 x60 x61 x62 hp6' hsz
    go_wp2
    go_ret
    exact ⟨rfl, unhide hKe⟩

set_option maxHeartbeats 400000 in
theorem law_big (op : Int) (c : Bool) (a1 a2 : Option Addr) (n1 n2 c1 c2 : Nat) (w : World) (h1 : n1 ≤ 9223372036854775807) (h2 : n2 ≤ 9223372036854775807) (hA : (1048576 : Int) < n1 + n2) :
    Calls Tryz.prog 4 #[.int .i64 op, .agg #[.bool c, .slice a1 n1 c1, .slice a2 n2 c2]] w fun e w' => e = .returned (.bool true) ∧ Below w.heap.size w w' := by
  go_enter Tryz.func4, Tryz.ntmps4
  go_wp2_with fail
  refine (szArray_big _ _ _ _ _ _ _ _ _ (by omega) (by omega) (by omega) (by omega) (by omega)).mono ?_
  rintro e w1 ⟨rfl, hb1⟩
  have hK1 := hb1.mono (B' := w.heap.size + 1) (by simp)
  obtain ⟨hB1, hz1, hc1⟩ := box1 hK1
  go_wp2
  go_ret
  exact ⟨rfl, hB1⟩

theorem law_walk (F : Int → Bool → List Int → List Int → Ans) (hspec : Spec F) (himp : Impl F) (op : Int) (c : Bool) (a1 a2 : Option Addr) (n1 n2 c1 c2 : Nat) (sh dt : List Int) (w : World) (h1 : Raw w a1 n1 sh) (h2 : Raw w a2 n2 dt) (ga gb : Addr) (hG : Gl w ga gb) :
    Calls Tryz.prog 4 #[.int .i64 op, .agg #[.bool c, .slice a1 n1 c1, .slice a2 n2 c2]] w fun e w' => e = .returned (.bool true) ∧ Below w.heap.size w w' := by
  by_cases hA : (1048576 : Int) < n1 + n2
  · exact law_big op c a1 a2 n1 n2 c1 c2  w h1.max h2.max hA
  · exact law_small F hspec himp op c a1 a2 n1 n2 c1 c2 sh dt  w (h1.row (by omega)) (h2.row (by omega)) ga gb hG (by omega)

end LawMonad
end Go.Proofs.YtgjpchnkodnieaaGreatDoor
