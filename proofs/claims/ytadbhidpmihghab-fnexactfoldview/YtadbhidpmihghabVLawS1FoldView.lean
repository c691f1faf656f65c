import Derived.Test.YtadbhidpmihghabVBoxes
import Derived.Test.YtadbhidpmihghabVMarks
import Derived.Test.YtadbhidpmihghabVLawBase
import Derived.Test.YtadbhidpmihghabVAnsMath
namespace Go.Proofs.Ytadbhidpmihghab
open Go.RowKit
namespace LawFoldView

def Spec (F : Int → List Int → List Int → List Int → VAns) : Prop := ∀ (c : Int) (a1 a2 : Addr) (n1 n2 c1 c2 : Nat) (sh dt : List Int) (s0 : Addr) (u0 v0 : Nat) (zs0 : List Int) (w : World) (_ : Row w (some a1) n1 sh) (_ : Row w (some a2) n2 dt) (_ : Row w (some s0) u0 zs0) (_ : n1 ≤ c1) (_ : n2 ≤ c2) (_ : u0 ≤ v0) (_ : ∀ k, -9223372036854775808 ≤ zs0.getD k 0 ∧ zs0.getD k 0 ≤ 9223372036854775807),
    Calls Try.prog 18 #[.agg #[.int .i64 c, .slice (some a1) n1 c1, .slice (some a2) n2 c2], .slice (some s0) u0 v0] w fun e w' => ∃ b1 m1 d1 b2 m2 d2, e = .returned (.tuple #[.agg #[.int .i64 (F c sh dt zs0).c, .slice b1 m1 d1, .slice b2 m2 d2], .bool (F c sh dt zs0).code]) ∧ Row w' b1 m1 (F c sh dt zs0).sh ∧ Row w' b2 m2 (F c sh dt zs0).dt ∧ Below w.heap.size w w'

def Impl (F : Int → List Int → List Int → List Int → VAns) : Prop := ∀ (c : Int) (a1 a2 : Addr) (n1 n2 c1 c2 : Nat) (sh dt : List Int) (s0 : Addr) (u0 v0 : Nat) (zs0 : List Int) (w : World) (_ : Row w (some a1) n1 sh) (_ : Row w (some a2) n2 dt) (_ : Row w (some s0) u0 zs0) (_ : n1 ≤ c1) (_ : n2 ≤ c2) (_ : u0 ≤ v0) (_ : ∀ k, -9223372036854775808 ≤ zs0.getD k 0 ∧ zs0.getD k 0 ≤ 9223372036854775807),
    Calls Try.prog 19 #[.agg #[.int .i64 c, .slice (some a1) n1 c1, .slice (some a2) n2 c2], .slice (some s0) u0 v0] w fun e w' => ∃ b1 m1 d1 b2 m2 d2, e = .returned (.tuple #[.agg #[.int .i64 (F c sh dt zs0).c, .slice b1 m1 d1, .slice b2 m2 d2], .bool (F c sh dt zs0).code]) ∧ Own w' w.heap.size b1 m1 (F c sh dt zs0).sh ∧ Own w' w.heap.size b2 m2 (F c sh dt zs0).dt ∧ Apart b1 m1 b2 m2 ∧ Below w.heap.size w w'

theorem eqIntS_refl (a b : Option Addr) (n m ca cb : Nat) (xs : List Int) (w : World) (hx : Row w a n xs) (hy : Row w b m xs) :
    Calls Try.prog 12 #[.slice a n ca, .slice b m cb] w fun e w' => e = .returned (.bool true) ∧ Below w.heap.size w w' :=
  (eqIntS_any a b n m ca cb xs xs w hx hy).mono (by rintro e w' ⟨rfl, q, rfl⟩; exact ⟨by simp, Below.drewN (Below.refl _ _) q⟩)

set_option maxRecDepth 20000 in
set_option maxHeartbeats 8000000 in
theorem law_small (F : Int → List Int → List Int → List Int → VAns) (hspec : Spec F) (himp : Impl F) (c : Int) (a1 a2 : Option Addr) (n1 n2 c1 c2 : Nat) (sh dt : List Int) (s0 : Option Addr) (u0 v0 : Nat) (zs0 : List Int) (w : World) (h1 : Row w a1 n1 sh) (h2 : Row w a2 n2 dt) (z0 : Row w s0 u0 zs0) (hA : (n1 : Int) + n2 ≤ 1048576) (hL0 : u0 ≤ 1048576) (hW0 : ∀ k, -9223372036854775808 ≤ zs0.getD k 0 ∧ zs0.getD k 0 ≤ 9223372036854775807) :
    Calls Try.prog 5 #[.agg #[.int .i64 c, .slice a1 n1 c1, .slice a2 n2 c2], .slice s0 u0 v0] w fun e w' => e = .returned (.bool true) ∧ Below w.heap.size w w' := by
  have H1 := hide h1
  have H2 := hide h2
  have HZ0 := hide z0
  have HW0 := hide hW0
  clear hW0
  clear h1 h2 z0
  have HS := hide (hspec c)
  have HI := hide (himp c)
  clear hspec himp
  have hq0 : ¬ (1048576 : Int) < (u0 : Int) := by omega
  go_enter Try.func5, Try.ntmps5
  go_wp2_with fail
  refine (szView_ok _ _ _ _ _ _ _ _ _ (by omega) (by omega)).mono ?_
  rintro e w1 ⟨rfl, hb1⟩
  have hK1 := hide (hb1.mono (B' := w.heap.size + 1) (by simp))
  obtain ⟨hB1, hz1, hc1⟩ := box1 (unhide hK1)
  clear hb1
  go_wp2_with fail
  refine (toView_any _ _ _ _ _ _ _ sh dt _ (by exact (unhide H1).below (Nat.le_refl _) hB1) (by exact (unhide H2).below (Nat.le_refl _) hB1)).mono ?_
  rintro e w2 ⟨g1, g2, rfl, hg, hlt, hX1, hX2, hb2⟩
  have hK2 := hide ((unhide hK1).trans (hb2.mono (by omega)))
  obtain ⟨hB2, hz2, hc2⟩ := box1 (unhide hK2)
  have X1 := hide hX1
  have X2 := hide hX2
  clear hb2 hK1 hB1 hz1 hc1 hg hlt hX1 hX2 w1
  go_wp2_with fail
  refine (toIntS_any _ _ _ zs0 _ (by exact (unhide HZ0).below (Nat.le_refl _) hB2)).mono ?_
  rintro e w2a ⟨y0, rfl, hg, hY, hb⟩
  have hK2a := hide ((unhide hK2).trans (hb.mono (by omega)))
  obtain ⟨hB2a, hz2a, hc2a⟩ := box1 (unhide hK2a)
  have X1_2a := hide ((unhide X1).below (Nat.le_refl _) hb)
  have X2_2a := hide ((unhide X2).below (Nat.le_refl _) hb)
  have Y0_2a := hide hY
  clear hb hg hY hK2 hB2 hz2 hc2 X1 X2
  clear w2
  go_wp2_with fail
  refine (unhide HS _ _ _ _ _ _ sh dt _ _ _ zs0 _ (by exact (unhide X1_2a).row (unhide H1).len (unhide H1).small) (by exact (unhide X2_2a).row (unhide H2).len (unhide H2).small) (by exact (unhide Y0_2a).row (unhide HZ0).len (unhide HZ0).small) (Nat.le_refl _) (Nat.le_refl _) (Nat.le_refl _) HW0.out).mono ?_
  rintro e w3 ⟨b1, m1, d1, b2, m2, d2, rfl, hR1, hR2, hb3⟩
  have hK3 := hide ((unhide hK2a).trans (hb3.mono (by omega)))
  obtain ⟨hB3, hz3, hc3⟩ := box1 (unhide hK3)
  have hz3' : w.heap.size < w3.heap.size := by omega
  clear hb3 hK2a hB2a hz2a hc2a X1_2a X2_2a Y0_2a w2a
  generalize hr : F c sh dt zs0 = r at *
  obtain ⟨rc, rsh, rdt, rcode⟩ := r
  have HR := hide hr
  clear hr
  simp only at hR1 hR2
  have HR1 := hide hR1
  have HR2 := hide hR2
  clear hR1 hR2
  go_wp2_with fail
  refine (toView_any _ _ _ _ _ _ _ sh dt _ (by exact ((unhide H1).below (Nat.le_refl _) hB3).alloc _) (by exact ((unhide H2).below (Nat.le_refl _) hB3).alloc _)).mono ?_
  rintro e w4 ⟨g3, g4, rfl, hg, hlt, hX1, hX2, hb4⟩
  have hK4 := hide (((unhide hK3).alloc hz3 _).trans (hb4.mono (by simp; omega)))
  have B6 : Hid (VBox w4 w3.heap.size rc (.slice b1 m1 d1) (.slice b2 m2 d2)) := (VBox.new w3 _ _ _).below (Nat.le_refl _) hb4
  have T1 : Hid (Row w4 b1 m1 rsh) := ((unhide HR1).alloc _).below (Nat.le_refl _) hb4
  have T2 : Hid (Row w4 b2 m2 rdt) := ((unhide HR2).alloc _).below (Nat.le_refl _) hb4
  have HL1 : Hid (∀ k, At b1 m1 k → k < g3) := fun k hk => by have := (unhide HR1).hi hk; simp at hg; omega
  have HL2 : Hid (∀ k, At b2 m2 k → k < g3) := fun k hk => by have := (unhide HR2).hi hk; simp at hg; omega
  obtain ⟨hB4, hz4, hc4⟩ := box1 (unhide hK4)
  have hz4' : w.heap.size < w4.heap.size := by omega
  have hg3 : w3.heap.size < g3 := by simp at hg; omega
  have hp6l : w.heap.size + 1 ≤ w3.heap.size := hz3
  have X1 := hide hX1
  have X2 := hide hX2
  have hg4 : g4 < w4.heap.size := hX2.lt
  clear hb4 hK3 hB3 hz3 hc3 hz3' hg HR1 HR2 hX1 hX2
  generalize w3.heap.size = p6 at *
  clear w3
  go_wp2_with fail
  refine (toIntS_any _ _ _ zs0 _ (by exact ((unhide HZ0).below (Nat.le_refl _) hB4).alloc _)).mono ?_
  rintro e w4a ⟨y0, rfl, hg, hY, hb⟩
  have hK4a := hide (((unhide hK4).alloc hz4 _).trans (hb.mono (by simp; omega)))
  have B8_4a : Hid (VBox w4a w4.heap.size c (.slice (some ⟨g3, 0, none⟩) n1 n1) (.slice (some ⟨g4, 0, none⟩) n2 n2)) := (VBox.new w4 _ _ _).below (Nat.le_refl _) hb
  have hyg0 : w4.heap.size < y0 := by simp at hg; omega
  have X1_4a := hide (((unhide X1).alloc _).below (Nat.le_refl _) hb)
  have X2_4a := hide (((unhide X2).alloc _).below (Nat.le_refl _) hb)
  have B6_4a := hide (((unhide B6).alloc _).below (Nat.le_refl _) hb)
  have T1_4a := hide (((unhide T1).alloc _).below (Nat.le_refl _) hb)
  have T2_4a := hide (((unhide T2).alloc _).below (Nat.le_refl _) hb)
  have Y0_4a := hide hY
  obtain ⟨hB4a, hz4a, hc4a⟩ := box1 (unhide hK4a)
  clear hb hg hY hK4 hB4 hz4 hc4 hz4' X1 X2 B6 T1 T2
  generalize w4.heap.size = p8 at *
  clear w4
  have hyl : y0 < w4a.heap.size := (unhide Y0_4a).lt
  have hzw : w.heap.size < w4a.heap.size := by omega
  obtain ⟨z80, z81, z82⟩ := (unhide B8_4a).cells
  have hz8l : p8 < w4a.heap.size := (unhide B8_4a).lt
  go_wp2_with fail
  refine (unhide HI _ _ _ _ _ _ sh dt _ _ _ zs0 _ (by exact (unhide X1_4a).row (unhide H1).len (unhide H1).small) (by exact (unhide X2_4a).row (unhide H2).len (unhide H2).small) (by exact (unhide Y0_4a).row (unhide HZ0).len (unhide HZ0).small) (Nat.le_refl _) (Nat.le_refl _) (Nat.le_refl _) HW0.out).mono ?_
  rintro e w5 ⟨e1, k1, f1, e2, k2, f2, rfl, hO1, hO2, hap, hb5⟩
  have hK5 := hide ((unhide hK4a).trans (hb5.mono (by omega)))
  have HR' := unhide HR
  rw [HR'] at hO1 hO2 ⊢
  simp only at hO1 hO2 ⊢
  clear HR' z80 z81 z82 hz8l
  have X1_5 := hide ((unhide X1_4a).below (Nat.le_refl _) hb5)
  have X2_5 := hide ((unhide X2_4a).below (Nat.le_refl _) hb5)
  have B6_5 := hide ((unhide B6_4a).below (Nat.le_refl _) hb5)
  have T1_5 := hide ((unhide T1_4a).below (Nat.le_refl _) hb5)
  have T2_5 := hide ((unhide T2_4a).below (Nat.le_refl _) hb5)
  have B8_5 := hide ((unhide B8_4a).below (Nat.le_refl _) hb5)
  have Y0_5 := hide ((unhide Y0_4a).below (Nat.le_refl _) hb5)
  have O1_5 := hide hO1
  have O2_5 := hide hO2
  have HAP := hide hap
  have HU1 : Hid (∀ k, At e1 k1 k → k < w5.heap.size) := fun k hk => hO1.row.hi hk
  have HU2 : Hid (∀ k, At e2 k2 k → k < w5.heap.size) := fun k hk => hO2.row.hi hk
  obtain ⟨hB5, hz5, hc5⟩ := box1 (unhide hK5)
  have hz5' : w.heap.size < w5.heap.size := by omega
  have hp6 : p6 < w5.heap.size := (unhide B6_5).lt
  have hpb : w4a.heap.size ≤ w5.heap.size := hb5.size
  obtain ⟨x60, x61, x62⟩ := (unhide B6_5).cells
  clear hb5 hK4a hB4a hz4a hc4a hO1 hO2 hap hzw X1_4a X2_4a B6_4a T1_4a T2_4a B8_4a Y0_4a
  generalize w4a.heap.size = pe at *
  clear w4a
  go_wp2_with fail
  refine (eqView_refl _ _ _ _ _ _ _ _ _ _ _ _ _ rsh rdt _ (by exact ((unhide O1_5).alloc _).row) (by exact ((unhide O2_5).alloc _).row) (by exact (unhide T1_5).alloc _) (by exact (unhide T2_5).alloc _)).mono ?_
  rintro e w6 ⟨rfl, hb6⟩
  have hK6 := hide (((unhide hK5).alloc hz5 _).trans (hb6.mono (by simp; omega)))
  have X1_6 := hide (((unhide X1_5).alloc _).below (Nat.le_refl _) hb6)
  have X2_6 := hide (((unhide X2_5).alloc _).below (Nat.le_refl _) hb6)
  have B6_6 := hide (((unhide B6_5).alloc _).below (Nat.le_refl _) hb6)
  have T1_6 := hide (((unhide T1_5).alloc _).below (Nat.le_refl _) hb6)
  have T2_6 := hide (((unhide T2_5).alloc _).below (Nat.le_refl _) hb6)
  have B8_6 := hide (((unhide B8_5).alloc _).below (Nat.le_refl _) hb6)
  have Y0_6 := hide (((unhide Y0_5).alloc _).below (Nat.le_refl _) hb6)
  have O1_6 := hide (((unhide O1_5).alloc _).below (Nat.le_refl _) hb6)
  have O2_6 := hide (((unhide O2_5).alloc _).below (Nat.le_refl _) hb6)
  have B9_6 : Hid (VBox w6 w5.heap.size rc (.slice e1 k1 f1) (.slice e2 k2 f2)) := (VBox.new w5 _ _ _).below (Nat.le_refl _) hb6
  obtain ⟨hB6, hz6, hc6⟩ := box1 (unhide hK6)
  have hz6' : w.heap.size < w6.heap.size := by omega
  have hp8' : p8 < w6.heap.size := (unhide B8_6).lt
  obtain ⟨x80, x81, x82⟩ := (unhide B8_6).cells
  clear hb6 hK5 hB5 hz5 hc5 hz5' hp6 x60 x61 x62 X1_5 X2_5 B6_5 T1_5 T2_5 B8_5 Y0_5 O1_5 O2_5
  generalize w5.heap.size = p9 at *
  clear w5
  have hcc : (rcode != rcode) = false := by simp
  go_wp2_with fail
  go_cut [56] (fun r wr => r = .bool false ∧ Below w6.heap.size w6 wr)
  case first =>
    go_region_with (first
      | (go_at_call 8; refine (toView_any _ _ _ _ _ _ _ sh dt _ (by exact (unhide H1).below (Nat.le_refl _) hB6.drew) (by exact (unhide H2).below (Nat.le_refl _) hB6.drew)).mono ?_; rintro e w7 ⟨g5, g6, rfl, hg, hlt, hZ1, hZ2, hb7⟩; obtain ⟨hc7, hf7⟩ := bcell hb7; clear hf7; simp at hc7)
      | (go_at_call 11; refine (eqView_refl _ _ _ _ _ _ _ _ _ _ _ _ _ sh dt _ (by exact ((unhide X1_6).drew.below (Nat.le_refl _) hb7).row (unhide H1).len (unhide H1).small) (by exact ((unhide X2_6).drew.below (Nat.le_refl _) hb7).row (unhide H2).len (unhide H2).small) (by exact hZ1.row (unhide H1).len (unhide H1).small) (by exact hZ2.row (unhide H2).len (unhide H2).small)).mono ?_; rintro e w8 ⟨rfl, hb8⟩))
    all_goals go_wp2_with fail
    all_goals (go_meet; case rel => exact ⟨rfl, ((Below.refl _ _).drew.trans hb7).trans (hb8.mono hb7.size)⟩)
  case rest =>
    obtain ⟨rfl, hbc⟩ := hcut
    have hK7 := hide ((unhide hK6).trans (hbc.mono hz6))
    have X1_7 := hide ((unhide X1_6).below (Nat.le_refl _) hbc)
    have X2_7 := hide ((unhide X2_6).below (Nat.le_refl _) hbc)
    have B6_7 := hide ((unhide B6_6).below (Nat.le_refl _) hbc)
    have T1_7 := hide ((unhide T1_6).below (Nat.le_refl _) hbc)
    have T2_7 := hide ((unhide T2_6).below (Nat.le_refl _) hbc)
    have B8_7 := hide ((unhide B8_6).below (Nat.le_refl _) hbc)
    have Y0_7 := hide ((unhide Y0_6).below (Nat.le_refl _) hbc)
    have O1_7 := hide ((unhide O1_6).below (Nat.le_refl _) hbc)
    have O2_7 := hide ((unhide O2_6).below (Nat.le_refl _) hbc)
    have B9_7 := hide ((unhide B9_6).below (Nat.le_refl _) hbc)
    obtain ⟨hB7, hz7, hc7⟩ := box1 (unhide hK7)
    clear hbc hK6 hB6 hz6 hc6 hz6' hp8' x80 x81 x82 X1_6 X2_6 B6_6 T1_6 T2_6 B8_6 Y0_6 O1_6 O2_6 B9_6
    clear w6
    obtain ⟨w7, hw7⟩ : ∃ x, x = wc := ⟨_, rfl⟩
    subst hw7
    go_wp2_with fail
    refine (toIntS_any _ _ _ zs0 _ (by exact (unhide HZ0).below (Nat.le_refl _) hB7)).mono ?_
    rintro e w7a ⟨yy, rfl, hg, hY, hb⟩
    have HY := hide hY
    have HXT := hide ((unhide Y0_7).below (Nat.le_refl _) hb)
    have HBB := hide hb
    clear hg hY hb
    go_wp2_with fail
    refine (eqIntS_refl _ _ _ _ _ _ zs0 _ (by exact (unhide HXT).row (unhide HZ0).len (unhide HZ0).small) (by exact (unhide HY).row (unhide HZ0).len (unhide HZ0).small)).mono ?_
    rintro e w7b ⟨rfl, hb8⟩
    have hbc : Below w7.heap.size w7 w7b := (unhide HBB).trans (hb8.mono (unhide HBB).size)
    have hK7b := hide ((unhide hK7).trans (hbc.mono (by omega)))
    have X1_7b := hide ((unhide X1_7).below (Nat.le_refl _) hbc)
    have X2_7b := hide ((unhide X2_7).below (Nat.le_refl _) hbc)
    have B6_7b := hide ((unhide B6_7).below (Nat.le_refl _) hbc)
    have T1_7b := hide ((unhide T1_7).below (Nat.le_refl _) hbc)
    have T2_7b := hide ((unhide T2_7).below (Nat.le_refl _) hbc)
    have B8_7b := hide ((unhide B8_7).below (Nat.le_refl _) hbc)
    have Y0_7b := hide ((unhide Y0_7).below (Nat.le_refl _) hbc)
    have O1_7b := hide ((unhide O1_7).below (Nat.le_refl _) hbc)
    have O2_7b := hide ((unhide O2_7).below (Nat.le_refl _) hbc)
    have B9_7b := hide ((unhide B9_7).below (Nat.le_refl _) hbc)
    obtain ⟨hB7b, hz7b, hc7b⟩ := box1 (unhide hK7b)
    clear hbc hb8 HBB HXT HY hK7 hB7 hz7 hc7 X1_7 X2_7 B6_7 T1_7 T2_7 B8_7 Y0_7 O1_7 O2_7 B9_7
    clear w7a w7
    obtain ⟨x80, x81, x82⟩ := (unhide B8_7b).cells
    have hp8' : p8 < w7b.heap.size := (unhide B8_7b).lt
    go_wp2_with fail
    refine (markView_any _ _ _ _ _ _ _ g3 sh dt _ _ (by exact (unhide X1_7b).own (unhide H1).len (unhide H1).small (Nat.le_refl _)) (by exact (unhide X2_7b).own (unhide H2).len (unhide H2).small (by omega)) (fun k h h' => by have := at_eq h; have := at_eq h'; omega) (by omega) (by omega)).mono ?_
    rintro e w8 ⟨rfl, hM1, hM2, hbut⟩
    clear hM1 hM2
    have hS : ∀ k, (At (some ⟨g3, 0, none⟩) n1 k ∨ At (some ⟨g4, 0, none⟩) n2 k) → g3 ≤ k ∧ k < p8 := fun k hk => by rcases hk with hk | hk <;> have := at_eq hk <;> omega
    have hK8 := hide ((unhide hK7b).trans (hbut.below (by omega) (fun k hk => by have := hS k hk; omega)))
    have hz8 : w.heap.size + 1 ≤ w8.heap.size := by have := hbut.size; omega
    have B6_8 := hide ((unhide B6_7b).but hbut (fun hk => by have := hS _ hk; omega))
    have B9_8 := hide ((unhide B9_7b).but hbut (fun hk => by have := hS _ hk; omega))
    have T1_8 := hide (hbut.row (unhide T1_7b) (fun k hk hk' => by have := hS k hk; have := unhide HL1 k hk'; omega))
    have T2_8 := hide (hbut.row (unhide T2_7b) (fun k hk hk' => by have := hS k hk; have := unhide HL2 k hk'; omega))
    have O1_8 := hide (hbut.own (unhide O1_7b) (fun k hk hk' => by have := hS k hk; have := (unhide O1_7b).low hk'; omega))
    have O2_8 := hide (hbut.own (unhide O2_7b) (fun k hk hk' => by have := hS k hk; have := (unhide O2_7b).low hk'; omega))
    have Y0_8 : Hid (Blk w8 y0 zs0) := (hbut.block y0 (unhide Y0_7b).lt (fun hk => by have := hS _ hk; omega)).trans (unhide Y0_7b)
    clear hbut hS hp8' x80 x81 x82 hK7b hB7b hz7b hc7b X1_7b X2_7b B6_7b T1_7b T2_7b B8_7b Y0_7b O1_7b O2_7b B9_7b
    clear w7b
    go_wp2_with fail
    refine (markIntS_any _ _ _ y0 zs0 _ _ (by exact (unhide Y0_8).own (unhide HZ0).len (unhide HZ0).small (Nat.le_refl _)) (by omega) (by omega)).mono ?_
    rintro e w8a ⟨rfl, hM1, hbut⟩
    clear hM1
    have hS : ∀ k, At (some ⟨y0, 0, none⟩) u0 k → k = y0 := fun k hk => (at_eq hk).symm
    have hK8a := hide ((unhide hK8).trans (hbut.below (by omega) (fun k hk => by have := hS k hk; omega)))
    have hz8a : w.heap.size + 1 ≤ w8a.heap.size := by have := hbut.size; omega
    have B6_8a := hide ((unhide B6_8).but hbut (fun hk => by have := hS _ hk; omega))
    have B9_8a := hide ((unhide B9_8).but hbut (fun hk => by have := hS _ hk; omega))
    have T1_8a := hide (hbut.row (unhide T1_8) (fun k hk hk' => by have := hS k hk; have := unhide HL1 k hk'; omega))
    have T2_8a := hide (hbut.row (unhide T2_8) (fun k hk hk' => by have := hS k hk; have := unhide HL2 k hk'; omega))
    have O1_8a := hide (hbut.own (unhide O1_8) (fun k hk hk' => by have := hS k hk; have := (unhide O1_8).low hk'; omega))
    have O2_8a := hide (hbut.own (unhide O2_8) (fun k hk hk' => by have := hS k hk; have := (unhide O2_8).low hk'; omega))
    clear hbut hS hK8 hz8 B6_8 B9_8 T1_8 T2_8 O1_8 O2_8 Y0_8
    clear w8
    obtain ⟨x60, x61, x62⟩ := (unhide B6_8a).cells
    obtain ⟨x90, x91, x92⟩ := (unhide B9_8a).cells
    have hp6' : p6 < w8a.heap.size := (unhide B6_8a).lt
    have hp9' : p9 < w8a.heap.size := (unhide B9_8a).lt
    have hqk : ¬ ((1 : Int) + n1 + n2 + u0 < 0) := by omega
    go_wp2_with fail
    refine (eqView_refl _ _ _ _ _ _ _ _ _ _ _ _ _ rsh rdt _ (by exact (unhide O1_8a).row) (by exact (unhide O2_8a).row) (by exact unhide T1_8a) (by exact unhide T2_8a)).mono ?_
    rintro e w9 ⟨rfl, hb8⟩
    have hK9 := hide ((unhide hK8a).trans (hb8.mono hz8a))
    have B6_9 := hide ((unhide B6_8a).below (Nat.le_refl _) hb8)
    have B9_9 := hide ((unhide B9_8a).below (Nat.le_refl _) hb8)
    have T1_9 := hide ((unhide T1_8a).below (Nat.le_refl _) hb8)
    have T2_9 := hide ((unhide T2_8a).below (Nat.le_refl _) hb8)
    have O1_9 := hide ((unhide O1_8a).below (Nat.le_refl _) hb8)
    have O2_9 := hide ((unhide O2_8a).below (Nat.le_refl _) hb8)
    have hz9 : w.heap.size + 1 ≤ w9.heap.size := by have := hb8.size; omega
    clear hb8 hK8a hz8a x60 x61 x62 x90 x91 x92 hp6' hp9' B6_8a B9_8a T1_8a T2_8a O1_8a O2_8a
    clear w8a
    obtain ⟨x90, x91, x92⟩ := (unhide B9_9).cells
    have hp9' : p9 < w9.heap.size := (unhide B9_9).lt
    go_wp2_with fail
    refine (markView_any _ _ _ _ _ _ _ pe rsh rdt _ _ (by exact unhide O1_9) (by exact unhide O2_9) (unhide HAP) (by omega) (by omega)).mono ?_
    rintro e wx ⟨rfl, hM1, hM2, hbut⟩
    have hS : ∀ k, (At e1 k1 k ∨ At e2 k2 k) → pe ≤ k ∧ k < p9 := fun k hk => by rcases hk with hk | hk; exact ⟨(unhide O1_9).low hk, unhide HU1 k hk⟩; exact ⟨(unhide O2_9).low hk, unhide HU2 k hk⟩
    have hKa := hide ((unhide hK9).trans (hbut.below hz9 (fun k hk => by have := hS k hk; omega)))
    have B6_a := hide ((unhide B6_9).but hbut (fun hk => by have := hS _ hk; omega))
    have B9_a := hide ((unhide B9_9).but hbut (fun hk => by have := hS _ hk; omega))
    have T1_a := hide (hbut.row (unhide T1_9) (fun k hk hk' => by have := hS k hk; have := unhide HL1 k hk'; omega))
    have T2_a := hide (hbut.row (unhide T2_9) (fun k hk hk' => by have := hS k hk; have := unhide HL2 k hk'; omega))
    have HM1 := hide hM1.row
    have HM2 := hide hM2.row
    have hks1 : k1 ≤ 17592186044416 := (unhide O1_9).small
    have hks2 : k2 ≤ 17592186044416 := (unhide O2_9).small
    have hza : w.heap.size + 1 ≤ wx.heap.size := by have := hbut.size; omega
    clear hbut hS hK9 B6_9 B9_9 T1_9 T2_9 O1_9 O2_9 x90 x91 x92 hp9' hM1 hM2 hz9
    clear w9
    obtain ⟨x90, x91, x92⟩ := (unhide B9_a).cells
    have hp9' : p9 < wx.heap.size := (unhide B9_a).lt
    go_wp2_with fail
    refine (heldView_marks _ _ _ _ _ _ _ _ _ (by exact unhide HM1) (by exact unhide HM2) (by omega) (by omega)).mono ?_
    rintro e wa ⟨rfl, hba⟩
    have hKb := hide ((unhide hKa).trans (hba.mono hza))
    have B6_b := hide ((unhide B6_a).below (Nat.le_refl _) hba)
    have T1_b := hide ((unhide T1_a).below (Nat.le_refl _) hba)
    have T2_b := hide ((unhide T2_a).below (Nat.le_refl _) hba)
    clear hba hKa B6_a B9_a T1_a T2_a HM1 HM2 x90 x91 x92 hp9' hza
    clear wx
    obtain ⟨hBb, hzb, hcb⟩ := box1 (unhide hKb)
    have hzb' : w.heap.size < wa.heap.size := by omega
    have hq0' : ¬ ((1 : Int) + k1 + k2 < 0) := by omega
    go_wp2_with fail
    refine (toView_any _ _ _ _ _ _ _ sh dt _ (by exact (unhide H1).below (Nat.le_refl _) hBb) (by exact (unhide H2).below (Nat.le_refl _) hBb)).mono ?_
    rintro e wb ⟨g5, g6, rfl, hg, hlt2, hX1, hX2, hbb⟩
    clear hg hlt2
    have hKc := hide ((unhide hKb).trans (hbb.mono hzb))
    have B6_c := hide ((unhide B6_b).below (Nat.le_refl _) hbb)
    have T1_c := hide ((unhide T1_b).below (Nat.le_refl _) hbb)
    have T2_c := hide ((unhide T2_b).below (Nat.le_refl _) hbb)
    have X1_c := hide hX1
    have X2_c := hide hX2
    obtain ⟨hBc, hzc, hcc'⟩ := box1 (unhide hKc)
    clear hbb hKb B6_b T1_b T2_b hBb hzb hcb hzb' hX1 hX2
    clear wa
    go_wp2_with fail
    refine (toIntS_any _ _ _ zs0 _ (by exact (unhide HZ0).below (Nat.le_refl _) hBc)).mono ?_
    rintro e wca ⟨yy0, rfl, hg, hY, hb⟩
    have hKca := hide ((unhide hKc).trans (hb.mono hzc))
    have X1_ca := hide ((unhide X1_c).below (Nat.le_refl _) hb)
    have X2_ca := hide ((unhide X2_c).below (Nat.le_refl _) hb)
    have B6_ca := hide ((unhide B6_c).below (Nat.le_refl _) hb)
    have T1_ca := hide ((unhide T1_c).below (Nat.le_refl _) hb)
    have T2_ca := hide ((unhide T2_c).below (Nat.le_refl _) hb)
    have Y0_ca := hide hY
    obtain ⟨hBca, hzca, hcca⟩ := box1 (unhide hKca)
    clear hb hg hY hKc hBc hzc hcc' X1_c X2_c B6_c T1_c T2_c
    clear wb
    go_wp2_with fail
    refine (unhide HI _ _ _ _ _ _ sh dt _ _ _ zs0 _ (by exact (unhide X1_ca).row (unhide H1).len (unhide H1).small) (by exact (unhide X2_ca).row (unhide H2).len (unhide H2).small) (by exact (unhide Y0_ca).row (unhide HZ0).len (unhide HZ0).small) (Nat.le_refl _) (Nat.le_refl _) (Nat.le_refl _) HW0.out).mono ?_
    rintro e wd ⟨i1, j1, l1, i2, j2, l2, rfl, hO1, hO2, hap, hbd⟩
    clear hap
    have HR' := unhide HR
    rw [HR'] at hO1 hO2 ⊢
    simp only at hO1 hO2 ⊢
    clear HR'
    have hKd := hide (hBca.trans (hbd.mono (by omega)))
    have B6_d := hide ((unhide B6_ca).below (Nat.le_refl _) hbd)
    have T1_d := hide ((unhide T1_ca).below (Nat.le_refl _) hbd)
    have T2_d := hide ((unhide T2_ca).below (Nat.le_refl _) hbd)
    have HO1 := hide hO1.row
    have HO2 := hide hO2.row
    have hsz : w.heap.size ≤ wd.heap.size := (unhide hKd).size
    clear hbd hKca hBca hzca hcca hO1 hO2 X1_ca X2_ca B6_ca T1_ca T2_ca Y0_ca
    clear wca
    obtain ⟨x60, x61, x62⟩ := (unhide B6_d).cells
    have hp6' : p6 < wd.heap.size := (unhide B6_d).lt
    go_wp2_with fail
    refine (eqView_refl _ _ _ _ _ _ _ _ _ _ _ _ _ rsh rdt _ (by exact (unhide HO1).alloc _) (by exact (unhide HO2).alloc _) (by exact (unhide T1_d).alloc _) (by exact (unhide T2_d).alloc _)).mono ?_
    rintro e we ⟨rfl, hbe⟩
    have hKe := hide (((unhide hKd).alloc hsz _).trans (hbe.mono (by simp; omega)))
    clear hbe hKd B6_d T1_d T2_d HO1 HO2 x60 x61 x62 hp6' hsz
    go_wp2
    go_ret
    exact ⟨rfl, unhide hKe⟩

set_option maxHeartbeats 400000 in
theorem law_long0 (c : Int) (a1 a2 : Option Addr) (n1 n2 c1 c2 : Nat) (s0 : Option Addr) (u0 v0 : Nat) (w : World) (hA : 1048576 < u0) :
    Calls Try.prog 5 #[.agg #[.int .i64 c, .slice a1 n1 c1, .slice a2 n2 c2], .slice s0 u0 v0] w fun e w' => e = .returned (.bool true) ∧ Below w.heap.size w w' := by
  have q : (1048576 : Int) < (u0 : Int) := by omega
  have hbl : Below w.heap.size w (w.alloc (.cells #[.int .i64 c, .slice a1 n1 c1, .slice a2 n2 c2] 24)) := (Below.refl _ w).alloc (Nat.le_refl _) _
  go_enter Try.func5, Try.ntmps5
  go_wp2
  go_ret
  exact ⟨rfl, hbl⟩

set_option maxHeartbeats 400000 in
theorem law_big (c : Int) (a1 a2 : Option Addr) (n1 n2 c1 c2 : Nat) (s0 : Option Addr) (u0 v0 : Nat) (w : World) (h1 : n1 ≤ 9223372036854775807) (h2 : n2 ≤ 9223372036854775807) (y0 : u0 ≤ 1048576) (hA : (1048576 : Int) < n1 + n2) :
    Calls Try.prog 5 #[.agg #[.int .i64 c, .slice a1 n1 c1, .slice a2 n2 c2], .slice s0 u0 v0] w fun e w' => e = .returned (.bool true) ∧ Below w.heap.size w w' := by
  have q0 : ¬ (1048576 : Int) < (u0 : Int) := by omega
  go_enter Try.func5, Try.ntmps5
  go_wp2_with fail
  refine (szView_big _ _ _ _ _ _ _ _ _ (by omega) (by omega) (by omega) (by omega) (by omega)).mono ?_
  rintro e w1 ⟨rfl, hb1⟩
  have hK1 := hb1.mono (B' := w.heap.size + 1) (by simp)
  obtain ⟨hB1, hz1, hc1⟩ := box1 hK1
  go_wp2
  go_ret
  exact ⟨rfl, hB1⟩

theorem law_walk (F : Int → List Int → List Int → List Int → VAns) (hspec : Spec F) (himp : Impl F) (c : Int) (a1 a2 : Option Addr) (n1 n2 c1 c2 : Nat) (sh dt : List Int) (s0 : Option Addr) (u0 v0 : Nat) (zs0 : List Int) (w : World) (h1 : Raw w a1 n1 sh) (h2 : Raw w a2 n2 dt) (z0 : Raw w s0 u0 zs0) (hW0 : ∀ k, -9223372036854775808 ≤ zs0.getD k 0 ∧ zs0.getD k 0 ≤ 9223372036854775807) :
    Calls Try.prog 5 #[.agg #[.int .i64 c, .slice a1 n1 c1, .slice a2 n2 c2], .slice s0 u0 v0] w fun e w' => e = .returned (.bool true) ∧ Below w.heap.size w w' := by
  by_cases hL0 : 1048576 < u0
  · exact law_long0 c a1 a2 n1 n2 c1 c2 s0 u0 v0 w hL0
  by_cases hA : (1048576 : Int) < n1 + n2
  · exact law_big c a1 a2 n1 n2 c1 c2 s0 u0 v0 w h1.max h2.max (by omega) hA
  · exact law_small F hspec himp c a1 a2 n1 n2 c1 c2 sh dt s0 u0 v0 zs0 w (h1.row (by omega)) (h2.row (by omega)) (z0.row (by omega)) (by omega) (by omega) hW0

end LawFoldView
end Go.Proofs.Ytadbhidpmihghab
