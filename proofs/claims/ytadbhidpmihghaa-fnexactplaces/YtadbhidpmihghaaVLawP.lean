import Derived.Test.YtadbhidpmihghaaVBoxes
import Derived.Test.YtadbhidpmihghaaVMarks
import Derived.Test.YtadbhidpmihghaaVLawBase
import Derived.Test.YtadbhidpmihghaaVAnsMath
namespace Go.Proofs.Ytadbhidpmihghaa
open Go.RowKit
namespace LawPlaces

def Spec (F : Int → List Int → List Int → Int → List Int) : Prop := ∀ (c : Int) (a1 a2 : Addr) (n1 n2 c1 c2 : Nat) (sh dt : List Int) (cells : Int) (w : World) (_ : Row w (some a1) n1 sh) (_ : Row w (some a2) n2 dt),
    Calls Try.prog 25 #[.agg #[.int .i64 c, .slice (some a1) n1 c1, .slice (some a2) n2 c2], .int .i64 cells] w fun e w' => ∃ b1 m1 d1, e = .returned (.slice b1 m1 d1) ∧ Row w' b1 m1 (F c sh dt cells) ∧ Below w.heap.size w w'

def Impl (F : Int → List Int → List Int → Int → List Int) : Prop := ∀ (c : Int) (a1 a2 : Addr) (n1 n2 c1 c2 : Nat) (sh dt : List Int) (cells : Int) (w : World) (_ : Row w (some a1) n1 sh) (_ : Row w (some a2) n2 dt),
    Calls Try.prog 26 #[.agg #[.int .i64 c, .slice (some a1) n1 c1, .slice (some a2) n2 c2], .int .i64 cells] w fun e w' => ∃ b1 m1 d1, e = .returned (.slice b1 m1 d1) ∧ Own w' w.heap.size b1 m1 (F c sh dt cells) ∧ Below w.heap.size w w'

theorem eqIntS_refl' (a b : Option Addr) (n m ca cb : Nat) (xs : List Int) (w : World) (hx : Row w a n xs) (hy : Row w b m xs) :
    Calls Try.prog 13 #[.slice a n ca, .slice b m cb] w fun e w' => e = .returned (.bool true) ∧ Below w.heap.size w w' :=
  (eqIntS_any a b n m ca cb xs xs w hx hy).mono (by rintro e w' ⟨rfl, q, rfl⟩; exact ⟨by simp, Below.drewN (Below.refl _ _) q⟩)

set_option maxRecDepth 20000 in
set_option maxHeartbeats 4000000 in
theorem law_small (F : Int → List Int → List Int → Int → List Int) (hspec : Spec F) (himp : Impl F) (c : Int) (a1 a2 : Option Addr) (n1 n2 c1 c2 : Nat) (sh dt : List Int) (cells : Int) (w : World) (h1 : Row w a1 n1 sh) (h2 : Row w a2 n2 dt) (hA : (n1 : Int) + n2 ≤ 1048576) :
    Calls Try.prog 7 #[.agg #[.int .i64 c, .slice a1 n1 c1, .slice a2 n2 c2], .int .i64 cells] w fun e w' => e = .returned (.bool true) ∧ Below w.heap.size w w' := by
  have H1 := hide h1
  have H2 := hide h2
  clear h1 h2
  have HS := hide (hspec c)
  have HI := hide (himp c)
  clear hspec himp
  go_enter Try.func7, Try.ntmps7
  go_wp2_with fail
  refine (szView_ok _ _ _ _ _ _ _ _ _ (by omega) (by omega)).mono ?_
  rintro e w1 ⟨rfl, hb1⟩
  have hK1 := hide (hb1.mono (B' := w.heap.size + 1) (by simp))
  obtain ⟨hB1, hz1, hc1⟩ := box1 (unhide hK1)
  clear hb1
  go_wp2_with fail
  refine (toView_any _ _ _ _ _ _ _ sh dt _ (by exact (unhide H1).below (Nat.le_refl _) hB1) (by exact (unhide H2).below (Nat.le_refl _) hB1)).mono ?_
  rintro e w2 ⟨g1, g2, rfl, hg, hlt, hX1, hX2, hb2⟩
  have hK2 := hide ((unhide hK1).trans (hb2.mono (by omega)))
  obtain ⟨hB2, hz2, hc2⟩ := box1 (unhide hK2)
  clear hb2 hK1 hB1 hz1 hc1 hg w1
  go_wp2_with fail
  refine (unhide HS _ _ _ _ _ _ sh dt cells _ (by exact hX1.row (unhide H1).len (unhide H1).small) (by exact hX2.row (unhide H2).len (unhide H2).small)).mono ?_
  rintro e w3 ⟨b1, m1, d1, rfl, hR1, hb3⟩
  have hK3 := hide ((unhide hK2).trans (hb3.mono (by omega)))
  obtain ⟨hB3, hz3, hc3⟩ := box1 (unhide hK3)
  have hz3' : w.heap.size < w3.heap.size := by omega
  clear hb3 hK2 hB2 hz2 hc2 hlt hX1 hX2 w2
  generalize hr : F c sh dt cells = rs at *
  have HR := hide hr
  have HR1 := hide hR1
  clear hr hR1
  go_wp2_with fail
  refine (toView_any _ _ _ _ _ _ _ sh dt _ (by exact (unhide H1).below (Nat.le_refl _) hB3) (by exact (unhide H2).below (Nat.le_refl _) hB3)).mono ?_
  rintro e w4 ⟨g3, g4, rfl, hg, hlt, hX1, hX2, hb4⟩
  have hK4 := hide ((unhide hK3).trans (hb4.mono (by omega)))
  have HQ1 : Hid (Row w4 b1 m1 rs) := (unhide HR1).below (Nat.le_refl _) hb4
  have HL1 : Hid (∀ k, At b1 m1 k → k < g3) := fun k hk => by have := (unhide HR1).hi hk; omega
  obtain ⟨hB4, hz4, hc4⟩ := box1 (unhide hK4)
  have hz4' : w.heap.size < w4.heap.size := by omega
  have hg3 : w.heap.size < g3 := by omega
  have hg4 : g4 < w4.heap.size := hX2.lt
  clear hb4 hK3 hB3 hz3 hc3 hz3' hg HR1 w3
  go_wp2_with fail
  refine (unhide HI _ _ _ _ _ _ sh dt cells _ (by exact (hX1.alloc _).row (unhide H1).len (unhide H1).small) (by exact (hX2.alloc _).row (unhide H2).len (unhide H2).small)).mono ?_
  rintro e w5 ⟨e1, k1, f1, rfl, hO1, hb5⟩
  have hK5 := hide (((unhide hK4).alloc hz4 _).trans (hb5.mono (by simp; omega)))
  rw [unhide HR] at hO1
  have HX1 := hide ((hX1.alloc _).below (Nat.le_refl _) hb5)
  have HX2 := hide ((hX2.alloc _).below (Nat.le_refl _) hb5)
  have B8 : Hid (VBox w5 w4.heap.size c (.slice (some ⟨g3, 0, none⟩) n1 n1) (.slice (some ⟨g4, 0, none⟩) n2 n2)) := (VBox.new w4 _ _ _).below (Nat.le_refl _) hb5
  have HT1 := hide (((unhide HQ1).alloc _).below (Nat.le_refl _) hb5)
  have hO1' : Own w5 (w4.heap.size + 1) e1 k1 rs := by simpa using hO1
  have HO1 := hide hO1'
  have HU1 : Hid (∀ k, At e1 k1 k → k < w5.heap.size) := fun k hk => hO1'.row.hi hk
  obtain ⟨hB5, hz5, hc5⟩ := box1 (unhide hK5)
  have hz5' : w.heap.size < w5.heap.size := by omega
  have hp8 : w4.heap.size < w5.heap.size := (unhide B8).lt
  clear hb5 hK4 hB4 hz4 hc4 hz4' hX1 hX2 HQ1 hO1 hO1'
  generalize w4.heap.size = p8 at *
  clear w4
  go_wp2_with fail
  refine (eqIntS_refl' _ _ _ _ _ _ rs _ (by exact (unhide HO1).row) (by exact unhide HT1)).mono ?_
  rintro e w6 ⟨rfl, hb6⟩
  have hK6 := hide ((unhide hK5).trans (hb6.mono hz5))
  have HX1a := hide ((unhide HX1).below (Nat.le_refl _) hb6)
  have HX2a := hide ((unhide HX2).below (Nat.le_refl _) hb6)
  have B8a := hide ((unhide B8).below (Nat.le_refl _) hb6)
  have HT1a := hide ((unhide HT1).below (Nat.le_refl _) hb6)
  have HO1a := hide ((unhide HO1).below (Nat.le_refl _) hb6)
  obtain ⟨hB6, hz6, hc6⟩ := box1 (unhide hK6)
  have hz6' : w.heap.size < w6.heap.size := by omega
  have hp8' : p8 < w6.heap.size := (unhide B8a).lt
  obtain ⟨x80, x81, x82⟩ := (unhide B8a).cells
  have hp95 := hb6.size
  clear hb6 hK5 hB5 hz5 hc5 hz5' B8 HX1 HX2 HT1 HO1
  obtain ⟨p9, hp9⟩ : ∃ p9, p9 = w5.heap.size := ⟨_, rfl⟩
  rw [← hp9] at HU1 hp95 hp8
  clear hp9 w5
  go_wp2_with fail
  go_cut [35] (fun r wr => r = .bool false ∧ Below w6.heap.size w6 wr)
  case first =>
    go_region_with (first
      | (go_at_call 19; refine (toView_any _ _ _ _ _ _ _ sh dt _ (by exact (unhide H1).below (Nat.le_refl _) hB6.drew) (by exact (unhide H2).below (Nat.le_refl _) hB6.drew)).mono ?_; rintro e w7 ⟨g5, g6, rfl, hg, hlt, hZ1, hZ2, hb7⟩; obtain ⟨hc7, hf7⟩ := bcell hb7; clear hf7; simp at hc7)
      | (go_at_call 12; refine (eqView_refl _ _ _ _ _ _ _ _ _ _ _ _ _ sh dt _ (by exact ((unhide HX1a).drew.below (Nat.le_refl _) hb7).row (unhide H1).len (unhide H1).small) (by exact ((unhide HX2a).drew.below (Nat.le_refl _) hb7).row (unhide H2).len (unhide H2).small) (by exact hZ1.row (unhide H1).len (unhide H1).small) (by exact hZ2.row (unhide H2).len (unhide H2).small)).mono ?_; rintro e w8 ⟨rfl, hb8⟩))
    all_goals go_wp2_with fail
    all_goals (go_meet; case rel => exact ⟨rfl, ((Below.refl _ _).drew.trans hb7).trans (hb8.mono hb7.size)⟩)
  case rest =>
    obtain ⟨rfl, hbc⟩ := hcut
    have hK7 := hide ((unhide hK6).trans (hbc.mono hz6))
    have HX1b := hide ((unhide HX1a).below (Nat.le_refl _) hbc)
    have HX2b := hide ((unhide HX2a).below (Nat.le_refl _) hbc)
    have B8b := hide ((unhide B8a).below (Nat.le_refl _) hbc)
    have HT1b := hide ((unhide HT1a).below (Nat.le_refl _) hbc)
    have HO1b := hide ((unhide HO1a).below (Nat.le_refl _) hbc)
    have hcz := hbc.size
    clear hbc hK6 hB6 hz6 hc6 hz6' hp8' x80 x81 x82 HX1a HX2a B8a HT1a HO1a
    obtain ⟨x80, x81, x82⟩ := (unhide B8b).cells
    have hp8' : p8 < wc.heap.size := (unhide B8b).lt
    have hp9c : p9 ≤ wc.heap.size := by omega
    clear hcz hp95 w6
    go_wp2_with fail
    refine (markView_any _ _ _ _ _ _ _ g3 sh dt _ _ (by exact (unhide HX1b).own (unhide H1).len (unhide H1).small (Nat.le_refl _)) (by exact (unhide HX2b).own (unhide H2).len (unhide H2).small (by omega)) (fun k h h' => by have := at_eq h; have := at_eq h'; omega) (by omega) (by omega)).mono ?_
    rintro e w7 ⟨rfl, hM1, hM2, hbut⟩
    clear hM1 hM2
    have hS : ∀ k, (At (some ⟨g3, 0, none⟩) n1 k ∨ At (some ⟨g4, 0, none⟩) n2 k) → g3 ≤ k ∧ k < p8 := fun k hk => by rcases hk with hk | hk <;> have := at_eq hk <;> omega
    have hK8 := hide ((unhide hK7).trans (hbut.below (by omega) (fun k hk => by have := hS k hk; omega)))
    have HT1c := hide (hbut.row (unhide HT1b) (fun k hk hk' => by have := hS k hk; have := unhide HL1 k hk'; omega))
    have HO1c := hide (hbut.own (unhide HO1b) (fun k hk hk' => by have := hS k hk; have := (unhide HO1b).low hk'; omega))
    have hz7 : w.heap.size + 1 ≤ w7.heap.size := by have := hbut.size; omega
    clear hbut hS hK7 HX1b HX2b B8b HT1b HO1b hp8' x80 x81 x82 hp9c wc
    go_wp2_with fail
    refine (eqIntS_refl' _ _ _ _ _ _ rs _ (by exact (unhide HO1c).row) (by exact unhide HT1c)).mono ?_
    rintro e w8 ⟨rfl, hb8⟩
    have hK9 := hide ((unhide hK8).trans (hb8.mono hz7))
    have HT1d := hide ((unhide HT1c).below (Nat.le_refl _) hb8)
    have HO1d := hide ((unhide HO1c).below (Nat.le_refl _) hb8)
    have hz8 : w.heap.size + 1 ≤ w8.heap.size := by have := hb8.size; omega
    clear hb8 hK8 HT1c HO1c hz7 w7
    go_wp2_with fail
    refine (markIntS_any _ _ _ (p8 + 1) rs _ _ (by exact unhide HO1d) (by omega) (by omega)).mono ?_
    rintro e w9 ⟨rfl, hM1, hbut⟩
    have hS : ∀ k, At e1 k1 k → p8 + 1 ≤ k := fun k hk => (unhide HO1d).low hk
    have hKa := hide ((unhide hK9).trans (hbut.below hz8 (fun k hk => by have := hS k hk; omega)))
    have HT1e := hide (hbut.row (unhide HT1d) (fun k hk hk' => by have := hS k hk; have := unhide HL1 k hk'; omega))
    have HM1 := hide hM1.row
    have hks : k1 ≤ 17592186044416 := (unhide HO1d).small
    have hz9 : w.heap.size + 1 ≤ w9.heap.size := by have := hbut.size; omega
    clear hbut hS hK9 HT1d HO1d hM1 hz8 w8
    go_wp2_with fail
    refine (heldIntS_marks _ _ _ _ _ (by exact unhide HM1) (by omega) (by omega)).mono ?_
    rintro e wa ⟨rfl, hba⟩
    have hba' : Below w9.heap.size w9 wa := by rw [hba]; exact Below.refl _ _
    clear hba
    have hKb := hide ((unhide hKa).trans (hba'.mono hz9))
    have HT1f := hide ((unhide HT1e).below (Nat.le_refl _) hba')
    clear hba' hKa HT1e HM1 hz9
    obtain ⟨hBb, hzb, hcb⟩ := box1 (unhide hKb)
    have hzb' : w.heap.size < wa.heap.size := by omega
    have hq0 : ¬ ((1 : Int) + k1 < 0) := by omega
    go_wp2_with fail
    refine (toView_any _ _ _ _ _ _ _ sh dt _ (by exact (unhide H1).below (Nat.le_refl _) hBb) (by exact (unhide H2).below (Nat.le_refl _) hBb)).mono ?_
    rintro e wb ⟨g5, g6, rfl, hg, hlt2, hX1, hX2, hbb⟩
    clear hg hlt2
    have hKc := hide ((unhide hKb).trans (hbb.mono hzb))
    have HT1g := hide ((unhide HT1f).below (Nat.le_refl _) hbb)
    clear hbb hKb HT1f hBb hzb hcb hzb'
    go_wp2_with fail
    refine (unhide HI _ _ _ _ _ _ sh dt cells _ (by exact hX1.row (unhide H1).len (unhide H1).small) (by exact hX2.row (unhide H2).len (unhide H2).small)).mono ?_
    rintro e wd ⟨i1, j1, l1, rfl, hO1, hbd⟩
    rw [unhide HR] at hO1
    obtain ⟨hBb, hzb, hcb⟩ := box1 (unhide hKc)
    have hKd := hide (hBb.trans (hbd.mono (by omega)))
    have HT1h := hide ((unhide HT1g).below (Nat.le_refl _) hbd)
    have HO1 := hide hO1.row
    have hsz : w.heap.size ≤ wd.heap.size := (unhide hKd).size
    clear hbd hKc HT1g hO1 hBb hzb hcb hX1 hX2
    go_wp2_with fail
    refine (eqIntS_refl' _ _ _ _ _ _ rs _ (by exact unhide HO1) (by exact unhide HT1h)).mono ?_
    rintro e we ⟨rfl, hbe⟩
    have hKe := hide ((unhide hKd).trans (hbe.mono hsz))
    clear hbe hKd HT1h HO1 hsz
    go_wp2
    go_ret
    exact ⟨rfl, unhide hKe⟩

set_option maxHeartbeats 400000 in
theorem law_big (c : Int) (a1 a2 : Option Addr) (n1 n2 c1 c2 : Nat) (cells : Int) (w : World) (h1 : n1 ≤ 9223372036854775807) (h2 : n2 ≤ 9223372036854775807) (hA : (1048576 : Int) < n1 + n2) :
    Calls Try.prog 7 #[.agg #[.int .i64 c, .slice a1 n1 c1, .slice a2 n2 c2], .int .i64 cells] w fun e w' => e = .returned (.bool true) ∧ Below w.heap.size w w' := by
  go_enter Try.func7, Try.ntmps7
  go_wp2_with fail
  refine (szView_big _ _ _ _ _ _ _ _ _ (by omega) (by omega) (by omega) (by omega) (by omega)).mono ?_
  rintro e w1 ⟨rfl, hb1⟩
  have hK1 := hb1.mono (B' := w.heap.size + 1) (by simp)
  obtain ⟨hB1, hz1, hc1⟩ := box1 hK1
  go_wp2
  go_ret
  exact ⟨rfl, hB1⟩

theorem law_walk (F : Int → List Int → List Int → Int → List Int) (hspec : Spec F) (himp : Impl F) (c : Int) (a1 a2 : Option Addr) (n1 n2 c1 c2 : Nat) (sh dt : List Int) (cells : Int) (w : World) (h1 : Raw w a1 n1 sh) (h2 : Raw w a2 n2 dt) :
    Calls Try.prog 7 #[.agg #[.int .i64 c, .slice a1 n1 c1, .slice a2 n2 c2], .int .i64 cells] w fun e w' => e = .returned (.bool true) ∧ Below w.heap.size w w' := by
  by_cases hA : (1048576 : Int) < n1 + n2
  · exact law_big c a1 a2 n1 n2 c1 c2 cells w h1.max h2.max hA
  · exact law_small F hspec himp c a1 a2 n1 n2 c1 c2 sh dt cells w (h1.row (by omega)) (h2.row (by omega)) (by omega)

end LawPlaces
end Go.Proofs.Ytadbhidpmihghaa
