import Derived.Test.YtadbhidpmihghaaVBoxes
import Derived.Test.YtadbhidpmihghaaVMarks
import Derived.Test.YtadbhidpmihghaaVLawBase
import Derived.Test.YtadbhidpmihghaaVAnsMath
namespace Go.Proofs.Ytadbhidpmihghaa
open Go.RowKit
namespace LawWholeView

def Spec (F : List Int → VAns) : Prop := ∀ (a1 : Addr) (n1 c1 : Nat) (sh : List Int) (w : World) (_ : Row w (some a1) n1 sh) (_ : n1 ≤ c1),
    Calls Try.prog 9 #[.slice (some a1) n1 c1] w fun e w' => ∃ b1 m1 d1 b2 m2 d2, e = .returned (.tuple #[.agg #[.int .i64 (F sh).c, .slice b1 m1 d1, .slice b2 m2 d2], .bool (F sh).code]) ∧ Row w' b1 m1 (F sh).sh ∧ Row w' b2 m2 (F sh).dt ∧ Below w.heap.size w w'

def Impl (F : List Int → VAns) : Prop := ∀ (a1 : Addr) (n1 c1 : Nat) (sh : List Int) (w : World) (_ : Row w (some a1) n1 sh) (_ : n1 ≤ c1),
    Calls Try.prog 11 #[.slice (some a1) n1 c1] w fun e w' => ∃ b1 m1 d1 b2 m2 d2, e = .returned (.tuple #[.agg #[.int .i64 (F sh).c, .slice b1 m1 d1, .slice b2 m2 d2], .bool (F sh).code]) ∧ Own w' w.heap.size b1 m1 (F sh).sh ∧ Own w' w.heap.size b2 m2 (F sh).dt ∧ Apart b1 m1 b2 m2 ∧ Below w.heap.size w w'

theorem eqIntS_refl (a b : Option Addr) (n m ca cb : Nat) (xs : List Int) (w : World) (hx : Row w a n xs) (hy : Row w b m xs) :
    Calls Try.prog 13 #[.slice a n ca, .slice b m cb] w fun e w' => e = .returned (.bool true) ∧ Below w.heap.size w w' :=
  (eqIntS_any a b n m ca cb xs xs w hx hy).mono (by rintro e w' ⟨rfl, q, rfl⟩; exact ⟨by simp, Below.drewN (Below.refl _ _) q⟩)

set_option maxRecDepth 20000 in
set_option maxHeartbeats 4000000 in
theorem law_small (F : List Int → VAns) (hspec : Spec F) (himp : Impl F) (a1 : Option Addr) (n1 c1 : Nat) (sh : List Int) (w : World) (h1 : Row w a1 n1 sh) (hA : n1 ≤ 1048576) :
    Calls Try.prog 3 #[.slice a1 n1 c1] w fun e w' => e = .returned (.bool true) ∧ Below w.heap.size w w' := by
  have H1 := hide h1
  clear h1
  have HS := hide hspec
  have HI := hide himp
  clear hspec himp
  go_enter Try.func3, Try.ntmps3
  go_wp2_with fail
  refine (toIntS_any _ _ _ sh _ (unhide H1)).mono ?_
  rintro e w2 ⟨g1, rfl, hg, hX1, hb2⟩
  have hK2 := hide hb2
  clear hb2 hg
  go_wp2_with fail
  refine (unhide HS _ _ _ sh _ (by exact hX1.row (unhide H1).len (unhide H1).small) (Nat.le_refl _)).mono ?_
  rintro e w3 ⟨b1, m1, d1, b2, m2, d2, rfl, hR1, hR2, hb3⟩
  have hK3 := hide ((unhide hK2).trans (hb3.mono (unhide hK2).size))
  have hz3 := (unhide hK3).size
  clear hb3 hK2 hX1 w2
  generalize hr : F sh = r at *
  obtain ⟨rc, rsh, rdt, rcode⟩ := r
  have HR := hide hr
  clear hr
  simp only at hR1 hR2
  have HR1 := hide hR1
  have HR2 := hide hR2
  clear hR1 hR2
  go_wp2_with fail
  refine (toIntS_any _ _ _ sh _ (by exact ((unhide H1).below (Nat.le_refl _) (unhide hK3)).alloc _)).mono ?_
  rintro e w4 ⟨g3, rfl, hg, hX1, hb4⟩
  have hK4 := hide (((unhide hK3).alloc hz3 _).trans (hb4.mono (by simp; omega)))
  have B6 : Hid (VBox w4 w3.heap.size rc (.slice b1 m1 d1) (.slice b2 m2 d2)) := (VBox.new w3 _ _ _).below (Nat.le_refl _) hb4
  have HQ1 : Hid (Row w4 b1 m1 rsh) := ((unhide HR1).alloc _).below (Nat.le_refl _) hb4
  have HQ2 : Hid (Row w4 b2 m2 rdt) := ((unhide HR2).alloc _).below (Nat.le_refl _) hb4
  have HL1 : Hid (∀ k, At b1 m1 k → k < g3) := fun k hk => by have := (unhide HR1).hi hk; simp at hg; omega
  have HL2 : Hid (∀ k, At b2 m2 k → k < g3) := fun k hk => by have := (unhide HR2).hi hk; simp at hg; omega
  have hg3 : w3.heap.size < g3 := by simp at hg; omega
  have hp6l : w.heap.size ≤ w3.heap.size := hz3
  have hg4 : g3 < w4.heap.size := hX1.lt
  have hz4 := (unhide hK4).size
  clear hb4 hK3 hz3 hg HR1 HR2
  generalize w3.heap.size = p6 at *
  clear w3
  go_wp2_with fail
  refine (unhide HI _ _ _ sh _ (by exact hX1.row (unhide H1).len (unhide H1).small) (Nat.le_refl _)).mono ?_
  rintro e w5 ⟨e1, k1, f1, e2, k2, f2, rfl, hO1, hO2, hap, hb5⟩
  have hK5 := hide ((unhide hK4).trans (hb5.mono hz4))
  have HR' := unhide HR
  rw [HR'] at hO1 hO2 ⊢
  simp only at hO1 hO2 ⊢
  clear HR'
  have HX1 := hide (hX1.below (Nat.le_refl _) hb5)
  have B6' := hide ((unhide B6).below (Nat.le_refl _) hb5)
  have HT1 := hide ((unhide HQ1).below (Nat.le_refl _) hb5)
  have HT2 := hide ((unhide HQ2).below (Nat.le_refl _) hb5)
  have HO1 := hide hO1
  have HO2 := hide hO2
  have HAP := hide hap
  have HU1 : Hid (∀ k, At e1 k1 k → k < w5.heap.size) := fun k hk => hO1.row.hi hk
  have HU2 : Hid (∀ k, At e2 k2 k → k < w5.heap.size) := fun k hk => hO2.row.hi hk
  have hz5 := (unhide hK5).size
  have hp8 : w4.heap.size ≤ w5.heap.size := hb5.size
  have hp6 : p6 < w5.heap.size := (unhide B6').lt
  obtain ⟨x60, x61, x62⟩ := (unhide B6').cells
  clear hb5 hK4 hz4 hX1 B6 HQ1 HQ2 hO1 hO2 hap
  generalize w4.heap.size = p8 at *
  clear w4
  go_wp2_with fail
  refine (eqView_refl _ _ _ _ _ _ _ _ _ _ _ _ _ rsh rdt _ (by exact ((unhide HO1).alloc _).row) (by exact ((unhide HO2).alloc _).row) (by exact (unhide HT1).alloc _) (by exact (unhide HT2).alloc _)).mono ?_
  rintro e w6 ⟨rfl, hb6⟩
  have hK6 := hide (((unhide hK5).alloc hz5 _).trans (hb6.mono (by simp; omega)))
  have HX1a := hide (((unhide HX1).alloc _).below (Nat.le_refl _) hb6)
  have B6a := hide (((unhide B6').alloc _).below (Nat.le_refl _) hb6)
  have B9a : Hid (VBox w6 w5.heap.size rc (.slice e1 k1 f1) (.slice e2 k2 f2)) := (VBox.new w5 _ _ _).below (Nat.le_refl _) hb6
  have HT1a := hide (((unhide HT1).alloc _).below (Nat.le_refl _) hb6)
  have HT2a := hide (((unhide HT2).alloc _).below (Nat.le_refl _) hb6)
  have HO1a := hide (((unhide HO1).alloc _).below (Nat.le_refl _) hb6)
  have HO2a := hide (((unhide HO2).alloc _).below (Nat.le_refl _) hb6)
  have hz6 := (unhide hK6).size
  clear hb6 hK5 hz5 hp6 x60 x61 x62 B6' HX1 HT1 HT2 HO1 HO2
  generalize w5.heap.size = p9 at *
  clear w5
  have hcc : (rcode != rcode) = false := by simp
  go_wp2_with fail
  refine (toIntS_any _ _ _ sh _ (by exact (unhide H1).below (Nat.le_refl _) (unhide hK6))).mono ?_
  rintro e w7 ⟨g5, rfl, hg, hZ1, hb7⟩
  have HZ1 := hide hZ1
  have HX1t := hide ((unhide HX1a).below (Nat.le_refl _) hb7)
  have hb7' := hide hb7
  clear hg hZ1 hb7
  go_wp2_with fail
  refine (eqIntS_refl _ _ _ _ _ _ sh _ (by exact (unhide HX1t).row (unhide H1).len (unhide H1).small) (by exact (unhide HZ1).row (unhide H1).len (unhide H1).small)).mono ?_
  rintro e wc ⟨rfl, hb8⟩
  have hbc : Below w6.heap.size w6 wc := (unhide hb7').trans (hb8.mono (unhide hb7').size)
  have hK7 := hide ((unhide hK6).trans (hbc.mono hz6))
  have HX1b := hide ((unhide HX1a).below (Nat.le_refl _) hbc)
  have B6b := hide ((unhide B6a).below (Nat.le_refl _) hbc)
  have B9b := hide ((unhide B9a).below (Nat.le_refl _) hbc)
  have HT1b := hide ((unhide HT1a).below (Nat.le_refl _) hbc)
  have HT2b := hide ((unhide HT2a).below (Nat.le_refl _) hbc)
  have HO1b := hide ((unhide HO1a).below (Nat.le_refl _) hbc)
  have HO2b := hide ((unhide HO2a).below (Nat.le_refl _) hbc)
  clear hbc hb8 hb7' HZ1 HX1t hK6 hz6 HX1a B6a B9a HT1a HT2a HO1a HO2a w7 w6
  go_wp2_with fail
  refine (markIntS_any _ _ _ g3 sh _ _ (by exact (unhide HX1b).own (unhide H1).len (unhide H1).small (Nat.le_refl _)) (by omega) (by omega)).mono ?_
  rintro e w7 ⟨rfl, hM1, hbut⟩
  clear hM1
  have hS : ∀ k, At (some ⟨g3, 0, none⟩) n1 k → g3 ≤ k ∧ k < p8 := fun k hk => by have := at_eq hk; omega
  have hK8 := hide ((unhide hK7).trans (hbut.below (by have := (unhide hK7).size; omega) (fun k hk => by have := hS k hk; omega)))
  have B6c := hide ((unhide B6b).but hbut (fun hk => by have := hS _ hk; omega))
  have B9c := hide ((unhide B9b).but hbut (fun hk => by have := hS _ hk; omega))
  have HT1c := hide (hbut.row (unhide HT1b) (fun k hk hk' => by have := hS k hk; have := unhide HL1 k hk'; omega))
  have HT2c := hide (hbut.row (unhide HT2b) (fun k hk hk' => by have := hS k hk; have := unhide HL2 k hk'; omega))
  have HO1c := hide (hbut.own (unhide HO1b) (fun k hk hk' => by have := hS k hk; have := (unhide HO1b).low hk'; omega))
  have HO2c := hide (hbut.own (unhide HO2b) (fun k hk hk' => by have := hS k hk; have := (unhide HO2b).low hk'; omega))
  clear hbut hS hK7 HX1b B6b B9b HT1b HT2b HO1b HO2b wc
  obtain ⟨x60, x61, x62⟩ := (unhide B6c).cells
  obtain ⟨x90, x91, x92⟩ := (unhide B9c).cells
  have hp6' : p6 < w7.heap.size := (unhide B6c).lt
  have hp9' : p9 < w7.heap.size := (unhide B9c).lt
  have hq1 : ¬ ((1 : Int) + n1 < 0) := by omega
  go_wp2_with fail
  refine (eqView_refl _ _ _ _ _ _ _ _ _ _ _ _ _ rsh rdt _ (by exact (unhide HO1c).row) (by exact (unhide HO2c).row) (by exact unhide HT1c) (by exact unhide HT2c)).mono ?_
  rintro e w8 ⟨rfl, hb8⟩
  have hz7 : w.heap.size ≤ w7.heap.size := (unhide hK8).size
  have hK9 := hide ((unhide hK8).trans (hb8.mono hz7))
  have B6d := hide ((unhide B6c).below (Nat.le_refl _) hb8)
  have B9d := hide ((unhide B9c).below (Nat.le_refl _) hb8)
  have HT1d := hide ((unhide HT1c).below (Nat.le_refl _) hb8)
  have HT2d := hide ((unhide HT2c).below (Nat.le_refl _) hb8)
  have HO1d := hide ((unhide HO1c).below (Nat.le_refl _) hb8)
  have HO2d := hide ((unhide HO2c).below (Nat.le_refl _) hb8)
  clear hb8 hK8 B6c B9c HT1c HT2c HO1c HO2c x60 x61 x62 x90 x91 x92 hp6' hp9' hz7 w7
  obtain ⟨x90, x91, x92⟩ := (unhide B9d).cells
  have hp9' : p9 < w8.heap.size := (unhide B9d).lt
  have hz8 := (unhide hK9).size
  go_wp2_with fail
  refine (markView_any _ _ _ _ _ _ _ p8 rsh rdt _ _ (by exact unhide HO1d) (by exact unhide HO2d) (unhide HAP) (by omega) (by omega)).mono ?_
  rintro e w9 ⟨rfl, hM1, hM2, hbut⟩
  have hS : ∀ k, (At e1 k1 k ∨ At e2 k2 k) → p8 ≤ k ∧ k < p9 := fun k hk => by rcases hk with hk | hk; exact ⟨(unhide HO1d).low hk, unhide HU1 k hk⟩; exact ⟨(unhide HO2d).low hk, unhide HU2 k hk⟩
  have hKa := hide ((unhide hK9).trans (hbut.below hz8 (fun k hk => by have := hS k hk; omega)))
  have B6e := hide ((unhide B6d).but hbut (fun hk => by have := hS _ hk; omega))
  have B9e := hide ((unhide B9d).but hbut (fun hk => by have := hS _ hk; omega))
  have HT1e := hide (hbut.row (unhide HT1d) (fun k hk hk' => by have := hS k hk; have := unhide HL1 k hk'; omega))
  have HT2e := hide (hbut.row (unhide HT2d) (fun k hk hk' => by have := hS k hk; have := unhide HL2 k hk'; omega))
  have HM1 := hide hM1.row
  have HM2 := hide hM2.row
  have hks : k1 ≤ 17592186044416 ∧ k2 ≤ 17592186044416 := ⟨(unhide HO1d).small, (unhide HO2d).small⟩
  obtain ⟨hks1, hks2⟩ := hks
  clear hbut hS hK9 B6d B9d HT1d HT2d HO1d HO2d x90 x91 x92 hp9' hM1 hM2 hz8 w8
  obtain ⟨x90, x91, x92⟩ := (unhide B9e).cells
  have hp9' : p9 < w9.heap.size := (unhide B9e).lt
  go_wp2_with fail
  refine (heldView_marks _ _ _ _ _ _ _ _ _ (by exact unhide HM1) (by exact unhide HM2) (by omega) (by omega)).mono ?_
  rintro e wa ⟨rfl, hba⟩
  have hz9 : w.heap.size ≤ w9.heap.size := (unhide hKa).size
  have hKb := hide ((unhide hKa).trans (hba.mono hz9))
  have B6f := hide ((unhide B6e).below (Nat.le_refl _) hba)
  have HT1f := hide ((unhide HT1e).below (Nat.le_refl _) hba)
  have HT2f := hide ((unhide HT2e).below (Nat.le_refl _) hba)
  clear hba hKa B6e B9e HT1e HT2e HM1 HM2 x90 x91 x92 hp9' hz9 w9
  have hzb := (unhide hKb).size
  have hq0 : ¬ ((1 : Int) + k1 + k2 < 0) := by omega
  go_wp2_with fail
  refine (toIntS_any _ _ _ sh _ (by exact (unhide H1).below (Nat.le_refl _) (unhide hKb))).mono ?_
  rintro e wb ⟨g6, rfl, hg, hX1, hbb⟩
  clear hg
  have hKc := hide ((unhide hKb).trans (hbb.mono hzb))
  have B6g := hide ((unhide B6f).below (Nat.le_refl _) hbb)
  have HT1g := hide ((unhide HT1f).below (Nat.le_refl _) hbb)
  have HT2g := hide ((unhide HT2f).below (Nat.le_refl _) hbb)
  clear hbb hKb B6f HT1f HT2f hzb wa
  go_wp2_with fail
  refine (unhide HI _ _ _ sh _ (by exact hX1.row (unhide H1).len (unhide H1).small) (Nat.le_refl _)).mono ?_
  rintro e wd ⟨i1, j1, l1, i2, j2, l2, rfl, hO1, hO2, hap, hbd⟩
  clear hap
  have HR' := unhide HR
  rw [HR'] at hO1 hO2 ⊢
  simp only at hO1 hO2 ⊢
  clear HR'
  have hKd := hide ((unhide hKc).trans (hbd.mono (unhide hKc).size))
  have B6h := hide ((unhide B6g).below (Nat.le_refl _) hbd)
  have HT1h := hide ((unhide HT1g).below (Nat.le_refl _) hbd)
  have HT2h := hide ((unhide HT2g).below (Nat.le_refl _) hbd)
  have HO1 := hide hO1.row
  have HO2 := hide hO2.row
  have hsz : w.heap.size ≤ wd.heap.size := (unhide hKd).size
  clear hbd hKc B6g HT1g HT2g hO1 hO2 hX1 wb
  obtain ⟨x60, x61, x62⟩ := (unhide B6h).cells
  have hp6' : p6 < wd.heap.size := (unhide B6h).lt
  go_wp2_with fail
  refine (eqView_refl _ _ _ _ _ _ _ _ _ _ _ _ _ rsh rdt _ (by exact (unhide HO1).alloc _) (by exact (unhide HO2).alloc _) (by exact (unhide HT1h).alloc _) (by exact (unhide HT2h).alloc _)).mono ?_
  rintro e we ⟨rfl, hbe⟩
  have hKe := hide (((unhide hKd).alloc hsz _).trans (hbe.mono (by simp; omega)))
  clear hbe hKd B6h HT1h HT2h HO1 HO2 x60 x61 x62 hp6' hsz
  go_wp2
  go_ret
  exact ⟨rfl, unhide hKe⟩

set_option maxHeartbeats 400000 in
theorem law_big (a1 : Option Addr) (n1 c1 : Nat) (w : World) (h1 : n1 ≤ 9223372036854775807) (hA : 1048576 < n1) :
    Calls Try.prog 3 #[.slice a1 n1 c1] w fun e w' => e = .returned (.bool true) ∧ Below w.heap.size w w' := by
  have hq : (1048576 : Int) < (n1 : Int) := by omega
  go_enter Try.func3, Try.ntmps3
  go_wp2
  go_ret
  exact ⟨rfl, Below.refl _ _⟩

theorem law_walk (F : List Int → VAns) (hspec : Spec F) (himp : Impl F) (a1 : Option Addr) (n1 c1 : Nat) (sh : List Int) (w : World) (h1 : Raw w a1 n1 sh) :
    Calls Try.prog 3 #[.slice a1 n1 c1] w fun e w' => e = .returned (.bool true) ∧ Below w.heap.size w w' := by
  by_cases hA : 1048576 < n1
  · exact law_big a1 n1 c1 w h1.max hA
  · exact law_small F hspec himp a1 n1 c1 sh w (h1.row (by omega)) (by omega)

end LawWholeView
end Go.Proofs.Ytadbhidpmihghaa
