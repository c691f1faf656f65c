import Derived.Test.YtngbmcljhcckmaaPMark
import Derived.Test.YtngbmcljhcckmaaMBase
namespace Go.Proofs.Ytngbmcljhcckmaa
open Go.RowKit
namespace LawIndex

def Spec (F : Bool → List Int → List Int → List PartD → Ans) : Prop := ∀ (c : Bool) (a1 a2 ap : Addr) (n1 n2 c1 c2 np cp : Nat) (sh dt : List Int) (ps : List PartD) (w : World) (_ : Row w (some a1) n1 sh) (_ : Row w (some a2) n2 dt) (_ : PRowN w (some ap) np ps) (_ : n1 ≤ c1) (_ : n2 ≤ c2) (_ : np ≤ cp),
    Calls Try.prog 26 #[.agg #[.bool c, .slice (some a1) n1 c1, .slice (some a2) n2 c2], .slice (some ap) np cp] w fun e w' => ∃ e1 k1 f1 e2 k2 f2, e = .returned (.tuple #[.agg #[.bool (F c sh dt ps).c, .slice e1 k1 f1, .slice e2 k2 f2], .int .i64 (F c sh dt ps).code]) ∧ Row w' e1 k1 (F c sh dt ps).sh ∧ Row w' e2 k2 (F c sh dt ps).dt ∧ Below w.heap.size w w'

def Impl (F : Bool → List Int → List Int → List PartD → Ans) : Prop := ∀ (c : Bool) (a1 a2 ap : Addr) (n1 n2 c1 c2 np cp : Nat) (sh dt : List Int) (ps : List PartD) (w : World) (_ : Row w (some a1) n1 sh) (_ : Row w (some a2) n2 dt) (_ : PRowN w (some ap) np ps) (_ : n1 ≤ c1) (_ : n2 ≤ c2) (_ : np ≤ cp),
    Calls Try.prog 28 #[.agg #[.bool c, .slice (some a1) n1 c1, .slice (some a2) n2 c2], .slice (some ap) np cp] w fun e w' => ∃ e1 k1 f1 e2 k2 f2, e = .returned (.tuple #[.agg #[.bool (F c sh dt ps).c, .slice e1 k1 f1, .slice e2 k2 f2], .int .i64 (F c sh dt ps).code]) ∧ Own w' w.heap.size e1 k1 (F c sh dt ps).sh ∧ Own w' w.heap.size e2 k2 (F c sh dt ps).dt ∧ Apart e1 k1 e2 k2 ∧ Below w.heap.size w w'

set_option maxRecDepth 20000 in
set_option maxHeartbeats 8000000 in
theorem law_walk (F : Bool → List Int → List Int → List PartD → Ans) (hspec : Spec F) (himp : Impl F) (c : Bool) (a1 a2 ap : Option Addr) (n1 n2 c1 c2 np cp : Nat) (sh dt : List Int) (ps : List PartD) (w : World) (h1 : Raw w a1 n1 sh) (h2 : Raw w a2 n2 dt) (hp : PRaw w ap np ps) :
    Calls Try.prog 6 #[.agg #[.bool c, .slice a1 n1 c1, .slice a2 n2 c2], .slice ap np cp] w fun e w' => e = .returned (.bool true) ∧ Below w.heap.size w w' := by
  by_cases hA : (1048576 : Int) < n1 + n2
  · go_enter Try.func6, Try.ntmps6
    go_wp2_with fail
    refine (szArray_big _ _ _ _ _ _ _ _ _ h1.max h2.max (by omega) (by omega) hA).mono ?_
    rintro e w1 ⟨rfl, hb1⟩
    have hK1 := hb1.mono (B' := w.heap.size + 1) (by simp)
    obtain ⟨hB1, hz1, hc1⟩ := box1 hK1
    go_wp2
    go_ret
    exact ⟨rfl, hB1⟩
  have hA' : (n1 : Int) + n2 ≤ 1048576 := by omega
  clear hA
  have H1 := hide (h1.row (by omega))
  have H2 := hide (h2.row (by omega))
  have HP := hide hp
  clear h1 h2 hp
  have HS := hide (hspec c)
  have HI := hide (himp c)
  clear hspec himp
  obtain ⟨R, hR⟩ : ∃ R, F c sh dt ps = R := ⟨_, rfl⟩
  obtain ⟨rc, rsh, rdt, rcode⟩ := R
  have HR := hide hR
  clear hR
  go_enter Try.func6, Try.ntmps6
  go_wp2_with fail
  refine (szArray_ok _ _ _ _ _ _ _ _ _ (by omega) (by omega)).mono ?_
  rintro e w1 ⟨rfl, hb1⟩
  have hK1 := hb1.mono (B' := w.heap.size + 1) (by simp)
  obtain ⟨hB1, hz1, hc1⟩ := box1 hK1
  clear hb1
  have hq1 : ¬ ((1048576 : Int) - n1 - n2 < 0) := by omega
  go_wp2_with fail
  refine (szPartS_any _ _ _ ps _ _ (by exact (unhide HP).below (Nat.le_refl _) hB1) (by omega) (by omega)).mono ?_
  rintro e w2 ⟨r2, rfl, hr2, hb2⟩
  have hK2 := hide (hK1.trans (hb2.mono (by omega)))
  obtain ⟨hB2, hz2, hc2⟩ := box1 (unhide hK2)
  clear hb2 hK1 hB1 hz1 hc1 w1
  rcases hr2 with rfl | ⟨q0, q1, q2, q3⟩
  · go_wp2
    go_ret
    exact ⟨rfl, hB2⟩
  have hq2 : ¬ (r2 < 0) := by omega
  have HPR := hide ((unhide HP).row q2 q3)
  have HSM := hide q3
  clear q0 q1 q3 HP
  have HARG : Hid (∀ wr, Below (w.heap.size + 1) (w.alloc (.cells #[.bool c, .slice a1 n1 c1, .slice a2 n2 c2] 24)) wr → Below w.heap.size w wr ∧ w.heap.size + 1 ≤ wr.heap.size ∧ w.heap.size < wr.heap.size ∧ wr.cell? ⟨w.heap.size, 0, none⟩ = some (.bool c) ∧ wr.cell? ⟨w.heap.size, 1, none⟩ = some (.slice a1 n1 c1) ∧ wr.cell? ⟨w.heap.size, 2, none⟩ = some (.slice a2 n2 c2)) := by
    intro wr hK
    obtain ⟨hB, hz, hc⟩ := box1 hK
    refine ⟨hB, hz, by omega, ?_, ?_, ?_⟩
    all_goals (rw [hc _ _ (by omega)]; simp)
  generalize hW0 : (w.alloc (.cells #[.bool c, .slice a1 n1 c1, .slice a2 n2 c2] 24)) = W0 at hK2 HARG
  clear hB2 hz2 hc2 hW0
  have HK := hK2
  clear hK2
  obtain ⟨hB, hz, s0, x0, x1, x2⟩ := unhide HARG _ (unhide HK)
  go_wp2_with fail
  refine (toArray_any _ _ _ _ _ _ _ sh dt _ (by exact (unhide H1).below (Nat.le_refl _) hB) (by exact (unhide H2).below (Nat.le_refl _) hB)).mono ?_
  rintro e w3 ⟨g1, g2, rfl, hg, hlt, hX1, hX2, hb3⟩
  have X1 := hide hX1
  have X2 := hide hX2
  replace HK := hide ((unhide HK).trans (hb3.mono hz))
  clear hB hz s0 x0 x1 x2
  clear hb3 hX1 hX2 hg hlt
  clear w2
  obtain ⟨hB, hz, s0, x0, x1, x2⟩ := unhide HARG _ (unhide HK)
  go_wp2_with fail
  refine (toPartS_any _ _ _ ps _ (by exact (unhide HPR).below (Nat.le_refl _) hB) (unhide HSM)).mono ?_
  rintro e w4 ⟨gp, rfl, hgp, hXP, hb4⟩
  replace HK := hide ((unhide HK).trans (hb4.mono hz))
  replace X1 := hide ((unhide X1).below (Nat.le_refl _) hb4)
  replace X2 := hide ((unhide X2).below (Nat.le_refl _) hb4)
  have XP := hide hXP
  clear hB hz s0 x0 x1 x2
  clear hb4 hXP hgp
  clear w3
  obtain ⟨hB, hz, s0, x0, x1, x2⟩ := unhide HARG _ (unhide HK)
  go_wp2_with fail
  refine (unhide HS _ _ _ _ _ _ _ _ _ sh dt ps _ (by exact (unhide X1).row (unhide H1).len (unhide H1).small) (by exact (unhide X2).row (unhide H2).len (unhide H2).small) (by exact (unhide XP).rowN) (Nat.le_refl _) (Nat.le_refl _) (Nat.le_refl _)).mono ?_
  rintro e w5 ⟨e1, k1, f1, e2, k2, f2, rfl, hE1, hE2, hb5⟩
  have HR' := unhide HR
  rw [HR'] at hE1 hE2 ⊢
  simp only at hE1 hE2 ⊢
  clear HR'
  clear X1 X2 XP HS
  replace HK := hide ((unhide HK).trans (hb5.mono hz))
  have T1 := hide hE1
  have T2 := hide hE2
  clear hB hz s0 x0 x1 x2
  clear hb5 hE1 hE2
  clear w4
  obtain ⟨hB, hz, s0, x0, x1, x2⟩ := unhide HARG _ (unhide HK)
  go_wp2_with fail
  refine (toArray_any _ _ _ _ _ _ _ sh dt _ (by exact ((unhide H1).below (Nat.le_refl _) hB).alloc _) (by exact ((unhide H2).below (Nat.le_refl _) hB).alloc _)).mono ?_
  rintro e w6 ⟨h1, h2, rfl, hg, hlt, hX1, hX2, hb6⟩
  have HL1 : Hid (∀ k, At e1 k1 k → k < w5.heap.size) := fun k hk => (unhide T1).hi hk
  have HL2 : Hid (∀ k, At e2 k2 k → k < w5.heap.size) := fun k hk => (unhide T2).hi hk
  replace HK := hide (((unhide HK).alloc hz _).trans (hb6.mono (by simp; omega)))
  replace T1 := hide (((unhide T1).alloc _).below (Nat.le_refl _) hb6)
  replace T2 := hide (((unhide T2).alloc _).below (Nat.le_refl _) hb6)
  have B6 : Hid (Box w6 w5.heap.size rc (.slice e1 k1 f1) (.slice e2 k2 f2)) := (Box.new w5 _ _ _).below (Nat.le_refl _) hb6
  have hg1 : w5.heap.size < h1 := by simp at hg; omega
  have hp6l : w.heap.size + 1 ≤ w5.heap.size := hz
  have hg2 : h2 < w6.heap.size := hX2.lt
  have X1 := hide hX1
  have X2 := hide hX2
  clear hB hz s0 x0 x1 x2
  clear hb6 hX1 hX2 hg
  generalize w5.heap.size = p6 at *
  clear w5
  obtain ⟨hB, hz, s0, x0, x1, x2⟩ := unhide HARG _ (unhide HK)
  go_wp2_with fail
  refine (toPartS_any _ _ _ ps _ (by exact ((unhide HPR).below (Nat.le_refl _) hB).alloc _) (unhide HSM)).mono ?_
  rintro e w7 ⟨gq, rfl, hgq, hXP, hb7⟩
  replace HK := hide (((unhide HK).alloc hz _).trans (hb7.mono (by simp; omega)))
  replace T1 := hide (((unhide T1).alloc _).below (Nat.le_refl _) hb7)
  replace T2 := hide (((unhide T2).alloc _).below (Nat.le_refl _) hb7)
  replace B6 := hide (((unhide B6).alloc _).below (Nat.le_refl _) hb7)
  replace X1 := hide (((unhide X1).alloc _).below (Nat.le_refl _) hb7)
  replace X2 := hide (((unhide X2).alloc _).below (Nat.le_refl _) hb7)
  have B8 : Hid (Box w7 w6.heap.size c (.slice (some ⟨h1, 0, none⟩) n1 n1) (.slice (some ⟨h2, 0, none⟩) n2 n2)) := (Box.new w6 _ _ _).below (Nat.le_refl _) hb7
  have hgp : w6.heap.size < gq := by simp at hgq; omega
  have XP := hide hXP
  clear hB hz s0 x0 x1 x2
  clear hb7 hXP hgq
  generalize w6.heap.size = p8 at *
  clear w6
  obtain ⟨hB, hz, s0, x0, x1, x2⟩ := unhide HARG _ (unhide HK)
  obtain ⟨y0, y1, y2, y3, y4, y5, y6⟩ := (unhide B8).free'
  go_wp2_with fail
  refine (unhide HI _ _ _ _ _ _ _ _ _ sh dt ps _ (by exact (unhide X1).row (unhide H1).len (unhide H1).small) (by exact (unhide X2).row (unhide H2).len (unhide H2).small) (by exact (unhide XP).rowN) (Nat.le_refl _) (Nat.le_refl _) (Nat.le_refl _)).mono ?_
  rintro e w8 ⟨i1, j1, l1, i2, j2, l2, rfl, hO1, hO2, hap, hb8⟩
  have HR' := unhide HR
  rw [HR'] at hO1 hO2 ⊢
  simp only at hO1 hO2 ⊢
  clear HR'
  replace HK := hide ((unhide HK).trans (hb8.mono hz))
  replace T1 := hide ((unhide T1).below (Nat.le_refl _) hb8)
  replace T2 := hide ((unhide T2).below (Nat.le_refl _) hb8)
  replace B6 := hide ((unhide B6).below (Nat.le_refl _) hb8)
  replace X1 := hide ((unhide X1).below (Nat.le_refl _) hb8)
  replace X2 := hide ((unhide X2).below (Nat.le_refl _) hb8)
  replace B8 := hide ((unhide B8).below (Nat.le_refl _) hb8)
  replace XP := hide ((unhide XP).below (Nat.le_refl _) hb8)
  have O1 := hide hO1
  have O2 := hide hO2
  have HAP := hide hap
  have HU1 : Hid (∀ k, At i1 j1 k → k < w8.heap.size) := fun k hk => hO1.row.hi hk
  have HU2 : Hid (∀ k, At i2 j2 k → k < w8.heap.size) := fun k hk => hO2.row.hi hk
  have hsz := hb8.size
  clear hB hz s0 x0 x1 x2 y0 y1 y2 y3 y4 y5 y6
  clear hb8 hO1 hO2 hap
  generalize w7.heap.size = q7 at *
  clear w7
  obtain ⟨hB, hz, s0, x0, x1, x2⟩ := unhide HARG _ (unhide HK)
  obtain ⟨y0, y1, y2, y3, y4, y5, y6⟩ := (unhide B6).free'
  go_wp2_with fail
  refine (eqArray_refl _ _ _ _ _ _ _ _ _ _ _ _ _ rsh rdt _ (by exact ((unhide O1).alloc _).row) (by exact ((unhide O2).alloc _).row) (by exact (unhide T1).alloc _) (by exact (unhide T2).alloc _)).mono ?_
  rintro e w9 ⟨rfl, hb9⟩
  replace HK := hide (((unhide HK).alloc hz _).trans (hb9.mono (by simp; omega)))
  replace T1 := hide (((unhide T1).alloc _).below (Nat.le_refl _) hb9)
  replace T2 := hide (((unhide T2).alloc _).below (Nat.le_refl _) hb9)
  replace B6 := hide (((unhide B6).alloc _).below (Nat.le_refl _) hb9)
  replace X1 := hide (((unhide X1).alloc _).below (Nat.le_refl _) hb9)
  replace X2 := hide (((unhide X2).alloc _).below (Nat.le_refl _) hb9)
  replace B8 := hide (((unhide B8).alloc _).below (Nat.le_refl _) hb9)
  replace XP := hide (((unhide XP).alloc _).below (Nat.le_refl _) hb9)
  replace O1 := hide (((unhide O1).alloc _).below (Nat.le_refl _) hb9)
  replace O2 := hide (((unhide O2).alloc _).below (Nat.le_refl _) hb9)
  have BA : Hid (Box w9 w8.heap.size rc (.slice i1 j1 l1) (.slice i2 j2 l2)) := (Box.new w8 _ _ _).below (Nat.le_refl _) hb9
  clear hB hz s0 x0 x1 x2 y0 y1 y2 y3 y4 y5 y6
  clear hb9
  generalize w8.heap.size = pA at *
  clear w8
  obtain ⟨hB, hz, s0, x0, x1, x2⟩ := unhide HARG _ (unhide HK)
  obtain ⟨y0, y1, y2, y3, y4, y5, y6⟩ := (unhide B8).free'
  have hcc : (rcode != rcode) = false := by simp
  go_wp2_with fail
  go_cut [58] (fun r wr => r = .bool false ∧ Below w9.heap.size w9 wr)
  case first =>
    go_region_with (first
      | (go_at_call 11; refine (toArray_any _ _ _ _ _ _ _ sh dt _ (by exact (unhide H1).below (Nat.le_refl _) hB.drew) (by exact (unhide H2).below (Nat.le_refl _) hB.drew)).mono ?_; rintro e v7 ⟨g5, g6, rfl, hg, hlt2, hZ1, hZ2, hb7⟩; obtain ⟨hc7, hf7⟩ := bcell hb7; clear hf7; simp at hc7)
      | (go_at_call 13; refine (eqArray_refl _ _ _ _ _ _ _ _ _ _ _ _ _ sh dt _ (by exact ((unhide X1).drew.below (Nat.le_refl _) hb7).row (unhide H1).len (unhide H1).small) (by exact ((unhide X2).drew.below (Nat.le_refl _) hb7).row (unhide H2).len (unhide H2).small) (by exact hZ1.row (unhide H1).len (unhide H1).small) (by exact hZ2.row (unhide H2).len (unhide H2).small)).mono ?_; rintro e v8 ⟨rfl, hb8⟩))
    all_goals go_wp2_with fail
    all_goals (go_meet; case rel => exact ⟨rfl, ((Below.refl _ _).drew.trans hb7).trans (hb8.mono hb7.size)⟩)
  case rest =>
  obtain ⟨rfl, hbc⟩ := hcut
  replace HK := hide ((unhide HK).trans (hbc.mono hz))
  replace T1 := hide ((unhide T1).below (Nat.le_refl _) hbc)
  replace T2 := hide ((unhide T2).below (Nat.le_refl _) hbc)
  replace B6 := hide ((unhide B6).below (Nat.le_refl _) hbc)
  replace X1 := hide ((unhide X1).below (Nat.le_refl _) hbc)
  replace X2 := hide ((unhide X2).below (Nat.le_refl _) hbc)
  replace B8 := hide ((unhide B8).below (Nat.le_refl _) hbc)
  replace XP := hide ((unhide XP).below (Nat.le_refl _) hbc)
  replace O1 := hide ((unhide O1).below (Nat.le_refl _) hbc)
  replace O2 := hide ((unhide O2).below (Nat.le_refl _) hbc)
  replace BA := hide ((unhide BA).below (Nat.le_refl _) hbc)
  clear hB hz s0 x0 x1 x2 y0 y1 y2 y3 y4 y5 y6
  clear hbc 
  clear w9
  obtain ⟨hB, hz, s0, x0, x1, x2⟩ := unhide HARG _ (unhide HK)
  go_wp2_with fail
  refine (toPartS_any _ _ _ ps _ (by exact (unhide HPR).below (Nat.le_refl _) hB) (unhide HSM)).mono ?_
  rintro e wd ⟨gr, rfl, hgr, hXQ, hbd⟩
  replace HK := hide ((unhide HK).trans (hbd.mono hz))
  replace T1 := hide ((unhide T1).below (Nat.le_refl _) hbd)
  replace T2 := hide ((unhide T2).below (Nat.le_refl _) hbd)
  replace B6 := hide ((unhide B6).below (Nat.le_refl _) hbd)
  replace X1 := hide ((unhide X1).below (Nat.le_refl _) hbd)
  replace X2 := hide ((unhide X2).below (Nat.le_refl _) hbd)
  replace B8 := hide ((unhide B8).below (Nat.le_refl _) hbd)
  replace XP := hide ((unhide XP).below (Nat.le_refl _) hbd)
  replace O1 := hide ((unhide O1).below (Nat.le_refl _) hbd)
  replace O2 := hide ((unhide O2).below (Nat.le_refl _) hbd)
  replace BA := hide ((unhide BA).below (Nat.le_refl _) hbd)
  have XQ := hide hXQ
  clear hB hz s0 x0 x1 x2
  clear hbd hXQ hgr
  clear wc
  obtain ⟨hB, hz, s0, x0, x1, x2⟩ := unhide HARG _ (unhide HK)
  go_wp2_with fail
  refine (eqPartS_refl _ _ _ _ _ ps _ (by exact (unhide XP).row) (by exact (unhide XQ).row)).mono ?_
  rintro e we ⟨rfl, hbe⟩
  clear XQ
  replace HK := hide ((unhide HK).trans (hbe.mono hz))
  replace T1 := hide ((unhide T1).below (Nat.le_refl _) hbe)
  replace T2 := hide ((unhide T2).below (Nat.le_refl _) hbe)
  replace B6 := hide ((unhide B6).below (Nat.le_refl _) hbe)
  replace X1 := hide ((unhide X1).below (Nat.le_refl _) hbe)
  replace X2 := hide ((unhide X2).below (Nat.le_refl _) hbe)
  replace B8 := hide ((unhide B8).below (Nat.le_refl _) hbe)
  replace XP := hide ((unhide XP).below (Nat.le_refl _) hbe)
  replace O1 := hide ((unhide O1).below (Nat.le_refl _) hbe)
  replace O2 := hide ((unhide O2).below (Nat.le_refl _) hbe)
  replace BA := hide ((unhide BA).below (Nat.le_refl _) hbe)
  clear hB hz s0 x0 x1 x2
  clear hbe 
  clear wd
  obtain ⟨hB, hz, s0, x0, x1, x2⟩ := unhide HARG _ (unhide HK)
  obtain ⟨y0, y1, y2, y3, y4, y5, y6⟩ := (unhide B8).free'
  go_wp2_with fail
  refine (markArray_any _ _ _ _ _ _ _ h1 sh dt _ _ (by exact (unhide X1).own (unhide H1).len (unhide H1).small (Nat.le_refl _)) (by exact (unhide X2).own (unhide H2).len (unhide H2).small (by omega)) (fun k h h' => by have := at_eq h; have := at_eq h'; omega) (by omega) (by omega)).mono ?_
  rintro e wf ⟨rfl, hM1, hM2, hbut⟩
  clear hM1 hM2
  have hS : ∀ k, (At (some ⟨h1, 0, none⟩) n1 k ∨ At (some ⟨h2, 0, none⟩) n2 k) → h1 ≤ k ∧ k < p8 := fun k hk => by rcases hk with hk | hk <;> have := at_eq hk <;> omega
  have hXPH : gq < q7 := (unhide XP).1
  replace HK := hide ((unhide HK).trans (hbut.below hz (fun k hk => by have := hS k hk; omega)))
  clear X1
  clear X2
  clear B8
  replace T1 := hide (hbut.row (unhide T1) (fun k hk hk' => by have := hS k hk; have := unhide HL1 k hk'; omega))
  replace T2 := hide (hbut.row (unhide T2) (fun k hk hk' => by have := hS k hk; have := unhide HL2 k hk'; omega))
  replace B6 := hide ((unhide B6).but hbut (fun hk => by have := hS _ hk; omega))
  replace XP := hide ((unhide XP).but hbut (fun x hx1 hx2 hk => by have := hS x hk; omega))
  replace O1 := hide (hbut.own (unhide O1) (fun k hk hk' => by have := hS k hk; have := (unhide O1).low hk'; omega))
  replace O2 := hide (hbut.own (unhide O2) (fun k hk hk' => by have := hS k hk; have := (unhide O2).low hk'; omega))
  replace BA := hide ((unhide BA).but hbut (fun hk => by have := hS _ hk; omega))
  clear hB hz s0 x0 x1 x2 y0 y1 y2 y3 y4 y5 y6
  clear hbut hS
  clear we
  obtain ⟨hB, hz, s0, x0, x1, x2⟩ := unhide HARG _ (unhide HK)
  go_wp2_with fail
  refine (markPartS_any _ _ _ ps _ _ (by exact unhide XP) (by omega) (by omega)).mono ?_
  rintro e wg ⟨km, rfl, hkm0, hkm1, hbut⟩
  have hS : ∀ k, (gq ≤ k ∧ k < q7) → gq ≤ k ∧ k < q7 := fun k hk => hk
  replace HK := hide ((unhide HK).trans (hbut.below hz (fun k hk => by have := hS k hk; omega)))
  clear XP
  replace T1 := hide (hbut.row (unhide T1) (fun k hk hk' => by have := hS k hk; have := unhide HL1 k hk'; omega))
  replace T2 := hide (hbut.row (unhide T2) (fun k hk hk' => by have := hS k hk; have := unhide HL2 k hk'; omega))
  replace B6 := hide ((unhide B6).but hbut (fun hk => by have := hS _ hk; omega))
  replace O1 := hide (hbut.own (unhide O1) (fun k hk hk' => by have := hS k hk; have := (unhide O1).low hk'; omega))
  replace O2 := hide (hbut.own (unhide O2) (fun k hk hk' => by have := hS k hk; have := (unhide O2).low hk'; omega))
  replace BA := hide ((unhide BA).but hbut (fun hk => by have := hS _ hk; omega))
  clear hB hz s0 x0 x1 x2
  clear hbut hS
  clear wf
  have hkm2 : ¬ (km < 0) := by omega
  obtain ⟨hB, hz, s0, x0, x1, x2⟩ := unhide HARG _ (unhide HK)
  obtain ⟨y0, y1, y2, y3, y4, y5, y6⟩ := (unhide B6).free'
  obtain ⟨q0, q1, q2, q3, q4, q5, q6⟩ := (unhide BA).free'
  go_wp2_with fail
  refine (eqArray_refl _ _ _ _ _ _ _ _ _ _ _ _ _ rsh rdt _ (by exact (unhide O1).row) (by exact (unhide O2).row) (by exact unhide T1) (by exact unhide T2)).mono ?_
  rintro e wh ⟨rfl, hbh⟩
  replace HK := hide ((unhide HK).trans (hbh.mono hz))
  replace T1 := hide ((unhide T1).below (Nat.le_refl _) hbh)
  replace T2 := hide ((unhide T2).below (Nat.le_refl _) hbh)
  replace B6 := hide ((unhide B6).below (Nat.le_refl _) hbh)
  replace O1 := hide ((unhide O1).below (Nat.le_refl _) hbh)
  replace O2 := hide ((unhide O2).below (Nat.le_refl _) hbh)
  replace BA := hide ((unhide BA).below (Nat.le_refl _) hbh)
  clear hB hz s0 x0 x1 x2 y0 y1 y2 y3 y4 y5 y6 q0 q1 q2 q3 q4 q5 q6
  clear hbh 
  clear wg
  obtain ⟨hB, hz, s0, x0, x1, x2⟩ := unhide HARG _ (unhide HK)
  obtain ⟨y0, y1, y2, y3, y4, y5, y6⟩ := (unhide BA).free'
  go_wp2_with fail
  refine (markArray_any _ _ _ _ _ _ _ q7 rsh rdt _ _ (by exact unhide O1) (by exact unhide O2) (unhide HAP) (by omega) (by omega)).mono ?_
  rintro e wi ⟨rfl, hM1, hM2, hbut⟩
  have hS : ∀ k, (At i1 j1 k ∨ At i2 j2 k) → q7 ≤ k ∧ k < pA := fun k hk => by rcases hk with hk | hk; exact ⟨(unhide O1).low hk, unhide HU1 k hk⟩; exact ⟨(unhide O2).low hk, unhide HU2 k hk⟩
  have M1 := hide hM1.row
  have M2 := hide hM2.row
  have hks : j1 ≤ 17592186044416 ∧ j2 ≤ 17592186044416 := ⟨(unhide O1).small, (unhide O2).small⟩
  obtain ⟨hks1, hks2⟩ := hks
  replace HK := hide ((unhide HK).trans (hbut.below hz (fun k hk => by have := hS k hk; omega)))
  clear O1
  clear O2
  replace T1 := hide (hbut.row (unhide T1) (fun k hk hk' => by have := hS k hk; have := unhide HL1 k hk'; omega))
  replace T2 := hide (hbut.row (unhide T2) (fun k hk hk' => by have := hS k hk; have := unhide HL2 k hk'; omega))
  replace B6 := hide ((unhide B6).but hbut (fun hk => by have := hS _ hk; omega))
  replace BA := hide ((unhide BA).but hbut (fun hk => by have := hS _ hk; omega))
  clear hB hz s0 x0 x1 x2 y0 y1 y2 y3 y4 y5 y6
  clear hbut hS hM1 hM2
  clear wh
  obtain ⟨hB, hz, s0, x0, x1, x2⟩ := unhide HARG _ (unhide HK)
  obtain ⟨y0, y1, y2, y3, y4, y5, y6⟩ := (unhide BA).free'
  go_wp2_with fail
  refine (heldArray_marks _ _ _ _ _ _ _ _ _ (by exact unhide M1) (by exact unhide M2) (by omega) (by omega)).mono ?_
  rintro e wj ⟨rfl, hbj⟩
  clear M1 M2 BA
  replace HK := hide ((unhide HK).trans (hbj.mono hz))
  replace T1 := hide ((unhide T1).below (Nat.le_refl _) hbj)
  replace T2 := hide ((unhide T2).below (Nat.le_refl _) hbj)
  replace B6 := hide ((unhide B6).below (Nat.le_refl _) hbj)
  clear hB hz s0 x0 x1 x2 y0 y1 y2 y3 y4 y5 y6
  clear hbj 
  clear wi
  have hq0 : ¬ ((1 : Int) + j1 + j2 < 0) := by omega
  obtain ⟨hB, hz, s0, x0, x1, x2⟩ := unhide HARG _ (unhide HK)
  go_wp2_with fail
  refine (toArray_any _ _ _ _ _ _ _ sh dt _ (by exact (unhide H1).below (Nat.le_refl _) hB) (by exact (unhide H2).below (Nat.le_refl _) hB)).mono ?_
  rintro e wk ⟨g1, g2, rfl, hg, hlt', hX1, hX2, hbk⟩
  replace HK := hide ((unhide HK).trans (hbk.mono hz))
  replace T1 := hide ((unhide T1).below (Nat.le_refl _) hbk)
  replace T2 := hide ((unhide T2).below (Nat.le_refl _) hbk)
  replace B6 := hide ((unhide B6).below (Nat.le_refl _) hbk)
  have X1 := hide hX1
  have X2 := hide hX2
  clear hB hz s0 x0 x1 x2
  clear hbk hX1 hX2 hg hlt'
  clear wj
  obtain ⟨hB, hz, s0, x0, x1, x2⟩ := unhide HARG _ (unhide HK)
  go_wp2_with fail
  refine (toPartS_any _ _ _ ps _ (by exact (unhide HPR).below (Nat.le_refl _) hB) (unhide HSM)).mono ?_
  rintro e wl ⟨gp, rfl, hgp', hXP, hbl⟩
  replace HK := hide ((unhide HK).trans (hbl.mono hz))
  replace T1 := hide ((unhide T1).below (Nat.le_refl _) hbl)
  replace T2 := hide ((unhide T2).below (Nat.le_refl _) hbl)
  replace B6 := hide ((unhide B6).below (Nat.le_refl _) hbl)
  replace X1 := hide ((unhide X1).below (Nat.le_refl _) hbl)
  replace X2 := hide ((unhide X2).below (Nat.le_refl _) hbl)
  have XP := hide hXP
  clear hB hz s0 x0 x1 x2
  clear hbl hXP hgp'
  clear wk
  obtain ⟨hB, hz, s0, x0, x1, x2⟩ := unhide HARG _ (unhide HK)
  go_wp2_with fail
  refine (unhide HI _ _ _ _ _ _ _ _ _ sh dt ps _ (by exact (unhide X1).row (unhide H1).len (unhide H1).small) (by exact (unhide X2).row (unhide H2).len (unhide H2).small) (by exact (unhide XP).rowN) (Nat.le_refl _) (Nat.le_refl _) (Nat.le_refl _)).mono ?_
  rintro e wm ⟨i1', j1', l1', i2', j2', l2', rfl, hO1, hO2, hap, hbm⟩
  have HR' := unhide HR
  rw [HR'] at hO1 hO2 ⊢
  simp only at hO1 hO2 ⊢
  clear HR'
  clear X1 X2 XP
  replace HK := hide ((unhide HK).trans (hbm.mono hz))
  replace T1 := hide ((unhide T1).below (Nat.le_refl _) hbm)
  replace T2 := hide ((unhide T2).below (Nat.le_refl _) hbm)
  replace B6 := hide ((unhide B6).below (Nat.le_refl _) hbm)
  have R1 := hide hO1.row
  have R2 := hide hO2.row
  clear hB hz s0 x0 x1 x2
  clear hbm hO1 hO2 hap
  clear wl
  obtain ⟨hB, hz, s0, x0, x1, x2⟩ := unhide HARG _ (unhide HK)
  obtain ⟨y0, y1, y2, y3, y4, y5, y6⟩ := (unhide B6).free'
  go_wp2_with fail
  refine (eqArray_refl _ _ _ _ _ _ _ _ _ _ _ _ _ rsh rdt _ (by exact (unhide R1).alloc _) (by exact (unhide R2).alloc _) (by exact (unhide T1).alloc _) (by exact (unhide T2).alloc _)).mono ?_
  rintro e wn ⟨rfl, hbn⟩
  have HE := hide (hB.trans (((Below.refl _ _).alloc (Nat.le_refl _) _).mono (by omega) |>.trans (hbn.mono (by simp; omega))))
  clear hB hz s0 x0 x1 x2 y0 y1 y2 y3 y4 y5 y6
  clear hbn HK T1 T2 R1 R2 B6
  go_wp2
  go_ret
  exact ⟨rfl, unhide HE⟩

end LawIndex
end Go.Proofs.Ytngbmcljhcckmaa
