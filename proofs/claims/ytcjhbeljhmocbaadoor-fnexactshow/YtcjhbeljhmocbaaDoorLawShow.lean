import Derived.Test.YtcjhbeljhmocbaaDoorSpecShowH
import Derived.Test.YtcjhbeljhmocbaaDoorBytesEq
import Derived.Test.YtcjhbeljhmocbaaDoorBytesMark
import Derived.Test.YtcjhbeljhmocbaaDoorArrMarksM
import Derived.Test.YtcjhbeljhmocbaaDoorLawBase
import Derived.Test.YtcjhbeljhmocbaaDoorBoxB
namespace Go.Proofs.YtcjhbeljhmocbaaDoor
open Go.RowKit

theorem eqByteS_refl (a b : Option Addr) (n m ca cb : Nat) (xs : List Int) (w : World) (hx : RowB w a n xs) (hy : RowB w b m xs) (hn : n ≤ 17592186044416) :
    Calls Tryd.prog 8 #[.slice a n ca, .slice b m cb] w fun e w' => e = .returned (.bool true) ∧ Below w.heap.size w w' :=
  (eqByteS_any a b n m ca cb xs xs w hx hy hn).mono (by rintro e w' ⟨rfl, q, rfl⟩; exact ⟨by simp, Below.drewN (Below.refl _ _) _⟩)

theorem RowB.alloc {w : World} {a : Option Addr} {n : Nat} {zs : List Int} (h : RowB w a n zs) (o : Obj) : RowB (w.alloc o) a n zs := h.below (Nat.le_refl _) ((Below.refl _ _).alloc (Nat.le_refl _) _)

namespace LawShow

/-- What the developers' Show is to give where G holds (G: the tables lie as laid). -/
def Impl (G : World → Prop) : Prop := ∀ (c : Bool) (a1 a2 : Addr) (n1 n2 c1 c2 : Nat) (sh dt : List Int) (w : World) (_ : Row w (some a1) n1 sh) (_ : Row w (some a2) n2 dt) (_ : n1 ≤ c1) (_ : n2 ≤ c2) (_ : G w),
    Calls Tryd.prog 7 #[.agg #[.bool c, .slice (some a1) n1 c1, .slice (some a2) n2 c2]] w fun e w' => ∃ b m d, e = .returned (.slice b m d) ∧ OwnB w' w.heap.size b m (showT c sh dt) ∧ Below w.heap.size w w'

set_option maxRecDepth 20000 in
set_option maxHeartbeats 4000000 in
theorem law_small (G : World → Prop) (hGb : ∀ u v, G u → Below u.heap.size u v → G v) (himp : Impl G) (c : Bool) (a1 a2 : Option Addr) (n1 n2 c1 c2 : Nat) (sh dt : List Int) (w : World) (h1 : Row w a1 n1 sh) (h2 : Row w a2 n2 dt) (hG : G w) (hA : (n1 : Int) + n2 ≤ 1048576) :
    Calls Tryd.prog 3 #[.agg #[.bool c, .slice a1 n1 c1, .slice a2 n2 c2]] w fun e w' => e = .returned (.bool true) ∧ Below w.heap.size w w' := by
  have HG : Hid (∀ v, Below w.heap.size w v → G v) := fun v hv => hGb _ _ hG hv
  have H1 := hide h1
  have H2 := hide h2
  clear h1 h2 hG hGb
  have HI := hide (himp c)
  clear himp
  go_enter Tryd.func3, Tryd.ntmps3
  go_wp2_with fail
  refine (szArray_ok _ _ _ _ _ _ _ _ _ (by omega) (by omega)).mono ?_
  rintro e w1 ⟨rfl, hb1⟩
  have hK1 := hide (hb1.mono (B' := w.heap.size + 1) (by simp))
  obtain ⟨hB1, hz1, hc1⟩ := box1 (unhide hK1)
  clear hb1
  go_wp2_with fail
  refine (toArray_any _ _ _ _ _ _ _ sh dt _ (by exact (unhide H1).below (Nat.le_refl _) hB1) (by exact (unhide H2).below (Nat.le_refl _) hB1)).mono ?_
  rintro e w2 ⟨g1, g2, rfl, hg, hlt, hX1, hX2, hb2⟩
  have hK2 := hide ((unhide hK1).trans (hb2.mono (by omega)))
  obtain ⟨hB2, hz2, hc2⟩ := box1 (unhide hK2)
  clear hb2 hK1 hB1 hz1 hc1 hg w1
  go_wp2_with fail
  refine (Show_any _ _ _ _ _ _ _ sh dt _ (by exact hX1.row (unhide H1).len (unhide H1).small) (by exact hX2.row (unhide H2).len (unhide H2).small) (Nat.le_refl _)).mono ?_
  rintro e w3 ⟨gs, ks, ds, rfl, hR, hb3⟩
  have hK3 := hide ((unhide hK2).trans (hb3.mono (by omega)))
  obtain ⟨hB3, hz3, hc3⟩ := box1 (unhide hK3)
  have hz3' : w.heap.size < w3.heap.size := by omega
  clear hb3 hK2 hB2 hz2 hc2 hlt hX1 hX2 w2
  obtain ⟨rt, hr⟩ : ∃ l, showT c sh dt = l := ⟨_, rfl⟩
  rw [hr] at hR
  have HR := hide hr
  have HRW := hide hR
  clear hr hR
  go_wp2_with fail
  refine (toArray_any _ _ _ _ _ _ _ sh dt _ (by exact (unhide H1).below (Nat.le_refl _) hB3) (by exact (unhide H2).below (Nat.le_refl _) hB3)).mono ?_
  rintro e w4 ⟨g3, g4, rfl, hg, hlt, hX1, hX2, hb4⟩
  have hK4 := hide ((unhide hK3).trans (hb4.mono (by omega)))
  have HQ : Hid (RowB w4 (some ⟨gs, 0, none⟩) ks rt) := (unhide HRW).below (Nat.le_refl _) hb4
  have HL : Hid (∀ k, At (some ⟨gs, 0, none⟩) ks k → k < g3) := fun k hk => by have := (unhide HRW).hi hk; omega
  obtain ⟨hB4, hz4, hc4⟩ := box1 (unhide hK4)
  have hz4' : w.heap.size < w4.heap.size := by omega
  have hg3 : w.heap.size < g3 := by omega
  clear hb4 hK3 hB3 hz3 hc3 hz3' hg HRW w3
  have hg4 : g4 < w4.heap.size := hX2.lt
  go_wp2_with fail
  refine (unhide HI _ _ _ _ _ _ sh dt _ (by exact (hX1.alloc _).row (unhide H1).len (unhide H1).small) (by exact (hX2.alloc _).row (unhide H2).len (unhide H2).small) (Nat.le_refl _) (Nat.le_refl _) (by exact unhide HG _ (hB4.alloc (by omega) _))).mono ?_
  rintro e w5 ⟨e1, k1, f1, rfl, hO, hb5⟩
  have hK5 := hide (((unhide hK4).alloc hz4 _).trans (hb5.mono (by simp; omega)))
  rw [unhide HR] at hO
  have HX1 := hide ((hX1.alloc _).below (Nat.le_refl _) hb5)
  have HX2 := hide ((hX2.alloc _).below (Nat.le_refl _) hb5)
  have B8 : Hid (Box w5 w4.heap.size c (.slice (some ⟨g3, 0, none⟩) n1 n1) (.slice (some ⟨g4, 0, none⟩) n2 n2)) := (Box.new w4 _ _ _).below (Nat.le_refl _) hb5
  have HT := hide (((unhide HQ).alloc _).below (Nat.le_refl _) hb5)
  have hO' : OwnB w5 (w4.heap.size + 1) e1 k1 rt := by simpa using hO
  have HO := hide hO'
  have hks := hO'.small
  obtain ⟨hB5, hz5, hc5⟩ := box1 (unhide hK5)
  have hz5' : w.heap.size < w5.heap.size := by omega
  have hp8 : w4.heap.size < w5.heap.size := (unhide B8).lt
  clear hb5 hK4 hB4 hz4 hc4 hz4' hX1 hX2 HQ hO hO'
  generalize w4.heap.size = p8 at *
  clear w4
  go_wp2_with fail
  refine (eqByteS_refl _ _ _ _ _ _ rt _ (by exact (unhide HO).row) (by exact unhide HT) (by omega)).mono ?_
  rintro e w6 ⟨rfl, hb6⟩
  have hK6 := hide ((unhide hK5).trans (hb6.mono (by omega)))
  have HX1a := hide ((unhide HX1).below (Nat.le_refl _) hb6)
  have HX2a := hide ((unhide HX2).below (Nat.le_refl _) hb6)
  have B8a := hide ((unhide B8).below (Nat.le_refl _) hb6)
  have HTa := hide ((unhide HT).below (Nat.le_refl _) hb6)
  have HOa := hide ((unhide HO).below (Nat.le_refl _) hb6)
  obtain ⟨hB6, hz6, hc6⟩ := box1 (unhide hK6)
  have hz6' : w.heap.size < w6.heap.size := by omega
  have hp8' : p8 < w6.heap.size := (unhide B8a).lt
  obtain ⟨x80, x81, x82⟩ := (unhide B8a).cells
  clear hb6 hK5 hB5 hz5 hc5 hz5' B8 HX1 HX2 HT HO hp8
  clear w5
  go_wp2_with fail
  go_cut [31] (fun r wr => r = .bool false ∧ Below w6.heap.size w6 wr)
  case first =>
    go_region_with (first
      | (go_at_call 6; refine (toArray_any _ _ _ _ _ _ _ sh dt _ (by exact (unhide H1).below (Nat.le_refl _) hB6.drew) (by exact (unhide H2).below (Nat.le_refl _) hB6.drew)).mono ?_; rintro e w7 ⟨g5, g6, rfl, hg, hlt, hZ1, hZ2, hb7⟩; obtain ⟨hc7, hf7⟩ := bcell hb7; clear hf7; simp at hc7)
      | (go_at_call 9; refine (eqArray_refl _ _ _ _ _ _ _ _ _ _ _ _ _ sh dt _ (by exact ((unhide HX1a).drew.below (Nat.le_refl _) hb7).row (unhide H1).len (unhide H1).small) (by exact ((unhide HX2a).drew.below (Nat.le_refl _) hb7).row (unhide H2).len (unhide H2).small) (by exact hZ1.row (unhide H1).len (unhide H1).small) (by exact hZ2.row (unhide H2).len (unhide H2).small)).mono ?_; rintro e w8 ⟨rfl, hb8⟩))
    all_goals go_wp2_with fail
    all_goals (go_meet; case rel => exact ⟨rfl, ((Below.refl _ _).drew.trans hb7).trans (hb8.mono hb7.size)⟩)
  case rest =>
    obtain ⟨rfl, hbc⟩ := hcut
    have hK7 := hide ((unhide hK6).trans (hbc.mono hz6))
    have HX1b := hide ((unhide HX1a).below (Nat.le_refl _) hbc)
    have HX2b := hide ((unhide HX2a).below (Nat.le_refl _) hbc)
    have B8b := hide ((unhide B8a).below (Nat.le_refl _) hbc)
    have HTb := hide ((unhide HTa).below (Nat.le_refl _) hbc)
    have HOb := hide ((unhide HOa).below (Nat.le_refl _) hbc)
    clear hbc hK6 hB6 hz6 hc6 hz6' hp8' x80 x81 x82 HX1a HX2a B8a HTa HOa w6
    obtain ⟨x80, x81, x82⟩ := (unhide B8b).cells
    have hp8' : p8 < wc.heap.size := (unhide B8b).lt
    go_wp2_with fail
    refine (markArray_any _ _ _ _ _ _ _ g3 sh dt _ _ (by exact (unhide HX1b).own (unhide H1).len (unhide H1).small (Nat.le_refl _)) (by exact (unhide HX2b).own (unhide H2).len (unhide H2).small (by omega)) (fun k h h' => by have := at_eq h; have := at_eq h'; omega) (by omega) (by omega)).mono ?_
    rintro e w7 ⟨rfl, hM1, hM2, hbut⟩
    clear hM1 hM2
    have hS : ∀ k, (At (some ⟨g3, 0, none⟩) n1 k ∨ At (some ⟨g4, 0, none⟩) n2 k) → g3 ≤ k ∧ k < p8 := fun k hk => by rcases hk with hk | hk <;> have := at_eq hk <;> omega
    have hK8 := hide ((unhide hK7).trans (hbut.below (by omega) (fun k hk => by have := hS k hk; omega)))
    have HTc := hide (hbut.rowB (unhide HTb) (fun k hk hk' => by have := hS k hk; have := unhide HL k hk'; omega))
    have HOc := hide (hbut.ownB (unhide HOb) (fun k hk hk' => by have := hS k hk; have := (unhide HOb).low hk'; omega))
    have hwz : wc.heap.size ≤ w7.heap.size := hbut.size
    have hp7 : p8 < w7.heap.size := by omega
    clear hbut hS hK7 HX1b HX2b B8b HTb HOb hwz x80 x81 x82 hp8' wc
    go_wp2_with fail
    refine (eqByteS_refl _ _ _ _ _ _ rt _ (by exact (unhide HOc).row) (by exact unhide HTc) (by omega)).mono ?_
    rintro e w8 ⟨rfl, hb8⟩
    have hz7 : w.heap.size + 1 ≤ w7.heap.size := by omega
    have hK9 := hide ((unhide hK8).trans (hb8.mono hz7))
    have HTd := hide ((unhide HTc).below (Nat.le_refl _) hb8)
    have HOd := hide ((unhide HOc).below (Nat.le_refl _) hb8)
    have hwz := hb8.size
    have hp8'' : p8 < w8.heap.size := by omega
    clear hb8 hK8 HTc HOc hz7 hp7 hwz w7
    go_wp2_with fail
    refine (markByteS_any _ _ _ (p8 + 1) rt _ _ (by exact unhide HOd) (by omega) (by omega)).mono ?_
    rintro e w9 ⟨rfl, hM, hbut⟩
    have hS : ∀ k, At e1 k1 k → p8 + 1 ≤ k := fun k hk => (unhide HOd).low hk
    have hKa := hide ((unhide hK9).trans (hbut.below (by omega) (fun k hk => by have := hS k hk; omega)))
    have HTe := hide (hbut.rowB (unhide HTd) (fun k hk hk' => by have := hS k hk; have := unhide HL k hk'; omega))
    have HM := hide hM.row
    have hwz := hbut.size
    have hp9 : p8 < w9.heap.size := by omega
    clear hbut hS hK9 HTd HOd hM hp8'' hwz w8
    go_wp2_with fail
    refine (heldByteS_marks _ _ _ _ _ (by exact unhide HM) (by omega) (by omega) (by omega)).mono ?_
    rintro e wa ⟨rfl, rfl⟩
    obtain ⟨hBb, hzb, hcb⟩ := box1 (unhide hKa)
    have hzb' : w.heap.size < wa.heap.size := by omega
    have hq0 : ¬ ((1 : Int) + k1 < 0) := by omega
    go_wp2_with fail
    refine (toArray_any _ _ _ _ _ _ _ sh dt _ (by exact (unhide H1).below (Nat.le_refl _) hBb) (by exact (unhide H2).below (Nat.le_refl _) hBb)).mono ?_
    rintro e wb ⟨g5, g6, rfl, hg, hlt2, hX1, hX2, hbb⟩
    clear hg hlt2
    have hKc := hide ((unhide hKa).trans (hbb.mono hzb))
    have HTg := hide ((unhide HTe).below (Nat.le_refl _) hbb)
    clear hbb hKa HTe hBb hzb hcb hzb' HM hp9 wa
    go_wp2_with fail
    refine (unhide HI _ _ _ _ _ _ sh dt _ (by exact hX1.row (unhide H1).len (unhide H1).small) (by exact hX2.row (unhide H2).len (unhide H2).small) (Nat.le_refl _) (Nat.le_refl _) (by exact unhide HG _ (box1 (unhide hKc)).1)).mono ?_
    rintro e wd ⟨i1, j1, l1, rfl, hO, hbd⟩
    rw [unhide HR] at hO
    obtain ⟨hBb, hzb, hcb⟩ := box1 (unhide hKc)
    have hKd := hide (hBb.trans (hbd.mono (by omega)))
    have HTh := hide ((unhide HTg).below (Nat.le_refl _) hbd)
    have HO := hide hO.row
    have hj1 := hO.small
    have hsz : w.heap.size ≤ wd.heap.size := (unhide hKd).size
    clear hbd hKc HTg hO hBb hzb hcb hX1 hX2 wb
    go_wp2_with fail
    refine (eqByteS_refl _ _ _ _ _ _ rt _ (by exact unhide HO) (by exact unhide HTh) (by omega)).mono ?_
    rintro e we ⟨rfl, hbe⟩
    have hKe := hide ((unhide hKd).trans (hbe.mono hsz))
    clear hbe hKd HTh HO hsz
    go_wp2
    go_ret
    exact ⟨rfl, unhide hKe⟩

set_option maxHeartbeats 400000 in
theorem law_big (c : Bool) (a1 a2 : Option Addr) (n1 n2 c1 c2 : Nat) (w : World) (h1 : n1 ≤ 9223372036854775807) (h2 : n2 ≤ 9223372036854775807) (hA : (1048576 : Int) < n1 + n2) :
    Calls Tryd.prog 3 #[.agg #[.bool c, .slice a1 n1 c1, .slice a2 n2 c2]] w fun e w' => e = .returned (.bool true) ∧ Below w.heap.size w w' := by
  go_enter Tryd.func3, Tryd.ntmps3
  go_wp2_with fail
  refine (szArray_big _ _ _ _ _ _ _ _ _ (by omega) (by omega) (by omega) (by omega) (by omega)).mono ?_
  rintro e w1 ⟨rfl, hb1⟩
  have hK1 := hb1.mono (B' := w.heap.size + 1) (by simp)
  obtain ⟨hB1, hz1, hc1⟩ := box1 hK1
  go_wp2
  go_ret
  exact ⟨rfl, hB1⟩

theorem law_walk (G : World → Prop) (hGb : ∀ u v, G u → Below u.heap.size u v → G v) (himp : Impl G) (c : Bool) (a1 a2 : Option Addr) (n1 n2 c1 c2 : Nat) (sh dt : List Int) (w : World) (h1 : Raw w a1 n1 sh) (h2 : Raw w a2 n2 dt) (hG : G w) :
    Calls Tryd.prog 3 #[.agg #[.bool c, .slice a1 n1 c1, .slice a2 n2 c2]] w fun e w' => e = .returned (.bool true) ∧ Below w.heap.size w w' := by
  by_cases hA : (1048576 : Int) < n1 + n2
  · exact law_big c a1 a2 n1 n2 c1 c2 w h1.max h2.max hA
  · exact law_small G hGb himp c a1 a2 n1 n2 c1 c2 sh dt w (h1.row (by omega)) (h2.row (by omega)) hG (by omega)

end LawShow
end Go.Proofs.YtcjhbeljhmocbaaDoor
