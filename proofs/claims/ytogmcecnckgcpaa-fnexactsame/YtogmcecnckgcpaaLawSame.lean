import Derived.Test.YtogmcecnckgcpaaSame
import Derived.Test.YtogmcecnckgcpaaLawBase
namespace Go.Proofs.Ytogmcecnckgcpaa
open Go.RowKit

def ImplSame : Prop := ∀ (c d : Bool) (a1 a2 b1 b2 : Option Addr) (n1 n2 m1 m2 c1 c2 d1 d2 : Nat) (sh dt sh' dt' : List Int) (w : World) (_ : Row w a1 n1 sh) (_ : Row w a2 n2 dt) (_ : Row w b1 m1 sh') (_ : Row w b2 m2 dt'),
    Calls Try.prog 15 #[.agg #[.bool c, .slice a1 n1 c1, .slice a2 n2 c2], .agg #[.bool d, .slice b1 m1 d1, .slice b2 m2 d2]] w fun e w' => e = .returned (.bool (sameOk c d sh dt sh' dt')) ∧ Below w.heap.size w w'

set_option maxHeartbeats 1000000 in
theorem law_small (himp : ImplSame) (c d : Bool) (a1 a2 b1 b2 : Option Addr) (n1 n2 m1 m2 c1 c2 d1 d2 : Nat) (sh dt sh' dt' : List Int) (w : World) (h1 : Row w a1 n1 sh) (h2 : Row w a2 n2 dt) (k1 : Row w b1 m1 sh') (k2 : Row w b2 m2 dt')
    (hA : (n1 : Int) + n2 ≤ 1048576) (hB : (m1 : Int) + m2 ≤ 1048576 - n1 - n2) :
    Calls Try.prog 4 #[.agg #[.bool c, .slice a1 n1 c1, .slice a2 n2 c2], .agg #[.bool d, .slice b1 m1 d1, .slice b2 m2 d2]] w fun e w' => e = .returned (.bool true) ∧ Below w.heap.size w w' := by
  have H1 := hide h1
  have H2 := hide h2
  have K1 := hide k1
  have K2 := hide k2
  clear h1 h2 k1 k2
  go_enter Try.func4, Try.ntmps4
  go_wp2_with fail
  refine (szArray_ok _ _ _ _ _ _ _ _ _ (by omega) (by omega)).mono ?_
  rintro e w1 ⟨rfl, hb1⟩
  have hK1 := hb1.mono (B' := w.heap.size + 2) (by simp)
  obtain ⟨hB1, hz1, hc1⟩ := box2 hK1
  clear hb1
  go_wp2_with fail
  refine (szArray_ok _ _ _ _ _ _ _ _ _ (by omega) (by omega)).mono ?_
  rintro e w2 ⟨rfl, hb2⟩
  have hK2 := hide (hK1.trans (hb2.mono (by omega)))
  obtain ⟨hB2, hz2, hc2⟩ := box2 (unhide hK2)
  clear hb2 hK1 hB1 hz1 hc1 w1
  go_wp2_with fail
  go_cut [6] (fun r wr => r = .bool (sameOk c d sh dt sh' dt') ∧ Below (w.heap.size + 2) ((w.alloc (.cells #[.bool c, .slice a1 n1 c1, .slice a2 n2 c2] 24)).alloc (.cells #[.bool d, .slice b1 m1 d1, .slice b2 m2 d2] 24)) wr)
  case first =>
    go_region_with (first
      | (go_at_call_of 11 (Value.slice a1 n1 c1); refine (toArray_any _ _ _ _ _ _ _ sh dt _ (by exact (unhide H1).below (Nat.le_refl _) hB2.drew) (by exact (unhide H2).below (Nat.le_refl _) hB2.drew)).mono ?_; rintro e w3 ⟨g1, g2, rfl, hg, hlt, hX1, hX2, hb3⟩; have hK3 := (unhide hK2).drew.trans (hb3.mono (by simp; omega)); obtain ⟨hB3, hz3, hc3⟩ := box2 hK3)
      | (go_at_call_of 11 (Value.slice b1 m1 d1); refine (toArray_any _ _ _ _ _ _ _ sh' dt' _ (by exact (unhide K1).below (Nat.le_refl _) hB3) (by exact (unhide K2).below (Nat.le_refl _) hB3)).mono ?_; rintro e w4 ⟨g3, g4, rfl, hg', hlt', hX3, hX4, hb4⟩; have hK4 := hK3.trans (hb4.mono (by omega)); obtain ⟨hB4, hz4, hc4⟩ := box2 hK4)
      | (go_at_call 14; refine (Same_any _ _ _ _ _ _ _ _ _ _ _ _ _ _ sh dt sh' dt' _ (by exact (hX1.below (Nat.le_refl _) hb4).row (unhide H1).len (unhide H1).small) (by exact (hX2.below (Nat.le_refl _) hb4).row (unhide H2).len (unhide H2).small) (by exact hX3.row (unhide K1).len (unhide K1).small) (by exact hX4.row (unhide K2).len (unhide K2).small)).mono ?_; rintro e w5 ⟨rfl, hb5⟩))
    all_goals go_wp2_with fail
    all_goals (go_meet; case rel => exact ⟨rfl, hK4.trans (hb5.mono (by omega))⟩)
  case rest =>
    obtain ⟨rfl, hKc⟩ := hcut
    clear hK2 hB2 hz2 hc2 w2
    obtain ⟨hBc, hzc, hcc⟩ := box2 hKc
    generalize hS : sameOk c d sh dt sh' dt' = S at *
    have HS := hide hS
    clear hS
    go_wp2_with fail
    refine (toArray_any _ _ _ _ _ _ _ sh dt _ (by exact (unhide H1).below (Nat.le_refl _) hBc) (by exact (unhide H2).below (Nat.le_refl _) hBc)).mono ?_
    rintro e w3 ⟨g1, g2, rfl, hg, hlt, hX1, hX2, hb3⟩
    have hK3 := hide (hKc.trans (hb3.mono (by omega)))
    obtain ⟨hB3, hz3, hc3⟩ := box2 (unhide hK3)
    have hz3' : w.heap.size + 1 < w3.heap.size := by omega
    clear hb3 hKc hBc hzc hcc wc hg
    go_wp2_with fail
    refine (toArray_any _ _ _ _ _ _ _ sh' dt' _ (by exact ((unhide K1).below (Nat.le_refl _) hB3).alloc _) (by exact ((unhide K2).below (Nat.le_refl _) hB3).alloc _)).mono ?_
    rintro e w4 ⟨g3, g4, rfl, hg, hlt', hX3, hX4, hb4⟩
    have hK4 := hide (((unhide hK3).alloc hz3 _).trans (hb4.mono (by simp; omega)))
    have hX1' := (hX1.alloc _).below (Nat.le_refl _) hb4
    have hX2' := (hX2.alloc _).below (Nat.le_refl _) hb4
    obtain ⟨hB4, hz4, hc4⟩ := box2 (unhide hK4)
    obtain ⟨hc4', hf4'⟩ := bcell hb4
    clear hf4'
    have hz4' := hb4.size
    simp at hz4' hc4'
    have hz4b : w3.heap.size < w4.heap.size := by omega
    have hc40 := hc4' w3.heap.size 0 (by omega)
    have hc41 := hc4' w3.heap.size 1 (by omega)
    have hc42 := hc4' w3.heap.size 2 (by omega)
    simp at hc40 hc41 hc42
    have hp0 : w.heap.size + 2 ≤ w3.heap.size := hz3
    clear hb4 hK3 hB3 hz3 hc3 hz3' hg hX1 hX2 hc4' hz4'
    generalize w3.heap.size = p0 at *
    clear w3
    go_wp2_with fail
    refine (himp _ _ _ _ _ _ _ _ _ _ _ _ _ _ sh dt sh' dt' _ (by exact (hX1'.alloc _).row (unhide H1).len (unhide H1).small) (by exact (hX2'.alloc _).row (unhide H2).len (unhide H2).small) (by exact (hX3.alloc _).row (unhide K1).len (unhide K1).small) (by exact (hX4.alloc _).row (unhide K2).len (unhide K2).small)).mono ?_
    rintro e w5 ⟨rfl, hb5⟩
    rw [unhide HS]
    have hK5 := hide (((unhide hK4).alloc hz4 _).trans (hb5.mono (by simp; omega)))
    have hY1 := (hX1'.alloc _).below (Nat.le_refl _) hb5
    have hY2 := (hX2'.alloc _).below (Nat.le_refl _) hb5
    have hY3 := (hX3.alloc _).below (Nat.le_refl _) hb5
    have hY4 := (hX4.alloc _).below (Nat.le_refl _) hb5
    obtain ⟨hB5, hz5, hc5⟩ := box2 (unhide hK5)
    obtain ⟨hc5', hf5'⟩ := bcell hb5
    have hz5' := hb5.size
    simp at hz5' hc5'
    have hc50 := hc5' p0 0 (by omega)
    have hc51 := hc5' p0 1 (by omega)
    have hc52 := hc5' p0 2 (by omega)
    have hc53 := hc5' w4.heap.size 0 (by omega)
    have hc54 := hc5' w4.heap.size 1 (by omega)
    have hc55 := hc5' w4.heap.size 2 (by omega)
    simp [hz4b, hc40, hc41, hc42, World.cell?_alloc_past] at hc50 hc51 hc52 hc53 hc54 hc55
    have hp0' : p0 < w5.heap.size := by omega
    have hp1' : w4.heap.size < w5.heap.size := by omega
    clear hf5' hb5 hK4 hX1' hX2' hX3 hX4 hB4 hz4 hc4 hc40 hc41 hc42 hc5' hz5' hz4b hlt hlt' hp0
    generalize w4.heap.size = p1 at *
    clear w4
    go_wp2_with fail
    go_cut [39] (fun r wr => r = .bool false ∧ Below w5.heap.size w5 wr)
    case first =>
      go_region_with (first
        | (go_at_call 11; refine (toArray_any _ _ _ _ _ _ _ sh dt _ (by exact (unhide H1).below (Nat.le_refl _) hB5.drew) (by exact (unhide H2).below (Nat.le_refl _) hB5.drew)).mono ?_; rintro e w6 ⟨g5, g6, rfl, hg, hlt, hZ1, hZ2, hb6⟩; obtain ⟨hc6, hf6⟩ := bcell hb6; clear hf6; simp at hc6)
        | (go_at_call 13; refine (eqArray_refl _ _ _ _ _ _ _ _ _ _ _ _ _ sh dt _ (by exact (hY1.drew.below (Nat.le_refl _) hb6).row (unhide H1).len (unhide H1).small) (by exact (hY2.drew.below (Nat.le_refl _) hb6).row (unhide H2).len (unhide H2).small) (by exact hZ1.row (unhide H1).len (unhide H1).small) (by exact hZ2.row (unhide H2).len (unhide H2).small)).mono ?_; rintro e w7 ⟨rfl, hb7⟩))
      all_goals go_wp2_with fail
      all_goals (go_meet; case rel => exact ⟨rfl, ((Below.refl _ _).drew.trans hb6).trans (hb7.mono hb6.size)⟩)
    case rest =>
      obtain ⟨rfl, hbc⟩ := hcut
      have hK6 := hide ((unhide hK5).trans (hbc.mono hz5))
      have hZ3 := hY3.below (Nat.le_refl _) hbc
      have hZ4 := hY4.below (Nat.le_refl _) hbc
      have hd0 := (hbc.cell (p := ⟨p1, 0, none⟩) hp1').trans hc53
      have hd1 := (hbc.cell (p := ⟨p1, 1, none⟩) hp1').trans hc54
      have hd2 := (hbc.cell (p := ⟨p1, 2, none⟩) hp1').trans hc55
      have hp1c : p1 < wc.heap.size := Nat.lt_of_lt_of_le hp1' hbc.size
      clear hK5 hY1 hY2 hY3 hY4 hB5 hz5 hc5 hc50 hc51 hc52 hc53 hc54 hc55 hp0' hp1' hbc w5
      obtain ⟨hBc, hzc, hcc⟩ := box2 (unhide hK6)
      go_wp2_with fail
      go_cut [44] (fun r wr => r = .bool false ∧ Below w.heap.size w wr)
      case first =>
        go_region_with (first
          | (go_at_call 11; refine (toArray_any _ _ _ _ _ _ _ sh' dt' _ (by exact (unhide K1).below (Nat.le_refl _) hBc.drew) (by exact (unhide K2).below (Nat.le_refl _) hBc.drew)).mono ?_; rintro e w6 ⟨g5, g6, rfl, hg, hlt, hZ1, hZ2, hb6⟩; obtain ⟨hc6, hf6⟩ := bcell hb6; clear hf6; simp at hc6)
          | (go_at_call 13; refine (eqArray_refl _ _ _ _ _ _ _ _ _ _ _ _ _ sh' dt' _ (by exact (hZ3.drew.below (Nat.le_refl _) hb6).row (unhide K1).len (unhide K1).small) (by exact (hZ4.drew.below (Nat.le_refl _) hb6).row (unhide K2).len (unhide K2).small) (by exact hZ1.row (unhide K1).len (unhide K1).small) (by exact hZ2.row (unhide K2).len (unhide K2).small)).mono ?_; rintro e w7 ⟨rfl, hb7⟩))
        all_goals go_wp2_with fail
        all_goals (go_meet; case rel => exact ⟨rfl, (hBc.drew.trans (hb6.mono (by simp; omega))).trans (hb7.mono (by have := hb6.size; simp at this; omega))⟩)
      case rest =>
        obtain ⟨rfl, hbc⟩ := hcut
        go_wp2
        go_ret
        exact ⟨rfl, hbc⟩

set_option maxHeartbeats 400000 in
theorem law_big1 (c d : Bool) (a1 a2 b1 b2 : Option Addr) (n1 n2 m1 m2 c1 c2 d1 d2 : Nat) (w : World) (h1 : n1 ≤ 9223372036854775807) (h2 : n2 ≤ 9223372036854775807)
    (hA : (1048576 : Int) < n1 + n2) :
    Calls Try.prog 4 #[.agg #[.bool c, .slice a1 n1 c1, .slice a2 n2 c2], .agg #[.bool d, .slice b1 m1 d1, .slice b2 m2 d2]] w fun e w' => e = .returned (.bool true) ∧ Below w.heap.size w w' := by
  go_enter Try.func4, Try.ntmps4
  go_wp2_with fail
  refine (szArray_big _ _ _ _ _ _ _ _ _ (by omega) (by omega) (by omega) (by omega) (by omega)).mono ?_
  rintro e w1 ⟨rfl, hb1⟩
  have hK1 := hb1.mono (B' := w.heap.size + 2) (by simp)
  obtain ⟨hB1, hz1, hc1⟩ := box2 hK1
  go_wp2
  go_ret
  exact ⟨rfl, hB1⟩

set_option maxHeartbeats 400000 in
theorem law_big2 (c d : Bool) (a1 a2 b1 b2 : Option Addr) (n1 n2 m1 m2 c1 c2 d1 d2 : Nat) (w : World) (h1 : m1 ≤ 9223372036854775807) (h2 : m2 ≤ 9223372036854775807)
    (hA : (n1 : Int) + n2 ≤ 1048576) (hB : 1048576 - (n1 : Int) - n2 < m1 + m2) :
    Calls Try.prog 4 #[.agg #[.bool c, .slice a1 n1 c1, .slice a2 n2 c2], .agg #[.bool d, .slice b1 m1 d1, .slice b2 m2 d2]] w fun e w' => e = .returned (.bool true) ∧ Below w.heap.size w w' := by
  go_enter Try.func4, Try.ntmps4
  go_wp2_with fail
  refine (szArray_ok _ _ _ _ _ _ _ _ _ (by omega) (by omega)).mono ?_
  rintro e w1 ⟨rfl, hb1⟩
  have hK1 := hb1.mono (B' := w.heap.size + 2) (by simp)
  obtain ⟨hB1, hz1, hc1⟩ := box2 hK1
  go_wp2_with fail
  refine (szArray_big _ _ _ _ _ _ _ _ _ (by omega) (by omega) (by omega) (by omega) (by omega)).mono ?_
  rintro e w2 ⟨rfl, hb2⟩
  have hK2 := hB1.trans (hb2.mono (by omega))
  go_wp2
  go_ret
  exact ⟨rfl, hK2⟩

theorem law_walk (himp : ImplSame) (c d : Bool) (a1 a2 b1 b2 : Option Addr) (n1 n2 m1 m2 c1 c2 d1 d2 : Nat) (sh dt sh' dt' : List Int) (w : World) (h1 : Raw w a1 n1 sh) (h2 : Raw w a2 n2 dt) (k1 : Raw w b1 m1 sh') (k2 : Raw w b2 m2 dt') :
    Calls Try.prog 4 #[.agg #[.bool c, .slice a1 n1 c1, .slice a2 n2 c2], .agg #[.bool d, .slice b1 m1 d1, .slice b2 m2 d2]] w fun e w' => e = .returned (.bool true) ∧ Below w.heap.size w w' := by
  by_cases hA : (1048576 : Int) < n1 + n2
  · exact law_big1 c d a1 a2 b1 b2 n1 n2 m1 m2 c1 c2 d1 d2 w h1.max h2.max hA
  · by_cases hB : 1048576 - (n1 : Int) - n2 < m1 + m2
    · exact law_big2 c d a1 a2 b1 b2 n1 n2 m1 m2 c1 c2 d1 d2 w k1.max k2.max (by omega) hB
    · exact law_small himp c d a1 a2 b1 b2 n1 n2 m1 m2 c1 c2 d1 d2 sh dt sh' dt' w (h1.row (by omega)) (h2.row (by omega)) (k1.row (by omega)) (k2.row (by omega)) (by omega) (by omega)

end Go.Proofs.Ytogmcecnckgcpaa
