import Derived.Test.YtadbhidpmihghaaSpecViewOk
import Derived.Test.YtadbhidpmihghaaVLawBase
namespace Go.Proofs.Ytadbhidpmihghaa
open Go.RowKit

def ImplVOk : Prop := ∀ (c : Int) (a1 a2 : Option Addr) (n1 n2 c1 c2 : Nat) (sh dt : List Int) (cells : Int) (w : World) (_ : Row w a1 n1 sh) (_ : Row w a2 n2 dt),
    Calls Try.prog 20 #[.agg #[.int .i64 c, .slice a1 n1 c1, .slice a2 n2 c2], .int .i64 cells] w fun e w' => e = .returned (.bool (viewOk c sh dt cells)) ∧ Below w.heap.size w w'

namespace LawVOk

set_option maxHeartbeats 1000000 in
theorem law_small (himp : ImplVOk) (c : Int) (a1 a2 : Option Addr) (n1 n2 c1 c2 : Nat) (sh dt : List Int) (cells : Int) (w : World) (h1 : Row w a1 n1 sh) (h2 : Row w a2 n2 dt) (hA : (n1 : Int) + n2 ≤ 1048576) :
    Calls Try.prog 4 #[.agg #[.int .i64 c, .slice a1 n1 c1, .slice a2 n2 c2], .int .i64 cells] w fun e w' => e = .returned (.bool true) ∧ Below w.heap.size w w' := by
  have H1 := hide h1
  have H2 := hide h2
  clear h1 h2
  go_enter Try.func4, Try.ntmps4
  go_wp2_with fail
  refine (szView_ok _ _ _ _ _ _ _ _ _ (by omega) (by omega)).mono ?_
  rintro e w1 ⟨rfl, hb1⟩
  have hK1 := hide (hb1.mono (B' := w.heap.size + 1) (by simp))
  obtain ⟨hB1, hz1, hc1⟩ := box1 (unhide hK1)
  clear hb1
  go_wp2_with fail
  refine (toView_any _ _ _ _ _ _ _ sh dt _ (by exact (unhide H1).below (Nat.le_refl _) hB1) (by exact (unhide H2).below (Nat.le_refl _) hB1)).mono ?_
  rintro e w2 ⟨g1, g2, rfl, hg, hlt, hX1, hX2, hb2⟩
  have hK2 := hide ((unhide hK1).trans (hb2.mono (by omega)))
  obtain ⟨hB2, hz2, hc2⟩ := box1 (unhide hK2)
  clear hb2 hK1 hB1 hz1 hc1 hg w1
  go_wp2_with fail
  refine (ViewOk_eq _ _ _ _ _ _ _ sh dt cells _ (by exact hX1.row (unhide H1).len (unhide H1).small) (by exact hX2.row (unhide H2).len (unhide H2).small) _ (hide rfl)).mono ?_
  rintro e w3 ⟨rfl, hb3⟩
  have hK3 := hide ((unhide hK2).trans (hb3.mono (by omega)))
  obtain ⟨hB3, hz3, hc3⟩ := box1 (unhide hK3)
  clear hb3 hK2 hB2 hz2 hc2 hlt hX1 hX2 w2
  generalize hS : viewOk c sh dt cells = S at *
  have HS := hide hS
  clear hS
  go_wp2_with fail
  refine (toView_any _ _ _ _ _ _ _ sh dt _ (by exact (unhide H1).below (Nat.le_refl _) hB3) (by exact (unhide H2).below (Nat.le_refl _) hB3)).mono ?_
  rintro e w4 ⟨g3, g4, rfl, hg, hlt, hX1, hX2, hb4⟩
  have hK4 := hide ((unhide hK3).trans (hb4.mono (by omega)))
  obtain ⟨hB4, hz4, hc4⟩ := box1 (unhide hK4)
  clear hb4 hK3 hB3 hz3 hc3 hg w3
  go_wp2_with fail
  refine (himp _ _ _ _ _ _ _ sh dt cells _ (by exact (hX1.alloc _).row (unhide H1).len (unhide H1).small) (by exact (hX2.alloc _).row (unhide H2).len (unhide H2).small)).mono ?_
  rintro e w5 ⟨rfl, hb5⟩
  rw [unhide HS]
  have hK5 := hide (((unhide hK4).alloc hz4 _).trans (hb5.mono (by simp; omega)))
  have hY1 := (hX1.alloc _).below (Nat.le_refl _) hb5
  have hY2 := (hX2.alloc _).below (Nat.le_refl _) hb5
  obtain ⟨hB5, hz5, hc5⟩ := box1 (unhide hK5)
  obtain ⟨hc5', hf5'⟩ := bcell hb5
  have hz5' := hb5.size
  simp at hz5' hc5'
  have hc50 := hc5' w4.heap.size 0 (by omega)
  have hc51 := hc5' w4.heap.size 1 (by omega)
  have hc52 := hc5' w4.heap.size 2 (by omega)
  simp at hc50 hc51 hc52
  have hp1' : w4.heap.size < w5.heap.size := by omega
  clear hf5' hb5 hK4 hX1 hX2 hB4 hz4 hc4 hc5' hz5' hlt
  generalize w4.heap.size = p1 at *
  clear w4
  go_wp2_with fail
  go_cut [30] (fun r wr => r = .bool false ∧ Below w.heap.size w wr)
  case first =>
    go_region_with (first
      | (go_at_call 19; refine (toView_any _ _ _ _ _ _ _ sh dt _ (by exact (unhide H1).below (Nat.le_refl _) hB5.drew) (by exact (unhide H2).below (Nat.le_refl _) hB5.drew)).mono ?_; rintro e w6 ⟨g5, g6, rfl, hg, hlt, hZ1, hZ2, hb6⟩; obtain ⟨hc6, hf6⟩ := bcell hb6; clear hf6; simp at hc6)
      | (go_at_call 12; refine (eqView_refl _ _ _ _ _ _ _ _ _ _ _ _ _ sh dt _ (by exact (hY1.drew.below (Nat.le_refl _) hb6).row (unhide H1).len (unhide H1).small) (by exact (hY2.drew.below (Nat.le_refl _) hb6).row (unhide H2).len (unhide H2).small) (by exact hZ1.row (unhide H1).len (unhide H1).small) (by exact hZ2.row (unhide H2).len (unhide H2).small)).mono ?_; rintro e w7 ⟨rfl, hb7⟩))
    all_goals go_wp2_with fail
    all_goals (go_meet; case rel => exact ⟨rfl, (hB5.drew.trans (hb6.mono (by simp; omega))).trans (hb7.mono (by have := hb6.size; simp at this; omega))⟩)
  case rest =>
    obtain ⟨rfl, hbc⟩ := hcut
    go_wp2
    go_ret
    exact ⟨rfl, hbc⟩

set_option maxHeartbeats 400000 in
theorem law_big (c : Int) (a1 a2 : Option Addr) (n1 n2 c1 c2 : Nat) (cells : Int) (w : World) (h1 : n1 ≤ 9223372036854775807) (h2 : n2 ≤ 9223372036854775807) (hA : (1048576 : Int) < n1 + n2) :
    Calls Try.prog 4 #[.agg #[.int .i64 c, .slice a1 n1 c1, .slice a2 n2 c2], .int .i64 cells] w fun e w' => e = .returned (.bool true) ∧ Below w.heap.size w w' := by
  go_enter Try.func4, Try.ntmps4
  go_wp2_with fail
  refine (szView_big _ _ _ _ _ _ _ _ _ (by omega) (by omega) (by omega) (by omega) (by omega)).mono ?_
  rintro e w1 ⟨rfl, hb1⟩
  have hK1 := hb1.mono (B' := w.heap.size + 1) (by simp)
  obtain ⟨hB1, hz1, hc1⟩ := box1 hK1
  go_wp2
  go_ret
  exact ⟨rfl, hB1⟩

theorem law_walk (himp : ImplVOk) (c : Int) (a1 a2 : Option Addr) (n1 n2 c1 c2 : Nat) (sh dt : List Int) (cells : Int) (w : World) (h1 : Raw w a1 n1 sh) (h2 : Raw w a2 n2 dt) :
    Calls Try.prog 4 #[.agg #[.int .i64 c, .slice a1 n1 c1, .slice a2 n2 c2], .int .i64 cells] w fun e w' => e = .returned (.bool true) ∧ Below w.heap.size w w' := by
  by_cases hA : (1048576 : Int) < n1 + n2
  · exact law_big c a1 a2 n1 n2 c1 c2 cells w h1.max h2.max hA
  · exact law_small himp c a1 a2 n1 n2 c1 c2 sh dt cells w (h1.row (by omega)) (h2.row (by omega)) (by omega)

end LawVOk
end Go.Proofs.Ytadbhidpmihghaa
