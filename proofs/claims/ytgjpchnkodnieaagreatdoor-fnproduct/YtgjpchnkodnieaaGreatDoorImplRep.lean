import Derived.Test.YtgjpchnkodnieaaGreatDoorMFit2
import Derived.Test.YtgjpchnkodnieaaGreatDoorMFit3
import Derived.Test.YtgjpchnkodnieaaGreatDoorImplFoldM
import Derived.Deep.DeepCutAuto
import Derived.Deep.RegionHeld
namespace Go.Proofs.YtgjpchnkodnieaaGreatDoor
open Go.RowKit

set_option maxRecDepth 20000 in
set_option maxHeartbeats 4000000 in
theorem repeated_any (c : Bool) (a1 a2 : Addr) (n1 c1 c2 n : Nat) (v : Int) (w : World) (h : Row w (some a2) 1 [v]) (hn : n ≤ 10000) :
    Calls Tryz.prog 184 #[.agg #[.bool c, .slice (some a1) n1 c1, .slice (some a2) 1 c2], .int .i64 (n : Nat)] w fun e w' => ∃ s g cap, e = .returned (.agg #[.bool c, .slice (some ⟨s, 0, none⟩) 1 1, .slice (some ⟨g, 0, none⟩) n cap]) ∧ Row w' (some ⟨s, 0, none⟩) 1 [(n : Int)] ∧ Row w' (some ⟨g, 0, none⟩) n (List.replicate n v) ∧ Below w.heap.size w w' := by
  have H := hide h
  clear h
  go_enter Tryz.func184, Tryz.ntmps184
  go_upto_region 1 with fail
  go_cut [] (fun wx => LaidX w c n (List.replicate n v) (.pointer (some ⟨w.heap.size + 1, 0, none⟩)) wx)
  case first =>
    have hB0 : Box ((w.alloc (.cells #[.bool c, .slice (some a1) n1 c1, .slice (some a2) 1 c2] 25)).alloc (.cells #[.bool false, .slice none 0 0, .slice none 0 0] 25)) w.heap.size c (.slice (some a1) n1 c1) (.slice (some a2) 1 c2) := (Box.new w _ _ _).alloc _
    have hB1 : Box ((w.alloc (.cells #[.bool c, .slice (some a1) n1 c1, .slice (some a2) 1 c2] 25)).alloc (.cells #[.bool false, .slice none 0 0, .slice none 0 0] 25)) (w.heap.size + 1) false (.slice none 0 0) (.slice none 0 0) := by
      have := Box.new (w.alloc (.cells #[.bool c, .slice (some a1) n1 c1, .slice (some a2) 1 c2] 25)) false (.slice none 0 0) (.slice none 0 0)
      simpa using this
    have hbw : Below w.heap.size w ((w.alloc (.cells #[.bool c, .slice (some a1) n1 c1, .slice (some a2) 1 c2] 25)).alloc (.cells #[.bool false, .slice none 0 0, .slice none 0 0] 25)) := ((Below.refl _ _).alloc (Nat.le_refl _) _).alloc (by simp) _
    have hW : ((w.alloc (.cells #[.bool c, .slice (some a1) n1 c1, .slice (some a2) 1 c2] 25)).alloc (.cells #[.bool false, .slice none 0 0, .slice none 0 0] 25)).heap.size = w.heap.size + 2 := by simp
    generalize ((w.alloc (.cells #[.bool c, .slice (some a1) n1 c1, .slice (some a2) 1 c2] 25)).alloc (.cells #[.bool false, .slice none 0 0, .slice none 0 0] 25)) = W at *
    have HB0 := hide hB0
    have HB1 := hide hB1
    have HBW := hide hbw
    clear hB0 hB1 hbw
    have HKEEP : ∀ wx, But (fun k => k = w.heap.size + 1) W wx → wx.cell? ⟨w.heap.size, 0, none⟩ = some (.bool c) ∧ wx.cell? ⟨w.heap.size, 2, none⟩ = some (.slice (some a2) 1 c2) := fun wx hwx => ⟨(hwx.cell (by omega) (by omega)).trans (unhide HB0).cells.1, (hwx.cell (by omega) (by omega)).trans (unhide HB0).cells.2.2⟩
    obtain ⟨r0, r1, r2, r3, r4, r5, r6⟩ := (unhide HB1).all
    obtain ⟨x0, x2⟩ := HKEEP _ (But.refl _ _)
    go_region_held (fun wx => wx.cell? ⟨w.heap.size, 0, none⟩ = some (.bool c) ∧ wx.cell? ⟨w.heap.size, 2, none⟩ = some (.slice (some a2) 1 c2)) (first | (refine HKEEP _ ?_; repeat (first | exact But.of_below hKA | exact But.refl _ _ | refine But.setCell ?_ (by first | rfl | (simp <;> omega)) _ | (refine But.of_below ?_; (repeat (first | exact hKA | exact Below.refl _ _ | refine Below.drew ?_ | refine Below.alloc ?_ (by first | exact Nat.le_refl _ | exact hKA.size | (simp <;> omega)) _)); done) | refine But.alloc ?_ _)))
      (first
      | (go_at_call 148; go_loud (refine (Repeat_ex a2 c2 n v _ (by first | exact ((unhide H).below (Nat.le_refl _) (unhide HBW).drew).alloc _ | exact (unhide H).below (Nat.le_refl _) (unhide HBW).drew | exact (unhide H).below (Nat.le_refl _) ((unhide HBW).alloc (by omega) _).drew) hn).mono ?_); rintro e wA ⟨gA, rfl, hK, hbA⟩; have HK := hide hK; have hKA : Below W.heap.size W wA := (by refine Below.trans ?_ (hbA.mono (by first | exact Nat.le_refl _ | (simp <;> omega))); repeat (first | exact Below.refl _ _ | refine Below.drew ?_ | refine Below.alloc ?_ (by first | exact Nat.le_refl _ | (simp <;> omega)) _)); have HBA := hide ((unhide HB1).below (Nat.le_refl _) hKA); obtain ⟨x0, x2⟩ := HKEEP _ (But.of_below hKA); obtain ⟨r0, r1, r2, r3, r4, r5, r6⟩ := (unhide HBA).all; (first | (have hQ5 := (Blk.one _ _).drew.below (Nat.le_refl _) hbA; rw [hW] at hQ5) | skip); have HKW := hide ((unhide HBW).trans (hKA.mono (by omega))); clear hK))
    all_goals go_wp2_with fail
    all_goals (go_meet; case rel => first
      | with_reducible exact lx_zc (unhide HK) (unhide HKW) (unhide HBA) (by omega) hQ5
      | with_reducible exact lx_zcb (unhide HK) (unhide HKW) (unhide HBA) (by omega))
  case rest =>
    obtain ⟨w2, hw2⟩ : ∃ x, x = wc := ⟨_, rfl⟩
    subst hw2
    obtain ⟨p, s, g, cap, hp, hb, hr1, hr2, hbw⟩ := hcut
    have hpe : p = w.heap.size + 1 := by simpa using hp.symm
    subst hpe
    obtain ⟨q0, q1, q2, q3, q4, q5, q6⟩ := hb.all
    clear hb hp
    go_wp2
    refine bodyPost_ret (v := .agg #[.bool c, .slice (some ⟨s, 0, none⟩) 1 1, .slice (some ⟨g, 0, none⟩) n cap]) (by simp [results, Tryz.results184, go_sem, q0, q1, q2]) rfl ?_
    exact ⟨s, g, cap, rfl, hr1, hr2, hbw⟩

end Go.Proofs.YtgjpchnkodnieaaGreatDoor
