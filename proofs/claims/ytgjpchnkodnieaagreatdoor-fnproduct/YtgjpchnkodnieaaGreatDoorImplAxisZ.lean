import Derived.Test.YtgjpchnkodnieaaGreatDoorImplAxisP
namespace Go.Proofs.YtgjpchnkodnieaaGreatDoor
open Go.RowKit Go.Shelf

theorem shapeIn_nil : ShapeIn [] := by
  have h : arrOk false [] [0] = true := by decide
  exact (shapeIn_of h).1

set_option maxRecDepth 20000 in
set_option maxHeartbeats 8000000 in
theorem axisOf_zero (fl : Bool) (a : Addr) (c : Nat) (w : World) :
    Calls Tryz.prog 112 #[.slice (some a) 0 c, .bool fl] w (AxisOk w 1 1 1 []) := by
  obtain ⟨b, off, sp⟩ := a
  have HP : Hid (prodAll [] = 1) := rfl
  have HI := hide shapeIn_nil
  go_enter Tryz.func112, Tryz.ntmps112
  go_upto_if 15 with fail
  go_cut [5, 6] (fun s5 s6 wr => s5 = .int .i64 0 ∧ s6 = .int .i64 0 ∧ wr = (w.alloc (.cells #[.int .i64 0, .int .i64 0, .int .i64 0, .slice none 0 0] 133)))
  case first =>
    cases fl
    all_goals go_wp2
    all_goals (go_meet; case rel => exact ⟨rfl, rfl, rfl⟩)
  case rest =>
    obtain ⟨rfl, rfl, rfl⟩ := hcut
    go_upto_region 4 with fail
    go_cut [7, 8] (fun s7 s8 wr => (∃ pf cf, s7 = .slice (some pf) 0 cf) ∧ (∃ pb cb, s8 = .slice (some pb) 0 cb) ∧ ∃ nq, wr = ((w.alloc (.cells #[.int .i64 0, .int .i64 0, .int .i64 0, .slice none 0 0] 133)).drewN nq))
    case first =>
      by_cases hc : c = 0
      · subst hc
        go_quiet (fail)
        go_wp2
        all_goals (go_meet; case rel => exact ⟨⟨_, _, rfl⟩, ⟨_, _, rfl⟩, _, rfl⟩)
      · have hc2 : 0 < c := by omega
        go_quiet (fail)
        go_wp2
        all_goals (go_meet; case rel => exact ⟨⟨_, _, rfl⟩, ⟨_, _, rfl⟩, _, rfl⟩)
    case rest =>
      obtain ⟨⟨pf, cf, rfl⟩, ⟨pb, cb, rfl⟩, nq, rfl⟩ := hcut
      obtain ⟨W0, hW0⟩ : ∃ W0, W0 = ((w.alloc (.cells #[.int .i64 0, .int .i64 0, .int .i64 0, .slice none 0 0] 133)).drewN nq) := ⟨_, rfl⟩
      have hK0 : Below w.heap.size w W0 := by rw [hW0]; exact Below.drewN ((Below.refl _ _).alloc (Nat.le_refl _) _) _
      have hz0 : W0.heap.size = w.heap.size + 1 := by rw [hW0]; simp
      have AB := hide (axis_box (w := w) (W0 := W0) (by rw [hW0]; exact heap_alloc_last w _))
      rw [← hW0]
      clear hW0
      go_upto_region 5 with fail
      by_cases hc : c = 0
      · subst hc
        go_region_held (fun wx => Below w.heap.size W0 wx) (first | (repeat (first | exact hKD.mono (by omega) | exact Below.refl _ _ | refine Below.drew ?_ | refine Below.setCell ?_ (by first | omega | (simp <;> omega)) _ | refine Below.alloc ?_ (by first | omega | (simp <;> omega)) _)))
          (first
          | (go_at_call 116; refine (cellsOf_eq _ _ _ [] _ (Row.zeroS rfl) (unhide HI) _ HP).mono ?_; rintro e wA ⟨rfl, rfl⟩)
          | (go_at_call 113; rw [← hz0]; refine (Concat2_any W0.heap.size _ _ _ _ _ _ [] [] _ (cell_of_row _ _ 0 _ _ (0, 0) (heap_alloc_last W0 _)) (cell_of_row _ _ 1 _ _ (0, 0) (heap_alloc_last W0 _)) (Row.zeroS rfl) (Row.zeroS rfl) (by omega) (by omega)).mono ?_; rintro e wD ⟨oa, oc, rfl, hO, hbD⟩; have hKD : Below W0.heap.size W0 wD := ((Below.refl _ _).alloc (Nat.le_refl _) _).drew.trans (hbD.mono (by simp)); have HO := hide (hO.mono (B' := w.heap.size + 1) (by simp; omega)); obtain ⟨hwl, ⟨q0, q1, q2, q3⟩, f0, f1, f2, f3⟩ := unhide AB _ hKD; clear hbD hO))
        all_goals go_wp2
        all_goals refine bodyPost_ret (v := .agg #[.int .i64 1, .int .i64 1, .int .i64 1, .slice oa _ oc]) (by simp [results, Tryz.results112, go_sem, q0, q1, q2, q3]; try rfl) rfl ?_
        all_goals exact axis_end (unhide HO) (hK0.trans (hKD.mono (by omega)))
      · have hc2 : 0 < c := by omega
        go_region_held (fun wx => Below w.heap.size W0 wx) (first | (repeat (first | exact hKD.mono (by omega) | exact Below.refl _ _ | refine Below.drew ?_ | refine Below.setCell ?_ (by first | omega | (simp <;> omega)) _ | refine Below.alloc ?_ (by first | omega | (simp <;> omega)) _)))
          (first
          | (go_at_call 116; refine (cellsOf_eq _ _ _ [] _ (Row.zeroS rfl) (unhide HI) _ HP).mono ?_; rintro e wA ⟨rfl, rfl⟩)
          | (go_at_call 113; rw [← hz0]; refine (Concat2_any W0.heap.size _ _ _ _ _ _ [] [] _ (cell_of_row _ _ 0 _ _ (0, 0) (heap_alloc_last W0 _)) (cell_of_row _ _ 1 _ _ (0, 0) (heap_alloc_last W0 _)) (Row.zeroS rfl) (Row.zeroS rfl) (by omega) (by omega)).mono ?_; rintro e wD ⟨oa, oc, rfl, hO, hbD⟩; have hKD : Below W0.heap.size W0 wD := ((Below.refl _ _).alloc (Nat.le_refl _) _).drew.trans (hbD.mono (by simp)); have HO := hide (hO.mono (B' := w.heap.size + 1) (by simp; omega)); obtain ⟨hwl, ⟨q0, q1, q2, q3⟩, f0, f1, f2, f3⟩ := unhide AB _ hKD; clear hbD hO))
        all_goals go_wp2
        all_goals refine bodyPost_ret (v := .agg #[.int .i64 1, .int .i64 1, .int .i64 1, .slice oa _ oc]) (by simp [results, Tryz.results112, go_sem, q0, q1, q2, q3]; try rfl) rfl ?_
        all_goals exact axis_end (unhide HO) (hK0.trans (hKD.mono (by omega)))

end Go.Proofs.YtgjpchnkodnieaaGreatDoor
