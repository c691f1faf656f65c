import Derived.Test.YtadbhidpmihghaaImplWholeOf
import Derived.Test.YtadbhidpmihghaaImplVHead
import Derived.Test.YtadbhidpmihghaaSpecWhole
namespace Go.Proofs.Ytadbhidpmihghaa
open Go.RowKit

theorem whole_formed {sh : List Int} (h : shapeB sh = true) : formed 0 sh (wholeSt sh) = true := by
  refine formed_yes h (wholeSt_len sh) (by decide) ?_
  rw [List.all_eq_true]
  intro x hx
  obtain ⟨i, _, rfl⟩ := List.mem_map.mp hx
  have := tailProd_bd (shapeB_in h).1 (i + 1)
  exact decide_eq_true (by omega)

theorem whole_answer {sh : List Int} (h : shapeB sh = true) : whole sh = answerOf 0 sh (wholeSt sh) := by
  rw [whole_go h]; unfold answerOf; rw [if_pos (whole_formed h)]

set_option maxRecDepth 20000 in
set_option maxHeartbeats 4000000 in
theorem WholeView_impl (a1 : Addr) (n1 c1 : Nat) (sh : List Int) (w : World) (h1 : Row w (some a1) n1 sh) : Calls Try.prog 11 #[.slice (some a1) n1 c1] w (GivesVO w (whole sh)) := by
  obtain ⟨r, hr⟩ : ∃ r, shapeB sh = r := ⟨_, rfl⟩
  have HR := hide hr
  have H1 := hide h1
  clear hr h1
  have HV := hide (VBox.new w 0 (.slice none 0 0) (.slice none 0 0))
  have HB : Hid (Below w.heap.size w (w.alloc (.cells #[.int .i64 0, .slice none 0 0, .slice none 0 0] 24))) := (Below.refl _ _).alloc (Nat.le_refl _) _
  cases r with
  | false =>
    have HF := hide (whole_no (unhide HR))
    obtain ⟨z0, z1, z2, z3, z4, z5, z6⟩ := (unhide HV).all
    go_enter Try.func11, Try.ntmps11
    go_wp2_with (go_at_call 32; refine (shapeOk_eq _ _ _ sh _ ((unhide H1).alloc _) _ HR).mono ?_; rintro e wq ⟨rfl, hw⟩; obtain rfl := hw.symm)
    refine bodyPost_ret (v := .tuple #[.agg #[.int .i64 0, .slice none 0 0, .slice none 0 0], .bool false]) (by simp [results, Try.results11, go_sem, z0, z1, z2]) rfl ?_
    rw [unhide HF]
    exact givesV_none (unhide HB)
  | true =>
    have HF := hide (whole_answer (unhide HR))
    have HH5 := hide (shapeB_in (unhide HR)).2
    go_enter Try.func11, Try.ntmps11
    have HVC : Hid (∀ w0 : World, Calls Try.prog 34 #[lay (fl 0 sh (wholeSt sh))] w0 (GivesVO w0 (answerOf 0 sh (wholeSt sh)))) := fun w0 => view_any 0 sh (wholeSt sh) w0 (unhide HH5) (wholeSt_len sh)
    have HWC : Hid (∀ w0 : World, Row w0 (some a1) n1 sh → Calls Try.prog 33 #[.slice (some a1) n1 c1] w0 fun e w' => e = .returned (lay (fl 0 sh (wholeSt sh))) ∧ Below w0.heap.size w0 w') := fun w0 h0 => wholeOf_any (some a1) n1 c1 sh w0 h0 (unhide HR)
    generalize fl 0 sh (wholeSt sh) = g at *
    generalize answerOf 0 sh (wholeSt sh) = r9 at *
    go_wp2_with (first
      | (go_at_call 32; refine (shapeOk_eq _ _ _ sh _ ((unhide H1).alloc _) _ HR).mono ?_; rintro e wq ⟨rfl, hw⟩; obtain rfl := hw.symm)
      | (go_at_call 33; refine (unhide HWC _ ((unhide H1).alloc _)).mono ?_; rintro e w3 ⟨rfl, hb3⟩; have HV3 := hide ((unhide HV).below (Nat.le_refl _) hb3); have HB3 := hide ((unhide HB).trans (hb3.mono (by simp))); clear hb3)
      | (go_at_call 34; refine (unhide HVC _).mono ?_; rintro e w9 ⟨q1, m1, d1, q2, m2, d2, rfl, hq1, hq2, hqa, hb9⟩; have HQ1 := hide hq1; have HQ2 := hide hq2; have HQA := hide hqa; have HB9 := hide hb9; obtain ⟨z0, z1, z2, z3, z4, z5, z6⟩ := ((unhide HV3).below (Nat.le_refl _) hb9).all; clear hq1 hq2 hqa hb9))
    refine bodyPost_ret (v := .tuple #[.agg #[.int .i64 r9.c, .slice q1 m1 d1, .slice q2 m2 d2], .bool r9.code]) (by simp [results, Try.results11, go_sem, z0, z1, z2]) rfl ?_
    rw [unhide HF]
    exact gives_on (unhide HQ1) (unhide HQ2) (unhide HQA) (unhide HB3) (unhide HB9) (by omega) (unhide HV3).lt _ _ _

end Go.Proofs.Ytadbhidpmihghaa
