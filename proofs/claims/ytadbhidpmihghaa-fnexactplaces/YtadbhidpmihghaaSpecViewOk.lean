import Derived.Test.YtadbhidpmihghaaSpecView
namespace Go.Proofs.Ytadbhidpmihghaa
open Go.RowKit

theorem viewOk_no1 {off cells : Int} {sh st : List Int} (h : formed off sh st = false) : viewOk off sh st cells = false := by unfold viewOk; rw [h]; rfl
theorem viewOk_no2 {off cells : Int} {sh st : List Int} (h : ¬ (0 ≤ cells ∧ cells ≤ 10000)) : viewOk off sh st cells = false := by unfold viewOk; rw [decide_eq_false h]; simp
theorem viewOk_all {off cells : Int} {sh st : List Int} (h1 : formed off sh st = true) (h2 : 0 ≤ cells ∧ cells ≤ 10000) : viewOk off sh st cells = (placesOf off sh st).all fun p => decide (0 ≤ p ∧ p < cells) := by unfold viewOk; rw [h1, decide_eq_true h2]; rfl

set_option maxHeartbeats 2000000 in
theorem ViewOk_eq (off : Int) (a1 a2 : Option Addr) (n1 n2 c1 c2 : Nat) (sh st : List Int) (cells : Int) (w : World) (h1 : Row w a1 n1 sh) (h2 : Row w a2 n2 st) (r : Bool) (hr : Hid (viewOk off sh st cells = r)) :
    Calls Try.prog 18 #[.agg #[.int .i64 off, .slice a1 n1 c1, .slice a2 n2 c2], .int .i64 cells] w fun e w' => e = .returned (.bool r) ∧ Below w.heap.size w w' := by
  have hl1 := hide h1.len
  have hl2 := hide h2.len
  have H1 := hide h1
  have H2 := hide h2
  clear h1 h2
  have hW : ∀ o, Below w.heap.size w (w.alloc o) := fun o => (Below.refl _ _).alloc (Nat.le_refl _) _
  obtain ⟨r1, hr1⟩ : ∃ r, formed off sh st = r := ⟨_, rfl⟩
  have HR1 := hide hr1
  clear hr1
  have HCF := hide (l7Formed_eq off a1 a2 n1 n2 c1 c2 sh st (w.alloc (.cells #[.int .i64 off, .slice a1 n1 c1, .slice a2 n2 c2] 24)) ((unhide H1).alloc _) ((unhide H2).alloc _) r1 HR1)
  cases r1 with
  | false =>
    have HE : Hid (r = false) := by rw [← unhide hr]; exact viewOk_no1 (unhide HR1)
    go_enter Try.func18, Try.ntmps18
    go_wp2_with (go_at_call 36; refine (unhide HCF).mono ?_; rintro e w1 ⟨rfl, hb1⟩; have HB1 := hide hb1; clear hb1)
    go_ret
    exact ⟨ret_bool (by rw [unhide HE]), (hW _).trans ((unhide HB1).mono (by simp))⟩
  | true =>
    by_cases hc0 : 0 ≤ cells
    · by_cases hc1 : cells ≤ 10000
      · obtain ⟨hsb, hl, _, _⟩ := formed_parts (unhide HR1)
        rw [unhide hl1, unhide hl2] at hl
        subst hl
        have hcb := shapeB_count hsb
        obtain ⟨N, hN⟩ : ∃ N : Nat, countOf sh = (N : Int) := ⟨(countOf sh).toNat, by omega⟩
        have hN4 : N ≤ 10000 := by omega
        have HEQ := hide (viewOk_all (unhide HR1) ⟨hc0, hc1⟩)
        have HN := hide hN
        clear hsb hcb hN
        obtain ⟨ps, hps⟩ : ∃ ps, ps = placesOf off sh st := ⟨_, rfl⟩
        rw [← hps] at HEQ
        have HPS := hide hps
        clear hps
        go_enter Try.func18, Try.ntmps18
        go_upto_region 4 with (first | (go_at_call 36; refine (unhide HCF).mono ?_; rintro e w1 ⟨rfl, hb1⟩; have HB1 := hide hb1; obtain ⟨x0, x1, x2, x3, x4, x5, x6⟩ := ((VBox.new w off (.slice a1 n2 c1) (.slice a2 n2 c2)).below (Nat.le_refl _) hb1).all; clear hb1) | (go_at_call 37; refine (l7Places_any off a1 a2 n2 c1 c2 sh st _ (by exact ((unhide H1).alloc _).below (Nat.le_refl _) (unhide HB1)) (by exact ((unhide H2).alloc _).below (Nat.le_refl _) (unhide HB1)) (unhide HR1) N (unhide HN)).mono ?_; rintro e w2 ⟨g, k, rfl, ho2, hb2⟩; have HO := hide ho2; have HB2 := hide hb2; clear ho2 hb2))
        rw [← unhide HPS] at HO
        have HW2 : Hid (Below w.heap.size w w2) := ((hW _).trans ((unhide HB1).mono (by simp))).trans ((unhide HB2).mono (by have := (unhide HB1).size; simp at this; omega))
        clear x0 x1 x2 x3 x4 x5 x6 HB1 HB2 HCF
        go_wp2_with fail
        go_loop [6] (fun i => ∃ j : Nat, j ≤ N ∧ i = .int .i64 j ∧ Hid ((ps.take j).all (fun p => decide (0 ≤ p ∧ p < cells)) = true)) (fun i => N - (intOf i).toNat)
        case atStart => exact ⟨0, Nat.zero_le _, rfl, rfl⟩
        case round =>
          obtain ⟨j, hj, rfl, hall⟩ := hrel
          by_cases hlt : j < N
          · obtain ⟨b, o, hab, hb, hc⟩ := (unhide HO).row.get hlt
            cases hab
            rw [Nat.zero_add] at hc
            have hks : Hid (j < ps.length) := by show j < ps.length; rw [(unhide HO).len]; exact hlt
            obtain ⟨x, hx⟩ : ∃ x, x = ps.getD j 0 := ⟨_, rfl⟩
            rw [← hx] at hc
            have HX := hide hx
            clear hx
            by_cases hx0 : x < 0
            · have HE : Hid (r = false) := by rw [← unhide hr, unhide HEQ]; exact all_not ps _ j (unhide hks) (by rw [← unhide HX]; exact decide_eq_false (by omega))
              go_wp2
              go_ret
              exact ⟨ret_bool (by rw [unhide HE]), unhide HW2⟩
            · by_cases hx1 : x < cells
              · have HA := hide (all_step ps (fun p => decide (0 ≤ p ∧ p < cells)) j (unhide hks) (unhide hall) (by rw [← unhide HX]; exact decide_eq_true ⟨by omega, hx1⟩))
                go_wp2
                go_round
                case rel => exact ⟨j + 1, by omega, by go_num, HA⟩
                case measure => simp [intOf]; omega
              · have HE : Hid (r = false) := by rw [← unhide hr, unhide HEQ]; exact all_not ps _ j (unhide hks) (by rw [← unhide HX]; exact decide_eq_false (by omega))
                go_wp2
                go_ret
                exact ⟨ret_bool (by rw [unhide HE]), unhide HW2⟩
          · have HE : Hid (r = true) := by
              rw [← unhide hr, unhide HEQ]
              have := unhide hall
              rwa [List.take_of_length_le (by rw [(unhide HO).len]; omega)] at this
            go_wp2
            go_ret
            exact ⟨ret_bool (by rw [unhide HE]), unhide HW2⟩
      · have HE : Hid (r = false) := by rw [← unhide hr]; exact viewOk_no2 (by omega)
        go_enter Try.func18, Try.ntmps18
        go_wp2_with (go_at_call 36; refine (unhide HCF).mono ?_; rintro e w1 ⟨rfl, hb1⟩; have HB1 := hide hb1; clear hb1)
        go_ret
        exact ⟨ret_bool (by rw [unhide HE]), (hW _).trans ((unhide HB1).mono (by simp))⟩
    · have HE : Hid (r = false) := by rw [← unhide hr]; exact viewOk_no2 (by omega)
      go_enter Try.func18, Try.ntmps18
      go_wp2_with (go_at_call 36; refine (unhide HCF).mono ?_; rintro e w1 ⟨rfl, hb1⟩; have HB1 := hide hb1; clear hb1)
      go_ret
      exact ⟨ret_bool (by rw [unhide HE]), (hW _).trans ((unhide HB1).mono (by simp))⟩

end Go.Proofs.Ytadbhidpmihghaa
