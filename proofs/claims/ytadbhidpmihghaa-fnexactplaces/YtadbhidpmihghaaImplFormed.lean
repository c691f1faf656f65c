import Derived.Test.YtadbhidpmihghaaLayBox
import Derived.Laws.CopyOwn
namespace Go.Proofs.Ytadbhidpmihghaa
open Go.RowKit

set_option maxHeartbeats 400000 in
theorem isOffset_eq (v : Int) (r : Bool) (hr : Hid (viewIn v = r)) (w : World) : Calls Try.prog 65 #[.int .i64 v] w fun e w' => e = .returned (.bool r) ∧ w' = w := by
  have HW : Hid (withinB v (-10000) 10000 = r) := hr
  go_enter Try.func65, Try.ntmps65
  go_wp2_with (go_at_call 39; refine (isWithin_eq _ _ _ _ r HW).mono ?_; rintro e w' ⟨rfl, rfl⟩)
  go_ret
  exact ⟨rfl, rfl⟩

set_option maxHeartbeats 2000000 in
theorem isFormed_eq (off : Int) (a1 a2 : Option Addr) (n1 n2 c1 c2 : Nat) (sh st : List Int) (w : World) (h1 : Row w a1 n1 sh) (h2 : Row w a2 n2 st) (r : Bool) (hr : Hid (formed off sh st = r)) :
    Calls Try.prog 54 #[.agg #[.int .i64 off, .slice a1 n1 c1, .slice a2 n2 c2]] w fun e w' => e = .returned (.bool r) ∧ Below w.heap.size w w' := by
  have hl1 := hide h1.len
  have hl2 := hide h2.len
  have hs1 := h1.small
  have hs2 := h2.small
  have H1 := hide h1
  have H2 := hide h2
  clear h1 h2
  have hW : ∀ o, Below w.heap.size w (w.alloc o) := fun o => (Below.refl _ _).alloc (Nat.le_refl _) _
  obtain ⟨r1, hr1⟩ : ∃ r, shapeB sh = r := ⟨_, rfl⟩
  have HR1 := hide hr1
  clear hr1
  cases r1 with
  | false =>
    have HE : Hid (r = false) := by rw [← unhide hr]; exact formed_no1 (unhide HR1)
    go_enter Try.func54, Try.ntmps54
    go_wp2_with (go_at_call 32; refine (shapeOk_eq _ _ _ sh _ ((unhide H1).alloc _) _ HR1).mono ?_; rintro e wq ⟨rfl, hw⟩; obtain rfl := hw.symm)
    go_ret
    exact ⟨ret_bool (by rw [unhide HE]), hW _⟩
  | true =>
    by_cases hn : n2 = n1
    · subst hn
      obtain ⟨r3, hr3⟩ : ∃ r, viewIn off = r := ⟨_, rfl⟩
      have HR3 := hide hr3
      clear hr3
      go_enter Try.func54, Try.ntmps54
      go_wp2_with (go_at_call 32; refine (shapeOk_eq _ _ _ sh _ ((unhide H1).alloc _) _ HR1).mono ?_; rintro e wq ⟨rfl, hw⟩; obtain rfl := hw.symm)
      go_loop [21] (fun i => ∃ k : Nat, k ≤ n2 ∧ i = .int .i64 k ∧ Hid ((st.take k).all viewIn = true)) (fun i => n2 - (intOf i).toNat)
      case atStart => exact ⟨0, Nat.zero_le _, rfl, rfl⟩
      case round =>
        obtain ⟨k, hk, rfl, hall⟩ := hrel
        by_cases hlt : k < n2
        · obtain ⟨b, o, rfl, hb, hc⟩ := (unhide H2).get hlt
          have hc' := ((hW (.cells #[.int .i64 off, .slice a1 n2 c1, .slice (some ⟨b, o, none⟩) n2 c2] 24)).cell (p := ⟨b, o + k, none⟩) hb).trans hc
          have hks : Hid (k < st.length) := by show k < st.length; rw [unhide hl2]; exact hlt
          obtain ⟨x, hx⟩ : ∃ x, x = st.getD k 0 := ⟨_, rfl⟩
          rw [← hx] at hc'
          have HX := hide hx
          obtain ⟨rx, hrx⟩ : ∃ r, viewIn x = r := ⟨_, rfl⟩
          have HRX := hide hrx
          clear hx hc hrx
          cases rx with
          | false =>
            have HE : Hid (r = false) := by rw [← unhide hr]; exact formed_no4 (all_not st viewIn k (unhide hks) (by rw [← unhide HX]; exact unhide HRX))
            go_wp2_with (go_at_call 65; refine (isOffset_eq x _ HRX _).mono ?_; rintro e wq ⟨rfl, hw⟩; obtain rfl := hw.symm)
            go_ret
            exact ⟨ret_bool (by rw [unhide HE]), hW _⟩
          | true =>
            have HA := hide (all_step st viewIn k (unhide hks) (unhide hall) (by rw [← unhide HX]; exact unhide HRX))
            go_wp2_with (go_at_call 65; refine (isOffset_eq x _ HRX _).mono ?_; rintro e wq ⟨rfl, hw⟩; obtain rfl := hw.symm)
            go_round
            case rel => exact ⟨k + 1, by omega, by go_num, HA⟩
            case measure => simp [intOf]; omega
        · have HE : Hid (r = r3) := by
            rw [← unhide hr]
            have := unhide hall
            rw [List.take_of_length_le (by rw [unhide hl2]; omega)] at this
            cases r3 with
            | true => exact formed_yes (unhide HR1) (by rw [unhide hl1, unhide hl2]) (unhide HR3) this
            | false => exact formed_no3 (unhide HR3)
          go_wp2_with (go_at_call 65; refine (isOffset_eq off _ HR3 _).mono ?_; rintro e wq ⟨rfl, hw⟩; obtain rfl := hw.symm)
          go_ret
          exact ⟨ret_bool (by rw [unhide HE]), hW _⟩
    · have g0 : ((n2 : Int) != (n1 : Int)) = true := by simp; omega
      have HE : Hid (r = false) := by rw [← unhide hr]; exact formed_no2 (by rw [unhide hl1, unhide hl2]; exact hn)
      clear hn
      go_enter Try.func54, Try.ntmps54
      go_wp2_with (go_at_call 32; refine (shapeOk_eq _ _ _ sh _ ((unhide H1).alloc _) _ HR1).mono ?_; rintro e wq ⟨rfl, hw⟩; obtain rfl := hw.symm)
      go_ret
      exact ⟨ret_bool (by rw [unhide HE]), hW _⟩

end Go.Proofs.Ytadbhidpmihghaa
