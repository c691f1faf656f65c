import Derived.Test.YtgjpchnkodnieaaGreatDoorZv12
import Derived.Test.YtgjpchnkodnieaaGreatDoorZv09
namespace Go.Proofs.YtgjpchnkodnieaaGreatDoor
open Go.RowKit
set_option maxHeartbeats 1000000 in
theorem elementsOk_any (c : Bool) (a1 a2 : Option Addr) (n1 n2 c1 c2 : Nat) (dt : List Int) (w : World) (h2 : Row w a2 n2 dt) :
    Calls Tryz.prog 136 #[.agg #[.bool c, .slice a1 n1 c1, .slice a2 n2 c2]] w fun e w' => e = .returned (.bool (dt.all (dataOk c))) ∧ Below w.heap.size w w' := by
  have hl2 := hide h2.len
  have hs2 := h2.small
  have H2 := hide h2
  clear h2
  have hW : ∀ o, Below w.heap.size w (w.alloc o) := fun o => (Below.refl _ _).alloc (Nat.le_refl _) _
  cases c with
  | true =>
    go_enter Tryz.func136, Tryz.ntmps136
    go_wp2
    go_loop [5, 11] (fun _ i => ∃ k : Nat, k ≤ n2 ∧ i = .int .i64 k ∧ Hid ((dt.take k).all (dataOk true) = true)) (fun _ i => n2 - (intOf i).toNat)
    case atStart => exact ⟨0, Nat.zero_le _, rfl, rfl⟩
    case round =>
      obtain ⟨k, hk, rfl, hall⟩ := hrel
      by_cases hlt : k < n2
      · obtain ⟨b, off, rfl, hblt, hc⟩ := (unhide H2).get hlt
        have hks : Hid (k < dt.length) := by show k < dt.length; rw [unhide hl2]; exact hlt
        obtain ⟨x, hx⟩ : ∃ x, x = dt.getD k 0 := ⟨_, rfl⟩
        rw [← hx] at hc
        have HX := hide hx
        clear hx
        cases hr : dataOk true x with
        | true =>
          have HA := hide (all_step dt (dataOk true) k (unhide hks) (unhide hall) (by rw [← unhide HX, hr]))
          have HR := hide hr
          clear hr
          go_wp2_with (go_at_call 216; refine (isCharacter_any _ _).mono ?_; rintro e w' ⟨rfl, rfl⟩; rw [unhide HR])
          go_round
          case rel => exact ⟨k + 1, by omega, by go_num, HA⟩
          case measure => simp [intOf]; omega
        | false =>
          have HE := hide (all_not dt (dataOk true) k (unhide hks) (by rw [← unhide HX, hr]))
          have HR := hide hr
          clear hr
          go_wp2_with (go_at_call 216; refine (isCharacter_any _ _).mono ?_; rintro e w' ⟨rfl, rfl⟩; rw [unhide HR])
          go_ret
          exact ⟨ret_bool HE.out.symm, hW _⟩
      · have HA : Hid (dt.all (dataOk true) = true) := by
          have := unhide hall
          rwa [List.take_of_length_le (by rw [unhide hl2]; omega)] at this
        go_wp2
        go_ret
        exact ⟨ret_bool HA.out.symm, hW _⟩
  | false =>
    go_enter Tryz.func136, Tryz.ntmps136
    go_wp2
    go_loop [5, 11] (fun _ i => ∃ k : Nat, k ≤ n2 ∧ i = .int .i64 k ∧ Hid ((dt.take k).all (dataOk false) = true)) (fun _ i => n2 - (intOf i).toNat)
    case atStart => exact ⟨0, Nat.zero_le _, rfl, rfl⟩
    case round =>
      obtain ⟨k, hk, rfl, hall⟩ := hrel
      by_cases hlt : k < n2
      · obtain ⟨b, off, rfl, hblt, hc⟩ := (unhide H2).get hlt
        have hks : Hid (k < dt.length) := by show k < dt.length; rw [unhide hl2]; exact hlt
        obtain ⟨x, hx⟩ : ∃ x, x = dt.getD k 0 := ⟨_, rfl⟩
        rw [← hx] at hc
        have HX := hide hx
        clear hx
        cases hr : dataOk false x with
        | true =>
          have HA := hide (all_step dt (dataOk false) k (unhide hks) (unhide hall) (by rw [← unhide HX, hr]))
          have HR := hide hr
          clear hr
          go_wp2_with (go_at_call 215; refine (isNumber_any _ _).mono ?_; rintro e w' ⟨rfl, rfl⟩; rw [unhide HR])
          go_round
          case rel => exact ⟨k + 1, by omega, by go_num, HA⟩
          case measure => simp [intOf]; omega
        | false =>
          have HE := hide (all_not dt (dataOk false) k (unhide hks) (by rw [← unhide HX, hr]))
          have HR := hide hr
          clear hr
          go_wp2_with (go_at_call 215; refine (isNumber_any _ _).mono ?_; rintro e w' ⟨rfl, rfl⟩; rw [unhide HR])
          go_ret
          exact ⟨ret_bool HE.out.symm, hW _⟩
      · have HA : Hid (dt.all (dataOk false) = true) := by
          have := unhide hall
          rwa [List.take_of_length_le (by rw [unhide hl2]; omega)] at this
        go_wp2
        go_ret
        exact ⟨ret_bool HA.out.symm, hW _⟩
theorem elementsOk_eq (c : Bool) (a1 a2 : Option Addr) (n1 n2 c1 c2 : Nat) (dt : List Int) (w : World) (h2 : Row w a2 n2 dt) (r : Bool) (hr : Hid (dt.all (dataOk c) = r)) :
    Calls Tryz.prog 136 #[.agg #[.bool c, .slice a1 n1 c1, .slice a2 n2 c2]] w fun e w' => e = .returned (.bool r) ∧ Below w.heap.size w w' := by
  rw [← hr.out]; exact elementsOk_any c a1 a2 n1 n2 c1 c2 dt w h2
theorem arr_shape {c : Bool} {sh dt : List Int} (h : shapeB sh = false) : arrOk c sh dt = false := by
  unfold arrOk; unfold shapeB at h
  by_cases h1 : sh.length ≤ 5
  · rw [decide_eq_true h1] at h
    have h2 : ¬ 0 ≤ countOf sh := by simpa using h
    rw [decide_eq_false (p := countOf sh = _) (by omega)]; simp
  · rw [decide_eq_false h1]; rfl
set_option maxHeartbeats 1000000 in
theorem implArrayOk_any (c : Bool) (a1 a2 : Option Addr) (n1 n2 c1 c2 : Nat) (sh dt : List Int) (w : World) (h1 : Row w a1 n1 sh) (h2 : Row w a2 n2 dt) :
    Calls Tryz.prog 51 #[.agg #[.bool c, .slice a1 n1 c1, .slice a2 n2 c2]] w fun e w' => e = .returned (.bool (arrOk c sh dt)) ∧ Below w.heap.size w w' := by
  have hl1 := hide h1.len
  have hl2 := hide h2.len
  have hs1 := h1.small
  have hs2 := h2.small
  have H1 := hide h1
  have H2 := hide h2
  clear h1 h2
  have hW : ∀ o, Below w.heap.size w (w.alloc o) := fun o => (Below.refl _ _).alloc (Nat.le_refl _) _
  cases hsb : shapeB sh with
  | false =>
    have HS := hide hsb
    have HE := hide (arr_shape (c := c) (dt := dt) hsb)
    clear hsb
    go_enter Tryz.func51, Tryz.ntmps51
    go_wp2
    go_quiet ((go_at_call 114; exact Calls.quiet_of_same (shapeOk_eq _ _ _ sh _ (((unhide H1).alloc _).drewN _) false HS)))
    go_wp2
    go_ret
    exact ⟨ret_bool HE.out.symm, Below.drewN (hW _) _⟩
  | true =>
    have HS := hide hsb
    clear hsb
    obtain ⟨cn, hcn⟩ : ∃ cn, countOf sh = cn := ⟨_, rfl⟩
    have HC := hide hcn
    clear hcn
    by_cases hcn : cn = n2
    · have hb : ((n2 : Int) == cn) = true := by simp [hcn]
      have HCN := hide hcn
      clear hcn
      obtain ⟨r, hr⟩ : ∃ r, dt.all (dataOk c) = r := ⟨_, rfl⟩
      have HR := hide hr
      clear hr
      have HE : Hid (arrOk c sh dt = r) := by
        show _ = _
        have h5 := unhide HS
        unfold shapeB at h5
        simp only [Bool.and_eq_true, decide_eq_true_eq] at h5
        unfold arrOk
        rw [unhide HR, decide_eq_true h5.1, decide_eq_true (by rw [unhide HC, unhide HCN, unhide hl2])]; rfl
      go_enter Tryz.func51, Tryz.ntmps51
      go_wp2_with fail
      go_cut [2] (fun r' wr => r' = .bool r ∧ Below w.heap.size w wr)
      case first =>
        go_region_with (first
          | (go_at_call 114; refine (shapeOk_eq _ _ _ sh _ (by first | exact ((unhide H1).alloc _).drew | exact (((unhide H1).alloc _).drewN _)) true HS).mono ?_; rintro e w' ⟨rfl, rfl⟩)
          | (go_at_call 116; refine (cellsOf_count _ _ _ sh _ (by first | exact ((unhide H1).alloc _).drew | exact (((unhide H1).alloc _).drewN _)) (unhide HS) cn HC).mono ?_; rintro e w' ⟨rfl, rfl⟩)
          | (go_at_call 136; refine (elementsOk_eq _ _ _ _ _ _ _ dt _ (by first | exact ((unhide H2).alloc _).drew | exact (((unhide H2).alloc _).drewN _)) r HR).mono ?_; rintro e w' ⟨rfl, hbe⟩))
        all_goals go_wp2_with fail
        all_goals (go_meet; case rel => exact ⟨rfl, (hW _).drew.trans (hbe.mono (by simp))⟩)
      case rest =>
        obtain ⟨rfl, hbc⟩ := hcut
        go_wp2
        go_ret
        exact ⟨ret_bool HE.out.symm, hbc⟩
    · have hb : ((n2 : Int) == cn) = false := by simp; omega
      have HE := hide (arr_count (c := c) (sh := sh) (unhide hl2) (by rw [unhide HC]; exact hcn))
      clear hcn
      go_enter Tryz.func51, Tryz.ntmps51
      go_wp2
      go_quiet (first | (go_at_call 114; exact Calls.quiet_of_same (shapeOk_eq _ _ _ sh _ (((unhide H1).alloc _).drewN _) true HS)) | (go_at_call 116; exact Calls.quiet_of_same (cellsOf_count _ _ _ sh _ (((unhide H1).alloc _).drewN _) (unhide HS) cn HC)))
      go_wp2
      go_ret
      exact ⟨ret_bool HE.out.symm, Below.drewN (hW _) _⟩
theorem implArrayOk_eq (c : Bool) (a1 a2 : Option Addr) (n1 n2 c1 c2 : Nat) (sh dt : List Int) (w : World) (h1 : Row w a1 n1 sh) (h2 : Row w a2 n2 dt) (r : Bool) (hr : Hid (arrOk c sh dt = r)) :
    Calls Tryz.prog 51 #[.agg #[.bool c, .slice a1 n1 c1, .slice a2 n2 c2]] w fun e w' => e = .returned (.bool r) ∧ Below w.heap.size w w' := by
  rw [← hr.out]; exact implArrayOk_any c a1 a2 n1 n2 c1 c2 sh dt w h1 h2
end Go.Proofs.YtgjpchnkodnieaaGreatDoor
