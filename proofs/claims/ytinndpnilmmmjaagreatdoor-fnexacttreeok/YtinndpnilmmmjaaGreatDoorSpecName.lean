import Derived.Test.YtinndpnilmmmjaaGreatDoorMFit0
import Derived.Test.YtinndpnilmmmjaaGreatDoorMFit0
namespace Go.Proofs.YtinndpnilmmmjaaGreatDoor
open Go.RowKit

theorem letterOk (c : Nat) (r : Bool) (h : isL c = r) (W : World) : Calls Tryz.prog 115 #[.int .u8 (c : Nat)] W fun e w' => e = .returned (.bool r) ∧ w' = W := by rw [← h]; exact l1Letter_any c W
theorem digitOk (c : Nat) (r : Bool) (h : isD c = r) (W : World) : Calls Tryz.prog 116 #[.int .u8 (c : Nat)] W fun e w' => e = .returned (.bool r) ∧ w' = W := by rw [← h]; exact l1Digit_any c W

theorem nameB_no {s : ByteArray} {hi : Bool} (h : ¬ (1 ≤ s.size ∧ s.size ≤ 20 ∧ isL (bt s 0) = true ∧ ∀ i, i < s.size → isLD (bt s i) = true)) : nameB s hi = false := by
  unfold nameB
  rw [decide_eq_false h]
  rfl

set_option maxHeartbeats 4000000 in
theorem l2Name_any (s : ByteArray) (hi : Bool) (w : World) (hs : s.size ≤ 1048576) : Calls Tryz.prog 56 #[.string s, .bool hi] w fun e w' => e = .returned (.bool (nameB s hi)) ∧ w' = w := by
  obtain ⟨r, hr⟩ : ∃ r, nameB s hi = r := ⟨_, rfl⟩
  rw [hr]
  have HR := hide hr
  clear hr
  by_cases h0 : s.size < 1
  · have hg : (s.size : Int) < 1 := by omega
    have HE : Hid (false = r) := by show _ = _; rw [← unhide HR, nameB_no (by omega)]
    clear h0
    go_enter Tryz.func56, Tryz.ntmps56
    go_wp2_with fail
    go_ret
    exact ⟨ret_bool (unhide HE), rfl⟩
  have hg0 : ¬ (s.size : Int) < 1 := by omega
  by_cases h1 : 20 < s.size
  · have hg : (20 : Int) < (s.size : Int) := by omega
    have HE : Hid (false = r) := by show _ = _; rw [← unhide HR, nameB_no (by omega)]
    clear h0 h1
    go_enter Tryz.func56, Tryz.ntmps56
    go_wp2_with fail
    go_ret
    exact ⟨ret_bool (unhide HE), rfl⟩
  have hg1 : ¬ (20 : Int) < (s.size : Int) := by omega
  have hi0 : ∀ W, (Instr.index 9 (.string s) (.int .i64 0)).run Tryz.prog W = .ok (.int .u8 (bt s 0 : Nat)) W := fun W => run_idx (s := s) (k := 0) (by omega) W
  have HNO := hide (fun (h : ¬ (1 ≤ s.size ∧ s.size ≤ 20 ∧ isL (bt s 0) = true ∧ ∀ i, i < s.size → isLD (bt s i) = true)) => (nameB_no (hi := hi) h).symm.trans (unhide HR))
  have HYES : Hid ((∀ i, i < s.size → isLD (bt s i) = true) → isL (bt s 0) = true → (decide (bt s 0 ≤ 90) == hi) = r) := fun h h' => by
    rw [← unhide HR]
    unfold nameB
    rw [decide_eq_true (show 1 ≤ s.size ∧ s.size ≤ 20 ∧ isL (bt s 0) = true ∧ ∀ i, i < s.size → isLD (bt s i) = true from ⟨by omega, by omega, h', h⟩)]
    rfl
  obtain ⟨c, hc⟩ : ∃ c, bt s 0 = c := ⟨_, rfl⟩
  rw [hc] at hi0 HNO HYES
  clear hc HR
  cases h2 : isL c with
  | false =>
    have HL := hide (fun W => letterOk c false h2 W)
    have HE : Hid (false = r) := unhide HNO (by rw [h2]; simp)
    clear h0 h1 h2
    go_enter Tryz.func56, Tryz.ntmps56
    go_wp2_with (first | (go_at_call 115; refine (unhide HL _).mono ?_; rintro e w1 ⟨rfl, rfl⟩))
    go_ret
    exact ⟨ret_bool (unhide HE), rfl⟩
  | true =>
    have HL := hide (fun W => letterOk c true h2 W)
    have H2 := hide h2
    clear h2
    go_enter Tryz.func56, Tryz.ntmps56
    go_wp2_with (first | (go_at_call 115; refine (unhide HL _).mono ?_; rintro e w1 ⟨rfl, rfl⟩))
    clear HL
    go_loopw [5] (fun i wr => ∃ k : Nat, k ≤ s.size ∧ i = .int .i64 k ∧ Hid (∀ i, i < k → isLD (bt s i) = true) ∧ wr = w1) (fun i _ => s.size - (intOf i).toNat)
    case atStart => exact ⟨0, Nat.zero_le _, rfl, fun i hi => absurd hi (Nat.not_lt_zero _), rfl⟩
    case round =>
      obtain ⟨k, hk, rfl, HA, rfl⟩ := hrel
      by_cases hlt : k < s.size
      · have hlti : (k : Int) < (s.size : Int) := by omega
        have hik := fun W => run_idx (s := s) (k := k) hlt W
        have HST : Hid (isLD (bt s k) = true → ∀ i, i < k + 1 → isLD (bt s i) = true) := fun h i hi => by
          by_cases e : i = k
          · subst e; exact h
          · exact unhide HA i (by omega)
        have HBAD : Hid (isLD (bt s k) = false → false = r) := fun h => unhide HNO (fun hh => by have := hh.2.2.2 k hlt; rw [h] at this; cases this)
        obtain ⟨d, hd⟩ : ∃ d, bt s k = d := ⟨_, rfl⟩
        rw [hd] at hik HST HBAD
        clear hd HA
        cases h3 : isL d with
        | true =>
          have HL := hide (fun W => letterOk d true h3 W)
          have HT : Hid (∀ i, i < k + 1 → isLD (bt s i) = true) := unhide HST (by unfold isLD; rw [h3]; rfl)
          clear h3 HST HBAD hi0
          go_wp2_with (first | (go_at_call 115; refine (unhide HL _).mono ?_; rintro e w1 ⟨rfl, rfl⟩))
          go_roundw
          case rel => exact ⟨k + 1, by omega, by go_num, HT, trivial⟩
          case measure => simp [intOf]; omega
        | false =>
          have HL := hide (fun W => letterOk d false h3 W)
          cases h4 : isD d with
          | true =>
            have HD := hide (fun W => digitOk d true h4 W)
            have HT : Hid (∀ i, i < k + 1 → isLD (bt s i) = true) := unhide HST (by unfold isLD; rw [h3, h4]; rfl)
            clear h3 h4 HST HBAD hi0
            go_wp2_with (first | (go_at_call 115; refine (unhide HL _).mono ?_; rintro e w1 ⟨rfl, rfl⟩) | (go_at_call 116; refine (unhide HD _).mono ?_; rintro e w1 ⟨rfl, rfl⟩))
            go_roundw
            case rel => exact ⟨k + 1, by omega, by go_num, HT, trivial⟩
            case measure => simp [intOf]; omega
          | false =>
            have HD := hide (fun W => digitOk d false h4 W)
            have HE : Hid (false = r) := unhide HBAD (by unfold isLD; rw [h3, h4]; rfl)
            clear h3 h4 HST HBAD hi0
            go_wp2_with (first | (go_at_call 115; refine (unhide HL _).mono ?_; rintro e w1 ⟨rfl, rfl⟩) | (go_at_call 116; refine (unhide HD _).mono ?_; rintro e w1 ⟨rfl, rfl⟩))
            go_ret
            exact ⟨ret_bool (unhide HE), rfl⟩
      · have hkn : k = s.size := by omega
        have hlti : ¬ (k : Int) < (s.size : Int) := by omega
        have HE : Hid ((decide (c ≤ 90) == hi) = r) := unhide HYES (by rw [← hkn]; exact unhide HA) (unhide H2)
        clear HA HNO HYES H2
        go_wp2_with fail
        go_ret
        exact ⟨ret_bool (by rw [← unhide HE]; exact congrArg (· == hi) (decide_eq_decide.2 (by omega))), rfl⟩

end Go.Proofs.YtinndpnilmmmjaaGreatDoor
