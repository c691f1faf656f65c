import Derived.Test.YtkgcmpmgaghdhaaDoorMFit0
import Derived.Test.YtkgcmpmgaghdhaaDoorMFit0
namespace Go.Proofs.YtkgcmpmgaghdhaaDoor
open Go.RowKit

set_option maxHeartbeats 1000000 in
theorem l3Count_any (a : Option Addr) (n cap : Nat) (sh : List Int) (w : World) (h : Row w a n sh) : Calls Tryd.prog 28 #[.slice a n cap] w fun e w' => e = .returned (.int .i64 (countOf sh)) ∧ w' = w := by
  have hlen := hide h.len
  have hsm := h.small
  have H := hide h
  clear h
  go_enter Tryd.func28, Tryd.ntmps28
  go_wp2
  go_loop [4] (fun i => ∃ k : Nat, k ≤ n ∧ i = .int .i64 k ∧ Hid ((sh.take k).all inCells = true)) (fun i => n - (intOf i).toNat)
  case atStart => exact ⟨0, Nat.zero_le _, rfl, rfl⟩
  case round =>
    obtain ⟨k, hk, rfl, hall⟩ := hrel
    by_cases hlt : k < n
    · obtain ⟨b, off, rfl, hblt, hc⟩ := (unhide H).get hlt
      have hks : Hid (k < sh.length) := by show k < sh.length; rw [unhide hlen]; exact hlt
      obtain ⟨x, hx⟩ : ∃ x, x = sh.getD k 0 := ⟨_, rfl⟩
      rw [← hx] at hc
      have HX := hide hx
      clear hx
      by_cases hneg : x < 0
      · have HE : Hid (countOf sh = -1) := count_bad sh (all_not sh inCells k (unhide hks) (by rw [← unhide HX]; exact decide_eq_false (by omega)))
        go_wp2
        go_ret
        exact ⟨ret_int HE.out.symm, rfl⟩
      · by_cases hbig : 10000 < x
        · have HE : Hid (countOf sh = -1) := count_bad sh (all_not sh inCells k (unhide hks) (by rw [← unhide HX]; exact decide_eq_false (by omega)))
          go_wp2
          go_ret
          exact ⟨ret_int HE.out.symm, rfl⟩
        · have HA : Hid ((sh.take (k + 1)).all inCells = true) := all_step sh inCells k (unhide hks) (unhide hall) (by rw [← unhide HX]; exact decide_eq_true (by omega))
          go_wp2
          go_round
          case rel => exact ⟨k + 1, by omega, by go_num, HA⟩
          case measure => simp [intOf]; omega
    · have HA : Hid (sh.all inCells = true) := by
        have := unhide hall
        rwa [List.take_of_length_le (by rw [unhide hlen]; omega)] at this
      clear hall
      go_wp2
      go_loop [3, 5, 6] (fun p z i => ∃ (k : Nat) (m : Int), k ≤ n ∧ i = .int .i64 k ∧ p = .int .i64 m ∧ Hid (prodFrom (sh.take k) 1 = some m) ∧ z = .bool (decide (0 ∈ sh.take k))) (fun _ _ i => n - (intOf i).toNat)
      case atStart => exact ⟨0, 1, Nat.zero_le _, rfl, rfl, rfl, rfl⟩
      case round =>
        obtain ⟨k, m, hk, rfl, rfl, hp, rfl⟩ := hrel
        have hmb := prodFrom_bd (sh.take k) 1 m (by rw [List.all_eq_true]; exact fun x hx => List.all_eq_true.1 (unhide HA) x (List.mem_of_mem_take hx)) (by omega) (by omega) (unhide hp)
        obtain ⟨hm1, hm2⟩ := hmb
        by_cases hlt : k < n
        · obtain ⟨b, off, rfl, hblt, hc⟩ := (unhide H).get hlt
          have hks : Hid (k < sh.length) := by show k < sh.length; rw [unhide hlen]; exact hlt
          have hxb : 0 ≤ sh.getD k 0 ∧ sh.getD k 0 ≤ 10000 := of_decide_eq_true (List.all_eq_true.1 (unhide HA) (sh.getD k 0) (by simp [unhide hks]))
          have HZ := hide (zero_step sh k (unhide hks))
          obtain ⟨x, hx⟩ : ∃ x, x = sh.getD k 0 := ⟨_, rfl⟩
          rw [← hx] at hc hxb
          obtain ⟨hx0, hx1⟩ := hxb
          have HX := hide hx
          clear hx
          generalize decide (0 ∈ sh.take k) = z0 at *
          by_cases h0 : x = 0
          · have hb : (x == 0) = true := by simp [h0]
            have HP := hide (prod_step0 sh k (unhide hks) m (unhide hp) (by rw [← unhide HX]; exact h0))
            have HZ2 : Hid (true = decide (0 ∈ sh.take (k + 1))) := by show _ = _; rw [unhide HZ, ← unhide HX, decide_eq_true h0, Bool.or_true]
            clear h0 HZ
            go_wp2
            go_round
            case rel => exact ⟨k + 1, m, by omega, by go_num, rfl, HP, by rw [← unhide HZ2]⟩
            case measure => simp [intOf]; omega
          · have hb : (x == 0) = false := by simp [h0]
            have HZ2 : Hid (z0 = decide (0 ∈ sh.take (k + 1))) := by show _ = _; rw [unhide HZ, ← unhide HX, decide_eq_false h0, Bool.or_false]
            have hmx : m * x ≤ 10000 * 10000 := Int.mul_le_mul hm2 hx1 hx0 (by omega)
            have hmx0 : 0 ≤ m * x := Int.mul_nonneg (by omega) hx0
            by_cases hbig : 10000 < m * x
            · have HE : Hid (countOf sh = -1) := count_big sh (prod_none sh k (unhide hks) m (unhide hp) (by rw [← unhide HX]; exact h0) (by rw [← unhide HX]; exact hbig))
              clear h0 HZ
              go_wp2
              go_ret
              exact ⟨ret_int HE.out.symm, rfl⟩
            · have HP := hide (prod_step sh k (unhide hks) m (unhide hp) (by rw [← unhide HX]; exact h0) (by rw [← unhide HX]; omega))
              rw [← unhide HX] at HP
              clear h0 HZ
              go_wp2
              go_round
              case rel => exact ⟨k + 1, m * x, by omega, by go_num, rfl, HP, by rw [← unhide HZ2]⟩
              case measure => simp [intOf]; omega
        · have HP : Hid (prodFrom sh 1 = some m) := by
            have := unhide hp
            rwa [List.take_of_length_le (by rw [unhide hlen]; omega)] at this
          rw [List.take_of_length_le (by rw [unhide hlen]; omega)]
          by_cases hz : 0 ∈ sh
          · have hd : decide (0 ∈ sh) = true := decide_eq_true hz
            have HE := hide (count_zero sh m (unhide HA) (unhide HP) hd)
            clear hz
            rw [hd]
            go_wp2
            go_ret
            exact ⟨ret_int HE.out.symm, rfl⟩
          · have hd : decide (0 ∈ sh) = false := decide_eq_false hz
            have HE := hide (count_n sh m (unhide HA) (unhide HP) hd)
            clear hz
            rw [hd]
            go_wp2
            go_ret
            exact ⟨ret_int HE.out.symm, rfl⟩

theorem l3Count_eq (a : Option Addr) (n cap : Nat) (sh : List Int) (w : World) (h : Row w a n sh) (cn : Int) (hc : Hid (countOf sh = cn)) : Calls Tryd.prog 28 #[.slice a n cap] w fun e w' => e = .returned (.int .i64 cn) ∧ w' = w := by
  rw [← hc.out]; exact l3Count_any a n cap sh w h

end Go.Proofs.YtkgcmpmgaghdhaaDoor
