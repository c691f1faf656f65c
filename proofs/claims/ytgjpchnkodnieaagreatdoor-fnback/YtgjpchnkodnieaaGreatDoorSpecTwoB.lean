import Derived.Test.YtgjpchnkodnieaaGreatDoorSpecTwo
namespace Go.Proofs.YtgjpchnkodnieaaGreatDoor
open Go.RowKit

theorem pow_ok {a b : Int} (h : inM (a ^ b.toNat) = true) : powOf a b = (a ^ b.toNat, true) := by simp [powOf, h]
theorem pow_big {a b : Int} (h : inM (a ^ b.toNat) = false) : powOf a b = (0, false) := by simp [powOf, h]

theorem pow_zero_base {b : Int} (h : 0 < b) : powOf 0 b = (0, true) := by
  have : (0 : Int) ^ b.toNat = 0 := Int.zero_pow (by omega)
  rw [pow_ok (by rw [this]; rfl), this]
theorem pow_zero_zero : powOf 0 0 = (1, true) := by simp [powOf, inM]
theorem pow_one_base {b : Int} : powOf 1 b = (1, true) := by
  have : (1 : Int) ^ b.toNat = 1 := Int.one_pow
  rw [pow_ok (by rw [this]; rfl), this]
theorem neg_one_pow (n : Nat) : ((-1 : Int)) ^ n = 1 - (n % 2 : Nat) * 2 := by
  induction n with
  | zero => rfl
  | succ n ih => rw [Int.pow_succ, ih]; omega
theorem pow_neg_one {b : Int} (h : 0 ≤ b) : powOf (-1) b = (1 - b.tmod 2 * 2, true) := by
  have e : b.tmod 2 = ((b.toNat % 2 : Nat) : Int) := by rw [Int.tmod_eq_emod_of_nonneg h]; omega
  have : (-1 : Int) ^ b.toNat = 1 - b.tmod 2 * 2 := by rw [neg_one_pow, e]
  rw [pow_ok (by rw [this]; have : 0 ≤ b.tmod 2 ∧ b.tmod 2 ≤ 1 := by rw [e]; omega
                 exact inM_of (by omega) (by omega)), this]

set_option maxHeartbeats 2000000 in
theorem l4Power_any (a b : Int) (w : World) (ha : -1000000000000000 ≤ a ∧ a ≤ 1000000000000000) (hb0 : 0 ≤ b) (hb : b ≤ 1000000000000000) : Calls Tryz.prog 236 #[.int .i64 a, .int .i64 b] w fun e w' => e = .returned (.tuple #[.int .i64 (powOf a b).1, .bool (powOf a b).2]) ∧ w' = w := by
  by_cases h0 : a = 0
  · subst h0
    by_cases hz : b = 0
    · subst hz
      have HE : Hid (powOf 0 0 = (truth true, true)) := pow_zero_zero
      go_enter Tryz.func236, Tryz.ntmps236
      go_wp2_with (go_at_call 200; refine (truth_call _ _).mono ?_; rintro e w1 ⟨rfl, rfl⟩)
      go_ret2
      exact ⟨ret_ib (by rw [unhide HE]) (by rw [unhide HE]), rfl⟩
    · have HE : Hid (powOf 0 b = (truth false, true)) := pow_zero_base (by omega)
      have qz : (b == 0) = false := by simp [hz]
      go_enter Tryz.func236, Tryz.ntmps236
      go_wp2_with (go_at_call 200; refine (truth_call _ _).mono ?_; rintro e w1 ⟨rfl, rfl⟩)
      go_ret2
      exact ⟨ret_ib (by rw [unhide HE]) (by rw [unhide HE]), rfl⟩
  by_cases h1 : a = 1
  · subst h1
    have HE : Hid (powOf 1 b = (truth true, true)) := pow_one_base
    go_enter Tryz.func236, Tryz.ntmps236
    go_wp2_with (go_at_call 200; refine (truth_call _ _).mono ?_; rintro e w1 ⟨rfl, rfl⟩)
    go_ret2
    exact ⟨ret_ib (by rw [unhide HE]) (by rw [unhide HE]), rfl⟩
  have q0 : (a == 0) = false := by simp [h0]
  have q1 : (a == 1) = false := by simp [h1]
  by_cases h2 : a = -1
  · subst h2
    have HE := hide (pow_neg_one hb0)
    have hm : 0 ≤ b.tmod 2 ∧ b.tmod 2 ≤ 1 := by rw [Int.tmod_eq_emod_of_nonneg hb0]; omega
    obtain ⟨m, hm0⟩ : ∃ m, b.tmod 2 = m := ⟨_, rfl⟩
    rw [hm0] at hm HE
    obtain ⟨hm1, hm2⟩ := hm
    go_enter Tryz.func236, Tryz.ntmps236
    go_wp2
    go_ret2
    exact ⟨ret_ib (by rw [unhide HE]) (by rw [unhide HE]), rfl⟩
  have q2 : (a == -1) = false := by simp [h2]
  have h3 := hide (abs_ge_two h0 h1 h2)
  clear h0 h1 h2
  obtain ⟨n, hn⟩ : ∃ n : Nat, b = n := ⟨b.toNat, by omega⟩
  subst hn
  go_enter Tryz.func236, Tryz.ntmps236
  go_wp2
  go_loop [6, 7] (fun v i => ∃ (k : Nat) (x : Int), k ≤ n ∧ i = .int .i64 k ∧ v = .int .i64 x ∧ Hid (a ^ k = x) ∧ Hid (inM (a ^ k) = true)) (fun _ i => n - (intOf i).toNat)
  case atStart => exact ⟨0, 1, Nat.zero_le _, rfl, rfl, hide (by simp), hide (by simp [inM])⟩
  case round =>
    obtain ⟨k, x, hk, rfl, rfl, hx, hin⟩ := hrel
    have hxb : -1000000000000000 ≤ x ∧ x ≤ 1000000000000000 := by rw [← unhide hx]; exact inM_bd (unhide hin)
    by_cases hlt : k < n
    · have hps : a ^ (k + 1) = x * a := by rw [Int.pow_succ, unhide hx]
      by_cases hbig : inM (x * a) = true
      · have HT : Hid (timesOf x a = (x * a, true)) := times_ok hbig
        have hyb := inM_bd hbig
        obtain ⟨y, hy⟩ : ∃ y, x * a = y := ⟨_, rfl⟩
        rw [hy] at HT hbig hyb hps
        have HP := hide hps
        have HIN : Hid (inM (a ^ (k + 1)) = true) := by show _ = _; rw [hps]; exact hbig
        clear hy hbig hps
        go_wp2_with (go_at_call 201; refine (l4Times_eq _ _ _ hxb ha _ _ HT).mono ?_; rintro e w1 ⟨rfl, rfl⟩)
        go_round
        case rel => exact ⟨k + 1, y, by omega, by go_num, rfl, HP, HIN⟩
        case measure => simp [intOf]; omega
      · have hb' : inM (x * a) = false := by simpa using hbig
        have HT : Hid (timesOf x a = (0, false)) := times_big hb'
        have HE : Hid (powOf a n = (0, false)) := pow_big (pow_step_big (unhide h3) (k + 1) _ (by simp; omega) (by rw [hps]; exact hb'))
        clear hbig hb' hps
        go_wp2_with (go_at_call 201; refine (l4Times_eq _ _ _ hxb ha _ _ HT).mono ?_; rintro e w1 ⟨rfl, rfl⟩)
        go_ret2
        exact ⟨ret_ib (by rw [unhide HE]) (by rw [unhide HE]), rfl⟩
    · have hkn : k = n := by omega
      subst hkn
      have HE : Hid (powOf a k = (x, true)) := by show _ = _; rw [pow_ok (by simpa using unhide hin)]; simpa using unhide hx
      go_wp2
      go_ret2
      exact ⟨ret_ib (by rw [unhide HE]) (by rw [unhide HE]), rfl⟩

end Go.Proofs.YtgjpchnkodnieaaGreatDoor
