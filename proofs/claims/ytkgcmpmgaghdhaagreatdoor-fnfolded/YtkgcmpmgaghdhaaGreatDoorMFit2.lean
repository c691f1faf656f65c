import Derived.Test.YtkgcmpmgaghdhaaGreatDoorMFit1
import Derived.Test.YtkgcmpmgaghdhaaGreatDoorMFit0
import Derived.Test.YtkgcmpmgaghdhaaGreatDoorMFit0
import Derived.Test.YtkgcmpmgaghdhaaGreatDoorChecked
import Derived.BigQuiet
import Derived.Deep.RegionHeld
import Derived.Deep.DeepCutAuto
import Derived.WalkKit
import Derived.LaidEql
import Derived.Stop.Asserts
import Derived.RowKitTokens
import Derived.Shelf.Abstract
import Derived.Laws.EntriesVeiled
import Derived.Deep.WholeRow
import Derived.Shelf.Spec.SlicesGrow
namespace Go.Proofs.YtkgcmpmgaghdhaaGreatDoor
open Go.RowKit

set_option maxHeartbeats 400000 in
theorem truth_call (b : Bool) (w : World) : Calls Tryz.prog 57 #[.bool b] w fun e w' => e = .returned (.int .i64 (truth b)) ∧ w' = w := by
  cases b
  all_goals
    go_enter Tryz.func57, Tryz.ntmps57
    go_wp2
    go_ret
    exact ⟨rfl, rfl⟩

set_option maxHeartbeats 400000 in
theorem l4In_any (v : Int) (w : World) : Calls Tryz.prog 169 #[.int .i64 v] w fun e w' => e = .returned (.bool (inM v)) ∧ w' = w := by
  by_cases h1 : v ≤ 1000000000000000
  · by_cases h2 : -1000000000000000 ≤ v
    · have HE : Hid (inM v = true) := inM_of h2 h1
      go_enter Tryz.func169, Tryz.ntmps169
      go_wp2
      go_ret
      exact ⟨ret_bool HE.out.symm, rfl⟩
    · have HE : Hid (inM v = false) := inM_not (by omega)
      go_enter Tryz.func169, Tryz.ntmps169
      go_wp2
      go_ret
      exact ⟨ret_bool HE.out.symm, rfl⟩
  · have HE : Hid (inM v = false) := inM_not (by omega)
    go_enter Tryz.func169, Tryz.ntmps169
    go_wp2
    go_ret
    exact ⟨ret_bool HE.out.symm, rfl⟩

theorem prod_sign {a b x y : Int} (hx : x = a ∨ x = -a) (hy : y = b ∨ y = -b) : x * y = a * b ∨ x * y = -(a * b) := by
  rcases hx with rfl | rfl <;> rcases hy with rfl | rfl <;> simp [Int.neg_mul, Int.mul_neg]

set_option maxHeartbeats 2000000 in
theorem l4Times_any (a b : Int) (w : World) (ha : -1000000000000000 ≤ a ∧ a ≤ 1000000000000000) (hb : -1000000000000000 ≤ b ∧ b ≤ 1000000000000000) : Calls Tryz.prog 165 #[.int .i64 a, .int .i64 b] w fun e w' => e = .returned (.tuple #[.int .i64 (timesOf a b).1, .bool (timesOf a b).2]) ∧ w' = w := by
  obtain ⟨ha1, ha2⟩ := ha
  obtain ⟨hb1, hb2⟩ := hb
  by_cases h0 : a = 0
  · subst h0
    have HE : Hid (timesOf 0 b = (0, true)) := by show _ = _; simp [timesOf, inM]
    go_enter Tryz.func165, Tryz.ntmps165
    go_wp2
    go_ret2
    exact ⟨ret_ib (by rw [unhide HE]) (by rw [unhide HE]), rfl⟩
  by_cases h1 : b = 0
  · subst h1
    have HE : Hid (timesOf a 0 = (0, true)) := by show _ = _; simp [timesOf, inM]
    have q0 : (a == 0) = false := by simp [h0]
    clear h0
    go_enter Tryz.func165, Tryz.ntmps165
    go_wp2
    go_ret2
    exact ⟨ret_ib (by rw [unhide HE]) (by rw [unhide HE]), rfl⟩
  have q0 : (a == 0) = false := by simp [h0]
  have q1 : (b == 0) = false := by simp [h1]
  obtain ⟨x, hx⟩ : ∃ x, (if a < 0 then -a else a) = x := ⟨_, rfl⟩
  obtain ⟨y, hy⟩ : ∃ y, (if b < 0 then -b else b) = y := ⟨_, rfl⟩
  have hy0 : 0 < y := by rw [← hy]; split <;> omega
  have hyn : ¬ y = 0 := by omega
  have hxy : x * y = a * b ∨ x * y = -(a * b) := prod_sign (by rw [← hx]; split <;> simp) (by rw [← hy]; split <;> simp)
  have hp0 : 0 ≤ x * y := Int.mul_nonneg (by rw [← hx]; split <;> omega) (by omega)
  have hq : (1000000000000000 : Int).tdiv y < x ↔ 1000000000000000 < x * y := tdiv_lt hy0
  obtain ⟨t, ht⟩ : ∃ t, (1000000000000000 : Int).tdiv y = t := ⟨_, rfl⟩
  have htb : 0 ≤ t ∧ t ≤ 1000000000000000 := by
    rw [← ht, Int.tdiv_eq_ediv_of_nonneg (by omega)]
    exact ⟨Int.ediv_nonneg (by omega) (by omega), Int.ediv_le_self _ (by omega)⟩
  obtain ⟨ht1, ht2⟩ := htb
  rw [ht] at hq
  obtain ⟨pr, hpr⟩ : ∃ pr, a * b = pr := ⟨_, rfl⟩
  rw [hpr] at hxy
  by_cases hbig : t < x
  · have HE : Hid (timesOf a b = (0, false)) := times_big (by rw [hpr]; exact inM_not (by have := hq.mp hbig; omega))
    clear hq hxy hp0 h0 h1
    by_cases hs : a < 0
    all_goals by_cases hu : b < 0
    all_goals
      simp only [hs, hu, if_true, if_false] at hx hy
      subst hx hy
      go_enter Tryz.func165, Tryz.ntmps165
      go_wp2
      go_ret2
      exact ⟨ret_ib (by rw [unhide HE]) (by rw [unhide HE]), rfl⟩
  · have hle : x * y ≤ 1000000000000000 := by
      by_cases h' : 1000000000000000 < x * y
      · exact absurd (hq.mpr h') hbig
      · omega
    have hpb1 : -1000000000000000 ≤ pr := by omega
    have hpb2 : pr ≤ 1000000000000000 := by omega
    have HE : Hid (timesOf a b = (pr, true)) := by show _ = _; rw [times_ok (by rw [hpr]; exact inM_of hpb1 hpb2), hpr]
    clear hq hxy hp0 hle h0 h1
    by_cases hs : a < 0
    all_goals by_cases hu : b < 0
    all_goals
      simp only [hs, hu, if_true, if_false] at hx hy
      subst hx hy
      go_enter Tryz.func165, Tryz.ntmps165
      go_wp2
      go_ret2
      exact ⟨ret_ib (by rw [unhide HE]) (by rw [unhide HE]), rfl⟩

theorem l4Times_eq (a b : Int) (w : World) (ha : -1000000000000000 ≤ a ∧ a ≤ 1000000000000000) (hb : -1000000000000000 ≤ b ∧ b ≤ 1000000000000000) (r1 : Int) (r2 : Bool) (hr : Hid (timesOf a b = (r1, r2))) : Calls Tryz.prog 165 #[.int .i64 a, .int .i64 b] w fun e w' => e = .returned (.tuple #[.int .i64 r1, .bool r2]) ∧ w' = w := by
  have := l4Times_any a b w ha hb
  rw [unhide hr] at this
  exact this

end Go.Proofs.YtkgcmpmgaghdhaaGreatDoor
namespace Go.Proofs.YtkgcmpmgaghdhaaGreatDoor
open Go.RowKit

theorem pow_ok {a b : Int} (h : inM (a ^ b.toNat) = true) : powOf a b = (a ^ b.toNat, true) := by simp [powOf, h]
theorem pow_big {a b : Int} (h : inM (a ^ b.toNat) = false) : powOf a b = (0, false) := by simp [powOf, h]

theorem pow_zero_base {b : Int} (h : 0 < b) : powOf 0 b = (0, true) := by
  have : (0 : Int) ^ b.toNat = 0 := Int.zero_pow (by omega)
  rw [pow_ok (by rw [this]; rfl), this]
theorem pow_zero_zero : powOf 0 0 = (1, true) := by simp [powOf, inM]
theorem pow_one_base {b : Int} : powOf 1 b = (1, true) := by
  have : (1 : Int) ^ b.toNat = 1 := Int.one_pow
  rw [pow_ok (by rw [this]; rfl), this]
theorem neg_one_pow (n : Nat) : ((-1 : Int)) ^ n = 1 - (n % 2 : Nat) * 2 := by
  induction n with
  | zero => rfl
  | succ n ih => rw [Int.pow_succ, ih]; omega
theorem pow_neg_one {b : Int} (h : 0 ≤ b) : powOf (-1) b = (1 - b.tmod 2 * 2, true) := by
  have e : b.tmod 2 = ((b.toNat % 2 : Nat) : Int) := by rw [Int.tmod_eq_emod_of_nonneg h]; omega
  have : (-1 : Int) ^ b.toNat = 1 - b.tmod 2 * 2 := by rw [neg_one_pow, e]
  rw [pow_ok (by rw [this]; have : 0 ≤ b.tmod 2 ∧ b.tmod 2 ≤ 1 := by rw [e]; omega
                 exact inM_of (by omega) (by omega)), this]

set_option maxHeartbeats 2000000 in
theorem l4Power_any (a b : Int) (w : World) (ha : -1000000000000000 ≤ a ∧ a ≤ 1000000000000000) (hb0 : 0 ≤ b) (hb : b ≤ 1000000000000000) : Calls Tryz.prog 167 #[.int .i64 a, .int .i64 b] w fun e w' => e = .returned (.tuple #[.int .i64 (powOf a b).1, .bool (powOf a b).2]) ∧ w' = w := by
  by_cases h0 : a = 0
  · subst h0
    by_cases hz : b = 0
    · subst hz
      have HE : Hid (powOf 0 0 = (truth true, true)) := pow_zero_zero
      go_enter Tryz.func167, Tryz.ntmps167
      go_wp2_with (go_at_call 57; refine (truth_call _ _).mono ?_; rintro e w1 ⟨rfl, rfl⟩)
      go_ret2
      exact ⟨ret_ib (by rw [unhide HE]) (by rw [unhide HE]), rfl⟩
    · have HE : Hid (powOf 0 b = (truth false, true)) := pow_zero_base (by omega)
      have qz : (b == 0) = false := by simp [hz]
      go_enter Tryz.func167, Tryz.ntmps167
      go_wp2_with (go_at_call 57; refine (truth_call _ _).mono ?_; rintro e w1 ⟨rfl, rfl⟩)
      go_ret2
      exact ⟨ret_ib (by rw [unhide HE]) (by rw [unhide HE]), rfl⟩
  by_cases h1 : a = 1
  · subst h1
    have HE : Hid (powOf 1 b = (truth true, true)) := pow_one_base
    go_enter Tryz.func167, Tryz.ntmps167
    go_wp2_with (go_at_call 57; refine (truth_call _ _).mono ?_; rintro e w1 ⟨rfl, rfl⟩)
    go_ret2
    exact ⟨ret_ib (by rw [unhide HE]) (by rw [unhide HE]), rfl⟩
  have q0 : (a == 0) = false := by simp [h0]
  have q1 : (a == 1) = false := by simp [h1]
  by_cases h2 : a = -1
  · subst h2
    have HE := hide (pow_neg_one hb0)
    have hm : 0 ≤ b.tmod 2 ∧ b.tmod 2 ≤ 1 := by rw [Int.tmod_eq_emod_of_nonneg hb0]; omega
    obtain ⟨m, hm0⟩ : ∃ m, b.tmod 2 = m := ⟨_, rfl⟩
    rw [hm0] at hm HE
    obtain ⟨hm1, hm2⟩ := hm
    go_enter Tryz.func167, Tryz.ntmps167
    go_wp2
    go_ret2
    exact ⟨ret_ib (by rw [unhide HE]) (by rw [unhide HE]), rfl⟩
  have q2 : (a == -1) = false := by simp [h2]
  have h3 := hide (abs_ge_two h0 h1 h2)
  clear h0 h1 h2
  obtain ⟨n, hn⟩ : ∃ n : Nat, b = n := ⟨b.toNat, by omega⟩
  subst hn
  go_enter Tryz.func167, Tryz.ntmps167
  go_wp2
  go_loop [6, 7] (fun v i => ∃ (k : Nat) (x : Int), k ≤ n ∧ i = .int .i64 k ∧ v = .int .i64 x ∧ Hid (a ^ k = x) ∧ Hid (inM (a ^ k) = true)) (fun _ i => n - (intOf i).toNat)
  case atStart => exact ⟨0, 1, Nat.zero_le _, rfl, rfl, hide (by simp), hide (by simp [inM])⟩
  case round =>
    obtain ⟨k, x, hk, rfl, rfl, hx, hin⟩ := hrel
    have hxb : -1000000000000000 ≤ x ∧ x ≤ 1000000000000000 := by rw [← unhide hx]; exact inM_bd (unhide hin)
    by_cases hlt : k < n
    · have hps : a ^ (k + 1) = x * a := by rw [Int.pow_succ, unhide hx]
      by_cases hbig : inM (x * a) = true
      · have HT : Hid (timesOf x a = (x * a, true)) := times_ok hbig
        have hyb := inM_bd hbig
        obtain ⟨y, hy⟩ : ∃ y, x * a = y := ⟨_, rfl⟩
        rw [hy] at HT hbig hyb hps
        have HP := hide hps
        have HIN : Hid (inM (a ^ (k + 1)) = true) := by show _ = _; rw [hps]; exact hbig
        clear hy hbig hps
        go_wp2_with (go_at_call 165; refine (l4Times_eq _ _ _ hxb ha _ _ HT).mono ?_; rintro e w1 ⟨rfl, rfl⟩)
        go_round
        case rel => exact ⟨k + 1, y, by omega, by go_num, rfl, HP, HIN⟩
        case measure => simp [intOf]; omega
      · have hb' : inM (x * a) = false := by simpa using hbig
        have HT : Hid (timesOf x a = (0, false)) := times_big hb'
        have HE : Hid (powOf a n = (0, false)) := pow_big (pow_step_big (unhide h3) (k + 1) _ (by simp; omega) (by rw [hps]; exact hb'))
        clear hbig hb' hps
        go_wp2_with (go_at_call 165; refine (l4Times_eq _ _ _ hxb ha _ _ HT).mono ?_; rintro e w1 ⟨rfl, rfl⟩)
        go_ret2
        exact ⟨ret_ib (by rw [unhide HE]) (by rw [unhide HE]), rfl⟩
    · have hkn : k = n := by omega
      subst hkn
      have HE : Hid (powOf a k = (x, true)) := by show _ = _; rw [pow_ok (by simpa using unhide hin)]; simpa using unhide hx
      go_wp2
      go_ret2
      exact ⟨ret_ib (by rw [unhide HE]) (by rw [unhide HE]), rfl⟩

end Go.Proofs.YtkgcmpmgaghdhaaGreatDoor
namespace Go.Proofs.YtkgcmpmgaghdhaaGreatDoor
open Go.RowKit

theorem truth_eq (b : Bool) (w : World) (r : Int) (hr : Hid (truth b = r)) : Calls Tryz.prog 57 #[.bool b] w fun e w' => e = .returned (.int .i64 r) ∧ w' = w := by
  rw [← unhide hr]; exact truth_call b w

set_option maxHeartbeats 2000000 in
theorem l4Order_any (op a b : Int) (w : World) (hop : op = 5 ∨ op = 6 ∨ op = 9 ∨ op = 10 ∨ op = 11 ∨ op = 12 ∨ op = 13 ∨ op = 14) : Calls Tryz.prog 168 #[.int .i64 op, .int .i64 a, .int .i64 b] w fun e w' => e = .returned (.int .i64 (orderOf op a b)) ∧ w' = w := by
  have hcmp : a < b ∨ a = b ∨ b < a := by omega
  rcases hcmp with h | h | h
  · have k1 : (a == b) = false := by simp; omega
    have k2 : ¬ b < a := by omega
    have k3 : a ≤ b := by omega
    rcases hop with rfl | rfl | rfl | rfl | rfl | rfl | rfl | rfl
    all_goals
      go_enter Tryz.func168, Tryz.ntmps168
      go_wp2_with (go_at_call 57; refine (truth_call _ _).mono ?_; rintro e w1 ⟨rfl, rfl⟩)
      go_ret
      exact ⟨ret_int (by simp [orderOf, truth] <;> omega), rfl⟩
  · subst h
    rcases hop with rfl | rfl | rfl | rfl | rfl | rfl | rfl | rfl
    all_goals
      go_enter Tryz.func168, Tryz.ntmps168
      go_wp2_with (go_at_call 57; refine (truth_call _ _).mono ?_; rintro e w1 ⟨rfl, rfl⟩)
      go_ret
      exact ⟨ret_int (by simp [orderOf, truth]), rfl⟩
  · have k1 : (a == b) = false := by simp; omega
    have k2 : ¬ a < b := by omega
    have k3 : b ≤ a := by omega
    have k5 : ¬ a ≤ b := by omega
    rcases hop with rfl | rfl | rfl | rfl | rfl | rfl | rfl | rfl
    all_goals
      go_enter Tryz.func168, Tryz.ntmps168
      go_wp2_with (go_at_call 57; refine (truth_call _ _).mono ?_; rintro e w1 ⟨rfl, rfl⟩)
      go_ret
      exact ⟨ret_int (by simp [orderOf, truth] <;> omega), rfl⟩

end Go.Proofs.YtkgcmpmgaghdhaaGreatDoor
namespace Go.Proofs.YtkgcmpmgaghdhaaGreatDoor
open Go.RowKit

theorem l4In_eq (v : Int) (w : World) (r : Bool) (hr : Hid (inM v = r)) : Calls Tryz.prog 169 #[.int .i64 v] w fun e w' => e = .returned (.bool r) ∧ w' = w := by
  rw [← unhide hr]; exact l4In_any v w
theorem l4Mod_eq (a b : Int) (w : World) (ha : -1000000000000000 ≤ a ∧ a ≤ 1000000000000000) (hb : -1000000000000000 ≤ b ∧ b ≤ 1000000000000000) (r : Int) (hr : Hid (modOf a b = r)) : Calls Tryz.prog 166 #[.int .i64 a, .int .i64 b] w fun e w' => e = .returned (.int .i64 r) ∧ w' = w := by
  rw [← unhide hr]; exact l4Mod_any a b w ha hb
theorem l4Power_eq (a b : Int) (w : World) (ha : -1000000000000000 ≤ a ∧ a ≤ 1000000000000000) (hb0 : 0 ≤ b) (hb : b ≤ 1000000000000000) (r1 : Int) (r2 : Bool) (hr : Hid (powOf a b = (r1, r2))) : Calls Tryz.prog 167 #[.int .i64 a, .int .i64 b] w fun e w' => e = .returned (.tuple #[.int .i64 r1, .bool r2]) ∧ w' = w := by
  have := l4Power_any a b w ha hb0 hb
  rw [unhide hr] at this
  exact this
theorem l4Order_eq (op a b : Int) (w : World) (hop : op = 5 ∨ op = 6 ∨ op = 9 ∨ op = 10 ∨ op = 11 ∨ op = 12 ∨ op = 13 ∨ op = 14) (r : Int) (hr : Hid (orderOf op a b = r)) : Calls Tryz.prog 168 #[.int .i64 op, .int .i64 a, .int .i64 b] w fun e w' => e = .returned (.int .i64 r) ∧ w' = w := by
  rw [← unhide hr]; exact l4Order_any op a b w hop

theorem lim_ok {v : Int} (h : inM v = true) : limited (v, true) = (v, 0) := by simp [limited, h]
theorem lim_no {v : Int} (h : inM v = false) : limited (v, true) = (0, 7) := by simp [limited, h]
theorem lim_bad {v : Int} : limited (v, false) = (0, 7) := by simp [limited]

def TwoC (op a b : Int) : Prop := ∀ w : World, Calls Tryz.prog 129 #[.int .i64 op, .int .i64 a, .int .i64 b] w fun e w' => e = .returned (.tuple #[.int .i64 (twoOf op a b).1, .int .i64 (twoOf op a b).2]) ∧ w' = w

set_option maxHeartbeats 1000000 in
theorem two1 {a b : Int} (ha : -1000000000000000 ≤ a ∧ a ≤ 1000000000000000) (hb : -1000000000000000 ≤ b ∧ b ≤ 1000000000000000) : TwoC 1 a b := by
  intro w
  obtain ⟨ha1, ha2⟩ := ha
  obtain ⟨hb1, hb2⟩ := hb
  obtain ⟨r, hr⟩ : ∃ r, inM (a + b) = r := ⟨_, rfl⟩
  have HR := hide hr
  cases r with
  | true =>
    have HE : Hid (twoOf 1 a b = (a + b, 0)) := lim_ok hr
    clear hr
    go_enter Tryz.func129, Tryz.ntmps129
    go_wp2_with (go_at_call 169; refine (l4In_eq _ _ _ HR).mono ?_; rintro e w1 ⟨rfl, rfl⟩)
    go_ret2
    exact ⟨ret_two (by rw [unhide HE]) (by rw [unhide HE]), rfl⟩
  | false =>
    have HE : Hid (twoOf 1 a b = (0, 7)) := lim_no hr
    clear hr
    go_enter Tryz.func129, Tryz.ntmps129
    go_wp2_with (go_at_call 169; refine (l4In_eq _ _ _ HR).mono ?_; rintro e w1 ⟨rfl, rfl⟩)
    go_ret2
    exact ⟨ret_two (by rw [unhide HE]) (by rw [unhide HE]), rfl⟩

set_option maxHeartbeats 1000000 in
theorem two2 {a b : Int} (ha : -1000000000000000 ≤ a ∧ a ≤ 1000000000000000) (hb : -1000000000000000 ≤ b ∧ b ≤ 1000000000000000) : TwoC 2 a b := by
  intro w
  obtain ⟨ha1, ha2⟩ := ha
  obtain ⟨hb1, hb2⟩ := hb
  obtain ⟨r, hr⟩ : ∃ r, inM (a - b) = r := ⟨_, rfl⟩
  have HR := hide hr
  cases r with
  | true =>
    have HE : Hid (twoOf 2 a b = (a - b, 0)) := lim_ok hr
    clear hr
    go_enter Tryz.func129, Tryz.ntmps129
    go_wp2_with (go_at_call 169; refine (l4In_eq _ _ _ HR).mono ?_; rintro e w1 ⟨rfl, rfl⟩)
    go_ret2
    exact ⟨ret_two (by rw [unhide HE]) (by rw [unhide HE]), rfl⟩
  | false =>
    have HE : Hid (twoOf 2 a b = (0, 7)) := lim_no hr
    clear hr
    go_enter Tryz.func129, Tryz.ntmps129
    go_wp2_with (go_at_call 169; refine (l4In_eq _ _ _ HR).mono ?_; rintro e w1 ⟨rfl, rfl⟩)
    go_ret2
    exact ⟨ret_two (by rw [unhide HE]) (by rw [unhide HE]), rfl⟩

set_option maxHeartbeats 1000000 in
theorem two3 {a b : Int} (ha : -1000000000000000 ≤ a ∧ a ≤ 1000000000000000) (hb : -1000000000000000 ≤ b ∧ b ≤ 1000000000000000) : TwoC 3 a b := by
  intro w
  have HE : Hid (twoOf 3 a b = limited (timesOf a b)) := rfl
  obtain ⟨q, hq⟩ : ∃ q, timesOf a b = q := ⟨_, rfl⟩
  obtain ⟨v, ok⟩ := q
  have HQ := hide hq
  rw [hq] at HE
  clear hq
  cases ok with
  | false =>
    rw [lim_bad] at HE
    go_enter Tryz.func129, Tryz.ntmps129
    go_wp2_with (go_at_call 165; refine (l4Times_eq _ _ _ ha hb _ _ HQ).mono ?_; rintro e w1 ⟨rfl, rfl⟩)
    go_ret2
    exact ⟨ret_two (by rw [unhide HE]) (by rw [unhide HE]), rfl⟩
  | true =>
    obtain ⟨r, hr⟩ : ∃ r, inM v = r := ⟨_, rfl⟩
    have HR := hide hr
    cases r with
    | true =>
      rw [lim_ok hr] at HE
      clear hr
      go_enter Tryz.func129, Tryz.ntmps129
      go_wp2_with (first | (go_at_call 165; refine (l4Times_eq _ _ _ ha hb _ _ HQ).mono ?_; rintro e w1 ⟨rfl, rfl⟩) | (go_at_call 169; refine (l4In_eq _ _ _ HR).mono ?_; rintro e w1 ⟨rfl, rfl⟩))
      go_ret2
      exact ⟨ret_two (by rw [unhide HE]) (by rw [unhide HE]), rfl⟩
    | false =>
      rw [lim_no hr] at HE
      clear hr
      go_enter Tryz.func129, Tryz.ntmps129
      go_wp2_with (first | (go_at_call 165; refine (l4Times_eq _ _ _ ha hb _ _ HQ).mono ?_; rintro e w1 ⟨rfl, rfl⟩) | (go_at_call 169; refine (l4In_eq _ _ _ HR).mono ?_; rintro e w1 ⟨rfl, rfl⟩))
      go_ret2
      exact ⟨ret_two (by rw [unhide HE]) (by rw [unhide HE]), rfl⟩

set_option maxHeartbeats 1000000 in
theorem two4 {a b : Int} (ha : -1000000000000000 ≤ a ∧ a ≤ 1000000000000000) (hb : -1000000000000000 ≤ b ∧ b ≤ 1000000000000000) : TwoC 4 a b := by
  intro w
  obtain ⟨ha1, ha2⟩ := ha
  obtain ⟨hb1, hb2⟩ := hb
  have HE : Hid (twoOf 4 a b = (if a = 0 ∧ b = 0 then (1, 0) else if b = 0 ∨ a.tmod b ≠ 0 then (0, 3) else limited (a.tdiv b, true))) := rfl
  by_cases hz : b = 0
  · subst hz
    by_cases h0 : a = 0
    · subst h0
      rw [if_pos ⟨rfl, rfl⟩] at HE
      go_enter Tryz.func129, Tryz.ntmps129
      go_wp2
      go_ret2
      exact ⟨ret_two (by rw [unhide HE]) (by rw [unhide HE]), rfl⟩
    · rw [if_neg (fun h => h0 h.1), if_pos (.inl rfl)] at HE
      have q0 : (a == 0) = false := by simp [h0]
      go_enter Tryz.func129, Tryz.ntmps129
      go_wp2
      go_ret2
      exact ⟨ret_two (by rw [unhide HE]) (by rw [unhide HE]), rfl⟩
  have qz : (b == 0) = false := by simp [hz]
  rw [if_neg (fun h => hz h.2)] at HE
  obtain ⟨m, hm⟩ : ∃ m, a.tmod b = m := ⟨_, rfl⟩
  rw [hm] at HE
  by_cases hm0 : m = 0
  · subst hm0
    rw [if_neg (by simp [hz])] at HE
    have hd : -1000000000000000 ≤ a.tdiv b ∧ a.tdiv b ≤ 1000000000000000 := by
      have h1 := Int.natAbs_tdiv_le_natAbs a b
      omega
    obtain ⟨v, hv⟩ : ∃ v, a.tdiv b = v := ⟨_, rfl⟩
    rw [hv] at HE hd
    rw [lim_ok (inM_of hd.1 hd.2)] at HE
    obtain ⟨hd1, hd2⟩ := hd
    have HR : Hid (inM v = true) := inM_of hd1 hd2
    by_cases h0 : a = 0
    · subst h0
      have hv0 : v = 0 := by rw [← hv]; simp
      subst hv0
      clear hv hm
      go_enter Tryz.func129, Tryz.ntmps129
      go_wp2_with (go_at_call 169; refine (l4In_eq _ _ _ HR).mono ?_; rintro e w1 ⟨rfl, rfl⟩)
      go_ret2
      exact ⟨ret_two (by rw [unhide HE]) (by rw [unhide HE]), rfl⟩
    · have q0 : (a == 0) = false := by simp [h0]
      go_enter Tryz.func129, Tryz.ntmps129
      go_wp2_with (go_at_call 169; refine (l4In_eq _ _ _ HR).mono ?_; rintro e w1 ⟨rfl, rfl⟩)
      go_ret2
      exact ⟨ret_two (by rw [unhide HE]) (by rw [unhide HE]), rfl⟩
  · rw [if_pos (.inr hm0)] at HE
    have qm : (m != 0) = true := by simp [hm0]
    have h0 : ¬ a = 0 := by rintro rfl; simp at hm; exact hm0 hm.symm
    have q0 : (a == 0) = false := by simp [h0]
    go_enter Tryz.func129, Tryz.ntmps129
    go_wp2
    go_ret2
    exact ⟨ret_two (by rw [unhide HE]) (by rw [unhide HE]), rfl⟩

set_option maxHeartbeats 1000000 in
theorem two7 {a b : Int} (ha : -1000000000000000 ≤ a ∧ a ≤ 1000000000000000) (hb : -1000000000000000 ≤ b ∧ b ≤ 1000000000000000) : TwoC 7 a b := by
  intro w
  have HE : Hid (twoOf 7 a b = limited (modOf a b, true)) := rfl
  obtain ⟨v, hv⟩ : ∃ v, modOf a b = v := ⟨_, rfl⟩
  have HV := hide hv
  rw [hv] at HE
  clear hv
  obtain ⟨r, hr⟩ : ∃ r, inM v = r := ⟨_, rfl⟩
  have HR := hide hr
  cases r with
  | true =>
    rw [lim_ok hr] at HE
    clear hr
    go_enter Tryz.func129, Tryz.ntmps129
    go_wp2_with (first | (go_at_call 166; refine (l4Mod_eq _ _ _ ha hb _ HV).mono ?_; rintro e w1 ⟨rfl, rfl⟩) | (go_at_call 169; refine (l4In_eq _ _ _ HR).mono ?_; rintro e w1 ⟨rfl, rfl⟩))
    go_ret2
    exact ⟨ret_two (by rw [unhide HE]) (by rw [unhide HE]), rfl⟩
  | false =>
    rw [lim_no hr] at HE
    clear hr
    go_enter Tryz.func129, Tryz.ntmps129
    go_wp2_with (first | (go_at_call 166; refine (l4Mod_eq _ _ _ ha hb _ HV).mono ?_; rintro e w1 ⟨rfl, rfl⟩) | (go_at_call 169; refine (l4In_eq _ _ _ HR).mono ?_; rintro e w1 ⟨rfl, rfl⟩))
    go_ret2
    exact ⟨ret_two (by rw [unhide HE]) (by rw [unhide HE]), rfl⟩

set_option maxHeartbeats 1000000 in
theorem two8 {a b : Int} (ha : -1000000000000000 ≤ a ∧ a ≤ 1000000000000000) (hb : -1000000000000000 ≤ b ∧ b ≤ 1000000000000000) : TwoC 8 a b := by
  intro w
  have HE : Hid (twoOf 8 a b = (if b < 0 then (0, 3) else limited (powOf a b))) := rfl
  by_cases hn : b < 0
  · rw [if_pos hn] at HE
    go_enter Tryz.func129, Tryz.ntmps129
    go_wp2
    go_ret2
    exact ⟨ret_two (by rw [unhide HE]) (by rw [unhide HE]), rfl⟩
  rw [if_neg hn] at HE
  obtain ⟨q, hq⟩ : ∃ q, powOf a b = q := ⟨_, rfl⟩
  obtain ⟨v, ok⟩ := q
  have HQ := hide hq
  rw [hq] at HE
  clear hq
  cases ok with
  | false =>
    rw [lim_bad] at HE
    go_enter Tryz.func129, Tryz.ntmps129
    go_wp2_with (go_at_call 167; refine (l4Power_eq _ _ _ ha (by omega) hb.2 _ _ HQ).mono ?_; rintro e w1 ⟨rfl, rfl⟩)
    go_ret2
    exact ⟨ret_two (by rw [unhide HE]) (by rw [unhide HE]), rfl⟩
  | true =>
    obtain ⟨r, hr⟩ : ∃ r, inM v = r := ⟨_, rfl⟩
    have HR := hide hr
    cases r with
    | true =>
      rw [lim_ok hr] at HE
      clear hr
      go_enter Tryz.func129, Tryz.ntmps129
      go_wp2_with (first | (go_at_call 167; refine (l4Power_eq _ _ _ ha (by omega) hb.2 _ _ HQ).mono ?_; rintro e w1 ⟨rfl, rfl⟩) | (go_at_call 169; refine (l4In_eq _ _ _ HR).mono ?_; rintro e w1 ⟨rfl, rfl⟩))
      go_ret2
      exact ⟨ret_two (by rw [unhide HE]) (by rw [unhide HE]), rfl⟩
    | false =>
      rw [lim_no hr] at HE
      clear hr
      go_enter Tryz.func129, Tryz.ntmps129
      go_wp2_with (first | (go_at_call 167; refine (l4Power_eq _ _ _ ha (by omega) hb.2 _ _ HQ).mono ?_; rintro e w1 ⟨rfl, rfl⟩) | (go_at_call 169; refine (l4In_eq _ _ _ HR).mono ?_; rintro e w1 ⟨rfl, rfl⟩))
      go_ret2
      exact ⟨ret_two (by rw [unhide HE]) (by rw [unhide HE]), rfl⟩

end Go.Proofs.YtkgcmpmgaghdhaaGreatDoor
namespace Go.Proofs.YtkgcmpmgaghdhaaGreatDoor
open Go.RowKit

theorem inM_truth (x : Bool) : inM (truth x) = true := by cases x <;> rfl
theorem order_in {op a b : Int} (ha : -1000000000000000 ≤ a ∧ a ≤ 1000000000000000) (hb : -1000000000000000 ≤ b ∧ b ≤ 1000000000000000) : inM (orderOf op a b) = true := by
  unfold orderOf
  repeat' split
  all_goals first | exact inM_truth _ | exact inM_of (by omega) (by omega)

theorem two_order_eq {a b : Int} (ha : -1000000000000000 ≤ a ∧ a ≤ 1000000000000000) (hb : -1000000000000000 ≤ b ∧ b ≤ 1000000000000000) (op : Int) (hop : op = 5 ∨ op = 6 ∨ op = 9 ∨ op = 10 ∨ op = 11 ∨ op = 12 ∨ op = 13 ∨ op = 14) : twoOf op a b = (orderOf op a b, 0) := by
  have h : twoOf op a b = limited (orderOf op a b, true) := by rcases hop with rfl | rfl | rfl | rfl | rfl | rfl | rfl | rfl <;> rfl
  rw [h, lim_ok (order_in ha hb)]

set_option maxHeartbeats 4000000 in
theorem two_order {a b : Int} (ha : -1000000000000000 ≤ a ∧ a ≤ 1000000000000000) (hb : -1000000000000000 ≤ b ∧ b ≤ 1000000000000000) (op : Int) (hop : op = 5 ∨ op = 6 ∨ op = 9 ∨ op = 10 ∨ op = 11 ∨ op = 12 ∨ op = 13 ∨ op = 14) : TwoC op a b := by
  intro w
  have HE := hide (two_order_eq ha hb op hop)
  have HR := hide (order_in (op := op) ha hb)
  obtain ⟨v, hv⟩ : ∃ v, orderOf op a b = v := ⟨_, rfl⟩
  have HV := hide hv
  rw [hv] at HE HR
  clear hv
  have hop' := hop
  rcases hop with rfl | rfl | rfl | rfl | rfl | rfl | rfl | rfl
  all_goals
    go_enter Tryz.func129, Tryz.ntmps129
    go_wp2_with (first | (go_at_call 168; refine (l4Order_eq _ _ _ _ hop' _ HV).mono ?_; rintro e w1 ⟨rfl, rfl⟩) | (go_at_call 169; refine (l4In_eq _ _ _ HR).mono ?_; rintro e w1 ⟨rfl, rfl⟩))
    go_ret2
    exact ⟨ret_two (by rw [unhide HE]) (by rw [unhide HE]), rfl⟩

set_option maxHeartbeats 4000000 in
theorem two_logic {a b : Int} (ha : -1000000000000000 ≤ a ∧ a ≤ 1000000000000000) (hb : -1000000000000000 ≤ b ∧ b ≤ 1000000000000000) (op : Int) (hop : op = 15 ∨ op = 16) : TwoC op a b := by
  intro w
  obtain ⟨ha1, ha2⟩ := ha
  obtain ⟨hb1, hb2⟩ := hb
  by_cases hA : a = 0 ∨ a = 1
  · by_cases hB : b = 0 ∨ b = 1
    · rcases hA with rfl | rfl <;> rcases hB with rfl | rfl <;> rcases hop with rfl | rfl
      all_goals
        go_enter Tryz.func129, Tryz.ntmps129
        go_wp2_with (first | (go_at_call 57; refine (truth_call _ _).mono ?_; rintro e w1 ⟨rfl, rfl⟩; simp only [truth, if_true, if_false, Bool.false_eq_true]) | (go_at_call 169; refine (l4In_any _ _).mono ?_; rintro e w1 ⟨rfl, rfl⟩; simp only [inM]))
        go_ret2
        exact ⟨ret_two (by decide) (by decide), rfl⟩
    · have u0 : (b != 0) = true := by simp; omega
      have u1 : (b != 1) = true := by simp; omega
      have HE : Hid (twoOf op a b = (0, 3)) := by
        show _ = _
        rcases hop with rfl | rfl <;> simp [twoOf] <;> omega
      rcases hA with rfl | rfl <;> rcases hop with rfl | rfl
      all_goals
        go_enter Tryz.func129, Tryz.ntmps129
        go_wp2
        go_ret2
        exact ⟨ret_two (by rw [unhide HE]) (by rw [unhide HE]), rfl⟩
  · have u0 : (a != 0) = true := by simp; omega
    have u1 : (a != 1) = true := by simp; omega
    have HE : Hid (twoOf op a b = (0, 3)) := by
      show _ = _
      rcases hop with rfl | rfl <;> simp [twoOf] <;> omega
    rcases hop with rfl | rfl
    all_goals
      go_enter Tryz.func129, Tryz.ntmps129
      go_wp2
      go_ret2
      exact ⟨ret_two (by rw [unhide HE]) (by rw [unhide HE]), rfl⟩

theorem l4Two_any {a b : Int} (ha : -1000000000000000 ≤ a ∧ a ≤ 1000000000000000) (hb : -1000000000000000 ≤ b ∧ b ≤ 1000000000000000) (op : Int) (hop : 1 ≤ op ∧ op ≤ 16) : TwoC op a b := by
  have h : op = 1 ∨ op = 2 ∨ op = 3 ∨ op = 4 ∨ (op = 5 ∨ op = 6 ∨ op = 9 ∨ op = 10 ∨ op = 11 ∨ op = 12 ∨ op = 13 ∨ op = 14) ∨ op = 7 ∨ op = 8 ∨ (op = 15 ∨ op = 16) := by omega
  rcases h with rfl | rfl | rfl | rfl | h | rfl | rfl | h
  · exact two1 ha hb
  · exact two2 ha hb
  · exact two3 ha hb
  · exact two4 ha hb
  · exact two_order ha hb op h
  · exact two7 ha hb
  · exact two8 ha hb
  · exact two_logic ha hb op h

end Go.Proofs.YtkgcmpmgaghdhaaGreatDoor
namespace Go.Proofs.YtkgcmpmgaghdhaaGreatDoor
open Go.RowKit

set_option maxHeartbeats 400000 in
theorem l4Equal_any (op : Int) (w : World) : Calls Tryz.prog 76 #[.int .i64 op] w fun e w' => e = .returned (.bool (opEq op)) ∧ w' = w := by
  by_cases h1 : op = 9
  · have q1 : (op == 9) = true := by simp [h1]
    have HE : Hid (opEq op = true) := decide_eq_true (.inl h1)
    clear h1
    go_enter Tryz.func76, Tryz.ntmps76
    go_wp2
    go_ret
    exact ⟨ret_bool HE.out.symm, rfl⟩
  · have q1 : (op == 9) = false := by simp [h1]
    by_cases h2 : op = 10
    · have q2 : (op == 10) = true := by simp [h2]
      have HE : Hid (opEq op = true) := decide_eq_true (.inr h2)
      clear h1 h2
      go_enter Tryz.func76, Tryz.ntmps76
      go_wp2
      go_ret
      exact ⟨ret_bool HE.out.symm, rfl⟩
    · have q2 : (op == 10) = false := by simp [h2]
      have HE : Hid (opEq op = false) := decide_eq_false (by omega)
      clear h1 h2
      go_enter Tryz.func76, Tryz.ntmps76
      go_wp2
      go_ret
      exact ⟨ret_bool HE.out.symm, rfl⟩

theorem l4Two_eq {a b : Int} (ha : -1000000000000000 ≤ a ∧ a ≤ 1000000000000000) (hb : -1000000000000000 ≤ b ∧ b ≤ 1000000000000000) (op : Int) (hop : opIn op = true) (w : World) (r1 r2 : Int) (hr : Hid (twoOf op a b = (r1, r2))) :
    Calls Tryz.prog 129 #[.int .i64 op, .int .i64 a, .int .i64 b] w fun e w' => e = .returned (.tuple #[.int .i64 r1, .int .i64 r2]) ∧ w' = w := by
  have := l4Two_any ha hb op (of_decide_eq_true hop) w
  rw [unhide hr] at this
  exact this

theorem arr_bd {c : Bool} {sh dt : List Int} (h : arrOk c sh dt = true) (k : Nat) : -1000000000000000 ≤ dt.getD k 0 ∧ dt.getD k 0 ≤ 1000000000000000 := by
  by_cases hk : k < dt.length
  · have h1 : dt.all (dataOk c) = true := by simp [arrOk] at h; simpa using h.2.2
    have h2 := List.all_eq_true.mp h1 (dt.getD k 0) (by simp [hk])
    simp [dataOk] at h2
    simpa using h2.2
  · have e : dt.getD k 0 = 0 := by simp [List.getD, List.getElem?_eq_none (by omega : dt.length ≤ k)]
    rw [e]; omega

set_option maxHeartbeats 1000000 in
theorem l4Elements_any (op : Int) (c d : Bool) (v1 v2 : Value) (a2 b2 : Option Addr) (n2 m2 c2 d2 : Nat) (dt dt' : List Int) (i j : Nat) (w : World) (h2 : Row w a2 n2 dt) (k2 : Row w b2 m2 dt') (hi : i < n2) (hj : j < m2) (hop : opIn op = true)
    (hA : ∀ k, -1000000000000000 ≤ dt.getD k 0 ∧ dt.getD k 0 ≤ 1000000000000000) (hB : ∀ k, -1000000000000000 ≤ dt'.getD k 0 ∧ dt'.getD k 0 ≤ 1000000000000000) (r1 r2 : Int) (hr : Hid (elemOf op c dt i d dt' j = (r1, r2))) :
    Calls Tryz.prog 77 #[.int .i64 op, .agg #[.bool c, v1, .slice a2 n2 c2], .int .i64 i, .agg #[.bool d, v2, .slice b2 m2 d2], .int .i64 j] w fun e w' => e = .returned (.tuple #[.int .i64 r1, .int .i64 r2]) ∧ Below w.heap.size w w' := by
  have hs2 := h2.small
  have ks2 := k2.small
  obtain ⟨ba, oa, rfl, hla, hca⟩ := h2.get hi
  obtain ⟨bb, ob, rfl, hlb, hcb⟩ := k2.get hj
  have hA' := hA i
  have hB' := hB j
  have HOP := hide hop
  clear h2 k2 hA hB hop
  obtain ⟨x, hx⟩ : ∃ x, x = dt.getD i 0 := ⟨_, rfl⟩
  obtain ⟨y, hy⟩ : ∃ y, y = dt'.getD j 0 := ⟨_, rfl⟩
  rw [← hx] at hca hA'
  rw [← hy] at hcb hB'
  have hW : ∀ o1 o2, Below w.heap.size w ((w.alloc o1).alloc o2) := fun o1 o2 => ((Below.refl _ _).alloc (Nat.le_refl _) _).alloc (by simp) _
  by_cases hcd : c = d
  · subst hcd
    have HR : Hid (twoOf op x y = (r1, r2)) := by have := unhide hr; unfold elemOf at this; rw [if_neg (by simp), ← hx, ← hy] at this; exact this
    clear hr hx hy
    cases c
    all_goals
      go_enter Tryz.func77, Tryz.ntmps77
      go_wp2
      go_quiet ((go_at_call 129; exact Calls.quiet_of_same (l4Two_eq hA' hB' op (unhide HOP) _ r1 r2 HR)))
      go_wp2
      go_ret2
      exact ⟨rfl, Below.drewN (hW _ _) _⟩
  · have HR : Hid ((truth (op == 10), (0 : Int)) = (r1, r2)) := by have := unhide hr; unfold elemOf at this; rw [if_pos hcd] at this; exact this
    clear hr hx hy hA' hB'
    obtain ⟨q, hq⟩ : ∃ q, (op == 10) = q := ⟨_, rfl⟩
    rw [hq] at HR
    have hcd' : (c = true ∧ d = false) ∨ (c = false ∧ d = true) := by cases c <;> cases d <;> simp_all
    clear hcd
    rcases hcd' with ⟨rfl, rfl⟩ | ⟨rfl, rfl⟩
    all_goals
      go_enter Tryz.func77, Tryz.ntmps77
      go_wp2_with (go_at_call 57; refine (truth_call _ _).mono ?_; rintro e w1 ⟨rfl, rfl⟩)
      go_ret2
      have e := unhide HR
      simp only [Prod.mk.injEq] at e
      exact ⟨ret_two e.1 e.2, hW _ _⟩

end Go.Proofs.YtkgcmpmgaghdhaaGreatDoor
namespace Go.Proofs.YtkgcmpmgaghdhaaGreatDoor
open Go.RowKit

set_option maxHeartbeats 4000000 in
theorem l4Empty_any (op : Int) (w : World) (hop : opIn op = true) : Calls Tryz.prog 137 #[.int .i64 op] w fun e w' => e = .returned (.int .i64 (emptyOf op)) ∧ Below w.heap.size w w' := by
  have h : 1 ≤ op ∧ op ≤ 16 := of_decide_eq_true hop
  clear hop
  have h : op = 1 ∨ op = 2 ∨ op = 3 ∨ op = 4 ∨ op = 5 ∨ op = 6 ∨ op = 7 ∨ op = 8 ∨ op = 9 ∨ op = 10 ∨ op = 11 ∨ op = 12 ∨ op = 13 ∨ op = 14 ∨ op = 15 ∨ op = 16 := by omega
  rcases h with rfl | rfl | rfl | rfl | rfl | rfl | rfl | rfl | rfl | rfl | rfl | rfl | rfl | rfl | rfl | rfl
  all_goals
    go_enter Tryz.func137, Tryz.ntmps137
    go_wp2
    go_ret
    exact ⟨ret_int (by decide), (Below.refl _ _).alloc (Nat.le_refl _) _⟩

theorem drop_cons (xs : List Int) (k : Nat) (h : k < xs.length) : xs.drop k = xs.getD k 0 :: xs.drop (k + 1) := by
  rw [List.drop_eq_getElem_cons h]; simp [List.getD, h]

set_option maxHeartbeats 1000000 in
theorem l4Fold_any (op : Int) (a : Option Addr) (n cap : Nat) (xs : List Int) (w : World) (h : Row w a n xs) (hop : opIn op = true) (hv : ∀ k, -1000000000000000 ≤ xs.getD k 0 ∧ xs.getD k 0 ≤ 1000000000000000) :
    Calls Tryz.prog 91 #[.int .i64 op, .slice a n cap] w fun e w' => e = .returned (.tuple #[.int .i64 (foldR op xs).1, .int .i64 (foldR op xs).2]) ∧ Below w.heap.size w w' := by
  have hlen := hide h.len
  have hsm := h.small
  have H := hide h
  have HOP := hide hop
  have HV := hide hv
  clear h hop hv
  by_cases h0 : n = 0
  · subst h0
    have HE : Hid (xs = []) := List.length_eq_zero_iff.mp (unhide hlen)
    go_enter Tryz.func91, Tryz.ntmps91
    go_wp2_with (go_at_call 137; refine (l4Empty_any _ _ (unhide HOP)).mono ?_; rintro e w1 ⟨rfl, hb1⟩)
    go_ret2
    rw [unhide HE]
    exact ⟨rfl, hb1⟩
  · obtain ⟨m, rfl⟩ : ∃ m, n = m + 1 := ⟨n - 1, by omega⟩
    have g0 : ((m : Int) + 1 == 0) = false := by simp; omega
    clear h0
    obtain ⟨b, off, hab, hblt, hc⟩ := (unhide H).get (Nat.lt_succ_self m)
    subst hab
    have hcell : Hid (∀ k, k < m + 1 → w.cell? ⟨b, off + k, none⟩ = some (.int .i64 (xs.getD k 0))) := by
      intro k hk
      obtain ⟨b', o', e', _, hc'⟩ := (unhide H).get hk
      cases e'
      exact hc'
    go_enter Tryz.func91, Tryz.ntmps91
    go_wp2
    go_loop [6, 7] (fun v i => ∃ (k : Nat) (x : Int), k ≤ m ∧ i = .int .i64 ((k : Int) - 1) ∧ v = .int .i64 x ∧ Hid (foldR op (xs.drop k) = (x, 0)) ∧ Hid (-1000000000000000 ≤ x ∧ x ≤ 1000000000000000)) (fun _ i => (intOf i + 1).toNat)
    case atStart =>
      refine ⟨m, _, Nat.le_refl _, by go_num, rfl, ?_, unhide HV m⟩
      show _ = _
      rw [drop_cons xs m (by rw [unhide hlen]; omega), List.drop_eq_nil_of_le (by rw [unhide hlen]; omega)]
      rfl
    case round =>
      obtain ⟨k, x, hk, rfl, rfl, hf, hx⟩ := hrel
      cases k with
      | zero =>
        have HE : Hid (foldR op xs = (x, 0)) := by have := unhide hf; rwa [List.drop_zero] at this
        clear hf
        go_wp2
        go_ret2
        exact ⟨ret_two (by rw [unhide HE]) (by rw [unhide HE]), Below.refl _ _⟩
      | succ j =>
        have hc' := unhide hcell j (by omega)
        have hy := unhide HV j
        obtain ⟨y, hy'⟩ : ∃ y, y = xs.getD j 0 := ⟨_, rfl⟩
        rw [← hy'] at hc' hy
        obtain ⟨r, hr⟩ : ∃ r, twoOf op y x = r := ⟨_, rfl⟩
        obtain ⟨r1, r2⟩ := r
        have HRR := hide hr
        have HF : Hid (foldR op (xs.drop j) = (r1, r2)) := by
          show _ = _
          rw [drop_cons xs j (by rw [unhide hlen]; omega), foldR_cons (by
            intro e
            have := congrArg List.length e
            rw [List.length_drop, unhide hlen] at this
            simp at this; omega), unhide hf, ← hy', if_neg (by simp)]
          exact hr
        have hj : (((j + 1 : Nat) : Int) - 1) = (j : Int) := by omega
        rw [hj]
        clear hj hr hy'
        by_cases hcode : r2 = 0
        · subst hcode
          have hb : Hid (-1000000000000000 ≤ r1 ∧ r1 ≤ 1000000000000000) := by
            have := two_bd op y x
            rw [unhide HRR] at this
            exact this
          go_wp2_with (go_at_call 129; refine (l4Two_eq hy (unhide hx) op (unhide HOP) _ r1 0 HRR).mono ?_; rintro e w1 ⟨rfl, rfl⟩)
          go_round
          case rel => exact ⟨j, r1, by omega, by go_num, rfl, HF, hb⟩
          case measure => simp [intOf]
        · have hz : r1 = 0 := by
            have := two_code (op := op) (a := y) (b := x) (by rw [unhide HRR]; exact hcode)
            rw [unhide HRR] at this
            exact this
          subst hz
          have HE : Hid (foldR op xs = (0, r2)) := by
            show _ = _
            have := foldR_code (op := op) (xs.take j) (r := xs.drop j) (by
              intro e
              have := congrArg List.length e
              rw [List.length_drop, unhide hlen] at this
              simp at this; omega) (unhide HF) hcode
            rwa [List.take_append_drop] at this
          have hcb : (r2 != 0) = true := by simp [hcode]
          clear hcode
          go_wp2_with (go_at_call 129; refine (l4Two_eq hy (unhide hx) op (unhide HOP) _ 0 r2 HRR).mono ?_; rintro e w1 ⟨rfl, rfl⟩)
          go_ret2
          exact ⟨ret_two (by rw [unhide HE]) (by rw [unhide HE]), Below.refl _ _⟩

end Go.Proofs.YtkgcmpmgaghdhaaGreatDoor
namespace Go.Proofs.YtkgcmpmgaghdhaaGreatDoor
open Go.RowKit

theorem owns_cap {w : World} {base e size n m cap : Nat} {a : Option Addr} {xs : List Value} (h : w.ownsRow base e size (.slice a m cap) n xs) : n ≤ cap := by
  rcases h.2 with ⟨e, h0⟩ | ⟨g, cap', cur, e, _, _, hc, _⟩
  · omega
  · cases e; exact hc

set_option maxHeartbeats 1000000 in
theorem l4Line_any (c : Bool) (v1 : Value) (a2 : Option Addr) (n2 c2 p n A q : Nat) (dt : List Int) (w : World) (h2 : Row w a2 n2 dt) (hin : ∀ i, i < n → (p * n + i) * A + q < n2) (hp : p ≤ 10000) (hn : n ≤ 10000) (hA : A ≤ 10000) (hq : q ≤ 10000) (hn2 : n2 ≤ 10000) :
    Calls Tryz.prog 90 #[.agg #[.bool c, v1, .slice a2 n2 c2], .int .i64 p, .int .i64 n, .int .i64 A, .int .i64 q] w fun e w' => ∃ a' cap', e = .returned (.slice a' n cap') ∧ Own w' w.heap.size a' n (lineOf dt p n A q) ∧ Below w.heap.size w w' ∧ n ≤ cap' := by
  have H2 := hide h2
  have HIN := hide hin
  clear h2 hin
  obtain ⟨i0, hi, hz0, hz1, hz2⟩ := info_parts info_int
  go_enter Tryz.func90, Tryz.ntmps90
  go_wp2_with fail
  go_loopw [11, 12] (fun v i wr => ∃ k : Nat, k ≤ n ∧ i = .int .i64 k ∧ Hid (wr.ownsRow (w.heap.size + 1) 3 1 v k (((lineOf dt p n A q).take k).map (Value.int .i64))) ∧ Hid (Below (w.heap.size + 1) (w.alloc (.cells #[.bool c, v1, .slice a2 n2 c2] 25)) wr)) (fun _ i _ => n - (intOf i).toNat)
  case atStart =>
    refine ⟨0, Nat.zero_le _, rfl, ?_, ?_⟩
    · have := owns_empty (w.alloc (.cells #[.bool c, v1, .slice a2 n2 c2] 25))
      show World.ownsRow _ _ _ _ _ _ _
      simpa using this
    · exact (Below.refl _ _).alloc (by simp) _
  case round =>
    obtain ⟨k, hk, rfl, hown, hbl⟩ := hrel
    have hsz := (unhide hbl).size
    simp at hsz
    by_cases hlt : k < n
    · obtain ⟨j, hj⟩ : ∃ j, j = (p * n + k) * A + q := ⟨_, rfl⟩
      have hj2 := unhide HIN k hlt
      rw [← hj] at hj2
      have hidx : ((p : Int) * (n : Int) + (k : Int)) * (A : Int) + (q : Int) = (j : Int) := by rw [hj]; simp
      have e1a : 0 ≤ (p : Int) * (n : Int) := by rw [← Int.natCast_mul]; omega
      have e1b : (p : Int) * (n : Int) ≤ 100000000 := by
        have := Nat.mul_le_mul hp hn
        rw [← Int.natCast_mul]; omega
      have e2a : 0 ≤ ((p : Int) * (n : Int) + (k : Int)) * (A : Int) := Int.mul_nonneg (by omega) (by omega)
      have e2b : ((p : Int) * (n : Int) + (k : Int)) * (A : Int) ≤ 10000 := by omega
      obtain ⟨b, off, rfl, hblt, hc⟩ := (unhide H2).get hj2
      have hB0 : Below w.heap.size w wr := ((Below.refl _ _).alloc (Nat.le_refl _) _).trans ((unhide hbl).mono (by omega))
      have hc' := (hB0.cell (p := ⟨b, off + j, none⟩) hblt).trans hc
      have hbox : wr.cell? ⟨w.heap.size, 2, none⟩ = some (.slice (some ⟨b, off, none⟩) n2 c2) := by
        rw [(unhide hbl).cell (p := ⟨w.heap.size, 2, none⟩) (by simp)]
        simp
      obtain ⟨x, hx⟩ : ∃ x, x = dt.getD j 0 := ⟨_, rfl⟩
      rw [← hx] at hc'
      have HX : Hid (((lineOf dt p n A q).take (k + 1)).map (Value.int .i64) = ((lineOf dt p n A q).take k).map (Value.int .i64) ++ [.int .i64 x]) := by
        show _ = _
        rw [line_snoc _ _ _ _ _ _ hlt, ← hj, ← hx]
      clear hc hx hj
      have hown1 := unhide hown
      have HBL := hide (unhide hbl)
      clear hown hbl hB0
      go_wp2_with (at_builtin; refine wpList_append_own _ rfl _ _ 23 rfl (w.heap.size + 1) 3 i0 (.int .i64 0) 1 8 Tryz.underlying23 hi hz0 hz1 hz2 rfl (by decide) _ _ _ rfl (hown1.alloc _) ⟨wr.heap.size, 0, none⟩ 1 1 [.int .i64 x] rfl rfl (cells_new _ _) (one_one _) (by unfold maxLen; omega) (by omega) (by simp; omega) ?_; intro u1 w6 hown' hgrow hnil; clear hnil; obtain ⟨av, cv, rfl⟩ := owns_slice hown'; have HB := hide (below_append _ hown1 hsz hgrow); clear hgrow)
      have HN' : Hid (w6.ownsRow (w.heap.size + 1) 3 1 (.slice av (k + 1) cv) (k + 1) (((lineOf dt p n A q).take (k + 1)).map (Value.int .i64))) := by
        show w6.ownsRow _ _ _ _ _ _
        rw [unhide HX]
        exact hown'
      go_roundw
      case rel => exact ⟨k + 1, by omega, by go_num, HN', (unhide HBL).trans (unhide HB)⟩
      case measure => simp [intOf]; omega
    · have hkn : k = n := by omega
      subst hkn
      have hown1 := unhide hown
      rw [List.take_of_length_le (by rw [line_len]; exact Nat.le_refl _)] at hown1
      obtain ⟨ad, cd, rfl, hD⟩ := Own.of_owns hown1 (by omega)
      have hcap := owns_cap hown1
      have HD := hide (hD.mono (B' := w.heap.size) (by omega))
      have HB0 : Hid (Below w.heap.size w wr) := ((Below.refl _ _).alloc (Nat.le_refl _) _).trans ((unhide hbl).mono (by omega))
      clear hown1 hown hD hbl
      go_wp2
      go_ret
      exact ⟨ad, cd, rfl, unhide HD, unhide HB0, hcap⟩

end Go.Proofs.YtkgcmpmgaghdhaaGreatDoor
namespace Go.Proofs.YtkgcmpmgaghdhaaGreatDoor
open Go.RowKit

set_option maxRecDepth 20000 in
set_option maxHeartbeats 2000000 in
theorem l3Copy_any (c : Bool) (a1 a2 : Addr) (n1 n2 c1 c2 : Nat) (sh dt : List Int) (w : World) (h1 : Row w (some a1) n1 sh) (h2 : Row w (some a2) n2 dt) :
    Calls Tryz.prog 101 #[.agg #[.bool c, .slice (some a1) n1 c1, .slice (some a2) n2 c2]] w fun e w' => ∃ b1 d1 b2 d2, e = .returned (.agg #[.bool c, .slice b1 n1 d1, .slice b2 n2 d2]) ∧ Row w' b1 n1 sh ∧ Row w' b2 n2 dt ∧ Below w.heap.size w w' := by
  have H1 := hide h1
  have H2 := hide h2
  clear h1 h2
  obtain ⟨W0, hW0⟩ : ∃ W0, ((w.alloc (.cells #[.bool c, .slice (some a1) n1 c1, .slice (some a2) n2 c2] 25)).alloc (.cells #[.bool false, .slice none 0 0, .slice none 0 0] 25)) = W0 := ⟨_, rfl⟩
  have hz0 : W0.heap.size = w.heap.size + 2 := by rw [← hW0]; simp
  have HBX : Hid (∀ wx, Below W0.heap.size W0 wx → Box wx w.heap.size c (.slice (some a1) n1 c1) (.slice (some a2) n2 c2) ∧ Box wx (w.heap.size + 1) false (.slice none 0 0) (.slice none 0 0) ∧ Below w.heap.size w wx) := by
    intro wx hwx
    rw [← hW0] at hwx
    exact boxes2 hwx
  have HK0 : Hid (Box W0 w.heap.size c (.slice (some a1) n1 c1) (.slice (some a2) n2 c2)) := (unhide HBX _ (Below.refl _ _)).1
  have HKEEP : ∀ wx, Below (w.heap.size + 1) W0 wx → Below (w.heap.size + 1) W0 wx ∧ wx.cell? ⟨w.heap.size, 0, none⟩ = some (.bool c) ∧ wx.cell? ⟨w.heap.size, 1, none⟩ = some (.slice (some a1) n1 c1) ∧ wx.cell? ⟨w.heap.size, 2, none⟩ = some (.slice (some a2) n2 c2) := fun wx hwx => ⟨hwx, ((unhide HK0).low (by omega) hwx).cells⟩
  obtain ⟨B0, B1, hB0⟩ := unhide HBX _ (Below.refl _ _)
  obtain ⟨x0, x1, x2, x3, x4, x5, x6⟩ := B0.all
  clear B0 B1
  go_enter Tryz.func101, Tryz.ntmps101
  go_wp2_with fail
  go_region_held (fun wx => Below (w.heap.size + 1) W0 wx ∧ wx.cell? ⟨w.heap.size, 0, none⟩ = some (.bool c) ∧ wx.cell? ⟨w.heap.size, 1, none⟩ = some (.slice (some a1) n1 c1) ∧ wx.cell? ⟨w.heap.size, 2, none⟩ = some (.slice (some a2) n2 c2)) (first | exact HKEEP _ (hKB.mono (by omega)) | exact HKEEP _ ((((hKB.mono (by omega)).setCell (by simp) _).setCell (by simp) _).setCell (by simp) _) | exact HKEEP _ (hKA.mono (by omega)) | exact HKEEP _ (Below.refl _ _).drew)
    (first
    | (go_at_call_of 56 (Value.slice (some a1) n1 c1); refine (l3Ints_any _ _ _ sh _ (by exact (unhide H1).below (Nat.le_refl _) hB0.drew)).mono ?_; rintro e wA ⟨b1, d1, rfl, hOA, hbA⟩; have hKA : Below W0.heap.size W0 wA := (Below.refl _ _).drew.trans (hbA.mono (by simp)); have HOA : Hid (Own wA W0.heap.size b1 n1 sh) := hOA.mono (by simp); obtain ⟨t0, t1, t2, t3, t4, t5, t6⟩ := (unhide HBX _ hKA).2.1.all; clear hOA)
    | (go_at_call_of 56 (Value.slice (some a2) n2 c2); refine (l3Ints_any _ _ _ dt _ (by exact (unhide H2).below (Nat.le_refl _) (unhide HBX _ hKA).2.2)).mono ?_; rintro e wB ⟨b2, d2, rfl, hOB, hbB⟩; have hKB : Below W0.heap.size W0 wB := hKA.trans (hbB.mono hKA.size); have HOB : Hid (Own wB W0.heap.size b2 n2 dt) := hOB.mono hKA.size; have HOA' := hide ((unhide HOA).below (Nat.le_refl _) hbB); obtain ⟨s0, s1, s2, s3, s4, s5, s6⟩ := (unhide HBX _ hKB).2.1.all; clear hOB))
  go_wp2_with fail
  have hp1 : ∀ x, At b1 n1 x → x ≠ w.heap.size + 1 := fun x hx => by have := (unhide HOA').low hx; omega
  have hp2 : ∀ x, At b2 n2 x → x ≠ w.heap.size + 1 := fun x hx => by have := (unhide HOB).low hx; omega
  refine bodyPost_ret (v := .agg #[.bool c, .slice b1 n1 d1, .slice b2 n2 d2]) (by simp [results, Tryz.results101, go_sem, s0, s1, s2]) rfl ?_
  exact ⟨b1, d1, b2, d2, rfl, ((((unhide HOA').other hp1 _).other hp1 _).other hp1 _).row, ((((unhide HOB).other hp2 _).other hp2 _).other hp2 _).row, (((unhide HBX _ hKB).2.2.setCell (by simp) _).setCell (by simp) _).setCell (by simp) _⟩

end Go.Proofs.YtkgcmpmgaghdhaaGreatDoor
namespace Go.Proofs.YtkgcmpmgaghdhaaGreatDoor
open Go.RowKit

set_option maxHeartbeats 400000 in
theorem l4None_any (w : World) : Calls Tryz.prog 55 #[] w fun e w' => e = .returned (.agg #[.bool false, .slice none 0 0, .slice none 0 0]) ∧ Below w.heap.size w w' := by
  go_enter Tryz.func55, Tryz.ntmps55
  go_wp2
  exact bodyPost_ret (v := .agg #[.bool false, .slice none 0 0, .slice none 0 0]) (by simp [results, Tryz.results55, go_sem]) rfl ⟨rfl, (Below.refl _ _).alloc (Nat.le_refl _) _⟩

end Go.Proofs.YtkgcmpmgaghdhaaGreatDoor
namespace Go.Proofs.YtkgcmpmgaghdhaaGreatDoor
open Go.RowKit

theorem fold_bad1 {op : Int} {c first : Bool} {sh dt : List Int} (h : arrOk c sh dt = false) : fold op c sh dt first = noAns 3 := by unfold fold; rw [if_neg (by simp [h])]
theorem fold_bad2 {op : Int} {c first : Bool} {sh dt : List Int} (h : ¬ (1 ≤ op ∧ op ≤ 16)) : fold op c sh dt first = noAns 3 := by unfold fold; rw [if_neg (by simp [opIn, h])]
theorem fold_scalar {op : Int} {c first : Bool} {sh dt : List Int} (h : arrOk c sh dt = true) (h2 : 1 ≤ op ∧ op ≤ 16) (h0 : sh = []) : fold op c sh dt first = ⟨c, sh, dt, 0⟩ := by unfold fold; rw [if_pos ⟨h, decide_eq_true h2⟩, if_pos h0, h0]
theorem fold_char {op : Int} {c first : Bool} {sh dt : List Int} (h : arrOk c sh dt = true) (h2 : 1 ≤ op ∧ op ≤ 16) (h0 : sh ≠ []) (h3 : (c && decide (axisN sh first ≠ 1)) = true) : fold op c sh dt first = noAns 3 := by unfold fold; rw [if_pos ⟨h, decide_eq_true h2⟩, if_neg h0, if_pos (by simpa using h3)]
theorem fold_go {op : Int} {c first : Bool} {sh dt : List Int} (h : arrOk c sh dt = true) (h2 : 1 ≤ op ∧ op ≤ 16) (h0 : sh ≠ []) (h3 : (c && decide (axisN sh first ≠ 1)) = false) (B n A : Nat) (hB : axisB sh first = B) (hn : axisN sh first = n) (hA : axisA sh first = A) :
    fold op c sh dt first = gatherAns c (without sh first) (fun k => foldR op (lineOf dt (k / A) n A (k % A))) (B * A) := by
  unfold fold; rw [if_pos ⟨h, decide_eq_true h2⟩, if_neg h0, if_neg (fun e => by simp [e.1, e.2] at h3), hB, hn, hA]; rfl

theorem line_bd {dt : List Int} (h : ∀ k, -1000000000000000 ≤ dt.getD k 0 ∧ dt.getD k 0 ≤ 1000000000000000) (p n A q k : Nat) : -1000000000000000 ≤ (lineOf dt p n A q).getD k 0 ∧ (lineOf dt p n A q).getD k 0 ≤ 1000000000000000 := by
  by_cases hk : k < n
  · rw [line_get _ _ _ _ _ _ hk]; exact h _
  · have e : (lineOf dt p n A q).getD k 0 = 0 := by simp [List.getD, List.getElem?_eq_none (by rw [line_len]; omega : (lineOf dt p n A q).length ≤ k)]
    rw [e]; omega

set_option maxRecDepth 20000 in
set_option maxHeartbeats 8000000 in
theorem Fold_any (op : Int) (c : Bool) (a1 a2 : Addr) (n1 n2 c1 c2 : Nat) (sh dt : List Int) (first : Bool) (w : World) (h1 : Row w (some a1) n1 sh) (h2 : Row w (some a2) n2 dt) (hc1 : n1 ≤ c1) :
    Calls Tryz.prog 33 #[.int .i64 op, .agg #[.bool c, .slice (some a1) n1 c1, .slice (some a2) n2 c2], .bool first] w (GivesRow w (fold op c sh dt first)) := by
  have hl1 := hide h1.len
  have hl2 := hide h2.len
  have hs1 := h1.small
  have hs2 := h2.small
  have H1 := hide h1
  have H2 := hide h2
  clear h1 h2
  obtain ⟨r1, hr1⟩ : ∃ r, arrOk c sh dt = r := ⟨_, rfl⟩
  have HR1 := hide hr1
  clear hr1
  go_enter Tryz.func33, Tryz.ntmps33
  go_wp2_with fail
  refine (ArrayOk_eq _ _ _ _ _ _ _ sh dt _ (((unhide H1).alloc _).alloc _) (((unhide H2).alloc _).alloc _) _ HR1).mono ?_
  rintro e w1 ⟨rfl, hb1⟩
  obtain ⟨B4, B6, hB1⟩ := boxes2 hb1
  have C4 := hide B4
  have C6 := hide B6
  have HB1 := hide hB1
  clear hb1 B4 B6 hB1
  cases r1 with
  | false =>
    have HS := hide (fold_bad1 (op := op) (first := first) (unhide HR1))
    go_wp2_with fail
    refine (l4None_any _).mono ?_
    rintro e w9 ⟨rfl, hb9⟩
    obtain ⟨q0, q1, q2, q3, q4, q5, q6⟩ := ((unhide C6).below (Nat.le_refl _) hb9).all
    have hB9 := hide (((unhide HB1)).trans (hb9.mono ((unhide HB1)).size))
    clear hb9 C4 C6 HB1
    go_wp2
    refine bodyPost_ret (v := .tuple #[.agg #[.bool false, .slice none 0 0, .slice none 0 0], .int .i64 3]) (by simp [results, Tryz.results33, go_sem, q0, q1, q2]) rfl ?_
    rw [unhide HS]
    exact ⟨none, 0, 0, none, 0, 0, rfl, row_nil _ _, row_nil _ _, (((unhide hB9).setCell (by simp <;> omega) _).setCell (by simp <;> omega) _).setCell (by simp <;> omega) _⟩
  | true =>
    by_cases hop1 : op < 1
    · have HS := hide (fold_bad2 (op := op) (c := c) (first := first) (sh := sh) (dt := dt) (by omega))
      go_wp2_with fail
      refine (l4None_any _).mono ?_
      rintro e w9 ⟨rfl, hb9⟩
      obtain ⟨q0, q1, q2, q3, q4, q5, q6⟩ := ((unhide C6).below (Nat.le_refl _) hb9).all
      have hB9 := hide (((unhide HB1)).trans (hb9.mono ((unhide HB1)).size))
      clear hb9 C4 C6 HB1
      go_wp2
      refine bodyPost_ret (v := .tuple #[.agg #[.bool false, .slice none 0 0, .slice none 0 0], .int .i64 3]) (by simp [results, Tryz.results33, go_sem, q0, q1, q2]) rfl ?_
      rw [unhide HS]
      exact ⟨none, 0, 0, none, 0, 0, rfl, row_nil _ _, row_nil _ _, (((unhide hB9).setCell (by simp <;> omega) _).setCell (by simp <;> omega) _).setCell (by simp <;> omega) _⟩
    by_cases hop2 : 16 < op
    · have HS := hide (fold_bad2 (op := op) (c := c) (first := first) (sh := sh) (dt := dt) (by omega))
      go_wp2_with fail
      refine (l4None_any _).mono ?_
      rintro e w9 ⟨rfl, hb9⟩
      obtain ⟨q0, q1, q2, q3, q4, q5, q6⟩ := ((unhide C6).below (Nat.le_refl _) hb9).all
      have hB9 := hide (((unhide HB1)).trans (hb9.mono ((unhide HB1)).size))
      clear hb9 C4 C6 HB1
      go_wp2
      refine bodyPost_ret (v := .tuple #[.agg #[.bool false, .slice none 0 0, .slice none 0 0], .int .i64 3]) (by simp [results, Tryz.results33, go_sem, q0, q1, q2]) rfl ?_
      rw [unhide HS]
      exact ⟨none, 0, 0, none, 0, 0, rfl, row_nil _ _, row_nil _ _, (((unhide hB9).setCell (by simp <;> omega) _).setCell (by simp <;> omega) _).setCell (by simp <;> omega) _⟩
    have HOP : Hid (1 ≤ op ∧ op ≤ 16) := (by omega : 1 ≤ op ∧ op ≤ 16)
    have HIN : Hid (opIn op = true) := decide_eq_true (unhide HOP)
    obtain ⟨x0, x1, x2, x3, x4, x5, x6⟩ := (unhide C4).all
    by_cases hn0 : n1 = 0
    · have g0 : ((n1 : Int) == 0) = true := by simp [hn0]
      have HS := hide (fold_scalar (first := first) (unhide HR1) (unhide HOP) (List.length_eq_zero_iff.mp ((unhide hl1).trans hn0)))
      clear hn0
      go_wp2_with fail
      refine (l3Copy_any _ _ _ _ _ _ _ sh dt _ ((unhide H1).below (Nat.le_refl _) (unhide HB1)) ((unhide H2).below (Nat.le_refl _) (unhide HB1))).mono ?_
      rintro e w2 ⟨b1, d1, b2, d2, rfl, hE1, hE2, hb2⟩
      have D6 := hide ((unhide C6).below (Nat.le_refl _) hb2)
      have HB2 := hide ((unhide HB1).trans (hb2.mono (unhide HB1).size))
      obtain ⟨q0, q1, q2, q3, q4, q5, q6⟩ := (unhide D6).all
      have HE1 := hide (hE1.sets (unhide D6) (.bool c) (.slice b1 n1 d1) (.slice b2 n2 d2))
      have HE2 := hide (hE2.sets (unhide D6) (.bool c) (.slice b1 n1 d1) (.slice b2 n2 d2))
      clear hb2 hE1 hE2 C4 C6 HB1 x0 x1 x2 x3 x4 x5 x6
      go_wp2
      refine bodyPost_ret (v := .tuple #[.agg #[.bool c, .slice b1 n1 d1, .slice b2 n2 d2], .int .i64 0]) (by simp [results, Tryz.results33, go_sem, q0, q1, q2]) rfl ?_
      rw [unhide HS]
      exact ⟨b1, n1, d1, b2, n2, d2, rfl, unhide HE1, unhide HE2, (((unhide HB2).setCell (by simp <;> omega) _).setCell (by simp <;> omega) _).setCell (by simp <;> omega) _⟩
    · have g0 : ((n1 : Int) == 0) = false := by simp; omega
      have HNE : Hid (sh ≠ []) := fun e => hn0 (by rw [← unhide hl1, e]; rfl)
      obtain ⟨ba, oa, rfl⟩ : ∃ b o, a1 = ⟨b, o, none⟩ := by
        obtain ⟨b, o, e, _⟩ := (unhide H1).get (by omega : 0 < n1)
        exact ⟨b, o, by cases e; rfl⟩
      obtain ⟨hSI, hPA, _⟩ := shapeIn_of (unhide HR1)
      have hbB := (hSI.take (axisAt sh first)).bd
      have hbN := hSI.cell (axisAt sh first)
      have hbA := (hSI.drop (axisAt sh first + 1)).bd
      obtain ⟨B, hB⟩ : ∃ B : Nat, axisB sh first = (B : Int) := ⟨(axisB sh first).toNat, by have : 0 ≤ axisB sh first := hbB.1; omega⟩
      obtain ⟨n, hn⟩ : ∃ n : Nat, axisN sh first = (n : Int) := ⟨(axisN sh first).toNat, by have : 0 ≤ axisN sh first := hbN.1; omega⟩
      obtain ⟨A, hA⟩ : ∃ A : Nat, axisA sh first = (A : Int) := ⟨(axisA sh first).toNat, by have : 0 ≤ axisA sh first := hbA.1; omega⟩
      have hBs : B ≤ 10000 := by have : axisB sh first ≤ 10000 := hbB.2; omega
      have hns : n ≤ 10000 := by have : axisN sh first ≤ 10000 := hbN.2; omega
      have hAs : A ≤ 10000 := by have : axisA sh first ≤ 10000 := hbA.2; omega
      have hall : B * n * A = n2 := by
        have e := axis_all sh first (unhide HNE)
        rw [hB, hn, hA, hPA, unhide hl2] at e
        exact_mod_cast e
      have hn2s : n2 ≤ 10000 := by have := hSI.bd.2; rw [hPA, unhide hl2] at this; omega
      have HSI := hide hSI
      have HAX : Hid (axisB sh first = B ∧ axisN sh first = n ∧ axisA sh first = A) := ⟨hB, hn, hA⟩
      have HALL := hide hall
      clear hSI hPA hbB hbN hbA hB hn hA hall
      go_wp2_with fail
      refine (l4Axis_any _ _ _ sh first _ ((unhide H1).below (Nat.le_refl _) (unhide HB1)) (unhide HSI) (by omega)).mono ?_
      rw [(unhide HAX).1, (unhide HAX).2.1, (unhide HAX).2.2]
      rintro e w2 ⟨rfl, hb2⟩
      have D4 := hide ((unhide C4).below (Nat.le_refl _) hb2)
      have D6 := hide ((unhide C6).below (Nat.le_refl _) hb2)
      have HB2 := hide ((unhide HB1).trans (hb2.mono (unhide HB1).size))
      clear hb2 C4 C6 HB1 x0 x1 x2 x3 x4 x5 x6 w1
      obtain ⟨x0, x1, x2, x3, x4, x5, x6⟩ := (unhide D4).all
      go_upto_region 6 with fail
      go_cut [47] (fun b wx => w2 = wx ∧ b = .bool (c && decide (axisN sh first ≠ 1)))
      case first =>
        cases c
        · go_wp2
          go_meet
          case rel => exact ⟨rfl, rfl⟩
        · by_cases e1 : n = 1
          · have f1 : ((n : Int) != 1) = false := by simp [e1]
            have HE : Hid (decide (axisN sh first ≠ 1) = false) := by show _ = _; rw [(unhide HAX).2.1, e1]; rfl
            clear e1
            go_wp2
            go_meet
            case rel => exact ⟨rfl, by rw [unhide HE]; rfl⟩
          · have f1 : ((n : Int) != 1) = true := by simp; omega
            have HE : Hid (decide (axisN sh first ≠ 1) = true) := by show _ = _; rw [(unhide HAX).2.1]; simp; omega
            clear e1
            go_wp2
            go_meet
            case rel => exact ⟨rfl, by rw [unhide HE]; rfl⟩
      case rest =>
        obtain ⟨rfl, rfl⟩ := hcut
        obtain ⟨bad, hbad⟩ : ∃ r, (c && decide (axisN sh first ≠ 1)) = r := ⟨_, rfl⟩
        rw [hbad]
        have HBD := hide hbad
        clear hbad
        cases bad with
        | true =>
          have HS := hide (fold_char (unhide HR1) (unhide HOP) (unhide HNE) (unhide HBD))
          go_wp2_with fail
          refine (l4None_any _).mono ?_
          rintro e w9 ⟨rfl, hb9⟩
          obtain ⟨q0, q1, q2, q3, q4, q5, q6⟩ := ((unhide D6).below (Nat.le_refl _) hb9).all
          have hB9 := hide (((unhide HB2)).trans (hb9.mono ((unhide HB2)).size))
          clear hb9 D4 D6 HB2 x0 x1 x2 x3 x4 x5 x6
          go_wp2
          refine bodyPost_ret (v := .tuple #[.agg #[.bool false, .slice none 0 0, .slice none 0 0], .int .i64 3]) (by simp [results, Tryz.results33, go_sem, q0, q1, q2]) rfl ?_
          rw [unhide HS]
          exact ⟨none, 0, 0, none, 0, 0, rfl, row_nil _ _, row_nil _ _, (((unhide hB9).setCell (by simp <;> omega) _).setCell (by simp <;> omega) _).setCell (by simp <;> omega) _⟩
        | false =>
          obtain ⟨f, hf⟩ : ∃ f : Nat → Int × Int, f = fun k => foldR op (lineOf dt (k / A) n A (k % A)) := ⟨_, rfl⟩
          have HGO : Hid (fold op c sh dt first = gatherAns c (without sh first) f (B * A)) := by
            show _ = _
            rw [fold_go (unhide HR1) (unhide HOP) (unhide HNE) (unhide HBD) B n A (unhide HAX).1 (unhide HAX).2.1 (unhide HAX).2.2, hf]
          have HFK : Hid (∀ P Q, Q < A → f (P * A + Q) = foldR op (lineOf dt P n A Q)) := by
            intro P Q hQ
            rw [hf]
            have e1 : (P * A + Q) / A = P := by rw [Nat.mul_comm, Nat.mul_add_div (by omega), Nat.div_eq_of_lt hQ, Nat.add_zero]
            have e2 : (P * A + Q) % A = Q := by rw [Nat.mul_comm, Nat.mul_add_mod, Nat.mod_eq_of_lt hQ]
            simp only [e1, e2]
          have HV1 := hide (arr_bd (unhide HR1))
          clear hf HBD HAX
          have hz6 := (unhide D6).lt
          go_upto_region 8 with fail
          go_cut [11] (fun r wx => Laid w2 c (n1 - 1) (without sh first) r wx)
          case first =>
            have HKEEP : ∀ wx, Below w2.heap.size w2 wx → Below w2.heap.size w2 wx ∧ wx.cell? ⟨w.heap.size, 0, none⟩ = some (.bool c) ∧ wx.cell? ⟨w.heap.size, 1, none⟩ = some (.slice (some ⟨ba, oa, none⟩) n1 c1) := fun wx hwx => ⟨hwx, ((unhide D4).below (Nat.le_refl _) hwx).cells.1, ((unhide D4).below (Nat.le_refl _) hwx).cells.2.1⟩
            go_region_held (fun wx => Below w2.heap.size w2 wx ∧ wx.cell? ⟨w.heap.size, 0, none⟩ = some (.bool c) ∧ wx.cell? ⟨w.heap.size, 1, none⟩ = some (.slice (some ⟨ba, oa, none⟩) n1 c1)) (first | (refine HKEEP _ ?_; first | exact hKA | exact (Below.refl _ _).drew | (repeat (first | exact hKA | exact Below.refl _ _ | refine Below.drew ?_ | refine Below.alloc ?_ (by first | omega | (simp <;> omega)) _ | refine Below.setCell ?_ (by first | omega | (simp <;> omega)) _))))
              (first
              | (go_at_call 88; go_loud (refine (l4Without_any _ _ _ _ sh first _ ((unhide H1).below (Nat.le_refl _) (by repeat (first | exact unhide HB2 | refine Below.drew ?_ | refine Below.alloc ?_ (by have := (unhide HB2).size; simp <;> omega) _))) (by omega) hc1).mono ?_); rintro e wA ⟨ash, csh, rfl, hOA, hbA⟩; go_loud (have hKA : Below w2.heap.size w2 wA := (by refine Below.trans ?_ (hbA.mono (by first | omega | (simp <;> omega))); repeat (first | exact Below.refl _ _ | refine Below.drew ?_ | refine Below.alloc ?_ (by first | omega | (simp <;> omega)) _))); have hsA := hKA.size; (first | (have hP5 := (Box.new _ _ _ _).drew.below (Nat.le_refl _) hbA; obtain ⟨t0, t1, t2, t3, t4, t5, t6⟩ := hP5.free'; (try simp at t0 t1 t2 t3 t4 t5 t6)) | (have hP5 := ((Box.new _ _ _ _).alloc _).drew.below (Nat.le_refl _) hbA; obtain ⟨t0, t1, t2, t3, t4, t5, t6⟩ := hP5.free'; (try simp at t0 t1 t2 t3 t4 t5 t6)) | skip); (first | have hQ5 := (Blk.new _).drew.below (Nat.le_refl _) hbA | have hQ5 := ((Blk.new _).alloc _).drew.below (Nat.le_refl _) hbA | skip)))
            all_goals go_wp2_with fail
            all_goals have HOW : Own wA w2.heap.size ash (n1 - 1) (without sh first) := hOA.mono (by first | exact Nat.le_refl _ | (simp <;> omega))
            all_goals (go_meet; case rel => first
              | with_reducible exact laid_cbz HOW hKA
              | with_reducible exact laid_czb HOW hKA
              | with_reducible exact laid_bcz HOW hKA hQ5 (Nat.le_refl _) (fun x hx => by have := hOA.low hx; simp at this; omega)
              | with_reducible exact laid_zc HOW hKA (by simpa using hP5) (by first | exact Nat.le_refl _ | omega) (by simpa using hQ5) (by first | exact Nat.le_refl _ | omega) (fun x hx => by have := hOA.low hx; simp at this; omega)
              | with_reducible exact laid_zcb HOW hKA (by simpa using hP5) (by first | exact Nat.le_refl _ | omega))
          case rest =>
            obtain ⟨w3, hw3⟩ : ∃ x, x = wc := ⟨_, rfl⟩
            subst hw3
            obtain ⟨p, g0, ash, csh, rfl, hbx, hblk, hO, hb3, hp, hg, hne⟩ := hcut
            have hst0 := hide (Stage.start f hbx hblk hO hb3 hp hg hne)
            have HW3 := hide ((unhide HB2).trans (hb3.mono (unhide HB2).size))
            have hB2s := (unhide HB2).size
            have hz4 := (unhide D4).lt
            clear hbx hblk hO hb3 hg hne x0 x1 x2 x3 x4 x5 x6
            obtain ⟨i0, hi, hz0, hz1, hz2⟩ := info_parts info_int
            go_wp2_with fail
            go_loopw [12] (fun i wr => ∃ P g cap, P ≤ B ∧ i = .int .i64 (P : Nat) ∧ Hid (Stage w2 p c ash (n1 - 1) csh (without sh first) f (P * A) wr g cap)) (fun i _ => B - (intOf i).toNat)
            case atStart =>
              refine ⟨0, g0, 0, Nat.zero_le _, rfl, ?_⟩
              rw [Nat.zero_mul]
              exact hst0
            case round =>
              obtain ⟨P, g, cap, hP, rfl, hst⟩ := hrel
              clear hst0
              by_cases hlt : P < B
              · go_wp2_with fail
                go_loopw [13] (fun i wx => ∃ Q g cap, Q ≤ A ∧ i = .int .i64 (Q : Nat) ∧ Hid (Stage w2 p c ash (n1 - 1) csh (without sh first) f (P * A + Q) wx g cap)) (fun i _ => A - (intOf i).toNat)
                case atStart => exact ⟨0, g, cap, Nat.zero_le _, rfl, hst⟩
                case round =>
                  clear hst
                  obtain ⟨Q, g, cap, hQ, rfl, hst⟩ := hrel
                  by_cases hqlt : Q < A
                  · obtain ⟨wy, hwy⟩ : ∃ x, x = wr := ⟨_, rfl⟩
                    subst hwy
                    have HWy := hide ((unhide HB2).trans ((unhide hst).low.mono hB2s))
                    obtain ⟨x0, x1, x2, x3, x4, x5, x6⟩ := ((unhide D4).low hz4 (unhide hst).low).all
                    have hfk0 := unhide HFK P Q hqlt
                    obtain ⟨r, hr⟩ : ∃ r, foldR op (lineOf dt P n A Q) = r := ⟨_, rfl⟩
                    obtain ⟨r1, r2⟩ := r
                    rw [hr] at hfk0
                    have HFQ := hide hfk0
                    have HRR := hide hr
                    clear hr hfk0
                    go_wp2_with fail
                    refine (l4Line_any c _ _ n2 _ P n A Q dt _ ((unhide H2).below (Nat.le_refl _) (unhide HWy)) (fun i hi => line_in (unhide HALL) hlt hqlt hi) (by omega) hns hAs (by omega) hn2s).mono ?_
                    rintro e w5 ⟨al, cl, rfl, hOL, hb5, _⟩
                    have hst5 := hide ((unhide hst).below hb5)
                    have HOL := hide hOL
                    clear hb5 hst HWy hOL x0 x1 x2 x3 x4 x5 x6
                    go_wp2_with fail
                    refine (l4Fold_any op _ n _ (lineOf dt P n A Q) _ (unhide HOL).row (unhide HIN) (line_bd (unhide HV1) P n A Q)).mono ?_
                    rw [unhide HRR]
                    rintro e w6 ⟨rfl, hb6⟩
                    have hst6 := (unhide hst5).below hb6
                    clear hb6 hst5 HOL
                    have G6 := hide ((unhide D6).low hz6 hst6.low)
                    have HW6 := hide ((unhide HB2).trans (hst6.low.mono hB2s))
                    by_cases hcode : r2 = 0
                    · subst hcode
                      have hfk := unhide HFQ
                      obtain ⟨z0, z1, z2, z3, z4, z5, z6⟩ := hst6.box.all
                      have hown := hst6.owns
                      have hlow := hst6.low.size
                      have hkb : P * A + Q ≤ 200000000 := by have := Nat.mul_le_mul (by omega : P ≤ 10000) hAs; omega
                      go_wp2_with (at_builtin; refine wpList_append_lies _ rfl _ _ 23 rfl w2.heap.size 3 i0 (.int .i64 0) 1 8 Tryz.underlying23 hi hz0 hz1 hz2 rfl (by decide) _ _ _ rfl (hown.alloc _) ⟨w6.heap.size, 0, none⟩ 1 1 [.int .i64 r1] rfl rfl (cells_new _ _) (one_one _) (by omega) (by unfold maxLen; omega) (by omega) (by have := hlow; simp; omega) (w6.heap.size + 1) (by simp) ?_; intro g' cap' w7 hown' hgrow hat hlt7; obtain ⟨hb7, hst7⟩ := hst6.push _ hfk hown' hgrow hat; obtain ⟨z0', z1', z2', z3', z4', z5', z6'⟩ := hb7.all; clear hgrow hat hown')
                      go_roundw
                      case rel => exact ⟨Q + 1, g', cap', by omega, by go_num, hst7⟩
                      case measure => simp [intOf]; omega
                    · have HS : Hid (fold op c sh dt first = noAns r2) := by
                        show _ = _
                        have hkk : P * A + Q < B * A := by
                          have : (P + 1) * A ≤ B * A := Nat.mul_le_mul_right A hlt
                          rw [Nat.add_mul] at this; omega
                        have := gather_bad (c := c) (sh := without sh first) hst6.code hkk (by rw [unhide HFQ]; exact hcode)
                        rw [unhide HGO, this, unhide HFQ]
                      have hcb : (r2 != 0) = true := by simp [hcode]
                      clear hcode hst6
                      go_wp2_with fail
                      refine (l4None_any _).mono ?_
                      rintro e w9 ⟨rfl, hb9⟩
                      obtain ⟨q0, q1, q2, q3, q4, q5, q6⟩ := ((unhide G6).below (Nat.le_refl _) hb9).all
                      have hB9 := hide (((unhide HW6)).trans (hb9.mono ((unhide HW6)).size))
                      clear hb9 G6 HW6
                      go_wp2
                      refine bodyPost_ret (v := .tuple #[.agg #[.bool false, .slice none 0 0, .slice none 0 0], .int .i64 r2]) (by simp [results, Tryz.results33, go_sem, q0, q1, q2]) rfl ?_
                      rw [unhide HS]
                      exact ⟨none, 0, 0, none, 0, 0, rfl, row_nil _ _, row_nil _ _, (((unhide hB9).setCell (by simp <;> omega) _).setCell (by simp <;> omega) _).setCell (by simp <;> omega) _⟩
                  · have hQA : Q = A := by omega
                    subst hQA
                    go_wp2_with fail
                    go_roundw
                    case rel => exact ⟨P + 1, g, cap, by omega, by go_num, by rw [Nat.add_mul, Nat.one_mul]; exact hst⟩
                    case measure => simp [intOf]; omega
              · have hPB : P = B := by omega
                subst hPB
                have HS : Hid (fold op c sh dt first = ⟨c, without sh first, vals f (P * A), 0⟩) := (unhide HGO).trans (gather_good (unhide hst).code)
                have hkb : P * A ≤ 100000000 := Nat.mul_le_mul (by omega : P ≤ 10000) hAs
                obtain ⟨ad', cd, hv, hD⟩ := Own.of_owns (unhide hst).owns (by omega)
                cases hv
                obtain ⟨z0, z1, z2, z3, z4, z5, z6⟩ := (unhide hst).box.all
                have G6 := hide ((unhide D6).low hz6 (unhide hst).low)
                obtain ⟨q0, q1, q2, q3, q4, q5, q6⟩ := (unhide G6).all
                have HW6 := hide ((unhide HB2).trans ((unhide hst).low.mono hB2s))
                have HO6 := hide (unhide hst).own
                have HD := hide hD
                clear hst hD HGO HFK
                go_wp2
                refine bodyPost_ret (v := .tuple #[.agg #[.bool c, .slice ash (n1 - 1) csh, .slice (some ⟨g, 0, none⟩) (P * A) cap], .int .i64 0]) (by simp [results, Tryz.results33, go_sem, q0, q1, q2]) rfl ?_
                rw [unhide HS]
                refine ⟨ash, n1 - 1, csh, some ⟨g, 0, none⟩, P * A, cap, rfl, ?_, ?_, (((unhide HW6).setCell (by simp <;> omega) _).setCell (by simp <;> omega) _).setCell (by simp <;> omega) _⟩
                · exact (unhide HO6).row.sets (unhide G6) _ _ _
                · exact (unhide HD).row.sets (unhide G6) _ _ _

end Go.Proofs.YtkgcmpmgaghdhaaGreatDoor
namespace Go.Proofs.YtkgcmpmgaghdhaaGreatDoor
open Go.RowKit

theorem scan_bad1 {op : Int} {c first : Bool} {sh dt : List Int} (h : arrOk c sh dt = false) : scan op c sh dt first = noAns 3 := by unfold scan; rw [if_neg (by simp [h])]
theorem scan_bad2 {op : Int} {c first : Bool} {sh dt : List Int} (h : ¬ (1 ≤ op ∧ op ≤ 16)) : scan op c sh dt first = noAns 3 := by unfold scan; rw [if_neg (by simp [opIn, h])]
theorem scan_scalar {op : Int} {c first : Bool} {sh dt : List Int} (h : arrOk c sh dt = true) (h2 : 1 ≤ op ∧ op ≤ 16) (h0 : sh = []) : scan op c sh dt first = ⟨c, sh, dt, 0⟩ := by unfold scan; rw [if_pos ⟨h, decide_eq_true h2⟩, if_pos h0, h0]
theorem scan_char {op : Int} {c first : Bool} {sh dt : List Int} (h : arrOk c sh dt = true) (h2 : 1 ≤ op ∧ op ≤ 16) (h0 : sh ≠ []) (h3 : (c && decide (1 < axisN sh first)) = true) : scan op c sh dt first = noAns 3 := by unfold scan; rw [if_pos ⟨h, decide_eq_true h2⟩, if_neg h0, if_pos (by simpa using h3)]
theorem scan_go {op : Int} {c first : Bool} {sh dt : List Int} (h : arrOk c sh dt = true) (h2 : 1 ≤ op ∧ op ≤ 16) (h0 : sh ≠ []) (h3 : (c && decide (1 < axisN sh first)) = false) (B n A : Nat) (hB : axisB sh first = B) (hn : axisN sh first = n) (hA : axisA sh first = A) :
    scan op c sh dt first = gatherAns c sh (fun k => foldR op ((lineOf dt (k / A / n) n A (k % A)).take (k / A % n + 1))) (B * n * A) := by
  unfold scan; rw [if_pos ⟨h, decide_eq_true h2⟩, if_neg h0, if_neg (fun e => by simp [e.1, e.2] at h3), hB, hn, hA]; rfl

theorem take_bd {xs : List Int} (h : ∀ k, -1000000000000000 ≤ xs.getD k 0 ∧ xs.getD k 0 ≤ 1000000000000000) (m k : Nat) : -1000000000000000 ≤ (xs.take m).getD k 0 ∧ (xs.take m).getD k 0 ≤ 1000000000000000 := by
  by_cases hk : k < m
  · have e : (xs.take m).getD k 0 = xs.getD k 0 := by simp [List.getD, hk]
    rw [e]; exact h k
  · have e : (xs.take m).getD k 0 = 0 := by
      have hl : (xs.take m).length ≤ k := by rw [List.length_take]; omega
      simp [List.getD, List.getElem?_eq_none hl]
    rw [e]; omega

set_option maxRecDepth 20000 in
set_option maxHeartbeats 8000000 in
theorem Scan_any (op : Int) (c : Bool) (a1 a2 : Addr) (n1 n2 c1 c2 : Nat) (sh dt : List Int) (first : Bool) (w : World) (h1 : Row w (some a1) n1 sh) (h2 : Row w (some a2) n2 dt) :
    Calls Tryz.prog 36 #[.int .i64 op, .agg #[.bool c, .slice (some a1) n1 c1, .slice (some a2) n2 c2], .bool first] w (GivesRow w (scan op c sh dt first)) := by
  have hl1 := hide h1.len
  have hl2 := hide h2.len
  have hs1 := h1.small
  have hs2 := h2.small
  have H1 := hide h1
  have H2 := hide h2
  clear h1 h2
  obtain ⟨r1, hr1⟩ : ∃ r, arrOk c sh dt = r := ⟨_, rfl⟩
  have HR1 := hide hr1
  clear hr1
  go_enter Tryz.func36, Tryz.ntmps36
  go_wp2_with fail
  refine (ArrayOk_eq _ _ _ _ _ _ _ sh dt _ (((unhide H1).alloc _).alloc _) (((unhide H2).alloc _).alloc _) _ HR1).mono ?_
  rintro e w1 ⟨rfl, hb1⟩
  obtain ⟨B4, B6, hB1⟩ := boxes2 hb1
  have C4 := hide B4
  have C6 := hide B6
  have HB1 := hide hB1
  clear hb1 B4 B6 hB1
  cases r1 with
  | false =>
    have HS := hide (scan_bad1 (op := op) (first := first) (unhide HR1))
    go_wp2_with fail
    refine (l4None_any _).mono ?_
    rintro e w9 ⟨rfl, hb9⟩
    obtain ⟨q0, q1, q2, q3, q4, q5, q6⟩ := ((unhide C6).below (Nat.le_refl _) hb9).all
    have hB9 := hide (((unhide HB1)).trans (hb9.mono ((unhide HB1)).size))
    clear hb9 C4 C6 HB1
    go_wp2
    refine bodyPost_ret (v := .tuple #[.agg #[.bool false, .slice none 0 0, .slice none 0 0], .int .i64 3]) (by simp [results, Tryz.results36, go_sem, q0, q1, q2]) rfl ?_
    rw [unhide HS]
    exact ⟨none, 0, 0, none, 0, 0, rfl, row_nil _ _, row_nil _ _, (((unhide hB9).setCell (by simp <;> omega) _).setCell (by simp <;> omega) _).setCell (by simp <;> omega) _⟩
  | true =>
    by_cases hop1 : op < 1
    · have HS := hide (scan_bad2 (op := op) (c := c) (first := first) (sh := sh) (dt := dt) (by omega))
      go_wp2_with fail
      refine (l4None_any _).mono ?_
      rintro e w9 ⟨rfl, hb9⟩
      obtain ⟨q0, q1, q2, q3, q4, q5, q6⟩ := ((unhide C6).below (Nat.le_refl _) hb9).all
      have hB9 := hide (((unhide HB1)).trans (hb9.mono ((unhide HB1)).size))
      clear hb9 C4 C6 HB1
      go_wp2
      refine bodyPost_ret (v := .tuple #[.agg #[.bool false, .slice none 0 0, .slice none 0 0], .int .i64 3]) (by simp [results, Tryz.results36, go_sem, q0, q1, q2]) rfl ?_
      rw [unhide HS]
      exact ⟨none, 0, 0, none, 0, 0, rfl, row_nil _ _, row_nil _ _, (((unhide hB9).setCell (by simp <;> omega) _).setCell (by simp <;> omega) _).setCell (by simp <;> omega) _⟩
    by_cases hop2 : 16 < op
    · have HS := hide (scan_bad2 (op := op) (c := c) (first := first) (sh := sh) (dt := dt) (by omega))
      go_wp2_with fail
      refine (l4None_any _).mono ?_
      rintro e w9 ⟨rfl, hb9⟩
      obtain ⟨q0, q1, q2, q3, q4, q5, q6⟩ := ((unhide C6).below (Nat.le_refl _) hb9).all
      have hB9 := hide (((unhide HB1)).trans (hb9.mono ((unhide HB1)).size))
      clear hb9 C4 C6 HB1
      go_wp2
      refine bodyPost_ret (v := .tuple #[.agg #[.bool false, .slice none 0 0, .slice none 0 0], .int .i64 3]) (by simp [results, Tryz.results36, go_sem, q0, q1, q2]) rfl ?_
      rw [unhide HS]
      exact ⟨none, 0, 0, none, 0, 0, rfl, row_nil _ _, row_nil _ _, (((unhide hB9).setCell (by simp <;> omega) _).setCell (by simp <;> omega) _).setCell (by simp <;> omega) _⟩
    have HOP : Hid (1 ≤ op ∧ op ≤ 16) := (by omega : 1 ≤ op ∧ op ≤ 16)
    have HIN : Hid (opIn op = true) := decide_eq_true (unhide HOP)
    obtain ⟨x0, x1, x2, x3, x4, x5, x6⟩ := (unhide C4).all
    by_cases hn0 : n1 = 0
    · have g0 : ((n1 : Int) == 0) = true := by simp [hn0]
      have HS := hide (scan_scalar (first := first) (unhide HR1) (unhide HOP) (List.length_eq_zero_iff.mp ((unhide hl1).trans hn0)))
      clear hn0
      go_wp2_with fail
      refine (l3Copy_any _ _ _ _ _ _ _ sh dt _ ((unhide H1).below (Nat.le_refl _) (unhide HB1)) ((unhide H2).below (Nat.le_refl _) (unhide HB1))).mono ?_
      rintro e w2 ⟨b1, d1, b2, d2, rfl, hE1, hE2, hb2⟩
      have D6 := hide ((unhide C6).below (Nat.le_refl _) hb2)
      have HB2 := hide ((unhide HB1).trans (hb2.mono (unhide HB1).size))
      obtain ⟨q0, q1, q2, q3, q4, q5, q6⟩ := (unhide D6).all
      have HE1 := hide (hE1.sets (unhide D6) (.bool c) (.slice b1 n1 d1) (.slice b2 n2 d2))
      have HE2 := hide (hE2.sets (unhide D6) (.bool c) (.slice b1 n1 d1) (.slice b2 n2 d2))
      clear hb2 hE1 hE2 C4 C6 HB1 x0 x1 x2 x3 x4 x5 x6
      go_wp2
      refine bodyPost_ret (v := .tuple #[.agg #[.bool c, .slice b1 n1 d1, .slice b2 n2 d2], .int .i64 0]) (by simp [results, Tryz.results36, go_sem, q0, q1, q2]) rfl ?_
      rw [unhide HS]
      exact ⟨b1, n1, d1, b2, n2, d2, rfl, unhide HE1, unhide HE2, (((unhide HB2).setCell (by simp <;> omega) _).setCell (by simp <;> omega) _).setCell (by simp <;> omega) _⟩
    · have g0 : ((n1 : Int) == 0) = false := by simp; omega
      have HNE : Hid (sh ≠ []) := fun e => hn0 (by rw [← unhide hl1, e]; rfl)
      obtain ⟨ba, oa, rfl⟩ : ∃ b o, a1 = ⟨b, o, none⟩ := by
        obtain ⟨b, o, e, _⟩ := (unhide H1).get (by omega : 0 < n1)
        exact ⟨b, o, by cases e; rfl⟩
      obtain ⟨hSI, hPA, _⟩ := shapeIn_of (unhide HR1)
      have hbB := (hSI.take (axisAt sh first)).bd
      have hbN := hSI.cell (axisAt sh first)
      have hbA := (hSI.drop (axisAt sh first + 1)).bd
      obtain ⟨B, hB⟩ : ∃ B : Nat, axisB sh first = (B : Int) := ⟨(axisB sh first).toNat, by have : 0 ≤ axisB sh first := hbB.1; omega⟩
      obtain ⟨n, hn⟩ : ∃ n : Nat, axisN sh first = (n : Int) := ⟨(axisN sh first).toNat, by have : 0 ≤ axisN sh first := hbN.1; omega⟩
      obtain ⟨A, hA⟩ : ∃ A : Nat, axisA sh first = (A : Int) := ⟨(axisA sh first).toNat, by have : 0 ≤ axisA sh first := hbA.1; omega⟩
      have hBs : B ≤ 10000 := by have : axisB sh first ≤ 10000 := hbB.2; omega
      have hns : n ≤ 10000 := by have : axisN sh first ≤ 10000 := hbN.2; omega
      have hAs : A ≤ 10000 := by have : axisA sh first ≤ 10000 := hbA.2; omega
      have hall : B * n * A = n2 := by
        have e := axis_all sh first (unhide HNE)
        rw [hB, hn, hA, hPA, unhide hl2] at e
        exact_mod_cast e
      have hn2s : n2 ≤ 10000 := by have := hSI.bd.2; rw [hPA, unhide hl2] at this; omega
      have HSI := hide hSI
      have HAX : Hid (axisB sh first = B ∧ axisN sh first = n ∧ axisA sh first = A) := ⟨hB, hn, hA⟩
      have HALL := hide hall
      clear hSI hPA hbB hbN hbA hB hn hA hall
      go_wp2_with fail
      refine (l4Axis_any _ _ _ sh first _ ((unhide H1).below (Nat.le_refl _) (unhide HB1)) (unhide HSI) (by omega)).mono ?_
      rw [(unhide HAX).1, (unhide HAX).2.1, (unhide HAX).2.2]
      rintro e w2 ⟨rfl, hb2⟩
      have D4 := hide ((unhide C4).below (Nat.le_refl _) hb2)
      have D6 := hide ((unhide C6).below (Nat.le_refl _) hb2)
      have HB2 := hide ((unhide HB1).trans (hb2.mono (unhide HB1).size))
      clear hb2 C4 C6 HB1 x0 x1 x2 x3 x4 x5 x6 w1
      obtain ⟨x0, x1, x2, x3, x4, x5, x6⟩ := (unhide D4).all
      go_upto_region 6 with fail
      go_cut [48] (fun b wx => w2 = wx ∧ b = .bool (c && decide (1 < axisN sh first)))
      case first =>
        cases c
        · go_wp2
          go_meet
          case rel => exact ⟨rfl, rfl⟩
        · go_wp2
          go_meet
          case rel => exact ⟨rfl, by rw [(unhide HAX).2.1]; rfl⟩
      case rest =>
        obtain ⟨rfl, rfl⟩ := hcut
        obtain ⟨bad, hbad⟩ : ∃ r, (c && decide (1 < axisN sh first)) = r := ⟨_, rfl⟩
        rw [hbad]
        have HBD := hide hbad
        clear hbad
        cases bad with
        | true =>
          have HS := hide (scan_char (unhide HR1) (unhide HOP) (unhide HNE) (unhide HBD))
          go_wp2_with fail
          refine (l4None_any _).mono ?_
          rintro e w9 ⟨rfl, hb9⟩
          obtain ⟨q0, q1, q2, q3, q4, q5, q6⟩ := ((unhide D6).below (Nat.le_refl _) hb9).all
          have hB9 := hide (((unhide HB2)).trans (hb9.mono ((unhide HB2)).size))
          clear hb9 D4 D6 HB2 x0 x1 x2 x3 x4 x5 x6
          go_wp2
          refine bodyPost_ret (v := .tuple #[.agg #[.bool false, .slice none 0 0, .slice none 0 0], .int .i64 3]) (by simp [results, Tryz.results36, go_sem, q0, q1, q2]) rfl ?_
          rw [unhide HS]
          exact ⟨none, 0, 0, none, 0, 0, rfl, row_nil _ _, row_nil _ _, (((unhide hB9).setCell (by simp <;> omega) _).setCell (by simp <;> omega) _).setCell (by simp <;> omega) _⟩
        | false =>
          obtain ⟨f, hf⟩ : ∃ f : Nat → Int × Int, f = fun k => foldR op ((lineOf dt (k / A / n) n A (k % A)).take (k / A % n + 1)) := ⟨_, rfl⟩
          have HGO : Hid (scan op c sh dt first = gatherAns c sh f (B * n * A)) := by
            show _ = _
            rw [scan_go (unhide HR1) (unhide HOP) (unhide HNE) (unhide HBD) B n A (unhide HAX).1 (unhide HAX).2.1 (unhide HAX).2.2, hf]
          have HFK : Hid (∀ P I Q, I < n → Q < A → f ((P * n + I) * A + Q) = foldR op ((lineOf dt P n A Q).take (I + 1))) := by
            intro P I Q hI hQ
            rw [hf]
            have e1 : ((P * n + I) * A + Q) / A = P * n + I := by rw [Nat.mul_comm, Nat.mul_add_div (by omega), Nat.div_eq_of_lt hQ, Nat.add_zero]
            have e2 : ((P * n + I) * A + Q) % A = Q := by rw [Nat.mul_comm, Nat.mul_add_mod, Nat.mod_eq_of_lt hQ]
            have e3 : (P * n + I) / n = P := by rw [Nat.mul_comm, Nat.mul_add_div (by omega), Nat.div_eq_of_lt hI, Nat.add_zero]
            have e4 : (P * n + I) % n = I := by rw [Nat.mul_comm, Nat.mul_add_mod, Nat.mod_eq_of_lt hI]
            simp only [e1, e2, e3, e4]
          have HV1 := hide (arr_bd (unhide HR1))
          clear hf HBD HAX
          have hz6 := (unhide D6).lt
          go_upto_region 8 with fail
          go_cut [11] (fun r wx => Laid w2 c n1 sh r wx)
          case first =>
            have HKEEP : ∀ wx, Below w2.heap.size w2 wx → Below w2.heap.size w2 wx ∧ wx.cell? ⟨w.heap.size, 0, none⟩ = some (.bool c) ∧ wx.cell? ⟨w.heap.size, 1, none⟩ = some (.slice (some ⟨ba, oa, none⟩) n1 c1) := fun wx hwx => ⟨hwx, ((unhide D4).below (Nat.le_refl _) hwx).cells.1, ((unhide D4).below (Nat.le_refl _) hwx).cells.2.1⟩
            go_region_held (fun wx => Below w2.heap.size w2 wx ∧ wx.cell? ⟨w.heap.size, 0, none⟩ = some (.bool c) ∧ wx.cell? ⟨w.heap.size, 1, none⟩ = some (.slice (some ⟨ba, oa, none⟩) n1 c1)) (first | (refine HKEEP _ ?_; first | exact hKA | exact (Below.refl _ _).drew | (repeat (first | exact hKA | exact Below.refl _ _ | refine Below.drew ?_ | refine Below.alloc ?_ (by first | omega | (simp <;> omega)) _ | refine Below.setCell ?_ (by first | omega | (simp <;> omega)) _))))
              (first
              | (go_at_call 56; go_loud (refine (l3Ints_any _ _ _ sh _ ((unhide H1).below (Nat.le_refl _) (by repeat (first | exact unhide HB2 | refine Below.drew ?_ | refine Below.alloc ?_ (by have := (unhide HB2).size; simp <;> omega) _)))).mono ?_); rintro e wA ⟨ash, csh, rfl, hOA, hbA⟩; go_loud (have hKA : Below w2.heap.size w2 wA := (by refine Below.trans ?_ (hbA.mono (by first | omega | (simp <;> omega))); repeat (first | exact Below.refl _ _ | refine Below.drew ?_ | refine Below.alloc ?_ (by first | omega | (simp <;> omega)) _))); have hsA := hKA.size; (first | (have hP5 := (Box.new _ _ _ _).drew.below (Nat.le_refl _) hbA; obtain ⟨t0, t1, t2, t3, t4, t5, t6⟩ := hP5.free'; (try simp at t0 t1 t2 t3 t4 t5 t6)) | (have hP5 := ((Box.new _ _ _ _).alloc _).drew.below (Nat.le_refl _) hbA; obtain ⟨t0, t1, t2, t3, t4, t5, t6⟩ := hP5.free'; (try simp at t0 t1 t2 t3 t4 t5 t6)) | skip); (first | have hQ5 := (Blk.new _).drew.below (Nat.le_refl _) hbA | have hQ5 := ((Blk.new _).alloc _).drew.below (Nat.le_refl _) hbA | skip)))
            all_goals go_wp2_with fail
            all_goals have HOW : Own wA w2.heap.size ash n1 sh := hOA.mono (by first | exact Nat.le_refl _ | (simp <;> omega))
            all_goals (go_meet; case rel => first
              | with_reducible exact laid_cbz HOW hKA
              | with_reducible exact laid_czb HOW hKA
              | with_reducible exact laid_bcz HOW hKA hQ5 (Nat.le_refl _) (fun x hx => by have := hOA.low hx; simp at this; omega)
              | with_reducible exact laid_zc HOW hKA (by simpa using hP5) (by first | exact Nat.le_refl _ | omega) (by simpa using hQ5) (by first | exact Nat.le_refl _ | omega) (fun x hx => by have := hOA.low hx; simp at this; omega)
              | with_reducible exact laid_zcb HOW hKA (by simpa using hP5) (by first | exact Nat.le_refl _ | omega))
          case rest =>
            obtain ⟨w3, hw3⟩ : ∃ x, x = wc := ⟨_, rfl⟩
            subst hw3
            obtain ⟨p, g0, ash, csh, rfl, hbx, hblk, hO, hb3, hp, hg, hne⟩ := hcut
            have hst0 := hide (Stage.start f hbx hblk hO hb3 hp hg hne)
            have HW3 := hide ((unhide HB2).trans (hb3.mono (unhide HB2).size))
            have hB2s := (unhide HB2).size
            have hz4 := (unhide D4).lt
            clear hbx hblk hO hb3 hg hne x0 x1 x2 x3 x4 x5 x6
            obtain ⟨i0, hi, hz0, hz1, hz2⟩ := info_parts info_int
            go_wp2_with fail
            go_loopw [12] (fun i wr => ∃ P g cap, P ≤ B ∧ i = .int .i64 (P : Nat) ∧ Hid (Stage w2 p c ash n1 csh sh f (P * n * A) wr g cap)) (fun i _ => B - (intOf i).toNat)
            case atStart =>
              refine ⟨0, g0, 0, Nat.zero_le _, rfl, ?_⟩
              rw [Nat.zero_mul, Nat.zero_mul]
              exact hst0
            case round =>
              obtain ⟨P, g, cap, hP, rfl, hst⟩ := hrel
              clear hst0
              by_cases hlt : P < B
              · go_wp2_with fail
                go_loopw [13] (fun i wx => ∃ I g cap, I ≤ n ∧ i = .int .i64 (I : Nat) ∧ Hid (Stage w2 p c ash n1 csh sh f ((P * n + I) * A) wx g cap)) (fun i _ => n - (intOf i).toNat)
                case atStart => exact ⟨0, g, cap, Nat.zero_le _, rfl, by rw [Nat.add_zero]; exact hst⟩
                case round =>
                  clear hst
                  obtain ⟨I, g, cap, hI, rfl, hst⟩ := hrel
                  by_cases hilt : I < n
                  · go_wp2_with fail
                    go_loopw [14] (fun i wx => ∃ Q g cap, Q ≤ A ∧ i = .int .i64 (Q : Nat) ∧ Hid (Stage w2 p c ash n1 csh sh f ((P * n + I) * A + Q) wx g cap)) (fun i _ => A - (intOf i).toNat)
                    case atStart => exact ⟨0, g, cap, Nat.zero_le _, rfl, hst⟩
                    case round =>
                      clear hst
                      obtain ⟨Q, g, cap, hQ, rfl, hst⟩ := hrel
                      by_cases hqlt : Q < A
                      · obtain ⟨wy, hwy⟩ : ∃ x, x = wr := ⟨_, rfl⟩
                        subst hwy
                        have HWy := hide ((unhide HB2).trans ((unhide hst).low.mono hB2s))
                        obtain ⟨x0, x1, x2, x3, x4, x5, x6⟩ := ((unhide D4).low hz4 (unhide hst).low).all
                        have hfk0 := unhide HFK P I Q hilt hqlt
                        obtain ⟨r, hr⟩ : ∃ r, foldR op ((lineOf dt P n A Q).take (I + 1)) = r := ⟨_, rfl⟩
                        obtain ⟨r1, r2⟩ := r
                        rw [hr] at hfk0
                        have HFQ := hide hfk0
                        have HRR := hide hr
                        clear hr hfk0
                        go_wp2_with fail
                        refine (l4Line_any c _ _ n2 _ P n A Q dt _ ((unhide H2).below (Nat.le_refl _) (unhide HWy)) (fun i hi => line_in (unhide HALL) hlt hqlt hi) (by omega) hns hAs (by omega) hn2s).mono ?_
                        rintro e w5 ⟨al, cl, rfl, hOL, hb5, hcl⟩
                        have hst5 := hide ((unhide hst).below hb5)
                        have HOL := hide hOL
                        obtain ⟨bl, ol, rfl⟩ : ∃ b o, al = some ⟨b, o, none⟩ := by
                          rcases hOL.at_ with h0 | ⟨b, o, e, _⟩
                          · omega
                          · exact ⟨b, o, e⟩
                        clear hb5 hst HWy hOL x0 x1 x2 x3 x4 x5 x6
                        go_wp2_with fail
                        refine (l4Fold_any op _ (I + 1) _ ((lineOf dt P n A Q).take (I + 1)) _ (row_head (unhide HOL).row (by omega)) (unhide HIN) (take_bd (line_bd (unhide HV1) P n A Q) _)).mono ?_
                        rw [unhide HRR]
                        rintro e w6 ⟨rfl, hb6⟩
                        have hst6 := (unhide hst5).below hb6
                        clear hb6 hst5 HOL
                        have G6 := hide ((unhide D6).low hz6 hst6.low)
                        have HW6 := hide ((unhide HB2).trans (hst6.low.mono hB2s))
                        by_cases hcode : r2 = 0
                        · subst hcode
                          have hfk := unhide HFQ
                          obtain ⟨z0, z1, z2, z3, z4, z5, z6⟩ := hst6.box.all
                          have hown := hst6.owns
                          have hlow := hst6.low.size
                          have hkb : (P * n + I) * A + Q < n2 := line_in (unhide HALL) hlt hqlt hilt
                          go_wp2_with (at_builtin; refine wpList_append_lies _ rfl _ _ 23 rfl w2.heap.size 3 i0 (.int .i64 0) 1 8 Tryz.underlying23 hi hz0 hz1 hz2 rfl (by decide) _ _ _ rfl (hown.alloc _) ⟨w6.heap.size, 0, none⟩ 1 1 [.int .i64 r1] rfl rfl (cells_new _ _) (one_one _) (by omega) (by unfold maxLen; omega) (by omega) (by have := hlow; simp; omega) (w6.heap.size + 1) (by simp) ?_; intro g' cap' w7 hown' hgrow hat hlt7; obtain ⟨hb7, hst7⟩ := hst6.push _ hfk hown' hgrow hat; obtain ⟨z0', z1', z2', z3', z4', z5', z6'⟩ := hb7.all; clear hgrow hat hown')
                          go_roundw
                          case rel => exact ⟨Q + 1, g', cap', by omega, by go_num, hst7⟩
                          case measure => simp [intOf]; omega
                        · have HS : Hid (scan op c sh dt first = noAns r2) := by
                            show _ = _
                            have hkk : (P * n + I) * A + Q < B * n * A := by rw [unhide HALL]; exact line_in (unhide HALL) hlt hqlt hilt
                            have := gather_bad (c := c) (sh := sh) hst6.code hkk (by rw [unhide HFQ]; exact hcode)
                            rw [unhide HGO, this, unhide HFQ]
                          have hcb : (r2 != 0) = true := by simp [hcode]
                          clear hcode hst6
                          go_wp2_with fail
                          refine (l4None_any _).mono ?_
                          rintro e w9 ⟨rfl, hb9⟩
                          obtain ⟨q0, q1, q2, q3, q4, q5, q6⟩ := ((unhide G6).below (Nat.le_refl _) hb9).all
                          have hB9 := hide (((unhide HW6)).trans (hb9.mono ((unhide HW6)).size))
                          clear hb9 G6 HW6
                          go_wp2
                          refine bodyPost_ret (v := .tuple #[.agg #[.bool false, .slice none 0 0, .slice none 0 0], .int .i64 r2]) (by simp [results, Tryz.results36, go_sem, q0, q1, q2]) rfl ?_
                          rw [unhide HS]
                          exact ⟨none, 0, 0, none, 0, 0, rfl, row_nil _ _, row_nil _ _, (((unhide hB9).setCell (by simp <;> omega) _).setCell (by simp <;> omega) _).setCell (by simp <;> omega) _⟩
                      · have hQA : Q = A := by omega
                        subst hQA
                        go_wp2_with fail
                        go_roundw
                        case rel => exact ⟨I + 1, g, cap, by omega, by go_num, by rw [← Nat.add_assoc, Nat.add_mul, Nat.one_mul]; exact hst⟩
                        case measure => simp [intOf]; omega
                  · have hIn : I = n := by omega
                    subst hIn
                    go_wp2_with fail
                    go_roundw
                    case rel => exact ⟨P + 1, g, cap, by omega, by go_num, by rw [Nat.add_mul P 1, Nat.one_mul]; exact hst⟩
                    case measure => simp [intOf]; omega
              · have hPB : P = B := by omega
                subst hPB
                have HS : Hid (scan op c sh dt first = ⟨c, sh, vals f (P * n * A), 0⟩) := (unhide HGO).trans (gather_good (unhide hst).code)
                have hkb : P * n * A ≤ 10000 := by rw [unhide HALL]; exact hn2s
                obtain ⟨ad', cd, hv, hD⟩ := Own.of_owns (unhide hst).owns (by omega)
                cases hv
                obtain ⟨z0, z1, z2, z3, z4, z5, z6⟩ := (unhide hst).box.all
                have G6 := hide ((unhide D6).low hz6 (unhide hst).low)
                obtain ⟨q0, q1, q2, q3, q4, q5, q6⟩ := (unhide G6).all
                have HW6 := hide ((unhide HB2).trans ((unhide hst).low.mono hB2s))
                have HO6 := hide (unhide hst).own
                have HD := hide hD
                clear hst hD HGO HFK
                go_wp2
                refine bodyPost_ret (v := .tuple #[.agg #[.bool c, .slice ash n1 csh, .slice (some ⟨g, 0, none⟩) (P * n * A) cap], .int .i64 0]) (by simp [results, Tryz.results36, go_sem, q0, q1, q2]) rfl ?_
                rw [unhide HS]
                refine ⟨ash, n1, csh, some ⟨g, 0, none⟩, P * n * A, cap, rfl, ?_, ?_, (((unhide HW6).setCell (by simp <;> omega) _).setCell (by simp <;> omega) _).setCell (by simp <;> omega) _⟩
                · exact (unhide HO6).row.sets (unhide G6) _ _ _
                · exact (unhide HD).row.sets (unhide G6) _ _ _


end Go.Proofs.YtkgcmpmgaghdhaaGreatDoor
namespace Go.Proofs.YtkgcmpmgaghdhaaGreatDoor
open Go.RowKit

set_option maxHeartbeats 400000 in
theorem l3Same_any (a b : Option Addr) (n m ca cb : Nat) (xs ys : List Int) (w : World) (hx : Row w a n xs) (hy : Row w b m ys) :
    Calls Tryz.prog 75 #[.slice a n ca, .slice b m cb] w fun e w' => e = .returned (.bool (decide (xs = ys))) ∧ ∃ q, w' = w.drewN q := by
  obtain ⟨hxl, hxs, hxa⟩ := hx
  obtain ⟨hyl, hys, hya⟩ := hy
  by_cases hne : n = m
  · subst hne
    have hn : ((n : Int) != (n : Int)) = false := by simp
    go_enter Tryz.func75, Tryz.ntmps75
    go_wp2
    go_loopw [5] (fun i wr => ∃ k : Nat, k ≤ n ∧ i = .int .i64 k ∧ xs.take k = ys.take k ∧ ∃ q, wr = w.drewN q) (fun i _ => n - (intOf i).toNat)
    case atStart => exact ⟨0, Nat.zero_le _, rfl, rfl, 0, rfl⟩
    case round =>
      obtain ⟨k, hk, rfl, htk, q, rfl⟩ := hrel
      by_cases hlt : k < n
      · have ha : ∃ b off, a = some ⟨b, off, none⟩ ∧ w.cell? ⟨b, off + k, none⟩ = some (.int .i64 (xs.getD k 0)) := by
          rcases hxa with h0 | ⟨b, off, rfl, hlt', hc⟩
          · omega
          · exact ⟨b, off, rfl, hc k hlt⟩
        have hb : ∃ b' off, b = some ⟨b', off, none⟩ ∧ w.cell? ⟨b', off + k, none⟩ = some (.int .i64 (ys.getD k 0)) := by
          rcases hya with h0 | ⟨b, off, rfl, hlt', hc⟩
          · omega
          · exact ⟨b, off, rfl, hc k hlt⟩
        obtain ⟨b1, o1, rfl, hc1⟩ := ha
        obtain ⟨b2, o2, rfl, hc2⟩ := hb
        clear hxa hya
        obtain ⟨x, hx⟩ : ∃ x, x = xs.getD k 0 := ⟨_, rfl⟩
        obtain ⟨y, hy⟩ : ∃ y, y = ys.getD k 0 := ⟨_, rfl⟩
        rw [← hx] at hc1
        rw [← hy] at hc2
        have HX : Hid (x = xs.getD k 0) := hx
        have HY : Hid (y = ys.getD k 0) := hy
        have HT : Hid (xs.take k = ys.take k) := htk
        have HL : Hid (xs.length = n ∧ ys.length = n) := ⟨hxl, hyl⟩
        clear hx hy htk hxl hyl
        by_cases hxy : x = y
        · have hb : (x != y) = false := by simp [hxy]
          have HXY : Hid (x = y) := hxy
          clear hxy
          go_wp2
          go_quiet (fail)
          go_wp2
          go_roundw
          case rel => exact ⟨k + 1, by omega, by go_num, take_step HL.out.1 HL.out.2 hlt HT.out (HX.out.symm.trans (HXY.out.trans HY.out)), _, by first | rfl | exact World.drewN_drewN _ _ _⟩
          case measure => simp [intOf]; omega
        · have hb : (x != y) = true := by simp [hxy]
          have HN : Hid (¬ xs = ys) := fun e => hxy (by rw [HX.out, HY.out, e])
          clear hxy
          go_wp2
          go_quiet (fail)
          go_wp2
          go_ret
          exact ⟨ret_bool (decide_eq_false HN.out).symm, _, World.drewN_drewN _ _ _⟩
      · have hkn : k = n := by omega
        have HE : Hid (xs = ys) := by
          show xs = ys
          rwa [List.take_of_length_le (by omega), List.take_of_length_le (by omega)] at htk
        clear htk
        subst hkn
        go_wp2
        go_ret
        exact ⟨ret_bool (decide_eq_true HE.out).symm, _, rfl⟩
  · have hn : ((n : Int) != (m : Int)) = true := by simp; omega
    have HN : Hid (¬ xs = ys) := fun e => hne (by rw [← hxl, ← hyl, e])
    clear hne
    go_enter Tryz.func75, Tryz.ntmps75
    go_wp2
    go_ret
    exact ⟨ret_bool (decide_eq_false HN.out).symm, 0, rfl⟩

theorem l3Same_eq (a b : Option Addr) (n m ca cb : Nat) (xs ys : List Int) (w : World) (hx : Row w a n xs) (hy : Row w b m ys) (r : Bool) (hr : Hid (decide (xs = ys) = r)) :
    Calls Tryz.prog 75 #[.slice a n ca, .slice b m cb] w fun e w' => e = .returned (.bool r) ∧ ∃ q, w' = w.drewN q := by
  rw [← hr.out]; exact l3Same_any a b n m ca cb xs ys w hx hy

end Go.Proofs.YtkgcmpmgaghdhaaGreatDoor
namespace Go.Proofs.YtkgcmpmgaghdhaaGreatDoor
open Go.RowKit

theorem scalar2_bad1 {op : Int} {c d : Bool} {sh dt sh' dt' : List Int} (h : arrOk c sh dt = false) : scalar2 op c d sh dt sh' dt' = noAns 3 := by unfold scalar2; rw [if_neg (by simp [h])]
theorem scalar2_bad2 {op : Int} {c d : Bool} {sh dt sh' dt' : List Int} (h : arrOk d sh' dt' = false) : scalar2 op c d sh dt sh' dt' = noAns 3 := by unfold scalar2; rw [if_neg (by simp [h])]
theorem scalar2_bad3 {op : Int} {c d : Bool} {sh dt sh' dt' : List Int} (h : ¬ (1 ≤ op ∧ op ≤ 16)) : scalar2 op c d sh dt sh' dt' = noAns 3 := by unfold scalar2; rw [if_neg (by simp [opIn, h])]

/-- What is left of Scalar2 behind its first test. -/
def scalar2Rest (op : Int) (c d wide tall : Bool) (sh dt sh' dt' : List Int) : Ans :=
  if (!wide && !tall) = true ∧ sh.length ≠ sh'.length then noAns 4
  else if (!wide && !tall) = true ∧ sh ≠ sh' then noAns 5
  else if (c || d) = true ∧ opEq op = false then noAns 3
  else gatherAns false (if wide then sh' else sh) (fun i => elemOf op c dt (i % dt.length) d dt' (i % dt'.length)) (countOf (if wide then sh' else sh)).toNat

theorem scalar2_rest {op : Int} {c d : Bool} {sh dt sh' dt' : List Int} (h1 : arrOk c sh dt = true) (h2 : arrOk d sh' dt' = true) (h3 : 1 ≤ op ∧ op ≤ 16) (n1 n2 m1 m2 : Nat) (l1 : sh.length = n1) (l2 : dt.length = n2) (l3 : sh'.length = m1) (l4 : dt'.length = m2) :
    scalar2 op c d sh dt sh' dt' = scalar2Rest op c d (wideB n1 n2 m1 m2) (decide (m2 = 1) && !(wideB n1 n2 m1 m2)) sh dt sh' dt' := by
  subst l1 l2 l3 l4
  unfold scalar2; rw [if_pos ⟨h1, h2, decide_eq_true h3⟩]; rfl

theorem rest_rank {op : Int} {c d : Bool} {sh dt sh' dt' : List Int} (h : sh.length ≠ sh'.length) : scalar2Rest op c d false false sh dt sh' dt' = noAns 4 := by unfold scalar2Rest; rw [if_pos ⟨rfl, h⟩]
theorem rest_len {op : Int} {c d : Bool} {sh dt sh' dt' : List Int} (h : sh.length = sh'.length) (h2 : sh ≠ sh') : scalar2Rest op c d false false sh dt sh' dt' = noAns 5 := by unfold scalar2Rest; rw [if_neg (fun e => e.2 h), if_pos ⟨rfl, h2⟩]

/-- The shape of the answer, where there is one. -/
def Fits (wide tall : Bool) (sh sh' shp : List Int) : Prop := (wide = true ∧ shp = sh') ∨ (wide = false ∧ tall = true ∧ shp = sh) ∨ (wide = false ∧ tall = false ∧ shp = sh ∧ sh = sh')

theorem fits_if {op : Int} {c d wide tall : Bool} {sh dt sh' dt' shp : List Int} (h : Fits wide tall sh sh' shp) : scalar2Rest op c d wide tall sh dt sh' dt' = if (c || d) = true ∧ opEq op = false then noAns 3 else gatherAns false shp (fun i => elemOf op c dt (i % dt.length) d dt' (i % dt'.length)) (countOf shp).toNat := by
  rcases h with ⟨rfl, rfl⟩ | ⟨rfl, rfl, rfl⟩ | ⟨rfl, rfl, rfl, rfl⟩ <;> simp [scalar2Rest]

theorem rest_char {op : Int} {c d wide tall : Bool} {sh dt sh' dt' shp : List Int} (h : Fits wide tall sh sh' shp) (h2 : ((c || d) && !opEq op) = true) : scalar2Rest op c d wide tall sh dt sh' dt' = noAns 3 := by
  rw [fits_if h, if_pos (by simpa using h2)]
theorem rest_go {op : Int} {c d wide tall : Bool} {sh dt sh' dt' shp : List Int} (h : Fits wide tall sh sh' shp) (h2 : ((c || d) && !opEq op) = false) (n2 m2 : Nat) (l2 : dt.length = n2) (l4 : dt'.length = m2) : scalar2Rest op c d wide tall sh dt sh' dt' = gatherAns false shp (fun i => elemOf op c dt (i % n2) d dt' (i % m2)) (countOf shp).toNat := by
  subst l2 l4
  rw [fits_if h, if_neg (fun e => by simp [e.1, e.2] at h2)]

theorem count_of {c : Bool} {sh dt : List Int} (h : arrOk c sh dt = true) : countOf sh = dt.length := by
  unfold arrOk at h; simp only [Bool.and_eq_true, decide_eq_true_eq] at h; exact h.2.1

/-- Where there are elements to be reckoned both arguments have some, and there are not too many. -/
theorem fits_pos {c d wide tall : Bool} {sh dt sh' dt' shp : List Int} (h : Fits wide tall sh sh' shp) (hw : wideB sh.length dt.length sh'.length dt'.length = wide) (ht : (decide (dt'.length = 1) && !wide) = tall) (h1 : arrOk c sh dt = true) (h2 : arrOk d sh' dt' = true) :
    0 ≤ countOf shp ∧ countOf shp ≤ 10000 ∧ (0 < countOf shp → 0 < dt.length ∧ 0 < dt'.length) := by
  have e1 := count_of h1
  have e2 := count_of h2
  have b1 := count_bd sh
  have b2 := count_bd sh'
  rcases h with ⟨rfl, rfl⟩ | ⟨rfl, rfl, rfl⟩ | ⟨rfl, rfl, rfl, rfl⟩
  · simp [wideB] at hw; omega
  · simp at ht; omega
  · omega

set_option maxRecDepth 20000 in
set_option maxHeartbeats 8000000 in
theorem Scalar2_any (op : Int) (c d : Bool) (a1 a2 b1 b2 : Option Addr) (n1 n2 m1 m2 c1 c2 d1 d2 : Nat) (sh dt sh' dt' : List Int) (w : World) (h1 : Row w a1 n1 sh) (h2 : Row w a2 n2 dt) (k1 : Row w b1 m1 sh') (k2 : Row w b2 m2 dt') :
    Calls Tryz.prog 22 #[.int .i64 op, .agg #[.bool c, .slice a1 n1 c1, .slice a2 n2 c2], .agg #[.bool d, .slice b1 m1 d1, .slice b2 m2 d2]] w (GivesRow w (scalar2 op c d sh dt sh' dt')) := by
  have hl1 := hide h1.len
  have hl2 := hide h2.len
  have hl3 := hide k1.len
  have hl4 := hide k2.len
  have hs1 := h1.small
  have hs2 := h2.small
  have hs3 := k1.small
  have hs4 := k2.small
  have H1 := hide h1
  have H2 := hide h2
  have K1 := hide k1
  have K2 := hide k2
  clear h1 h2 k1 k2
  obtain ⟨r1, hr1⟩ : ∃ r, arrOk c sh dt = r := ⟨_, rfl⟩
  obtain ⟨r2, hr2⟩ : ∃ r, arrOk d sh' dt' = r := ⟨_, rfl⟩
  have HR1 := hide hr1
  have HR2 := hide hr2
  clear hr1 hr2
  go_enter Tryz.func22, Tryz.ntmps22
  go_wp2_with fail
  refine (ArrayOk_eq _ _ _ _ _ _ _ sh dt _ ((((unhide H1).alloc _).alloc _).alloc _) ((((unhide H2).alloc _).alloc _).alloc _) _ HR1).mono ?_
  rintro e w1 ⟨rfl, hb1⟩
  obtain ⟨B4, B5, B6, hB1⟩ := boxes3 hb1
  have hz1 := B6.lt
  clear hb1
  obtain ⟨x0, x1, x2, x3, x4, x5, x6⟩ := B4.all
  obtain ⟨y0, y1, y2, y3, y4, y5, y6⟩ := B5.all
  cases r1 with
  | false =>
    have HS := hide (scalar2_bad1 (op := op) (d := d) (sh' := sh') (dt' := dt') (unhide HR1))
    go_wp2_with fail
    refine (l4None_any _).mono ?_
    rintro e w9 ⟨rfl, hb9⟩
    obtain ⟨q0, q1, q2, q3, q4, q5, q6⟩ := (B6.below (Nat.le_refl _) hb9).all
    have hB9 := hide ((hB1).trans (hb9.mono (hB1).size))
    clear hb9 hB1 B4 B5 B6 hz1 x0 x1 x2 x3 x4 x5 x6 y0 y1 y2 y3 y4 y5 y6
    go_wp2
    refine bodyPost_ret (v := .tuple #[.agg #[.bool false, .slice none 0 0, .slice none 0 0], .int .i64 3]) (by simp [results, Tryz.results22, go_sem, q0, q1, q2]) rfl ?_
    rw [unhide HS]
    exact ⟨none, 0, 0, none, 0, 0, rfl, row_nil _ _, row_nil _ _, (((unhide hB9).setCell (by simp <;> omega) _).setCell (by simp <;> omega) _).setCell (by simp <;> omega) _⟩
  | true =>
    go_wp2_with fail
    refine (ArrayOk_eq _ _ _ _ _ _ _ sh' dt' _ ((unhide K1).below (Nat.le_refl _) hB1) ((unhide K2).below (Nat.le_refl _) hB1) _ HR2).mono ?_
    rintro e w2 ⟨rfl, hb2⟩
    have C4 := hide (B4.below (Nat.le_refl _) hb2)
    have C5 := hide (B5.below (Nat.le_refl _) hb2)
    have C6 := hide (B6.below (Nat.le_refl _) hb2)
    have hB2 := hide (hB1.trans (hb2.mono hB1.size))
    clear hb2 hB1 B4 B5 B6 hz1 x0 x1 x2 x3 x4 x5 x6 y0 y1 y2 y3 y4 y5 y6 w1
    cases r2 with
    | false =>
      have HS := hide (scalar2_bad2 (op := op) (c := c) (sh := sh) (dt := dt) (unhide HR2))
      go_wp2_with fail
      refine (l4None_any _).mono ?_
      rintro e w9 ⟨rfl, hb9⟩
      obtain ⟨q0, q1, q2, q3, q4, q5, q6⟩ := ((unhide C6).below (Nat.le_refl _) hb9).all
      have hB9 := hide (((unhide hB2)).trans (hb9.mono ((unhide hB2)).size))
      clear hb9 C4 C5 C6 hB2
      go_wp2
      refine bodyPost_ret (v := .tuple #[.agg #[.bool false, .slice none 0 0, .slice none 0 0], .int .i64 3]) (by simp [results, Tryz.results22, go_sem, q0, q1, q2]) rfl ?_
      rw [unhide HS]
      exact ⟨none, 0, 0, none, 0, 0, rfl, row_nil _ _, row_nil _ _, (((unhide hB9).setCell (by simp <;> omega) _).setCell (by simp <;> omega) _).setCell (by simp <;> omega) _⟩
    | true =>
      by_cases hop1 : op < 1
      · have HS := hide (scalar2_bad3 (op := op) (c := c) (d := d) (sh := sh) (dt := dt) (sh' := sh') (dt' := dt') (by omega))
        go_wp2_with fail
        refine (l4None_any _).mono ?_
        rintro e w9 ⟨rfl, hb9⟩
        obtain ⟨q0, q1, q2, q3, q4, q5, q6⟩ := ((unhide C6).below (Nat.le_refl _) hb9).all
        have hB9 := hide (((unhide hB2)).trans (hb9.mono ((unhide hB2)).size))
        clear hb9 C4 C5 C6 hB2
        go_wp2
        refine bodyPost_ret (v := .tuple #[.agg #[.bool false, .slice none 0 0, .slice none 0 0], .int .i64 3]) (by simp [results, Tryz.results22, go_sem, q0, q1, q2]) rfl ?_
        rw [unhide HS]
        exact ⟨none, 0, 0, none, 0, 0, rfl, row_nil _ _, row_nil _ _, (((unhide hB9).setCell (by simp <;> omega) _).setCell (by simp <;> omega) _).setCell (by simp <;> omega) _⟩
      by_cases hop2 : 16 < op
      · have HS := hide (scalar2_bad3 (op := op) (c := c) (d := d) (sh := sh) (dt := dt) (sh' := sh') (dt' := dt') (by omega))
        go_wp2_with fail
        refine (l4None_any _).mono ?_
        rintro e w9 ⟨rfl, hb9⟩
        obtain ⟨q0, q1, q2, q3, q4, q5, q6⟩ := ((unhide C6).below (Nat.le_refl _) hb9).all
        have hB9 := hide (((unhide hB2)).trans (hb9.mono ((unhide hB2)).size))
        clear hb9 C4 C5 C6 hB2
        go_wp2
        refine bodyPost_ret (v := .tuple #[.agg #[.bool false, .slice none 0 0, .slice none 0 0], .int .i64 3]) (by simp [results, Tryz.results22, go_sem, q0, q1, q2]) rfl ?_
        rw [unhide HS]
        exact ⟨none, 0, 0, none, 0, 0, rfl, row_nil _ _, row_nil _ _, (((unhide hB9).setCell (by simp <;> omega) _).setCell (by simp <;> omega) _).setCell (by simp <;> omega) _⟩
      have HRS := hide (scalar2_rest (unhide HR1) (unhide HR2) (by omega : 1 ≤ op ∧ op ≤ 16) n1 n2 m1 m2 (unhide hl1) (unhide hl2) (unhide hl3) (unhide hl4))
      have HIN : Hid (opIn op = true) := decide_eq_true (by omega)
      obtain ⟨x0, x1, x2, x3, x4, x5, x6⟩ := (unhide C4).all
      obtain ⟨y0, y1, y2, y3, y4, y5, y6⟩ := (unhide C5).all
      obtain ⟨wide, hwide⟩ : ∃ r, wideB n1 n2 m1 m2 = r := ⟨_, rfl⟩
      have HWD := hide hwide
      clear hwide
      go_upto_region 3 with fail
      go_cut [8] (fun b wx => b = .bool wide ∧ w2 = wx)
      case first =>
        by_cases e1 : n2 = 1
        · have f1 : ((n2 : Int) == 1) = true := by simp [e1]
          by_cases e2 : m2 = 1
          · have f2 : ((m2 : Int) != 1) = false := by simp [e2]
            by_cases e3 : n1 < m1
            · have HE : Hid (wide = true) := by show _ = _; rw [← unhide HWD]; simp [wideB, e1, e3]
              clear e1 e2
              go_wp2
              go_meet
              case rel => exact ⟨by rw [unhide HE], rfl⟩
            · have HE : Hid (wide = false) := by show _ = _; rw [← unhide HWD]; simp [wideB, e2]; omega
              clear e1 e2
              go_wp2
              go_meet
              case rel => exact ⟨by rw [unhide HE], rfl⟩
          · have f2 : ((m2 : Int) != 1) = true := by simp; omega
            have HE : Hid (wide = true) := by show _ = _; rw [← unhide HWD]; simp [wideB, e1, e2]
            clear e1 e2
            go_wp2
            go_meet
            case rel => exact ⟨by rw [unhide HE], rfl⟩
        · have f1 : ((n2 : Int) == 1) = false := by simp; omega
          have HE : Hid (wide = false) := by show _ = _; rw [← unhide HWD]; simp [wideB, e1]
          clear e1
          go_wp2
          go_meet
          case rel => exact ⟨by rw [unhide HE], rfl⟩
      case rest =>
        obtain ⟨rfl, rfl⟩ := hcut
        obtain ⟨tall, htall⟩ : ∃ r, (decide (m2 = 1) && !wide) = r := ⟨_, rfl⟩
        have HTL := hide htall
        clear htall
        go_upto_region 4 with fail
        go_cut [9] (fun b wx => b = .bool tall ∧ w2 = wx)
        case first =>
          by_cases e2 : m2 = 1
          · have f2 : ((m2 : Int) == 1) = true := by simp [e2]
            have HE : Hid ((!wide) = tall) := by show _ = _; rw [← unhide HTL]; simp [e2]
            clear e2
            go_wp2
            go_meet
            case rel => exact ⟨by rw [← unhide HE], rfl⟩
          · have f2 : ((m2 : Int) == 1) = false := by simp; omega
            have HE : Hid (false = tall) := by show _ = _; rw [← unhide HTL]; simp [e2]
            clear e2
            go_wp2
            go_meet
            case rel => exact ⟨by rw [← unhide HE], rfl⟩
        case rest =>
          obtain ⟨rfl, rfl⟩ := hcut
          have HRS' : Hid (scalar2 op c d sh dt sh' dt' = scalar2Rest op c d wide tall sh dt sh' dt') := by show _ = _; rw [unhide HRS, unhide HWD, unhide HTL]
          clear HRS
          have hcase : ∃ (ad : Option Addr) (an ac : Nat) (shp : List Int), (wide = true ∧ tall = false ∧ ad = b1 ∧ an = m1 ∧ ac = d1 ∧ shp = sh') ∨ (wide = false ∧ ad = a1 ∧ an = n1 ∧ ac = c1 ∧ shp = sh) := by
            cases wide
            · exact ⟨a1, n1, c1, sh, .inr ⟨rfl, rfl, rfl, rfl, rfl⟩⟩
            · exact ⟨b1, m1, d1, sh', .inl ⟨rfl, by rw [← unhide HTL]; simp, rfl, rfl, rfl, rfl⟩⟩
          obtain ⟨ad, an, ac, shp, hcase⟩ := hcase
          have HSP : Hid (Row w ad an shp) := by
            rcases hcase with ⟨_, _, rfl, rfl, rfl, rfl⟩ | ⟨_, rfl, rfl, rfl, rfl⟩
            · exact K1
            · exact H1
          go_upto_if 62 with fail
          go_cut [10] (fun b wx => w2 = wx ∧ b = .slice ad an ac)
          case first =>
            rcases hcase with ⟨rfl, _, rfl, rfl, rfl, rfl⟩ | ⟨rfl, rfl, rfl, rfl, rfl⟩
            · go_wp2
              go_meet
              case rel => exact ⟨rfl, rfl⟩
            · go_wp2
              go_meet
              case rel => exact ⟨rfl, rfl⟩
          case rest =>
            obtain ⟨rfl, rfl⟩ := hcut
            go_upto_region 8 with fail
            have HC6 := C6
            go_cut [79] (fun b wx => w2 = wx ∧ b = .bool (!wide && !tall && decide (n1 ≠ m1)))
            case first =>
              cases wide <;> cases tall
              · by_cases e1 : n1 = m1
                · have f1 : ((n1 : Int) != (m1 : Int)) = false := by simp [e1]
                  have HD : Hid (decide (n1 ≠ m1) = false) := by show _ = _; simp [e1]
                  clear e1
                  go_wp2
                  go_meet
                  case rel => exact ⟨rfl, by rw [unhide HD]; rfl⟩
                · have f1 : ((n1 : Int) != (m1 : Int)) = true := by simp; omega
                  have HD : Hid (decide (n1 ≠ m1) = true) := by show _ = _; simp [e1]
                  clear e1
                  go_wp2
                  go_meet
                  case rel => exact ⟨rfl, by rw [unhide HD]; rfl⟩
              all_goals
                go_wp2
                go_meet
                case rel => exact ⟨rfl, rfl⟩
            case rest =>
              obtain ⟨rfl, rfl⟩ := hcut
              obtain ⟨rk, hrk⟩ : ∃ r, (!wide && !tall && decide (n1 ≠ m1)) = r := ⟨_, rfl⟩
              rw [hrk]
              have HRK := hide hrk
              clear hrk
              cases rk with
              | true =>
                have HS : Hid (scalar2 op c d sh dt sh' dt' = noAns 4) := by
                  show _ = _
                  rw [unhide HRS']
                  have := unhide HRK
                  simp at this
                  obtain ⟨⟨h1, h2⟩, h3⟩ := this
                  rw [h1, h2]
                  exact rest_rank (by rw [unhide hl1, unhide hl3]; exact h3)
                go_wp2_with fail
                refine (l4None_any _).mono ?_
                rintro e w9 ⟨rfl, hb9⟩
                obtain ⟨q0, q1, q2, q3, q4, q5, q6⟩ := ((unhide C6).below (Nat.le_refl _) hb9).all
                have hB9 := hide (((unhide hB2)).trans (hb9.mono ((unhide hB2)).size))
                clear hb9 C4 C5 C6 HC6 hB2 x0 x1 x2 x3 x4 x5 x6 y0 y1 y2 y3 y4 y5 y6
                go_wp2
                refine bodyPost_ret (v := .tuple #[.agg #[.bool false, .slice none 0 0, .slice none 0 0], .int .i64 4]) (by simp [results, Tryz.results22, go_sem, q0, q1, q2]) rfl ?_
                rw [unhide HS]
                exact ⟨none, 0, 0, none, 0, 0, rfl, row_nil _ _, row_nil _ _, (((unhide hB9).setCell (by simp <;> omega) _).setCell (by simp <;> omega) _).setCell (by simp <;> omega) _⟩
              | false =>
                clear HC6
                go_upto_region 10 with fail
                go_cut [94] (fun b wx => Below w2.heap.size w2 wx ∧ b = .bool (!wide && !tall && decide (sh ≠ sh')))
                case first =>
                  cases wide <;> cases tall
                  · obtain ⟨r4, hr4⟩ : ∃ r, decide (sh = sh') = r := ⟨_, rfl⟩
                    have HR4 := hide hr4
                    have HD : Hid (decide (sh ≠ sh') = !r4) := by show _ = _; rw [← hr4]; simp
                    clear hr4
                    go_wp2_with (go_at_call 75; refine (l3Same_eq _ _ _ _ _ _ sh sh' _ ((unhide H1).below (Nat.le_refl _) (unhide hB2)) ((unhide K1).below (Nat.le_refl _) (unhide hB2)) r4 HR4).mono ?_; rintro e wq ⟨rfl, q, rfl⟩)
                    go_meet
                    case rel => exact ⟨Below.drewN (Below.refl _ _) _, by rw [unhide HD]; rfl⟩
                  all_goals
                    go_wp2
                    go_meet
                    case rel => exact ⟨Below.refl _ _, rfl⟩
                case rest =>
                  obtain ⟨w3, hw3⟩ : ∃ x, x = wc := ⟨_, rfl⟩
                  subst hw3
                  obtain ⟨hb3, rfl⟩ := hcut
                  have D4 := hide ((unhide C4).below (Nat.le_refl _) hb3)
                  have D5 := hide ((unhide C5).below (Nat.le_refl _) hb3)
                  have D6 := hide ((unhide C6).below (Nat.le_refl _) hb3)
                  have hB3 := hide ((unhide hB2).trans (hb3.mono (unhide hB2).size))
                  clear hb3 C4 C5 C6 hB2 x0 x1 x2 x3 x4 x5 x6 y0 y1 y2 y3 y4 y5 y6
                  obtain ⟨ln, hln⟩ : ∃ r, (!wide && !tall && decide (sh ≠ sh')) = r := ⟨_, rfl⟩
                  rw [hln]
                  have HLN := hide hln
                  clear hln
                  cases ln with
                  | true =>
                    have HS : Hid (scalar2 op c d sh dt sh' dt' = noAns 5) := by
                      show _ = _
                      rw [unhide HRS']
                      have := unhide HLN
                      simp at this
                      obtain ⟨⟨h1, h2⟩, h3⟩ := this
                      have h4 := unhide HRK
                      rw [h1, h2] at h4 ⊢
                      simp at h4
                      exact rest_len (by rw [unhide hl1, unhide hl3]; exact h4) h3
                    go_wp2_with fail
                    refine (l4None_any _).mono ?_
                    rintro e w9 ⟨rfl, hb9⟩
                    obtain ⟨q0, q1, q2, q3, q4, q5, q6⟩ := ((unhide D6).below (Nat.le_refl _) hb9).all
                    have hB9 := hide (((unhide hB3)).trans (hb9.mono ((unhide hB3)).size))
                    clear hb9 D4 D5 D6 hB3
                    go_wp2
                    refine bodyPost_ret (v := .tuple #[.agg #[.bool false, .slice none 0 0, .slice none 0 0], .int .i64 5]) (by simp [results, Tryz.results22, go_sem, q0, q1, q2]) rfl ?_
                    rw [unhide HS]
                    exact ⟨none, 0, 0, none, 0, 0, rfl, row_nil _ _, row_nil _ _, (((unhide hB9).setCell (by simp <;> omega) _).setCell (by simp <;> omega) _).setCell (by simp <;> omega) _⟩

                  | false =>
                    have HF : Hid (Fits wide tall sh sh' shp) := by
                      show Fits _ _ _ _ _
                      have h5 := unhide HLN
                      rcases hcase with ⟨h1, _, _, _, _, h6⟩ | ⟨h1, _, _, _, h6⟩
                      · exact .inl ⟨h1, h6⟩
                      · cases tall
                        · rw [h1] at h5; simp at h5; exact .inr (.inr ⟨h1, rfl, h6, h5⟩)
                        · exact .inr (.inl ⟨h1, rfl, h6⟩)
                    clear hcase HLN HRK
                    obtain ⟨x0, x1, x2, x3, x4, x5, x6⟩ := (unhide D4).all
                    obtain ⟨y0, y1, y2, y3, y4, y5, y6⟩ := (unhide D5).all
                    go_upto_region 12 with fail
                    go_cut [106] (fun b wx => w3 = wx ∧ b = .bool ((c || d) && !opEq op))
                    case first =>
                      cases c <;> cases d
                      all_goals
                        go_wp2_with (go_at_call 76; refine (l4Equal_any _ _).mono ?_; rintro e wq ⟨rfl, rfl⟩)
                        go_meet
                        case rel => exact ⟨rfl, rfl⟩
                    case rest =>
                      obtain ⟨rfl, rfl⟩ := hcut
                      obtain ⟨bad, hbad⟩ : ∃ r, ((c || d) && !opEq op) = r := ⟨_, rfl⟩
                      rw [hbad]
                      have HBD := hide hbad
                      clear hbad
                      cases bad with
                      | true =>
                        have HS := hide ((unhide HRS').trans (rest_char (unhide HF) (unhide HBD)))
                        go_wp2_with fail
                        refine (l4None_any _).mono ?_
                        rintro e w9 ⟨rfl, hb9⟩
                        obtain ⟨q0, q1, q2, q3, q4, q5, q6⟩ := ((unhide D6).below (Nat.le_refl _) hb9).all
                        have hB9 := hide (((unhide hB3)).trans (hb9.mono ((unhide hB3)).size))
                        clear hb9 D4 D5 D6 hB3 x0 x1 x2 x3 x4 x5 x6 y0 y1 y2 y3 y4 y5 y6
                        go_wp2
                        refine bodyPost_ret (v := .tuple #[.agg #[.bool false, .slice none 0 0, .slice none 0 0], .int .i64 3]) (by simp [results, Tryz.results22, go_sem, q0, q1, q2]) rfl ?_
                        rw [unhide HS]
                        exact ⟨none, 0, 0, none, 0, 0, rfl, row_nil _ _, row_nil _ _, (((unhide hB9).setCell (by simp <;> omega) _).setCell (by simp <;> omega) _).setCell (by simp <;> omega) _⟩

                      | false =>
                        obtain ⟨f, hf⟩ : ∃ f : Nat → Int × Int, f = fun i => elemOf op c dt (i % n2) d dt' (i % m2) := ⟨_, rfl⟩
                        have hfp := fits_pos (unhide HF) (by rw [unhide hl1, unhide hl2, unhide hl3, unhide hl4]; exact unhide HWD) (by rw [unhide hl4]; exact unhide HTL) (unhide HR1) (unhide HR2)
                        rw [unhide hl2, unhide hl4] at hfp
                        obtain ⟨N, hN⟩ : ∃ N : Nat, countOf shp = (N : Int) := ⟨(countOf shp).toNat, by omega⟩
                        rw [hN] at hfp
                        have HGO : Hid (scalar2 op c d sh dt sh' dt' = gatherAns false shp f N) := by
                          show _ = _
                          rw [unhide HRS', rest_go (unhide HF) (unhide HBD) n2 m2 (unhide hl2) (unhide hl4), hN, hf, Int.toNat_natCast]
                        have HFK : Hid (∀ k, f k = elemOf op c dt (k % n2) d dt' (k % m2)) := by intro k; rw [hf]
                        obtain ⟨_, hNs, hpos⟩ := hfp
                        have HN := hide hN
                        have HPOS := hide hpos
                        have HV1 := hide (arr_bd (unhide HR1))
                        have HV2 := hide (arr_bd (unhide HR2))
                        clear hf hN hpos HRS' HF HBD HWD HTL
                        obtain ⟨i0, hi, hz0, hz1, hz2⟩ := info_parts info_int
                        go_wp2_with fail
                        refine (l3Ints_opt _ _ _ shp _ ((unhide HSP).below (Nat.le_refl _) (unhide hB3))).mono ?_
                        rintro e w4 ⟨ash, csh, rfl, hO, hb4⟩
                        have E4 := hide ((unhide D4).below (Nat.le_refl _) hb4)
                        have E5 := hide ((unhide D5).below (Nat.le_refl _) hb4)
                        have E6 := hide ((unhide D6).below (Nat.le_refl _) hb4)
                        have HB4 := hide ((unhide hB3).trans (hb4.mono (unhide hB3).size))
                        have HO := hide (hO.mono (B' := w.heap.size) (unhide hB3).size)
                        have HOl : Hid (∀ k, At ash an k → k < w4.heap.size) := fun k hk => hO.row.hi hk
                        have hy3 := (unhide D6).lt
                        have HOp : Hid (∀ k, At ash an k → k ≠ w.heap.size + 2) := fun k hk => by have := hO.low hk; omega
                        have hy4 := (unhide E6).lt
                        have hsp := (unhide HSP).len
                        clear hb4 hB3 D4 D5 D6 hO hy3 x0 x1 x2 x3 x4 x5 x6 y0 y1 y2 y3 y4 y5 y6
                        go_wp2_with (go_at_call 41; refine (l3Count_eq _ _ _ shp _ (by exact ((((unhide HSP).below (Nat.le_refl _) (unhide HB4)).alloc _).alloc _)) _ HN).mono ?_; rintro e wq ⟨rfl, rfl⟩)
                        go_loopw [13] (fun i wr => ∃ (k : Nat) (v : Value), k ≤ N ∧ i = .int .i64 k ∧ Box wr (w4.heap.size + 1) false (.slice ash an csh) v ∧ wr.ownsRow w4.heap.size 3 1 v k ((vals f k).map (Value.int .i64)) ∧ Below w4.heap.size w4 wr ∧ firstCode f k = 0) (fun i _ => N - (intOf i).toNat)
                        case atStart =>
                          refine ⟨0, .slice (some ⟨w4.heap.size, 0, none⟩) 0 0, Nat.zero_le _, rfl, ?_, ?_, ((Below.refl _ _).alloc (Nat.le_refl _) _).alloc (by simp) _, rfl⟩
                          · have := Box.new (w4.alloc (.cells #[] 3)) false (.slice ash an csh) (.slice (some ⟨w4.heap.size, 0, none⟩) 0 0)
                            simpa using this
                          · exact (owns_empty w4).alloc _
                        case round =>
                          obtain ⟨k, v, hk, rfl, hbx, hown, hbl, hgood⟩ := hrel
                          have HW := hide ((unhide HB4).trans (hbl.mono (unhide HB4).size))
                          have F4 := hide ((unhide E4).low (by omega) hbl)
                          have F5 := hide ((unhide E5).low (by omega) hbl)
                          have F6 := hide ((unhide E6).low hy4 hbl)
                          have HO' := hide ((unhide HO).low' (unhide HOl) hbl)
                          have hwr : w4.heap.size ≤ wr.heap.size := hbl.size
                          by_cases hlt : k < N
                          · obtain ⟨hn2, hm2⟩ := unhide HPOS (by omega)
                            obtain ⟨x0, x1, x2, x3, x4, x5, x6⟩ := (unhide F4).all
                            obtain ⟨y0, y1, y2, y3, y4, y5, y6⟩ := (unhide F5).all
                            have hq1 : (k : Int).tmod (n2 : Int) = ((k % n2 : Nat) : Int) := by rw [Int.tmod_eq_emod_of_nonneg (by omega)]; rfl
                            have hq2 : (k : Int).tmod (m2 : Int) = ((k % m2 : Nat) : Int) := by rw [Int.tmod_eq_emod_of_nonneg (by omega)]; rfl
                            have g1 : ((n2 : Int) == 0) = false := by simp; omega
                            have g2 : ((m2 : Int) == 0) = false := by simp; omega
                            obtain ⟨r, hr⟩ : ∃ r, f k = r := ⟨_, rfl⟩
                            obtain ⟨r1, r2⟩ := r
                            have HRR := hide hr
                            have HRE : Hid (elemOf op c dt (k % n2) d dt' (k % m2) = (r1, r2)) := by show _ = _; rw [← unhide HFK k]; exact hr
                            clear hr
                            have HBX := hide hbx
                            have HBL := hide hbl
                            have HG := hide hgood
                            have HOW := hide hown
                            clear hbx hbl hgood hown
                            go_upto_region 19 with fail
                            go_cut [14, 15] (fun v14 v15 wx => v14 = .int .i64 r1 ∧ v15 = .int .i64 r2 ∧ Below wr.heap.size wr wx)
                            case first =>
                              have HKEEP : ∀ wx, Below wr.heap.size wr wx → Below wr.heap.size wr wx ∧ wx.cell? ⟨w.heap.size, 0, none⟩ = some (.bool c) ∧ wx.cell? ⟨w.heap.size, 1, none⟩ = some (.slice a1 n1 c1) ∧ wx.cell? ⟨w.heap.size, 2, none⟩ = some (.slice a2 n2 c2) ∧ wx.cell? ⟨w.heap.size + 1, 0, none⟩ = some (.bool d) ∧ wx.cell? ⟨w.heap.size + 1, 1, none⟩ = some (.slice b1 m1 d1) ∧ wx.cell? ⟨w.heap.size + 1, 2, none⟩ = some (.slice b2 m2 d2) := fun wx hwx => ⟨hwx, ((unhide F4).below (Nat.le_refl _) hwx).cells.1, ((unhide F4).below (Nat.le_refl _) hwx).cells.2.1, ((unhide F4).below (Nat.le_refl _) hwx).cells.2.2, ((unhide F5).below (Nat.le_refl _) hwx).cells.1, ((unhide F5).below (Nat.le_refl _) hwx).cells.2.1, ((unhide F5).below (Nat.le_refl _) hwx).cells.2.2⟩
                              go_region_held (fun wx => Below wr.heap.size wr wx ∧ wx.cell? ⟨w.heap.size, 0, none⟩ = some (.bool c) ∧ wx.cell? ⟨w.heap.size, 1, none⟩ = some (.slice a1 n1 c1) ∧ wx.cell? ⟨w.heap.size, 2, none⟩ = some (.slice a2 n2 c2) ∧ wx.cell? ⟨w.heap.size + 1, 0, none⟩ = some (.bool d) ∧ wx.cell? ⟨w.heap.size + 1, 1, none⟩ = some (.slice b1 m1 d1) ∧ wx.cell? ⟨w.heap.size + 1, 2, none⟩ = some (.slice b2 m2 d2)) (first | exact HKEEP _ hK5 | exact HKEEP _ (Below.refl _ _).drew)
                                (first | (go_at_call 77; refine (l4Elements_any op c d _ _ _ _ n2 m2 _ _ dt dt' (k % n2) (k % m2) _ ((unhide H2).below (Nat.le_refl _) (unhide HW).drew) ((unhide K2).below (Nat.le_refl _) (unhide HW).drew) (Nat.mod_lt _ hn2) (Nat.mod_lt _ hm2) (unhide HIN) (unhide HV1) (unhide HV2) r1 r2 HRE).mono ?_; rintro e w5 ⟨rfl, hb5⟩; have hK5 : Below wr.heap.size wr w5 := (Below.refl _ _).drew.trans (hb5.mono (by simp))))
                              all_goals go_wp2_with fail
                              all_goals (go_meet; case rel => exact ⟨rfl, rfl, hK5⟩)
                            case rest =>
                              obtain ⟨w5, hw5⟩ : ∃ x, x = wc := ⟨_, rfl⟩
                              subst hw5
                              obtain ⟨rfl, rfl, hb5⟩ := hcut
                              have G6 := hide ((unhide F6).below (Nat.le_refl _) hb5)
                              have HW5 := hide ((unhide HW).trans (hb5.mono (unhide HW).size))
                              have HBX5 := hide ((unhide HBX).below (Nat.le_refl _) hb5)
                              have HOW5 := hide (owns_below (unhide HOW) (Nat.le_refl _) hb5)
                              have HBL5 := hide ((unhide HBL).trans (hb5.mono hwr))
                              have HO5 := hide ((unhide HO').below (Nat.le_refl _) hb5)
                              have hwr5 : w4.heap.size ≤ w5.heap.size := (unhide HBL5).size
                              clear hb5 HBX HOW HBL HO' F4 F5 F6 HW x0 x1 x2 x3 x4 x5 x6 y0 y1 y2 y3 y4 y5 y6
                              by_cases hcode : r2 = 0
                              · subst hcode
                                obtain ⟨z0, z1, z2, z3, z4, z5, z6⟩ := (unhide HBX5).all
                                have hown := unhide HOW5
                                go_wp2_with (at_builtin; refine wpList_append_own _ rfl _ _ 23 rfl w4.heap.size 3 i0 (.int .i64 0) 1 8 Tryz.underlying23 hi hz0 hz1 hz2 rfl (by decide) _ _ _ rfl (hown.alloc _) ⟨w5.heap.size, 0, none⟩ 1 1 [.int .i64 r1] rfl rfl (cells_new _ _) (one_one _) (by unfold maxLen; omega) (by omega) (by simp; omega) ?_; intro v1 w6 hown' hgrow hnil; clear hnil; obtain ⟨av, cv, rfl⟩ := owns_slice hown'; have HB := hide (below_append _ hown hwr5 hgrow); have HX6 := hide ((unhide HBX5).grown hown _ hgrow); obtain ⟨z0', z1', z2', z3', z4', z5', z6'⟩ := (unhide HX6).all; clear hgrow)
                                have HN' : Hid (w6.ownsRow w4.heap.size 3 1 (.slice av (k + 1) cv) (k + 1) ((vals f (k + 1)).map (Value.int .i64))) := by
                                  show w6.ownsRow _ _ _ _ _ _
                                  rw [vals_snoc, unhide HRR]
                                  exact hown'
                                go_roundw
                                case rel => exact ⟨k + 1, .slice av (k + 1) cv, by omega, by go_num, (unhide HX6).set2 _, owns_box_set (unhide HN') (unhide HX6) _ _, ((unhide HBL5).trans (unhide HB)).setCell (by simp) _, code_step (unhide HG) (by rw [unhide HRR])⟩
                                case measure => simp [intOf]; omega
                              · have HS : Hid (scalar2 op c d sh dt sh' dt' = noAns r2) := by
                                  show _ = _
                                  have := gather_bad (c := false) (sh := shp) (unhide HG) hlt (by rw [unhide HRR]; exact hcode)
                                  rw [unhide HGO, this, unhide HRR]
                                have hcb : (r2 != 0) = true := by simp [hcode]
                                clear hcode
                                go_wp2_with fail
                                refine (l4None_any _).mono ?_
                                rintro e w9 ⟨rfl, hb9⟩
                                obtain ⟨q0, q1, q2, q3, q4, q5, q6⟩ := ((unhide G6).below (Nat.le_refl _) hb9).all
                                have hB9 := hide (((unhide HW5)).trans (hb9.mono ((unhide HW5)).size))
                                clear hb9 G6 HW5 HO5 HBX5 HOW5 HBL5
                                go_wp2
                                refine bodyPost_ret (v := .tuple #[.agg #[.bool false, .slice none 0 0, .slice none 0 0], .int .i64 r2]) (by simp [results, Tryz.results22, go_sem, q0, q1, q2]) rfl ?_
                                rw [unhide HS]
                                exact ⟨none, 0, 0, none, 0, 0, rfl, row_nil _ _, row_nil _ _, (((unhide hB9).setCell (by simp <;> omega) _).setCell (by simp <;> omega) _).setCell (by simp <;> omega) _⟩

                          · have hkn : k = N := by omega
                            subst hkn
                            have HS : Hid (scalar2 op c d sh dt sh' dt' = ⟨false, shp, vals f k, 0⟩) := (unhide HGO).trans (gather_good hgood)
                            obtain ⟨ad', cd, rfl, hD⟩ := Own.of_owns hown (by omega)
                            have HD := hide hD
                            obtain ⟨z0, z1, z2, z3, z4, z5, z6⟩ := hbx.all
                            obtain ⟨q0, q1, q2, q3, q4, q5, q6⟩ := (unhide F6).all
                            clear hown hgood hD hbx hbl F4 F5 F6 HGO HFK
                            go_wp2
                            refine bodyPost_ret (v := .tuple #[.agg #[.bool false, .slice ash an csh, .slice ad' k cd], .int .i64 0]) (by simp [results, Tryz.results22, go_sem, q0, q1, q2]) rfl ?_
                            rw [unhide HS]
                            refine ⟨ash, an, csh, ad', k, cd, rfl, ?_, ?_, (((unhide HW).setCell (by simp <;> omega) _).setCell (by simp <;> omega) _).setCell (by simp <;> omega) _⟩
                            · exact ((((unhide HO').other (unhide HOp) _).other (unhide HOp) _).other (unhide HOp) _).row
                            · have hp : ∀ x, At ad' k x → x ≠ w.heap.size + 2 := fun x hx => by have := (unhide HD).low hx; omega
                              exact ((((unhide HD).other hp _).other hp _).other hp _).row

end Go.Proofs.YtkgcmpmgaghdhaaGreatDoor
namespace Go.Proofs.YtkgcmpmgaghdhaaGreatDoor

/-- The axis' numbers as axisOf gives them: before, along, behind. -/
structure AxisIs (sh : List Int) (fl : Bool) (B L A : Nat) : Prop where
  b : axisB sh fl = B
  l : axisN sh fl = L
  a : axisA sh fl = A

theorem axis_is {c : Bool} {sh dt : List Int} (fl : Bool) (hok : arrOk c sh dt = true) (hne : sh ≠ []) : ∃ B L A : Nat, AxisIs sh fl B L A ∧ B * L * A = dt.length ∧ B ≤ 10000 ∧ L ≤ 10000 ∧ A ≤ 10000 := by
  obtain ⟨hin, hp, _⟩ := shapeIn_of hok
  have h1 := (hin.take (axisAt sh fl)).bd
  have h2 := hin.cell (axisAt sh fl)
  have h3 := (hin.drop (axisAt sh fl + 1)).bd
  have e := axis_all sh fl hne
  rw [hp] at e
  obtain ⟨B, hB⟩ : ∃ B : Nat, axisB sh fl = B := ⟨(axisB sh fl).toNat, by unfold axisB; omega⟩
  obtain ⟨L, hL⟩ : ∃ L : Nat, axisN sh fl = L := ⟨(axisN sh fl).toNat, by unfold axisN; omega⟩
  obtain ⟨A, hA⟩ : ∃ A : Nat, axisA sh fl = A := ⟨(axisA sh fl).toNat, by unfold axisA; omega⟩
  refine ⟨B, L, A, ⟨hB, hL, hA⟩, ?_, ?_, ?_, ?_⟩
  · rw [hB, hL, hA] at e
    exact_mod_cast e
  · unfold axisB at hB; omega
  · unfold axisN at hL; omega
  · unfold axisA at hA; omega

end Go.Proofs.YtkgcmpmgaghdhaaGreatDoor
namespace Go.Proofs.YtkgcmpmgaghdhaaGreatDoor

theorem vals_set (f : Nat → Int × Int) (m k : Nat) : (vals f k ++ List.replicate (m + 1) (0 : Int)).set k (f k).1 = vals f (k + 1) ++ List.replicate m 0 := by
  have hk : (vals f k).length = k := vals_len f k
  rw [List.replicate_succ, List.set_append_right _ _ (by omega), hk, Nat.sub_self, List.set_cons_zero]
  simp [vals, List.range_succ]

theorem vals_pre_len (f : Nat → Int × Int) (n k : Nat) (h : k ≤ n) : (vals f k ++ List.replicate (n - k) (0 : Int)).length = n := by
  simp [vals_len]; omega

end Go.Proofs.YtkgcmpmgaghdhaaGreatDoor
namespace Go.Proofs.YtkgcmpmgaghdhaaGreatDoor
open Go.RowKit Go.Extern.Stop Go.Stop Go.Extern

theorem is_typeOf (v : Value) (w : World) : (Extern.ReflectliteType.typeOf #[.iface 175 v]).run Tryz.prog w = .ok (.iface 165 (.agg #[.pointer (some ⟨3, 175, none⟩)])) w := by kernel_rfl
/-- The model's entry for (rtype).Comparable, under a name of its own. -/
def cmpEntry : Array Value → Sem Value := Extern.ReflectliteType.method fun t => do Extern.Rtype.noPackHeld "Comparable" t; pure (.bool (← typeInfo t).comparable)
theorem is_comparable (w : World) : (cmpEntry #[.agg #[.pointer (some ⟨3, 175, none⟩)]]).run Tryz.prog w = .ok (.bool true) w := by kernel_rfl
theorem is_methodComparable (v : Value) (w : World) : (Go.method 311 165 v "Comparable").run Tryz.prog w = .ok (198, v) w := by kernel_rfl
theorem is_comp : (Tryz.prog.info? 175).map (·.comparable) = some true := by kernel_rfl
theorem is_size : (Tryz.prog.info? 199).map (·.size) = some 1 := by kernel_rfl
theorem is_noIs (v : Value) (xT : TypeId) (w : World) : (Instr.typeAssert (.iface 175 v) xT 167 true).run Tryz.prog w = .ok (.tuple #[.nilIface, .bool false]) w := run_typeAssert_lacksB Tryz.underlying167 (by kernel_rfl) (by kernel_rfl) v xT w
theorem is_noUnwrap (v : Value) (xT : TypeId) (w : World) : (Instr.typeAssert (.iface 175 v) xT 170 true).run Tryz.prog w = .ok (.tuple #[.nilIface, .bool false]) w := run_typeAssert_lacksB Tryz.underlying170 (by kernel_rfl) (by kernel_rfl) v xT w
theorem is_noUnwraps (v : Value) (xT : TypeId) (w : World) : (Instr.typeAssert (.iface 175 v) xT 172 true).run Tryz.prog w = .ok (.tuple #[.nilIface, .bool false]) w := run_typeAssert_lacksB Tryz.underlying172 (by kernel_rfl) (by kernel_rfl) v xT w

/-- errors.Is(x, x), x a pointer to an errors.errorString. -/
theorem is_same (a : Addr) (w : World) :
    Calls Tryz.prog 160 #[.iface 175 (.pointer (some a)), .iface 175 (.pointer (some a))] w fun e w' => e = .returned (.bool true) ∧ w' = w := by
  obtain ⟨i, hi, hcmp⟩ := Option.map_eq_some_iff.1 is_comp
  obtain ⟨j, hj, hjs⟩ := Option.map_eq_some_iff.1 is_size
  have h8 := @run_callFunc_extern Tryz.prog 175 _ Extern.ReflectliteType.typeOf Tryz.func175 (by kernel_rfl) (by kernel_rfl) (by kernel_rfl) (by kernel_rfl)
  have h32 := @run_callFunc_extern Tryz.prog 198 _ cmpEntry Tryz.func198 (by kernel_rfl) (by kernel_rfl) (by kernel_rfl) (by kernel_rfl)
  have tT := is_typeOf
  have cT := is_comparable
  have mR := is_methodComparable
  have heq := run_eql_iface_ptr_same (P := Tryz.prog) w a Tryz.underlying92 Tryz.underlying175 hi hcmp hj
  go_enter Tryz.func160, Tryz.ntmps160
  go_wp2
  refine wp_loop_rounds 1 ?_
  rw [rounds_succ]
  go_wp2
  go_ret
  exact ⟨rfl, rfl⟩

/-- errors.Is(x, y), two different pointers to errors.errorString. -/
theorem is_other (a b : Addr) (ca cb : Array Value) (ta tb : TypeId) (w : World) (hne : a ≠ b) (ha : w.heap[a.block]? = some (.cells ca ta (0, 0))) (hb : w.heap[b.block]? = some (.cells cb tb (0, 0))) :
    Calls Tryz.prog 160 #[.iface 175 (.pointer (some a)), .iface 175 (.pointer (some b))] w fun e w' => e = .returned (.bool false) ∧ w' = w := by
  obtain ⟨i, hi, hcmp⟩ := Option.map_eq_some_iff.1 is_comp
  obtain ⟨j, hj, hjs⟩ := Option.map_eq_some_iff.1 is_size
  have h8 := @run_callFunc_extern Tryz.prog 175 _ Extern.ReflectliteType.typeOf Tryz.func175 (by kernel_rfl) (by kernel_rfl) (by kernel_rfl) (by kernel_rfl)
  have h32 := @run_callFunc_extern Tryz.prog 198 _ cmpEntry Tryz.func198 (by kernel_rfl) (by kernel_rfl) (by kernel_rfl) (by kernel_rfl)
  have tT := is_typeOf
  have cT := is_comparable
  have mR := is_methodComparable
  have nE := is_noIs
  have uE := is_noUnwrap
  have vE := is_noUnwraps
  have heq := run_eql_iface_ptr_other (P := Tryz.prog) w Tryz.underlying92 Tryz.underlying175 hi hcmp hj (by rw [hjs]; decide) hne ha hb
  go_enter Tryz.func160, Tryz.ntmps160
  go_wp2
  refine wp_loop_rounds 1 ?_
  rw [rounds_succ]
  go_wp2
  go_ret
  exact ⟨rfl, rfl⟩

set_option maxHeartbeats 400000 in
theorem codeOf_big (a b : Addr) (w : World) (hG : Gl w a b) : Calls Tryz.prog 119 #[errV a b 7] w fun e w' => e = .returned (.int .i64 7) ∧ w' = w := by
  have hc := hG.big
  rw [errV_7]
  go_enter Tryz.func119, Tryz.ntmps119
  go_wp2_with (go_at_call 160; refine (is_same b _).mono ?_; rintro e w' ⟨rfl, rfl⟩)
  go_ret
  exact ⟨rfl, rfl⟩

set_option maxHeartbeats 400000 in
theorem codeOf_no (a b : Addr) (w : World) (hG : Gl w a b) : Calls Tryz.prog 119 #[errV a b 3] w fun e w' => e = .returned (.int .i64 3) ∧ w' = w := by
  have hc := hG.big
  obtain ⟨ca, ta, h4⟩ := hG.rowA
  obtain ⟨cb, tb, h5⟩ := hG.rowB
  have HN := hide hG.ne
  have H4 := hide h4
  have H5 := hide h5
  clear h4 h5 hG
  rw [errV_3]
  go_enter Tryz.func119, Tryz.ntmps119
  go_wp2_with (go_at_call 160; refine (is_other a b _ _ _ _ _ (unhide HN) (unhide H4) (unhide H5)).mono ?_; rintro e w' ⟨rfl, rfl⟩)
  go_ret
  exact ⟨rfl, rfl⟩

theorem codeOf_any (a b : Addr) (code : Int) (w : World) (hG : Gl w a b) (hc : codeIn code) (h0 : code ≠ 0) : Calls Tryz.prog 119 #[errV a b code] w fun e w' => e = .returned (.int .i64 code) ∧ w' = w := by
  rcases hc with h | rfl | rfl
  · exact absurd h h0
  · exact codeOf_no a b w hG
  · exact codeOf_big a b w hG

end Go.Proofs.YtkgcmpmgaghdhaaGreatDoor
namespace Go.Proofs.YtkgcmpmgaghdhaaGreatDoor
open Go.RowKit Go.Shelf

/-- The function value (g, lb) gives at each place below n what f says, in whatever world holds what lay in w. -/
def ElemOk (a b : Addr) (g : Nat) (lb : Array Value) (f : Nat → Int × Int) (n : Nat) (w : World) : Prop :=
  ∀ k, k < n → ∀ W, Below w.heap.size w W → Calls Tryz.prog g (#[.int .i64 (k : Nat)] ++ lb) W fun e w' => e = .returned (.tuple #[.int .i64 (f k).1, errV a b (f k).2]) ∧ Below W.heap.size W w'

theorem ElemOk.low {a b : Addr} {g : Nat} {lb : Array Value} {f : Nat → Int × Int} {n : Nat} {w w1 : World} (h : ElemOk a b g lb f n w) (hb : Below w.heap.size w w1) : ElemOk a b g lb f n w1 :=
  fun k hk W hW => h k hk W (hb.trans (hW.mono hb.size))

theorem neq_nil_nil (w : World) : (binOp .neq 92 .nilIface .nilIface).run Tryz.prog w = .ok (.bool false) w := by kernel_rfl

set_option maxHeartbeats 2000000 in
theorem listOf_any (a b : Addr) (g : Nat) (lb : Array Value) (eg : ∀ args w, (callFunc g args).run Tryz.prog w = .ok (.enter g args) w) (f : Nat → Int × Int) (n : Nat) (w : World) (hn : n ≤ 17592186044416) (hf : ∀ k, k < n → codeIn (f k).2) (hE : ElemOk a b g lb f n w) :
    Calls Tryz.prog 98 #[.int .i64 (n : Nat), .func (.func g) #[] lb] w fun e w' =>
      ((firstCode f n = 0 ∧ e = .returned (.tuple #[.slice (some ⟨w.heap.size, 0, none⟩) n n, .nilIface]) ∧ Blk w' w.heap.size (vals f n)) ∨ (firstCode f n ≠ 0 ∧ codeIn (firstCode f n) ∧ e = .returned (.tuple #[.slice none 0 0, errV a b (firstCode f n)]))) ∧ Below w.heap.size w w' := by
  have HE := hide hE
  have HF := hide hf
  clear hE hf
  obtain ⟨i0, hi, hz0, hz1, hz2⟩ := info_parts info_int
  go_enter Tryz.func98, Tryz.ntmps98
  go_wp2_with (at_make; refine wpList_make_full _ rfl _ _ 23 rfl w.heap.size 3 i0 (.int .i64 0) 1 Tryz.underlying23 hi hz0 hz1 _ _ _ _ n rfl rfl rfl rfl (by rw [hz2]; omega) (by unfold maxLen; omega) (Nat.le_refl _) ?_; intro w1 hown hgrow)
  have hblk : Blk w1 w.heap.size (vals f 0 ++ List.replicate (n - 0) 0) := Blk.of_owns (n := n) (base := w.heap.size) (by simpa [toList_madeCells_one, Value.cells, vals] using hown)
  have hbel : Below w.heap.size w w1 := (Below.refl _ _).grown hgrow (Nat.le_refl _) (by simp)
  clear hown hgrow hi hz0 hz1 hz2
  have HBK := hide hblk
  have HBL := hide hbel
  clear hblk hbel
  go_wp2
  go_loopw [7, 8, 9, 14] (fun _ _ _ i wr => ∃ k : Nat, k ≤ n ∧ i = .int .i64 k ∧ Hid (Blk wr w.heap.size (vals f k ++ List.replicate (n - k) 0)) ∧ Hid (Below w.heap.size w wr) ∧ Hid (firstCode f k = 0)) (fun _ _ _ i _ => n - (intOf i).toNat)
  case atStart => exact ⟨0, Nat.zero_le _, rfl, HBK, HBL, rfl⟩
  case round =>
    obtain ⟨k, hk, rfl, hb, hbl, hfc⟩ := hrel
    clear HBK HBL w1
    by_cases hlt : k < n
    · obtain ⟨r, hr⟩ : ∃ r, r = f k := ⟨_, rfl⟩
      obtain ⟨r1, r2⟩ := r
      have hcall := unhide HE k hlt wr (unhide hbl)
      rw [← hr] at hcall
      have hcode := unhide HF k hlt
      rw [← hr] at hcode
      have HR := hide hr
      clear hr
      by_cases h0 : r2 = 0
      · subst h0
        clear hcode
        rw [errV_0] at hcall
        have hnn := neq_nil_nil
        go_wp2_with (go_at_fn g; refine hcall.mono ?_; rintro e w2 ⟨rfl, hb2⟩; have HB := hide ((unhide hb).below (Nat.le_refl _) hb2); have HL := hide ((unhide hbl).trans (hb2.mono (unhide hbl).size)); have hc2 := (unhide HB).cell (i := k) (by simp [vals_len]; omega); have hf2 := (unhide HB).free k; clear hb2)
        have HS : Hid (Blk (w2.setCell ⟨w.heap.size, k, none⟩ (.int .i64 r1)) w.heap.size (vals f (k + 1) ++ List.replicate (n - (k + 1)) 0)) := by
          have hs := (unhide HB).set k r1
          have e : n - k = n - (k + 1) + 1 := by omega
          have e1 : r1 = (f k).1 := by rw [← unhide HR]
          rw [e] at hs
          rw [e1] at hs ⊢
          rw [vals_set] at hs
          exact hs
        go_roundw
        case rel => exact ⟨k + 1, by omega, by go_num, HS, (unhide HL).setCell (Nat.le_refl _) _, code_step (unhide hfc) (by rw [← unhide HR])⟩
        case measure => simp [intOf]; omega
      · have HC : Hid (firstCode f n = r2) := by
          show _ = _
          have e2 : (f k).2 = r2 := by rw [← unhide HR]
          rw [code_found (unhide hfc) hlt (by rw [e2]; exact h0), e2]
        have HI := hide hcode
        have HZ := hide h0
        have hrv : ∃ p, errV a b r2 = .iface 175 (.pointer (some p)) := by
          rcases hcode with h | rfl | rfl
          · exact absurd h h0
          · exact ⟨a, rfl⟩
          · exact ⟨b, rfl⟩
        obtain ⟨p, hp⟩ := hrv
        rw [hp] at hcall
        have HP := hide hp
        clear hcode h0 hp
        go_wp2_with (go_at_fn g; refine hcall.mono ?_; rintro e w2 ⟨rfl, hb2⟩; have HL := hide ((unhide hbl).trans (hb2.mono (unhide hbl).size)); clear hb2)
        go_ret2
        refine ⟨.inr ⟨by rw [unhide HC]; exact unhide HZ, by rw [unhide HC]; exact unhide HI, ?_⟩, unhide HL⟩
        rw [unhide HC, unhide HP]
        rfl
    · have hkn : k = n := by omega
      subst hkn
      go_wp2
      go_ret2
      exact ⟨.inl ⟨unhide hfc, rfl, by simpa using unhide hb⟩, unhide hbl⟩

end Go.Proofs.YtkgcmpmgaghdhaaGreatDoor
namespace Go.Proofs.YtkgcmpmgaghdhaaGreatDoor
open Go.RowKit

def withinB (v lo hi : Int) : Bool := decide (lo ≤ v ∧ v ≤ hi)

set_option maxHeartbeats 400000 in
theorem isWithin_any (v lo hi : Int) (w : World) : Calls Tryz.prog 115 #[.int .i64 v, .int .i64 lo, .int .i64 hi] w fun e w' => e = .returned (.bool (withinB v lo hi)) ∧ w' = w := by
  by_cases h1 : lo ≤ v
  · by_cases h2 : v ≤ hi
    · have HE : Hid (withinB v lo hi = true) := decide_eq_true ⟨h1, h2⟩
      go_enter Tryz.func115, Tryz.ntmps115
      go_wp2
      go_ret
      exact ⟨ret_bool HE.out.symm, rfl⟩
    · have HE : Hid (withinB v lo hi = false) := decide_eq_false (fun h => by omega)
      go_enter Tryz.func115, Tryz.ntmps115
      go_wp2
      go_ret
      exact ⟨ret_bool HE.out.symm, rfl⟩
  · have HE : Hid (withinB v lo hi = false) := decide_eq_false (fun h => by omega)
    go_enter Tryz.func115, Tryz.ntmps115
    go_wp2
    go_ret
    exact ⟨ret_bool HE.out.symm, rfl⟩

theorem isWithin_eq (v lo hi : Int) (w : World) (b : Bool) (h : Hid (withinB v lo hi = b)) : Calls Tryz.prog 115 #[.int .i64 v, .int .i64 lo, .int .i64 hi] w fun e w' => e = .returned (.bool b) ∧ w' = w := by
  rw [← h.out]; exact isWithin_any v lo hi w

set_option maxHeartbeats 1000000 in
theorem shapeOk_any (a : Option Addr) (n cap : Nat) (sh : List Int) (w : World) (h : Row w a n sh) : Calls Tryz.prog 67 #[.slice a n cap] w fun e w' => e = .returned (.bool (shapeB sh)) ∧ w' = w := by
  have hlen := hide h.len
  have hsm := h.small
  have H := hide h
  clear h
  by_cases h5 : 5 < n
  · have HE := hide (shape_long (unhide hlen) h5)
    go_enter Tryz.func67, Tryz.ntmps67
    go_wp2
    go_ret
    exact ⟨ret_bool HE.out.symm, rfl⟩
  · go_enter Tryz.func67, Tryz.ntmps67
    go_wp2
    go_loop [3, 5, 11] (fun p _ i => ∃ (k : Nat) (m : Int), k ≤ n ∧ i = .int .i64 k ∧ p = .int .i64 m ∧ Hid ((sh.take k).all inCells = true) ∧ Hid (prodFrom (sh.take k) 1 = some m)) (fun _ _ i => n - (intOf i).toNat)
    case atStart => exact ⟨0, 1, Nat.zero_le _, rfl, rfl, rfl, rfl⟩
    case round =>
      obtain ⟨k, m, hk, rfl, rfl, hall, hp⟩ := hrel
      have hmb := prodFrom_bd (sh.take k) 1 m (unhide hall) (by omega) (by omega) (unhide hp)
      obtain ⟨hm1, hm2⟩ := hmb
      by_cases hlt : k < n
      · obtain ⟨b, off, rfl, hblt, hc⟩ := (unhide H).get hlt
        have hks : Hid (k < sh.length) := by show k < sh.length; rw [unhide hlen]; exact hlt
        obtain ⟨x, hx⟩ : ∃ x, x = sh.getD k 0 := ⟨_, rfl⟩
        rw [← hx] at hc
        have HX := hide hx
        clear hx
        by_cases hin : 0 ≤ x ∧ x ≤ 10000
        · have HW : Hid (withinB x 0 10000 = true) := decide_eq_true hin
          have HA : Hid ((sh.take (k + 1)).all inCells = true) := all_step sh inCells k (unhide hks) (unhide hall) (by rw [← unhide HX]; exact decide_eq_true hin)
          obtain ⟨hx0, hx1⟩ := hin
          by_cases h0 : x = 0
          · have HP := hide (prod_step0 sh k (unhide hks) m (unhide hp) (by rw [← unhide HX]; exact h0))
            subst h0
            have hw : wrap64 (m * (if (0 : Int) < 1 then 1 else 0)) = m := by rw [if_pos (by omega), Int.mul_one]; exact (by unfold wrap64; omega)
            have hv : wrap64 (m * max 0 1) = m := hw
            go_wp2_with (go_at_call 115; refine (isWithin_eq _ _ _ _ true HW).mono ?_; rintro e w' ⟨rfl, rfl⟩)
            go_round
            case rel => exact ⟨k + 1, m, by omega, by go_num, (by first | rfl | rw [hv]), HA, HP⟩
            case measure => simp [intOf]; omega
          · have hx2 : ¬ x < 1 := by omega
            have hmx : m * x ≤ 10000 * 10000 := Int.mul_le_mul hm2 hx1 hx0 (by omega)
            have hmx0 : 0 ≤ m * x := Int.mul_nonneg (by omega) hx0
            have hw : wrap64 (m * x) = m * x := (by unfold wrap64; omega)
            have hv : max x 1 = x := by omega
            by_cases hbig : 10000 < m * x
            · have HE : Hid (shapeB sh = false) := shape_bad (count_big sh (prod_none sh k (unhide hks) m (unhide hp) (by rw [← unhide HX]; exact h0) (by rw [← unhide HX]; exact hbig)))
              clear h0
              go_wp2_with (go_at_call 115; refine (isWithin_eq _ _ _ _ true HW).mono ?_; rintro e w' ⟨rfl, rfl⟩)
              go_ret
              exact ⟨ret_bool HE.out.symm, rfl⟩
            · have HP := hide (prod_step sh k (unhide hks) m (unhide hp) (by rw [← unhide HX]; exact h0) (by rw [← unhide HX]; omega))
              rw [← unhide HX] at HP
              clear h0
              go_wp2_with (go_at_call 115; refine (isWithin_eq _ _ _ _ true HW).mono ?_; rintro e w' ⟨rfl, rfl⟩)
              go_round
              case rel => exact ⟨k + 1, m * x, by omega, by go_num, rfl, HA, HP⟩
              case measure => simp [intOf]; omega
        · have HW : Hid (withinB x 0 10000 = false) := decide_eq_false hin
          have HE : Hid (shapeB sh = false) := shape_bad (count_bad sh (all_not sh inCells k (unhide hks) (by rw [← unhide HX]; exact decide_eq_false hin)))
          clear hin
          go_wp2_with (go_at_call 115; refine (isWithin_eq _ _ _ _ false HW).mono ?_; rintro e w' ⟨rfl, rfl⟩)
          go_ret
          exact ⟨ret_bool HE.out.symm, rfl⟩
      · have htk : sh.take k = sh := List.take_of_length_le (by rw [unhide hlen]; omega)
        have HE := hide (shape_good (unhide hlen) (by omega) m (by have := unhide hall; rwa [htk] at this) (by have := unhide hp; rwa [htk] at this))
        clear htk
        go_wp2
        go_ret
        exact ⟨ret_bool HE.out.symm, rfl⟩

theorem shapeOk_eq (a : Option Addr) (n cap : Nat) (sh : List Int) (w : World) (h : Row w a n sh) (r : Bool) (hr : Hid (shapeB sh = r)) : Calls Tryz.prog 67 #[.slice a n cap] w fun e w' => e = .returned (.bool r) ∧ w' = w := by
  rw [← hr.out]; exact shapeOk_any a n cap sh w h

set_option maxHeartbeats 400000 in
theorem cellsOf_any (a : Option Addr) (n cap : Nat) (sh : List Int) (w : World) (h : Row w a n sh) (hb : ∀ k, 0 ≤ prodAll (sh.take k) ∧ prodAll (sh.take k) ≤ 10000) : Calls Tryz.prog 51 #[.slice a n cap] w fun e w' => e = .returned (.int .i64 (prodAll sh)) ∧ w' = w := by
  have hlen := hide h.len
  have hsm := h.small
  have H := hide h
  have HB := hide hb
  clear h hb
  go_enter Tryz.func51, Tryz.ntmps51
  go_wp2
  go_loop [3, 5, 8] (fun p _ i => ∃ (k : Nat) (m : Int), k ≤ n ∧ i = .int .i64 k ∧ p = .int .i64 m ∧ Hid (prodAll (sh.take k) = m)) (fun _ _ i => n - (intOf i).toNat)
  case atStart => exact ⟨0, 1, Nat.zero_le _, rfl, rfl, rfl⟩
  case round =>
    obtain ⟨k, m, hk, rfl, rfl, hp⟩ := hrel
    by_cases hlt : k < n
    · obtain ⟨b, off, rfl, hblt, hc⟩ := (unhide H).get hlt
      have hks : Hid (k < sh.length) := by show k < sh.length; rw [unhide hlen]; exact hlt
      obtain ⟨x, hx⟩ : ∃ x, x = sh.getD k 0 := ⟨_, rfl⟩
      have HP : Hid (prodAll (sh.take (k + 1)) = m * x) := by show _ = _; rw [prodAll_snoc sh k (unhide hks), unhide hp, hx]
      have hpb := unhide HB (k + 1)
      rw [unhide HP] at hpb
      obtain ⟨hb0, hb1⟩ := hpb
      rw [← hx] at hc
      clear hx
      go_wp2
      go_round
      case rel => exact ⟨k + 1, m * x, by omega, by go_num, rfl, HP⟩
      case measure => simp [intOf]; omega
    · have HE : Hid (prodAll sh = m) := by have := unhide hp; rwa [List.take_of_length_le (by rw [unhide hlen]; omega)] at this
      go_wp2
      go_ret
      exact ⟨ret_int HE.out.symm, rfl⟩

theorem cellsOf_count (a : Option Addr) (n cap : Nat) (sh : List Int) (w : World) (h : Row w a n sh) (hs : shapeB sh = true) (cn : Int) (hc : Hid (countOf sh = cn)) : Calls Tryz.prog 51 #[.slice a n cap] w fun e w' => e = .returned (.int .i64 cn) ∧ w' = w := by
  rw [← hc.out, ← prodAll_count sh hs]; exact cellsOf_any a n cap sh w h (prodAll_bd sh hs)

end Go.Proofs.YtkgcmpmgaghdhaaGreatDoor
namespace Go.Proofs.YtkgcmpmgaghdhaaGreatDoor
open Go.RowKit

set_option maxHeartbeats 400000 in
theorem isNumber_any (v : Int) (w : World) : Calls Tryz.prog 142 #[.int .i64 v] w fun e w' => e = .returned (.bool (dataOk false v)) ∧ w' = w := by
  have HE : Hid (dataOk false v = withinB v (-1000000000000000) 1000000000000000) := by show _ = _; unfold dataOk withinB; simp
  go_enter Tryz.func142, Tryz.ntmps142
  go_wp2_with (go_at_call 115; refine (isWithin_any _ _ _ _).mono ?_; rintro e w' ⟨rfl, rfl⟩)
  go_ret
  exact ⟨ret_bool HE.out.symm, rfl⟩

set_option maxHeartbeats 400000 in
theorem ValidRune_any (v : Int) (w : World) (h0 : 0 ≤ v) (h1 : v ≤ 1114111) : Calls Tryz.prog 172 #[.int .i32 v] w fun e w' => e = .returned (.bool (runeOk v)) ∧ w' = w := by
  by_cases h3 : v < 55296
  · have HE : Hid (runeOk v = true) := decide_eq_true ⟨h0, h1, .inl h3⟩
    go_enter Tryz.func172, Tryz.ntmps172
    go_wp2
    go_ret
    exact ⟨ret_bool HE.out.symm, rfl⟩
  · by_cases h4 : 57343 < v
    · have HE : Hid (runeOk v = true) := decide_eq_true ⟨h0, h1, .inr h4⟩
      go_enter Tryz.func172, Tryz.ntmps172
      go_wp2
      go_ret
      exact ⟨ret_bool HE.out.symm, rfl⟩
    · have HE : Hid (runeOk v = false) := decide_eq_false (fun h => by omega)
      go_enter Tryz.func172, Tryz.ntmps172
      go_wp2
      go_ret
      exact ⟨ret_bool HE.out.symm, rfl⟩

theorem wrap32 (v : Int) (h0 : 0 ≤ v) (h1 : v ≤ 1114111) : IntKind.i32.wrap v = v := by
  unfold IntKind.wrap; simp [IntKind.bits, IntKind.signed]; omega

set_option maxHeartbeats 400000 in
theorem isCharacter_any (v : Int) (w : World) : Calls Tryz.prog 143 #[.int .i64 v] w fun e w' => e = .returned (.bool (dataOk true v)) ∧ w' = w := by
  by_cases h : 0 ≤ v ∧ v ≤ 1114111
  · obtain ⟨h0, h1⟩ := h
    have HE : Hid (dataOk true v = runeOk v) := by show _ = _; unfold dataOk; rw [decide_eq_true (by omega)]; simp
    have HW : Hid (withinB v 0 1114111 = true) := decide_eq_true ⟨h0, h1⟩
    have hw := wrap32 v h0 h1
    go_enter Tryz.func143, Tryz.ntmps143
    go_wp2_with (first | (go_at_call 115; refine (isWithin_eq _ _ _ _ true HW).mono ?_; rintro e w' ⟨rfl, rfl⟩) | (go_at_call 172; refine (ValidRune_any _ _ h0 h1).mono ?_; rintro e w' ⟨rfl, rfl⟩))
    go_ret
    exact ⟨ret_bool HE.out.symm, rfl⟩
  · have HE : Hid (dataOk true v = false) := by show _ = _; unfold dataOk runeOk; rw [decide_eq_false (p := 0 ≤ v ∧ _ ∧ _) (by omega)]; simp
    have HW : Hid (withinB v 0 1114111 = false) := decide_eq_false h
    clear h
    go_enter Tryz.func143, Tryz.ntmps143
    go_wp2_with (go_at_call 115; refine (isWithin_eq _ _ _ _ false HW).mono ?_; rintro e w' ⟨rfl, rfl⟩)
    go_ret
    exact ⟨ret_bool HE.out.symm, rfl⟩

end Go.Proofs.YtkgcmpmgaghdhaaGreatDoor
namespace Go.Proofs.YtkgcmpmgaghdhaaGreatDoor
open Go.RowKit Go.Shelf

/-- What reckoned answers: the shape that it was given and new elements, or nothing and the first code. -/
def Reck (w : World) (f : Nat → Int × Int) (n : Nat) (a1 : Option Addr) (n1 c1 : Nat) (e : Ending) (w' : World) : Prop :=
  ((firstCode f n = 0 ∧ ∃ p, w.heap.size ≤ p ∧ e = .returned (.tuple #[.agg #[.bool false, .slice a1 n1 c1, .slice (some ⟨p, 0, none⟩) n n], .int .i64 0]) ∧ Blk w' p (vals f n))
    ∨ (firstCode f n ≠ 0 ∧ e = .returned (.tuple #[.agg #[.bool false, .slice none 0 0, .slice none 0 0], .int .i64 (firstCode f n)]))) ∧ Below w.heap.size w w'

set_option maxHeartbeats 1000000 in
theorem reckoned_any (a b : Addr) (g : Nat) (lb : Array Value) (eg : ∀ args w, (callFunc g args).run Tryz.prog w = .ok (.enter g args) w) (f : Nat → Int × Int) (n : Nat) (a1 : Option Addr) (n1 c1 : Nat) (sh : List Int) (w : World) (h1 : Row w a1 n1 sh) (hsh : shapeB sh = true) (hc : countOf sh = (n : Int))
    (hG : Gl w a b) (hf : ∀ k, k < n → codeIn (f k).2) (hE : ElemOk a b g lb f n w) :
    Calls Tryz.prog 52 #[.slice a1 n1 c1, .func (.func g) #[] lb] w (Reck w f n a1 n1 c1) := by
  have hn : n ≤ 17592186044416 := by
    have := (prodAll_bd sh hsh sh.length).2
    rw [List.take_length, prodAll_count sh hsh, hc] at this
    omega
  have HE : Hid (∀ o, ElemOk a b g lb f n (w.alloc o)) := fun o => hE.low ((Below.refl _ _).alloc (Nat.le_refl _) _)
  have HF := hide hf
  have H1 := hide h1
  have HS := hide hsh
  have HC := hide hc
  have HG := hide hG
  clear hE hf h1 hsh hc hG
  have HW : Hid (∀ o, Below w.heap.size w (w.alloc o)) := fun o => (Below.refl _ _).alloc (Nat.le_refl _) _
  by_cases h0 : firstCode f n = 0
  · have HZ := hide h0
    clear h0
    go_enter Tryz.func52, Tryz.ntmps52
    go_wp2_with (first
      | (go_at_call 51; refine (cellsOf_count _ _ _ sh _ ((unhide H1).alloc _) (unhide HS) _ HC).mono ?_; rintro e w1 ⟨rfl, rfl⟩)
      | (go_at_call 98; refine (listOf_any a b g lb eg f n _ hn (unhide HF) (unhide HE _)).mono ?_; rintro e w2 ⟨hr, hb2⟩; obtain ⟨_, rfl, hblk⟩ | ⟨hne, _⟩ := hr; rotate_left; exact absurd (unhide HZ) hne; have hB := Box.below (Box.new w false (.slice none 0 0) (.slice none 0 0)) (Nat.le_refl _) hb2; obtain ⟨q0, q1, q2, q3, q4, q5, q6⟩ := hB.all; have HK := hide hblk; have HL := hide ((unhide HW _).trans (hb2.mono (by simp))); clear hblk hb2 hB))
    refine bodyPost_ret (v := .tuple #[.agg #[.bool false, .slice a1 n1 c1, .slice (some ⟨w.heap.size + 1, 0, none⟩) n n], .int .i64 0]) (by simp [results, Tryz.results52, go_sem, q0, q1, q2]) rfl ?_
    refine ⟨.inl ⟨unhide HZ, w.heap.size + 1, by omega, rfl, ?_⟩, (((unhide HL).setCell (Nat.le_refl _) _).setCell (Nat.le_refl _) _).setCell (Nat.le_refl _) _⟩
    have hk : Blk w2 (w.heap.size + 1) (vals f n) := by simpa using unhide HK
    exact ((hk.other (by simp) _).other (by simp) _).other (by simp) _
  · have HZ := hide h0
    clear h0
    go_enter Tryz.func52, Tryz.ntmps52
    go_wp2_with (first
      | (go_at_call 51; refine (cellsOf_count _ _ _ sh _ ((unhide H1).alloc _) (unhide HS) _ HC).mono ?_; rintro e w1 ⟨rfl, rfl⟩)
      | (go_at_call 98; refine (listOf_any a b g lb eg f n _ hn (unhide HF) (unhide HE _)).mono ?_; rintro e w2 ⟨hr, hb2⟩; obtain ⟨hne, _⟩ | ⟨_, hci, rfl⟩ := hr; exact absurd hne (unhide HZ); have hB := Box.below (Box.new w false (.slice none 0 0) (.slice none 0 0)) (Nat.le_refl _) hb2; obtain ⟨q0, q1, q2, q3, q4, q5, q6⟩ := hB.all; have HI := hide hci; have HL := hide ((unhide HW _).trans (hb2.mono (by simp))); clear hb2 hB hci; obtain ⟨c, hcc⟩ : ∃ c, c = firstCode f n := ⟨_, rfl⟩; rw [← hcc]; have HCC := hide hcc; clear hcc; obtain ⟨ev, hev⟩ : ∃ ev, ev = errV a b c := ⟨_, rfl⟩; rw [← hev]; have hev2 : ∃ p, ev = .iface 175 (.pointer (some p)) := (by rw [hev, unhide HCC]; rcases unhide HI with h | h | h; exact absurd h (unhide HZ); exact ⟨a, by rw [h]; rfl⟩; exact ⟨b, by rw [h]; rfl⟩); have HEV := hide hev; clear hev; obtain ⟨p, rfl⟩ := hev2)
      | (go_at_call 119; rw [unhide HEV]; refine (codeOf_any a b c _ ((unhide HG).below (unhide HL)) (by rw [unhide HCC]; exact unhide HI) (by rw [unhide HCC]; exact unhide HZ)).mono ?_; rintro e w3 ⟨rfl, rfl⟩))
    refine bodyPost_ret (v := .tuple #[.agg #[.bool false, .slice none 0 0, .slice none 0 0], .int .i64 c]) (by simp [results, Tryz.results52, go_sem, q0, q1, q2]) rfl ?_
    exact ⟨.inr ⟨unhide HZ, by rw [← unhide HCC]⟩, (((unhide HL).setCell (Nat.le_refl _) _).setCell (Nat.le_refl _) _).setCell (Nat.le_refl _) _⟩

end Go.Proofs.YtkgcmpmgaghdhaaGreatDoor
namespace Go.Proofs.YtkgcmpmgaghdhaaGreatDoor
open Go.RowKit Go.Shelf

set_option maxHeartbeats 400000 in
theorem isTruth_eq (v : Int) (w : World) (r : Bool) (h : Hid (withinB v 0 1 = r)) : Calls Tryz.prog 174 #[.int .i64 v] w fun e w' => e = .returned (.bool r) ∧ w' = w := by
  go_enter Tryz.func174, Tryz.ntmps174
  go_wp2_with (go_at_call 115; refine (isWithin_eq _ _ _ _ r h).mono ?_; rintro e w' ⟨rfl, rfl⟩)
  go_ret
  exact ⟨rfl, rfl⟩

set_option maxHeartbeats 400000 in
theorem magnitude_any (v : Int) (w : World) (hv : -1000000000000000 ≤ v ∧ v ≤ 1000000000000000) : Calls Tryz.prog 171 #[.int .i64 v] w fun e w' => e = .returned (.int .i64 (if v < 0 then -v else v)) ∧ w' = w := by
  obtain ⟨h1, h2⟩ := hv
  by_cases h : v < 0
  · rw [if_pos h]
    go_enter Tryz.func171, Tryz.ntmps171
    go_wp2
    go_ret
    exact ⟨by first | rfl | (simp; omega), rfl⟩
  · rw [if_neg h]
    go_enter Tryz.func171, Tryz.ntmps171
    go_wp2
    go_ret
    exact ⟨by first | rfl | (simp; omega), rfl⟩

theorem ret_el {a b : Addr} {r : Int × Int} {x c : Int} (h : r = (x, c)) : Ending.returned (.tuple #[.int .i64 x, errV a b c]) = Ending.returned (.tuple #[.int .i64 r.1, errV a b r.2]) := by rw [h]

end Go.Proofs.YtkgcmpmgaghdhaaGreatDoor
namespace Go.Proofs.YtkgcmpmgaghdhaaGreatDoor
open Go.RowKit Go.Shelf

/-- A number and an error as an element's function gives them; only draws. -/
def GivesEl (ga gb : Addr) (r : Int × Int) (w : World) (e : Ending) (w' : World) : Prop := e = .returned (.tuple #[.int .i64 r.1, errV ga gb r.2]) ∧ ∃ q, w' = w.drewN q

theorem gives_el {ga gb : Addr} {r : Int × Int} {x c : Int} {w w' : World} {q : Nat} (h : r = (x, c)) (hw : w' = w.drewN q) : GivesEl ga gb r w (.returned (.tuple #[.int .i64 x, errV ga gb c])) w' := ⟨ret_el h, q, hw⟩

theorem isNumber_eq (v : Int) (w : World) (r : Bool) (h : Hid (inM v = r)) : Calls Tryz.prog 142 #[.int .i64 v] w fun e w' => e = .returned (.bool r) ∧ w' = w := by
  have e : dataOk false v = r := by rw [← unhide h]; simp [dataOk, inM]
  rw [← e]; exact isNumber_any v w

set_option maxHeartbeats 400000 in
theorem limited_any (v : Int) (ga gb : Addr) (w : World) (hG : Gl w ga gb) : Calls Tryz.prog 135 #[.int .i64 v] w (GivesEl ga gb (limited (v, true)) w) := by
  have hc := hG.big
  clear hG
  by_cases h : inM v = true
  · have HE := hide (lim_ok h)
    have HT := hide h
    clear h
    go_enter Tryz.func135, Tryz.ntmps135
    go_wp2_with (go_at_call 142; refine (isNumber_eq _ _ _ HT).mono ?_; rintro e w' ⟨rfl, rfl⟩)
    go_ret2
    exact gives_el (c := 0) (q := 0) HE.out rfl
  · have h' : inM v = false := by simpa using h
    have HE := hide (lim_no h')
    have HT := hide h'
    clear h h'
    go_enter Tryz.func135, Tryz.ntmps135
    go_wp2_with (go_at_call 142; refine (isNumber_eq _ _ _ HT).mono ?_; rintro e w' ⟨rfl, rfl⟩)
    go_quiet (fail)
    go_wp2
    go_ret2
    exact gives_el (c := 7) HE.out rfl

set_option maxHeartbeats 400000 in
theorem opAdd (a b : Int) (ga gb : Addr) (w : World) (hG : Gl w ga gb) (ha : -1000000000000000 ≤ a ∧ a ≤ 1000000000000000) (hb : -1000000000000000 ≤ b ∧ b ≤ 1000000000000000) : Calls Tryz.prog 144 #[.int .i64 a, .int .i64 b] w (GivesEl ga gb (twoOf 1 a b) w) := by
  obtain ⟨ha1, ha2⟩ := ha
  obtain ⟨hb1, hb2⟩ := hb
  have hl := limited_any (a + b) ga gb w hG
  clear hG
  have HE : Hid (twoOf 1 a b = limited (a + b, true)) := rfl
  obtain ⟨r, hr⟩ : ∃ r, limited (a + b, true) = r := ⟨_, rfl⟩
  rw [hr] at hl HE
  obtain ⟨r1, r2⟩ := r
  clear hr
  have HL := hide hl
  clear hl
  obtain ⟨s, hs⟩ : ∃ s, a + b = s := ⟨_, rfl⟩
  rw [hs] at HL
  obtain ⟨ev, hev⟩ : ∃ ev, ev = errV ga gb r2 := ⟨_, rfl⟩
  go_enter Tryz.func144, Tryz.ntmps144
  go_wp2_with (go_at_call 135; refine (unhide HL).mono ?_; rintro e w1 ⟨rfl, q, rfl⟩; simp only [← hev])
  go_ret2
  rw [hev]
  exact gives_el HE.out rfl

set_option maxHeartbeats 400000 in
theorem opSub (a b : Int) (ga gb : Addr) (w : World) (hG : Gl w ga gb) (ha : -1000000000000000 ≤ a ∧ a ≤ 1000000000000000) (hb : -1000000000000000 ≤ b ∧ b ≤ 1000000000000000) : Calls Tryz.prog 145 #[.int .i64 a, .int .i64 b] w (GivesEl ga gb (twoOf 2 a b) w) := by
  obtain ⟨ha1, ha2⟩ := ha
  obtain ⟨hb1, hb2⟩ := hb
  have hl := limited_any (a - b) ga gb w hG
  clear hG
  have HE : Hid (twoOf 2 a b = limited (a - b, true)) := rfl
  obtain ⟨r, hr⟩ : ∃ r, limited (a - b, true) = r := ⟨_, rfl⟩
  rw [hr] at hl HE
  obtain ⟨r1, r2⟩ := r
  clear hr
  have HL := hide hl
  clear hl
  obtain ⟨s, hs⟩ : ∃ s, a - b = s := ⟨_, rfl⟩
  rw [hs] at HL
  obtain ⟨ev, hev⟩ : ∃ ev, ev = errV ga gb r2 := ⟨_, rfl⟩
  go_enter Tryz.func145, Tryz.ntmps145
  go_wp2_with (go_at_call 135; refine (unhide HL).mono ?_; rintro e w1 ⟨rfl, q, rfl⟩; simp only [← hev])
  go_ret2
  rw [hev]
  exact gives_el HE.out rfl


theorem magnitude_eq (v : Int) (w : World) (hv : -1000000000000000 ≤ v ∧ v ≤ 1000000000000000) (m : Int) (h : Hid ((if v < 0 then -v else v) = m)) : Calls Tryz.prog 171 #[.int .i64 v] w fun e w' => e = .returned (.int .i64 m) ∧ w' = w := by
  rw [← unhide h]; exact magnitude_any v w hv

set_option maxHeartbeats 1000000 in
theorem opMul (a b : Int) (ga gb : Addr) (w : World) (hG : Gl w ga gb) (ha : -1000000000000000 ≤ a ∧ a ≤ 1000000000000000) (hb : -1000000000000000 ≤ b ∧ b ≤ 1000000000000000) : Calls Tryz.prog 134 #[.int .i64 a, .int .i64 b] w (GivesEl ga gb (twoOf 3 a b) w) := by
  have hc := hG.big
  clear hG
  have HA := hide ha
  have HB := hide hb
  obtain ⟨ha1, ha2⟩ := ha
  obtain ⟨hb1, hb2⟩ := hb
  by_cases h0 : a = 0
  · subst h0
    have HE : Hid (twoOf 3 0 b = (0, 0)) := by show _ = _; simp [twoOf, timesOf, inM, limited]
    go_enter Tryz.func134, Tryz.ntmps134
    go_wp2
    go_ret2
    exact gives_el (c := 0) (q := 0) HE.out rfl
  have q0 : (a != 0) = true := by simp [h0]
  obtain ⟨x, hx⟩ : ∃ x, (if b < 0 then -b else b) = x := ⟨_, rfl⟩
  obtain ⟨y, hy⟩ : ∃ y, (if a < 0 then -a else a) = y := ⟨_, rfl⟩
  have HX := hide hx
  have HY := hide hy
  have hy0 : 0 < y := by rw [← hy]; split <;> omega
  have hyn : ¬ y = 0 := by omega
  have hyb : y ≤ 1000000000000000 := by rw [← hy]; split <;> omega
  have hx0 : 0 ≤ x := by rw [← hx]; split <;> omega
  have hxb : x ≤ 1000000000000000 := by rw [← hx]; split <;> omega
  have hxy : x * y = b * a ∨ x * y = -(b * a) := prod_sign (by rw [← hx]; split <;> simp) (by rw [← hy]; split <;> simp)
  rw [Int.mul_comm b a] at hxy
  have hp0 : 0 ≤ x * y := Int.mul_nonneg (by omega) (by omega)
  have hq : (1000000000000000 : Int).tdiv y < x ↔ 1000000000000000 < x * y := tdiv_lt hy0
  obtain ⟨t, ht⟩ : ∃ t, (1000000000000000 : Int).tdiv y = t := ⟨_, rfl⟩
  have htb : 0 ≤ t ∧ t ≤ 1000000000000000 := by
    rw [← ht, Int.tdiv_eq_ediv_of_nonneg (by omega)]
    exact ⟨Int.ediv_nonneg (by omega) (by omega), Int.ediv_le_self _ (by omega)⟩
  obtain ⟨ht1, ht2⟩ := htb
  rw [ht] at hq
  obtain ⟨pr, hpr⟩ : ∃ pr, a * b = pr := ⟨_, rfl⟩
  rw [hpr] at hxy
  have HT : Hid (twoOf 3 a b = limited (timesOf a b)) := rfl
  by_cases hbig : t < x
  · rw [times_big (by rw [hpr]; exact inM_not (by have := hq.mp hbig; omega)), lim_bad] at HT
    clear hq hxy hp0 h0 hx hy hpr
    go_enter Tryz.func134, Tryz.ntmps134
    go_wp2_with (first
      | (go_at_call_of 171 (Value.int .i64 b); refine (magnitude_eq _ _ (unhide HB) _ HX).mono ?_; rintro e w1 ⟨rfl, rfl⟩)
      | (go_at_call_of 171 (Value.int .i64 a); refine (magnitude_eq _ _ (unhide HA) _ HY).mono ?_; rintro e w1 ⟨rfl, rfl⟩))
    go_quiet (fail)
    go_wp2
    go_ret2
    exact gives_el (c := 7) HT.out rfl
  · have hle : x * y ≤ 1000000000000000 := by
      by_cases h' : 1000000000000000 < x * y
      · exact absurd (hq.mpr h') hbig
      · omega
    have hpb1 : -1000000000000000 ≤ pr := by omega
    have hpb2 : pr ≤ 1000000000000000 := by omega
    rw [times_ok (by rw [hpr]; exact inM_of hpb1 hpb2), hpr, lim_ok (inM_of hpb1 hpb2)] at HT
    clear hq hxy hp0 hle h0 hx hy
    go_enter Tryz.func134, Tryz.ntmps134
    go_wp2_with (first
      | (go_at_call_of 171 (Value.int .i64 b); refine (magnitude_eq _ _ (unhide HB) _ HX).mono ?_; rintro e w1 ⟨rfl, rfl⟩)
      | (go_at_call_of 171 (Value.int .i64 a); refine (magnitude_eq _ _ (unhide HA) _ HY).mono ?_; rintro e w1 ⟨rfl, rfl⟩))
    go_ret2
    exact gives_el (c := 0) (q := 0) HT.out rfl

set_option maxHeartbeats 1000000 in
theorem opDiv (a b : Int) (ga gb : Addr) (w : World) (hG : Gl w ga gb) (ha : -1000000000000000 ≤ a ∧ a ≤ 1000000000000000) (hb : -1000000000000000 ≤ b ∧ b ≤ 1000000000000000) : Calls Tryz.prog 146 #[.int .i64 a, .int .i64 b] w (GivesEl ga gb (twoOf 4 a b) w) := by
  have hc := hG.no
  clear hG
  obtain ⟨ha1, ha2⟩ := ha
  obtain ⟨hb1, hb2⟩ := hb
  have HE : Hid (twoOf 4 a b = (if a = 0 ∧ b = 0 then (1, 0) else if b = 0 ∨ a.tmod b ≠ 0 then (0, 3) else limited (a.tdiv b, true))) := rfl
  by_cases hz : b = 0
  · subst hz
    by_cases h0 : a = 0
    · subst h0
      rw [if_pos ⟨rfl, rfl⟩] at HE
      go_enter Tryz.func146, Tryz.ntmps146
      go_wp2
      go_ret2
      exact gives_el (c := 0) (q := 0) HE.out rfl
    · rw [if_neg (fun h => h0 h.1), if_pos (.inl rfl)] at HE
      have q0 : (a == 0) = false := by simp [h0]
      go_enter Tryz.func146, Tryz.ntmps146
      go_wp2
      go_quiet (fail)
      go_wp2
      go_ret2
      exact gives_el (c := 3) HE.out rfl
  have qz : (b == 0) = false := by simp [hz]
  rw [if_neg (fun h => hz h.2)] at HE
  obtain ⟨m, hm⟩ : ∃ m, a.tmod b = m := ⟨_, rfl⟩
  rw [hm] at HE
  by_cases hm0 : m = 0
  · subst hm0
    rw [if_neg (by simp [hz])] at HE
    have hd : -1000000000000000 ≤ a.tdiv b ∧ a.tdiv b ≤ 1000000000000000 := by
      have h1 := Int.natAbs_tdiv_le_natAbs a b
      omega
    obtain ⟨v, hv⟩ : ∃ v, a.tdiv b = v := ⟨_, rfl⟩
    rw [hv] at HE hd
    rw [lim_ok (inM_of hd.1 hd.2)] at HE
    obtain ⟨hd1, hd2⟩ := hd
    by_cases h0 : a = 0
    · subst h0
      have hv0 : v = 0 := by rw [← hv]; simp
      subst hv0
      clear hv hm
      go_enter Tryz.func146, Tryz.ntmps146
      go_wp2
      go_ret2
      exact gives_el (c := 0) (q := 0) HE.out rfl
    · have q0 : (a == 0) = false := by simp [h0]
      go_enter Tryz.func146, Tryz.ntmps146
      go_wp2
      go_ret2
      exact gives_el (c := 0) (q := 0) HE.out rfl
  · rw [if_pos (.inr hm0)] at HE
    have qm : (m != 0) = true := by simp [hm0]
    have h0 : ¬ a = 0 := by rintro rfl; simp at hm; exact hm0 hm.symm
    have q0 : (a == 0) = false := by simp [h0]
    go_enter Tryz.func146, Tryz.ntmps146
    go_wp2
    go_quiet (fail)
    go_wp2
    go_ret2
    exact gives_el (c := 3) HE.out rfl

end Go.Proofs.YtkgcmpmgaghdhaaGreatDoor
namespace Go.Proofs.YtkgcmpmgaghdhaaGreatDoor
open Go.RowKit Go.Shelf

set_option maxHeartbeats 400000 in
theorem implTruth_any (b : Bool) (w : World) (r : Int) (hr : Hid (truth b = r)) : Calls Tryz.prog 46 #[.bool b] w fun e w' => e = .returned (.int .i64 r) ∧ w' = w := by
  rw [← unhide hr]
  cases b
  all_goals
    go_enter Tryz.func46, Tryz.ntmps46
    go_wp2
    go_ret
    exact ⟨rfl, rfl⟩

set_option maxHeartbeats 400000 in
theorem opMin (a b : Int) (ga gb : Addr) (w : World) (ha : -1000000000000000 ≤ a ∧ a ≤ 1000000000000000) (hb : -1000000000000000 ≤ b ∧ b ≤ 1000000000000000) : Calls Tryz.prog 147 #[.int .i64 a, .int .i64 b] w (GivesEl ga gb (twoOf 5 a b) w) := by
  have HE := hide (two_order_eq ha hb 5 (by omega))
  clear ha hb
  by_cases h : a < b
  · have HO : Hid (orderOf 5 a b = a) := by show _ = _; simp [orderOf, h]
    rw [unhide HO] at HE
    go_enter Tryz.func147, Tryz.ntmps147
    go_wp2
    go_ret2
    first | exact gives_el (c := 0) (q := 0) HE.out rfl | (rw [show min a b = a by omega]; exact gives_el (c := 0) (q := 0) HE.out rfl)
  · have HO : Hid (orderOf 5 a b = b) := by show _ = _; simp [orderOf, h]
    rw [unhide HO] at HE
    by_cases h2 : a = b
    · subst h2
      go_enter Tryz.func147, Tryz.ntmps147
      go_wp2
      go_ret2
      first | exact gives_el (c := 0) (q := 0) HE.out rfl | (rw [show min a a = a by omega]; exact gives_el (c := 0) (q := 0) HE.out rfl)
    · have h3 : b < a := by omega
      clear h2
      go_enter Tryz.func147, Tryz.ntmps147
      go_wp2
      go_ret2
      first | exact gives_el (c := 0) (q := 0) HE.out rfl | (rw [show min a b = b by omega]; exact gives_el (c := 0) (q := 0) HE.out rfl)

set_option maxHeartbeats 400000 in
theorem opMax (a b : Int) (ga gb : Addr) (w : World) (ha : -1000000000000000 ≤ a ∧ a ≤ 1000000000000000) (hb : -1000000000000000 ≤ b ∧ b ≤ 1000000000000000) : Calls Tryz.prog 148 #[.int .i64 a, .int .i64 b] w (GivesEl ga gb (twoOf 6 a b) w) := by
  have HE := hide (two_order_eq ha hb 6 (by omega))
  clear ha hb
  by_cases h : a < b
  · have HO : Hid (orderOf 6 a b = b) := by show _ = _; simp [orderOf, h]
    rw [unhide HO] at HE
    go_enter Tryz.func148, Tryz.ntmps148
    go_wp2
    go_ret2
    first | exact gives_el (c := 0) (q := 0) HE.out rfl | (rw [show max a b = b by omega]; exact gives_el (c := 0) (q := 0) HE.out rfl)
  · have HO : Hid (orderOf 6 a b = a) := by show _ = _; simp [orderOf, h]
    rw [unhide HO] at HE
    by_cases h2 : a = b
    · subst h2
      go_enter Tryz.func148, Tryz.ntmps148
      go_wp2
      go_ret2
      first | exact gives_el (c := 0) (q := 0) HE.out rfl | (rw [show max a a = a by omega]; exact gives_el (c := 0) (q := 0) HE.out rfl)
    · have h3 : b < a := by omega
      clear h2
      go_enter Tryz.func148, Tryz.ntmps148
      go_wp2
      go_ret2
      first | exact gives_el (c := 0) (q := 0) HE.out rfl | (rw [show max a b = a by omega]; exact gives_el (c := 0) (q := 0) HE.out rfl)

set_option maxHeartbeats 400000 in
theorem opEqual (a b : Int) (ga gb : Addr) (w : World) (ha : -1000000000000000 ≤ a ∧ a ≤ 1000000000000000) (hb : -1000000000000000 ≤ b ∧ b ≤ 1000000000000000) : Calls Tryz.prog 151 #[.int .i64 a, .int .i64 b] w (GivesEl ga gb (twoOf 9 a b) w) := by
  have HE := hide (two_order_eq ha hb 9 (by omega))
  have HO : Hid (orderOf 9 a b = truth (decide (a = b))) := rfl
  rw [unhide HO] at HE
  clear ha hb
  by_cases h : a = b
  · have HD : Hid (truth true = 1) := rfl
    rw [decide_eq_true h] at HE
    have qe : (a == b) = true := by simp [h]
    clear h
    go_enter Tryz.func151, Tryz.ntmps151
    go_wp2_with (go_at_call 46; refine (implTruth_any _ _ _ HD).mono ?_; rintro e w1 ⟨rfl, rfl⟩)
    go_ret2
    exact gives_el (c := 0) (q := 0) HE.out rfl
  · have HD : Hid (truth false = 0) := rfl
    rw [decide_eq_false h] at HE
    have qe : (a == b) = false := by simp [h]
    clear h
    go_enter Tryz.func151, Tryz.ntmps151
    go_wp2_with (go_at_call 46; refine (implTruth_any _ _ _ HD).mono ?_; rintro e w1 ⟨rfl, rfl⟩)
    go_ret2
    exact gives_el (c := 0) (q := 0) HE.out rfl

set_option maxHeartbeats 400000 in
theorem opNe (a b : Int) (ga gb : Addr) (w : World) (ha : -1000000000000000 ≤ a ∧ a ≤ 1000000000000000) (hb : -1000000000000000 ≤ b ∧ b ≤ 1000000000000000) : Calls Tryz.prog 152 #[.int .i64 a, .int .i64 b] w (GivesEl ga gb (twoOf 10 a b) w) := by
  have HE := hide (two_order_eq ha hb 10 (by omega))
  have HO : Hid (orderOf 10 a b = truth (decide (a ≠ b))) := rfl
  rw [unhide HO] at HE
  clear ha hb
  by_cases h : a ≠ b
  · have HD : Hid (truth true = 1) := rfl
    rw [decide_eq_true h] at HE
    have qe : (a != b) = true := by simpa using h
    clear h
    go_enter Tryz.func152, Tryz.ntmps152
    go_wp2_with (go_at_call 46; refine (implTruth_any _ _ _ HD).mono ?_; rintro e w1 ⟨rfl, rfl⟩)
    go_ret2
    exact gives_el (c := 0) (q := 0) HE.out rfl
  · have HD : Hid (truth false = 0) := rfl
    rw [decide_eq_false h] at HE
    have qe : (a != b) = false := by simpa using h
    clear h
    go_enter Tryz.func152, Tryz.ntmps152
    go_wp2_with (go_at_call 46; refine (implTruth_any _ _ _ HD).mono ?_; rintro e w1 ⟨rfl, rfl⟩)
    go_ret2
    exact gives_el (c := 0) (q := 0) HE.out rfl

set_option maxHeartbeats 400000 in
theorem opLt (a b : Int) (ga gb : Addr) (w : World) (ha : -1000000000000000 ≤ a ∧ a ≤ 1000000000000000) (hb : -1000000000000000 ≤ b ∧ b ≤ 1000000000000000) : Calls Tryz.prog 153 #[.int .i64 a, .int .i64 b] w (GivesEl ga gb (twoOf 11 a b) w) := by
  have HE := hide (two_order_eq ha hb 11 (by omega))
  have HO : Hid (orderOf 11 a b = truth (decide (a < b))) := rfl
  rw [unhide HO] at HE
  clear ha hb
  by_cases h : a < b
  · have HD : Hid (truth true = 1) := rfl
    rw [decide_eq_true h] at HE
    go_enter Tryz.func153, Tryz.ntmps153
    go_wp2_with (go_at_call 46; refine (implTruth_any _ _ _ HD).mono ?_; rintro e w1 ⟨rfl, rfl⟩)
    go_ret2
    exact gives_el (c := 0) (q := 0) HE.out rfl
  · have HD : Hid (truth false = 0) := rfl
    rw [decide_eq_false h] at HE
    go_enter Tryz.func153, Tryz.ntmps153
    go_wp2_with (go_at_call 46; refine (implTruth_any _ _ _ HD).mono ?_; rintro e w1 ⟨rfl, rfl⟩)
    go_ret2
    exact gives_el (c := 0) (q := 0) HE.out rfl

set_option maxHeartbeats 400000 in
theorem opLe (a b : Int) (ga gb : Addr) (w : World) (ha : -1000000000000000 ≤ a ∧ a ≤ 1000000000000000) (hb : -1000000000000000 ≤ b ∧ b ≤ 1000000000000000) : Calls Tryz.prog 154 #[.int .i64 a, .int .i64 b] w (GivesEl ga gb (twoOf 12 a b) w) := by
  have HE := hide (two_order_eq ha hb 12 (by omega))
  have HO : Hid (orderOf 12 a b = truth (decide (a ≤ b))) := rfl
  rw [unhide HO] at HE
  clear ha hb
  by_cases h : a ≤ b
  · have HD : Hid (truth true = 1) := rfl
    rw [decide_eq_true h] at HE
    go_enter Tryz.func154, Tryz.ntmps154
    go_wp2_with (go_at_call 46; refine (implTruth_any _ _ _ HD).mono ?_; rintro e w1 ⟨rfl, rfl⟩)
    go_ret2
    exact gives_el (c := 0) (q := 0) HE.out rfl
  · have HD : Hid (truth false = 0) := rfl
    rw [decide_eq_false h] at HE
    go_enter Tryz.func154, Tryz.ntmps154
    go_wp2_with (go_at_call 46; refine (implTruth_any _ _ _ HD).mono ?_; rintro e w1 ⟨rfl, rfl⟩)
    go_ret2
    exact gives_el (c := 0) (q := 0) HE.out rfl

set_option maxHeartbeats 400000 in
theorem opGe (a b : Int) (ga gb : Addr) (w : World) (ha : -1000000000000000 ≤ a ∧ a ≤ 1000000000000000) (hb : -1000000000000000 ≤ b ∧ b ≤ 1000000000000000) : Calls Tryz.prog 155 #[.int .i64 a, .int .i64 b] w (GivesEl ga gb (twoOf 13 a b) w) := by
  have HE := hide (two_order_eq ha hb 13 (by omega))
  have HO : Hid (orderOf 13 a b = truth (decide (b ≤ a))) := rfl
  rw [unhide HO] at HE
  clear ha hb
  by_cases h : b ≤ a
  · have HD : Hid (truth true = 1) := rfl
    rw [decide_eq_true h] at HE
    go_enter Tryz.func155, Tryz.ntmps155
    go_wp2_with (go_at_call 46; refine (implTruth_any _ _ _ HD).mono ?_; rintro e w1 ⟨rfl, rfl⟩)
    go_ret2
    exact gives_el (c := 0) (q := 0) HE.out rfl
  · have HD : Hid (truth false = 0) := rfl
    rw [decide_eq_false h] at HE
    go_enter Tryz.func155, Tryz.ntmps155
    go_wp2_with (go_at_call 46; refine (implTruth_any _ _ _ HD).mono ?_; rintro e w1 ⟨rfl, rfl⟩)
    go_ret2
    exact gives_el (c := 0) (q := 0) HE.out rfl

set_option maxHeartbeats 400000 in
theorem opGt (a b : Int) (ga gb : Addr) (w : World) (ha : -1000000000000000 ≤ a ∧ a ≤ 1000000000000000) (hb : -1000000000000000 ≤ b ∧ b ≤ 1000000000000000) : Calls Tryz.prog 156 #[.int .i64 a, .int .i64 b] w (GivesEl ga gb (twoOf 14 a b) w) := by
  have HE := hide (two_order_eq ha hb 14 (by omega))
  have HO : Hid (orderOf 14 a b = truth (decide (b < a))) := rfl
  rw [unhide HO] at HE
  clear ha hb
  by_cases h : b < a
  · have HD : Hid (truth true = 1) := rfl
    rw [decide_eq_true h] at HE
    go_enter Tryz.func156, Tryz.ntmps156
    go_wp2_with (go_at_call 46; refine (implTruth_any _ _ _ HD).mono ?_; rintro e w1 ⟨rfl, rfl⟩)
    go_ret2
    exact gives_el (c := 0) (q := 0) HE.out rfl
  · have HD : Hid (truth false = 0) := rfl
    rw [decide_eq_false h] at HE
    go_enter Tryz.func156, Tryz.ntmps156
    go_wp2_with (go_at_call 46; refine (implTruth_any _ _ _ HD).mono ?_; rintro e w1 ⟨rfl, rfl⟩)
    go_ret2
    exact gives_el (c := 0) (q := 0) HE.out rfl

end Go.Proofs.YtkgcmpmgaghdhaaGreatDoor
namespace Go.Proofs.YtkgcmpmgaghdhaaGreatDoor
open Go.RowKit

set_option maxHeartbeats 1000000 in
theorem residue_any (a b : Int) (w : World) (ha : -1000000000000000 ≤ a ∧ a ≤ 1000000000000000) (hb : -1000000000000000 ≤ b ∧ b ≤ 1000000000000000) : Calls Tryz.prog 133 #[.int .i64 a, .int .i64 b] w fun e w' => e = .returned (.int .i64 (modOf a b)) ∧ w' = w := by
  obtain ⟨ha1, ha2⟩ := ha
  obtain ⟨hb1, hb2⟩ := hb
  by_cases h0 : a = 0
  · subst h0
    have HE : Hid (modOf 0 b = b) := rfl
    go_enter Tryz.func133, Tryz.ntmps133
    go_wp2
    go_ret
    exact ⟨ret_int HE.out.symm, rfl⟩
  have q0 : (a == 0) = false := by simp [h0]
  have hm : -1000000000000000 ≤ b.tmod a ∧ b.tmod a ≤ 1000000000000000 := by
    have := Int.natAbs_tmod b a
    have h3 : b.natAbs % a.natAbs ≤ b.natAbs := Nat.mod_le _ _
    omega
  obtain ⟨m, hm0⟩ : ∃ m, b.tmod a = m := ⟨_, rfl⟩
  rw [hm0] at hm
  obtain ⟨hm1, hm2⟩ := hm
  by_cases hz : m = 0
  · subst hz
    have HE : Hid (modOf a b = 0) := by show _ = _; unfold modOf; rw [if_neg h0, hm0]; simp
    go_enter Tryz.func133, Tryz.ntmps133
    go_wp2
    go_ret
    exact ⟨ret_int HE.out.symm, rfl⟩
  have q1 : (m != 0) = true := by simp [hz]
  by_cases hs : m < 0
  · by_cases ht : a < 0
    · have HE : Hid (modOf a b = m) := by show _ = _; unfold modOf; rw [if_neg h0, hm0]; simp [hs, ht]
      clear hz
      go_enter Tryz.func133, Tryz.ntmps133
      go_wp2
      go_ret
      exact ⟨ret_int HE.out.symm, rfl⟩
    · have HE : Hid (modOf a b = m + a) := by show _ = _; unfold modOf; rw [if_neg h0, hm0]; simp [hs, ht, hz]
      clear hz
      go_enter Tryz.func133, Tryz.ntmps133
      go_wp2
      go_ret
      exact ⟨ret_int HE.out.symm, rfl⟩
  · by_cases ht : a < 0
    · have HE : Hid (modOf a b = m + a) := by show _ = _; unfold modOf; rw [if_neg h0, hm0]; simp [hs, ht, hz]
      clear hz
      go_enter Tryz.func133, Tryz.ntmps133
      go_wp2
      go_ret
      exact ⟨ret_int HE.out.symm, rfl⟩
    · have HE : Hid (modOf a b = m) := by show _ = _; unfold modOf; rw [if_neg h0, hm0]; simp [hs, ht]
      clear hz
      go_enter Tryz.func133, Tryz.ntmps133
      go_wp2
      go_ret
      exact ⟨ret_int HE.out.symm, rfl⟩

end Go.Proofs.YtkgcmpmgaghdhaaGreatDoor
namespace Go.Proofs.YtkgcmpmgaghdhaaGreatDoor
open Go.RowKit Go.Shelf

theorem mod_lim {a b : Int} (ha : -1000000000000000 ≤ a ∧ a ≤ 1000000000000000) (hb : -1000000000000000 ≤ b ∧ b ≤ 1000000000000000) : twoOf 7 a b = (modOf a b, 0) := by
  have h : twoOf 7 a b = limited (modOf a b, true) := rfl
  have hm : -1000000000000000 ≤ b.tmod a ∧ b.tmod a ≤ 1000000000000000 := by
    have := Int.natAbs_tmod b a
    have h3 : b.natAbs % a.natAbs ≤ b.natAbs := Nat.mod_le _ _
    omega
  rw [h, lim_ok]
  unfold modOf
  by_cases h0 : a = 0
  · rw [if_pos h0]; exact inM_of hb.1 hb.2
  · rw [if_neg h0]
    split
    · rename_i hs
      obtain ⟨hs1, hs2⟩ := hs
      by_cases h1 : b.tmod a < 0 <;> by_cases h2 : a < 0
      all_goals simp only [h1, h2, decide_true, decide_false, ne_eq, not_true_eq_false] at hs2
      all_goals exact inM_of (by omega) (by omega)
    · exact inM_of hm.1 hm.2

set_option maxHeartbeats 1000000 in
theorem opMod (a b : Int) (ga gb : Addr) (w : World) (ha : -1000000000000000 ≤ a ∧ a ≤ 1000000000000000) (hb : -1000000000000000 ≤ b ∧ b ≤ 1000000000000000) : Calls Tryz.prog 149 #[.int .i64 a, .int .i64 b] w (GivesEl ga gb (twoOf 7 a b) w) := by
  have HT := hide (mod_lim ha hb)
  have HR := hide (fun W => residue_any a b W ha hb)
  obtain ⟨r, hr⟩ : ∃ r, modOf a b = r := ⟨_, rfl⟩
  rw [hr] at HT HR
  clear ha hb hr
  go_enter Tryz.func149, Tryz.ntmps149
  go_wp2_with (go_at_call 133; refine (unhide HR _).mono ?_; rintro e w1 ⟨rfl, hw1⟩; obtain rfl := hw1.symm)
  go_ret2
  exact gives_el (c := 0) (q := 0) HT.out rfl

theorem opMul_eq (a b : Int) (ga gb : Addr) (w : World) (hG : Gl w ga gb) (ha : -1000000000000000 ≤ a ∧ a ≤ 1000000000000000) (hb : -1000000000000000 ≤ b ∧ b ≤ 1000000000000000) (r1 r2 : Int) (hr : Hid (twoOf 3 a b = (r1, r2))) : Calls Tryz.prog 134 #[.int .i64 a, .int .i64 b] w fun e w' => e = .returned (.tuple #[.int .i64 r1, errV ga gb r2]) ∧ ∃ q, w' = w.drewN q := by
  have := opMul a b ga gb w hG ha hb
  rw [unhide hr] at this
  exact this

theorem times3_ok {x a y : Int} (h : x * a = y) (hy : inM y = true) : twoOf 3 x a = (y, 0) := by
  have e : twoOf 3 x a = limited (timesOf x a) := rfl
  rw [e, times_ok (by rw [h]; exact hy), h, lim_ok hy]
theorem times3_big {x a : Int} (hy : inM (x * a) = false) : twoOf 3 x a = (0, 7) := by
  have e : twoOf 3 x a = limited (timesOf x a) := rfl
  rw [e, times_big hy, lim_bad]

/-- The powers up to n reckoned by a loop are those of b. -/
structure PowLoop (a b : Int) (n : Nat) : Prop where
  same : a ^ n = a ^ b.toNat
  big : 2 ≤ a.natAbs ∨ (a = 0 ∨ a = 1 ∨ a = -1)

theorem pow_small {a : Int} (h : a = 0 ∨ a = 1 ∨ a = -1) (k : Nat) : a ^ k = 0 ∨ a ^ k = 1 ∨ a ^ k = -1 := by
  induction k with
  | zero => simp
  | succ k ih =>
    rw [Int.pow_succ]
    rcases ih with e | e | e <;> rw [e] <;> rcases h with rfl | rfl | rfl <;> simp

theorem small_in {x : Int} (h : x = 0 ∨ x = 1 ∨ x = -1) : inM x = true := by rcases h with rfl | rfl | rfl <;> rfl

theorem pow_stays {a b : Int} {n k : Nat} (h : PowLoop a b n) (hk : k ≤ n) (hb : inM (a ^ k) = false) : powOf a b = (0, false) := by
  rcases h.big with h2 | h2
  · exact pow_big (by rw [← h.same]; exact pow_step_big h2 k n hk hb)
  · rw [small_in (pow_small h2 k)] at hb; cases hb

theorem pow8_big {a b : Int} (hb : 0 ≤ b) (h : powOf a b = (0, false)) : twoOf 8 a b = (0, 7) := by
  have e : twoOf 8 a b = (if b < 0 then (0, 3) else limited (powOf a b)) := rfl
  rw [e, if_neg (by omega), h, lim_bad]
theorem pow8_ok {a b x : Int} {n : Nat} (hb : 0 ≤ b) (h : PowLoop a b n) (hx : a ^ n = x) (hi : inM x = true) : twoOf 8 a b = (x, 0) := by
  have e : twoOf 8 a b = (if b < 0 then (0, 3) else limited (powOf a b)) := rfl
  have hx' : a ^ b.toNat = x := by rw [← h.same]; exact hx
  rw [e, if_neg (by omega), pow_ok (by rw [hx']; exact hi), hx', lim_ok hi]

theorem abs_cases (a : Int) : 2 ≤ a.natAbs ∨ (a = 0 ∨ a = 1 ∨ a = -1) := by omega

theorem powLoop_plain {a b : Int} {n : Nat} (hn : b = n) : PowLoop a b n := ⟨by rw [hn]; rfl, abs_cases a⟩

theorem powLoop_small {a b : Int} (ha : a = 0 ∨ a = 1 ∨ a = -1) (hb : 2 < b) {n : Nat} (hn : 2 - b.tmod 2 = (n : Int)) : PowLoop a b n := by
  refine ⟨?_, .inr ha⟩
  have e : b.tmod 2 = ((b.toNat % 2 : Nat) : Int) := by rw [Int.tmod_eq_emod_of_nonneg (by omega)]; omega
  rcases ha with rfl | rfl | rfl
  · rw [Int.zero_pow (by omega), Int.zero_pow (by omega)]
  · rw [Int.one_pow, Int.one_pow]
  · rw [neg_one_pow, neg_one_pow]
    have : n % 2 = b.toNat % 2 := by omega
    rw [this]

end Go.Proofs.YtkgcmpmgaghdhaaGreatDoor
namespace Go.Proofs.YtkgcmpmgaghdhaaGreatDoor
open Go.RowKit Go.Shelf

set_option maxHeartbeats 2000000 in
theorem power_loop (a b : Int) (n : Nat) (ga gb : Addr) (w : World) (hG : Gl w ga gb) (ha : -1000000000000000 ≤ a ∧ a ≤ 1000000000000000) (hb0 : 0 ≤ b) (hb : b ≤ 1000000000000000) (hP : PowLoop a b n)
    (hcase : (¬ (withinB a (-1) 1 = true ∧ 2 < b) ∧ b = (n : Int)) ∨ (withinB a (-1) 1 = true ∧ 2 < b ∧ 2 - b.tmod 2 = (n : Int))) :
    Calls Tryz.prog 150 #[.int .i64 a, .int .i64 b] w (GivesEl ga gb (twoOf 8 a b) w) := by
  have HG := hide hG
  have HA := hide ha
  have HP := hide hP
  have HB0 := hide hb0
  have hnn := neq_nil_nil
  clear hG hP
  obtain ⟨wi, hwi⟩ : ∃ wi, withinB a (-1) 1 = wi := ⟨_, rfl⟩
  rw [hwi] at hcase
  have HW := hide hwi
  clear hwi
  have hmb : 0 ≤ b.tmod 2 ∧ b.tmod 2 ≤ 1 := by rw [Int.tmod_eq_emod_of_nonneg (by omega)]; omega
  obtain ⟨m, hm⟩ : ∃ m, b.tmod 2 = m := ⟨_, rfl⟩
  rw [hm] at hcase hmb
  obtain ⟨hm1, hm2⟩ := hmb
  have hn16 : (n : Int) ≤ 1000000000000000 := by rcases hcase with h | h <;> omega
  rcases hcase with ⟨h1, h2⟩ | ⟨h1, h2, h3⟩
  · subst h2
    cases wi with
    | false =>
      go_enter Tryz.func150, Tryz.ntmps150
      go_wp2_with (go_at_call 115; refine (isWithin_eq _ _ _ _ _ HW).mono ?_; rintro e w ⟨rfl, rfl⟩)
      go_loopw [6, 7, 21] (fun v _ i wr => ∃ (k : Nat) (x : Int) (q : Nat), k ≤ n ∧ i = .int .i64 k ∧ v = .int .i64 x ∧ Hid (a ^ k = x) ∧ Hid (inM x = true) ∧ wr = w.drewN q) (fun _ _ i _ => n - (intOf i).toNat)
      case atStart => exact ⟨0, 1, 0, Nat.zero_le _, rfl, rfl, hide (by simp), hide rfl, rfl⟩
      case round =>
        obtain ⟨k, x, q, hk, rfl, rfl, hx, hin, rfl⟩ := hrel
        have hxb := inM_bd (unhide hin)
        by_cases hlt : k < n
        · have hps : a ^ (k + 1) = x * a := by rw [Int.pow_succ, unhide hx]
          by_cases hbig : inM (x * a) = true
          · obtain ⟨y, hy⟩ : ∃ y, x * a = y := ⟨_, rfl⟩
            have HT := hide (times3_ok hy (by rw [← hy]; exact hbig))
            rw [hy] at hps hbig
            have HPS := hide hps
            have HIN := hide hbig
            clear hy hbig hps
            go_wp2_with (go_at_call 134; refine (opMul_eq _ _ ga gb _ ((unhide HG).drewN _) hxb (unhide HA) _ _ HT).mono ?_; rintro e w1 ⟨rfl, q', rfl⟩; simp only [errV_0])
            go_roundw
            case rel => exact ⟨k + 1, y, _, by omega, by go_num, rfl, HPS, HIN, rfl⟩
            case measure => simp [intOf]; omega
          · have hb' : inM (x * a) = false := by simpa using hbig
            have HT := hide (times3_big hb')
            have HE := hide (pow8_big (unhide HB0) (pow_stays (unhide HP) hlt (by rw [hps]; exact hb')))
            clear hbig hb' hps
            go_wp2_with (go_at_call 134; refine (opMul_eq _ _ ga gb _ ((unhide HG).drewN _) hxb (unhide HA) _ _ HT).mono ?_; rintro e w1 ⟨rfl, q', rfl⟩; simp only [errV_7])
            go_ret2
            exact gives_el (c := 7) HE.out rfl
        · have hkn : k = n := by omega
          subst hkn
          have HE := hide (pow8_ok (unhide HB0) (unhide HP) (unhide hx) (unhide hin))
          go_wp2
          go_ret2
          exact gives_el (c := 0) HE.out rfl
    | true =>
      have h3 : ¬ 2 < (n : Int) := fun h => h1 ⟨rfl, h⟩
      clear h1
      go_enter Tryz.func150, Tryz.ntmps150
      go_wp2_with (go_at_call 115; refine (isWithin_eq _ _ _ _ _ HW).mono ?_; rintro e w ⟨rfl, rfl⟩)
      go_loopw [6, 7, 21] (fun v _ i wr => ∃ (k : Nat) (x : Int) (q : Nat), k ≤ n ∧ i = .int .i64 k ∧ v = .int .i64 x ∧ Hid (a ^ k = x) ∧ Hid (inM x = true) ∧ wr = w.drewN q) (fun _ _ i _ => n - (intOf i).toNat)
      case atStart => exact ⟨0, 1, 0, Nat.zero_le _, rfl, rfl, hide (by simp), hide rfl, rfl⟩
      case round =>
        obtain ⟨k, x, q, hk, rfl, rfl, hx, hin, rfl⟩ := hrel
        have hxb := inM_bd (unhide hin)
        by_cases hlt : k < n
        · have hps : a ^ (k + 1) = x * a := by rw [Int.pow_succ, unhide hx]
          by_cases hbig : inM (x * a) = true
          · obtain ⟨y, hy⟩ : ∃ y, x * a = y := ⟨_, rfl⟩
            have HT := hide (times3_ok hy (by rw [← hy]; exact hbig))
            rw [hy] at hps hbig
            have HPS := hide hps
            have HIN := hide hbig
            clear hy hbig hps
            go_wp2_with (go_at_call 134; refine (opMul_eq _ _ ga gb _ ((unhide HG).drewN _) hxb (unhide HA) _ _ HT).mono ?_; rintro e w1 ⟨rfl, q', rfl⟩; simp only [errV_0])
            go_roundw
            case rel => exact ⟨k + 1, y, _, by omega, by go_num, rfl, HPS, HIN, rfl⟩
            case measure => simp [intOf]; omega
          · have hb' : inM (x * a) = false := by simpa using hbig
            have HT := hide (times3_big hb')
            have HE := hide (pow8_big (unhide HB0) (pow_stays (unhide HP) hlt (by rw [hps]; exact hb')))
            clear hbig hb' hps
            go_wp2_with (go_at_call 134; refine (opMul_eq _ _ ga gb _ ((unhide HG).drewN _) hxb (unhide HA) _ _ HT).mono ?_; rintro e w1 ⟨rfl, q', rfl⟩; simp only [errV_7])
            go_ret2
            exact gives_el (c := 7) HE.out rfl
        · have hkn : k = n := by omega
          subst hkn
          have HE := hide (pow8_ok (unhide HB0) (unhide HP) (unhide hx) (unhide hin))
          go_wp2
          go_ret2
          exact gives_el (c := 0) HE.out rfl
  · subst h1
    go_enter Tryz.func150, Tryz.ntmps150
    go_wp2_with (go_at_call 115; refine (isWithin_eq _ _ _ _ _ HW).mono ?_; rintro e w ⟨rfl, rfl⟩)
    go_loopw [6, 7, 21] (fun v _ i wr => ∃ (k : Nat) (x : Int) (q : Nat), k ≤ n ∧ i = .int .i64 k ∧ v = .int .i64 x ∧ Hid (a ^ k = x) ∧ Hid (inM x = true) ∧ wr = w.drewN q) (fun _ _ i _ => n - (intOf i).toNat)
    case atStart => exact ⟨0, 1, 0, Nat.zero_le _, rfl, rfl, hide (by simp), hide rfl, rfl⟩
    case round =>
      obtain ⟨k, x, q, hk, rfl, rfl, hx, hin, rfl⟩ := hrel
      have hxb := inM_bd (unhide hin)
      by_cases hlt : k < n
      · have hps : a ^ (k + 1) = x * a := by rw [Int.pow_succ, unhide hx]
        by_cases hbig : inM (x * a) = true
        · obtain ⟨y, hy⟩ : ∃ y, x * a = y := ⟨_, rfl⟩
          have HT := hide (times3_ok hy (by rw [← hy]; exact hbig))
          rw [hy] at hps hbig
          have HPS := hide hps
          have HIN := hide hbig
          clear hy hbig hps
          go_wp2_with (go_at_call 134; refine (opMul_eq _ _ ga gb _ ((unhide HG).drewN _) hxb (unhide HA) _ _ HT).mono ?_; rintro e w1 ⟨rfl, q', rfl⟩; simp only [errV_0])
          go_roundw
          case rel => exact ⟨k + 1, y, _, by omega, by go_num, rfl, HPS, HIN, rfl⟩
          case measure => simp [intOf]; omega
        · have hb' : inM (x * a) = false := by simpa using hbig
          have HT := hide (times3_big hb')
          have HE := hide (pow8_big (unhide HB0) (pow_stays (unhide HP) hlt (by rw [hps]; exact hb')))
          clear hbig hb' hps
          go_wp2_with (go_at_call 134; refine (opMul_eq _ _ ga gb _ ((unhide HG).drewN _) hxb (unhide HA) _ _ HT).mono ?_; rintro e w1 ⟨rfl, q', rfl⟩; simp only [errV_7])
          go_ret2
          exact gives_el (c := 7) HE.out rfl
      · have hkn : k = n := by omega
        subst hkn
        have HE := hide (pow8_ok (unhide HB0) (unhide HP) (unhide hx) (unhide hin))
        go_wp2
        go_ret2
        exact gives_el (c := 0) HE.out rfl

set_option maxHeartbeats 400000 in
theorem opPow (a b : Int) (ga gb : Addr) (w : World) (hG : Gl w ga gb) (ha : -1000000000000000 ≤ a ∧ a ≤ 1000000000000000) (hb : -1000000000000000 ≤ b ∧ b ≤ 1000000000000000) : Calls Tryz.prog 150 #[.int .i64 a, .int .i64 b] w (GivesEl ga gb (twoOf 8 a b) w) := by
  by_cases h0 : b < 0
  · have hc := hG.no
    have HE : Hid (twoOf 8 a b = (0, 3)) := by
      show _ = _
      have e : twoOf 8 a b = (if b < 0 then (0, 3) else limited (powOf a b)) := rfl
      rw [e, if_pos h0]
    clear hG ha hb
    go_enter Tryz.func150, Tryz.ntmps150
    go_wp2
    go_quiet (fail)
    go_wp2
    go_ret2
    exact gives_el (c := 3) HE.out rfl
  · by_cases hs : withinB a (-1) 1 = true ∧ 2 < b
    · have hm : 0 ≤ b.tmod 2 ∧ b.tmod 2 ≤ 1 := by rw [Int.tmod_eq_emod_of_nonneg (by omega)]; omega
      have hn : 2 - b.tmod 2 = ((2 - b.tmod 2).toNat : Int) := by omega
      have ha' := of_decide_eq_true hs.1
      exact power_loop a b _ ga gb w hG ha (by omega) hb.2 (powLoop_small (by omega) hs.2 hn) (.inr ⟨hs.1, hs.2, hn⟩)
    · have hn : b = (b.toNat : Int) := by omega
      exact power_loop a b _ ga gb w hG ha (by omega) hb.2 (powLoop_plain hn) (.inl ⟨hs, hn⟩)

end Go.Proofs.YtkgcmpmgaghdhaaGreatDoor
namespace Go.Proofs.YtkgcmpmgaghdhaaGreatDoor
open Go.RowKit Go.Shelf

set_option maxHeartbeats 400000 in
theorem opMinT (a b : Int) (w : World) (r : Int) (hr : Hid ((if a < b then a else b) = r)) : Calls Tryz.prog 158 #[.int .i64 a, .int .i64 b] w fun e w' => e = .returned (.int .i64 r) ∧ w' = w := by
  rw [← unhide hr]
  clear hr
  by_cases h : a < b
  · rw [if_pos h]
    go_enter Tryz.func158, Tryz.ntmps158
    go_wp2
    go_ret
    exact ⟨by first | rfl | (simp; done) | (simp; omega), rfl⟩
  · rw [if_neg h]
    by_cases h2 : a = b
    · subst h2
      go_enter Tryz.func158, Tryz.ntmps158
      go_wp2
      go_ret
      exact ⟨by first | rfl | (simp; done) | (simp; omega), rfl⟩
    · have h3 : b < a := by omega
      clear h2
      go_enter Tryz.func158, Tryz.ntmps158
      go_wp2
      go_ret
      exact ⟨by first | rfl | (simp; done) | (simp; omega), rfl⟩

set_option maxHeartbeats 400000 in
theorem opMaxT (a b : Int) (w : World) (r : Int) (hr : Hid ((if a < b then b else a) = r)) : Calls Tryz.prog 159 #[.int .i64 a, .int .i64 b] w fun e w' => e = .returned (.int .i64 r) ∧ w' = w := by
  rw [← unhide hr]
  clear hr
  by_cases h : a < b
  · rw [if_pos h]
    go_enter Tryz.func159, Tryz.ntmps159
    go_wp2
    go_ret
    exact ⟨by first | rfl | (simp; done) | (simp; omega), rfl⟩
  · rw [if_neg h]
    by_cases h2 : a = b
    · subst h2
      go_enter Tryz.func159, Tryz.ntmps159
      go_wp2
      go_ret
      exact ⟨by first | rfl | (simp; done) | (simp; omega), rfl⟩
    · have h3 : b < a := by omega
      clear h2
      go_enter Tryz.func159, Tryz.ntmps159
      go_wp2
      go_ret
      exact ⟨by first | rfl | (simp; done) | (simp; omega), rfl⟩

theorem logic_no {a b op : Int} (h : ¬ ((a = 0 ∨ a = 1) ∧ (b = 0 ∨ b = 1))) (hop : op = 15 ∨ op = 16) : twoOf op a b = (0, 3) := by
  rcases hop with rfl | rfl <;> simp [twoOf] <;> omega
theorem logic_and {a b : Int} (ha : a = 0 ∨ a = 1) (hb : b = 0 ∨ b = 1) : twoOf 15 a b = (if a < b then a else b, 0) := by
  rcases ha with rfl | rfl <;> rcases hb with rfl | rfl <;> decide
theorem logic_or {a b : Int} (ha : a = 0 ∨ a = 1) (hb : b = 0 ∨ b = 1) : twoOf 16 a b = (if a < b then b else a, 0) := by
  rcases ha with rfl | rfl <;> rcases hb with rfl | rfl <;> decide
theorem within01 {a : Int} (h : a = 0 ∨ a = 1) : withinB a 0 1 = true := decide_eq_true (by omega)
theorem within01_no {a : Int} (h : ¬ (a = 0 ∨ a = 1)) : withinB a 0 1 = false := decide_eq_false (by omega)

set_option maxHeartbeats 1000000 in
theorem opLogic (op a b : Int) (ga gb : Addr) (p : Nat) (w : World) (hG : Gl w ga gb) (hop : (op = 15 ∧ w.cell? ⟨p, 0, none⟩ = some (.func (.func 158) #[] #[])) ∨ (op = 16 ∧ w.cell? ⟨p, 0, none⟩ = some (.func (.func 159) #[] #[]))) :
    Calls Tryz.prog 173 #[.int .i64 a, .int .i64 b, .pointer (some ⟨p, 0, none⟩)] w (GivesEl ga gb (twoOf op a b) w) := by
  have hc := hG.no
  clear hG
  by_cases hA : a = 0 ∨ a = 1
  · have HWA := hide (within01 hA)
    by_cases hB : b = 0 ∨ b = 1
    · have HWB := hide (within01 hB)
      rcases hop with ⟨rfl, hf⟩ | ⟨rfl, hf⟩
      · have HE := hide (logic_and hA hB)
        obtain ⟨r, hr⟩ : ∃ r, (if a < b then a else b) = r := ⟨_, rfl⟩
        rw [hr] at HE
        have HR := hide hr
        clear hr hA hB
        go_enter Tryz.func173, Tryz.ntmps173
        go_wp2_with (first
          | (go_at_call_of 174 (Value.int .i64 a); refine (isTruth_eq _ _ _ HWA).mono ?_; rintro e w ⟨rfl, rfl⟩)
          | (go_at_call_of 174 (Value.int .i64 b); refine (isTruth_eq _ _ _ HWB).mono ?_; rintro e w ⟨rfl, rfl⟩)
          | (go_at_call 158; refine (opMinT _ _ _ _ HR).mono ?_; rintro e w ⟨rfl, rfl⟩))
        go_ret2
        exact gives_el (c := 0) (q := 0) HE.out rfl
      · have HE := hide (logic_or hA hB)
        obtain ⟨r, hr⟩ : ∃ r, (if a < b then b else a) = r := ⟨_, rfl⟩
        rw [hr] at HE
        have HR := hide hr
        clear hr hA hB
        go_enter Tryz.func173, Tryz.ntmps173
        go_wp2_with (first
          | (go_at_call_of 174 (Value.int .i64 a); refine (isTruth_eq _ _ _ HWA).mono ?_; rintro e w ⟨rfl, rfl⟩)
          | (go_at_call_of 174 (Value.int .i64 b); refine (isTruth_eq _ _ _ HWB).mono ?_; rintro e w ⟨rfl, rfl⟩)
          | (go_at_call 159; refine (opMaxT _ _ _ _ HR).mono ?_; rintro e w ⟨rfl, rfl⟩))
        go_ret2
        exact gives_el (c := 0) (q := 0) HE.out rfl
    · have HWB := hide (within01_no hB)
      have HE := hide (logic_no (op := op) (a := a) (b := b) (fun h => hB h.2) (by rcases hop with h | h; exact .inl h.1; exact .inr h.1))
      clear hop hA hB
      go_enter Tryz.func173, Tryz.ntmps173
      go_wp2_with (first
        | (go_at_call_of 174 (Value.int .i64 a); refine (isTruth_eq _ _ _ HWA).mono ?_; rintro e w ⟨rfl, rfl⟩)
        | (go_at_call_of 174 (Value.int .i64 b); refine (isTruth_eq _ _ _ HWB).mono ?_; rintro e w ⟨rfl, rfl⟩))
      go_quiet (fail)
      go_wp2
      go_ret2
      exact gives_el (c := 3) HE.out rfl
  · have HWA := hide (within01_no hA)
    have HE := hide (logic_no (op := op) (a := a) (b := b) (fun h => hA h.1) (by rcases hop with h | h; exact .inl h.1; exact .inr h.1))
    clear hop hA
    go_enter Tryz.func173, Tryz.ntmps173
    go_wp2_with (go_at_call 174; refine (isTruth_eq _ _ _ HWA).mono ?_; rintro e w ⟨rfl, rfl⟩)
    go_quiet (fail)
    go_wp2
    go_ret2
    exact gives_el (c := 3) HE.out rfl

/-- The value is a function that gives f of two numbers within bounds, in whatever world holds what lies in w. -/
def OpIs (ga gb : Addr) (f : Int → Int → Int × Int) (v : Value) (w : World) : Prop :=
  ∃ g lb, v = .func (.func g) #[] lb ∧ (∀ args w, (callFunc g args).run Tryz.prog w = .ok (.enter g args) w) ∧ ∀ (W : World) (a b : Int), Below w.heap.size w W → (-1000000000000000 ≤ a ∧ a ≤ 1000000000000000) → (-1000000000000000 ≤ b ∧ b ≤ 1000000000000000) → Calls Tryz.prog g (#[.int .i64 a, .int .i64 b] ++ lb) W (GivesEl ga gb (f a b) W)

theorem OpIs.below {ga gb : Addr} {f : Int → Int → Int × Int} {v : Value} {w w' : World} (h : OpIs ga gb f v w) (hb : Below w.heap.size w w') : OpIs ga gb f v w' := by
  obtain ⟨g, lb, hv, eg, hc⟩ := h
  exact ⟨g, lb, hv, eg, fun W a b hW ha hbb => hc W a b (hb.trans (hW.mono hb.size)) ha hbb⟩

theorem OpIs.alloc {ga gb : Addr} {f : Int → Int → Int × Int} {v : Value} {w : World} (h : OpIs ga gb f v w) (o : Obj) : OpIs ga gb f v (w.alloc o) := h.below ((Below.refl _ _).alloc (Nat.le_refl _) _)

/-- The table of operations; those for truths keep their function in the blocks p and q. -/
def opTab (p q : Nat) : Array Value := #[.nilFunc, .func (.func 144) #[] #[], .func (.func 145) #[] #[], .func (.func 134) #[] #[], .func (.func 146) #[] #[], .func (.func 147) #[] #[], .func (.func 148) #[] #[], .func (.func 149) #[] #[], .func (.func 150) #[] #[], .func (.func 151) #[] #[], .func (.func 152) #[] #[], .func (.func 153) #[] #[], .func (.func 154) #[] #[], .func (.func 155) #[] #[], .func (.func 156) #[] #[], .func (.func 173) #[] #[.pointer (some ⟨p, 0, none⟩)], .func (.func 173) #[] #[.pointer (some ⟨q, 0, none⟩)]]

theorem opTab_is (ga gb : Addr) (p q k : Nat) (v : Value) (w : World) (hG : Gl w ga gb) (hk : 1 ≤ k ∧ k ≤ 16) (hv : (opTab p q)[k]? = some v) (hp : w.cell? ⟨p, 0, none⟩ = some (.func (.func 158) #[] #[])) (hq : w.cell? ⟨q, 0, none⟩ = some (.func (.func 159) #[] #[])) : OpIs ga gb (twoOf k) v w := by
  have hpl := World.block_lt_of_cell? _ _ hp
  have hql := World.block_lt_of_cell? _ _ hq
  rcases (show k = 1 ∨ k = 2 ∨ k = 3 ∨ k = 4 ∨ k = 5 ∨ k = 6 ∨ k = 7 ∨ k = 8 ∨ k = 9 ∨ k = 10 ∨ k = 11 ∨ k = 12 ∨ k = 13 ∨ k = 14 ∨ k = 15 ∨ k = 16 by omega) with rfl | rfl | rfl | rfl | rfl | rfl | rfl | rfl | rfl | rfl | rfl | rfl | rfl | rfl | rfl | rfl
  all_goals (obtain rfl := Option.some.inj hv)
  · exact ⟨_, _, rfl, enters_of Tryz.func144 (by kernel_rfl) rfl, fun W a b hW ha hb => opAdd a b ga gb W (hG.below hW) ha hb⟩
  · exact ⟨_, _, rfl, enters_of Tryz.func145 (by kernel_rfl) rfl, fun W a b hW ha hb => opSub a b ga gb W (hG.below hW) ha hb⟩
  · exact ⟨_, _, rfl, enters_of Tryz.func134 (by kernel_rfl) rfl, fun W a b hW ha hb => opMul a b ga gb W (hG.below hW) ha hb⟩
  · exact ⟨_, _, rfl, enters_of Tryz.func146 (by kernel_rfl) rfl, fun W a b hW ha hb => opDiv a b ga gb W (hG.below hW) ha hb⟩
  · exact ⟨_, _, rfl, enters_of Tryz.func147 (by kernel_rfl) rfl, fun W a b _ ha hb => opMin a b ga gb W ha hb⟩
  · exact ⟨_, _, rfl, enters_of Tryz.func148 (by kernel_rfl) rfl, fun W a b _ ha hb => opMax a b ga gb W ha hb⟩
  · exact ⟨_, _, rfl, enters_of Tryz.func149 (by kernel_rfl) rfl, fun W a b _ ha hb => opMod a b ga gb W ha hb⟩
  · exact ⟨_, _, rfl, enters_of Tryz.func150 (by kernel_rfl) rfl, fun W a b hW ha hb => opPow a b ga gb W (hG.below hW) ha hb⟩
  · exact ⟨_, _, rfl, enters_of Tryz.func151 (by kernel_rfl) rfl, fun W a b _ ha hb => opEqual a b ga gb W ha hb⟩
  · exact ⟨_, _, rfl, enters_of Tryz.func152 (by kernel_rfl) rfl, fun W a b _ ha hb => opNe a b ga gb W ha hb⟩
  · exact ⟨_, _, rfl, enters_of Tryz.func153 (by kernel_rfl) rfl, fun W a b _ ha hb => opLt a b ga gb W ha hb⟩
  · exact ⟨_, _, rfl, enters_of Tryz.func154 (by kernel_rfl) rfl, fun W a b _ ha hb => opLe a b ga gb W ha hb⟩
  · exact ⟨_, _, rfl, enters_of Tryz.func155 (by kernel_rfl) rfl, fun W a b _ ha hb => opGe a b ga gb W ha hb⟩
  · exact ⟨_, _, rfl, enters_of Tryz.func156 (by kernel_rfl) rfl, fun W a b _ ha hb => opGt a b ga gb W ha hb⟩
  · exact ⟨_, _, rfl, enters_of Tryz.func173 (by kernel_rfl) rfl, fun W a b hW _ _ => opLogic 15 a b ga gb p W (hG.below hW) (.inl ⟨rfl, (hW.cell (p := ⟨p, 0, none⟩) hpl).trans hp⟩)⟩
  · exact ⟨_, _, rfl, enters_of Tryz.func173 (by kernel_rfl) rfl, fun W a b hW _ _ => opLogic 16 a b ga gb q W (hG.below hW) (.inr ⟨rfl, (hW.cell (p := ⟨q, 0, none⟩) hql).trans hq⟩)⟩

set_option maxHeartbeats 400000 in
theorem ofTruths_any (v : Value) (hv : v = .func (.func 158) #[] #[] ∨ v = .func (.func 159) #[] #[]) (w : World) : Calls Tryz.prog 157 #[v] w fun e w' => e = .returned (.func (.func 173) #[] #[.pointer (some ⟨w.heap.size, 0, none⟩)]) ∧ w' = w.alloc (.cells #[v] 136) := by
  rcases hv with rfl | rfl
  all_goals
    go_enter Tryz.func157, Tryz.ntmps157
    go_wp2
    go_ret
    exact ⟨rfl, rfl⟩

end Go.Proofs.YtkgcmpmgaghdhaaGreatDoor
namespace Go.Proofs.YtkgcmpmgaghdhaaGreatDoor
open Go.RowKit Go.Shelf

set_option maxHeartbeats 4000000 in
theorem operationOf_any (k : Nat) (ga gb : Addr) (w : World) (hG : Gl w ga gb) (hk : 1 ≤ k ∧ k ≤ 16) : Calls Tryz.prog 117 #[.int .i64 (k : Nat)] w fun e w' => ∃ v, e = .returned v ∧ OpIs ga gb (twoOf k) v w' ∧ Below w.heap.size w w' := by
  obtain ⟨v, hv⟩ : ∃ v, (opTab w.heap.size (w.heap.size + 1))[k]? = some v := ⟨_, Array.getElem?_eq_getElem (by show k < 17; omega)⟩
  have HV := hide hv
  have HG := hide hG
  have HK := hide hk
  obtain ⟨hk1, hk2⟩ := hk
  have hc : (((w.alloc (.cells #[.func (.func 158) #[] #[]] 136)).alloc (.cells #[.func (.func 159) #[] #[]] 136)).alloc (.cells (opTab w.heap.size (w.heap.size + 1)) 141)).cell? ⟨w.heap.size + 1 + 1, k, none⟩ = some v := by
    rw [cell_of_row _ _ k (opTab w.heap.size (w.heap.size + 1)) 141 (0, 0) (by simpa using heap_alloc_last ((w.alloc (.cells #[.func (.func 158) #[] #[]] 136)).alloc (.cells #[.func (.func 159) #[] #[]] 136)) (.cells (opTab w.heap.size (w.heap.size + 1)) 141))]
    exact hv
  unfold opTab at hc
  clear hv hG
  go_enter Tryz.func117, Tryz.ntmps117
  go_wp2_with fail
  refine (ofTruths_any _ (.inl rfl) _).mono ?_
  rintro e w1 ⟨rfl, rfl⟩
  go_wp2_with fail
  refine (ofTruths_any _ (.inr rfl) _).mono ?_
  rintro e w1 ⟨rfl, rfl⟩
  go_wp2
  go_ret
  refine ⟨v, rfl, ?_, (((Below.refl _ _).alloc (Nat.le_refl _) _).alloc (by simp) _).alloc (by simp; omega) _⟩
  have hA := Below.refl (w.heap.size + 1) (w.alloc (.cells #[.func (.func 158) #[] #[]] 136))
  have hA2 := (hA.alloc (by simp) (.cells #[.func (.func 159) #[] #[]] 136)).alloc (by simp) (.cells (opTab w.heap.size (w.heap.size + 1)) 141)
  have hB2 := (Below.refl (w.heap.size + 2) ((w.alloc (.cells #[.func (.func 158) #[] #[]] 136)).alloc (.cells #[.func (.func 159) #[] #[]] 136))).alloc (by simp) (.cells (opTab w.heap.size (w.heap.size + 1)) 141)
  have hp := (hA2.cell (p := ⟨w.heap.size, 0, none⟩) (by simp)).trans (cell_of_row _ _ 0 _ _ (0, 0) (heap_alloc_last w _))
  have hq := (hB2.cell (p := ⟨w.heap.size + 1, 0, none⟩) (by simp)).trans (cell_of_row _ _ 0 _ _ (0, 0) (by simpa using heap_alloc_last (w.alloc (.cells #[.func (.func 158) #[] #[]] 136)) (.cells #[.func (.func 159) #[] #[]] 136)))
  exact opTab_is ga gb w.heap.size (w.heap.size + 1) k v _ ((((unhide HG).alloc _).alloc _).alloc _) (unhide HK) (unhide HV) hp hq

theorem opIn_nat {op : Int} (h : opIn op = true) : ∃ k : Nat, op = k ∧ 1 ≤ k ∧ k ≤ 16 := by
  have := of_decide_eq_true h
  exact ⟨op.toNat, by omega, by omega, by omega⟩

theorem operationOf_eq (op : Int) (ga gb : Addr) (w : World) (hG : Gl w ga gb) (h : opIn op = true) : Calls Tryz.prog 117 #[.int .i64 op] w fun e w' => ∃ v, e = .returned v ∧ OpIs ga gb (twoOf op) v w' ∧ Below w.heap.size w w' := by
  obtain ⟨k, rfl, hk⟩ := opIn_nat h
  exact operationOf_any k ga gb w hG hk

/-- What operationOn's answer gives of two elements. -/
def elemFn (op : Int) (c d : Bool) (x y : Int) : Int × Int := if c ≠ d then (truth (decide (op = 10)), 0) else twoOf op x y

set_option maxHeartbeats 400000 in
theorem clo77 (op : Int) (ga gb : Addr) (p : Nat) (v : Value) (x y : Int) (W : World) (hv : OpIs ga gb (twoOf op) v W) (hop : opEq op = true) (hc : W.cell? ⟨p, 0, none⟩ = some v) : Calls Tryz.prog 118 #[.int .i64 x, .int .i64 y, .pointer (some ⟨p, 0, none⟩)] W (GivesEl ga gb (truth (decide (op = 10)), 0) W) := by
  obtain ⟨g, lb, rfl, eg, hcall⟩ := hv
  have h01 := hcall W 0 1 (Below.refl _ _) (by omega) (by omega)
  have he : twoOf op 0 1 = (truth (decide (op = 10)), 0) := by
    have := of_decide_eq_true hop
    rcases this with rfl | rfl <;> rfl
  rw [he] at h01
  have HC := hide h01
  clear h01 hcall he hop
  obtain ⟨t, ht⟩ : ∃ t, truth (decide (op = 10)) = t := ⟨_, rfl⟩
  rw [ht] at HC ⊢
  clear ht
  go_enter Tryz.func118, Tryz.ntmps118
  go_wp2_with (go_at_fn g; refine (unhide HC).mono ?_; rintro e w1 ⟨rfl, q, rfl⟩; simp only [errV_0])
  go_ret2
  exact gives_el (c := 0) rfl rfl

/-- What operationOn answers. -/
def OnIs (ga gb : Addr) (op : Int) (c d : Bool) (v : Value) (w : World) : Prop := ((c || d) = true ∧ opEq op = false ∧ v = .nilFunc) ∨ (¬ ((c || d) = true ∧ opEq op = false) ∧ OpIs ga gb (elemFn op c d) v w)

end Go.Proofs.YtkgcmpmgaghdhaaGreatDoor
namespace Go.Proofs.YtkgcmpmgaghdhaaGreatDoor
open Go.RowKit Go.Shelf

theorem elemFn_same {op : Int} {c : Bool} : elemFn op c c = twoOf op := by funext x y; simp [elemFn]
theorem elemFn_diff {op : Int} {c d : Bool} (h : c ≠ d) : elemFn op c d = fun _ _ => (truth (decide (op = 10)), 0) := by funext x y; simp [elemFn, h]

/-- The boxes of two arrays behind a call. -/
theorem twoBoxes {w w1 : World} {c d : Bool} {v1 v2 u1 u2 : Value} (hb : Below ((w.alloc (.cells #[.bool c, v1, v2] 25)).alloc (.cells #[.bool d, u1, u2] 25)).heap.size ((w.alloc (.cells #[.bool c, v1, v2] 25)).alloc (.cells #[.bool d, u1, u2] 25)) w1) :
    Box w1 w.heap.size c v1 v2 ∧ Box w1 (w.heap.size + 1) d u1 u2 ∧ Below w.heap.size w w1 := by
  refine ⟨((Box.new w c v1 v2).alloc _).below (Nat.le_refl _) hb, ?_, (((Below.refl _ _).alloc (Nat.le_refl _) _).alloc (by simp) _).trans (hb.mono (by simp; omega))⟩
  have := (Box.new (w.alloc (.cells #[.bool c, v1, v2] 25)) d u1 u2).below (Nat.le_refl _) hb
  simpa using this

theorem opIs77 {ga gb : Addr} {op : Int} {c d : Bool} {v : Value} {w1 : World} (hv : OpIs ga gb (twoOf op) v w1) (hop : opEq op = true) (hne : c ≠ d) : OpIs ga gb (elemFn op c d) (.func (.func 118) #[] #[.pointer (some ⟨w1.heap.size, 0, none⟩)]) (w1.alloc (.cells #[v] 62)) := by
  refine ⟨_, _, rfl, enters_of Tryz.func118 (by kernel_rfl) rfl, fun W a b hW _ _ => ?_⟩
  rw [elemFn_diff hne]
  exact clo77 op ga gb _ v a b W ((hv.alloc _).below hW) hop ((hW.cell (p := ⟨w1.heap.size, 0, none⟩) (by simp)).trans (cell_of_row _ _ 0 _ _ (0, 0) (heap_alloc_last w1 _)))

set_option maxHeartbeats 4000000 in
theorem operationOn_any (op : Int) (c d : Bool) (a1 a2 b1 b2 : Option Addr) (n1 n2 m1 m2 c1 c2 d1 d2 : Nat) (ga gb : Addr) (w : World) (hG : Gl w ga gb) (hop : opIn op = true) :
    Calls Tryz.prog 50 #[.int .i64 op, .agg #[.bool c, .slice a1 n1 c1, .slice a2 n2 c2], .agg #[.bool d, .slice b1 m1 d1, .slice b2 m2 d2]] w fun e w' => ∃ v, e = .returned v ∧ OnIs ga gb op c d v w' ∧ Below w.heap.size w w' := by
  have HG := hide hG
  have HOP := hide hop
  clear hG hop
  by_cases he : opEq op = true
  · have he' := of_decide_eq_true he
    have HE := hide he
    clear he
    cases c <;> cases d
    all_goals rcases he' with rfl | rfl
    all_goals
      go_enter Tryz.func50, Tryz.ntmps50
      go_wp2_with (go_at_call 117; refine (operationOf_eq _ ga gb _ (((unhide HG).alloc _).alloc _) (unhide HOP)).mono ?_; rintro e w1 ⟨v, rfl, hv, hb1⟩; obtain ⟨B3, B4, hB1⟩ := twoBoxes hb1; obtain ⟨x0, x1, x2, x3, x4, x5, x6⟩ := B3.all; obtain ⟨y0, y1, y2, y3, y4, y5, y6⟩ := B4.all; have HV := hide hv; have HB := hide hB1; obtain ⟨g, lb, rfl, eg, _⟩ := hv; clear hb1 hB1 B3 B4)
      go_ret
      refine ⟨_, rfl, .inr ⟨fun h => (by have := unhide HE; rw [this] at h; cases h.2), ?_⟩, (unhide HB).alloc (by omega) _⟩
      first | (rw [elemFn_same]; exact (unhide HV).alloc _) | exact opIs77 (unhide HV) (unhide HE) (by decide)
  · have he2 : opEq op = false := by simpa using he
    have HE := hide he2
    have he3 := of_decide_eq_false he2
    have q9 : (op != 9) = true := by simp; omega
    have q10 : (op != 10) = true := by simp; omega
    clear he he2 he3
    cases c <;> cases d
    all_goals
      go_enter Tryz.func50, Tryz.ntmps50
      go_wp2_with (go_at_call 117; refine (operationOf_eq _ ga gb _ (((unhide HG).alloc _).alloc _) (unhide HOP)).mono ?_; rintro e w1 ⟨v, rfl, hv, hb1⟩; obtain ⟨B3, B4, hB1⟩ := twoBoxes hb1; obtain ⟨x0, x1, x2, x3, x4, x5, x6⟩ := B3.all; obtain ⟨y0, y1, y2, y3, y4, y5, y6⟩ := B4.all; have HV := hide hv; have HB := hide hB1; obtain ⟨g, lb, rfl, eg, _⟩ := hv; clear hb1 hB1 B3 B4)
      go_ret
      first
      | exact ⟨_, rfl, .inr ⟨fun h => (by cases h.1), by rw [elemFn_same]; exact (unhide HV).alloc _⟩, (unhide HB).alloc (by omega) _⟩
      | exact ⟨_, rfl, .inl ⟨rfl, unhide HE, rfl⟩, (unhide HB).alloc (by omega) _⟩

end Go.Proofs.YtkgcmpmgaghdhaaGreatDoor
namespace Go.Proofs
open Go.Shelf
def Tryz.growI_ren : Go.Shelf.Ren := ⟨fun | 4 => 131 | n => n, fun | 22 => 23 | 25 => 3 | 3 => 3 | 4 => 4 | 9 => 9 | 20 => 20 | 0 => 0 | n => n, fun | n => n⟩
theorem Tryz.growI : Go.Proofs.Lays8.n4 Tryz.prog Tryz.growI_ren := {
  mixed := by kernel_rfl
  f4 := ⟨Tryz.f131.name, by decide, Tryz.func131.trans (congrArg some (by kernel_rfl))⟩
  t0 := Tryz.underlying0
  a0 := Tryz.isAgg0
  z0 := Tryz.sizeOf0
  v0 := Tryz.zeroValue0
  t3 := Tryz.underlying3
  a3 := Tryz.isAgg3
  z3 := Tryz.sizeOf3
  v3 := Tryz.zeroValue3
  t4 := Tryz.underlying4
  a4 := Tryz.isAgg4
  z4 := Tryz.sizeOf4
  v4 := Tryz.zeroValue4
  t9 := Tryz.underlying9
  a9 := Tryz.isAgg9
  z9 := Tryz.sizeOf9
  v9 := Tryz.zeroValue9
  t20 := Tryz.underlying20
  a20 := Tryz.isAgg20
  z20 := Tryz.sizeOf20
  v20 := Tryz.zeroValue20
  t22 := Tryz.underlying23
  a22 := Tryz.isAgg23
  z22 := Tryz.sizeOf23
  v22 := Tryz.zeroValue23 }
end Go.Proofs
namespace Go.Proofs.YtkgcmpmgaghdhaaGreatDoor
open Go.RowKit Go.Shelf

theorem zero_cells_len (n : Nat) : (Builtin.zeroCells (Value.int .i64 0).cells n).size = n := by
  simp [Builtin.zeroCells, Value.cells]

theorem Grow_own (n : Nat) (w : World) (hn : n ≤ 17592186044416) : Calls Tryz.prog 131 #[.slice none 0 0, .int .i64 (n : Nat)] w fun e w' => ∃ v, e = .returned v ∧ w'.ownsRow w.heap.size 3 1 v 0 [] ∧ Below w.heap.size w w' := by
  obtain ⟨i0, hi, hz0, hz1, hz2⟩ := info_parts info_int
  by_cases h0 : n = 0
  · subst h0
    refine (Any8.slices_Grow_room Tryz.growI none 0 0 0 w (Nat.le_refl _) (by omega) (by omega) (by omega)).mono ?_
    rintro e w' ⟨rfl, rfl⟩
    exact ⟨_, rfl, ⟨rfl, .inl ⟨rfl, rfl⟩⟩, Below.refl _ _⟩
  · refine (Any8.slices_Grow_grow Tryz.growI i0 (.int .i64 0) hi hz0 (by rw [hz1]; omega) none 0 0 n [] w (Nat.le_refl _) (by omega) (by rw [hz2]; omega) (by omega) (by simp) (fun _ => rfl) (fun a ha => by cases ha)).mono ?_
    rintro e w' ⟨rfl, rfl⟩
    have hge := grownCap_ge w (0 + n) 0 (Tryz.growI_ren.t 25)
    have hle := grownCap_le_maxLen w (0 + n) 0 (Tryz.growI_ren.t 25) (by unfold maxLen; omega)
    refine ⟨_, rfl, ⟨rfl, .inr ⟨w.heap.size, _, _, rfl, Nat.le_refl _, by exact heap_alloc_last w.drew _, Nat.zero_le _, hle, ?_, rfl⟩⟩, (Below.refl _ _).drew.alloc (by simp) _⟩
    simp only [Nat.zero_add] at hge
    simp only [Array.size_append, zero_cells_len]
    simp
    omega

theorem below_append0 {w w1 : World} {base n : Nat} {v : Value} {xs : List Value} (hown : w.ownsRow base 3 1 v n xs) (hb : base ≤ w.heap.size) (hg : w.grownBy w1 v.ownBlock) : Below base w w1 :=
  (Below.refl _ _).grown hg hb (by
    intro k hk
    rcases hown.2 with ⟨rfl, _⟩ | ⟨g, cap, cur, rfl, hbg, _⟩
    · cases hk
    · cases hk; exact hbg)

set_option maxRecDepth 20000 in
set_option maxHeartbeats 2000000 in
theorem Concat2_any (bs : Nat) (a b : Addr) (n m ca cb : Nat) (xs ys : List Int) (w : World) (h0 : w.cell? ⟨bs, 0, none⟩ = some (.slice (some a) n ca)) (h1 : w.cell? ⟨bs, 1, none⟩ = some (.slice (some b) m cb)) (hx : Row w (some a) n xs) (hy : Row w (some b) m ys) (hn : n ≤ 1000000) (hm : m ≤ 1000000) :
    Calls Tryz.prog 80 #[.slice (some ⟨bs, 0, none⟩) 2 2] w fun e w' => ∃ a' cap', e = .returned (.slice a' (n + m) cap') ∧ Own w' w.heap.size a' (n + m) (xs ++ ys) ∧ Below w.heap.size w w' := by
  have hl1 := hx.len
  have hl2 := hy.len
  have HX := hide hx
  have HY := hide hy
  clear hx hy
  have hbs := World.block_lt_of_cell? _ _ h0
  obtain ⟨i0, hi, hz0, hz1, hz2⟩ := info_parts info_int
  have hs1 : (n : Int) + (m : Int) = ((n + m : Nat) : Int) := by simp
  obtain ⟨s, hs⟩ : ∃ s, s = n + m := ⟨_, rfl⟩
  rw [← hs] at hs1
  have HS := hide hs
  have hsb : s ≤ 2000000 := by omega
  clear hs
  go_enter Tryz.func80, Tryz.ntmps80
  go_wp2
  refine wp_loop_rounds 3 ?_
  rw [rounds_succ]
  go_wp2
  rw [rounds_succ]
  go_wp2
  rw [rounds_succ]
  go_wp2_with fail
  refine (Grow_own s w (by omega)).mono ?_
  rintro e w1 ⟨v, rfl, hown, hb1⟩
  have k0 := (hb1.cell (p := ⟨bs, 0, none⟩) hbs).trans h0
  have k1 := (hb1.cell (p := ⟨bs, 1, none⟩) hbs).trans h1
  have hsz := hb1.size
  have HB1 := hide hb1
  have HC1 := hide h1
  clear hb1 h0 h1
  go_wp2
  refine wp_loop_rounds 3 ?_
  rw [rounds_succ]
  obtain ⟨av, cv, rfl⟩ := owns_slice hown
  go_wp2_with (at_builtin; refine wpList_append_own _ rfl _ _ 23 rfl w.heap.size 3 i0 (.int .i64 0) 1 8 Tryz.underlying23 hi hz0 hz1 hz2 rfl (by decide) _ _ _ rfl hown a n ca (xs.map (Value.int .i64)) rfl (by simpa using hl1) (cells_ints ((unhide HX).below (Nat.le_refl _) (unhide HB1))) (one_ints xs) (by unfold maxLen; omega) (by omega) (by omega) ?_; intro v1 w2 hown1 hgrow1 hnil1; clear hnil1; have HB2 := hide ((unhide HB1).trans (below_append0 hown hsz hgrow1)); have hsz2 := (unhide HB2).size; clear hgrow1 hown k0 k1; have k1 := ((unhide HB2).cell (p := ⟨bs, 1, none⟩) hbs).trans (unhide HC1); obtain ⟨av1, cv1, rfl⟩ := owns_slice hown1)
  have hown1' : w2.ownsRow w.heap.size 3 1 (.slice av1 n cv1) n (xs.map (Value.int .i64)) := by simpa using hown1
  clear hown1
  rw [rounds_succ]
  go_wp2_with (at_builtin; refine wpList_append_own _ rfl _ _ 23 rfl w.heap.size 3 i0 (.int .i64 0) 1 8 Tryz.underlying23 hi hz0 hz1 hz2 rfl (by decide) _ _ _ rfl hown1' b m cb (ys.map (Value.int .i64)) rfl (by simpa using hl2) (cells_ints ((unhide HY).below (Nat.le_refl _) (unhide HB2))) (one_ints ys) (by unfold maxLen; omega) (by omega) (by omega) ?_; intro v2 w3 hown2 hgrow2 hnil2; clear hnil2; have HB3 := hide ((unhide HB2).trans (below_append0 hown1' hsz2 hgrow2)); clear hgrow2 hown1' k1; obtain ⟨av2, cv2, rfl⟩ := owns_slice hown2)
  rw [rounds_succ]
  go_wp2
  go_ret
  obtain ⟨a', cap', he, hO⟩ := Own.of_owns (zs := xs ++ ys) (by rw [List.map_append]; exact hown2) (by omega)
  cases he
  exact ⟨_, _, rfl, hO, unhide HB3⟩

end Go.Proofs.YtkgcmpmgaghdhaaGreatDoor
namespace Go.Proofs.YtkgcmpmgaghdhaaGreatDoor
open Go.RowKit Go.Shelf

/-- Block p holds a strip. -/
def SBox (w : World) (p : Nat) (a : Option Addr) (n c start step count : Nat) : Prop := w.heap[p]? = some (.cells #[.slice a n c, .int .i64 start, .int .i64 step, .int .i64 count] 68 (0, 0))

theorem SBox.lt {w : World} {p : Nat} {a : Option Addr} {n c start step count : Nat} (h : SBox w p a n c start step count) : p < w.heap.size := lt_of_block h
theorem SBox.cells {w : World} {p : Nat} {a : Option Addr} {n c start step count : Nat} (h : SBox w p a n c start step count) : w.cell? ⟨p, 0, none⟩ = some (.slice a n c) ∧ w.cell? ⟨p, 1, none⟩ = some (.int .i64 start) ∧ w.cell? ⟨p, 2, none⟩ = some (.int .i64 step) ∧ w.cell? ⟨p, 3, none⟩ = some (.int .i64 count) := by
  unfold SBox at h
  simp [World.cell?, h]
theorem SBox.below {w w' : World} {p B : Nat} {a : Option Addr} {n c start step count : Nat} (h : SBox w p a n c start step count) (hB : w.heap.size ≤ B) (hb : Below B w w') : SBox w' p a n c start step count := (hb.block p (Nat.lt_of_lt_of_le h.lt hB)).trans h
theorem SBox.alloc {w : World} {p : Nat} {a : Option Addr} {n c start step count : Nat} (h : SBox w p a n c start step count) (o : Obj) : SBox (w.alloc o) p a n c start step count := (Below.heap_alloc w o p h.lt).trans h
theorem SBox.new (w : World) (a : Option Addr) (n c start step count : Nat) : SBox (w.alloc (.cells #[.slice a n c, .int .i64 start, .int .i64 step, .int .i64 count] 68 (0, 0))) w.heap.size a n c start step count := heap_alloc_last w _

set_option maxHeartbeats 1000000 in
theorem at_any (a : Option Addr) (n c start step count k : Nat) (zs : List Int) (w : World) (h : Row w a n zs) (hi : start + k * step < n) :
    Calls Tryz.prog 121 #[.agg #[.slice a n c, .int .i64 start, .int .i64 step, .int .i64 count], .int .i64 (k : Nat)] w fun e w' => e = .returned (.int .i64 (zs.getD (start + k * step) 0)) ∧ Below w.heap.size w w' := by
  obtain ⟨b, off, rfl, hblt, hc⟩ := h.get hi
  have hsm := h.small
  clear h
  obtain ⟨x, hx⟩ : ∃ x, x = zs.getD (start + k * step) 0 := ⟨_, rfl⟩
  rw [← hx] at hc ⊢
  clear hx
  obtain ⟨m, hm⟩ : ∃ m, m = k * step := ⟨_, rfl⟩
  rw [← hm] at hi hc
  have hm' : (k : Int) * (step : Int) = (m : Int) := by rw [hm]; simp
  obtain ⟨i, hie⟩ : ∃ i, i = start + m := ⟨_, rfl⟩
  rw [← hie] at hi hc
  have hi' : (start : Int) + (m : Int) = (i : Int) := by rw [hie]; simp
  clear hm hie
  have hc' := ((Below.refl w.heap.size w).alloc (Nat.le_refl _) (.cells #[.slice (some ⟨b, off, none⟩) n c, .int .i64 start, .int .i64 step, .int .i64 count] 68)).cell (p := ⟨b, off + i, none⟩) hblt
  rw [hc] at hc'
  go_enter Tryz.func121, Tryz.ntmps121
  go_wp2
  go_ret
  exact ⟨rfl, (Below.refl _ _).alloc (Nat.le_refl _) _⟩

end Go.Proofs.YtkgcmpmgaghdhaaGreatDoor
namespace Go.Proofs.YtkgcmpmgaghdhaaGreatDoor
open Go.RowKit Go.Shelf

set_option maxHeartbeats 2000000 in
theorem pairClo (f : Int → Int → Int × Int) (ga gb : Addr) (a2 b2 : Option Addr) (v : Value) (p5 p3 p4 n2 c2 s1 t1 u1 m2 d2 s2 t2 u2 k : Nat) (xs ys : List Int) (W : World) (hv : OpIs ga gb f v W) (hc : W.cell? ⟨p5, 0, none⟩ = some v) (hS : SBox W p3 a2 n2 c2 s1 t1 u1) (hT : SBox W p4 b2 m2 d2 s2 t2 u2)
    (hx : Row W a2 n2 xs) (hy : Row W b2 m2 ys) (hk1 : s1 + k * t1 < n2) (hk2 : s2 + k * t2 < m2) (hxb : -1000000000000000 ≤ xs.getD (s1 + k * t1) 0 ∧ xs.getD (s1 + k * t1) 0 ≤ 1000000000000000) (hyb : -1000000000000000 ≤ ys.getD (s2 + k * t2) 0 ∧ ys.getD (s2 + k * t2) 0 ≤ 1000000000000000) :
    Calls Tryz.prog 120 #[.int .i64 (k : Nat), .pointer (some ⟨p5, 0, none⟩), .pointer (some ⟨p3, 0, none⟩), .pointer (some ⟨p4, 0, none⟩)] W fun e w' => e = .returned (.tuple #[.int .i64 (f (xs.getD (s1 + k * t1) 0) (ys.getD (s2 + k * t2) 0)).1, errV ga gb (f (xs.getD (s1 + k * t1) 0) (ys.getD (s2 + k * t2) 0)).2]) ∧ Below W.heap.size W w' := by
  obtain ⟨g, lb, rfl, eg, hcall⟩ := hv
  have HX : Hid (∀ wx, Below W.heap.size W wx → Calls Tryz.prog 121 #[.agg #[.slice a2 n2 c2, .int .i64 s1, .int .i64 t1, .int .i64 u1], .int .i64 (k : Nat)] wx fun e w' => e = .returned (.int .i64 (xs.getD (s1 + k * t1) 0)) ∧ Below wx.heap.size wx w') := fun wx hwx => at_any _ n2 c2 s1 t1 u1 k xs wx (hx.below (Nat.le_refl _) hwx) hk1
  have HY : Hid (∀ wx, Below W.heap.size W wx → Calls Tryz.prog 121 #[.agg #[.slice b2 m2 d2, .int .i64 s2, .int .i64 t2, .int .i64 u2], .int .i64 (k : Nat)] wx fun e w' => e = .returned (.int .i64 (ys.getD (s2 + k * t2) 0)) ∧ Below wx.heap.size wx w') := fun wx hwx => at_any _ m2 d2 s2 t2 u2 k ys wx (hy.below (Nat.le_refl _) hwx) hk2
  have HF : Hid (∀ wx, Below W.heap.size W wx → Calls Tryz.prog g (#[.int .i64 (xs.getD (s1 + k * t1) 0), .int .i64 (ys.getD (s2 + k * t2) 0)] ++ lb) wx (GivesEl ga gb (f (xs.getD (s1 + k * t1) 0) (ys.getD (s2 + k * t2) 0)) wx)) := fun wx hwx => hcall wx _ _ hwx hxb hyb
  have hpl := World.block_lt_of_cell? _ _ hc
  have HKEEP : ∀ wx, Below W.heap.size W wx → Below W.heap.size W wx ∧ wx.cell? ⟨p5, 0, none⟩ = some (.func (.func g) #[] lb) ∧ (wx.cell? ⟨p3, 0, none⟩ = some (.slice a2 n2 c2) ∧ wx.cell? ⟨p3, 1, none⟩ = some (.int .i64 s1) ∧ wx.cell? ⟨p3, 2, none⟩ = some (.int .i64 t1) ∧ wx.cell? ⟨p3, 3, none⟩ = some (.int .i64 u1)) ∧ (wx.cell? ⟨p4, 0, none⟩ = some (.slice b2 m2 d2) ∧ wx.cell? ⟨p4, 1, none⟩ = some (.int .i64 s2) ∧ wx.cell? ⟨p4, 2, none⟩ = some (.int .i64 t2) ∧ wx.cell? ⟨p4, 3, none⟩ = some (.int .i64 u2)) := fun wx hwx => ⟨hwx, (hwx.cell (p := ⟨p5, 0, none⟩) hpl).trans hc, (hS.below (Nat.le_refl _) hwx).cells, (hT.below (Nat.le_refl _) hwx).cells⟩
  generalize f (xs.getD (s1 + k * t1) 0) (ys.getD (s2 + k * t2) 0) = r at *
  obtain ⟨r1, r2⟩ := r
  generalize xs.getD (s1 + k * t1) 0 = x at *
  generalize ys.getD (s2 + k * t2) 0 = y at *
  obtain ⟨ev, hev⟩ : ∃ ev, ev = errV ga gb r2 := ⟨_, rfl⟩
  simp only [← hev]
  have HEV := hide hev
  clear hev hcall hx hy hk1 hk2 hxb hyb hS hT hc
  obtain ⟨hK0, z0, ⟨x0, x1, x2, x3⟩, ⟨y0, y1, y2, y3⟩⟩ := HKEEP _ (Below.refl _ _)
  clear hK0
  go_enter Tryz.func120, Tryz.ntmps120
  go_wp2_with fail
  go_region_held (fun wx => Below W.heap.size W wx ∧ wx.cell? ⟨p5, 0, none⟩ = some (.func (.func g) #[] lb) ∧ (wx.cell? ⟨p3, 0, none⟩ = some (.slice a2 n2 c2) ∧ wx.cell? ⟨p3, 1, none⟩ = some (.int .i64 s1) ∧ wx.cell? ⟨p3, 2, none⟩ = some (.int .i64 t1) ∧ wx.cell? ⟨p3, 3, none⟩ = some (.int .i64 u1)) ∧ (wx.cell? ⟨p4, 0, none⟩ = some (.slice b2 m2 d2) ∧ wx.cell? ⟨p4, 1, none⟩ = some (.int .i64 s2) ∧ wx.cell? ⟨p4, 2, none⟩ = some (.int .i64 t2) ∧ wx.cell? ⟨p4, 3, none⟩ = some (.int .i64 u2))) (first | (refine HKEEP _ ?_; repeat (first | exact hKC | exact hKB | exact hKA | exact Below.refl _ _ | refine Below.drew ?_ | refine Below.drewN ?_ _)))
    (first
    | (go_at_call_of 121 (Value.slice a2 n2 c2); refine (unhide HX _ (Below.refl _ _).drew).mono ?_; rintro e wA ⟨rfl, hbA⟩; have hKA : Below W.heap.size W wA := (Below.refl _ _).drew.trans (hbA.mono (by simp)); obtain ⟨_, z0, ⟨x0, x1, x2, x3⟩, ⟨y0, y1, y2, y3⟩⟩ := HKEEP _ hKA)
    | (go_at_call_of 121 (Value.slice b2 m2 d2); refine (unhide HY _ hKA).mono ?_; rintro e wB ⟨rfl, hbB⟩; have hKB : Below W.heap.size W wB := hKA.trans (hbB.mono hKA.size); obtain ⟨_, z0, ⟨x0, x1, x2, x3⟩, ⟨y0, y1, y2, y3⟩⟩ := HKEEP _ hKB)
    | (go_at_fn g; refine (unhide HF _ hKB).mono ?_; rintro e wC ⟨rfl, q, rfl⟩; have hKC : Below W.heap.size W (wB.drewN q) := Below.drewN hKB q; simp only [← unhide HEV]))
  go_wp2
  go_ret2
  exact ⟨rfl, hKC⟩

set_option maxHeartbeats 400000 in
/-- The closure that pairwise makes gives f of the two strips' elements at each place. -/
theorem pairwise_any (g : Nat) (lb : Array Value) (a2 b2 : Option Addr) (n2 c2 s1 t1 u1 m2 d2 s2 t2 u2 : Nat) (w : World) :
    Calls Tryz.prog 53 #[.agg #[.slice a2 n2 c2, .int .i64 s1, .int .i64 t1, .int .i64 u1], .agg #[.slice b2 m2 d2, .int .i64 s2, .int .i64 t2, .int .i64 u2], .func (.func g) #[] lb] w fun e w' =>
      ∃ p3 p4 p5, e = .returned (.func (.func 120) #[] #[.pointer (some ⟨p5, 0, none⟩), .pointer (some ⟨p3, 0, none⟩), .pointer (some ⟨p4, 0, none⟩)]) ∧ SBox w' p3 a2 n2 c2 s1 t1 u1 ∧ SBox w' p4 b2 m2 d2 s2 t2 u2 ∧ w'.cell? ⟨p5, 0, none⟩ = some (.func (.func g) #[] lb) ∧ Below w.heap.size w w' := by
  go_enter Tryz.func53, Tryz.ntmps53
  go_wp2
  go_ret
  refine ⟨w.heap.size, w.heap.size + 1, w.heap.size + 1 + 1, rfl, ((SBox.new w _ _ _ _ _ _).alloc _).alloc _, ?_, ?_, (((Below.refl _ _).alloc (Nat.le_refl _) _).alloc (by simp) _).alloc (by simp; omega) _⟩
  · have := (SBox.new (w.alloc (.cells #[.slice a2 n2 c2, .int .i64 s1, .int .i64 t1, .int .i64 u1] 68 (0, 0))) b2 m2 d2 s2 t2 u2).alloc (.cells #[.func (.func g) #[] lb] 62)
    simpa using this
  · have := cell_of_row _ _ 0 _ _ (0, 0) (heap_alloc_last ((w.alloc (.cells #[.slice a2 n2 c2, .int .i64 s1, .int .i64 t1, .int .i64 u1] 68 (0, 0))).alloc (.cells #[.slice b2 m2 d2, .int .i64 s2, .int .i64 t2, .int .i64 u2] 68 (0, 0))) (.cells #[.func (.func g) #[] lb] 62))
    simpa using this

theorem eg_pair : ∀ args w, (callFunc 120 args).run Tryz.prog w = .ok (.enter 120 args) w := enters_of Tryz.func120 (by kernel_rfl) rfl

theorem pair_elem (f : Int → Int → Int × Int) (ga gb : Addr) (a2 b2 : Option Addr) (v : Value) (p5 p3 p4 n2 c2 s1 t1 u1 m2 d2 s2 t2 u2 n : Nat) (xs ys : List Int) (W : World) (hv : OpIs ga gb f v W) (hc : W.cell? ⟨p5, 0, none⟩ = some v) (hS : SBox W p3 a2 n2 c2 s1 t1 u1) (hT : SBox W p4 b2 m2 d2 s2 t2 u2)
    (hx : Row W a2 n2 xs) (hy : Row W b2 m2 ys) (hk1 : ∀ k, k < n → s1 + k * t1 < n2) (hk2 : ∀ k, k < n → s2 + k * t2 < m2) (hxb : ∀ k, k < n2 → -1000000000000000 ≤ xs.getD k 0 ∧ xs.getD k 0 ≤ 1000000000000000) (hyb : ∀ k, k < m2 → -1000000000000000 ≤ ys.getD k 0 ∧ ys.getD k 0 ≤ 1000000000000000) :
    ElemOk ga gb 120 #[.pointer (some ⟨p5, 0, none⟩), .pointer (some ⟨p3, 0, none⟩), .pointer (some ⟨p4, 0, none⟩)] (fun k => f (xs.getD (s1 + k * t1) 0) (ys.getD (s2 + k * t2) 0)) n W := by
  intro k hk W' hW
  exact pairClo f ga gb a2 b2 v p5 p3 p4 n2 c2 s1 t1 u1 m2 d2 s2 t2 u2 k xs ys W' (hv.below hW) ((hW.cell (p := ⟨p5, 0, none⟩) (World.block_lt_of_cell? _ _ hc)).trans hc) (hS.below (Nat.le_refl _) hW) (hT.below (Nat.le_refl _) hW) (hx.below (Nat.le_refl _) hW) (hy.below (Nat.le_refl _) hW) (hk1 k hk) (hk2 k hk) (hxb _ (hk1 k hk)) (hyb _ (hk2 k hk))

end Go.Proofs.YtkgcmpmgaghdhaaGreatDoor
