import Derived.Test.YtgjpchnkodnieaaGreatDoorSpecMod
import Derived.Test.YtgjpchnkodnieaaGreatDoorMFit0
import Derived.Test.YtgjpchnkodnieaaGreatDoorMFit0
import Derived.Test.YtgjpchnkodnieaaGreatDoorChecked
namespace Go.Proofs.YtgjpchnkodnieaaGreatDoor
open Go.RowKit

set_option maxHeartbeats 400000 in
theorem truth_call (b : Bool) (w : World) : Calls Tryz.prog 200 #[.bool b] w fun e w' => e = .returned (.int .i64 (truth b)) ∧ w' = w := by
  cases b
  all_goals
    go_enter Tryz.func200, Tryz.ntmps200
    go_wp2
    go_ret
    exact ⟨rfl, rfl⟩

set_option maxHeartbeats 400000 in
theorem l4In_any (v : Int) (w : World) : Calls Tryz.prog 202 #[.int .i64 v] w fun e w' => e = .returned (.bool (inM v)) ∧ w' = w := by
  by_cases h1 : v ≤ 1000000000000000
  · by_cases h2 : -1000000000000000 ≤ v
    · have HE : Hid (inM v = true) := inM_of h2 h1
      go_enter Tryz.func202, Tryz.ntmps202
      go_wp2
      go_ret
      exact ⟨ret_bool HE.out.symm, rfl⟩
    · have HE : Hid (inM v = false) := inM_not (by omega)
      go_enter Tryz.func202, Tryz.ntmps202
      go_wp2
      go_ret
      exact ⟨ret_bool HE.out.symm, rfl⟩
  · have HE : Hid (inM v = false) := inM_not (by omega)
    go_enter Tryz.func202, Tryz.ntmps202
    go_wp2
    go_ret
    exact ⟨ret_bool HE.out.symm, rfl⟩

theorem prod_sign {a b x y : Int} (hx : x = a ∨ x = -a) (hy : y = b ∨ y = -b) : x * y = a * b ∨ x * y = -(a * b) := by
  rcases hx with rfl | rfl <;> rcases hy with rfl | rfl <;> simp [Int.neg_mul, Int.mul_neg]

set_option maxHeartbeats 2000000 in
theorem l4Times_any (a b : Int) (w : World) (ha : -1000000000000000 ≤ a ∧ a ≤ 1000000000000000) (hb : -1000000000000000 ≤ b ∧ b ≤ 1000000000000000) : Calls Tryz.prog 201 #[.int .i64 a, .int .i64 b] w fun e w' => e = .returned (.tuple #[.int .i64 (timesOf a b).1, .bool (timesOf a b).2]) ∧ w' = w := by
  obtain ⟨ha1, ha2⟩ := ha
  obtain ⟨hb1, hb2⟩ := hb
  by_cases h0 : a = 0
  · subst h0
    have HE : Hid (timesOf 0 b = (0, true)) := by show _ = _; simp [timesOf, inM]
    go_enter Tryz.func201, Tryz.ntmps201
    go_wp2
    go_ret2
    exact ⟨ret_ib (by rw [unhide HE]) (by rw [unhide HE]), rfl⟩
  by_cases h1 : b = 0
  · subst h1
    have HE : Hid (timesOf a 0 = (0, true)) := by show _ = _; simp [timesOf, inM]
    have q0 : (a == 0) = false := by simp [h0]
    clear h0
    go_enter Tryz.func201, Tryz.ntmps201
    go_wp2
    go_ret2
    exact ⟨ret_ib (by rw [unhide HE]) (by rw [unhide HE]), rfl⟩
  have q0 : (a == 0) = false := by simp [h0]
  have q1 : (b == 0) = false := by simp [h1]
  obtain ⟨x, hx⟩ : ∃ x, (if a < 0 then -a else a) = x := ⟨_, rfl⟩
  obtain ⟨y, hy⟩ : ∃ y, (if b < 0 then -b else b) = y := ⟨_, rfl⟩
  have hy0 : 0 < y := by rw [← hy]; split <;> omega
  have hyn : ¬ y = 0 := by omega
  have hxy : x * y = a * b ∨ x * y = -(a * b) := prod_sign (by rw [← hx]; split <;> simp) (by rw [← hy]; split <;> simp)
  have hp0 : 0 ≤ x * y := Int.mul_nonneg (by rw [← hx]; split <;> omega) (by omega)
  have hq : (1000000000000000 : Int).tdiv y < x ↔ 1000000000000000 < x * y := tdiv_lt hy0
  obtain ⟨t, ht⟩ : ∃ t, (1000000000000000 : Int).tdiv y = t := ⟨_, rfl⟩
  have htb : 0 ≤ t ∧ t ≤ 1000000000000000 := by
    rw [← ht, Int.tdiv_eq_ediv_of_nonneg (by omega)]
    exact ⟨Int.ediv_nonneg (by omega) (by omega), Int.ediv_le_self _ (by omega)⟩
  obtain ⟨ht1, ht2⟩ := htb
  rw [ht] at hq
  obtain ⟨pr, hpr⟩ : ∃ pr, a * b = pr := ⟨_, rfl⟩
  rw [hpr] at hxy
  by_cases hbig : t < x
  · have HE : Hid (timesOf a b = (0, false)) := times_big (by rw [hpr]; exact inM_not (by have := hq.mp hbig; omega))
    clear hq hxy hp0 h0 h1
    by_cases hs : a < 0
    all_goals by_cases hu : b < 0
    all_goals
      simp only [hs, hu, if_true, if_false] at hx hy
      subst hx hy
      go_enter Tryz.func201, Tryz.ntmps201
      go_wp2
      go_ret2
      exact ⟨ret_ib (by rw [unhide HE]) (by rw [unhide HE]), rfl⟩
  · have hle : x * y ≤ 1000000000000000 := by
      by_cases h' : 1000000000000000 < x * y
      · exact absurd (hq.mpr h') hbig
      · omega
    have hpb1 : -1000000000000000 ≤ pr := by omega
    have hpb2 : pr ≤ 1000000000000000 := by omega
    have HE : Hid (timesOf a b = (pr, true)) := by show _ = _; rw [times_ok (by rw [hpr]; exact inM_of hpb1 hpb2), hpr]
    clear hq hxy hp0 hle h0 h1
    by_cases hs : a < 0
    all_goals by_cases hu : b < 0
    all_goals
      simp only [hs, hu, if_true, if_false] at hx hy
      subst hx hy
      go_enter Tryz.func201, Tryz.ntmps201
      go_wp2
      go_ret2
      exact ⟨ret_ib (by rw [unhide HE]) (by rw [unhide HE]), rfl⟩

theorem l4Times_eq (a b : Int) (w : World) (ha : -1000000000000000 ≤ a ∧ a ≤ 1000000000000000) (hb : -1000000000000000 ≤ b ∧ b ≤ 1000000000000000) (r1 : Int) (r2 : Bool) (hr : Hid (timesOf a b = (r1, r2))) : Calls Tryz.prog 201 #[.int .i64 a, .int .i64 b] w fun e w' => e = .returned (.tuple #[.int .i64 r1, .bool r2]) ∧ w' = w := by
  have := l4Times_any a b w ha hb
  rw [unhide hr] at this
  exact this

end Go.Proofs.YtgjpchnkodnieaaGreatDoor
