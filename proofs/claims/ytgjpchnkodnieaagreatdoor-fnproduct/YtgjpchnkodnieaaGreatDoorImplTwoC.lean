import Derived.Test.YtgjpchnkodnieaaGreatDoorImplTwoB
import Derived.Test.YtgjpchnkodnieaaGreatDoorImplMod
namespace Go.Proofs.YtgjpchnkodnieaaGreatDoor
open Go.RowKit Go.Shelf

theorem mod_lim {a b : Int} (ha : -1000000000000000 ≤ a ∧ a ≤ 1000000000000000) (hb : -1000000000000000 ≤ b ∧ b ≤ 1000000000000000) : twoOf 7 a b = (modOf a b, 0) := by
  have h : twoOf 7 a b = limited (modOf a b, true) := rfl
  have hm : -1000000000000000 ≤ b.tmod a ∧ b.tmod a ≤ 1000000000000000 := by
    have := Int.natAbs_tmod b a
    have h3 : b.natAbs % a.natAbs ≤ b.natAbs := Nat.mod_le _ _
    omega
  rw [h, lim_ok]
  unfold modOf
  by_cases h0 : a = 0
  · rw [if_pos h0]; exact inM_of hb.1 hb.2
  · rw [if_neg h0]
    split
    · rename_i hs
      obtain ⟨hs1, hs2⟩ := hs
      by_cases h1 : b.tmod a < 0 <;> by_cases h2 : a < 0
      all_goals simp only [h1, h2, decide_true, decide_false, ne_eq, not_true_eq_false] at hs2
      all_goals exact inM_of (by omega) (by omega)
    · exact inM_of hm.1 hm.2

set_option maxHeartbeats 1000000 in
theorem opMod (a b : Int) (ga gb : Addr) (w : World) (ha : -1000000000000000 ≤ a ∧ a ≤ 1000000000000000) (hb : -1000000000000000 ≤ b ∧ b ≤ 1000000000000000) : Calls Tryz.prog 245 #[.int .i64 a, .int .i64 b] w (GivesEl ga gb (twoOf 7 a b) w) := by
  have HT := hide (mod_lim ha hb)
  have HR := hide (fun W => residue_any a b W ha hb)
  obtain ⟨r, hr⟩ : ∃ r, modOf a b = r := ⟨_, rfl⟩
  rw [hr] at HT HR
  clear ha hb hr
  go_enter Tryz.func245, Tryz.ntmps245
  go_wp2_with (go_at_call 246; refine (unhide HR _).mono ?_; rintro e w1 ⟨rfl, hw1⟩; obtain rfl := hw1.symm)
  go_ret2
  exact gives_el (c := 0) (q := 0) HT.out rfl

theorem opMul_eq (a b : Int) (ga gb : Addr) (w : World) (hG : Gl w ga gb) (ha : -1000000000000000 ≤ a ∧ a ≤ 1000000000000000) (hb : -1000000000000000 ≤ b ∧ b ≤ 1000000000000000) (r1 r2 : Int) (hr : Hid (twoOf 3 a b = (r1, r2))) : Calls Tryz.prog 241 #[.int .i64 a, .int .i64 b] w fun e w' => e = .returned (.tuple #[.int .i64 r1, errV ga gb r2]) ∧ ∃ q, w' = w.drewN q := by
  have := opMul a b ga gb w hG ha hb
  rw [unhide hr] at this
  exact this

theorem times3_ok {x a y : Int} (h : x * a = y) (hy : inM y = true) : twoOf 3 x a = (y, 0) := by
  have e : twoOf 3 x a = limited (timesOf x a) := rfl
  rw [e, times_ok (by rw [h]; exact hy), h, lim_ok hy]
theorem times3_big {x a : Int} (hy : inM (x * a) = false) : twoOf 3 x a = (0, 7) := by
  have e : twoOf 3 x a = limited (timesOf x a) := rfl
  rw [e, times_big hy, lim_bad]

/-- The powers up to n reckoned by a loop are those of b. -/
structure PowLoop (a b : Int) (n : Nat) : Prop where
  same : a ^ n = a ^ b.toNat
  big : 2 ≤ a.natAbs ∨ (a = 0 ∨ a = 1 ∨ a = -1)

theorem pow_small {a : Int} (h : a = 0 ∨ a = 1 ∨ a = -1) (k : Nat) : a ^ k = 0 ∨ a ^ k = 1 ∨ a ^ k = -1 := by
  induction k with
  | zero => simp
  | succ k ih =>
    rw [Int.pow_succ]
    rcases ih with e | e | e <;> rw [e] <;> rcases h with rfl | rfl | rfl <;> simp

theorem small_in {x : Int} (h : x = 0 ∨ x = 1 ∨ x = -1) : inM x = true := by rcases h with rfl | rfl | rfl <;> rfl

theorem pow_stays {a b : Int} {n k : Nat} (h : PowLoop a b n) (hk : k ≤ n) (hb : inM (a ^ k) = false) : powOf a b = (0, false) := by
  rcases h.big with h2 | h2
  · exact pow_big (by rw [← h.same]; exact pow_step_big h2 k n hk hb)
  · rw [small_in (pow_small h2 k)] at hb; cases hb

theorem pow8_big {a b : Int} (hb : 0 ≤ b) (h : powOf a b = (0, false)) : twoOf 8 a b = (0, 7) := by
  have e : twoOf 8 a b = (if b < 0 then (0, 3) else limited (powOf a b)) := rfl
  rw [e, if_neg (by omega), h, lim_bad]
theorem pow8_ok {a b x : Int} {n : Nat} (hb : 0 ≤ b) (h : PowLoop a b n) (hx : a ^ n = x) (hi : inM x = true) : twoOf 8 a b = (x, 0) := by
  have e : twoOf 8 a b = (if b < 0 then (0, 3) else limited (powOf a b)) := rfl
  have hx' : a ^ b.toNat = x := by rw [← h.same]; exact hx
  rw [e, if_neg (by omega), pow_ok (by rw [hx']; exact hi), hx', lim_ok hi]

theorem abs_cases (a : Int) : 2 ≤ a.natAbs ∨ (a = 0 ∨ a = 1 ∨ a = -1) := by omega

theorem powLoop_plain {a b : Int} {n : Nat} (hn : b = n) : PowLoop a b n := ⟨by rw [hn]; rfl, abs_cases a⟩

theorem powLoop_small {a b : Int} (ha : a = 0 ∨ a = 1 ∨ a = -1) (hb : 2 < b) {n : Nat} (hn : 2 - b.tmod 2 = (n : Int)) : PowLoop a b n := by
  refine ⟨?_, .inr ha⟩
  have e : b.tmod 2 = ((b.toNat % 2 : Nat) : Int) := by rw [Int.tmod_eq_emod_of_nonneg (by omega)]; omega
  rcases ha with rfl | rfl | rfl
  · rw [Int.zero_pow (by omega), Int.zero_pow (by omega)]
  · rw [Int.one_pow, Int.one_pow]
  · rw [neg_one_pow, neg_one_pow]
    have : n % 2 = b.toNat % 2 := by omega
    rw [this]

end Go.Proofs.YtgjpchnkodnieaaGreatDoor
