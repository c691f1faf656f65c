import Derived.Test.YtgjpchnkodnieaaGreatDoorMFit0
import Derived.Test.YtgjpchnkodnieaaGreatDoorMFit0
import Derived.Test.YtgjpchnkodnieaaGreatDoorChecked
namespace Go.Proofs.YtgjpchnkodnieaaGreatDoor
open Go.RowKit

set_option maxHeartbeats 1000000 in
theorem residue_any (a b : Int) (w : World) (ha : -1000000000000000 ≤ a ∧ a ≤ 1000000000000000) (hb : -1000000000000000 ≤ b ∧ b ≤ 1000000000000000) : Calls Tryz.prog 246 #[.int .i64 a, .int .i64 b] w fun e w' => e = .returned (.int .i64 (modOf a b)) ∧ w' = w := by
  obtain ⟨ha1, ha2⟩ := ha
  obtain ⟨hb1, hb2⟩ := hb
  by_cases h0 : a = 0
  · subst h0
    have HE : Hid (modOf 0 b = b) := rfl
    go_enter Tryz.func246, Tryz.ntmps246
    go_wp2
    go_ret
    exact ⟨ret_int HE.out.symm, rfl⟩
  have q0 : (a == 0) = false := by simp [h0]
  have hm : -1000000000000000 ≤ b.tmod a ∧ b.tmod a ≤ 1000000000000000 := by
    have := Int.natAbs_tmod b a
    have h3 : b.natAbs % a.natAbs ≤ b.natAbs := Nat.mod_le _ _
    omega
  obtain ⟨m, hm0⟩ : ∃ m, b.tmod a = m := ⟨_, rfl⟩
  rw [hm0] at hm
  obtain ⟨hm1, hm2⟩ := hm
  by_cases hz : m = 0
  · subst hz
    have HE : Hid (modOf a b = 0) := by show _ = _; unfold modOf; rw [if_neg h0, hm0]; simp
    go_enter Tryz.func246, Tryz.ntmps246
    go_wp2
    go_ret
    exact ⟨ret_int HE.out.symm, rfl⟩
  have q1 : (m != 0) = true := by simp [hz]
  by_cases hs : m < 0
  · by_cases ht : a < 0
    · have HE : Hid (modOf a b = m) := by show _ = _; unfold modOf; rw [if_neg h0, hm0]; simp [hs, ht]
      clear hz
      go_enter Tryz.func246, Tryz.ntmps246
      go_wp2
      go_ret
      exact ⟨ret_int HE.out.symm, rfl⟩
    · have HE : Hid (modOf a b = m + a) := by show _ = _; unfold modOf; rw [if_neg h0, hm0]; simp [hs, ht, hz]
      clear hz
      go_enter Tryz.func246, Tryz.ntmps246
      go_wp2
      go_ret
      exact ⟨ret_int HE.out.symm, rfl⟩
  · by_cases ht : a < 0
    · have HE : Hid (modOf a b = m + a) := by show _ = _; unfold modOf; rw [if_neg h0, hm0]; simp [hs, ht, hz]
      clear hz
      go_enter Tryz.func246, Tryz.ntmps246
      go_wp2
      go_ret
      exact ⟨ret_int HE.out.symm, rfl⟩
    · have HE : Hid (modOf a b = m) := by show _ = _; unfold modOf; rw [if_neg h0, hm0]; simp [hs, ht]
      clear hz
      go_enter Tryz.func246, Tryz.ntmps246
      go_wp2
      go_ret
      exact ⟨ret_int HE.out.symm, rfl⟩

end Go.Proofs.YtgjpchnkodnieaaGreatDoor
