import Derived.Test.YtmgjicgojlkpcaaGreatDoorNNodes
import Derived.Deep.RegionWith
import Derived.Deep.DeepCutAuto
namespace Go.Proofs.YtmgjicgojlkpcaaGreatDoor
open Go.RowKit

theorem eqIntS_refl (a b : Option Addr) (n m ca cb : Nat) (xs : List Int) (w : World) (hx : Row w a n xs) (hy : Row w b m xs) :
    Calls Tryz.prog 120 #[.slice a n ca, .slice b m cb] w fun e w' => e = .returned (.bool true) ∧ ∃ q, w' = w.drewN q := by
  have := eqIntS_any a b n m ca cb xs xs w hx hy
  rwa [decide_eq_true rfl] at this

set_option maxHeartbeats 2000000 in
theorem eqNode_refl (k n m : Int) (s : ByteArray) (a1 a2 b1 b2 : Option Addr) (n1 n2 m1 m2 c1 c2 d1 d2 : Nat) (nums kids : List Int) (w : World) (h1 : Row w a1 n1 nums) (h2 : Row w a2 n2 kids) (k1 : Row w b1 m1 nums) (k2 : Row w b2 m2 kids) :
    Calls Tryz.prog 71 #[.agg #[.int .i64 k, .int .i64 n, .int .i64 m, .string s, .slice a1 n1 c1, .slice a2 n2 c2], .agg #[.int .i64 k, .int .i64 n, .int .i64 m, .string s, .slice b1 m1 d1, .slice b2 m2 d2]] w fun e w' => e = .returned (.bool true) ∧ Below w.heap.size w w' := by
  have q0 : (k != k) = false := by simp
  have q1 : (n != n) = false := by simp
  have q2 : (m != m) = false := by simp
  have q3 : (s.toList != s.toList) = false := by simp
  have H1 := hide ((h1.alloc (.cells #[.int .i64 k, .int .i64 n, .int .i64 m, .string s, .slice a1 n1 c1, .slice a2 n2 c2] 47)).alloc (.cells #[.int .i64 k, .int .i64 n, .int .i64 m, .string s, .slice b1 m1 d1, .slice b2 m2 d2] 47))
  have H2 := hide ((h2.alloc (.cells #[.int .i64 k, .int .i64 n, .int .i64 m, .string s, .slice a1 n1 c1, .slice a2 n2 c2] 47)).alloc (.cells #[.int .i64 k, .int .i64 n, .int .i64 m, .string s, .slice b1 m1 d1, .slice b2 m2 d2] 47))
  have K1 := hide ((k1.alloc (.cells #[.int .i64 k, .int .i64 n, .int .i64 m, .string s, .slice a1 n1 c1, .slice a2 n2 c2] 47)).alloc (.cells #[.int .i64 k, .int .i64 n, .int .i64 m, .string s, .slice b1 m1 d1, .slice b2 m2 d2] 47))
  have K2 := hide ((k2.alloc (.cells #[.int .i64 k, .int .i64 n, .int .i64 m, .string s, .slice a1 n1 c1, .slice a2 n2 c2] 47)).alloc (.cells #[.int .i64 k, .int .i64 n, .int .i64 m, .string s, .slice b1 m1 d1, .slice b2 m2 d2] 47))
  clear h1 h2 k1 k2
  go_enter Tryz.func71, Tryz.ntmps71
  go_wp2_with fail
  refine (eqIntS_refl _ _ _ _ _ _ nums _ (by exact unhide H1) (by exact unhide K1)).mono ?_
  rintro e w1 ⟨rfl, q, rfl⟩
  go_wp2_with fail
  refine (eqIntS_refl _ _ _ _ _ _ kids _ (by exact (unhide H2).drewN q) (by exact (unhide K2).drewN q)).mono ?_
  rintro e w1 ⟨rfl, q', rfl⟩
  go_wp2_with fail
  go_ret
  exact ⟨rfl, Below.drewN (((Below.refl _ _).alloc (Nat.le_refl _) _).alloc (by simp) _) _⟩

set_option maxHeartbeats 2000000 in
theorem eqNodeS_refl (a b : Option Addr) (n c d : Nat) (ns : List NodeD) (w : World) (h : NRow w a n ns) (k : NRow w b n ns) :
    Calls Tryz.prog 33 #[.slice a n c, .slice b n d] w fun e w' => e = .returned (.bool true) ∧ Below w.heap.size w w' := by
  have hn := h.small
  have H := hide h
  have K := hide k
  clear h k
  have hnn : ((n : Int) != (n : Int)) = false := by simp
  go_enter Tryz.func33, Tryz.ntmps33
  go_wp2_with fail
  go_loopw [5] (fun i wr => ∃ k : Nat, k ≤ n ∧ i = .int .i64 k ∧ Hid (Below w.heap.size w wr)) (fun i _ => n - (intOf i).toNat)
  case atStart => exact ⟨0, Nat.zero_le _, rfl, Below.refl _ _⟩
  case round =>
    obtain ⟨k, hk, rfl, HB⟩ := hrel
    by_cases hlt : k < n
    · obtain ⟨p1, o1, rfl, hl1, t1, m1, e1, t2, m2, e2, x0, x1, x2, x3, x4, x5, r1, r2⟩ := ((unhide H).below (Nat.le_refl _) (unhide HB)).get hlt
      obtain ⟨p2, o2, rfl, hl2, u1, q1, f1, u2, q2, f2, y0, y1, y2, y3, y4, y5, s1, s2⟩ := ((unhide K).below (Nat.le_refl _) (unhide HB)).get hlt
      have R1 := hide r1
      have R2 := hide r2
      have S1 := hide s1
      have S2 := hide s2
      obtain ⟨xk, hxk⟩ : ∃ x, x = (node ns k).k := ⟨_, rfl⟩
      obtain ⟨xn, hxn⟩ : ∃ x, x = (node ns k).n := ⟨_, rfl⟩
      obtain ⟨xm, hxm⟩ : ∃ x, x = (node ns k).m := ⟨_, rfl⟩
      obtain ⟨xs, hxs⟩ : ∃ x, x = (node ns k).s := ⟨_, rfl⟩
      rw [← hxk] at x0 y0
      rw [← hxn] at x1 y1
      rw [← hxm] at x2 y2
      rw [← hxs] at x3 y3
      clear r1 r2 s1 s2 hxk hxn hxm hxs
      go_wp2_with fail
      go_region_with (go_at_call 71; refine (eqNode_refl _ _ _ _ _ _ _ _ _ _ _ _ _ _ _ _ (node ns k).nums (node ns k).kids _ (by exact (unhide R1).below (Nat.le_refl _) (Below.refl _ _).drew) (by exact (unhide R2).below (Nat.le_refl _) (Below.refl _ _).drew) (by exact (unhide S1).below (Nat.le_refl _) (Below.refl _ _).drew) (by exact (unhide S2).below (Nat.le_refl _) (Below.refl _ _).drew)).mono ?_; rintro e w1 ⟨rfl, hb1⟩; have HB1 := hide ((unhide HB).trans ((Below.refl _ _).drew.trans (hb1.mono (unhide HB).size))); clear hb1)
      all_goals go_wp2_with fail
      all_goals (go_roundw; (case rel => exact ⟨k + 1, by omega, by go_num, unhide HB1⟩); (case measure => simp [intOf]; omega))
    · have hkn : k = n := by omega
      subst hkn
      go_wp2
      go_ret
      exact ⟨rfl, unhide HB⟩

set_option maxHeartbeats 2000000 in
theorem eqTree_refl (a b : Option Addr) (n c d : Nat) (ns : List NodeD) (w : World) (h : NRow w a n ns) (k : NRow w b n ns) :
    Calls Tryz.prog 11 #[.agg #[.slice a n c], .agg #[.slice b n d]] w fun e w' => e = .returned (.bool true) ∧ Below w.heap.size w w' := by
  go_enter Tryz.func11, Tryz.ntmps11
  go_wp2_with fail
  refine (eqNodeS_refl _ _ _ _ _ ns _ (by exact (h.alloc _).alloc _) (by exact (k.alloc _).alloc _)).mono ?_
  rintro e w1 ⟨rfl, hb1⟩
  have hB : Below w.heap.size w w1 := (((Below.refl _ _).alloc (Nat.le_refl _) _).alloc (by simp) _).trans (hb1.mono (by simp; omega))
  clear hb1
  go_wp2
  go_ret
  exact ⟨rfl, hB⟩

end Go.Proofs.YtmgjicgojlkpcaaGreatDoor
