import Derived.Test.YtkgcmpmgaghdhaaGreatDoorMFit3
namespace Go.Proofs.YtkgcmpmgaghdhaaGreatDoor
open Go.RowKit Go.Shelf

set_option maxRecDepth 20000 in
set_option maxHeartbeats 2000000 in
theorem stripUpTo_any (B L A k n2 c2 oc ol : Nat) (oa : Option Addr) (a2 : Addr) (w : World) (hA : 0 < A) (hL0 : 0 < L) (hk : k ≤ 100000000) (hL : L ≤ 100000) (hAb : A ≤ 100000) :
    Calls Tryz.prog 110 #[.agg #[.int .i64 (B : Nat), .int .i64 (L : Nat), .int .i64 (A : Nat), .slice oa ol oc], .slice (some a2) n2 c2, .int .i64 (k : Nat)] w fun e w' => e = .returned (.agg #[.slice (some a2) n2 c2, .int .i64 ((k - k / A % L * A : Nat) : Int), .int .i64 (A : Nat), .int .i64 ((k / A % L + 1 : Nat) : Int)]) ∧ Below w.heap.size w w' := by
  have hq' : (k : Int).tdiv (A : Int) = ((k / A : Nat) : Int) := by rw [Int.tdiv_eq_ediv_of_nonneg (by omega)]; simp
  have hr' : ((k / A : Nat) : Int).tmod (L : Int) = ((k / A % L : Nat) : Int) := by rw [Int.tmod_eq_emod_of_nonneg (Int.natCast_nonneg _)]; simp
  have hqb : k / A ≤ 100000000 := Nat.le_trans (Nat.div_le_self _ _) hk
  have hrb : k / A % L ≤ 100000 := Nat.le_trans (Nat.le_of_lt (Nat.mod_lt _ hL0)) hL
  have hle : k / A % L * A ≤ k := Nat.le_trans (Nat.mul_le_mul_right A (Nat.mod_le _ _)) (Nat.div_mul_le_self k A)
  obtain ⟨q, hq⟩ : ∃ q, q = k / A := ⟨_, rfl⟩
  rw [← hq] at hq' hqb hr' hrb hle ⊢
  obtain ⟨r, hr⟩ : ∃ r, r = q % L := ⟨_, rfl⟩
  rw [← hr] at hr' hrb hle ⊢
  obtain ⟨m1, hm1⟩ : ∃ m, m = r * A := ⟨_, rfl⟩
  rw [← hm1] at hle ⊢
  have e1 : (r : Int) * (A : Int) = (m1 : Int) := by rw [hm1]; simp
  obtain ⟨i, hi⟩ : ∃ i, i = k - m1 := ⟨_, rfl⟩
  have e2 : (k : Int) - (m1 : Int) = (i : Int) := by omega
  obtain ⟨j, hj⟩ : ∃ j, j = r + 1 := ⟨_, rfl⟩
  have e3 : (r : Int) + 1 = (j : Int) := by omega
  rw [← hi, ← hj]
  have hib : i ≤ 100000000 := by omega
  have hjb : j ≤ 100001 := by omega
  have hm1b : m1 ≤ 100000000 := by omega
  have hA0 : ¬ ((A : Int) = 0) := by omega
  have hL0' : ¬ ((L : Int) = 0) := by omega
  clear hi hm1 hq hr hj hle
  go_enter Tryz.func110, Tryz.ntmps110
  go_wp2
  go_quiet (fail)
  go_wp2
  refine bodyPost_ret (v := .agg #[.slice (some a2) n2 c2, .int .i64 (i : Nat), .int .i64 (A : Nat), .int .i64 (j : Nat)]) (by simp [results, Tryz.results110, go_sem]) rfl ?_
  exact ⟨rfl, ((((Below.drewN (((Below.refl _ _).alloc (Nat.le_refl _) _).alloc (by simp) _) _).setCell (by simp) _).setCell (by simp) _).setCell (by simp) _).setCell (by simp) _⟩

end Go.Proofs.YtkgcmpmgaghdhaaGreatDoor
