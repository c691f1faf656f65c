import Derived.Test.YtkgcmpmgaghdhaaGreatDoorMFit2
namespace Go.Proofs.YtkgcmpmgaghdhaaGreatDoor
open Go.RowKit Go.Shelf

set_option maxHeartbeats 1000000 in
theorem extended_any (c : Bool) (a1 a2 : Option Addr) (n1 n2 c1 c2 cnt : Nat) (hn : n2 ≤ 17592186044416) (w : World) :
    Calls Tryz.prog 54 #[.agg #[.bool c, .slice a1 n1 c1, .slice a2 n2 c2], .int .i64 (cnt : Nat)] w fun e w' => e = .returned (.agg #[.slice a2 n2 c2, .int .i64 (0 : Nat), .int .i64 ((if n2 = 1 then 0 else 1 : Nat) : Int), .int .i64 (cnt : Nat)]) ∧ Below w.heap.size w w' := by
  by_cases h : n2 = 1
  · subst h
    rw [if_pos rfl]
    go_enter Tryz.func54, Tryz.ntmps54
    go_wp2
    refine bodyPost_ret (v := .agg #[.slice a2 1 c2, .int .i64 (0 : Nat), .int .i64 ((0 : Nat) : Int), .int .i64 (cnt : Nat)]) (by simp [results, Tryz.results54, go_sem]) rfl ?_
    exact ⟨rfl, ((Below.refl _ _).alloc (Nat.le_refl _) _).alloc (by simp) _⟩
  · rw [if_neg h]
    have q1 : ((n2 : Int) == 1) = false := by simp; omega
    clear h
    go_enter Tryz.func54, Tryz.ntmps54
    go_wp2
    refine bodyPost_ret (v := .agg #[.slice a2 n2 c2, .int .i64 (0 : Nat), .int .i64 ((1 : Nat) : Int), .int .i64 (cnt : Nat)]) (by simp [results, Tryz.results54, go_sem]) rfl ?_
    exact ⟨rfl, ((Below.refl _ _).alloc (Nat.le_refl _) _).alloc (by simp) _⟩

end Go.Proofs.YtkgcmpmgaghdhaaGreatDoor
