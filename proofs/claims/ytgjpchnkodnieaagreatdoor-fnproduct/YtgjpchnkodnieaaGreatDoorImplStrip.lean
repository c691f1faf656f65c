import Derived.Test.YtgjpchnkodnieaaGreatDoorImplFoldB
import Derived.BigQuiet
namespace Go.Proofs.YtgjpchnkodnieaaGreatDoor
open Go.RowKit Go.Shelf

set_option maxRecDepth 20000 in
set_option maxHeartbeats 2000000 in
theorem stripAt_any (B L A k n2 c2 oc ol : Nat) (oa : Option Addr) (a2 : Addr) (w : World) (hA : 0 < A) (hk : k ≤ 100000000) (hL : L ≤ 100000) (hAb : A ≤ 100000) :
    Calls Tryz.prog 120 #[.agg #[.int .i64 (B : Nat), .int .i64 (L : Nat), .int .i64 (A : Nat), .slice oa ol oc], .slice (some a2) n2 c2, .int .i64 (k : Nat)] w fun e w' => e = .returned (.agg #[.slice (some a2) n2 c2, .int .i64 ((k / A * L * A + k % A : Nat) : Int), .int .i64 (A : Nat), .int .i64 (L : Nat)]) ∧ Below w.heap.size w w' := by
  have hq' : (k : Int).tdiv (A : Int) = ((k / A : Nat) : Int) := by rw [Int.tdiv_eq_ediv_of_nonneg (by omega)]; simp
  have hr' : (k : Int).tmod (A : Int) = ((k % A : Nat) : Int) := by rw [Int.tmod_eq_emod_of_nonneg (by omega)]; simp
  have hqb : k / A ≤ 100000000 := Nat.le_trans (Nat.div_le_self _ _) hk
  have hrb : k % A ≤ 100000 := Nat.le_trans (Nat.le_of_lt (Nat.mod_lt _ hA)) hAb
  obtain ⟨q, hq⟩ : ∃ q, q = k / A := ⟨_, rfl⟩
  obtain ⟨r, hr⟩ : ∃ r, r = k % A := ⟨_, rfl⟩
  rw [← hq] at hq' hqb ⊢
  rw [← hr] at hr' hrb ⊢
  have hm1b : q * L ≤ 10000000000000 := Nat.le_trans (Nat.mul_le_mul hqb hL) (by omega)
  have hm2b : q * L * A ≤ 1000000000000000000 := Nat.le_trans (Nat.mul_le_mul hm1b hAb) (by omega)
  obtain ⟨m1, hm1⟩ : ∃ m, m = q * L := ⟨_, rfl⟩
  obtain ⟨m2, hm2⟩ : ∃ m, m = m1 * A := ⟨_, rfl⟩
  rw [← hm1] at hm1b hm2b ⊢
  rw [← hm2] at hm2b ⊢
  have e1 : (q : Int) * (L : Int) = (m1 : Int) := by rw [hm1]; simp
  have e2 : (m1 : Int) * (A : Int) = (m2 : Int) := by rw [hm2]; simp
  obtain ⟨i, hi⟩ : ∃ i, i = m2 + r := ⟨_, rfl⟩
  have e3 : (m2 : Int) + (r : Int) = (i : Int) := by rw [hi]; simp
  rw [← hi]
  have hib : i ≤ 1000000000000100000 := by omega
  have hA0 : ¬ ((A : Int) = 0) := by omega
  clear hi hm1 hm2 hq hr
  go_enter Tryz.func120, Tryz.ntmps120
  go_wp2
  go_quiet (fail)
  go_wp2
  refine bodyPost_ret (v := .agg #[.slice (some a2) n2 c2, .int .i64 (i : Nat), .int .i64 (A : Nat), .int .i64 (L : Nat)]) (by simp [results, Tryz.results120, go_sem]) rfl ?_
  exact ⟨rfl, ((((Below.drewN (((Below.refl _ _).alloc (Nat.le_refl _) _).alloc (by simp) _) _).setCell (by simp) _).setCell (by simp) _).setCell (by simp) _).setCell (by simp) _⟩

/-- Block p holds an axis. -/
def ABox (w : World) (p B L A : Nat) (v : Value) : Prop := w.heap[p]? = some (.cells #[.int .i64 (B : Nat), .int .i64 (L : Nat), .int .i64 (A : Nat), v] 133 (0, 0))
theorem ABox.lt {w : World} {p B L A : Nat} {v : Value} (h : ABox w p B L A v) : p < w.heap.size := lt_of_block h
theorem ABox.cells {w : World} {p B L A : Nat} {v : Value} (h : ABox w p B L A v) : w.cell? ⟨p, 0, none⟩ = some (.int .i64 (B : Nat)) ∧ w.cell? ⟨p, 1, none⟩ = some (.int .i64 (L : Nat)) ∧ w.cell? ⟨p, 2, none⟩ = some (.int .i64 (A : Nat)) ∧ w.cell? ⟨p, 3, none⟩ = some v := ⟨cell_of_row _ _ 0 _ _ _ h, cell_of_row _ _ 1 _ _ _ h, cell_of_row _ _ 2 _ _ _ h, cell_of_row _ _ 3 _ _ _ h⟩
theorem ABox.below {w w' : World} {p B L A K : Nat} {v : Value} (h : ABox w p B L A v) (hB : w.heap.size ≤ K) (hb : Below K w w') : ABox w' p B L A v := (hb.block p (Nat.lt_of_lt_of_le h.lt hB)).trans h
theorem ABox.alloc {w : World} {p B L A : Nat} {v : Value} (h : ABox w p B L A v) (o : Obj) : ABox (w.alloc o) p B L A v := (Below.heap_alloc w o p h.lt).trans h

end Go.Proofs.YtgjpchnkodnieaaGreatDoor
