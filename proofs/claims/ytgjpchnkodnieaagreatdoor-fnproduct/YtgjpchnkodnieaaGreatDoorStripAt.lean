import Derived.Test.YtgjpchnkodnieaaGreatDoorMFit2
import Derived.Test.YtgjpchnkodnieaaGreatDoorMFit0
import Derived.Test.YtgjpchnkodnieaaGreatDoorImplConcat
import Derived.BigQuiet
namespace Go.Proofs.YtgjpchnkodnieaaGreatDoor
open Go.RowKit Go.Shelf

/-- Block p holds a strip. -/
def SBox (w : World) (p : Nat) (a : Option Addr) (n c start step count : Nat) : Prop := w.heap[p]? = some (.cells #[.slice a n c, .int .i64 start, .int .i64 step, .int .i64 count] 145 (0, 0))

theorem SBox.lt {w : World} {p : Nat} {a : Option Addr} {n c start step count : Nat} (h : SBox w p a n c start step count) : p < w.heap.size := lt_of_block h
theorem SBox.cells {w : World} {p : Nat} {a : Option Addr} {n c start step count : Nat} (h : SBox w p a n c start step count) : w.cell? ⟨p, 0, none⟩ = some (.slice a n c) ∧ w.cell? ⟨p, 1, none⟩ = some (.int .i64 start) ∧ w.cell? ⟨p, 2, none⟩ = some (.int .i64 step) ∧ w.cell? ⟨p, 3, none⟩ = some (.int .i64 count) := by
  unfold SBox at h
  simp [World.cell?, h]
theorem SBox.below {w w' : World} {p B : Nat} {a : Option Addr} {n c start step count : Nat} (h : SBox w p a n c start step count) (hB : w.heap.size ≤ B) (hb : Below B w w') : SBox w' p a n c start step count := (hb.block p (Nat.lt_of_lt_of_le h.lt hB)).trans h
theorem SBox.alloc {w : World} {p : Nat} {a : Option Addr} {n c start step count : Nat} (h : SBox w p a n c start step count) (o : Obj) : SBox (w.alloc o) p a n c start step count := (Below.heap_alloc w o p h.lt).trans h
theorem SBox.new (w : World) (a : Option Addr) (n c start step count : Nat) : SBox (w.alloc (.cells #[.slice a n c, .int .i64 start, .int .i64 step, .int .i64 count] 145 (0, 0))) w.heap.size a n c start step count := heap_alloc_last w _

set_option maxHeartbeats 1000000 in
theorem at_any (a : Option Addr) (n c start step count k : Nat) (zs : List Int) (w : World) (h : Row w a n zs) (hi : start + k * step < n) :
    Calls Tryz.prog 192 #[.agg #[.slice a n c, .int .i64 start, .int .i64 step, .int .i64 count], .int .i64 (k : Nat)] w fun e w' => e = .returned (.int .i64 (zs.getD (start + k * step) 0)) ∧ Below w.heap.size w w' := by
  obtain ⟨b, off, rfl, hblt, hc⟩ := h.get hi
  have hsm := h.small
  clear h
  obtain ⟨x, hx⟩ : ∃ x, x = zs.getD (start + k * step) 0 := ⟨_, rfl⟩
  rw [← hx] at hc ⊢
  clear hx
  obtain ⟨m, hm⟩ : ∃ m, m = k * step := ⟨_, rfl⟩
  rw [← hm] at hi hc
  have hm' : (k : Int) * (step : Int) = (m : Int) := by rw [hm]; simp
  obtain ⟨i, hie⟩ : ∃ i, i = start + m := ⟨_, rfl⟩
  rw [← hie] at hi hc
  have hi' : (start : Int) + (m : Int) = (i : Int) := by rw [hie]; simp
  clear hm hie
  have hc' := ((Below.refl w.heap.size w).alloc (Nat.le_refl _) (.cells #[.slice (some ⟨b, off, none⟩) n c, .int .i64 start, .int .i64 step, .int .i64 count] 145)).cell (p := ⟨b, off + i, none⟩) hblt
  rw [hc] at hc'
  go_enter Tryz.func192, Tryz.ntmps192
  go_wp2
  go_ret
  exact ⟨rfl, (Below.refl _ _).alloc (Nat.le_refl _) _⟩

end Go.Proofs.YtgjpchnkodnieaaGreatDoor
