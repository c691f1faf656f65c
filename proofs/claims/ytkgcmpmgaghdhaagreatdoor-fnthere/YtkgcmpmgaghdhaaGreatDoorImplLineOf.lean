import Derived.RangeFuncRecord
import Derived.Test.YtkgcmpmgaghdhaaGreatDoorMFit0
import Derived.Test.YtkgcmpmgaghdhaaGreatDoorMFit0
import Derived.BigQuiet
import Derived.Deep.DeepCutAuto
namespace Go.Proofs.YtkgcmpmgaghdhaaGreatDoor
open Go.RowKit

set_option maxHeartbeats 1000000 in
theorem lineOf_any (c : Bool) (v1 : Value) (a2 : Option Addr) (n2 c2 : Nat) (w : World) : Calls Tryz.prog 60 #[.agg #[.bool c, v1, .slice a2 n2 c2]] w fun e w' => ∃ s, e = .returned (.agg #[.bool c, .slice (some ⟨s, 0, none⟩) 1 1, .slice a2 n2 c2]) ∧ w.heap.size ≤ s ∧ Blk w' s [(n2 : Int)] ∧ Below w.heap.size w w' := by
  have hB1 : Box ((w.alloc (.cells #[.bool c, v1, .slice a2 n2 c2] 25)).alloc (.cells #[.bool false, .slice none 0 0, .slice none 0 0] 25)) (w.heap.size + 1) false (.slice none 0 0) (.slice none 0 0) := by
    have := Box.new (w.alloc (.cells #[.bool c, v1, .slice a2 n2 c2] 25)) false (.slice none 0 0) (.slice none 0 0)
    simpa using this
  have HB1 := hide hB1
  clear hB1
  obtain ⟨W, hW⟩ : ∃ W, W = (w.alloc (.cells #[.bool c, v1, .slice a2 n2 c2] 25)).alloc (.cells #[.bool false, .slice none 0 0, .slice none 0 0] 25) := ⟨_, rfl⟩
  have hz : W.heap.size = w.heap.size + 1 + 1 := by rw [hW]; simp
  have HBL : Hid (Below w.heap.size w W) := by rw [hW]; exact ((Below.refl _ w).alloc (Nat.le_refl _) _).alloc (by simp) _
  have HX0 : Hid (Box W w.heap.size c v1 (.slice a2 n2 c2)) := by rw [hW]; exact (Box.new w _ _ _).alloc _
  rw [← hW] at HB1
  go_enter Tryz.func60, Tryz.ntmps60
  go_upto_region 1 with fail
  rw [← hW]
  clear hW
  obtain ⟨p, hp⟩ : ∃ p, p = W.heap.size := ⟨_, rfl⟩
  have hpw : w.heap.size + 1 < p := by omega
  have hblk : Blk (W.alloc (.cells #[.int .i64 (n2 : Nat)] 3)) p [(n2 : Int)] := by rw [hp]; exact World.alloc_heap_new W _
  have HBK := hide hblk
  have hbox := HB1.out.alloc (.cells #[.int .i64 (n2 : Nat)] 3)
  have HBX := hide hbox
  obtain ⟨x0, x1, x2, x3, x4, x5⟩ := HX0.out.all
  obtain ⟨y0, y1, y2, y3, y4, y5⟩ := hbox.all
  have HP := hide hp
  clear hz hp hblk hbox
  go_wp2_with fail
  have hx := HBX.out.sets (c' := c) (u1 := .slice (some ⟨W.heap.size, 0, none⟩) 1 1) (u2 := .slice a2 n2 c2)
  obtain ⟨q0, q1, q2, _, _, _⟩ := hx.all
  refine bodyPost_ret (v := .agg #[.bool c, .slice (some ⟨W.heap.size, 0, none⟩) 1 1, .slice a2 n2 c2]) (by simp [results, Tryz.results60, go_sem, q0, q1, q2]) rfl ?_
  rw [← HP.out]
  exact ⟨p, rfl, by omega, ((HBK.out.other (p := ⟨w.heap.size + 1, 0, none⟩) (by show p ≠ w.heap.size + 1; omega) _).other (p := ⟨w.heap.size + 1, 1, none⟩) (by show p ≠ w.heap.size + 1; omega) _).other (p := ⟨w.heap.size + 1, 2, none⟩) (by show p ≠ w.heap.size + 1; omega) _, (((HBL.out.alloc (by rw [← HP.out]; omega) _).setCell (p := ⟨w.heap.size + 1, 0, none⟩) (by simp) _).setCell (p := ⟨w.heap.size + 1, 1, none⟩) (by simp) _).setCell (p := ⟨w.heap.size + 1, 2, none⟩) (by simp) _⟩

end Go.Proofs.YtkgcmpmgaghdhaaGreatDoor
