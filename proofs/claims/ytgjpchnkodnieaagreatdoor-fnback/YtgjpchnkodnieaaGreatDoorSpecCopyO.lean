import Derived.Test.YtgjpchnkodnieaaGreatDoorMFit0
import Derived.Deep.RegionHeld
namespace Go.Proofs.YtgjpchnkodnieaaGreatDoor
open Go.RowKit

set_option maxRecDepth 20000 in
set_option maxHeartbeats 2000000 in
theorem l3Copy_owns (c : Bool) (a1 a2 : Addr) (n1 n2 c1 c2 : Nat) (sh dt : List Int) (w : World) (h1 : Row w (some a1) n1 sh) (h2 : Row w (some a2) n2 dt) :
    Calls Tryz.prog 155 #[.agg #[.bool c, .slice (some a1) n1 c1, .slice (some a2) n2 c2]] w fun e w' => ∃ b1 d1 b2 d2, e = .returned (.agg #[.bool c, .slice b1 n1 d1, .slice b2 n2 d2]) ∧ w'.ownsRow (w.heap.size + 2) 3 1 (.slice b1 n1 d1) n1 (sh.map (Value.int .i64)) ∧ Own w' w.heap.size b2 n2 dt ∧ (∀ x, At b2 n2 x → (Value.slice b1 n1 d1).ownBlock ≠ some x) ∧ Below w.heap.size w w' := by
  have H1 := hide h1
  have H2 := hide h2
  clear h1 h2
  obtain ⟨W0, hW0⟩ : ∃ W0, ((w.alloc (.cells #[.bool c, .slice (some a1) n1 c1, .slice (some a2) n2 c2] 25)).alloc (.cells #[.bool false, .slice none 0 0, .slice none 0 0] 25)) = W0 := ⟨_, rfl⟩
  have hz0 : W0.heap.size = w.heap.size + 2 := by rw [← hW0]; simp
  have HBX : Hid (∀ wx, Below W0.heap.size W0 wx → Box wx w.heap.size c (.slice (some a1) n1 c1) (.slice (some a2) n2 c2) ∧ Box wx (w.heap.size + 1) false (.slice none 0 0) (.slice none 0 0) ∧ Below w.heap.size w wx) := by
    intro wx hwx
    rw [← hW0] at hwx
    exact boxes2 hwx
  have HK0 : Hid (Box W0 w.heap.size c (.slice (some a1) n1 c1) (.slice (some a2) n2 c2)) := (unhide HBX _ (Below.refl _ _)).1
  have HKEEP : ∀ wx, Below (w.heap.size + 1) W0 wx → Below (w.heap.size + 1) W0 wx ∧ wx.cell? ⟨w.heap.size, 0, none⟩ = some (.bool c) ∧ wx.cell? ⟨w.heap.size, 1, none⟩ = some (.slice (some a1) n1 c1) ∧ wx.cell? ⟨w.heap.size, 2, none⟩ = some (.slice (some a2) n2 c2) := fun wx hwx => ⟨hwx, ((unhide HK0).low (by omega) hwx).cells⟩
  obtain ⟨B0, B1, hB0⟩ := unhide HBX _ (Below.refl _ _)
  obtain ⟨x0, x1, x2, x3, x4, x5, x6⟩ := B0.all
  clear B0 B1
  go_enter Tryz.func155, Tryz.ntmps155
  go_wp2_with fail
  go_region_held (fun wx => Below (w.heap.size + 1) W0 wx ∧ wx.cell? ⟨w.heap.size, 0, none⟩ = some (.bool c) ∧ wx.cell? ⟨w.heap.size, 1, none⟩ = some (.slice (some a1) n1 c1) ∧ wx.cell? ⟨w.heap.size, 2, none⟩ = some (.slice (some a2) n2 c2)) (first | exact HKEEP _ (hKB.mono (by omega)) | exact HKEEP _ ((((hKB.mono (by omega)).setCell (by simp) _).setCell (by simp) _).setCell (by simp) _) | exact HKEEP _ (hKA.mono (by omega)) | exact HKEEP _ (Below.refl _ _).drew)
    (first
    | (go_at_call_of 71 (Value.slice (some a1) n1 c1); refine (l3Ints_owns _ _ _ sh _ (by exact (unhide H1).below (Nat.le_refl _) hB0.drew)).mono ?_; rintro e wA ⟨b1, d1, rfl, hOA, hbA⟩; have hKA : Below W0.heap.size W0 wA := (Below.refl _ _).drew.trans (hbA.mono (by simp)); have HOA : Hid (wA.ownsRow (w.heap.size + 2) 3 1 (.slice b1 n1 d1) n1 (sh.map (Value.int .i64))) := owns_mono hOA (by simp; omega); obtain ⟨t0, t1, t2, t3, t4, t5, t6⟩ := (unhide HBX _ hKA).2.1.all; clear hOA)
    | (go_at_call_of 71 (Value.slice (some a2) n2 c2); refine (l3Ints_any _ _ _ dt _ (by exact (unhide H2).below (Nat.le_refl _) (unhide HBX _ hKA).2.2)).mono ?_; rintro e wB ⟨b2, d2, rfl, hOB, hbB⟩; have hKB : Below W0.heap.size W0 wB := hKA.trans (hbB.mono hKA.size); have HOB : Hid (Own wB W0.heap.size b2 n2 dt) := hOB.mono hKA.size; have HAP : Hid (∀ x, At b2 n2 x → (Value.slice b1 n1 d1).ownBlock ≠ some x) := (fun x hx e => by have h1 := hOB.low hx; have h2 := owns_lt (unhide HOA) e; omega); have HOA' := hide (owns_below (unhide HOA) (Nat.le_refl _) hbB); obtain ⟨s0, s1, s2, s3, s4, s5, s6⟩ := (unhide HBX _ hKB).2.1.all; clear hOB))
  go_wp2_with fail
  have hp2 : ∀ x, At b2 n2 x → x ≠ w.heap.size + 1 := fun x hx => by have := (unhide HOB).low hx; omega
  refine bodyPost_ret (v := .agg #[.bool c, .slice b1 n1 d1, .slice b2 n2 d2]) (by simp [results, Tryz.results155, go_sem, s0, s1, s2]) rfl ?_
  exact ⟨b1, d1, b2, d2, rfl, owns_low_set (owns_low_set (owns_low_set (unhide HOA') (by omega) _) (by omega) _) (by omega) _, ((((unhide HOB).mono (by omega)).other hp2 _).other hp2 _).other hp2 _, unhide HAP, (((unhide HBX _ hKB).2.2.setCell (by simp) _).setCell (by simp) _).setCell (by simp) _⟩

end Go.Proofs.YtgjpchnkodnieaaGreatDoor
