import Derived.Test.YtkgcmpmgaghdhaaGreatDoorImplDecodeA
import Derived.Deep.RegionHeld
namespace Go.Proofs.YtkgcmpmgaghdhaaGreatDoor
open Go.RowKit Go.Shelf

set_option maxRecDepth 20000 in
set_option maxHeartbeats 4000000 in
theorem implDecode_code (c d : Bool) (a1 a2 b1 b2 : Option Addr) (n1 n2 m1 m2 c1 c2 d1 d2 : Nat) (sh dt sh' dt' : List Int) (w : World) (h1 : Row w a1 n1 sh) (h2 : Row w a2 n2 dt) (k1 : Row w b1 m1 sh') (k2 : Row w b2 m2 dt') (r1 r2 : Int) (hr1 : Hid (codeList c d sh dt sh' dt' = r1)) (hr2 : Hid (codeList d c sh' dt' sh dt = r2)) (r : Int) (hr : orOf r1 r2 = r) (h0 : r ≠ 0) :
    Calls Tryz.prog 25 #[.agg #[.bool c, .slice a1 n1 c1, .slice a2 n2 c2], .agg #[.bool d, .slice b1 m1 d1, .slice b2 m2 d2]] w (GivesOwn w (noAns r)) := by
  have q : (r != 0) = true := by simp [h0]
  have HR := hide hr
  clear hr h0
  have hs2 := h2.small
  have hs4 := k2.small
  obtain ⟨W0, hW0⟩ : ∃ W0, W0 = (((w.alloc (.cells #[.bool c, .slice a1 n1 c1, .slice a2 n2 c2] 25)).alloc (.cells #[.bool d, .slice b1 m1 d1, .slice b2 m2 d2] 25)).alloc (.cells #[.bool false, .slice none 0 0, .slice none 0 0] 25)) := ⟨_, rfl⟩
  have hbW : Below w.heap.size w W0 := by rw [hW0]; exact (((Below.refl _ w).alloc (Nat.le_refl _) _).alloc (by simp) _).alloc (by simp; omega) _
  have HBOX : Hid (∀ wx, Below W0.heap.size W0 wx → Box wx w.heap.size c (.slice a1 n1 c1) (.slice a2 n2 c2) ∧ Box wx (w.heap.size + 1) d (.slice b1 m1 d1) (.slice b2 m2 d2) ∧ Box wx (w.heap.size + 2) false (.slice none 0 0) (.slice none 0 0) ∧ Below w.heap.size w wx) := fun wx hwx => by rw [hW0] at hwx; exact boxes3 hwx
  have HL1 : Hid (∀ wx, Below W0.heap.size W0 wx → Calls Tryz.prog 59 #[.agg #[.bool c, .slice a1 n1 c1, .slice a2 n2 c2], .agg #[.bool d, .slice b1 m1 d1, .slice b2 m2 d2]] wx fun e w' => e = .returned (.int .i64 r1) ∧ Below wx.heap.size wx w') := fun wx hwx => implListCode_any c d a1 a2 b1 b2 n1 n2 m1 m2 c1 c2 d1 d2 sh dt sh' dt' wx (h1.below (Nat.le_refl _) (hbW.trans (hwx.mono hbW.size))) (h2.below (Nat.le_refl _) (hbW.trans (hwx.mono hbW.size))) (k1.below (Nat.le_refl _) (hbW.trans (hwx.mono hbW.size))) (k2.below (Nat.le_refl _) (hbW.trans (hwx.mono hbW.size))) r1 hr1
  have HL2 : Hid (∀ wx, Below W0.heap.size W0 wx → Calls Tryz.prog 59 #[.agg #[.bool d, .slice b1 m1 d1, .slice b2 m2 d2], .agg #[.bool c, .slice a1 n1 c1, .slice a2 n2 c2]] wx fun e w' => e = .returned (.int .i64 r2) ∧ Below wx.heap.size wx w') := fun wx hwx => implListCode_any d c b1 b2 a1 a2 m1 m2 n1 n2 d1 d2 c1 c2 sh' dt' sh dt wx (k1.below (Nat.le_refl _) (hbW.trans (hwx.mono hbW.size))) (k2.below (Nat.le_refl _) (hbW.trans (hwx.mono hbW.size))) (h1.below (Nat.le_refl _) (hbW.trans (hwx.mono hbW.size))) (h2.below (Nat.le_refl _) (hbW.trans (hwx.mono hbW.size))) r2 hr2
  have HKEEP : ∀ wx, Below W0.heap.size W0 wx → Below W0.heap.size W0 wx ∧ (wx.cell? ⟨w.heap.size, 0, none⟩ = some (.bool c) ∧ wx.cell? ⟨w.heap.size, 1, none⟩ = some (.slice a1 n1 c1) ∧ wx.cell? ⟨w.heap.size, 2, none⟩ = some (.slice a2 n2 c2)) ∧ (wx.cell? ⟨w.heap.size + 1, 0, none⟩ = some (.bool d) ∧ wx.cell? ⟨w.heap.size + 1, 1, none⟩ = some (.slice b1 m1 d1) ∧ wx.cell? ⟨w.heap.size + 1, 2, none⟩ = some (.slice b2 m2 d2)) := fun wx hwx => ⟨hwx, (unhide HBOX _ hwx).1.cells, (unhide HBOX _ hwx).2.1.cells⟩
  clear h1 h2 k1 k2 hr1 hr2 hbW
  obtain ⟨_, ⟨x0, x1, x2⟩, ⟨y0, y1, y2⟩⟩ := HKEEP _ (Below.refl _ _)
  go_enter Tryz.func25, Tryz.ntmps25
  go_upto_region 1 with fail
  rw [← hW0]
  clear hW0
  go_region_held (fun wx => Below W0.heap.size W0 wx ∧ (wx.cell? ⟨w.heap.size, 0, none⟩ = some (.bool c) ∧ wx.cell? ⟨w.heap.size, 1, none⟩ = some (.slice a1 n1 c1) ∧ wx.cell? ⟨w.heap.size, 2, none⟩ = some (.slice a2 n2 c2)) ∧ (wx.cell? ⟨w.heap.size + 1, 0, none⟩ = some (.bool d) ∧ wx.cell? ⟨w.heap.size + 1, 1, none⟩ = some (.slice b1 m1 d1) ∧ wx.cell? ⟨w.heap.size + 1, 2, none⟩ = some (.slice b2 m2 d2))) (first | exact HKEEP _ hKC | exact HKEEP _ (hKB.alloc hKB.size _) | exact HKEEP _ hKB | exact HKEEP _ hKA | exact HKEEP _ (Below.refl _ _).drew | (refine HKEEP _ ?_; repeat (first | exact hKC | exact hKB | exact hKA | exact Below.refl _ _ | refine Below.drew ?_ | refine Below.alloc ?_ (by first | omega | (simp <;> omega)) _)))
    (first
    | (go_at_call 59; have hz := hKA; refine (unhide HL2 _ hKA).mono ?_; rintro e wB ⟨rfl, hbB⟩; have hKB : Below W0.heap.size W0 wB := hKA.trans (hbB.mono hKA.size); obtain ⟨_, ⟨x0, x1, x2⟩, ⟨y0, y1, y2⟩⟩ := HKEEP _ hKB)
    | (go_at_call 59; refine (unhide HL1 _ (Below.refl _ _).drew).mono ?_; rintro e wA ⟨rfl, hbA⟩; have hKA : Below W0.heap.size W0 wA := (Below.refl _ _).drew.trans (hbA.mono (by simp)); obtain ⟨_, ⟨x0, x1, x2⟩, ⟨y0, y1, y2⟩⟩ := HKEEP _ hKA)
    | (go_at_call 82; refine (or_any r1 r2 wB.heap.size _ (by exact cell_of_row _ _ 0 _ _ (0, 0) (heap_alloc_last wB _)) (by exact cell_of_row _ _ 1 _ _ (0, 0) (heap_alloc_last wB _))).mono ?_; rintro e wC ⟨rfl, hwC⟩; have hKC : Below W0.heap.size W0 wC := (by rw [hwC]; repeat (first | exact hKB | refine Below.drew ?_ | refine Below.alloc ?_ (by first | omega | (have := hKB.size; omega)) _)); clear hwC; obtain ⟨_, ⟨x0, x1, x2⟩, ⟨y0, y1, y2⟩⟩ := HKEEP _ hKC))
  all_goals rw [unhide HR]
  all_goals (obtain ⟨q0, q1, q2, q3, q4, q5, q6⟩ := (unhide HBOX _ hKC).2.2.1.all; have HBw := hide (unhide HBOX _ hKC).2.2.2)
  all_goals go_wp2_with fail
  all_goals refine bodyPost_ret (v := .tuple #[.agg #[.bool false, .slice none 0 0, .slice none 0 0], .int .i64 r]) (by simp [results, Tryz.results25, go_sem, q0, q1, q2]) rfl ?_
  all_goals exact gives_none ((((unhide HBw).setCell (by simp <;> omega) _).setCell (by simp <;> omega) _).setCell (by simp <;> omega) _)

end Go.Proofs.YtkgcmpmgaghdhaaGreatDoor
