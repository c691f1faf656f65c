import Derived.Test.YtkgcmpmgaghdhaaGreatDoorMFit0
import Derived.Test.YtkgcmpmgaghdhaaGreatDoorSpecWiderB
import Derived.Test.YtkgcmpmgaghdhaaGreatDoorCloneRow
import Derived.Test.YtkgcmpmgaghdhaaGreatDoorImplAxisY
import Derived.Test.YtkgcmpmgaghdhaaGreatDoorImplRepeat
import Derived.Test.YtkgcmpmgaghdhaaGreatDoorMFit2
import Derived.Test.YtkgcmpmgaghdhaaGreatDoorImplIndexes
namespace Go.Proofs.YtkgcmpmgaghdhaaGreatDoor
open Go.RowKit Go.Shelf

set_option maxHeartbeats 2000000 in
theorem beside_as (c : Bool) (a1 a2 : Addr) (n1 n2 c1 c2 : Nat) (o1 : Addr) (m1 d1 : Nat) (w : World) (h0 : n1 ≠ 0) (h1 : n1 + 1 ≠ m1) (hm : m1 ≤ 10000) :
    Calls Tryz.prog 103 #[.agg #[.bool c, .slice (some a1) n1 c1, .slice (some a2) n2 c2], .slice (some o1) m1 d1] w fun e w' => e = .returned (.agg #[.bool c, .slice (some a1) n1 c1, .slice (some a2) n2 c2]) ∧ Below w.heap.size w w' := by
  have g1 : ((n1 : Int) == 0) = false := by simp; omega
  have g2 : ((n1 : Int) == (m1 : Int) - 1) = false := by simp; omega
  have g3 : IntKind.i64.wrap ((m1 : Int) - 1) = (m1 : Int) - 1 := by rw [IntKind.wrap_i64]; omega
  clear h0 h1
  go_enter Tryz.func103, Tryz.ntmps103
  go_wp2
  refine bodyPost_ret (v := .agg #[.bool c, .slice (some a1) n1 c1, .slice (some a2) n2 c2]) (by simp [results, Tryz.results103, go_sem]) rfl ?_
  exact ⟨rfl, ((Below.refl _ w).alloc (Nat.le_refl _) _).alloc (by simp) _⟩

set_option maxRecDepth 20000 in
set_option maxHeartbeats 4000000 in
theorem beside_more (c : Bool) (a1 a2 : Addr) (n1 n2 c1 c2 : Nat) (o1 : Addr) (m1 d1 : Nat) (sh : List Int) (w : World) (h1 : Row w (some a1) n1 sh) (h0 : n1 ≠ 0) (hm : n1 + 1 = m1) (hn : n1 ≤ 10000) :
    Calls Tryz.prog 103 #[.agg #[.bool c, .slice (some a1) n1 c1, .slice (some a2) n2 c2], .slice (some o1) m1 d1] w fun e w' => ∃ g cap, e = .returned (.agg #[.bool c, .slice (some ⟨g, 0, none⟩) (n1 + 1) cap, .slice (some a2) n2 c2]) ∧ w'.ownsRow w.heap.size 3 1 (.slice (some ⟨g, 0, none⟩) (n1 + 1) cap) (n1 + 1) ((sh ++ [1]).map (Value.int .i64)) ∧ Below w.heap.size w w' := by
  obtain ⟨i0, hi, hz0, hz1, hz2⟩ := info_parts info_int
  subst hm
  have g1 : ((n1 : Int) == 0) = false := by simp; omega
  have g3 : IntKind.i64.wrap (((n1 + 1 : Nat) : Int) - 1) = (n1 : Int) := by rw [IntKind.wrap_i64]; omega
  obtain ⟨m, hm⟩ : ∃ m, m = n1 + 1 := ⟨_, rfl⟩
  rw [← hm] at g3
  clear hm h0
  obtain ⟨W, hW⟩ : ∃ W, W = (w.alloc (.cells #[.bool c, .slice (some a1) n1 c1, .slice (some a2) n2 c2] 25)).alloc (.cells #[.bool false, .slice none 0 0, .slice none 0 0] 25) := ⟨_, rfl⟩
  have hz : w.heap.size + 1 < W.heap.size := by rw [hW]; simp
  have HBW : Hid (Below w.heap.size w W) := by rw [hW]; exact ((Below.refl _ w).alloc (Nat.le_refl _) _).alloc (by simp) _
  have HX0 : Hid (Box W w.heap.size c (.slice (some a1) n1 c1) (.slice (some a2) n2 c2)) := by rw [hW]; exact (Box.new w _ _ _).alloc _
  have HX1 : Hid (Box W (w.heap.size + 1) false (.slice none 0 0) (.slice none 0 0)) := by rw [hW]; exact boxAt _ _ _ _ _ (by simp)
  have H1 := hide (h1.below (Nat.le_refl _) HBW.out)
  have HW := hide hW
  clear hW h1
  go_enter Tryz.func103, Tryz.ntmps103
  go_upto_region 5 with fail
  rw [← HW.out]
  clear HW
  have HKEEP : ∀ wx, But (fun k => k = w.heap.size + 1) W wx → wx.cell? ⟨w.heap.size, 0, none⟩ = some (.bool c) ∧ wx.cell? ⟨w.heap.size, 1, none⟩ = some (.slice (some a1) n1 c1) ∧ wx.cell? ⟨w.heap.size, 2, none⟩ = some (.slice (some a2) n2 c2) := fun wx hwx => by
    obtain ⟨y0, y1, y2, _, _, _⟩ := HX0.out.all
    exact ⟨(hwx.cellAt (by omega) (by omega)).trans y0, (hwx.cellAt (by omega) (by omega)).trans y1, (hwx.cellAt (by omega) (by omega)).trans y2⟩
  obtain ⟨y0, y1, y2⟩ := HKEEP _ (But.refl _ _)
  obtain ⟨r0, r1, r2, r3, r4, r5, r6⟩ := HX1.out.all
  go_region_held3 (fun wx => wx.cell? ⟨w.heap.size, 0, none⟩ = some (.bool c) ∧ wx.cell? ⟨w.heap.size, 1, none⟩ = some (.slice (some a1) n1 c1) ∧ wx.cell? ⟨w.heap.size, 2, none⟩ = some (.slice (some a2) n2 c2)) (first | exact HKEEP _ (But.refl _ _).drew | exact HKEEP _ (But.of_below hK8) | exact HKEEP _ ((((But.of_below (S := fun k => k = w.heap.size + 1) hK8).setCell (p := ⟨w.heap.size + 1, 0, none⟩) rfl _).setCell (p := ⟨w.heap.size + 1, 1, none⟩) rfl _).setCell (p := ⟨w.heap.size + 1, 2, none⟩) rfl _) | exact HKEEP _ (But.of_below hKI) | exact HKEEP _ ((But.of_below (S := fun k => k = w.heap.size + 1) hKI).alloc _) | exact HKEEP _ ((But.refl _ _).drew.alloc _) | exact HKEEP _ ((But.refl _ _).alloc _).drew)
    (first
    | (go_at_call 65; refine (Clone_owns a1 n1 c1 sh _ (by first | exact H1.out.below (Nat.le_refl _) (Below.refl _ W).drew | exact H1.out.below (Nat.le_refl _) ((Below.refl _ W).alloc (Nat.le_refl _) _).drew | exact (H1.out.below (Nat.le_refl _) (Below.refl _ W).drew).alloc _)).mono ?_; rintro e wI ⟨aI, cI, rfl, hoI, hbI⟩; have hKI : Below W.heap.size W wI := (by first | exact (Below.refl _ W).drew.trans (hbI.mono (Nat.le_refl _)) | exact ((Below.refl _ W).alloc (Nat.le_refl _) _).drew.trans (hbI.mono (by simp)) | exact ((Below.refl _ W).drew.alloc (Nat.le_refl _) _).trans (hbI.mono (by simp))); have hoI' := owns_mono (base' := W.heap.size) hoI (by simp); (first | (have hE1 := one_blk2 W 1 hbI) | (have hE1 := one_blk1 W 1 hbI) | skip); have hzI := hKI.size; clear y0 y1 y2 r0 r1 r2 r3 r4 r5 r6; obtain ⟨y0, y1, y2⟩ := HKEEP _ (But.of_below hKI); obtain ⟨r0, r1, r2, r3, r4, r5, r6⟩ := (HX1.out.below (Nat.le_refl _) hKI).all)
    | (refine step_append_lies _ (by rfl) _ _ _ (by rfl) W.heap.size 3 i0 _ 1 8 Tryz.underlying23 hi hz0 hz1 hz2 rfl (by omega) (.slice aI n1 cI) n1 (sh.map (Value.int .i64)) (by rfl) (hoI'.alloc _) ⟨wI.heap.size, 0, none⟩ 1 1 [.int .i64 1] (by rfl) (by rfl) (cells_new wI _) (one_one _) (by omega) (by unfold maxLen; omega) (by omega) (by first | omega | (simp; omega)) _ rfl ?_; intro g8 p8 w8 hown' hgrow hat hlt8; have hK8 : Below W.heap.size W w8 := hKI.trans (below_append _ hoI' hzI hgrow); have HO8 := hide hown'; clear hown' hgrow hat y0 y1 y2 r0 r1 r2 r3 r4 r5 r6; obtain ⟨y0, y1, y2⟩ := HKEEP _ (But.of_below hK8); obtain ⟨r0, r1, r2, r3, r4, r5, r6⟩ := (HX1.out.below (Nat.le_refl _) hK8).all)
    | (refine step_append_lies _ (by rfl) _ _ _ (by rfl) W.heap.size 3 i0 _ 1 8 Tryz.underlying23 hi hz0 hz1 hz2 rfl (by omega) (.slice aI n1 cI) n1 (sh.map (Value.int .i64)) (by rfl) hoI' ⟨W.heap.size, 0, none⟩ 1 1 [.int .i64 1] (by rfl) (by rfl) (blk_one_cells hE1) (one_one _) (by omega) (by unfold maxLen; omega) (by omega) (by first | omega | (simp; omega)) _ rfl ?_; intro g8 p8 w8 hown' hgrow hat hlt8; have hK8 : Below W.heap.size W w8 := hKI.grown hgrow hzI (owns_ge hoI'); have HO8 := hide hown'; clear hown' hgrow hat y0 y1 y2 r0 r1 r2 r3 r4 r5 r6; obtain ⟨y0, y1, y2⟩ := HKEEP _ (But.of_below hK8); obtain ⟨r0, r1, r2, r3, r4, r5, r6⟩ := (HX1.out.below (Nat.le_refl _) hK8).all))
  all_goals
    go_wp2_with fail
    have hx := (HX1.out.below (Nat.le_refl _) hK8).sets (c' := c) (u1 := .slice (some ⟨g8, 0, none⟩) (n1 + 1) p8) (u2 := .slice (some a2) n2 c2)
    obtain ⟨q0, q1, q2, _, _, _⟩ := hx.all
    refine bodyPost_ret (v := .agg #[.bool c, .slice (some ⟨g8, 0, none⟩) (n1 + 1) p8, .slice (some a2) n2 c2]) (by simp [results, Tryz.results103, go_sem, q0, q1, q2]) rfl ?_
    have e : (sh ++ [1]).map (Value.int .i64) = sh.map (Value.int .i64) ++ [.int .i64 1] := by simp
    rw [e]
    refine ⟨g8, p8, rfl, owns_mono (owns_low_set (owns_low_set (owns_low_set HO8.out (by omega) _) (by omega) _) (by omega) _) (by omega), ((((HBW.out.trans (hK8.mono (by omega))).setCell (p := ⟨w.heap.size + 1, 0, none⟩) (by simp) _).setCell (p := ⟨w.heap.size + 1, 1, none⟩) (by simp) _).setCell (p := ⟨w.heap.size + 1, 2, none⟩) (by simp) _)⟩

theorem owns_fits {w : World} {base e size n cap : Nat} {a : Addr} {xs : List Value} (h : w.ownsRow base e size (.slice (some a) n cap) n xs) : n ≤ cap := by
  rcases h.2 with ⟨h0, _⟩ | ⟨g, cap', cur, h0, _, _, h1, _⟩
  · cases h0
  · cases h0; exact h1

theorem field_others (B N A : Int) (v : Value) (w : World) : (Instr.field 105 (.agg #[.int .i64 B, .int .i64 N, .int .i64 A, v]) 3).run Tryz.prog w = .ok v w := by kernel_rfl

set_option maxRecDepth 20000 in
set_option maxHeartbeats 4000000 in
theorem beside_nil (c : Bool) (a1 a2 : Addr) (c1 c2 : Nat) (o1 : Addr) (m1 d1 : Nat) (x B K A : Int) (fr : List Int) (N : Nat) (w : World) (h2 : Row w (some a2) 1 [x]) (hax : ∀ wx, Below w.heap.size w wx → Calls Tryz.prog 94 #[.slice (some o1) m1 d1, .bool false] wx (AxisRow wx B K A fr)) (hf : fr.length ≤ 5) (hsi : ShapeIn (fr ++ [1])) (hN : prodAll (fr ++ [1]) = (N : Int)) (hNb : N ≤ 10000) :
    Calls Tryz.prog 103 #[.agg #[.bool c, .slice (some a1) 0 c1, .slice (some a2) 1 c2], .slice (some o1) m1 d1] w fun e w' => ∃ g cap gd, e = .returned (.agg #[.bool c, .slice (some ⟨g, 0, none⟩) (fr.length + 1) cap, .slice (some ⟨gd, 0, none⟩) N N]) ∧ fr.length + 1 ≤ cap ∧ Row w' (some ⟨g, 0, none⟩) (fr.length + 1) (fr ++ [1]) ∧ Row w' (some ⟨gd, 0, none⟩) N (List.replicate N x) ∧ w.heap.size ≤ g ∧ w.heap.size ≤ gd ∧ Below w.heap.size w w' := by
  obtain ⟨i0, hi, hz0, hz1, hz2⟩ := info_parts info_int
  obtain ⟨W, hW⟩ : ∃ W, W = (w.alloc (.cells #[.bool c, .slice (some a1) 0 c1, .slice (some a2) 1 c2] 25)).alloc (.cells #[.bool false, .slice none 0 0, .slice none 0 0] 25) := ⟨_, rfl⟩
  have hz : w.heap.size + 1 < W.heap.size := by rw [hW]; simp
  have HBW : Hid (Below w.heap.size w W) := by rw [hW]; exact ((Below.refl _ w).alloc (Nat.le_refl _) _).alloc (by simp) _
  have HX0 : Hid (Box W w.heap.size c (.slice (some a1) 0 c1) (.slice (some a2) 1 c2)) := by rw [hW]; exact (Box.new w _ _ _).alloc _
  have HX1 : Hid (Box W (w.heap.size + 1) false (.slice none 0 0) (.slice none 0 0)) := by rw [hW]; exact boxAt _ _ _ _ _ (by simp)
  have H2 := hide (h2.below (Nat.le_refl _) HBW.out)
  have HW := hide hW
  have HAX := hide (hax W HBW.out)
  have HSI := hide hsi
  have HN := hide hN
  obtain ⟨fl, hfl⟩ : ∃ fl, fr.length = fl := ⟨_, rfl⟩
  have HFL := hide hfl
  rw [hfl] at hf ⊢
  clear hW h2 hax hsi hN hfl
  go_enter Tryz.func103, Tryz.ntmps103
  go_upto_region 3 with (first
    | (go_at_call 94; rw [← HW.out]; refine HAX.out.mono ?_; rintro e wA ⟨oa, ol, oc, rfl, hoA, hbA⟩; obtain rfl : ol = fl := (by have := hoA.1; simp at this; rw [← this, HFL.out]); have HOA := hide hoA; have HBA := hide hbA; have hfd := field_others B K A (.slice oa ol oc); have hzA := HBA.out.size; clear hbA hoA)
    | (at_builtin; refine wpList_append_lies _ rfl _ _ 23 rfl W.heap.size 3 i0 (.int .i64 0) 1 8 Tryz.underlying23 hi hz0 hz1 hz2 rfl (by decide) _ _ _ rfl (owns_mono (base' := W.heap.size) (HOA.out.alloc _) (by omega)) ⟨wA.heap.size, 0, none⟩ 1 1 [.int .i64 1] rfl rfl (cells_new _ _) (one_one _) (by omega) (by unfold maxLen; omega) (by omega) (by simp; omega) (wA.heap.size + 1) (by simp) ?_; intro g cap w7 hown hgrow hat hlt; have HO7 := hide hown; have HB7 := hide (HBA.out.trans (below_append _ (owns_mono (base' := W.heap.size) HOA.out (by omega)) hzA hgrow)); clear hown hgrow hat hlt hfd))
  have hz7 := HB7.out.size
  have hR7 : w7.ownsRow W.heap.size 3 1 (.slice (some ⟨g, 0, none⟩) (ol + 1) cap) (ol + 1) ((fr ++ [1]).map (Value.int .i64)) := by rw [List.map_append]; exact HO7.out
  obtain ⟨_, _, ev, hO7⟩ := Own.of_owns hR7 (by omega)
  cases ev
  have hcap := owns_fits hR7
  have hgg := owns_ge hR7 g rfl
  have HRS := hide hO7.row
  clear hR7 hO7 HO7 HOA HAX
  have HKEEP : ∀ wx, But (fun k => k = w.heap.size + 1) w7 wx → wx.cell? ⟨w.heap.size, 0, none⟩ = some (.bool c) ∧ wx.cell? ⟨w.heap.size, 2, none⟩ = some (.slice (some a2) 1 c2) := fun wx hwx => by
    obtain ⟨y0, y1, y2, _, _, _⟩ := (HX0.out.below (Nat.le_refl _) HB7.out).all
    exact ⟨(hwx.cellAt (by omega) (by omega)).trans y0, (hwx.cellAt (by omega) (by omega)).trans y2⟩
  obtain ⟨r0, r1, r2, r3, r4, r5, r6⟩ := (HX1.out.below (Nat.le_refl _) HB7.out).all
  have HR2 := hide (H2.out.below (Nat.le_refl _) HB7.out)
  go_region_held3 (fun wx => wx.cell? ⟨w.heap.size, 0, none⟩ = some (.bool c) ∧ wx.cell? ⟨w.heap.size, 2, none⟩ = some (.slice (some a2) 1 c2)) (first | exact HKEEP _ (But.refl _ _).drew | exact HKEEP _ (But.of_below hKR) | exact HKEEP _ ((((But.of_below (S := fun k => k = w.heap.size + 1) hKR).setCell (p := ⟨w.heap.size + 1, 0, none⟩) rfl _).setCell (p := ⟨w.heap.size + 1, 1, none⟩) rfl _).setCell (p := ⟨w.heap.size + 1, 2, none⟩) rfl _))
    (first
    | (go_at_call 51; refine (cellsOf_n _ _ _ (fr ++ [1]) _ (HRS.out.below (Nat.le_refl _) (Below.refl _ w7).drew) HSI.out N HN).mono ?_; rintro e wB ⟨rfl, rfl⟩)
    | (go_at_call 124; refine (Repeat_any a2 c2 N x _ (HR2.out.below (Nat.le_refl _) (Below.refl _ w7).drew) hNb).mono ?_; rintro e wR ⟨rfl, hR1, hR2⟩; have hKR : Below w7.heap.size w7 wR := (Below.refl _ w7).drew.trans hR2; clear r0 r1 r2 r3 r4 r5 r6; obtain ⟨r0, r1, r2, r3, r4, r5, r6⟩ := (HX1.out.below (Nat.le_refl _) (HB7.out.trans (hKR.mono hz7))).all))
  all_goals
    go_wp2_with fail
    have hBR := HB7.out.trans (hKR.mono hz7)
    have hX := (HX1.out.below (Nat.le_refl _) hBR)
    have hx := hX.sets (c' := c) (u1 := .slice (some ⟨g, 0, none⟩) (ol + 1) cap) (u2 := .slice (some ⟨w7.heap.size, 0, none⟩) N N)
    obtain ⟨q0, q1, q2, _, _, _⟩ := hx.all
    refine bodyPost_ret (v := .agg #[.bool c, .slice (some ⟨g, 0, none⟩) (ol + 1) cap, .slice (some ⟨w7.heap.size, 0, none⟩) N N]) (by simp [results, Tryz.results103, go_sem, q0, q1, q2]) rfl ?_
    refine ⟨g, cap, w7.heap.size, rfl, hcap, (HRS.out.below (Nat.le_refl _) hKR).sets hX _ _ _, (Blk.row hR1 (by simp) (by omega)).sets hX _ _ _, by omega, by omega, (((HBW.out.trans (hBR.mono (by omega))).setCell (by simp) _).setCell (by simp) _).setCell (by simp) _⟩

end Go.Proofs.YtkgcmpmgaghdhaaGreatDoor
