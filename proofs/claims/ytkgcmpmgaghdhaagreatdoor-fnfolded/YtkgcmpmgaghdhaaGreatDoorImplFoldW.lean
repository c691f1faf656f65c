import Derived.Test.YtkgcmpmgaghdhaaGreatDoorMFit3
import Derived.Test.YtkgcmpmgaghdhaaGreatDoorImplFoldC
import Derived.Test.YtkgcmpmgaghdhaaGreatDoorImplJoint
import Derived.Deep.RegionHeld
namespace Go.Proofs.YtkgcmpmgaghdhaaGreatDoor
open Go.RowKit Go.Shelf

set_option maxRecDepth 20000 in
set_option maxHeartbeats 4000000 in
theorem implFold_bad1 (op : Int) (c fl : Bool) (a1 a2 : Addr) (n1 n2 c1 c2 : Nat) (w : World) (hop : opIn op = false) :
    Calls Tryz.prog 34 #[.int .i64 op, .agg #[.bool c, .slice (some a1) n1 c1, .slice (some a2) n2 c2], .bool fl] w (GivesOwn w (noAns 3)) := by
  have HOP := hide hop
  clear hop
  go_enter Tryz.func34, Tryz.ntmps34
  go_wp2_with (first | (go_at_call 48; refine (isScalarFn_any op _ _ HOP).mono ?_; rintro e w0 ⟨rfl, rfl⟩))
  refine bodyPost_ret (v := .tuple #[.agg #[.bool false, .slice none 0 0, .slice none 0 0], .int .i64 3]) (by simp [results, Tryz.results34, go_sem]) rfl ?_
  exact gives_none (((Below.refl _ _).alloc (Nat.le_refl _) _).alloc (by simp) _)

set_option maxRecDepth 20000 in
set_option maxHeartbeats 4000000 in
theorem implFold_bad2 (op : Int) (c fl : Bool) (a1 a2 : Addr) (n1 n2 c1 c2 : Nat) (sh dt : List Int) (w : World) (h1 : Row w (some a1) n1 sh) (h2 : Row w (some a2) n2 dt) (hop : opIn op = true) (hok : arrOk c sh dt = false) :
    Calls Tryz.prog 34 #[.int .i64 op, .agg #[.bool c, .slice (some a1) n1 c1, .slice (some a2) n2 c2], .bool fl] w (GivesOwn w (noAns 3)) := by
  have HR := hide hok
  have HOP := hide hop
  have hs2 := h2.small
  have H1 := hide h1
  have H2 := hide h2
  clear h1 h2 hok hop
  go_enter Tryz.func34, Tryz.ntmps34
  go_wp2_with (first | (go_at_call 48; refine (isScalarFn_any op _ _ HOP).mono ?_; rintro e w0 ⟨rfl, rfl⟩) | (go_at_call 43; refine (implArrayOk_eq _ _ _ _ _ _ _ sh dt _ (((unhide H1).alloc _).alloc _) (((unhide H2).alloc _).alloc _) _ HR).mono ?_; rintro e w1 ⟨rfl, hb1⟩; obtain ⟨B0, B2, hB1⟩ := boxes2 hb1; have HB0 := hide B0; have HB2 := hide B2; have HB := hide hB1; obtain ⟨x0, x1, x2, x3, x4, x5, x6⟩ := B0.all; obtain ⟨q0, q1, q2, q3, q4, q5, q6⟩ := B2.all; clear hb1 hB1 B0 B2))
  refine bodyPost_ret (v := .tuple #[.agg #[.bool false, .slice none 0 0, .slice none 0 0], .int .i64 3]) (by simp [results, Tryz.results34, go_sem, q0, q1, q2]) rfl ?_
  exact gives_none ((((unhide HB).setCell (by simp) _).setCell (by simp) _).setCell (by simp) _)

set_option maxRecDepth 20000 in
set_option maxHeartbeats 4000000 in
theorem implFold_bad3 (op : Int) (c fl : Bool) (a1 a2 : Addr) (n1 n2 c1 c2 : Nat) (sh dt : List Int) (w : World) (h1 : Row w (some a1) n1 sh) (h2 : Row w (some a2) n2 dt) (hop : opIn op = true) (hok : arrOk c sh dt = true) (B L A : Nat) (others : List Int) (hax : ∀ W, Below w.heap.size w W → Calls Tryz.prog 94 #[.slice (some a1) n1 c1, .bool fl] W (AxisOk W B L A others)) (hc : c = true) (hL : L ≠ 1) :
    Calls Tryz.prog 34 #[.int .i64 op, .agg #[.bool c, .slice (some a1) n1 c1, .slice (some a2) n2 c2], .bool fl] w (GivesOwn w (noAns 3)) := by
  have HR := hide hok
  have HOP := hide hop
  have hs2 := h2.small
  have H1 := hide h1
  have H2 := hide h2
  clear h1 h2 hok hop
  have HAX := hide hax
  have ql : ((L : Int) == 1) = false := by simp; omega
  subst hc
  clear hax hL
  go_enter Tryz.func34, Tryz.ntmps34
  go_wp2_with (first | (go_at_call 48; refine (isScalarFn_any op _ _ HOP).mono ?_; rintro e w0 ⟨rfl, rfl⟩) | (go_at_call 43; refine (implArrayOk_eq _ _ _ _ _ _ _ sh dt _ (((unhide H1).alloc _).alloc _) (((unhide H2).alloc _).alloc _) _ HR).mono ?_; rintro e w1 ⟨rfl, hb1⟩; obtain ⟨B0, B2, hB1⟩ := boxes2 hb1; have HB0 := hide B0; have HB2 := hide B2; have HB := hide hB1; obtain ⟨x0, x1, x2, x3, x4, x5, x6⟩ := B0.all; obtain ⟨q0, q1, q2, q3, q4, q5, q6⟩ := B2.all; clear hb1 hB1 B0 B2) | (go_at_call 94; refine (unhide HAX _ (unhide HB)).mono ?_; rintro e w2 ⟨oa, ol, oc, rfl, hO, hb2⟩; have hs12 := hb2.size; have hw1b := q6; have HO := hide (hO.mono (B' := w.heap.size + 2) (by omega)); have HB0' := hide ((unhide HB0).below (Nat.le_refl _) hb2); have HB2' := hide ((unhide HB2).below (Nat.le_refl _) hb2); have HC := hide ((unhide HB).trans (hb2.mono (by omega))); clear hb2 hO x0 x1 x2 x3 x4 x5 x6 q0 q1 q2 q3 q4 q5 q6 HB0 HB2 HB; obtain ⟨x0, x1, x2, x3, x4, x5, x6⟩ := (unhide HB0').all; obtain ⟨q0, q1, q2, q3, q4, q5, q6⟩ := (unhide HB2').all))
  refine bodyPost_ret (v := .tuple #[.agg #[.bool false, .slice none 0 0, .slice none 0 0], .int .i64 3]) (by simp [results, Tryz.results34, go_sem, q0, q1, q2, q6]) rfl ?_
  first | exact gives_none (((((unhide HC).alloc (by omega) _).setCell (by simp) _).setCell (by simp) _).setCell (by simp) _) | exact gives_none (((((unhide HC).setCell (by simp) _).setCell (by simp) _).setCell (by simp) _).alloc (by simp <;> omega) _)

set_option maxRecDepth 20000 in
set_option maxHeartbeats 4000000 in
theorem implFold_one (op : Int) (c fl : Bool) (a1 a2 : Addr) (n1 n2 c1 c2 : Nat) (sh dt : List Int) (w : World) (h1 : Row w (some a1) n1 sh) (h2 : Row w (some a2) n2 dt) (hop : opIn op = true) (hok : arrOk c sh dt = true) (B L A : Nat) (others : List Int) (hax : ∀ W, Below w.heap.size w W → Calls Tryz.prog 94 #[.slice (some a1) n1 c1, .bool fl] W (AxisOk W B L A others)) (hL : L = 1) :
    Calls Tryz.prog 34 #[.int .i64 op, .agg #[.bool c, .slice (some a1) n1 c1, .slice (some a2) n2 c2], .bool fl] w (GivesOwn w ((⟨c, others, dt, 0⟩ : Ans))) := by
  have HR := hide hok
  have HOP := hide hop
  have hs2 := h2.small
  have H1 := hide h1
  have H2 := hide h2
  clear h1 h2 hok hop
  have HAX := hide hax
  have ql : ((L : Int) == 1) = true := by simp [hL]
  clear hax hL
  go_enter Tryz.func34, Tryz.ntmps34
  go_wp2_with (first | (go_at_call 48; refine (isScalarFn_any op _ _ HOP).mono ?_; rintro e w0 ⟨rfl, rfl⟩) | (go_at_call 43; refine (implArrayOk_eq _ _ _ _ _ _ _ sh dt _ (((unhide H1).alloc _).alloc _) (((unhide H2).alloc _).alloc _) _ HR).mono ?_; rintro e w1 ⟨rfl, hb1⟩; obtain ⟨B0, B2, hB1⟩ := boxes2 hb1; have HB0 := hide B0; have HB2 := hide B2; have HB := hide hB1; obtain ⟨x0, x1, x2, x3, x4, x5, x6⟩ := B0.all; obtain ⟨q0, q1, q2, q3, q4, q5, q6⟩ := B2.all; clear hb1 hB1 B0 B2) | (go_at_call 94; refine (unhide HAX _ (unhide HB)).mono ?_; rintro e w2 ⟨oa, ol, oc, rfl, hO, hb2⟩; have hs12 := hb2.size; have hw1b := q6; have HO := hide (hO.mono (B' := w.heap.size + 2) (by omega)); have HB0' := hide ((unhide HB0).below (Nat.le_refl _) hb2); have HB2' := hide ((unhide HB2).below (Nat.le_refl _) hb2); have HC := hide ((unhide HB).trans (hb2.mono (by omega))); clear hb2 hO x0 x1 x2 x3 x4 x5 x6 q0 q1 q2 q3 q4 q5 q6 HB0 HB2 HB; obtain ⟨x0, x1, x2, x3, x4, x5, x6⟩ := (unhide HB0').all; obtain ⟨q0, q1, q2, q3, q4, q5, q6⟩ := (unhide HB2').all))
  obtain ⟨W2, hW2⟩ : ∃ W2, W2 = w2.alloc (.cells #[.int .i64 (B : Nat), .int .i64 (L : Nat), .int .i64 (A : Nat), .slice oa ol oc] 105) := ⟨_, rfl⟩
  have hKW : Below w2.heap.size w2 W2 := by rw [hW2]; exact (Below.refl _ _).alloc (Nat.le_refl _) _
  have hzW : W2.heap.size = w2.heap.size + 1 := by rw [hW2]; simp
  have AX : Hid (ABox W2 w2.heap.size B L A (.slice oa ol oc)) := by rw [hW2]; exact heap_alloc_last w2 _
  rw [← hW2]
  clear hW2
  have HBW := hide ((unhide HB0').below (Nat.le_refl _) hKW)
  have HQW := hide ((unhide HB2').below (Nat.le_refl _) hKW)
  have HEW := hide ((unhide HC).trans (hKW.mono (by omega)))
  have hne : ¬ (w2.heap.size = w.heap.size + 1) := by omega
  have HKEEP : ∀ wx, But (fun k => k = w.heap.size + 1) W2 wx → wx.cell? ⟨w.heap.size, 0, none⟩ = some (.bool c) ∧ wx.cell? ⟨w.heap.size, 2, none⟩ = some (.slice (some a2) n2 c2) ∧ wx.cell? ⟨w2.heap.size, 3, none⟩ = some (.slice oa ol oc) := fun wx hwx => ⟨(hwx.cell (by omega) (by omega)).trans (unhide HBW).cells.1, (hwx.cell (by omega) (by omega)).trans (unhide HBW).cells.2.2, (hwx.cell (by omega) hne).trans (unhide AX).cells.2.2.2⟩
  clear x0 x1 x2 x3 x4 x5 x6 q0 q1 q2 q3 q4 q5
  obtain ⟨x0, x2, x3⟩ := HKEEP _ (But.refl _ _)
  go_region_held (fun wx => wx.cell? ⟨w.heap.size, 0, none⟩ = some (.bool c) ∧ wx.cell? ⟨w.heap.size, 2, none⟩ = some (.slice (some a2) n2 c2) ∧ wx.cell? ⟨w2.heap.size, 3, none⟩ = some (.slice oa ol oc)) (first | (refine HKEEP _ ?_; repeat (first | exact But.of_below hKA | exact But.refl _ _ | exact But.of_below (Below.refl _ _).drew | refine But.setCell ?_ (by first | rfl | (simp <;> omega)) _)))
    (first
    | (go_at_call 65; refine (Clone_any a2 n2 c2 dt _ ((unhide H2).below (Nat.le_refl _) (unhide HEW).drew)).mono ?_; rintro e wA ⟨ad, cd, rfl, hcd, hOA, hbA⟩; have hKA : Below W2.heap.size W2 wA := (Below.refl _ _).drew.trans (hbA.mono (by simp)); have HOA := hide hOA; obtain ⟨x0, x2, x3⟩ := HKEEP _ (But.of_below hKA); obtain ⟨r0, r1, r2, r3, r4, r5, r6⟩ := ((unhide HQW).below (Nat.le_refl _) hKA).all; clear hOA))
  all_goals go_wp2
  all_goals refine bodyPost_ret (v := .tuple #[.agg #[.bool c, .slice oa ol oc, .slice ad n2 cd], .int .i64 0]) (by simp [results, Tryz.results34, go_sem, r0, r1, r2]) rfl ?_
  all_goals
    have hOA' : Own wA (w2.heap.size + 1) ad n2 dt := (unhide HOA).mono (by simp; omega)
    have hO' := ((unhide HO).below (Nat.le_refl _) hKW).below (Nat.le_refl _) hKA
    have hk : ∀ k, At oa ol k → k ≠ w.heap.size + 1 := fun k hk => by have := (unhide HO).low hk; omega
    have hk2 : ∀ k, At ad n2 k → k ≠ w.heap.size + 1 := fun k hk => by have := hOA'.low hk; omega
    refine ⟨oa, ol, oc, ad, n2, cd, rfl, (((hO'.mono (by omega)).other hk _).other hk _).other hk _, (((hOA'.mono (by omega)).other hk2 _).other hk2 _).other hk2 _, fun k h1 h2 => ?_, ((((unhide HEW).trans (hKA.mono (by omega))).setCell (by simp) _).setCell (by simp) _).setCell (by simp) _⟩
    have := (unhide HO).row.hi h1
    have := hOA'.low h2
    omega

end Go.Proofs.YtkgcmpmgaghdhaaGreatDoor
