import Derived.Test.YtgjpchnkodnieaaGreatDoorMFit1
import Derived.Test.YtgjpchnkodnieaaGreatDoorMFit1
import Derived.Test.YtgjpchnkodnieaaGreatDoorMFit1
import Derived.Test.YtgjpchnkodnieaaGreatDoorMFit1
import Derived.Test.YtgjpchnkodnieaaGreatDoorMFit0
import Derived.Test.YtgjpchnkodnieaaGreatDoorMFit0
import Derived.Test.YtgjpchnkodnieaaGreatDoorMFit1
import Derived.Test.YtgjpchnkodnieaaGreatDoorMFit2
import Derived.Test.YtgjpchnkodnieaaGreatDoorMFit3
import Derived.Test.YtgjpchnkodnieaaGreatDoorSpecInner
import Derived.Test.YtgjpchnkodnieaaGreatDoorImplInner
import Derived.Test.YtgjpchnkodnieaaGreatDoorMFit0
import Derived.Test.YtgjpchnkodnieaaGreatDoorMFit0
import Derived.Deep.RegionHeld
import Derived.Deep.DeepCutAuto
namespace Go.Proofs.YtgjpchnkodnieaaGreatDoor
open Go.RowKit

set_option maxRecDepth 20000 in
set_option maxHeartbeats 16000000 in
theorem law_Product (ga gb : Addr) (a : Option Addr) (n cn : Nat) (w : World) (hby : Bytes w a n) (hc : n ≤ cn) (hn : n ≤ 1048576) (hG : GlF w ga gb) :
    Calls Tryz.prog 6 #[.slice a n cn] w fun e w' => e = .returned (.bool true) ∧ Below w.heap.size w w' := by
  have hcall := DrawInner_any a n cn w hby hc hn
  have hnz : ¬ (1048576 : Int) < (n : Int) := by omega
  have HG0 := hide hG
  clear hby hc hG
  go_enter Tryz.func6, Tryz.ntmps6
  go_upto_region 4 with (go_at_call 38; refine hcall.mono ?_; rintro e w1 ⟨xf, xg, c, d, a1, a2, b1, b2, n1, n2, m1, m2, c1, c2, d1, d2, sh, dt, sh', dt', rfl, r1, r2, q1, q2, h1, h2, h3, h4, hb1⟩; have R1 := hide r1; have R2 := hide r2; have Q1 := hide q1; have Q2 := hide q2; have HB1 := hide hb1; clear r1 r2 q1 q2 hb1)
  clear hcall
  obtain ⟨W, hW⟩ : ∃ W, W = (w1.alloc (.cells #[.bool c, .slice (some a1) n1 c1, .slice (some a2) n2 c2] 25)).alloc (.cells #[.bool d, .slice (some b1) m1 d1, .slice (some b2) m2 d2] 25) := ⟨_, rfl⟩
  obtain ⟨pA, hpA⟩ : ∃ P, P = w1.heap.size := ⟨_, rfl⟩
  obtain ⟨pB, hpB⟩ : ∃ P, P = w1.heap.size + 1 := ⟨_, rfl⟩
  have XA : Hid (Var W pA c (some a1) n1 c1 (some a2) n2 c2 sh dt) := by
    rw [hW, hpA]; exact (Var.new (unhide R1) (unhide R2)).below ((Below.refl _ _).alloc (Nat.le_refl _) _)
  have XB : Hid (Var W pB d (some b1) m1 d1 (some b2) m2 d2 sh' dt') := by
    rw [hW, hpB]
    have := Var.new (c := d) (f1 := d1) (f2 := d2) ((unhide Q1).alloc (.cells #[.bool c, .slice (some a1) n1 c1, .slice (some a2) n2 c2] 25)) ((unhide Q2).alloc (.cells #[.bool c, .slice (some a1) n1 c1, .slice (some a2) n2 c2] 25))
    rwa [World.size_alloc] at this
  have HB : Hid (Below w.heap.size w W) := by rw [hW]; exact ((unhide HB1).alloc (unhide HB1).size _).alloc (by have := (unhide HB1).size; simp; omega) _
  have hneAB : ¬ pA = pB := by omega
  have hneBA : ¬ pB = pA := by omega
  have hlowA : w.heap.size ≤ pA := by rw [hpA]; exact (unhide HB1).size
  have hlowB : w.heap.size ≤ pB := by omega
  rw [← hW, ← hpB, ← hpA]
  clear hW hpA hpB R1 R2 Q1 Q2 HB1
  obtain ⟨r, hr⟩ : ∃ r, arrOk c sh dt = r := ⟨_, rfl⟩
  have HR := hide hr
  obtain ⟨q, hq⟩ : ∃ q, arrOk d sh' dt' = q := ⟨_, rfl⟩
  have HQ := hide hq
  clear hr hq
  obtain ⟨x0, x1, x2⟩ := (unhide XA).cells
  obtain ⟨y0, y1, y2⟩ := (unhide XB).cells
  cases r with
  | false =>
    go_wp2_with (go_at_call 10; refine (ArrayOk_eq _ _ _ _ _ _ _ sh dt _ (unhide XA).r1 (unhide XA).r2 _ HR).mono ?_; rintro e w3 ⟨rfl, hb3⟩; have HB3 := hide ((unhide HB).trans (hb3.mono (unhide HB).size)); clear hb3)
    exact bodyPost_ret (v := .bool true) (by simp [results, Tryz.results6, go_sem]) rfl ⟨rfl, unhide HB3⟩
  | true =>
  cases q with
  | false =>
    as_aux_lemma =>
      go_wp2_with (first | (go_at_call_of 10 (Value.slice (some a1) n1 c1); refine (ArrayOk_eq _ _ _ _ _ _ _ sh dt _ (unhide XA).r1 (unhide XA).r2 _ HR).mono ?_; rintro e w3 ⟨rfl, hb3⟩; have HB3 := hide ((unhide HB).trans (hb3.mono (unhide HB).size)); have X3 := hide ((unhide XB).below hb3); obtain ⟨z0, z1, z2⟩ := (unhide X3).cells; have Y3 := hide ((unhide XA).below hb3); clear hb3) | (go_at_call_of 10 (Value.slice (some b1) m1 d1); refine (ArrayOk_eq _ _ _ _ _ _ _ sh' dt' _ (unhide X3).r1 (unhide X3).r2 _ HQ).mono ?_; rintro e w4 ⟨rfl, hb4⟩; have HB4 := hide ((unhide HB3).trans (hb4.mono (unhide HB3).size)); have Y4 := hide ((unhide Y3).below hb4); have X4 := hide ((unhide X3).below hb4); obtain ⟨u0, u1, u2⟩ := (unhide Y4).cells; obtain ⟨s0, s1, s2⟩ := (unhide X4).cells; clear hb4))
      exact bodyPost_ret (v := .bool true) (by simp [results, Tryz.results6, go_sem]) rfl ⟨rfl, unhide HB4⟩
  | true =>
  cases c with
  | true =>
    as_aux_lemma =>
      go_wp2_with (first | (go_at_call_of 10 (Value.slice (some a1) n1 c1); refine (ArrayOk_eq _ _ _ _ _ _ _ sh dt _ (unhide XA).r1 (unhide XA).r2 _ HR).mono ?_; rintro e w3 ⟨rfl, hb3⟩; have HB3 := hide ((unhide HB).trans (hb3.mono (unhide HB).size)); have X3 := hide ((unhide XB).below hb3); obtain ⟨z0, z1, z2⟩ := (unhide X3).cells; have Y3 := hide ((unhide XA).below hb3); clear hb3) | (go_at_call_of 10 (Value.slice (some b1) m1 d1); refine (ArrayOk_eq _ _ _ _ _ _ _ sh' dt' _ (unhide X3).r1 (unhide X3).r2 _ HQ).mono ?_; rintro e w4 ⟨rfl, hb4⟩; have HB4 := hide ((unhide HB3).trans (hb4.mono (unhide HB3).size)); have Y4 := hide ((unhide Y3).below hb4); have X4 := hide ((unhide X3).below hb4); obtain ⟨u0, u1, u2⟩ := (unhide Y4).cells; obtain ⟨s0, s1, s2⟩ := (unhide X4).cells; clear hb4))
      exact bodyPost_ret (v := .bool true) (by simp [results, Tryz.results6, go_sem]) rfl ⟨rfl, unhide HB4⟩
  | false =>
  cases d with
  | true =>
    as_aux_lemma =>
      go_wp2_with (first | (go_at_call_of 10 (Value.slice (some a1) n1 c1); refine (ArrayOk_eq _ _ _ _ _ _ _ sh dt _ (unhide XA).r1 (unhide XA).r2 _ HR).mono ?_; rintro e w3 ⟨rfl, hb3⟩; have HB3 := hide ((unhide HB).trans (hb3.mono (unhide HB).size)); have X3 := hide ((unhide XB).below hb3); obtain ⟨z0, z1, z2⟩ := (unhide X3).cells; have Y3 := hide ((unhide XA).below hb3); clear hb3) | (go_at_call_of 10 (Value.slice (some b1) m1 d1); refine (ArrayOk_eq _ _ _ _ _ _ _ sh' dt' _ (unhide X3).r1 (unhide X3).r2 _ HQ).mono ?_; rintro e w4 ⟨rfl, hb4⟩; have HB4 := hide ((unhide HB3).trans (hb4.mono (unhide HB3).size)); have Y4 := hide ((unhide Y3).below hb4); have X4 := hide ((unhide X3).below hb4); obtain ⟨u0, u1, u2⟩ := (unhide Y4).cells; obtain ⟨s0, s1, s2⟩ := (unhide X4).cells; clear hb4))
      exact bodyPost_ret (v := .bool true) (by simp [results, Tryz.results6, go_sem]) rfl ⟨rfl, unhide HB4⟩
  | false =>
  go_upto_region 6 with (first | (go_at_call_of 10 (Value.slice (some a1) n1 c1); refine (ArrayOk_eq _ _ _ _ _ _ _ sh dt _ (unhide XA).r1 (unhide XA).r2 _ HR).mono ?_; rintro e w3 ⟨rfl, hb3⟩; have HB3 := hide ((unhide HB).trans (hb3.mono (unhide HB).size)); have X3 := hide ((unhide XB).below hb3); obtain ⟨z0, z1, z2⟩ := (unhide X3).cells; have Y3 := hide ((unhide XA).below hb3); clear hb3) | (go_at_call_of 10 (Value.slice (some b1) m1 d1); refine (ArrayOk_eq _ _ _ _ _ _ _ sh' dt' _ (unhide X3).r1 (unhide X3).r2 _ HQ).mono ?_; rintro e w4 ⟨rfl, hb4⟩; have HB4 := hide ((unhide HB3).trans (hb4.mono (unhide HB3).size)); have Y4 := hide ((unhide Y3).below hb4); have X4 := hide ((unhide X3).below hb4); obtain ⟨u0, u1, u2⟩ := (unhide Y4).cells; obtain ⟨s0, s1, s2⟩ := (unhide X4).cells; clear hb4))
  clear XA XB HB HB3 X3 Y3 x0 x1 x2 y0 y1 y2 z0 z1 z2 u0 u1 u2 s0 s1 s2
  have XA := Y4
  have XB := X4
  have HB := HB4
  clear Y4 X4 HB4
  obtain ⟨U, hU⟩ : ∃ x, x = w4 := ⟨_, rfl⟩
  subst hU
  have hlowUU := (unhide HB).size
  go_cut [] (fun wr => ∃ R C g1 g2 d2 : Nat, arrOk false [(R : Int), (C : Int)] dt = true ∧ Var wr pA false (some ⟨g1, 0, none⟩) 2 2 (some ⟨g2, 0, none⟩) n2 d2 [(R : Int), (C : Int)] dt ∧ Own wr U.heap.size (some ⟨g1, 0, none⟩) 2 [(R : Int), (C : Int)] ∧ Own wr U.heap.size (some ⟨g2, 0, none⟩) n2 dt ∧ g1 ≠ g2 ∧ But (fun y => y = pA) U wr)
  case first => as_aux_lemma =>
    obtain ⟨x0, x1, x2⟩ := (unhide XA).cells
    go_wp2_with (go_at_call 39; refine (lwMatrix_any false a1 a2 n1 n2 c1 c2 sh dt _ (unhide XA).r1 (unhide XA).r2 (unhide HR)).mono ?_; rintro e w5 ⟨R, C, g1, g2, d2, rfl, hok5, hO1, hO2, hne5, hK5⟩; obtain ⟨u0, u1, u2, u3, u4, u5, u6⟩ := ((unhide XA).box.below (Nat.le_refl _) hK5).free')
    have hbx := (unhide XA).box.below (Nat.le_refl _) hK5
    have e1 : ∀ k, At (some ⟨g1, 0, none⟩) 2 k → k ≠ pA := fun k hk => hO1.row.notBox hbx hk
    have e2 : ∀ k, At (some ⟨g2, 0, none⟩) n2 k → k ≠ pA := fun k hk => hO2.row.notBox hbx hk
    go_meet
    case rel => exact ⟨R, C, g1, g2, d2, hok5, Var.put hbx hO1.row hO2.row, ((hO1.other (q := ⟨pA, 0, none⟩) e1 _).other (q := ⟨pA, 1, none⟩) e1 _).other (q := ⟨pA, 2, none⟩) e1 _, ((hO2.other (q := ⟨pA, 0, none⟩) e2 _).other (q := ⟨pA, 1, none⟩) e2 _).other (q := ⟨pA, 2, none⟩) e2 _, hne5, ((((But.of_below (S := fun y => y = pA) hK5).setCell (p := ⟨pA, 0, none⟩) rfl _).setCell (p := ⟨pA, 1, none⟩) rfl _).setCell (p := ⟨pA, 2, none⟩) rfl _)⟩
  case rest =>
  obtain ⟨U1, hwc⟩ : ∃ x, x = wc := ⟨_, rfl⟩
  subst hwc
  obtain ⟨R, C, g1, g2, e2, hokA, hv, hoA1, hoA2, hneg, hK⟩ := hcut
  have T_B := hide ((unhide XB).but (unhide XA).box hK hneBA)
  have T_HB := hide ((unhide HB).trans (hK.below (unhide HB).size (fun y hy => by rw [hy]; exact hlowA)))
  have hszU : U.heap.size ≤ U1.heap.size := hK.size
  have hgU2 : U.heap.size ≤ g2 ∨ n2 = 0 := by
    by_cases h0 : n2 = 0
    · exact .inr h0
    · exact .inl (hoA2.low (show At (some ⟨g2, 0, none⟩) n2 g2 from ⟨h0, _, rfl, rfl⟩))
  clear HB XA XB
  have XB := T_B
  have HB := T_HB
  have XA := hide hv
  have OA1 := hide hoA1
  have OA2 := hide hoA2
  have HOKA := hide hokA
  clear hv hK T_B T_HB hoA1 hoA2 hokA
  go_upto_region 7 with fail
  go_cut [] (fun wr => ∃ R C g1 g2 d2 : Nat, arrOk false [(R : Int), (C : Int)] dt' = true ∧ Var wr pB false (some ⟨g1, 0, none⟩) 2 2 (some ⟨g2, 0, none⟩) m2 d2 [(R : Int), (C : Int)] dt' ∧ Own wr U1.heap.size (some ⟨g1, 0, none⟩) 2 [(R : Int), (C : Int)] ∧ Own wr U1.heap.size (some ⟨g2, 0, none⟩) m2 dt' ∧ g1 ≠ g2 ∧ But (fun y => y = pB) U1 wr)
  case first => as_aux_lemma =>
    obtain ⟨x0, x1, x2⟩ := (unhide XB).cells
    go_wp2_with (go_at_call 39; refine (lwMatrix_any false b1 b2 m1 m2 d1 d2 sh' dt' _ (unhide XB).r1 (unhide XB).r2 (unhide HQ)).mono ?_; rintro e w5 ⟨R, C, g1, g2, d2, rfl, hok5, hO1, hO2, hne5, hK5⟩; obtain ⟨u0, u1, u2, u3, u4, u5, u6⟩ := ((unhide XB).box.below (Nat.le_refl _) hK5).free')
    have hbx := (unhide XB).box.below (Nat.le_refl _) hK5
    have e1 : ∀ k, At (some ⟨g1, 0, none⟩) 2 k → k ≠ pB := fun k hk => hO1.row.notBox hbx hk
    have e2 : ∀ k, At (some ⟨g2, 0, none⟩) m2 k → k ≠ pB := fun k hk => hO2.row.notBox hbx hk
    go_meet
    case rel => exact ⟨R, C, g1, g2, d2, hok5, Var.put hbx hO1.row hO2.row, ((hO1.other (q := ⟨pB, 0, none⟩) e1 _).other (q := ⟨pB, 1, none⟩) e1 _).other (q := ⟨pB, 2, none⟩) e1 _, ((hO2.other (q := ⟨pB, 0, none⟩) e2 _).other (q := ⟨pB, 1, none⟩) e2 _).other (q := ⟨pB, 2, none⟩) e2 _, hne5, ((((But.of_below (S := fun y => y = pB) hK5).setCell (p := ⟨pB, 0, none⟩) rfl _).setCell (p := ⟨pB, 1, none⟩) rfl _).setCell (p := ⟨pB, 2, none⟩) rfl _)⟩
  case rest =>
  obtain ⟨U2, hwc⟩ : ∃ x, x = wc := ⟨_, rfl⟩
  subst hwc
  obtain ⟨R2, C2, g3, g4, e4, hokB, hv, hoB1, hoB2, hneh, hK⟩ := hcut
  have hszU1 : U1.heap.size ≤ U2.heap.size := hK.size
  have T_A := hide ((unhide XA).but (unhide XB).box hK hneAB)
  have T_HB := hide ((unhide HB).trans (hK.below (unhide HB).size (fun y hy => by rw [hy]; exact hlowB)))
  have T_O1 := hide (hK.own (unhide OA1) (fun x hx hk => (unhide OA1).row.notBox (unhide XB).box hk hx))
  have T_O2 := hide (hK.own (unhide OA2) (fun x hx hk => (unhide OA2).row.notBox (unhide XB).box hk hx))
  have hgA1 : g1 < U1.heap.size := by obtain ⟨bb, oo, ee, hl, _⟩ := (unhide OA1).row.get (k := 0) (by omega); cases ee; exact hl
  have hgA2 : g2 < U1.heap.size ∨ n2 = 0 := by
    by_cases h0 : n2 = 0
    · exact .inr h0
    · obtain ⟨bb, oo, ee, hl, _⟩ := (unhide OA2).row.get (k := 0) (by omega); cases ee; exact .inl hl
  have hgB1 : U1.heap.size ≤ g3 := hoB1.low (show At (some ⟨g3, 0, none⟩) 2 g3 from ⟨by omega, _, rfl, rfl⟩)
  have hgB2 : U1.heap.size ≤ g4 ∨ m2 = 0 := by
    by_cases h0 : m2 = 0
    · exact .inr h0
    · exact .inl (hoB2.low (show At (some ⟨g4, 0, none⟩) m2 g4 from ⟨h0, _, rfl, rfl⟩))
  clear HB XA XB OA1 OA2
  have XA := T_A
  have HB := T_HB
  have XB := hide hv
  have OA1 := T_O1
  have OA2 := T_O2
  have OB1 := hide hoB1
  have OB2 := hide hoB2
  have HOKB := hide hokB
  clear hv hK T_A T_HB T_O1 T_O2 hoB1 hoB2 hokB
  have hl2 := (unhide XA).r2.len
  have hlm2 := (unhide XB).r2.len
  have hlowU := (unhide HB).size
  go_upto_region 8 with fail
  go_wp2_with fail
  go_loopw [7] (fun i wr => ∃ k : Nat, k ≤ n2 ∧ i = .int .i64 (k : Nat) ∧ Hid (Own wr U.heap.size (some ⟨g2, 0, none⟩) n2 (modK dt k)) ∧ Hid (But (fun y => y = g2 ∧ 0 < n2) U2 wr)) (fun i _ => n2 - (intOf i).toNat)
  case atStart => exact ⟨0, Nat.zero_le _, rfl, by rw [modK_zero]; exact OA2, But.refl _ _⟩
  case round =>
  obtain ⟨k, hk, rfl, ho, hbt⟩ := hrel
  have HBX := hide ((unhide XA).box.but (unhide hbt) (fun h => (unhide OA2).row.notBox (unhide XA).box (show At (some ⟨g2, 0, none⟩) n2 pA from ⟨by have := h.2; omega, _, rfl, by exact h.1.symm⟩) rfl))
  obtain ⟨x0, x1, x2⟩ := (unhide HBX).cells
  by_cases hlt : k < n2
  · have hkz : (k : Int) < (n2 : Int) := by omega
    obtain ⟨ca, cb⟩ := own_cellT (unhide ho) hlt
    have hgk : (modK dt k).getD k 0 = dt.getD k 0 := by rw [modK_get, if_neg (by omega)]
    rw [hgk] at ca
    obtain ⟨v, hv⟩ : ∃ v, v = dt.getD k 0 := ⟨_, rfl⟩
    rw [← hv] at ca
    have HST : Hid ((modK dt k).set k (v.tmod 1000) = modK dt (k + 1)) := by show _ = _; rw [hv]; exact modK_set dt k
    clear hgk hv
    go_wp2_with fail
    go_region
    go_wp2_with fail
    refine ⟨⟨k + 1, by omega, by go_num, ?_, ?_⟩, ?_⟩
    · rw [← unhide HST]; exact hide (((unhide ho).setAt hlt _).below (Nat.le_refl _) (Below.refl _ _).drew)
    · exact hide (((unhide hbt).setCell (p := ⟨g2, k, none⟩) ⟨rfl, by omega⟩ _).trans (T := fun y => y = g2 ∧ 0 < n2) (But.of_below (Below.refl _ _).drew) |>.mono (by rintro x (h | h) <;> exact h))
    · simp [intOf]; omega
  have hkz : ¬ (k : Int) < (n2 : Int) := by omega
  have hkn : k = n2 := by omega
  clear hlt hk
  subst k
  obtain ⟨U3, hU3⟩ : ∃ x, x = wr := ⟨_, rfl⟩
  subst hU3
  have h0A : ∀ x, (x = g2 ∧ 0 < n2) → U.heap.size ≤ x ∧ x < U1.heap.size := fun x h => by have h5 := hgU2; have h6 := hgA2; omega
  have T_O1 := hide ((unhide hbt).own (unhide OA1) (fun x hx hk => by have := at_eq hk; omega))
  have T_B1 := hide ((unhide hbt).own (unhide OB1) (fun x hx hk => by have h5 := h0A x hx; have := (unhide OB1).low hk; omega))
  have T_B2 := hide ((unhide hbt).own (unhide OB2) (fun x hx hk => by have h5 := h0A x hx; have := (unhide OB2).low hk; omega))
  have T_BX := hide ((unhide XB).box.but (unhide hbt) (fun h => (unhide OA2).row.notBox (unhide XB).box (show At (some ⟨g2, 0, none⟩) n2 pB from ⟨by have := h.2; omega, _, rfl, by exact h.1.symm⟩) rfl))
  have T_HB := hide ((unhide HB).trans ((unhide hbt).below (B := w.heap.size) (by omega) (fun x hx => by have h5 := h0A x hx; have h6 := hlowUU; omega)))
  have HOKM := hide (modK_ok (unhide HOKA))
  have HSMA := hide (modK_small dt)
  rw [hl2] at HOKM HSMA
  obtain ⟨dx, hdx⟩ : ∃ x, x = modK dt n2 := ⟨_, rfl⟩
  rw [← hdx] at HOKM HSMA ho
  have XA' : Hid (Var U3 pA false (some ⟨g1, 0, none⟩) 2 2 (some ⟨g2, 0, none⟩) n2 e2 [(R : Int), (C : Int)] dx) := ⟨unhide HBX, (unhide T_O1).row, (unhide ho).row⟩
  have XB' : Hid (Var U3 pB false (some ⟨g3, 0, none⟩) 2 2 (some ⟨g4, 0, none⟩) m2 e4 [(R2 : Int), (C2 : Int)] dt') := ⟨unhide T_BX, (unhide T_B1).row, (unhide T_B2).row⟩
  have OAD := hide (unhide ho)
  clear XA XB OA1 OA2 OB1 OB2 HB HOKA hbt ho HBX T_BX hdx x0 x1 x2 h0A
  have XA := XA'
  have XB := XB'
  have OA1 := T_O1
  have OB1 := T_B1
  have OB2 := T_B2
  have HB := T_HB
  clear XA' XB' T_O1 T_B1 T_B2 T_HB
  obtain ⟨x0, x1, x2⟩ := (unhide XA).cells
  obtain ⟨y0, y1, y2⟩ := (unhide XB).cells
  go_wp2_with fail
  go_loopw [8] (fun i wr => ∃ k : Nat, k ≤ m2 ∧ i = .int .i64 (k : Nat) ∧ Hid (Own wr U1.heap.size (some ⟨g4, 0, none⟩) m2 (modK dt' k)) ∧ Hid (But (fun y => y = g4 ∧ 0 < m2) U3 wr)) (fun i _ => m2 - (intOf i).toNat)
  case atStart => exact ⟨0, Nat.zero_le _, rfl, by rw [modK_zero]; exact OB2, But.refl _ _⟩
  case round =>
  obtain ⟨k, hk, rfl, ho, hbt⟩ := hrel
  have HBX := hide ((unhide XB).box.but (unhide hbt) (fun h => (unhide OB2).row.notBox (unhide XB).box (show At (some ⟨g4, 0, none⟩) m2 pB from ⟨by have := h.2; omega, _, rfl, by exact h.1.symm⟩) rfl))
  obtain ⟨x0, x1, x2⟩ := (unhide HBX).cells
  by_cases hlt : k < m2
  · have hkz : (k : Int) < (m2 : Int) := by omega
    obtain ⟨ca, cb⟩ := own_cellT (unhide ho) hlt
    have hgk : (modK dt' k).getD k 0 = dt'.getD k 0 := by rw [modK_get, if_neg (by omega)]
    rw [hgk] at ca
    obtain ⟨v, hv⟩ : ∃ v, v = dt'.getD k 0 := ⟨_, rfl⟩
    rw [← hv] at ca
    have HST : Hid ((modK dt' k).set k (v.tmod 1000) = modK dt' (k + 1)) := by show _ = _; rw [hv]; exact modK_set dt' k
    clear hgk hv
    go_wp2_with fail
    go_region
    go_wp2_with fail
    refine ⟨⟨k + 1, by omega, by go_num, ?_, ?_⟩, ?_⟩
    · rw [← unhide HST]; exact hide (((unhide ho).setAt hlt _).below (Nat.le_refl _) (Below.refl _ _).drew)
    · exact hide (((unhide hbt).setCell (p := ⟨g4, k, none⟩) ⟨rfl, by omega⟩ _).trans (T := fun y => y = g4 ∧ 0 < m2) (But.of_below (Below.refl _ _).drew) |>.mono (by rintro x (h | h) <;> exact h))
    · simp [intOf]; omega
  have hkz : ¬ (k : Int) < (m2 : Int) := by omega
  have hkn : k = m2 := by omega
  clear hlt hk
  subst k
  obtain ⟨U4, hU4⟩ : ∃ x, x = wr := ⟨_, rfl⟩
  subst hU4
  have h0B : ∀ x, (x = g4 ∧ 0 < m2) → U1.heap.size ≤ x := fun x h => by have h5 := hgB2; omega
  have T_O1 := hide ((unhide hbt).row (unhide XA).r1 (fun x hx hk => by have h5 := h0B x hx; have := at_eq hk; omega))
  have T_O2 := hide ((unhide hbt).row (unhide XA).r2 (fun x hx hk => by have h5 := h0B x hx; have h7 := at_eq hk; have h6 := hgA2; have h8 := hk.1; omega))
  have T_B1 := hide ((unhide hbt).own (unhide OB1) (fun x hx hk => by have := at_eq hk; omega))
  have T_AX := hide ((unhide XA).box.but (unhide hbt) (fun h => (unhide OB2).row.notBox (unhide XA).box (show At (some ⟨g4, 0, none⟩) m2 pA from ⟨by have := h.2; omega, _, rfl, by exact h.1.symm⟩) rfl))
  have T_HB := hide ((unhide HB).trans ((unhide hbt).below (B := w.heap.size) (unhide HB).size (fun x hx => by have h5 := h0B x hx; omega)))
  have HOKN := hide (modK_ok (unhide HOKB))
  have HSMB := hide (modK_small dt')
  rw [hlm2] at HOKN HSMB
  obtain ⟨dy, hdy⟩ : ∃ x, x = modK dt' m2 := ⟨_, rfl⟩
  rw [← hdy] at HOKN HSMB ho
  have XA' : Hid (Var U4 pA false (some ⟨g1, 0, none⟩) 2 2 (some ⟨g2, 0, none⟩) n2 e2 [(R : Int), (C : Int)] dx) := ⟨unhide T_AX, unhide T_O1, unhide T_O2⟩
  have XB' : Hid (Var U4 pB false (some ⟨g3, 0, none⟩) 2 2 (some ⟨g4, 0, none⟩) m2 e4 [(R2 : Int), (C2 : Int)] dy) := ⟨unhide HBX, (unhide T_B1).row, (unhide ho).row⟩
  clear XA XB OA1 OAD OB1 OB2 HB HOKB hbt ho HBX T_AX hdy x0 x1 x2 h0B
  have XA := XA'
  have XB := XB'
  have HB := T_HB
  clear XA' XB' T_O1 T_O2 T_B1 T_HB y0 y1 y2
  obtain ⟨y0, y1, y2⟩ := (unhide XB).cells
  obtain ⟨x0, x1, x2⟩ := (unhide XA).cells
  obtain ⟨b1r, o1r, er, hbr, hcr⟩ := (unhide XA).r1.get (k := 1) (by omega)
  cases er
  obtain ⟨b2r, o2r, er2, hbr2, hcr2⟩ := (unhide XB).r1.get (k := 0) (by omega)
  cases er2
  rw [show ([(R : Int), (C : Int)] : List Int).getD 1 0 = (C : Int) from rfl, Nat.zero_add] at hcr
  rw [show ([(R2 : Int), (C2 : Int)] : List Int).getD 0 0 = (R2 : Int) from rfl, Nat.zero_add] at hcr2
  go_upto_region 16 with fail
  go_upto_if 93 with (go_region)
  go_cut [] (fun wr => ∃ (S k2 f1 f2 : Nat) (b1 b2 : Addr) (ys : List Int), Var wr pB false (some b1) 2 f1 (some b2) k2 f2 [(C : Int), (S : Int)] ys ∧ 2 ≤ f1 ∧ arrOk false [(C : Int), (S : Int)] ys = true ∧ Small3 ys ∧ Var wr pA false (some ⟨g1, 0, none⟩) 2 2 (some ⟨g2, 0, none⟩) n2 e2 [(R : Int), (C : Int)] dx ∧ Below w.heap.size w wr)
  case first =>
    have hdr : Below U4.heap.size U4 U4.drew := (Below.refl _ _).drew
    by_cases hcc : C = R2
    · have gq : ((C : Int) != (R2 : Int)) = false := by simp; omega
      have hvb := hide ((unhide XB).below hdr)
      have hok := HOKN
      have hva := hide ((unhide XA).below hdr)
      have hvh := hide (unhide HB).drew
      rw [← hcc] at hvb hok
      have hcz : (C : Int) = (R2 : Int) := by omega
      go_wp2_with fail
      go_meet
      case rel => exact ⟨C2, m2, 2, e4, _, _, dy, unhide hvb, Nat.le_refl _, unhide hok, unhide HSMB, unhide hva, unhide hvh⟩
    · have gq : ((C : Int) != (R2 : Int)) = true := by simp; omega
      have hmt := Monad_turn false ⟨g1, 0, none⟩ ⟨g2, 0, none⟩ 2 n2 2 e2 [(R : Int), (C : Int)] dx U4.drew ((unhide XA).r1.below (Nat.le_refl _) hdr) ((unhide XA).r2.below (Nat.le_refl _) hdr) (unhide HOKM)
      rw [show downTo 2 = [2, 1] from rfl, show (((2 : Nat) : Nat) : Int) = 2 from rfl, turn2 (unhide HOKM)] at hmt
      clear hcc y0 y1 y2
      go_wp2_with (go_at_call 20; refine hmt.mono ?_; rintro e w5 ⟨t1, k1, f1, t2, k2, f2, rfl, hF1, hF2, hK5', hc1, hc2, hc3⟩; obtain ⟨⟨s1, rfl⟩, ⟨s2, rfl⟩⟩ := hc3 rfl; have hK5 : Below U4.heap.size U4 w5 := hdr.trans hK5'; obtain ⟨u0, u1, u2, u3, u4, u5, u6⟩ := ((unhide XB).box.below (Nat.le_refl _) hK5).free')
      have hk1 : 2 = k1 := by have h9 := hF1.len; simpa using h9
      subst k1
      have hbt5 := (((But.refl (fun y => y = pB) w5).setCell (p := ⟨pB, 0, none⟩) rfl (.bool false)).setCell (p := ⟨pB, 1, none⟩) rfl (.slice (some s1) 2 f1)).setCell (p := ⟨pB, 2, none⟩) rfl (.slice (some s2) k2 f2)
      go_meet
      case rel => exact ⟨R, k2, f1, f2, s1, s2, tr2 dx R C, Var.put ((unhide XB).box.below (Nat.le_refl _) hK5) hF1 hF2, hc1, ok_turn (unhide HOKM), tr2_small (unhide HSMA) R C, ((unhide XA).below hK5).but ((unhide XB).box.below (Nat.le_refl _) hK5) hbt5 hneAB, ((unhide HB).trans (hK5.mono (unhide HB).size)).trans (hbt5.below (Nat.le_trans (unhide HB).size hK5.size) (fun y hy => by rw [hy]; exact hlowB))⟩
  case rest =>
  obtain ⟨V0, hwc⟩ : ∃ x, x = wc := ⟨_, rfl⟩
  subst hwc
  obtain ⟨S, k2, f1, f2, s1, s2, ys, hvB, hcf1, hokB, hsmB, hvA, hvH⟩ := hcut
  clear XA XB HB HOKN HSMB x0 x1 x2 y0 y1 y2 hcr hcr2
  have XA := hide hvA
  have XB := hide hvB
  have HB := hide hvH
  have HG := hide ((unhide HG0).below (unhide HB))
  have HOKN := hide hokB
  have HSMB := hide hsmB
  clear hvA hvB hvH hokB hsmB
  obtain ⟨ic, ish, idt, cI, hri⟩ : ∃ rc rsh rdt rp, inner 1 3 false false [(R : Int), (C : Int)] dx [(C : Int), (S : Int)] ys = ⟨rc, rsh, rdt, rp⟩ := ⟨_, _, _, _, rfl⟩
  obtain ⟨jc, jsh, jdt, cJ, hrj⟩ : ∃ rc rsh rdt rp, inner 1 3 false false [(S : Int), (C : Int)] (tr2 ys C S) [(C : Int), (R : Int)] (tr2 dx R C) = ⟨rc, rsh, rdt, rp⟩ := ⟨_, _, _, _, rfl⟩
  obtain ⟨hcj, hgood⟩ := prod_codes (unhide HOKM) (unhide HOKN) (unhide HSMA) (unhide HSMB) hri hrj
  subst cJ
  have HRI := hide hri
  have HRJ := hide hrj
  have HGOOD := hide hgood
  clear hri hrj hgood HSMA HSMB
  as_aux_lemma =>
    go_upto_region 18 with fail
    go_cut [9, 10] (fun r6 r7 wr => r7 = .int .i64 cI ∧ ∃ p e1 k1 f1 e2 k2 f2, r6 = .pointer (some ⟨p, 0, none⟩) ∧ Var wr p ic e1 k1 f1 e2 k2 f2 ish idt ∧ Below V0.heap.size V0 wr)
    case first => as_aux_lemma =>
      have hK0 : Below V0.heap.size V0 V0 := Below.refl _ _
      have HKEEP : ∀ wx, Below V0.heap.size V0 wx → Below V0.heap.size V0 wx ∧ (wx.cell? ⟨pA, 0, none⟩ = some (.bool false) ∧ wx.cell? ⟨pA, 1, none⟩ = some (.slice (some ⟨g1, 0, none⟩) 2 2) ∧ wx.cell? ⟨pA, 2, none⟩ = some (.slice (some ⟨g2, 0, none⟩) n2 e2)) ∧ (wx.cell? ⟨pB, 0, none⟩ = some (.bool false) ∧ wx.cell? ⟨pB, 1, none⟩ = some (.slice (some s1) 2 f1) ∧ wx.cell? ⟨pB, 2, none⟩ = some (.slice (some s2) k2 f2)) := fun wx hwx => ⟨hwx, ((unhide XA).below hwx).cells, ((unhide XB).below hwx).cells⟩
      obtain ⟨_, ⟨xA0, xA1, xA2⟩, ⟨xB0, xB1, xB2⟩⟩ := HKEEP _ (Below.refl _ _)
      go_wp2_with (first
        | (go_at_call 40; refine (Inner_any 1 3 false false ⟨g1, 0, none⟩ ⟨g2, 0, none⟩ s1 s2 _ _ _ _ _ _ _ _ [(R : Int), (C : Int)] dx [(C : Int), (S : Int)] ys _ ((unhide XA).r1.below (Nat.le_refl _) (by first | exact hK0 | exact hK0.alloc hK0.size _ | exact ((Below.refl _ _).alloc (Nat.le_refl _) _).drew)) ((unhide XA).r2.below (Nat.le_refl _) (by first | exact hK0 | exact hK0.alloc hK0.size _ | exact ((Below.refl _ _).alloc (Nat.le_refl _) _).drew)) ((unhide XB).r1.below (Nat.le_refl _) (by first | exact hK0 | exact hK0.alloc hK0.size _ | exact ((Below.refl _ _).alloc (Nat.le_refl _) _).drew)) ((unhide XB).r2.below (Nat.le_refl _) (by first | exact hK0 | exact hK0.alloc hK0.size _ | exact ((Below.refl _ _).alloc (Nat.le_refl _) _).drew)) (Nat.le_refl 2) hcf1).mono ?_; rintro e w1 ⟨e1, k1, f1, e2, k2, f2, rfl, hF1, hF2, hb1⟩; (have HR' := unhide HRI; rw [HR'] at hF1 hF2 ⊢; simp only at hF1 hF2 ⊢; clear HR'); have hK1 : Below V0.heap.size V0 w1 := (by first | exact hK0.trans (hb1.mono hK0.size) | exact (hK0.alloc hK0.size _).trans (hb1.mono (by have := hK0.size; simp; omega)) | exact (((Below.refl _ _).alloc (Nat.le_refl _) _).drew).trans (hb1.mono (by simp)))))
      all_goals (go_meet; case rel => first | exact ⟨rfl, _, _, _, _, _, _, _, rfl, Var.new hF1 hF2, hK1.alloc hK1.size _⟩)
    case rest =>
    obtain ⟨V1, hwc⟩ : ∃ x, x = wc := ⟨_, rfl⟩
    subst hwc
    obtain ⟨rfl, pN, e1N, k1N, f1N, e2N, k2N, f2N, rfl, hv, hK⟩ := hcut
    have T_A := hide ((unhide XA).below hK)
    have T_B := hide ((unhide XB).below hK)
    have T_HG := hide ((unhide HG).below hK)
    have T_HB := hide ((unhide HB).trans (hK.mono (unhide HB).size))
    clear HB XA XB HG
    have XA := T_A
    clear T_A
    have XB := T_B
    clear T_B
    have HG := T_HG
    clear T_HG
    have HB := T_HB
    clear T_HB
    have XN := hide hv
    clear hv hK
    have hk2b : k2 ≤ 20000 := by have h1 := (unhide XB).r2.len; have h2 := shapeIn_of (unhide HOKN); have h3 := h2.1.bd; rw [h2.2.1] at h3; omega
    have hn2b : n2 ≤ 20000 := by omega
    go_upto_region 19 with fail
    go_cut [11, 12] (fun r6 r7 wr => r7 = .int .i64 cI ∧ ∃ p e1 k1 f1 e2 k2 f2, r6 = .pointer (some ⟨p, 0, none⟩) ∧ Var wr p ic e1 k1 f1 e2 k2 f2 ish idt ∧ Below V1.heap.size V1 wr)
    case first => as_aux_lemma =>
      have hK0 : Below V1.heap.size V1 V1.drew := (Below.refl _ _).drew
      have HKEEP : ∀ wx, Below V1.heap.size V1 wx → Below V1.heap.size V1 wx ∧ (wx.cell? ⟨pA, 0, none⟩ = some (.bool false) ∧ wx.cell? ⟨pA, 1, none⟩ = some (.slice (some ⟨g1, 0, none⟩) 2 2) ∧ wx.cell? ⟨pA, 2, none⟩ = some (.slice (some ⟨g2, 0, none⟩) n2 e2)) ∧ (wx.cell? ⟨pB, 0, none⟩ = some (.bool false) ∧ wx.cell? ⟨pB, 1, none⟩ = some (.slice (some s1) 2 f1) ∧ wx.cell? ⟨pB, 2, none⟩ = some (.slice (some s2) k2 f2)) := fun wx hwx => ⟨hwx, ((unhide XA).below hwx).cells, ((unhide XB).below hwx).cells⟩
      obtain ⟨_, ⟨xA0, xA1, xA2⟩, ⟨xB0, xB1, xB2⟩⟩ := HKEEP _ (Below.refl _ _)
      go_region_held (fun wx => Below V1.heap.size V1 wx ∧ (wx.cell? ⟨pA, 0, none⟩ = some (.bool false) ∧ wx.cell? ⟨pA, 1, none⟩ = some (.slice (some ⟨g1, 0, none⟩) 2 2) ∧ wx.cell? ⟨pA, 2, none⟩ = some (.slice (some ⟨g2, 0, none⟩) n2 e2)) ∧ (wx.cell? ⟨pB, 0, none⟩ = some (.bool false) ∧ wx.cell? ⟨pB, 1, none⟩ = some (.slice (some s1) 2 f1) ∧ wx.cell? ⟨pB, 2, none⟩ = some (.slice (some s2) k2 f2))) (first | exact HKEEP _ hK3 | exact HKEEP _ (((hK3.setCell (by have z0 := hK0.size; have z1 := hK1.size; have z2 := hK2.size; have z3 := hK3.size; simp <;> omega) _).setCell (by have z0 := hK0.size; have z1 := hK1.size; have z2 := hK2.size; have z3 := hK3.size; simp <;> omega) _).setCell (by have z0 := hK0.size; have z1 := hK1.size; have z2 := hK2.size; have z3 := hK3.size; simp <;> omega) _) | exact HKEEP _ (hK3.alloc hK3.size _) | exact HKEEP _ hK2 | exact HKEEP _ (hK2.alloc hK2.size _) | exact HKEEP _ hK1 | exact HKEEP _ (hK1.alloc hK1.size _) | exact HKEEP _ hK0 | exact HKEEP _ (hK0.alloc hK0.size _) | exact HKEEP _ ((Below.refl _ _).alloc (Nat.le_refl _) _).drew)
        (first
          | (go_at_call_of 12 (Value.slice (some ⟨g1, 0, none⟩) 2 2); refine (lwArray_src false (some ⟨g1, 0, none⟩) (some ⟨g2, 0, none⟩) 2 n2 2 e2 [(R : Int), (C : Int)] dx _ (Src.of ((unhide XA).r1.below (Nat.le_refl _) (by first | exact hK0 | exact hK0.alloc hK0.size _ | exact ((Below.refl _ _).alloc (Nat.le_refl _) _).drew))) (Src.of ((unhide XA).r2.below (Nat.le_refl _) (by first | exact hK0 | exact hK0.alloc hK0.size _ | exact ((Below.refl _ _).alloc (Nat.le_refl _) _).drew))) (by omega) (by omega)).mono ?_; rintro e w1 ⟨ga1, gb1, da1, db1, rfl, hA1, hB1, hu1, hv1, hb1⟩; have hK1 : Below V1.heap.size V1 w1 := (by first | exact hK0.trans (hb1.mono hK0.size) | exact (hK0.alloc hK0.size _).trans (hb1.mono (by have := hK0.size; simp; omega)) | exact (((Below.refl _ _).alloc (Nat.le_refl _) _).drew).trans (hb1.mono (by simp))); (first | have hP1 := (Box.new _ _ _ _).below (Nat.le_refl _) hb1 | have hP1 := (Box.new _ _ _ _).drew.below (Nat.le_refl _) hb1 | skip); have hA1_1 := hA1.row; have hB1_1 := hB1.row; obtain ⟨_, ⟨xA0, xA1, xA2⟩, ⟨xB0, xB1, xB2⟩⟩ := HKEEP _ hK1)
          | (go_at_call_of 12 (Value.slice (some s1) 2 f1); refine (lwArray_src false (some s1) (some s2) 2 k2 f1 f2 [(C : Int), (S : Int)] ys _ (Src.of ((unhide XB).r1.below (Nat.le_refl _) (by first | exact hK1 | exact hK1.alloc hK1.size _))) (Src.of ((unhide XB).r2.below (Nat.le_refl _) (by first | exact hK1 | exact hK1.alloc hK1.size _))) (by omega) (by omega)).mono ?_; rintro e w2 ⟨ga2, gb2, da2, db2, rfl, hA2, hB2, hu2, hv2, hb2⟩; have hK2 : Below V1.heap.size V1 w2 := (by first | exact hK1.trans (hb2.mono hK1.size) | exact (hK1.alloc hK1.size _).trans (hb2.mono (by have := hK1.size; simp; omega))); (first | have hP2 := hP1.below (Nat.le_refl _) hb2 | have hP2 := (Box.new _ _ _ _).below (Nat.le_refl _) hb2 | have hP2 := (Box.new _ _ _ _).drew.below (Nat.le_refl _) hb2 | skip); have hA1_2 : Row w2 (some ⟨ga1, 0, none⟩) 2 [(R : Int), (C : Int)] := (by first | exact hA1_1.below (Nat.le_refl _) hb2 | exact (hA1_1.alloc _).below (Nat.le_refl _) hb2); have hB1_2 : Row w2 (some ⟨gb1, 0, none⟩) n2 dx := (by first | exact hB1_1.below (Nat.le_refl _) hb2 | exact (hB1_1.alloc _).below (Nat.le_refl _) hb2); have hA2_2 := hA2.row; have hB2_2 := hB2.row; obtain ⟨_, ⟨xA0, xA1, xA2⟩, ⟨xB0, xB1, xB2⟩⟩ := HKEEP _ hK2)
          | (go_at_call 41; refine (implInner_any 1 3 false false ⟨ga1, 0, none⟩ ⟨gb1, 0, none⟩ ⟨ga2, 0, none⟩ ⟨gb2, 0, none⟩ _ _ _ _ _ _ _ _ [(R : Int), (C : Int)] dx [(C : Int), (S : Int)] ys _ (by first | exact hA1_2 | exact hA1_2.alloc _) (by first | exact hB1_2 | exact hB1_2.alloc _) (by first | exact hA2_2 | exact hA2_2.alloc _) (by first | exact hB2_2 | exact hB2_2.alloc _) hu1 hu2 ga gb ((unhide HG).below (by first | exact hK2 | exact hK2.alloc hK2.size _))).mono ?_; rintro e w3 ⟨e1, k1, f1, e2, k2, f2, rfl, hE1, hE2, _, hb3⟩; have hF1 := hE1.row; have hF2 := hE2.row; clear hE1 hE2; (have HR' := unhide HRI; rw [HR'] at hF1 hF2 ⊢; simp only at hF1 hF2 ⊢; clear HR'); have hK3 : Below V1.heap.size V1 w3 := (by first | exact hK2.trans (hb3.mono hK2.size) | exact (hK2.alloc hK2.size _).trans (hb3.mono (by have := hK2.size; simp; omega))); (first | (have hP3 := hP2.below (Nat.le_refl _) hb3; obtain ⟨u0, u1, u2, u3, u4, u5, u6⟩ := hP3.free'; (try simp at u0 u1 u2 u3 u4 u5 u6)) | (have hP3 := (Box.new _ _ _ _).below (Nat.le_refl _) hb3; obtain ⟨u0, u1, u2, u3, u4, u5, u6⟩ := hP3.free'; (try simp at u0 u1 u2 u3 u4 u5 u6)) | (have hP3 := (Box.new _ _ _ _).drew.below (Nat.le_refl _) hb3; obtain ⟨u0, u1, u2, u3, u4, u5, u6⟩ := hP3.free'; (try simp at u0 u1 u2 u3 u4 u5 u6)) | skip)))
      all_goals go_wp2_with fail
      all_goals (go_meet; case rel => first | exact ⟨rfl, _, _, _, _, _, _, _, rfl, Var.new hF1 hF2, hK3.alloc hK3.size _⟩ | exact ⟨rfl, _, _, _, _, _, _, _, rfl, Var.put hP3 hF1 hF2, ((hK3.setCell (by have z0 := hK0.size; have z1 := hK1.size; have z2 := hK2.size; have z3 := hK3.size; simp <;> omega) _).setCell (by have z0 := hK0.size; have z1 := hK1.size; have z2 := hK2.size; have z3 := hK3.size; simp <;> omega) _).setCell (by have z0 := hK0.size; have z1 := hK1.size; have z2 := hK2.size; have z3 := hK3.size; simp <;> omega) _⟩)
    case rest =>
    obtain ⟨V2, hwc⟩ : ∃ x, x = wc := ⟨_, rfl⟩
    subst hwc
    obtain ⟨rfl, pX, e1X, k1X, f1X, e2X, k2X, f2X, rfl, hv, hK⟩ := hcut
    have T_A := hide ((unhide XA).below hK)
    have T_B := hide ((unhide XB).below hK)
    have T_N := hide ((unhide XN).below hK)
    have T_HG := hide ((unhide HG).below hK)
    have T_HB := hide ((unhide HB).trans (hK.mono (unhide HB).size))
    clear HB XA XB XN HG
    have XA := T_A
    clear T_A
    have XB := T_B
    clear T_B
    have XN := T_N
    clear T_N
    have HG := T_HG
    clear T_HG
    have HB := T_HB
    clear T_HB
    have XX := hide hv
    clear hv hK
    as_aux_lemma =>
      go_upto_region 20 with fail
      go_cut [13, 14] (fun r6 r7 wr => r7 = .int .i64 0 ∧ ∃ p e1 k1 f1 e2 k2 f2, r6 = .pointer (some ⟨p, 0, none⟩) ∧ Var wr p false e1 k1 f1 e2 k2 f2 [(C : Int), (R : Int)] (tr2 dx R C) ∧ k1 ≤ f1 ∧ k2 ≤ f2 ∧ (∃ ad, e2 = some ad) ∧ Below V2.heap.size V2 wr)
      case first => as_aux_lemma =>
        have hK0 : Below V2.heap.size V2 V2 := Below.refl _ _
        have HKEEP : ∀ wx, Below V2.heap.size V2 wx → Below V2.heap.size V2 wx ∧ (wx.cell? ⟨pA, 0, none⟩ = some (.bool false) ∧ wx.cell? ⟨pA, 1, none⟩ = some (.slice (some ⟨g1, 0, none⟩) 2 2) ∧ wx.cell? ⟨pA, 2, none⟩ = some (.slice (some ⟨g2, 0, none⟩) n2 e2)) := fun wx hwx => ⟨hwx, ((unhide XA).below hwx).cells⟩
        obtain ⟨_, ⟨xA0, xA1, xA2⟩⟩ := HKEEP _ (Below.refl _ _)
        go_wp2_with (first
          | (go_at_call_of 12 (Value.slice (some ⟨g1, 0, none⟩) 2 2); refine (lwArray_src false (some ⟨g1, 0, none⟩) (some ⟨g2, 0, none⟩) 2 n2 2 e2 [(R : Int), (C : Int)] dx _ (Src.of ((unhide XA).r1.below (Nat.le_refl _) (by first | exact hK0 | exact hK0.alloc hK0.size _ | exact ((Below.refl _ _).alloc (Nat.le_refl _) _).drew))) (Src.of ((unhide XA).r2.below (Nat.le_refl _) (by first | exact hK0 | exact hK0.alloc hK0.size _ | exact ((Below.refl _ _).alloc (Nat.le_refl _) _).drew))) (by omega) (by omega)).mono ?_; rintro e w1 ⟨ga1, gb1, da1, db1, rfl, hA1, hB1, hu1, hv1, hb1⟩; have hK1 : Below V2.heap.size V2 w1 := (by first | exact hK0.trans (hb1.mono hK0.size) | exact (hK0.alloc hK0.size _).trans (hb1.mono (by have := hK0.size; simp; omega)) | exact (((Below.refl _ _).alloc (Nat.le_refl _) _).drew).trans (hb1.mono (by simp))); have hA1_1 := hA1.row; have hB1_1 := hB1.row; obtain ⟨_, ⟨xA0, xA1, xA2⟩⟩ := HKEEP _ hK1)
          | (go_at_call 11; refine (implMon_turn false (some ⟨ga1, 0, none⟩) (some ⟨gb1, 0, none⟩) _ _ _ R C dx _ (by first | exact hA1_1 | exact hA1_1.alloc _) (by first | exact hB1_1 | exact hB1_1.alloc _) (unhide HOKM)).mono ?_; rintro e w2 ⟨e1, k1, f1, e2, k2, f2, rfl, hE1, hE2, _, hb2, hc1, hc2, hc3⟩; have hF1 := hE1.row; have hF2 := hE2.row; clear hE1 hE2; have hK2 : Below V2.heap.size V2 w2 := (by first | exact hK1.trans (hb2.mono hK1.size) | exact (hK1.alloc hK1.size _).trans (hb2.mono (by have := hK1.size; simp; omega)))))
        all_goals (go_meet; case rel => first | exact ⟨rfl, _, _, _, _, _, _, _, rfl, Var.new hF1 hF2, hc1, hc2, (by first | exact hc3 | exact hc3 trivial | exact hc3 rfl), hK2.alloc hK2.size _⟩)
      case rest =>
      obtain ⟨V3, hwc⟩ : ∃ x, x = wc := ⟨_, rfl⟩
      subst hwc
      obtain ⟨rfl, pM, e1M, k1M, f1M, e2M, k2M, f2M, rfl, hv, hc1M, hc2M, hsmM, hK⟩ := hcut
      have T_A := hide ((unhide XA).below hK)
      have T_B := hide ((unhide XB).below hK)
      have T_N := hide ((unhide XN).below hK)
      have T_X := hide ((unhide XX).below hK)
      have T_HG := hide ((unhide HG).below hK)
      have T_HB := hide ((unhide HB).trans (hK.mono (unhide HB).size))
      clear HB XA XB XN XX HG
      have XA := T_A
      clear T_A
      have XB := T_B
      clear T_B
      have XN := T_N
      clear T_N
      have XX := T_X
      clear T_X
      have HG := T_HG
      clear T_HG
      have HB := T_HB
      clear T_HB
      have XM := hide hv
      clear hv hK
      obtain ⟨adM, rfl⟩ := hsmM
      have hkM : 2 = k1M := by have h9 := (unhide XM).r1.len; simpa using h9
      subst k1M
      obtain ⟨bbM, ooM, eeM, _, _⟩ := (unhide XM).r1.get (k := 0) (by omega)
      subst eeM
      go_upto_region 21 with fail
      go_cut [15, 16] (fun r6 r7 wr => r7 = .int .i64 0 ∧ ∃ p e1 k1 f1 e2 k2 f2, r6 = .pointer (some ⟨p, 0, none⟩) ∧ Var wr p false e1 k1 f1 e2 k2 f2 [(S : Int), (C : Int)] (tr2 ys C S) ∧ k1 ≤ f1 ∧ k2 ≤ f2 ∧ (∃ ad, e2 = some ad) ∧ Below V3.heap.size V3 wr)
      case first => as_aux_lemma =>
        have hK0 : Below V3.heap.size V3 V3 := Below.refl _ _
        have HKEEP : ∀ wx, Below V3.heap.size V3 wx → Below V3.heap.size V3 wx ∧ (wx.cell? ⟨pB, 0, none⟩ = some (.bool false) ∧ wx.cell? ⟨pB, 1, none⟩ = some (.slice (some s1) 2 f1) ∧ wx.cell? ⟨pB, 2, none⟩ = some (.slice (some s2) k2 f2)) := fun wx hwx => ⟨hwx, ((unhide XB).below hwx).cells⟩
        obtain ⟨_, ⟨xB0, xB1, xB2⟩⟩ := HKEEP _ (Below.refl _ _)
        go_wp2_with (first
          | (go_at_call_of 12 (Value.slice (some s1) 2 f1); refine (lwArray_src false (some s1) (some s2) 2 k2 f1 f2 [(C : Int), (S : Int)] ys _ (Src.of ((unhide XB).r1.below (Nat.le_refl _) (by first | exact hK0 | exact hK0.alloc hK0.size _ | exact ((Below.refl _ _).alloc (Nat.le_refl _) _).drew))) (Src.of ((unhide XB).r2.below (Nat.le_refl _) (by first | exact hK0 | exact hK0.alloc hK0.size _ | exact ((Below.refl _ _).alloc (Nat.le_refl _) _).drew))) (by omega) (by omega)).mono ?_; rintro e w1 ⟨ga1, gb1, da1, db1, rfl, hA1, hB1, hu1, hv1, hb1⟩; have hK1 : Below V3.heap.size V3 w1 := (by first | exact hK0.trans (hb1.mono hK0.size) | exact (hK0.alloc hK0.size _).trans (hb1.mono (by have := hK0.size; simp; omega)) | exact (((Below.refl _ _).alloc (Nat.le_refl _) _).drew).trans (hb1.mono (by simp))); have hA1_1 := hA1.row; have hB1_1 := hB1.row; obtain ⟨_, ⟨xB0, xB1, xB2⟩⟩ := HKEEP _ hK1)
          | (go_at_call 11; refine (implMon_turn false (some ⟨ga1, 0, none⟩) (some ⟨gb1, 0, none⟩) _ _ _ C S ys _ (by first | exact hA1_1 | exact hA1_1.alloc _) (by first | exact hB1_1 | exact hB1_1.alloc _) (unhide HOKN)).mono ?_; rintro e w2 ⟨e1, k1, f1, e2, k2, f2, rfl, hE1, hE2, _, hb2, hc1, hc2, hc3⟩; have hF1 := hE1.row; have hF2 := hE2.row; clear hE1 hE2; have hK2 : Below V3.heap.size V3 w2 := (by first | exact hK1.trans (hb2.mono hK1.size) | exact (hK1.alloc hK1.size _).trans (hb2.mono (by have := hK1.size; simp; omega)))))
        all_goals (go_meet; case rel => first | exact ⟨rfl, _, _, _, _, _, _, _, rfl, Var.new hF1 hF2, hc1, hc2, (by first | exact hc3 | exact hc3 trivial | exact hc3 rfl), hK2.alloc hK2.size _⟩)
      case rest =>
      obtain ⟨V4, hwc⟩ : ∃ x, x = wc := ⟨_, rfl⟩
      subst hwc
      obtain ⟨rfl, pQ, e1Q, k1Q, f1Q, e2Q, k2Q, f2Q, rfl, hv, hc1Q, hc2Q, hsmQ, hK⟩ := hcut
      have T_A := hide ((unhide XA).below hK)
      have T_B := hide ((unhide XB).below hK)
      have T_N := hide ((unhide XN).below hK)
      have T_X := hide ((unhide XX).below hK)
      have T_M := hide ((unhide XM).below hK)
      have T_HG := hide ((unhide HG).below hK)
      have T_HB := hide ((unhide HB).trans (hK.mono (unhide HB).size))
      clear HB XA XB XN XX XM HG
      have XA := T_A
      clear T_A
      have XB := T_B
      clear T_B
      have XN := T_N
      clear T_N
      have XX := T_X
      clear T_X
      have XM := T_M
      clear T_M
      have HG := T_HG
      clear T_HG
      have HB := T_HB
      clear T_HB
      have XQ := hide hv
      clear hv hK
      obtain ⟨adQ, rfl⟩ := hsmQ
      have hkQ : 2 = k1Q := by have h9 := (unhide XQ).r1.len; simpa using h9
      subst k1Q
      obtain ⟨bbQ, ooQ, eeQ, _, _⟩ := (unhide XQ).r1.get (k := 0) (by omega)
      subst eeQ
      clear XA XB
      go_upto_region 22 with fail
      go_cut [17, 18] (fun r6 r7 wr => r7 = .int .i64 cI ∧ ∃ p e1 k1 f1 e2 k2 f2, r6 = .pointer (some ⟨p, 0, none⟩) ∧ Var wr p jc e1 k1 f1 e2 k2 f2 jsh jdt ∧ Below V4.heap.size V4 wr)
      case first => as_aux_lemma =>
        have hK0 : Below V4.heap.size V4 V4 := Below.refl _ _
        have HKEEP : ∀ wx, Below V4.heap.size V4 wx → Below V4.heap.size V4 wx ∧ (wx.cell? ⟨pQ, 0, none⟩ = some (.bool false) ∧ wx.cell? ⟨pQ, 1, none⟩ = some (.slice (some ⟨bbQ, ooQ, none⟩) 2 f1Q) ∧ wx.cell? ⟨pQ, 2, none⟩ = some (.slice (some adQ) k2Q f2Q)) ∧ (wx.cell? ⟨pM, 0, none⟩ = some (.bool false) ∧ wx.cell? ⟨pM, 1, none⟩ = some (.slice (some ⟨bbM, ooM, none⟩) 2 f1M) ∧ wx.cell? ⟨pM, 2, none⟩ = some (.slice (some adM) k2M f2M)) := fun wx hwx => ⟨hwx, ((unhide XQ).below hwx).cells, ((unhide XM).below hwx).cells⟩
        obtain ⟨_, ⟨xQ0, xQ1, xQ2⟩, ⟨xM0, xM1, xM2⟩⟩ := HKEEP _ (Below.refl _ _)
        go_wp2_with (first
          | (go_at_call 41; refine (implInner_any 1 3 false false ⟨bbQ, ooQ, none⟩ adQ ⟨bbM, ooM, none⟩ adM _ _ _ _ _ _ _ _ [(S : Int), (C : Int)] (tr2 ys C S) [(C : Int), (R : Int)] (tr2 dx R C) _ ((unhide XQ).r1.below (Nat.le_refl _) (by first | exact hK0 | exact hK0.alloc hK0.size _ | exact ((Below.refl _ _).alloc (Nat.le_refl _) _).drew)) ((unhide XQ).r2.below (Nat.le_refl _) (by first | exact hK0 | exact hK0.alloc hK0.size _ | exact ((Below.refl _ _).alloc (Nat.le_refl _) _).drew)) ((unhide XM).r1.below (Nat.le_refl _) (by first | exact hK0 | exact hK0.alloc hK0.size _ | exact ((Below.refl _ _).alloc (Nat.le_refl _) _).drew)) ((unhide XM).r2.below (Nat.le_refl _) (by first | exact hK0 | exact hK0.alloc hK0.size _ | exact ((Below.refl _ _).alloc (Nat.le_refl _) _).drew)) hc1Q hc1M ga gb ((unhide HG).below (by first | exact hK0 | exact hK0.alloc hK0.size _ | exact ((Below.refl _ _).alloc (Nat.le_refl _) _).drew))).mono ?_; rintro e w1 ⟨e1, k1, f1, e2, k2, f2, rfl, hE1, hE2, _, hb1⟩; have hF1 := hE1.row; have hF2 := hE2.row; clear hE1 hE2; (have HR' := unhide HRJ; rw [HR'] at hF1 hF2 ⊢; simp only at hF1 hF2 ⊢; clear HR'); have hK1 : Below V4.heap.size V4 w1 := (by first | exact hK0.trans (hb1.mono hK0.size) | exact (hK0.alloc hK0.size _).trans (hb1.mono (by have := hK0.size; simp; omega)) | exact (((Below.refl _ _).alloc (Nat.le_refl _) _).drew).trans (hb1.mono (by simp)))))
        all_goals (go_meet; case rel => first | exact ⟨rfl, _, _, _, _, _, _, _, rfl, Var.new hF1 hF2, hK1.alloc hK1.size _⟩)
      case rest =>
      obtain ⟨V5, hwc⟩ : ∃ x, x = wc := ⟨_, rfl⟩
      subst hwc
      obtain ⟨rfl, pY, e1Y, k1Y, f1Y, e2Y, k2Y, f2Y, rfl, hv, hK⟩ := hcut
      have T_N := hide ((unhide XN).below hK)
      have T_X := hide ((unhide XX).below hK)
      have T_Q := hide ((unhide XQ).below hK)
      have T_M := hide ((unhide XM).below hK)
      have T_HG := hide ((unhide HG).below hK)
      have T_HB := hide ((unhide HB).trans (hK.mono (unhide HB).size))
      clear HB XN XX XQ XM HG
      have XN := T_N
      clear T_N
      have XX := T_X
      clear T_X
      have XQ := T_Q
      clear T_Q
      have XM := T_M
      clear T_M
      have HG := T_HG
      clear T_HG
      have HB := T_HB
      clear T_HB
      have XY := hide hv
      clear hv hK
      clear XQ XM
      have gcc : (cI != cI) = false := by simp
      obtain ⟨x0, x1, x2⟩ := (unhide XX).cells
      obtain ⟨y0, y1, y2⟩ := (unhide XN).cells
      go_upto_region 25 with (go_at_call 13; refine (eqArray_refl _ _ _ _ _ _ _ _ _ _ _ _ _ ish idt _ (unhide XX).r1 (unhide XX).r2 (unhide XN).r1 (unhide XN).r2).mono ?_; rintro e wA ⟨rfl, hK⟩; have JX := hide ((unhide XX).below hK); have JY := hide ((unhide XY).below hK); have JB := hide ((unhide HB).trans (hK.mono (unhide HB).size)); clear hK x0 x1 x2 y0 y1 y2)
      clear XX XN XY HB HG gcc
      have XX := JX
      have XY := JY
      have HB := JB
      clear JX JY JB
      by_cases hz : cI = 0
      rotate_left
      · have gz : (cI != 0) = true := by simp [hz]
        go_wp2_with fail
        exact bodyPost_ret (v := .bool true) (by simp [results, Tryz.results6, go_sem]) rfl ⟨rfl, unhide HB⟩
      subst hz
      obtain ⟨q1, q2, q3, q4, q5, q6⟩ := (unhide HGOOD) rfl
      subst ic
      subst jc
      subst ish
      subst jsh
      have HOKZ := hide q5
      have hk1X : 2 = k1X := by have h9 := (unhide XX).r1.len; simpa using h9
      subst k1X
      obtain ⟨V6, hV6⟩ : ∃ x, x = wA := ⟨_, rfl⟩
      subst hV6
      go_upto_region 27 with fail
      go_cut [19, 20] (fun r6 r7 wr => r7 = .int .i64 0 ∧ ∃ p e1 k1 f1 e2 k2 f2, r6 = .pointer (some ⟨p, 0, none⟩) ∧ Var wr p false e1 k1 f1 e2 k2 f2 [(S : Int), (R : Int)] (tr2 idt R S) ∧ Below V6.heap.size V6 wr)
      case first => as_aux_lemma =>
        have hK0 : Below V6.heap.size V6 V6 := Below.refl _ _
        have HKEEP : ∀ wx, Below V6.heap.size V6 wx → Below V6.heap.size V6 wx ∧ (wx.cell? ⟨pX, 0, none⟩ = some (.bool false) ∧ wx.cell? ⟨pX, 1, none⟩ = some (.slice e1X 2 f1X) ∧ wx.cell? ⟨pX, 2, none⟩ = some (.slice e2X k2X f2X)) := fun wx hwx => ⟨hwx, ((unhide XX).below hwx).cells⟩
        obtain ⟨_, ⟨xX0, xX1, xX2⟩⟩ := HKEEP _ (Below.refl _ _)
        go_wp2_with (first
          | (go_at_call 11; refine (implMon_turn false e1X e2X _ _ _ R S idt _ ((unhide XX).r1.below (Nat.le_refl _) (by first | exact hK0 | exact hK0.alloc hK0.size _ | exact ((Below.refl _ _).alloc (Nat.le_refl _) _).drew)) ((unhide XX).r2.below (Nat.le_refl _) (by first | exact hK0 | exact hK0.alloc hK0.size _ | exact ((Below.refl _ _).alloc (Nat.le_refl _) _).drew)) (unhide HOKZ)).mono ?_; rintro e w1 ⟨e1, k1, f1, e2, k2, f2, rfl, hE1, hE2, _, hb1, hc1, hc2, hc3⟩; have hF1 := hE1.row; have hF2 := hE2.row; clear hE1 hE2; have hK1 : Below V6.heap.size V6 w1 := (by first | exact hK0.trans (hb1.mono hK0.size) | exact (hK0.alloc hK0.size _).trans (hb1.mono (by have := hK0.size; simp; omega)) | exact (((Below.refl _ _).alloc (Nat.le_refl _) _).drew).trans (hb1.mono (by simp)))))
        all_goals (go_meet; case rel => first | exact ⟨rfl, _, _, _, _, _, _, _, rfl, Var.new hF1 hF2, hK1.alloc hK1.size _⟩)
      case rest =>
      obtain ⟨V7, hwc⟩ : ∃ x, x = wc := ⟨_, rfl⟩
      subst hwc
      obtain ⟨rfl, pZ, e1Z, k1Z, f1Z, e2Z, k2Z, f2Z, rfl, hv, hK⟩ := hcut
      have T_Y := hide ((unhide XY).below hK)
      have T_HB := hide ((unhide HB).trans (hK.mono (unhide HB).size))
      clear HB XY
      have XY := T_Y
      clear T_Y
      have HB := T_HB
      clear T_HB
      have XZ := hide hv
      clear hv hK
      rw [q6] at XZ
      obtain ⟨x0, x1, x2⟩ := (unhide XZ).cells
      obtain ⟨y0, y1, y2⟩ := (unhide XY).cells
      go_wp2_with (go_at_call 13; refine (eqArray_refl _ _ _ _ _ _ _ _ _ _ _ _ _ [(S : Int), (R : Int)] jdt _ (unhide XZ).r1 (unhide XZ).r2 (unhide XY).r1 (unhide XY).r2).mono ?_; rintro e wA ⟨rfl, hK⟩; have JB := hide ((unhide HB).trans (hK.mono (unhide HB).size)); clear hK)
      exact bodyPost_ret (v := .bool true) (by simp [results, Tryz.results6, go_sem]) rfl ⟨rfl, unhide JB⟩

end Go.Proofs.YtgjpchnkodnieaaGreatDoor
