import Derived.Test.YtkgcmpmgaghdhaaGreatDoorMFit0
import Derived.Test.YtkgcmpmgaghdhaaGreatDoorMFit1
import Derived.Test.YtkgcmpmgaghdhaaGreatDoorMFit1
import Derived.Test.YtkgcmpmgaghdhaaGreatDoorMFit1
import Derived.Test.YtkgcmpmgaghdhaaGreatDoorMFit1
import Derived.Test.YtkgcmpmgaghdhaaGreatDoorMFit1
import Derived.Test.YtkgcmpmgaghdhaaGreatDoorMFit1
import Derived.Test.YtkgcmpmgaghdhaaGreatDoorMFit0
import Derived.Test.YtkgcmpmgaghdhaaGreatDoorMFit1
import Derived.Test.YtkgcmpmgaghdhaaGreatDoorMFit2
import Derived.Test.YtkgcmpmgaghdhaaGreatDoorMFit2
import Derived.Test.YtkgcmpmgaghdhaaGreatDoorMFit2
import Derived.Test.YtkgcmpmgaghdhaaGreatDoorImplFoldA
import Derived.Test.YtkgcmpmgaghdhaaGreatDoorImplScanA
import Derived.Test.YtkgcmpmgaghdhaaGreatDoorImplCatenateW
import Derived.Test.YtkgcmpmgaghdhaaGreatDoorImplScalar2W
import Derived.Test.YtkgcmpmgaghdhaaGreatDoorMFit0
import Derived.Test.YtkgcmpmgaghdhaaGreatDoorMFit0
import Derived.Deep.RegionHeld
import Derived.Deep.RegionHeld3
import Derived.Deep.DeepCutAuto
import Derived.BigQuiet
namespace Go.Proofs.YtkgcmpmgaghdhaaGreatDoor
open Go.RowKit

theorem op_lit (j : Nat) (hj : j < 6) : opJ (([1, 3, 5, 6, 15, 16] : List Int).getD j 0) := by
  have : j = 0 ∨ j = 1 ∨ j = 2 ∨ j = 3 ∨ j = 4 ∨ j = 5 := by omega
  rcases this with rfl | rfl | rfl | rfl | rfl | rfl <;> simp [opJ]

set_option maxRecDepth 20000 in
set_option maxHeartbeats 16000000 in
theorem law_Folded (ga gb : Addr) (a b : Option Addr) (n cn m cm : Nat) (w : World) (hby : Bytes w a n) (hc : n ≤ cn) (hn : n ≤ 1048576) (hbz : Bytes w b m) (hcz : m ≤ cm) (hm : m ≤ 1048576) (hG : GlF w ga gb) :
    Calls Tryz.prog 7 #[.slice a n cn, .slice b m cm] w fun e w' => e = .returned (.bool true) ∧ Below w.heap.size w w' := by
  have HY := hide hby
  have HZ := hide hbz
  have hnz : ¬ (1048576 : Int) < (n : Int) := by omega
  have hmz : ¬ (1048576 : Int) < (m : Int) := by omega
  have HG0 := hide hG
  clear hby hbz hG
  go_enter Tryz.func7, Tryz.ntmps7
  go_upto_region 3 with fail
  go_cut [5] (fun v wr => ∃ op : Int, v = .int .i64 op ∧ Hid (opJ op) ∧ Below w.heap.size w wr)
  case first =>
    obtain ⟨j, hj, q4, q4'⟩ := modN (n + m) 6 (by omega)
    have hw : IntKind.i64.wrap ((n : Int) + (m : Int)) = (n : Int) + (m : Int) := by rw [IntKind.wrap_i64]; omega
    have r4 : ((n : Int) + (m : Int)).tmod 6 = (j : Int) := by simpa using q4
    have r4' : ((n : Int) + (m : Int)) % 6 = (j : Int) := by simpa using q4'
    have hwj : IntKind.i64.wrap (j : Int) = (j : Int) := by rw [IntKind.wrap_i64]; omega
    have hlit := lits w [1, 3, 5, 6, 15, 16] j (by simpa using hj)
    obtain ⟨x, hx⟩ : ∃ x, x = ([1, 3, 5, 6, 15, 16] : List Int).getD j 0 := ⟨_, rfl⟩
    have HOP : Hid (opJ x) := by rw [hx]; exact op_lit j hj
    rw [← hx] at hlit
    simp only [List.map_cons, List.map_nil] at hlit
    have hjz : (j : Int) < 6 := by omega
    clear q4 q4' hx
    go_wp2_with fail
    go_meet
    case rel => exact ⟨x, rfl, HOP, (Below.refl _ _).alloc (Nat.le_refl _) _⟩
  case rest =>
  obtain ⟨w0, hw0⟩ : ∃ x, x = wc := ⟨_, rfl⟩
  subst hw0
  obtain ⟨op, rfl, HOP, hb0⟩ := hcut
  have hcall := DrawFold_any a n cn w0 ((unhide HY).below hb0) hc hn
  have HB0 := hide hb0
  clear hb0 hc
  go_upto_region 5 with (go_at_call 32; refine hcall.mono ?_; rintro e w1 ⟨ov, c, fl, a1, a2, n1, n2, c1, c2, sh, dt, rfl, r1, r2, h1, h2, hb1⟩; have R1 := hide r1; have R2 := hide r2; have HB1 := hide ((unhide HB0).trans (hb1.mono (unhide HB0).size)); clear r1 r2 hb1)
  clear hcall HB0
  obtain ⟨V, hV⟩ : ∃ V, V = w1.alloc (.cells #[.bool c, .slice (some a1) n1 c1, .slice (some a2) n2 c2] 25) := ⟨_, rfl⟩
  obtain ⟨pA, hpA⟩ : ∃ P, P = w1.heap.size := ⟨_, rfl⟩
  have XA : Hid (Var V pA c (some a1) n1 c1 (some a2) n2 c2 sh dt) := by rw [hV, hpA]; exact Var.new (unhide R1) (unhide R2)
  have HB : Hid (Below w.heap.size w V) := by rw [hV]; exact (unhide HB1).alloc (unhide HB1).size _
  have hlowA : w.heap.size ≤ pA := by rw [hpA]; exact (unhide HB1).size
  rw [← hV, ← hpA]
  clear hV hpA R1 R2 HB1
  have hcall := DrawFold_any b m cm V ((unhide HZ).below (unhide HB)) hcz hm
  clear hcz
  go_upto_region 6 with (go_at_call 32; refine hcall.mono ?_; rintro e w2 ⟨ov2, d, fl2, b1, b2, m1, m2, d1, d2, sh', dt', rfl, r1, r2, h3, h4, hb1⟩; have R1 := hide r1; have R2 := hide r2; have HK := hide hb1; clear r1 r2 hb1)
  clear hcall
  obtain ⟨W, hW⟩ : ∃ W, W = w2.alloc (.cells #[.bool d, .slice (some b1) m1 d1, .slice (some b2) m2 d2] 25) := ⟨_, rfl⟩
  obtain ⟨pB, hpB⟩ : ∃ P, P = w2.heap.size := ⟨_, rfl⟩
  have hKW : Below V.heap.size V W := by rw [hW]; exact (unhide HK).alloc (unhide HK).size _
  have XB : Hid (Var W pB d (some b1) m1 d1 (some b2) m2 d2 sh' dt') := by rw [hW, hpB]; exact Var.new (unhide R1) (unhide R2)
  have hneAB : ¬ pA = pB := by rw [hpB]; have h1 := (unhide XA).box.lt; have h2 := (unhide HK).size; omega
  have hneBA : ¬ pB = pA := fun e => hneAB e.symm
  have hlowB : w.heap.size ≤ pB := by rw [hpB]; exact Nat.le_trans (unhide HB).size (unhide HK).size
  have YA := hide ((unhide XA).below hKW)
  have YB := hide ((unhide HB).trans (hKW.mono (unhide HB).size))
  rw [← hW, ← hpB]
  clear hW hpB hKW R1 R2 HK XA HB HY HZ
  have XA := YA
  have HB := YB
  clear YA YB
  obtain ⟨r, hr⟩ : ∃ r, arrOk c sh dt = r := ⟨_, rfl⟩
  have HR := hide hr
  obtain ⟨q, hq⟩ : ∃ q, arrOk d sh' dt' = q := ⟨_, rfl⟩
  have HQ := hide hq
  clear hr hq
  obtain ⟨x0, x1, x2⟩ := (unhide XA).cells
  obtain ⟨y0, y1, y2⟩ := (unhide XB).cells
  cases r with
  | false =>
    go_wp2_with (go_at_call 9; refine (ArrayOk_eq _ _ _ _ _ _ _ sh dt _ (unhide XA).r1 (unhide XA).r2 _ HR).mono ?_; rintro e w3 ⟨rfl, hb3⟩; have HB3 := hide ((unhide HB).trans (hb3.mono (unhide HB).size)); clear hb3)
    exact bodyPost_ret (v := .bool true) (by simp [results, Tryz.results7, go_sem]) rfl ⟨rfl, unhide HB3⟩
  | true =>
  cases q with
  | false =>
    as_aux_lemma =>
      go_wp2_with (first | (go_at_call_of 9 (Value.slice (some a1) n1 c1); refine (ArrayOk_eq _ _ _ _ _ _ _ sh dt _ (unhide XA).r1 (unhide XA).r2 _ HR).mono ?_; rintro e w3 ⟨rfl, hb3⟩; have HB3 := hide ((unhide HB).trans (hb3.mono (unhide HB).size)); have X3 := hide ((unhide XB).below hb3); obtain ⟨z0, z1, z2⟩ := (unhide X3).cells; have Y3 := hide ((unhide XA).below hb3); clear hb3) | (go_at_call_of 9 (Value.slice (some b1) m1 d1); refine (ArrayOk_eq _ _ _ _ _ _ _ sh' dt' _ (unhide X3).r1 (unhide X3).r2 _ HQ).mono ?_; rintro e w4 ⟨rfl, hb4⟩; have HB4 := hide ((unhide HB3).trans (hb4.mono (unhide HB3).size)); have Y4 := hide ((unhide Y3).below hb4); have X4 := hide ((unhide X3).below hb4); obtain ⟨u0, u1, u2⟩ := (unhide Y4).cells; obtain ⟨s0, s1, s2⟩ := (unhide X4).cells; clear hb4))
      exact bodyPost_ret (v := .bool true) (by simp [results, Tryz.results7, go_sem]) rfl ⟨rfl, unhide HB4⟩
  | true =>
  cases c with
  | true =>
    as_aux_lemma =>
      go_wp2_with (first | (go_at_call_of 9 (Value.slice (some a1) n1 c1); refine (ArrayOk_eq _ _ _ _ _ _ _ sh dt _ (unhide XA).r1 (unhide XA).r2 _ HR).mono ?_; rintro e w3 ⟨rfl, hb3⟩; have HB3 := hide ((unhide HB).trans (hb3.mono (unhide HB).size)); have X3 := hide ((unhide XB).below hb3); obtain ⟨z0, z1, z2⟩ := (unhide X3).cells; have Y3 := hide ((unhide XA).below hb3); clear hb3) | (go_at_call_of 9 (Value.slice (some b1) m1 d1); refine (ArrayOk_eq _ _ _ _ _ _ _ sh' dt' _ (unhide X3).r1 (unhide X3).r2 _ HQ).mono ?_; rintro e w4 ⟨rfl, hb4⟩; have HB4 := hide ((unhide HB3).trans (hb4.mono (unhide HB3).size)); have Y4 := hide ((unhide Y3).below hb4); have X4 := hide ((unhide X3).below hb4); obtain ⟨u0, u1, u2⟩ := (unhide Y4).cells; obtain ⟨s0, s1, s2⟩ := (unhide X4).cells; clear hb4))
      exact bodyPost_ret (v := .bool true) (by simp [results, Tryz.results7, go_sem]) rfl ⟨rfl, unhide HB4⟩
  | false =>
  cases d with
  | true =>
    as_aux_lemma =>
      go_wp2_with (first | (go_at_call_of 9 (Value.slice (some a1) n1 c1); refine (ArrayOk_eq _ _ _ _ _ _ _ sh dt _ (unhide XA).r1 (unhide XA).r2 _ HR).mono ?_; rintro e w3 ⟨rfl, hb3⟩; have HB3 := hide ((unhide HB).trans (hb3.mono (unhide HB).size)); have X3 := hide ((unhide XB).below hb3); obtain ⟨z0, z1, z2⟩ := (unhide X3).cells; have Y3 := hide ((unhide XA).below hb3); clear hb3) | (go_at_call_of 9 (Value.slice (some b1) m1 d1); refine (ArrayOk_eq _ _ _ _ _ _ _ sh' dt' _ (unhide X3).r1 (unhide X3).r2 _ HQ).mono ?_; rintro e w4 ⟨rfl, hb4⟩; have HB4 := hide ((unhide HB3).trans (hb4.mono (unhide HB3).size)); have Y4 := hide ((unhide Y3).below hb4); have X4 := hide ((unhide X3).below hb4); obtain ⟨u0, u1, u2⟩ := (unhide Y4).cells; obtain ⟨s0, s1, s2⟩ := (unhide X4).cells; clear hb4))
      exact bodyPost_ret (v := .bool true) (by simp [results, Tryz.results7, go_sem]) rfl ⟨rfl, unhide HB4⟩
  | false =>
  obtain ⟨N, hN⟩ : ∃ N, n2 + m2 = N := ⟨_, rfl⟩
  have hwN : IntKind.i64.wrap ((n2 : Int) + (m2 : Int)) = (N : Int) := by rw [IntKind.wrap_i64]; omega
  have HNN := hide hN
  clear hN
  by_cases hbig : 10000 < N
  · have g1 : decide ((10000 : Int) < (N : Int)) = true := by simp; omega
    as_aux_lemma =>
      go_wp2_with (first | (go_at_call_of 9 (Value.slice (some a1) n1 c1); refine (ArrayOk_eq _ _ _ _ _ _ _ sh dt _ (unhide XA).r1 (unhide XA).r2 _ HR).mono ?_; rintro e w3 ⟨rfl, hb3⟩; have HB3 := hide ((unhide HB).trans (hb3.mono (unhide HB).size)); have X3 := hide ((unhide XB).below hb3); obtain ⟨z0, z1, z2⟩ := (unhide X3).cells; have Y3 := hide ((unhide XA).below hb3); clear hb3) | (go_at_call_of 9 (Value.slice (some b1) m1 d1); refine (ArrayOk_eq _ _ _ _ _ _ _ sh' dt' _ (unhide X3).r1 (unhide X3).r2 _ HQ).mono ?_; rintro e w4 ⟨rfl, hb4⟩; have HB4 := hide ((unhide HB3).trans (hb4.mono (unhide HB3).size)); have Y4 := hide ((unhide Y3).below hb4); have X4 := hide ((unhide X3).below hb4); obtain ⟨u0, u1, u2⟩ := (unhide Y4).cells; obtain ⟨s0, s1, s2⟩ := (unhide X4).cells; clear hb4))
      exact bodyPost_ret (v := .bool true) (by simp [results, Tryz.results7, go_sem]) rfl ⟨rfl, unhide HB4⟩
  have g1 : ¬ (10000 < N) := hbig
  clear hbig
  go_upto_region 8 with (first | (go_at_call_of 9 (Value.slice (some a1) n1 c1); refine (ArrayOk_eq _ _ _ _ _ _ _ sh dt _ (unhide XA).r1 (unhide XA).r2 _ HR).mono ?_; rintro e w3 ⟨rfl, hb3⟩; have HB3 := hide ((unhide HB).trans (hb3.mono (unhide HB).size)); have X3 := hide ((unhide XB).below hb3); obtain ⟨z0, z1, z2⟩ := (unhide X3).cells; have Y3 := hide ((unhide XA).below hb3); clear hb3) | (go_at_call_of 9 (Value.slice (some b1) m1 d1); refine (ArrayOk_eq _ _ _ _ _ _ _ sh' dt' _ (unhide X3).r1 (unhide X3).r2 _ HQ).mono ?_; rintro e w4 ⟨rfl, hb4⟩; have HB4 := hide ((unhide HB3).trans (hb4.mono (unhide HB3).size)); have Y4 := hide ((unhide Y3).below hb4); have X4 := hide ((unhide X3).below hb4); obtain ⟨u0, u1, u2⟩ := (unhide Y4).cells; obtain ⟨s0, s1, s2⟩ := (unhide X4).cells; clear hb4))
  clear XA XB HB HB3 X3 Y3 x0 x1 x2 y0 y1 y2 z0 z1 z2 u0 u1 u2 s0 s1 s2 hwN
  have XA := Y4
  have XB := X4
  have HB := HB4
  clear Y4 X4 HB4
  have HG := hide ((unhide HG0).below (unhide HB))
  obtain ⟨U, hU⟩ : ∃ x, x = w4 := ⟨_, rfl⟩
  subst hU
  go_cut [] (fun wr => ∃ g1 g2 d2, Var wr pA false (some ⟨g1, 0, none⟩) 1 1 (some ⟨g2, 0, none⟩) n2 d2 [(n2 : Int)] dt ∧ But (fun y => y = pA) U wr)
  case first => as_aux_lemma =>
    obtain ⟨x0, x1, x2⟩ := (unhide XA).cells
    go_wp2_with (go_at_call 20; refine (lwVector_some a2 n2 c2 dt _ (unhide XA).r2).mono ?_; rintro e w5 ⟨g1, g2, d2, rfl, hE1, hE2, _, hK5⟩; have hF1 := hE1.row; have hF2 := hE2.row; clear hE1 hE2; obtain ⟨u0, u1, u2, u3, u4, u5, u6⟩ := ((unhide XA).box.below (Nat.le_refl _) hK5).free')
    go_meet
    case rel => exact ⟨_, _, _, Var.put ((unhide XA).box.below (Nat.le_refl _) hK5) hF1 hF2, ((((But.of_below (S := fun y => y = pA) hK5).setCell (p := ⟨pA, 0, none⟩) rfl _).setCell (p := ⟨pA, 1, none⟩) rfl _).setCell (p := ⟨pA, 2, none⟩) rfl _)⟩
  case rest =>
  obtain ⟨U1, hwc⟩ : ∃ x, x = wc := ⟨_, rfl⟩
  subst hwc
  obtain ⟨g1A, g2A, d2A, hv, hK⟩ := hcut
  have T_B := hide ((unhide XB).but (unhide XA).box hK hneBA)
  have T_HB := hide ((unhide HB).trans (hK.below (unhide HB).size (fun y hy => by rw [hy]; exact hlowA)))
  clear HB HG XA XB
  have XB := T_B
  clear T_B
  have HB := T_HB
  clear T_HB
  have XA := hide hv
  clear hv hK
  have HG := hide ((unhide HG0).below (unhide HB))
  go_upto_region 9 with fail
  go_cut [] (fun wr => ∃ g1 g2 d2, Var wr pB false (some ⟨g1, 0, none⟩) 1 1 (some ⟨g2, 0, none⟩) m2 d2 [(m2 : Int)] dt' ∧ But (fun y => y = pB) U1 wr)
  case first => as_aux_lemma =>
    obtain ⟨x0, x1, x2⟩ := (unhide XB).cells
    go_wp2_with (go_at_call 20; refine (lwVector_some b2 m2 d2 dt' _ (unhide XB).r2).mono ?_; rintro e w5 ⟨g1, g2, d2, rfl, hE1, hE2, _, hK5⟩; have hF1 := hE1.row; have hF2 := hE2.row; clear hE1 hE2; obtain ⟨u0, u1, u2, u3, u4, u5, u6⟩ := ((unhide XB).box.below (Nat.le_refl _) hK5).free')
    go_meet
    case rel => exact ⟨_, _, _, Var.put ((unhide XB).box.below (Nat.le_refl _) hK5) hF1 hF2, ((((But.of_below (S := fun y => y = pB) hK5).setCell (p := ⟨pB, 0, none⟩) rfl _).setCell (p := ⟨pB, 1, none⟩) rfl _).setCell (p := ⟨pB, 2, none⟩) rfl _)⟩
  case rest =>
  obtain ⟨U2, hwc⟩ : ∃ x, x = wc := ⟨_, rfl⟩
  subst hwc
  obtain ⟨g1B, g2B, d2B, hv, hK⟩ := hcut
  have T_A := hide ((unhide XA).but (unhide XB).box hK hneAB)
  have T_HB := hide ((unhide HB).trans (hK.below (unhide HB).size (fun y hy => by rw [hy]; exact hlowB)))
  clear HB HG XB XA
  have XA := T_A
  clear T_A
  have HB := T_HB
  clear T_HB
  have XB := hide hv
  clear hv hK
  have HG := hide ((unhide HG0).below (unhide HB))
  go_upto_region 10 with fail
  go_cut [12] (fun r12 wr => ∃ p g1 g2 d2, r12 = .pointer (some ⟨p, 0, none⟩) ∧ Var wr p false (some ⟨g1, 0, none⟩) 1 1 (some ⟨g2, 0, none⟩) N d2 [(N : Int)] (dt ++ dt') ∧ U2.heap.size ≤ p ∧ Below U2.heap.size U2 wr)
  case first =>
    refine regionF U2 ⟨g2A, 0, none⟩ ⟨g2B, 0, none⟩ n2 d2A m2 d2B N dt dt' pA pB (some ⟨g1A, 0, none⟩) (some ⟨g1B, 0, none⟩) 1 1 1 1 false false _ (by simp) rfl rfl (unhide XA).box (unhide XB).box (unhide XA).r2 (unhide XB).r2 (unhide HNN) (by omega) (fun _ _ _ _ _ h => h) ?_
    intro wx p g1 g2 d v89 v92 v95 v96 hp hv hb
    simp only [Act.put, List.setIfInBounds_toArray, List.set_cons_zero, List.set_cons_succ]
    go_wp2_with fail
    go_meet
    case rel => exact ⟨p, g1, g2, d, rfl, hv, hp, hb⟩
  case rest =>
  obtain ⟨U3, hwc⟩ : ∃ x, x = wc := ⟨_, rfl⟩
  subst hwc
  obtain ⟨pC, g1C, g2C, d2C, rfl, hv, hfrC, hK⟩ := hcut
  have XC := hide hv
  have hneAC : ¬ pA = pC := by have := (unhide XA).box.lt; omega
  have hneBC : ¬ pB = pC := by have := (unhide XB).box.lt; omega
  have T_A := hide ((unhide XA).below hK)
  have T_B := hide ((unhide XB).below hK)
  have T_HB := hide ((unhide HB).trans (hK.mono (unhide HB).size))
  clear HB HG XA XB hv hK hfrC
  have XA := T_A
  have XB := T_B
  have HB := T_HB
  clear T_A T_B T_HB
  have HG := hide ((unhide HG0).below (unhide HB))
  as_aux_lemma =>
    have HDA := hide (ok_parts (unhide HR)).2
    have HDB := hide (ok_parts (unhide HQ)).2
    have HLA := hide (unhide XA).r2.len
    have HLB := hide (unhide XB).r2.len
    obtain ⟨pc, psh, pdt, cP, hrp⟩ : ∃ rc rsh rdt rp, fold op false [(n2 : Int)] dt false = ⟨rc, rsh, rdt, rp⟩ := ⟨_, _, _, _, rfl⟩
    obtain ⟨qc, qsh, qdt, cQ, hrq⟩ : ∃ rc rsh rdt rp, fold op false [(m2 : Int)] dt' false = ⟨rc, rsh, rdt, rp⟩ := ⟨_, _, _, _, rfl⟩
    obtain ⟨sc, ssh, sdt, cS, hrs⟩ : ∃ rc rsh rdt rp, scalar2 op pc qc psh pdt qsh qdt = ⟨rc, rsh, rdt, rp⟩ := ⟨_, _, _, _, rfl⟩
    obtain ⟨tc, tsh, tdt, cT, hrt⟩ : ∃ rc rsh rdt rp, fold op false [(N : Int)] (dt ++ dt') false = ⟨rc, rsh, rdt, rp⟩ := ⟨_, _, _, _, rfl⟩
    have HRP := hide hrp
    have HRQ := hide hrq
    have HRS := hide hrs
    have HRT := hide hrt
    clear hrp hrq hrs hrt
    go_upto_region 11 with fail
    go_cut [13, 14] (fun r6 r7 wr => r7 = .int .i64 cP ∧ ∃ p e1 k1 f1 e2 k2 f2, r6 = .pointer (some ⟨p, 0, none⟩) ∧ Var wr p pc e1 k1 f1 e2 k2 f2 psh pdt ∧ U3.heap.size ≤ p ∧ Below U3.heap.size U3 wr)
    case first => as_aux_lemma =>
      have hK0 : Below U3.heap.size U3 U3 := Below.refl _ _
      have HKEEP : ∀ wx, Below U3.heap.size U3 wx → Below U3.heap.size U3 wx ∧ (wx.cell? ⟨pA, 0, none⟩ = some (.bool false) ∧ wx.cell? ⟨pA, 1, none⟩ = some (.slice (some ⟨g1A, 0, none⟩) 1 1) ∧ wx.cell? ⟨pA, 2, none⟩ = some (.slice (some ⟨g2A, 0, none⟩) n2 d2A)) := fun wx hwx => ⟨hwx, ((unhide XA).below hwx).cells⟩
      obtain ⟨_, ⟨xA0, xA1, xA2⟩⟩ := HKEEP _ (Below.refl _ _)
      go_wp2_with (first
        | (go_at_call 33; refine (Fold_any op false ⟨g1A, 0, none⟩ ⟨g2A, 0, none⟩ 1 n2 1 d2A [(n2 : Int)] dt false _ ((unhide XA).r1.below (Nat.le_refl _) (by first | exact hK0 | exact hK0.alloc hK0.size _ | exact ((Below.refl _ _).alloc (Nat.le_refl _) _).drew)) ((unhide XA).r2.below (Nat.le_refl _) (by first | exact hK0 | exact hK0.alloc hK0.size _ | exact ((Below.refl _ _).alloc (Nat.le_refl _) _).drew)) (Nat.le_refl 1)).mono ?_; rintro e w1 ⟨e1, k1, f1, e2, k2, f2, rfl, hF1, hF2, hb1⟩; (have HR' := unhide HRP; rw [HR'] at hF1 hF2 ⊢; simp only at hF1 hF2 ⊢; clear HR'); have hK1 : Below U3.heap.size U3 w1 := (by first | exact hK0.trans (hb1.mono hK0.size) | exact (hK0.alloc hK0.size _).trans (hb1.mono (by have := hK0.size; simp; omega)) | exact (((Below.refl _ _).alloc (Nat.le_refl _) _).drew).trans (hb1.mono (by simp)))))
      all_goals (go_meet; case rel => first | exact ⟨rfl, _, _, _, _, _, _, _, rfl, Var.new hF1 hF2, hK1.size, hK1.alloc hK1.size _⟩)
    case rest =>
    obtain ⟨U4, hwc⟩ : ∃ x, x = wc := ⟨_, rfl⟩
    subst hwc
    obtain ⟨rfl, pP, e1P, k1P, f1P, e2P, k2P, f2P, rfl, hv, hfrP, hK⟩ := hcut
    have hneAP : ¬ pA = pP := by have := (unhide XA).box.lt; omega
    have hneBP : ¬ pB = pP := by have := (unhide XB).box.lt; omega
    have hneCP : ¬ pC = pP := by have := (unhide XC).box.lt; omega
    have hlowP : w.heap.size ≤ pP := by have := (unhide HB).size; omega
    clear hfrP
    have T_A := hide ((unhide XA).below hK)
    have T_B := hide ((unhide XB).below hK)
    have T_C := hide ((unhide XC).below hK)
    have T_HG := hide ((unhide HG).below hK)
    have T_HB := hide ((unhide HB).trans (hK.mono (unhide HB).size))
    clear HB XA XB XC HG
    have XA := T_A
    clear T_A
    have XB := T_B
    clear T_B
    have XC := T_C
    clear T_C
    have HG := T_HG
    clear T_HG
    have HB := T_HB
    clear T_HB
    have XP := hide hv
    clear hv hK
    go_upto_region 12 with fail
    go_cut [15, 16] (fun r6 r7 wr => r7 = .int .i64 cQ ∧ ∃ p e1 k1 f1 e2 k2 f2, r6 = .pointer (some ⟨p, 0, none⟩) ∧ Var wr p qc e1 k1 f1 e2 k2 f2 qsh qdt ∧ U4.heap.size ≤ p ∧ Below U4.heap.size U4 wr)
    case first => as_aux_lemma =>
      have hK0 : Below U4.heap.size U4 U4 := Below.refl _ _
      have HKEEP : ∀ wx, Below U4.heap.size U4 wx → Below U4.heap.size U4 wx ∧ (wx.cell? ⟨pB, 0, none⟩ = some (.bool false) ∧ wx.cell? ⟨pB, 1, none⟩ = some (.slice (some ⟨g1B, 0, none⟩) 1 1) ∧ wx.cell? ⟨pB, 2, none⟩ = some (.slice (some ⟨g2B, 0, none⟩) m2 d2B)) := fun wx hwx => ⟨hwx, ((unhide XB).below hwx).cells⟩
      obtain ⟨_, ⟨xB0, xB1, xB2⟩⟩ := HKEEP _ (Below.refl _ _)
      go_wp2_with (first
        | (go_at_call 33; refine (Fold_any op false ⟨g1B, 0, none⟩ ⟨g2B, 0, none⟩ 1 m2 1 d2B [(m2 : Int)] dt' false _ ((unhide XB).r1.below (Nat.le_refl _) (by first | exact hK0 | exact hK0.alloc hK0.size _ | exact ((Below.refl _ _).alloc (Nat.le_refl _) _).drew)) ((unhide XB).r2.below (Nat.le_refl _) (by first | exact hK0 | exact hK0.alloc hK0.size _ | exact ((Below.refl _ _).alloc (Nat.le_refl _) _).drew)) (Nat.le_refl 1)).mono ?_; rintro e w1 ⟨e1, k1, f1, e2, k2, f2, rfl, hF1, hF2, hb1⟩; (have HR' := unhide HRQ; rw [HR'] at hF1 hF2 ⊢; simp only at hF1 hF2 ⊢; clear HR'); have hK1 : Below U4.heap.size U4 w1 := (by first | exact hK0.trans (hb1.mono hK0.size) | exact (hK0.alloc hK0.size _).trans (hb1.mono (by have := hK0.size; simp; omega)) | exact (((Below.refl _ _).alloc (Nat.le_refl _) _).drew).trans (hb1.mono (by simp)))))
      all_goals (go_meet; case rel => first | exact ⟨rfl, _, _, _, _, _, _, _, rfl, Var.new hF1 hF2, hK1.size, hK1.alloc hK1.size _⟩)
    case rest =>
    obtain ⟨U5, hwc⟩ : ∃ x, x = wc := ⟨_, rfl⟩
    subst hwc
    obtain ⟨rfl, pQ, e1Q, k1Q, f1Q, e2Q, k2Q, f2Q, rfl, hv, hfrQ, hK⟩ := hcut
    have hneAQ : ¬ pA = pQ := by have := (unhide XA).box.lt; omega
    have hneBQ : ¬ pB = pQ := by have := (unhide XB).box.lt; omega
    have hneCQ : ¬ pC = pQ := by have := (unhide XC).box.lt; omega
    have hnePQ : ¬ pP = pQ := by have := (unhide XP).box.lt; omega
    have hlowQ : w.heap.size ≤ pQ := by have := (unhide HB).size; omega
    clear hfrQ
    have T_A := hide ((unhide XA).below hK)
    have T_B := hide ((unhide XB).below hK)
    have T_C := hide ((unhide XC).below hK)
    have T_P := hide ((unhide XP).below hK)
    have T_HG := hide ((unhide HG).below hK)
    have T_HB := hide ((unhide HB).trans (hK.mono (unhide HB).size))
    clear HB XA XB XC XP HG
    have XA := T_A
    clear T_A
    have XB := T_B
    clear T_B
    have XC := T_C
    clear T_C
    have XP := T_P
    clear T_P
    have HG := T_HG
    clear T_HG
    have HB := T_HB
    clear T_HB
    have XQ := hide hv
    clear hv hK
    go_upto_region 13 with fail
    go_cut [17, 18] (fun r6 r7 wr => r7 = .int .i64 cS ∧ ∃ p e1 k1 f1 e2 k2 f2, r6 = .pointer (some ⟨p, 0, none⟩) ∧ Var wr p sc e1 k1 f1 e2 k2 f2 ssh sdt ∧ U5.heap.size ≤ p ∧ Below U5.heap.size U5 wr)
    case first => as_aux_lemma =>
      have hK0 : Below U5.heap.size U5 U5 := Below.refl _ _
      have HKEEP : ∀ wx, Below U5.heap.size U5 wx → Below U5.heap.size U5 wx ∧ (wx.cell? ⟨pP, 0, none⟩ = some (.bool pc) ∧ wx.cell? ⟨pP, 1, none⟩ = some (.slice e1P k1P f1P) ∧ wx.cell? ⟨pP, 2, none⟩ = some (.slice e2P k2P f2P)) ∧ (wx.cell? ⟨pQ, 0, none⟩ = some (.bool qc) ∧ wx.cell? ⟨pQ, 1, none⟩ = some (.slice e1Q k1Q f1Q) ∧ wx.cell? ⟨pQ, 2, none⟩ = some (.slice e2Q k2Q f2Q)) := fun wx hwx => ⟨hwx, ((unhide XP).below hwx).cells, ((unhide XQ).below hwx).cells⟩
      obtain ⟨_, ⟨xP0, xP1, xP2⟩, ⟨xQ0, xQ1, xQ2⟩⟩ := HKEEP _ (Below.refl _ _)
      go_wp2_with (first
        | (go_at_call 22; refine (Scalar2_any op pc qc e1P e2P e1Q e2Q _ _ _ _ _ _ _ _ psh pdt qsh qdt _ ((unhide XP).r1.below (Nat.le_refl _) (by first | exact hK0 | exact hK0.alloc hK0.size _ | exact ((Below.refl _ _).alloc (Nat.le_refl _) _).drew)) ((unhide XP).r2.below (Nat.le_refl _) (by first | exact hK0 | exact hK0.alloc hK0.size _ | exact ((Below.refl _ _).alloc (Nat.le_refl _) _).drew)) ((unhide XQ).r1.below (Nat.le_refl _) (by first | exact hK0 | exact hK0.alloc hK0.size _ | exact ((Below.refl _ _).alloc (Nat.le_refl _) _).drew)) ((unhide XQ).r2.below (Nat.le_refl _) (by first | exact hK0 | exact hK0.alloc hK0.size _ | exact ((Below.refl _ _).alloc (Nat.le_refl _) _).drew))).mono ?_; rintro e w1 ⟨e1, k1, f1, e2, k2, f2, rfl, hF1, hF2, hb1⟩; (have HR' := unhide HRS; rw [HR'] at hF1 hF2 ⊢; simp only at hF1 hF2 ⊢; clear HR'); have hK1 : Below U5.heap.size U5 w1 := (by first | exact hK0.trans (hb1.mono hK0.size) | exact (hK0.alloc hK0.size _).trans (hb1.mono (by have := hK0.size; simp; omega)) | exact (((Below.refl _ _).alloc (Nat.le_refl _) _).drew).trans (hb1.mono (by simp)))))
      all_goals (go_meet; case rel => first | exact ⟨rfl, _, _, _, _, _, _, _, rfl, Var.new hF1 hF2, hK1.size, hK1.alloc hK1.size _⟩)
    case rest =>
    obtain ⟨U6, hwc⟩ : ∃ x, x = wc := ⟨_, rfl⟩
    subst hwc
    obtain ⟨rfl, pS, e1S, k1S, f1S, e2S, k2S, f2S, rfl, hv, hfrS, hK⟩ := hcut
    have hneAS : ¬ pA = pS := by have := (unhide XA).box.lt; omega
    have hneBS : ¬ pB = pS := by have := (unhide XB).box.lt; omega
    have hneCS : ¬ pC = pS := by have := (unhide XC).box.lt; omega
    have hnePS : ¬ pP = pS := by have := (unhide XP).box.lt; omega
    have hneQS : ¬ pQ = pS := by have := (unhide XQ).box.lt; omega
    have hlowS : w.heap.size ≤ pS := by have := (unhide HB).size; omega
    clear hfrS
    have T_A := hide ((unhide XA).below hK)
    have T_B := hide ((unhide XB).below hK)
    have T_C := hide ((unhide XC).below hK)
    have T_P := hide ((unhide XP).below hK)
    have T_Q := hide ((unhide XQ).below hK)
    have T_HG := hide ((unhide HG).below hK)
    have T_HB := hide ((unhide HB).trans (hK.mono (unhide HB).size))
    clear HB XA XB XC XP XQ HG
    have XA := T_A
    clear T_A
    have XB := T_B
    clear T_B
    have XC := T_C
    clear T_C
    have XP := T_P
    clear T_P
    have XQ := T_Q
    clear T_Q
    have HG := T_HG
    clear T_HG
    have HB := T_HB
    clear T_HB
    have XS := hide hv
    clear hv hK
    clear XS
    go_upto_region 14 with fail
    go_cut [19, 20] (fun r6 r7 wr => r7 = .int .i64 cT ∧ ∃ p e1 k1 f1 e2 k2 f2, r6 = .pointer (some ⟨p, 0, none⟩) ∧ Var wr p tc e1 k1 f1 e2 k2 f2 tsh tdt ∧ U6.heap.size ≤ p ∧ Below U6.heap.size U6 wr)
    case first => as_aux_lemma =>
      have hK0 : Below U6.heap.size U6 U6 := Below.refl _ _
      have HKEEP : ∀ wx, Below U6.heap.size U6 wx → Below U6.heap.size U6 wx ∧ (wx.cell? ⟨pC, 0, none⟩ = some (.bool false) ∧ wx.cell? ⟨pC, 1, none⟩ = some (.slice (some ⟨g1C, 0, none⟩) 1 1) ∧ wx.cell? ⟨pC, 2, none⟩ = some (.slice (some ⟨g2C, 0, none⟩) N d2C)) := fun wx hwx => ⟨hwx, ((unhide XC).below hwx).cells⟩
      obtain ⟨_, ⟨xC0, xC1, xC2⟩⟩ := HKEEP _ (Below.refl _ _)
      go_wp2_with (first
        | (go_at_call 33; refine (Fold_any op false ⟨g1C, 0, none⟩ ⟨g2C, 0, none⟩ 1 N 1 d2C [(N : Int)] (dt ++ dt') false _ ((unhide XC).r1.below (Nat.le_refl _) (by first | exact hK0 | exact hK0.alloc hK0.size _ | exact ((Below.refl _ _).alloc (Nat.le_refl _) _).drew)) ((unhide XC).r2.below (Nat.le_refl _) (by first | exact hK0 | exact hK0.alloc hK0.size _ | exact ((Below.refl _ _).alloc (Nat.le_refl _) _).drew)) (Nat.le_refl 1)).mono ?_; rintro e w1 ⟨e1, k1, f1, e2, k2, f2, rfl, hF1, hF2, hb1⟩; (have HR' := unhide HRT; rw [HR'] at hF1 hF2 ⊢; simp only at hF1 hF2 ⊢; clear HR'); have hK1 : Below U6.heap.size U6 w1 := (by first | exact hK0.trans (hb1.mono hK0.size) | exact (hK0.alloc hK0.size _).trans (hb1.mono (by have := hK0.size; simp; omega)) | exact (((Below.refl _ _).alloc (Nat.le_refl _) _).drew).trans (hb1.mono (by simp)))))
      all_goals (go_meet; case rel => first | exact ⟨rfl, _, _, _, _, _, _, _, rfl, Var.new hF1 hF2, hK1.size, hK1.alloc hK1.size _⟩)
    case rest =>
    obtain ⟨U7, hwc⟩ : ∃ x, x = wc := ⟨_, rfl⟩
    subst hwc
    obtain ⟨rfl, pT, e1T, k1T, f1T, e2T, k2T, f2T, rfl, hv, hfrT, hK⟩ := hcut
    have hneAT : ¬ pA = pT := by have := (unhide XA).box.lt; omega
    have hneBT : ¬ pB = pT := by have := (unhide XB).box.lt; omega
    have hneCT : ¬ pC = pT := by have := (unhide XC).box.lt; omega
    have hnePT : ¬ pP = pT := by have := (unhide XP).box.lt; omega
    have hneQT : ¬ pQ = pT := by have := (unhide XQ).box.lt; omega
    have hlowT : w.heap.size ≤ pT := by have := (unhide HB).size; omega
    clear hfrT
    have T_A := hide ((unhide XA).below hK)
    have T_B := hide ((unhide XB).below hK)
    have T_C := hide ((unhide XC).below hK)
    have T_P := hide ((unhide XP).below hK)
    have T_Q := hide ((unhide XQ).below hK)
    have T_HG := hide ((unhide HG).below hK)
    have T_HB := hide ((unhide HB).trans (hK.mono (unhide HB).size))
    clear HB XA XB XC XP XQ HG
    have XA := T_A
    clear T_A
    have XB := T_B
    clear T_B
    have XC := T_C
    clear T_C
    have XP := T_P
    clear T_P
    have XQ := T_Q
    clear T_Q
    have HG := T_HG
    clear T_HG
    have HB := T_HB
    clear T_HB
    have XT := hide hv
    clear hv hK
    have hneTP : ¬ pT = pP := fun e => hnePT e.symm
    have hneTQ : ¬ pT = pQ := fun e => hneQT e.symm
    have hneCA' := hneAC
    by_cases hzcP : cP = 0
    rotate_left
    · have gz : (cP != 0) = true := by simp [hzcP]
      clear hzcP
      go_wp2_with fail
      exact bodyPost_ret (v := .bool true) (by simp [results, Tryz.results7, go_sem]) rfl ⟨rfl, unhide HB⟩
    subst hzcP
    by_cases hzcQ : cQ = 0
    rotate_left
    · have gz : (cQ != 0) = true := by simp [hzcQ]
      clear hzcQ
      go_wp2_with fail
      exact bodyPost_ret (v := .bool true) (by simp [results, Tryz.results7, go_sem]) rfl ⟨rfl, unhide HB⟩
    subst hzcQ
    by_cases hzcS : cS = 0
    rotate_left
    · have gz : (cS != 0) = true := by simp [hzcS]
      clear hzcS
      go_wp2_with fail
      exact bodyPost_ret (v := .bool true) (by simp [results, Tryz.results7, go_sem]) rfl ⟨rfl, unhide HB⟩
    subst hzcS
    by_cases hzcT : cT = 0
    rotate_left
    · have gz : (cT != 0) = true := by simp [hzcT]
      clear hzcT
      go_wp2_with fail
      exact bodyPost_ret (v := .bool true) (by simp [results, Tryz.results7, go_sem]) rfl ⟨rfl, unhide HB⟩
    subst hzcT
    obtain ⟨vp, vq, v, eP, eQ, eS, eT, hscan⟩ := folded (unhide HOP) (unhide HLA) (unhide HLB) (by rw [unhide HNN]; omega) (unhide HDA) (unhide HDB) (unhide HRP) (unhide HRQ) rfl rfl (by rw [show scalar2 op (Ans.c ⟨pc, psh, pdt, 0⟩) (Ans.c ⟨qc, qsh, qdt, 0⟩) (Ans.sh ⟨pc, psh, pdt, 0⟩) (Ans.dt ⟨pc, psh, pdt, 0⟩) (Ans.sh ⟨qc, qsh, qdt, 0⟩) (Ans.dt ⟨qc, qsh, qdt, 0⟩) = _ from unhide HRS]) (by rw [unhide HNN, unhide HRT])
    rw [unhide HNN] at eT hscan
    cases eP
    cases eQ
    have e2 : (⟨tc, tsh, tdt, 0⟩ : Ans) = ⟨false, [], [v], 0⟩ := (unhide HRT).symm.trans eT
    cases e2
    have HES := hide eS
    have HSC := hide hscan
    clear eS eT hscan HRS
    have hk1T : k1T ≤ 1 := by have := (unhide XT).r1.len; simp at this; omega
    as_aux_lemma =>
      go_upto_region 17 with fail
      go_cut [14] (fun r7 wr => r7 = .int .i64 0 ∧ ∃ e1 k1 f1 e2 k2 f2, Var wr pP false e1 k1 f1 e2 k2 f2 [] [vp] ∧ But (fun y => y = pP) U7 wr)
      case first => as_aux_lemma =>
        have hK0 : Below U7.heap.size U7 U7 := Below.refl _ _
        have HKEEP : ∀ wx, Below U7.heap.size U7 wx → Below U7.heap.size U7 wx ∧ (wx.cell? ⟨pA, 0, none⟩ = some (.bool false) ∧ wx.cell? ⟨pA, 1, none⟩ = some (.slice (some ⟨g1A, 0, none⟩) 1 1) ∧ wx.cell? ⟨pA, 2, none⟩ = some (.slice (some ⟨g2A, 0, none⟩) n2 d2A)) := fun wx hwx => ⟨hwx, ((unhide XA).below hwx).cells⟩
        obtain ⟨_, ⟨xA0, xA1, xA2⟩⟩ := HKEEP _ (Below.refl _ _)
        go_wp2_with (first
          | (go_at_call_of 11 (Value.slice (some ⟨g1A, 0, none⟩) 1 1); refine (lwArray_src false (some ⟨g1A, 0, none⟩) (some ⟨g2A, 0, none⟩) 1 n2 1 d2A [(n2 : Int)] dt _ (Src.of ((unhide XA).r1.below (Nat.le_refl _) (by first | exact hK0 | exact hK0.alloc hK0.size _ | exact ((Below.refl _ _).alloc (Nat.le_refl _) _).drew))) (Src.of ((unhide XA).r2.below (Nat.le_refl _) (by first | exact hK0 | exact hK0.alloc hK0.size _ | exact ((Below.refl _ _).alloc (Nat.le_refl _) _).drew))) (by omega) (by omega)).mono ?_; rintro e w1 ⟨ga1, gb1, da1, db1, rfl, hA1, hB1, hu1, hv1, hb1⟩; have hK1 : Below U7.heap.size U7 w1 := (by first | exact hK0.trans (hb1.mono hK0.size) | exact (hK0.alloc hK0.size _).trans (hb1.mono (by have := hK0.size; simp; omega)) | exact (((Below.refl _ _).alloc (Nat.le_refl _) _).drew).trans (hb1.mono (by simp))); have hA1_1 := hA1.row; have hB1_1 := hB1.row; obtain ⟨_, ⟨xA0, xA1, xA2⟩⟩ := HKEEP _ hK1)
          | (go_at_call 34; refine (implFold_any op false ⟨ga1, 0, none⟩ ⟨gb1, 0, none⟩ _ _ _ _ [(n2 : Int)] dt false _ (by first | exact hA1_1 | exact hA1_1.alloc _) (by first | exact hB1_1 | exact hB1_1.alloc _) hu1 ga gb ((unhide HG).below (by first | exact hK1 | exact hK1.alloc hK1.size _))).mono ?_; rintro e w2 ⟨e1, k1, f1, e2, k2, f2, rfl, hE1, hE2, _, hb2⟩; have hF1 := hE1.row; have hF2 := hE2.row; clear hE1 hE2; (have HR' := unhide HRP; rw [HR'] at hF1 hF2 ⊢; simp only at hF1 hF2 ⊢; clear HR'); have hK2 : Below U7.heap.size U7 w2 := (by first | exact hK1.trans (hb2.mono hK1.size) | exact (hK1.alloc hK1.size _).trans (hb2.mono (by have := hK1.size; simp; omega))); obtain ⟨u0, u1, u2, u3, u4, u5, u6⟩ := ((unhide XP).box.below (Nat.le_refl _) hK2).free'))
        go_meet
        case rel => exact ⟨rfl, _, _, _, _, _, _, Var.put ((unhide XP).box.below (Nat.le_refl _) hK2) hF1 hF2, ((((But.of_below (S := fun y => y = pP) hK2).setCell (p := ⟨pP, 0, none⟩) rfl _).setCell (p := ⟨pP, 1, none⟩) rfl _).setCell (p := ⟨pP, 2, none⟩) rfl _)⟩
      case rest =>
      obtain ⟨U8, hwc⟩ : ∃ x, x = wc := ⟨_, rfl⟩
      subst hwc
      obtain ⟨rfl, e1Pn, k1Pn, f1Pn, e2Pn, k2Pn, f2Pn, hv, hK⟩ := hcut
      have T_A := hide ((unhide XA).but (unhide XP).box hK hneAP)
      have T_B := hide ((unhide XB).but (unhide XP).box hK hneBP)
      have T_C := hide ((unhide XC).but (unhide XP).box hK hneCP)
      have T_Q := hide ((unhide XQ).but (unhide XP).box hK (fun e => hnePQ e.symm))
      have T_T := hide ((unhide XT).but (unhide XP).box hK hneTP)
      have T_HB := hide ((unhide HB).trans (hK.below (unhide HB).size (fun y hy => by rw [hy]; exact hlowP)))
      clear HB XA XB XC XQ XT HG XP
      have XA := T_A
      clear T_A
      have XB := T_B
      clear T_B
      have XC := T_C
      clear T_C
      have XQ := T_Q
      clear T_Q
      have XT := T_T
      clear T_T
      have HB := T_HB
      clear T_HB
      have XP := hide hv
      clear hv hK
      have HG := hide ((unhide HG0).below (unhide HB))
      go_upto_region 18 with fail
      go_cut [16] (fun r7 wr => r7 = .int .i64 0 ∧ ∃ e1 k1 f1 e2 k2 f2, Var wr pQ false e1 k1 f1 e2 k2 f2 [] [vq] ∧ But (fun y => y = pQ) U8 wr)
      case first => as_aux_lemma =>
        have hK0 : Below U8.heap.size U8 U8 := Below.refl _ _
        have HKEEP : ∀ wx, Below U8.heap.size U8 wx → Below U8.heap.size U8 wx ∧ (wx.cell? ⟨pB, 0, none⟩ = some (.bool false) ∧ wx.cell? ⟨pB, 1, none⟩ = some (.slice (some ⟨g1B, 0, none⟩) 1 1) ∧ wx.cell? ⟨pB, 2, none⟩ = some (.slice (some ⟨g2B, 0, none⟩) m2 d2B)) := fun wx hwx => ⟨hwx, ((unhide XB).below hwx).cells⟩
        obtain ⟨_, ⟨xB0, xB1, xB2⟩⟩ := HKEEP _ (Below.refl _ _)
        go_wp2_with (first
          | (go_at_call_of 11 (Value.slice (some ⟨g1B, 0, none⟩) 1 1); refine (lwArray_src false (some ⟨g1B, 0, none⟩) (some ⟨g2B, 0, none⟩) 1 m2 1 d2B [(m2 : Int)] dt' _ (Src.of ((unhide XB).r1.below (Nat.le_refl _) (by first | exact hK0 | exact hK0.alloc hK0.size _ | exact ((Below.refl _ _).alloc (Nat.le_refl _) _).drew))) (Src.of ((unhide XB).r2.below (Nat.le_refl _) (by first | exact hK0 | exact hK0.alloc hK0.size _ | exact ((Below.refl _ _).alloc (Nat.le_refl _) _).drew))) (by omega) (by omega)).mono ?_; rintro e w1 ⟨ga1, gb1, da1, db1, rfl, hA1, hB1, hu1, hv1, hb1⟩; have hK1 : Below U8.heap.size U8 w1 := (by first | exact hK0.trans (hb1.mono hK0.size) | exact (hK0.alloc hK0.size _).trans (hb1.mono (by have := hK0.size; simp; omega)) | exact (((Below.refl _ _).alloc (Nat.le_refl _) _).drew).trans (hb1.mono (by simp))); have hA1_1 := hA1.row; have hB1_1 := hB1.row; obtain ⟨_, ⟨xB0, xB1, xB2⟩⟩ := HKEEP _ hK1)
          | (go_at_call 34; refine (implFold_any op false ⟨ga1, 0, none⟩ ⟨gb1, 0, none⟩ _ _ _ _ [(m2 : Int)] dt' false _ (by first | exact hA1_1 | exact hA1_1.alloc _) (by first | exact hB1_1 | exact hB1_1.alloc _) hu1 ga gb ((unhide HG).below (by first | exact hK1 | exact hK1.alloc hK1.size _))).mono ?_; rintro e w2 ⟨e1, k1, f1, e2, k2, f2, rfl, hE1, hE2, _, hb2⟩; have hF1 := hE1.row; have hF2 := hE2.row; clear hE1 hE2; (have HR' := unhide HRQ; rw [HR'] at hF1 hF2 ⊢; simp only at hF1 hF2 ⊢; clear HR'); have hK2 : Below U8.heap.size U8 w2 := (by first | exact hK1.trans (hb2.mono hK1.size) | exact (hK1.alloc hK1.size _).trans (hb2.mono (by have := hK1.size; simp; omega))); obtain ⟨u0, u1, u2, u3, u4, u5, u6⟩ := ((unhide XQ).box.below (Nat.le_refl _) hK2).free'))
        go_meet
        case rel => exact ⟨rfl, _, _, _, _, _, _, Var.put ((unhide XQ).box.below (Nat.le_refl _) hK2) hF1 hF2, ((((But.of_below (S := fun y => y = pQ) hK2).setCell (p := ⟨pQ, 0, none⟩) rfl _).setCell (p := ⟨pQ, 1, none⟩) rfl _).setCell (p := ⟨pQ, 2, none⟩) rfl _)⟩
      case rest =>
      obtain ⟨U9, hwc⟩ : ∃ x, x = wc := ⟨_, rfl⟩
      subst hwc
      obtain ⟨rfl, e1Qn, k1Qn, f1Qn, e2Qn, k2Qn, f2Qn, hv, hK⟩ := hcut
      have T_A := hide ((unhide XA).but (unhide XQ).box hK hneAQ)
      have T_B := hide ((unhide XB).but (unhide XQ).box hK hneBQ)
      have T_C := hide ((unhide XC).but (unhide XQ).box hK hneCQ)
      have T_P := hide ((unhide XP).but (unhide XQ).box hK hnePQ)
      have T_T := hide ((unhide XT).but (unhide XQ).box hK hneTQ)
      have T_HB := hide ((unhide HB).trans (hK.below (unhide HB).size (fun y hy => by rw [hy]; exact hlowQ)))
      clear HB XA XB XC XP XT HG XQ
      have XA := T_A
      clear T_A
      have XB := T_B
      clear T_B
      have XC := T_C
      clear T_C
      have XP := T_P
      clear T_P
      have XT := T_T
      clear T_T
      have HB := T_HB
      clear T_HB
      have XQ := hide hv
      clear hv hK
      have HG := hide ((unhide HG0).below (unhide HB))
      have hk1P : k1Pn ≤ 1 := by have := (unhide XP).r1.len; simp at this; omega
      have hk1Q : k1Qn ≤ 1 := by have := (unhide XQ).r1.len; simp at this; omega
      go_upto_region 19 with fail
      go_cut [21, 18] (fun r6 r7 wr => r7 = .int .i64 0 ∧ ∃ p e1 k1 f1 e2 k2 f2, r6 = .pointer (some ⟨p, 0, none⟩) ∧ Var wr p false e1 k1 f1 e2 k2 f2 [] [v] ∧ Below U9.heap.size U9 wr)
      case first => as_aux_lemma =>
        have hK0 : Below U9.heap.size U9 U9 := Below.refl _ _
        have HKEEP : ∀ wx, Below U9.heap.size U9 wx → Below U9.heap.size U9 wx ∧ (wx.cell? ⟨pP, 0, none⟩ = some (.bool false) ∧ wx.cell? ⟨pP, 1, none⟩ = some (.slice e1Pn k1Pn f1Pn) ∧ wx.cell? ⟨pP, 2, none⟩ = some (.slice e2Pn k2Pn f2Pn)) ∧ (wx.cell? ⟨pQ, 0, none⟩ = some (.bool false) ∧ wx.cell? ⟨pQ, 1, none⟩ = some (.slice e1Qn k1Qn f1Qn) ∧ wx.cell? ⟨pQ, 2, none⟩ = some (.slice e2Qn k2Qn f2Qn)) := fun wx hwx => ⟨hwx, ((unhide XP).below hwx).cells, ((unhide XQ).below hwx).cells⟩
        obtain ⟨_, ⟨xP0, xP1, xP2⟩, ⟨xQ0, xQ1, xQ2⟩⟩ := HKEEP _ (Below.refl _ _)
        go_wp2_with (first
          | (go_at_call 13; refine (implScalar2_any op false false e1Pn e2Pn e1Qn e2Qn _ _ _ _ _ _ _ _ [] [vp] [] [vq] _ ((unhide XP).r1.below (Nat.le_refl _) (by first | exact hK0 | exact hK0.alloc hK0.size _ | exact ((Below.refl _ _).alloc (Nat.le_refl _) _).drew)) ((unhide XP).r2.below (Nat.le_refl _) (by first | exact hK0 | exact hK0.alloc hK0.size _ | exact ((Below.refl _ _).alloc (Nat.le_refl _) _).drew)) ((unhide XQ).r1.below (Nat.le_refl _) (by first | exact hK0 | exact hK0.alloc hK0.size _ | exact ((Below.refl _ _).alloc (Nat.le_refl _) _).drew)) ((unhide XQ).r2.below (Nat.le_refl _) (by first | exact hK0 | exact hK0.alloc hK0.size _ | exact ((Below.refl _ _).alloc (Nat.le_refl _) _).drew)) ga gb (GlF.gl ((unhide HG).below (by first | exact hK0 | exact hK0.alloc hK0.size _ | exact ((Below.refl _ _).alloc (Nat.le_refl _) _).drew)))).mono ?_; rintro e w1 ⟨e1, k1, f1, e2, k2, f2, rfl, hE1, hE2, _, hb1⟩; have hF1 := hE1.row; have hF2 := hE2.row; clear hE1 hE2; (have HR' := unhide HES; rw [HR'] at hF1 hF2 ⊢; simp only at hF1 hF2 ⊢; clear HR'); have hK1 : Below U9.heap.size U9 w1 := (by first | exact hK0.trans (hb1.mono hK0.size) | exact (hK0.alloc hK0.size _).trans (hb1.mono (by have := hK0.size; simp; omega)) | exact (((Below.refl _ _).alloc (Nat.le_refl _) _).drew).trans (hb1.mono (by simp)))))
        all_goals (go_meet; case rel => first | exact ⟨rfl, _, _, _, _, _, _, _, rfl, Var.new hF1 hF2, hK1.alloc hK1.size _⟩)
      case rest =>
      obtain ⟨U10, hwc⟩ : ∃ x, x = wc := ⟨_, rfl⟩
      subst hwc
      obtain ⟨rfl, pS, e1S, k1S, f1S, e2S, k2S, f2S, rfl, hv, hK⟩ := hcut
      have T_A := hide ((unhide XA).below hK)
      have T_B := hide ((unhide XB).below hK)
      have T_C := hide ((unhide XC).below hK)
      have T_T := hide ((unhide XT).below hK)
      have T_HG := hide ((unhide HG).below hK)
      have T_HB := hide ((unhide HB).trans (hK.mono (unhide HB).size))
      clear XP XQ HB XA XB XC XT HG
      have XA := T_A
      clear T_A
      have XB := T_B
      clear T_B
      have XC := T_C
      clear T_C
      have XT := T_T
      clear T_T
      have HG := T_HG
      clear T_HG
      have HB := T_HB
      clear T_HB
      have XS := hide hv
      clear hv hK
      have HCT := hide (vec_cat (d := false) (unhide HLA) (unhide HLB) (by rw [unhide HNN]; omega) (unhide HDA) (unhide HDB))
      rw [unhide HNN] at HCT
      as_aux_lemma =>
        go_upto_region 20 with fail
        go_cut [22, 23] (fun r6 r7 wr => r7 = .int .i64 0 ∧ ∃ p e1 k1 f1 e2 k2 f2, r6 = .pointer (some ⟨p, 0, none⟩) ∧ Var wr p false e1 k1 f1 e2 k2 f2 [(N : Int)] (dt ++ dt') ∧ Below U10.heap.size U10 wr)
        case first => as_aux_lemma =>
          have hK0 : Below U10.heap.size U10 U10.drew := (Below.refl _ _).drew
          have HKEEP : ∀ wx, Below U10.heap.size U10 wx → Below U10.heap.size U10 wx ∧ (wx.cell? ⟨pA, 0, none⟩ = some (.bool false) ∧ wx.cell? ⟨pA, 1, none⟩ = some (.slice (some ⟨g1A, 0, none⟩) 1 1) ∧ wx.cell? ⟨pA, 2, none⟩ = some (.slice (some ⟨g2A, 0, none⟩) n2 d2A)) ∧ (wx.cell? ⟨pB, 0, none⟩ = some (.bool false) ∧ wx.cell? ⟨pB, 1, none⟩ = some (.slice (some ⟨g1B, 0, none⟩) 1 1) ∧ wx.cell? ⟨pB, 2, none⟩ = some (.slice (some ⟨g2B, 0, none⟩) m2 d2B)) := fun wx hwx => ⟨hwx, ((unhide XA).below hwx).cells, ((unhide XB).below hwx).cells⟩
          obtain ⟨_, ⟨xA0, xA1, xA2⟩, ⟨xB0, xB1, xB2⟩⟩ := HKEEP _ (Below.refl _ _)
          go_region_held (fun wx => Below U10.heap.size U10 wx ∧ (wx.cell? ⟨pA, 0, none⟩ = some (.bool false) ∧ wx.cell? ⟨pA, 1, none⟩ = some (.slice (some ⟨g1A, 0, none⟩) 1 1) ∧ wx.cell? ⟨pA, 2, none⟩ = some (.slice (some ⟨g2A, 0, none⟩) n2 d2A)) ∧ (wx.cell? ⟨pB, 0, none⟩ = some (.bool false) ∧ wx.cell? ⟨pB, 1, none⟩ = some (.slice (some ⟨g1B, 0, none⟩) 1 1) ∧ wx.cell? ⟨pB, 2, none⟩ = some (.slice (some ⟨g2B, 0, none⟩) m2 d2B))) (first | exact HKEEP _ hK3 | exact HKEEP _ (((hK3.setCell (by have z0 := hK0.size; have z1 := hK1.size; have z2 := hK2.size; have z3 := hK3.size; simp <;> omega) _).setCell (by have z0 := hK0.size; have z1 := hK1.size; have z2 := hK2.size; have z3 := hK3.size; simp <;> omega) _).setCell (by have z0 := hK0.size; have z1 := hK1.size; have z2 := hK2.size; have z3 := hK3.size; simp <;> omega) _) | exact HKEEP _ (hK3.alloc hK3.size _) | exact HKEEP _ hK2 | exact HKEEP _ (hK2.alloc hK2.size _) | exact HKEEP _ hK1 | exact HKEEP _ (hK1.alloc hK1.size _) | exact HKEEP _ hK0 | exact HKEEP _ (hK0.alloc hK0.size _) | exact HKEEP _ ((Below.refl _ _).alloc (Nat.le_refl _) _).drew)
            (first
              | (go_at_call_of 11 (Value.slice (some ⟨g1A, 0, none⟩) 1 1); refine (lwArray_src false (some ⟨g1A, 0, none⟩) (some ⟨g2A, 0, none⟩) 1 n2 1 d2A [(n2 : Int)] dt _ (Src.of ((unhide XA).r1.below (Nat.le_refl _) (by first | exact hK0 | exact hK0.alloc hK0.size _ | exact ((Below.refl _ _).alloc (Nat.le_refl _) _).drew))) (Src.of ((unhide XA).r2.below (Nat.le_refl _) (by first | exact hK0 | exact hK0.alloc hK0.size _ | exact ((Below.refl _ _).alloc (Nat.le_refl _) _).drew))) (by omega) (by omega)).mono ?_; rintro e w1 ⟨ga1, gb1, da1, db1, rfl, hA1, hB1, hu1, hv1, hb1⟩; have hK1 : Below U10.heap.size U10 w1 := (by first | exact hK0.trans (hb1.mono hK0.size) | exact (hK0.alloc hK0.size _).trans (hb1.mono (by have := hK0.size; simp; omega)) | exact (((Below.refl _ _).alloc (Nat.le_refl _) _).drew).trans (hb1.mono (by simp))); (first | have hP1 := (Box.new _ _ _ _).below (Nat.le_refl _) hb1 | have hP1 := (Box.new _ _ _ _).drew.below (Nat.le_refl _) hb1 | skip); have hA1_1 := hA1.row; have hB1_1 := hB1.row; obtain ⟨_, ⟨xA0, xA1, xA2⟩, ⟨xB0, xB1, xB2⟩⟩ := HKEEP _ hK1)
              | (go_at_call_of 11 (Value.slice (some ⟨g1B, 0, none⟩) 1 1); refine (lwArray_src false (some ⟨g1B, 0, none⟩) (some ⟨g2B, 0, none⟩) 1 m2 1 d2B [(m2 : Int)] dt' _ (Src.of ((unhide XB).r1.below (Nat.le_refl _) (by first | exact hK1 | exact hK1.alloc hK1.size _))) (Src.of ((unhide XB).r2.below (Nat.le_refl _) (by first | exact hK1 | exact hK1.alloc hK1.size _))) (by omega) (by omega)).mono ?_; rintro e w2 ⟨ga2, gb2, da2, db2, rfl, hA2, hB2, hu2, hv2, hb2⟩; have hK2 : Below U10.heap.size U10 w2 := (by first | exact hK1.trans (hb2.mono hK1.size) | exact (hK1.alloc hK1.size _).trans (hb2.mono (by have := hK1.size; simp; omega))); (first | have hP2 := hP1.below (Nat.le_refl _) hb2 | have hP2 := (Box.new _ _ _ _).below (Nat.le_refl _) hb2 | have hP2 := (Box.new _ _ _ _).drew.below (Nat.le_refl _) hb2 | skip); have hA1_2 : Row w2 (some ⟨ga1, 0, none⟩) 1 [(n2 : Int)] := (by first | exact hA1_1.below (Nat.le_refl _) hb2 | exact (hA1_1.alloc _).below (Nat.le_refl _) hb2); have hB1_2 : Row w2 (some ⟨gb1, 0, none⟩) n2 dt := (by first | exact hB1_1.below (Nat.le_refl _) hb2 | exact (hB1_1.alloc _).below (Nat.le_refl _) hb2); have hA2_2 := hA2.row; have hB2_2 := hB2.row; obtain ⟨_, ⟨xA0, xA1, xA2⟩, ⟨xB0, xB1, xB2⟩⟩ := HKEEP _ hK2)
              | (go_at_call 35; refine (implCatenate_any false false ⟨ga1, 0, none⟩ ⟨gb1, 0, none⟩ ⟨ga2, 0, none⟩ ⟨gb2, 0, none⟩ 1 n2 1 m2 _ _ _ _ [(n2 : Int)] dt [(m2 : Int)] dt' _ (by first | exact hA1_2 | exact hA1_2.alloc _) (by first | exact hB1_2 | exact hB1_2.alloc _) (by first | exact hA2_2 | exact hA2_2.alloc _) (by first | exact hB2_2 | exact hB2_2.alloc _) hu1 hv1 hu2 hv2).mono ?_; rintro e w3 ⟨e1, k1, f1, e2, k2, f2, rfl, hE1, hE2, _, hb3⟩; have hF1 := hE1.row; have hF2 := hE2.row; clear hE1 hE2; (have HR' := unhide HCT; rw [HR'] at hF1 hF2 ⊢; simp only at hF1 hF2 ⊢; clear HR'); have hK3 : Below U10.heap.size U10 w3 := (by first | exact hK2.trans (hb3.mono hK2.size) | exact (hK2.alloc hK2.size _).trans (hb3.mono (by have := hK2.size; simp; omega))); (first | (have hP3 := hP2.below (Nat.le_refl _) hb3; obtain ⟨u0, u1, u2, u3, u4, u5, u6⟩ := hP3.free'; (try simp at u0 u1 u2 u3 u4 u5 u6)) | (have hP3 := (Box.new _ _ _ _).below (Nat.le_refl _) hb3; obtain ⟨u0, u1, u2, u3, u4, u5, u6⟩ := hP3.free'; (try simp at u0 u1 u2 u3 u4 u5 u6)) | (have hP3 := (Box.new _ _ _ _).drew.below (Nat.le_refl _) hb3; obtain ⟨u0, u1, u2, u3, u4, u5, u6⟩ := hP3.free'; (try simp at u0 u1 u2 u3 u4 u5 u6)) | skip)))
          all_goals go_wp2_with fail
          all_goals (go_meet; case rel => first | exact ⟨rfl, _, _, _, _, _, _, _, rfl, Var.new hF1 hF2, hK3.alloc hK3.size _⟩ | exact ⟨rfl, _, _, _, _, _, _, _, rfl, Var.put hP3 hF1 hF2, ((hK3.setCell (by have z0 := hK0.size; have z1 := hK1.size; have z2 := hK2.size; have z3 := hK3.size; simp <;> omega) _).setCell (by have z0 := hK0.size; have z1 := hK1.size; have z2 := hK2.size; have z3 := hK3.size; simp <;> omega) _).setCell (by have z0 := hK0.size; have z1 := hK1.size; have z2 := hK2.size; have z3 := hK3.size; simp <;> omega) _⟩)
        case rest =>
        obtain ⟨U11, hwc⟩ : ∃ x, x = wc := ⟨_, rfl⟩
        subst hwc
        obtain ⟨rfl, pJ, e1J, k1J, f1J, e2J, k2J, f2J, rfl, hv, hK⟩ := hcut
        have T_A := hide ((unhide XA).below hK)
        have T_B := hide ((unhide XB).below hK)
        have T_C := hide ((unhide XC).below hK)
        have T_T := hide ((unhide XT).below hK)
        have T_S := hide ((unhide XS).below hK)
        have T_HG := hide ((unhide HG).below hK)
        have T_HB := hide ((unhide HB).trans (hK.mono (unhide HB).size))
        clear HB XA XB XC XT XS HG
        have XA := T_A
        clear T_A
        have XB := T_B
        clear T_B
        have XC := T_C
        clear T_C
        have XT := T_T
        clear T_T
        have XS := T_S
        clear T_S
        have HG := T_HG
        clear T_HG
        have HB := T_HB
        clear T_HB
        have XJ := hide hv
        clear hv hK
        have hk1J : k1J ≤ 1 := by have := (unhide XJ).r1.len; simp at this; omega
        have hk2J : k2J ≤ 10000 := by have h1 := (unhide XJ).r2.len; have h2 := (unhide XC).r2.len; omega
        clear XA XB
        go_upto_region 21 with fail
        go_cut [24, 20] (fun r6 r7 wr => r7 = .int .i64 0 ∧ ∃ p e1 k1 f1 e2 k2 f2, r6 = .pointer (some ⟨p, 0, none⟩) ∧ Var wr p false e1 k1 f1 e2 k2 f2 [] [v] ∧ Below U11.heap.size U11 wr)
        case first => as_aux_lemma =>
          have hK0 : Below U11.heap.size U11 U11 := Below.refl _ _
          have HKEEP : ∀ wx, Below U11.heap.size U11 wx → Below U11.heap.size U11 wx ∧ (wx.cell? ⟨pJ, 0, none⟩ = some (.bool false) ∧ wx.cell? ⟨pJ, 1, none⟩ = some (.slice e1J k1J f1J) ∧ wx.cell? ⟨pJ, 2, none⟩ = some (.slice e2J k2J f2J)) := fun wx hwx => ⟨hwx, ((unhide XJ).below hwx).cells⟩
          obtain ⟨_, ⟨xJ0, xJ1, xJ2⟩⟩ := HKEEP _ (Below.refl _ _)
          go_wp2_with (first
            | (go_at_call_of 11 (Value.slice e1J k1J f1J); refine (lwArray_src false e1J e2J k1J k2J f1J f2J [(N : Int)] (dt ++ dt') _ (Src.of ((unhide XJ).r1.below (Nat.le_refl _) (by first | exact hK0 | exact hK0.alloc hK0.size _ | exact ((Below.refl _ _).alloc (Nat.le_refl _) _).drew))) (Src.of ((unhide XJ).r2.below (Nat.le_refl _) (by first | exact hK0 | exact hK0.alloc hK0.size _ | exact ((Below.refl _ _).alloc (Nat.le_refl _) _).drew))) (by omega) (by omega)).mono ?_; rintro e w1 ⟨ga1, gb1, da1, db1, rfl, hA1, hB1, hu1, hv1, hb1⟩; have hK1 : Below U11.heap.size U11 w1 := (by first | exact hK0.trans (hb1.mono hK0.size) | exact (hK0.alloc hK0.size _).trans (hb1.mono (by have := hK0.size; simp; omega)) | exact (((Below.refl _ _).alloc (Nat.le_refl _) _).drew).trans (hb1.mono (by simp))); have hA1_1 := hA1.row; have hB1_1 := hB1.row; obtain ⟨_, ⟨xJ0, xJ1, xJ2⟩⟩ := HKEEP _ hK1)
            | (go_at_call 34; refine (implFold_any op false ⟨ga1, 0, none⟩ ⟨gb1, 0, none⟩ _ _ _ _ [(N : Int)] (dt ++ dt') false _ (by first | exact hA1_1 | exact hA1_1.alloc _) (by first | exact hB1_1 | exact hB1_1.alloc _) hu1 ga gb ((unhide HG).below (by first | exact hK1 | exact hK1.alloc hK1.size _))).mono ?_; rintro e w2 ⟨e1, k1, f1, e2, k2, f2, rfl, hE1, hE2, _, hb2⟩; have hF1 := hE1.row; have hF2 := hE2.row; clear hE1 hE2; (have HR' := unhide HRT; rw [HR'] at hF1 hF2 ⊢; simp only at hF1 hF2 ⊢; clear HR'); have hK2 : Below U11.heap.size U11 w2 := (by first | exact hK1.trans (hb2.mono hK1.size) | exact (hK1.alloc hK1.size _).trans (hb2.mono (by have := hK1.size; simp; omega)))))
          all_goals (go_meet; case rel => first | exact ⟨rfl, _, _, _, _, _, _, _, rfl, Var.new hF1 hF2, hK2.alloc hK2.size _⟩)
        case rest =>
        obtain ⟨U12, hwc⟩ : ∃ x, x = wc := ⟨_, rfl⟩
        subst hwc
        obtain ⟨rfl, pG, e1G, k1G, f1G, e2G, k2G, f2G, rfl, hv, hK⟩ := hcut
        have T_C := hide ((unhide XC).below hK)
        have T_T := hide ((unhide XT).below hK)
        have T_S := hide ((unhide XS).below hK)
        have T_J := hide ((unhide XJ).below hK)
        have T_HG := hide ((unhide HG).below hK)
        have T_HB := hide ((unhide HB).trans (hK.mono (unhide HB).size))
        clear HB XC XT XS XJ HG
        have XC := T_C
        clear T_C
        have XT := T_T
        clear T_T
        have XS := T_S
        clear T_S
        have XJ := T_J
        clear T_J
        have HG := T_HG
        clear T_HG
        have HB := T_HB
        clear T_HB
        have XG := hide hv
        clear hv hK
        as_aux_lemma =>
          obtain ⟨x0, x1, x2⟩ := (unhide XG).cells
          obtain ⟨y0, y1, y2⟩ := (unhide XT).cells
          go_upto_region 24 with (first
            | (go_at_call_of 17 (Value.slice e1T k1T f1T); refine (eqArray_refl _ _ _ _ _ _ _ _ _ _ _ _ _ [] [v] _ (unhide XG).r1 (unhide XG).r2 (unhide XT).r1 (unhide XT).r2).mono ?_; rintro e wA ⟨rfl, hK⟩; have JG := hide ((unhide XG).below hK); have JS := hide ((unhide XS).below hK); have JC := hide ((unhide XC).below hK); have JJ := hide ((unhide XJ).below hK); have JB := hide ((unhide HB).trans (hK.mono (unhide HB).size)); clear hK x0 x1 x2 y0 y1 y2; obtain ⟨x0, x1, x2⟩ := (unhide JG).cells; obtain ⟨y0, y1, y2⟩ := (unhide JS).cells)
            | (go_at_call_of 17 (Value.slice e1S k1S f1S); refine (eqArray_refl _ _ _ _ _ _ _ _ _ _ _ _ _ [] [v] _ (unhide JS).r1 (unhide JS).r2 (unhide JG).r1 (unhide JG).r2).mono ?_; rintro e wB ⟨rfl, hK⟩; have LG := hide ((unhide JG).below hK); have LC := hide ((unhide JC).below hK); have LJ := hide ((unhide JJ).below hK); have LB := hide ((unhide JB).trans (hK.mono (unhide JB).size)); clear hK))
          clear XG XT XS XC XJ HB JG JS JC JJ JB HG x0 x1 x2 y0 y1 y2
          have XG := LG
          have XC := LC
          have XJ := LJ
          have HB := LB
          clear LG LC LJ LB
          have HG := hide ((unhide HG0).below (unhide HB))
          obtain ⟨U13, hU13⟩ : ∃ x, x = wB := ⟨_, rfl⟩
          subst hU13
          obtain ⟨zc, zsh, zdt, cZ, hrz⟩ : ∃ rc rsh rdt rp, scan op false [(N : Int)] (dt ++ dt') false = ⟨rc, rsh, rdt, rp⟩ := ⟨_, _, _, _, rfl⟩
          have HRZ := hide hrz
          clear hrz
          go_cut [25, 26] (fun r6 r7 wr => r7 = .int .i64 cZ ∧ ∃ p e1 k1 f1 e2 k2 f2, r6 = .pointer (some ⟨p, 0, none⟩) ∧ Var wr p zc e1 k1 f1 e2 k2 f2 zsh zdt ∧ Below U13.heap.size U13 wr)
          case first => as_aux_lemma =>
            have hK0 : Below U13.heap.size U13 U13 := Below.refl _ _
            have HKEEP : ∀ wx, Below U13.heap.size U13 wx → Below U13.heap.size U13 wx ∧ (wx.cell? ⟨pC, 0, none⟩ = some (.bool false) ∧ wx.cell? ⟨pC, 1, none⟩ = some (.slice (some ⟨g1C, 0, none⟩) 1 1) ∧ wx.cell? ⟨pC, 2, none⟩ = some (.slice (some ⟨g2C, 0, none⟩) N d2C)) := fun wx hwx => ⟨hwx, ((unhide XC).below hwx).cells⟩
            obtain ⟨_, ⟨xC0, xC1, xC2⟩⟩ := HKEEP _ (Below.refl _ _)
            go_wp2_with (first
              | (go_at_call 36; refine (Scan_any op false ⟨g1C, 0, none⟩ ⟨g2C, 0, none⟩ 1 N 1 d2C [(N : Int)] (dt ++ dt') false _ ((unhide XC).r1.below (Nat.le_refl _) (by first | exact hK0 | exact hK0.alloc hK0.size _ | exact ((Below.refl _ _).alloc (Nat.le_refl _) _).drew)) ((unhide XC).r2.below (Nat.le_refl _) (by first | exact hK0 | exact hK0.alloc hK0.size _ | exact ((Below.refl _ _).alloc (Nat.le_refl _) _).drew))).mono ?_; rintro e w1 ⟨e1, k1, f1, e2, k2, f2, rfl, hF1, hF2, hb1⟩; (have HR' := unhide HRZ; rw [HR'] at hF1 hF2 ⊢; simp only at hF1 hF2 ⊢; clear HR'); have hK1 : Below U13.heap.size U13 w1 := (by first | exact hK0.trans (hb1.mono hK0.size) | exact (hK0.alloc hK0.size _).trans (hb1.mono (by have := hK0.size; simp; omega)) | exact (((Below.refl _ _).alloc (Nat.le_refl _) _).drew).trans (hb1.mono (by simp)))))
            all_goals (go_meet; case rel => first | exact ⟨rfl, _, _, _, _, _, _, _, rfl, Var.new hF1 hF2, hK1.alloc hK1.size _⟩)
          case rest =>
          obtain ⟨U14, hwc⟩ : ∃ x, x = wc := ⟨_, rfl⟩
          subst hwc
          obtain ⟨rfl, pZ, e1Z, k1Z, f1Z, e2Z, k2Z, f2Z, rfl, hv, hK⟩ := hcut
          have T_C := hide ((unhide XC).below hK)
          have T_G := hide ((unhide XG).below hK)
          have T_J := hide ((unhide XJ).below hK)
          have T_HG := hide ((unhide HG).below hK)
          have T_HB := hide ((unhide HB).trans (hK.mono (unhide HB).size))
          clear HB XC XG XJ HG
          have XC := T_C
          clear T_C
          have XG := T_G
          clear T_G
          have XJ := T_J
          clear T_J
          have HG := T_HG
          clear T_HG
          have HB := T_HB
          clear T_HB
          have XZ := hide hv
          clear hv hK
          clear XZ
          obtain ⟨x0, x1, x2⟩ := (unhide XC).cells
          by_cases hzcZ : cZ = 0
          rotate_left
          · have gz : (cZ != 0) = true := by simp [hzcZ]
            clear hzcZ
            go_wp2_with fail
            exact bodyPost_ret (v := .bool true) (by simp [results, Tryz.results7, go_sem]) rfl ⟨rfl, unhide HB⟩
          subst hzcZ
          by_cases hN0 : N = 0
          · have g3 : ((N : Int) == 0) = true := by simp [hN0]
            clear hN0
            go_wp2_with fail
            exact bodyPost_ret (v := .bool true) (by simp [results, Tryz.results7, go_sem]) rfl ⟨rfl, unhide HB⟩
          have g3 : ((N : Int) == 0) = false := by simp; omega
          obtain ⟨M, hM⟩ : ∃ M : Nat, M + 1 = N := ⟨N - 1, by omega⟩
          obtain ⟨zs, ezs, hzl, hlast⟩ := (unhide HSC) M hM (by rw [unhide HRZ])
          have HZL := hide hzl
          have e3 : (⟨zc, zsh, zdt, 0⟩ : Ans) = ⟨false, [(N : Int)], zs, 0⟩ := (unhide HRZ).symm.trans ezs
          cases e3
          have HLAST := hide hlast
          have HM := hide hM
          clear ezs hlast hM hN0 hzl
          as_aux_lemma =>
            go_upto_region 27 with fail
            clear x0 x1 x2 g3
            go_cut [27, 26] (fun r6 r7 wr => r7 = .int .i64 0 ∧ ∃ p e1 k1 f1 e2 k2 f2, r6 = .pointer (some ⟨p, 0, none⟩) ∧ Var wr p false e1 k1 f1 e2 k2 f2 [(N : Int)] zdt ∧ Below U14.heap.size U14 wr)
            case first => as_aux_lemma =>
              have hK0 : Below U14.heap.size U14 U14 := Below.refl _ _
              have HKEEP : ∀ wx, Below U14.heap.size U14 wx → Below U14.heap.size U14 wx ∧ (wx.cell? ⟨pJ, 0, none⟩ = some (.bool false) ∧ wx.cell? ⟨pJ, 1, none⟩ = some (.slice e1J k1J f1J) ∧ wx.cell? ⟨pJ, 2, none⟩ = some (.slice e2J k2J f2J)) := fun wx hwx => ⟨hwx, ((unhide XJ).below hwx).cells⟩
              obtain ⟨_, ⟨xJ0, xJ1, xJ2⟩⟩ := HKEEP _ (Below.refl _ _)
              go_wp2_with (first
                | (go_at_call_of 11 (Value.slice e1J k1J f1J); refine (lwArray_src false e1J e2J k1J k2J f1J f2J [(N : Int)] (dt ++ dt') _ (Src.of ((unhide XJ).r1.below (Nat.le_refl _) (by first | exact hK0 | exact hK0.alloc hK0.size _ | exact ((Below.refl _ _).alloc (Nat.le_refl _) _).drew))) (Src.of ((unhide XJ).r2.below (Nat.le_refl _) (by first | exact hK0 | exact hK0.alloc hK0.size _ | exact ((Below.refl _ _).alloc (Nat.le_refl _) _).drew))) (by omega) (by omega)).mono ?_; rintro e w1 ⟨ga1, gb1, da1, db1, rfl, hA1, hB1, hu1, hv1, hb1⟩; have hK1 : Below U14.heap.size U14 w1 := (by first | exact hK0.trans (hb1.mono hK0.size) | exact (hK0.alloc hK0.size _).trans (hb1.mono (by have := hK0.size; simp; omega)) | exact (((Below.refl _ _).alloc (Nat.le_refl _) _).drew).trans (hb1.mono (by simp))); have hA1_1 := hA1.row; have hB1_1 := hB1.row; obtain ⟨_, ⟨xJ0, xJ1, xJ2⟩⟩ := HKEEP _ hK1)
                | (go_at_call 37; refine (implScan_any op false ⟨ga1, 0, none⟩ ⟨gb1, 0, none⟩ _ _ _ _ [(N : Int)] (dt ++ dt') false _ (by first | exact hA1_1 | exact hA1_1.alloc _) (by first | exact hB1_1 | exact hB1_1.alloc _) hu1 ga gb ((unhide HG).below (by first | exact hK1 | exact hK1.alloc hK1.size _))).mono ?_; rintro e w2 ⟨e1, k1, f1, e2, k2, f2, rfl, hE1, hE2, _, hb2⟩; have hF1 := hE1.row; have hF2 := hE2.row; clear hE1 hE2; (have HR' := unhide HRZ; rw [HR'] at hF1 hF2 ⊢; simp only at hF1 hF2 ⊢; clear HR'); have hK2 : Below U14.heap.size U14 w2 := (by first | exact hK1.trans (hb2.mono hK1.size) | exact (hK1.alloc hK1.size _).trans (hb2.mono (by have := hK1.size; simp; omega)))))
              all_goals (go_meet; case rel => first | exact ⟨rfl, _, _, _, _, _, _, _, rfl, Var.new hF1 hF2, hK2.alloc hK2.size _⟩)
            case rest =>
            obtain ⟨U15, hwc⟩ : ∃ x, x = wc := ⟨_, rfl⟩
            subst hwc
            obtain ⟨rfl, pK, e1K, k1K, f1K, e2K, k2K, f2K, rfl, hv, hK⟩ := hcut
            have T_C := hide ((unhide XC).below hK)
            have T_G := hide ((unhide XG).below hK)
            have T_J := hide ((unhide XJ).below hK)
            have T_HG := hide ((unhide HG).below hK)
            have T_HB := hide ((unhide HB).trans (hK.mono (unhide HB).size))
            clear HB XC XG XJ HG
            have XC := T_C
            clear T_C
            have XG := T_G
            clear T_G
            have XJ := T_J
            clear T_J
            have HG := T_HG
            clear T_HG
            have HB := T_HB
            clear T_HB
            have XK := hide hv
            clear hv hK
            have hkN : N = k2K := by have h1 := (unhide XK).r2.len; have h2 := unhide HZL; omega
            have hMk : M < k2K := by have := unhide HM; omega
            obtain ⟨bK, oK, eK, hbK, hcK⟩ := (unhide XK).r2.get hMk
            cases eK
            rw [unhide HLAST] at hcK
            have hk2G : 0 < k2G := by have := (unhide XG).r2.len; simp at this; omega
            obtain ⟨bG, oG, eG, hbG, hcG⟩ := (unhide XG).r2.get hk2G
            cases eG
            rw [Nat.add_zero, show ([v] : List Int).getD 0 0 = v from rfl] at hcG
            have g1 : ((k2K : Int) == (N : Int)) = true := by simp; omega
            have hwM : IntKind.i64.wrap ((k2K : Int) - 1) = (M : Int) := by have := unhide HM; rw [IntKind.wrap_i64]; omega
            have hMz : (M : Int) < (k2K : Int) := by omega
            have hGz : (0 : Int) < (k2G : Int) := by omega
            obtain ⟨x0, x1, x2⟩ := (unhide XK).cells
            obtain ⟨y0, y1, y2⟩ := (unhide XC).cells
            obtain ⟨z0, z1, z2⟩ := (unhide XG).cells
            clear hkN hMk hk2G HM HLAST
            go_wp2_with fail
            go_big_quiet (fail)
            go_wp2_with fail
            exact bodyPost_ret (v := .bool true) (by simp [results, Tryz.results7, go_sem]) rfl ⟨rfl, Below.drewN (unhide HB) _⟩

end Go.Proofs.YtkgcmpmgaghdhaaGreatDoor
