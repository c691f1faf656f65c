import Derived.Test.YtkgcmpmgaghdhaaGreatDoorMFit0
import Derived.Test.YtkgcmpmgaghdhaaGreatDoorMFit1
import Derived.Test.YtkgcmpmgaghdhaaGreatDoorMFit1
import Derived.Test.YtkgcmpmgaghdhaaGreatDoorMFit1
import Derived.Test.YtkgcmpmgaghdhaaGreatDoorMFit1
import Derived.Test.YtkgcmpmgaghdhaaGreatDoorMFit0
import Derived.Test.YtkgcmpmgaghdhaaGreatDoorMFit2
import Derived.Test.YtkgcmpmgaghdhaaGreatDoorImplDecodeW
import Derived.Test.YtkgcmpmgaghdhaaGreatDoorSpecScalar2
import Derived.Test.YtkgcmpmgaghdhaaGreatDoorImplScalar2W
import Derived.Test.YtkgcmpmgaghdhaaGreatDoorMFit0
import Derived.Deep.RegionHeld
import Derived.Deep.DeepCutAuto
namespace Go.Proofs.YtkgcmpmgaghdhaaGreatDoor
open Go.RowKit

set_option maxRecDepth 20000 in
set_option maxHeartbeats 16000000 in
theorem law_Digits (ga gb : Addr) (a : Option Addr) (n cn : Nat) (w : World) (hby : Bytes w a n) (hc : n ≤ cn) (hn : n ≤ 1048576) (hG : Gl w ga gb) :
    Calls Tryz.prog 5 #[.slice a n cn] w fun e w' => e = .returned (.bool true) ∧ Below w.heap.size w w' := by
  have hcall := DrawEncode_any a n cn w hby hc hn
  have hnz : ¬ (1048576 : Int) < (n : Int) := by omega
  have HG0 := hide hG
  clear hby hc hG
  go_enter Tryz.func5, Tryz.ntmps5
  go_upto_region 4 with (go_at_call 23; refine hcall.mono ?_; rintro e w1 ⟨c, d, a1, a2, b1, b2, n1, n2, m1, m2, c1, c2, d1, d2, sh, dt, sh', dt', rfl, r1, r2, q1, q2, h1, h2, h3, h4, hb1⟩; have R1 := hide r1; have R2 := hide r2; have Q1 := hide q1; have Q2 := hide q2; have HB1 := hide hb1; clear r1 r2 q1 q2 hb1)
  clear hcall
  obtain ⟨W, hW⟩ : ∃ W, W = (w1.alloc (.cells #[.bool c, .slice (some a1) n1 c1, .slice (some a2) n2 c2] 25)).alloc (.cells #[.bool d, .slice (some b1) m1 d1, .slice (some b2) m2 d2] 25) := ⟨_, rfl⟩
  obtain ⟨pA, hpA⟩ : ∃ P, P = w1.heap.size := ⟨_, rfl⟩
  obtain ⟨pB, hpB⟩ : ∃ P, P = w1.heap.size + 1 := ⟨_, rfl⟩
  have XA : Hid (Var W pA c (some a1) n1 c1 (some a2) n2 c2 sh dt) := by
    rw [hW, hpA]; exact (Var.new (unhide R1) (unhide R2)).below ((Below.refl _ _).alloc (Nat.le_refl _) _)
  have XB : Hid (Var W pB d (some b1) m1 d1 (some b2) m2 d2 sh' dt') := by
    rw [hW, hpB]
    have := Var.new (c := d) (f1 := d1) (f2 := d2) ((unhide Q1).alloc (.cells #[.bool c, .slice (some a1) n1 c1, .slice (some a2) n2 c2] 25)) ((unhide Q2).alloc (.cells #[.bool c, .slice (some a1) n1 c1, .slice (some a2) n2 c2] 25))
    rwa [World.size_alloc] at this
  have HB : Hid (Below w.heap.size w W) := by rw [hW]; exact ((unhide HB1).alloc (unhide HB1).size _).alloc (by have := (unhide HB1).size; simp; omega) _
  have HG : Hid (Gl W ga gb) := (unhide HG0).below (unhide HB)
  rw [← hW, ← hpB, ← hpA]
  clear hW hpA hpB R1 R2 Q1 Q2 HB1 HG0
  obtain ⟨r, hr⟩ : ∃ r, arrOk c sh dt = r := ⟨_, rfl⟩
  have HR := hide hr
  obtain ⟨q, hq⟩ : ∃ q, arrOk d sh' dt' = q := ⟨_, rfl⟩
  have HQ := hide hq
  clear hr hq
  obtain ⟨x0, x1, x2⟩ := (unhide XA).cells
  obtain ⟨y0, y1, y2⟩ := (unhide XB).cells
  cases r with
  | false =>
    go_wp2_with (go_at_call 9; refine (ArrayOk_eq _ _ _ _ _ _ _ sh dt _ (unhide XA).r1 (unhide XA).r2 _ HR).mono ?_; rintro e w3 ⟨rfl, hb3⟩; have HB3 := hide ((unhide HB).trans (hb3.mono (unhide HB).size)); clear hb3)
    exact bodyPost_ret (v := .bool true) (by simp [results, Tryz.results5, go_sem]) rfl ⟨rfl, unhide HB3⟩
  | true =>
  cases q with
  | false =>
    go_wp2_with (first | (go_at_call_of 9 (Value.slice (some a1) n1 c1); refine (ArrayOk_eq _ _ _ _ _ _ _ sh dt _ (unhide XA).r1 (unhide XA).r2 _ HR).mono ?_; rintro e w3 ⟨rfl, hb3⟩; have HB3 := hide ((unhide HB).trans (hb3.mono (unhide HB).size)); have X3 := hide ((unhide XB).below hb3); obtain ⟨z0, z1, z2⟩ := (unhide X3).cells; have Y3 := hide ((unhide XA).below hb3); have G3 := hide ((unhide HG).below hb3); clear hb3) | (go_at_call_of 9 (Value.slice (some b1) m1 d1); refine (ArrayOk_eq _ _ _ _ _ _ _ sh' dt' _ (unhide X3).r1 (unhide X3).r2 _ HQ).mono ?_; rintro e w4 ⟨rfl, hb4⟩; have HB4 := hide ((unhide HB3).trans (hb4.mono (unhide HB3).size)); have Y4 := hide ((unhide Y3).below hb4); have X4 := hide ((unhide X3).below hb4); have G4 := hide ((unhide G3).below hb4); obtain ⟨u0, u1, u2⟩ := (unhide Y4).cells; obtain ⟨s0, s1, s2⟩ := (unhide X4).cells; clear hb4))
    exact bodyPost_ret (v := .bool true) (by simp [results, Tryz.results5, go_sem]) rfl ⟨rfl, unhide HB4⟩
  | true =>
  cases c with
  | true =>
    go_wp2_with (first | (go_at_call_of 9 (Value.slice (some a1) n1 c1); refine (ArrayOk_eq _ _ _ _ _ _ _ sh dt _ (unhide XA).r1 (unhide XA).r2 _ HR).mono ?_; rintro e w3 ⟨rfl, hb3⟩; have HB3 := hide ((unhide HB).trans (hb3.mono (unhide HB).size)); have X3 := hide ((unhide XB).below hb3); obtain ⟨z0, z1, z2⟩ := (unhide X3).cells; have Y3 := hide ((unhide XA).below hb3); have G3 := hide ((unhide HG).below hb3); clear hb3) | (go_at_call_of 9 (Value.slice (some b1) m1 d1); refine (ArrayOk_eq _ _ _ _ _ _ _ sh' dt' _ (unhide X3).r1 (unhide X3).r2 _ HQ).mono ?_; rintro e w4 ⟨rfl, hb4⟩; have HB4 := hide ((unhide HB3).trans (hb4.mono (unhide HB3).size)); have Y4 := hide ((unhide Y3).below hb4); have X4 := hide ((unhide X3).below hb4); have G4 := hide ((unhide G3).below hb4); obtain ⟨u0, u1, u2⟩ := (unhide Y4).cells; obtain ⟨s0, s1, s2⟩ := (unhide X4).cells; clear hb4))
    exact bodyPost_ret (v := .bool true) (by simp [results, Tryz.results5, go_sem]) rfl ⟨rfl, unhide HB4⟩
  | false =>
  cases d with
  | true =>
    go_wp2_with (first | (go_at_call_of 9 (Value.slice (some a1) n1 c1); refine (ArrayOk_eq _ _ _ _ _ _ _ sh dt _ (unhide XA).r1 (unhide XA).r2 _ HR).mono ?_; rintro e w3 ⟨rfl, hb3⟩; have HB3 := hide ((unhide HB).trans (hb3.mono (unhide HB).size)); have X3 := hide ((unhide XB).below hb3); obtain ⟨z0, z1, z2⟩ := (unhide X3).cells; have Y3 := hide ((unhide XA).below hb3); have G3 := hide ((unhide HG).below hb3); clear hb3) | (go_at_call_of 9 (Value.slice (some b1) m1 d1); refine (ArrayOk_eq _ _ _ _ _ _ _ sh' dt' _ (unhide X3).r1 (unhide X3).r2 _ HQ).mono ?_; rintro e w4 ⟨rfl, hb4⟩; have HB4 := hide ((unhide HB3).trans (hb4.mono (unhide HB3).size)); have Y4 := hide ((unhide Y3).below hb4); have X4 := hide ((unhide X3).below hb4); have G4 := hide ((unhide G3).below hb4); obtain ⟨u0, u1, u2⟩ := (unhide Y4).cells; obtain ⟨s0, s1, s2⟩ := (unhide X4).cells; clear hb4))
    exact bodyPost_ret (v := .bool true) (by simp [results, Tryz.results5, go_sem]) rfl ⟨rfl, unhide HB4⟩
  | false =>
  by_cases hn1 : 1 < n1
  · have g1 : decide ((1 : Int) < (n1 : Int)) = true := by simp; omega
    go_wp2_with (first | (go_at_call_of 9 (Value.slice (some a1) n1 c1); refine (ArrayOk_eq _ _ _ _ _ _ _ sh dt _ (unhide XA).r1 (unhide XA).r2 _ HR).mono ?_; rintro e w3 ⟨rfl, hb3⟩; have HB3 := hide ((unhide HB).trans (hb3.mono (unhide HB).size)); have X3 := hide ((unhide XB).below hb3); obtain ⟨z0, z1, z2⟩ := (unhide X3).cells; have Y3 := hide ((unhide XA).below hb3); have G3 := hide ((unhide HG).below hb3); clear hb3) | (go_at_call_of 9 (Value.slice (some b1) m1 d1); refine (ArrayOk_eq _ _ _ _ _ _ _ sh' dt' _ (unhide X3).r1 (unhide X3).r2 _ HQ).mono ?_; rintro e w4 ⟨rfl, hb4⟩; have HB4 := hide ((unhide HB3).trans (hb4.mono (unhide HB3).size)); have Y4 := hide ((unhide Y3).below hb4); have X4 := hide ((unhide X3).below hb4); have G4 := hide ((unhide G3).below hb4); obtain ⟨u0, u1, u2⟩ := (unhide Y4).cells; obtain ⟨s0, s1, s2⟩ := (unhide X4).cells; clear hb4))
    exact bodyPost_ret (v := .bool true) (by simp [results, Tryz.results5, go_sem]) rfl ⟨rfl, unhide HB4⟩
  by_cases hm2 : m2 = 0
  · have g1 : ¬ (1 < n1) := hn1
    have g2 : ((m2 : Int) == 0) = true := by simp [hm2]
    clear hm2
    go_wp2_with (first | (go_at_call_of 9 (Value.slice (some a1) n1 c1); refine (ArrayOk_eq _ _ _ _ _ _ _ sh dt _ (unhide XA).r1 (unhide XA).r2 _ HR).mono ?_; rintro e w3 ⟨rfl, hb3⟩; have HB3 := hide ((unhide HB).trans (hb3.mono (unhide HB).size)); have X3 := hide ((unhide XB).below hb3); obtain ⟨z0, z1, z2⟩ := (unhide X3).cells; have Y3 := hide ((unhide XA).below hb3); have G3 := hide ((unhide HG).below hb3); clear hb3) | (go_at_call_of 9 (Value.slice (some b1) m1 d1); refine (ArrayOk_eq _ _ _ _ _ _ _ sh' dt' _ (unhide X3).r1 (unhide X3).r2 _ HQ).mono ?_; rintro e w4 ⟨rfl, hb4⟩; have HB4 := hide ((unhide HB3).trans (hb4.mono (unhide HB3).size)); have Y4 := hide ((unhide Y3).below hb4); have X4 := hide ((unhide X3).below hb4); have G4 := hide ((unhide G3).below hb4); obtain ⟨u0, u1, u2⟩ := (unhide Y4).cells; obtain ⟨s0, s1, s2⟩ := (unhide X4).cells; clear hb4))
    exact bodyPost_ret (v := .bool true) (by simp [results, Tryz.results5, go_sem]) rfl ⟨rfl, unhide HB4⟩
  have g1 : ¬ (1 < n1) := hn1
  have g2 : ((m2 : Int) == 0) = false := by simp; omega
  have hm0 : 0 < m2 := by omega
  clear hm2 hn1
  go_upto_region 6 with (first | (go_at_call_of 9 (Value.slice (some a1) n1 c1); refine (ArrayOk_eq _ _ _ _ _ _ _ sh dt _ (unhide XA).r1 (unhide XA).r2 _ HR).mono ?_; rintro e w3 ⟨rfl, hb3⟩; have HB3 := hide ((unhide HB).trans (hb3.mono (unhide HB).size)); have X3 := hide ((unhide XB).below hb3); obtain ⟨z0, z1, z2⟩ := (unhide X3).cells; have Y3 := hide ((unhide XA).below hb3); have G3 := hide ((unhide HG).below hb3); clear hb3) | (go_at_call_of 9 (Value.slice (some b1) m1 d1); refine (ArrayOk_eq _ _ _ _ _ _ _ sh' dt' _ (unhide X3).r1 (unhide X3).r2 _ HQ).mono ?_; rintro e w4 ⟨rfl, hb4⟩; have HB4 := hide ((unhide HB3).trans (hb4.mono (unhide HB3).size)); have Y4 := hide ((unhide Y3).below hb4); have X4 := hide ((unhide X3).below hb4); have G4 := hide ((unhide G3).below hb4); obtain ⟨u0, u1, u2⟩ := (unhide Y4).cells; obtain ⟨s0, s1, s2⟩ := (unhide X4).cells; clear hb4))
  clear XA XB HB HG HB3 X3 Y3 G3 x0 x1 x2 y0 y1 y2 z0 z1 z2 u0 u1 u2 s0 s1 s2 g2
  have XA := Y4
  have XB := X4
  have HB := HB4
  have HG := G4
  clear Y4 X4 HB4 G4
  obtain ⟨x0, x1, x2⟩ := (unhide XA).cells
  have hlenA := (unhide XA).r2.len
  have hbdA : ∀ k, k < n2 → -1000000000000000 ≤ dt.getD k 0 ∧ dt.getD k 0 ≤ 1000000000000000 := fun k hk => dataOk_bdM (unhide HR) (by omega)
  have HBDA := hide hbdA
  have HLA := hide hlenA
  clear hlenA hbdA
  go_wp2_with fail
  go_loopw [5, 6] (fun v i wr => ∃ (k : Nat) (P : Int), k ≤ n2 ∧ i = .int .i64 (k : Nat) ∧ v = .int .i64 P ∧ Hid (P = pre dt k) ∧ Hid (∀ j, j < k → 1 ≤ dt.getD j 0) ∧ Hid (1 ≤ P ∧ P ≤ 1000000000000000) ∧ wr = w4) (fun _ i _ => n2 - (intOf i).toNat)
  case atStart => exact ⟨0, 1, Nat.zero_le _, rfl, rfl, hide rfl, fun j hj => absurd hj (Nat.not_lt_zero _), hide ⟨by decide, by decide⟩, rfl⟩
  case round =>
    obtain ⟨k, P, hk, rfl, rfl, hPk, hpos, hPb, rfl⟩ := hrel
    by_cases hlt : k < n2
    · have g2 : decide ((k : Int) < (n2 : Int)) = true := by simp; omega
      obtain ⟨b, off, eb, hltb, hcell⟩ := (unhide XA).r2.get hlt
      cases eb
      have hxb := unhide HBDA k hlt
      obtain ⟨x, hx⟩ : ∃ x, x = dt.getD k 0 := ⟨_, rfl⟩
      rw [← hx] at hcell hxb
      have HXK := hide hx
      clear hx
      by_cases hx1 : x < 1
      · have g3 : decide (x < 1) = true := by simpa using hx1
        go_wp2_with fail
        exact bodyPost_ret (v := .bool true) (by simp [results, Tryz.results5, go_sem]) rfl ⟨rfl, unhide HB⟩
      · have g3 : ¬ x < 1 := hx1
        have hx0 : ¬ x = 0 := by omega
        have hq : (1000000000000000 : Int).tdiv x < P ↔ 1000000000000000 < P * x := tdiv_lt (by omega)
        obtain ⟨tq, htq⟩ : ∃ t, (1000000000000000 : Int).tdiv x = t := ⟨_, rfl⟩
        rw [htq] at hq
        have htb : 0 ≤ tq ∧ tq ≤ 1000000000000000 := by
          rw [← htq, Int.tdiv_eq_ediv_of_nonneg (by omega)]
          exact ⟨Int.ediv_nonneg (by omega) (by omega), Int.ediv_le_self _ (by omega)⟩
        have hwq : IntKind.i64.wrap tq = tq := by rw [IntKind.wrap_i64]; omega
        have hPb' := unhide hPb
        by_cases hbig : tq < P
        · have g4 : decide (tq < P) = true := by simpa using hbig
          clear hq
          go_wp2_with fail
          exact bodyPost_ret (v := .bool true) (by simp [results, Tryz.results5, go_sem]) rfl ⟨rfl, unhide HB⟩
        · have g4 : ¬ tq < P := hbig
          have hle : P * x ≤ 1000000000000000 := by
            by_cases h' : 1000000000000000 < P * x
            · exact absurd (hq.mpr h') hbig
            · omega
          have hpx : P * 1 ≤ P * x := Int.mul_le_mul_of_nonneg_left (by omega) (by omega)
          obtain ⟨Y, hY⟩ : ∃ Y, P * x = Y := ⟨_, rfl⟩
          have hYe : Hid (Y = pre dt (k + 1)) := by show _ = _; rw [pre, ← unhide hPk, ← unhide HXK]; exact hY.symm
          rw [hY] at hle hpx
          have hw : IntKind.i64.wrap Y = Y := by rw [IntKind.wrap_i64]; omega
          have HYB : Hid (1 ≤ Y ∧ Y ≤ 1000000000000000) := hide ⟨by omega, hle⟩
          have HPS : Hid (∀ j, j < k + 1 → 1 ≤ dt.getD j 0) := fun j hj => by
            rcases Nat.lt_or_ge j k with h | h
            · exact unhide hpos j h
            · have : j = k := by omega
              subst this
              rw [← unhide HXK]; omega
          clear hq hpos hPk hPb
          go_wp2_with fail
          refine ⟨⟨k + 1, Y, by omega, by go_num, rfl, hYe, HPS, HYB, trivial⟩, ?_⟩
          simp [intOf]; omega
    · have g2 : ¬ k < n2 := hlt
      have hkn : k = n2 := by omega
      subst hkn
      clear hlt
      obtain ⟨W4, hW4⟩ : ∃ x, x = wr := ⟨_, rfl⟩
      subst hW4
      have HPP : Hid (P = pre dt dt.length) := by show _ = _; rw [unhide HLA]; exact unhide hPk
      have HPO : Hid (∀ j, j < dt.length → 1 ≤ dt.getD j 0) := by rw [unhide HLA]; exact hpos
      have hl1 : sh.length ≤ 1 := by rw [(unhide XA).r1.len]; omega
      have HL1 := hide hl1
      obtain ⟨bb, ob, eb, hltb, hcellb⟩ := (unhide XB).r2.get hm0
      cases eb
      rw [Nat.add_zero] at hcellb
      have hvb := dataOk_bdM (unhide HQ) (k := 0) (by rw [(unhide XB).r2.len]; exact hm0)
      obtain ⟨v, hv⟩ : ∃ v, v = dt'.getD 0 0 := ⟨_, rfl⟩
      rw [← hv] at hcellb hvb
      have hPb' := unhide hPb
      have HRE := hide (dig_enc (unhide HR) hvb hl1 (unhide HPO))
      have HRD := hide (dig_dec (v := v) (unhide HR) hl1 (unhide HPO) (by rw [← unhide HPP]; exact hPb'.2))
      have HRS := hide (dig_mod (P := P) (by omega) hPb'.2 hvb)
      rw [← unhide HPP] at HRD
      obtain ⟨rv, hrv⟩ : ∃ x, x = v % P := ⟨_, rfl⟩
      rw [← hrv] at HRD HRS
      obtain ⟨dg, hdg⟩ : ∃ x, x = digs dt v := ⟨_, rfl⟩
      rw [← hdg] at HRE HRD
      obtain ⟨y0, y1, y2⟩ := (unhide XB).cells
      clear hv hrv hdg hPk hpos hPb hPb' hvb hl1 g1 g2
      go_upto_region 14 with fail
      clear x0 x1 x2 y0 y1 y2 hcellb
      go_cut [8, 9] (fun r6 r7 wr => r7 = .int .i64 0 ∧ ∃ p e1 k1 f1 e2 k2 f2, r6 = .pointer (some ⟨p, 0, none⟩) ∧ Var wr p false e1 k1 f1 e2 k2 f2 sh dg ∧ Below W4.heap.size W4 wr)
      case first => as_aux_lemma =>
        have hK0 : Below W4.heap.size W4 W4 := Below.refl _ _
        have HKEEP : ∀ wx, Below W4.heap.size W4 wx → Below W4.heap.size W4 wx ∧ (wx.cell? ⟨pA, 0, none⟩ = some (.bool false) ∧ wx.cell? ⟨pA, 1, none⟩ = some (.slice (some a1) n1 c1) ∧ wx.cell? ⟨pA, 2, none⟩ = some (.slice (some a2) k c2)) := fun wx hwx => ⟨hwx, ((unhide XA).below hwx).cells⟩
        obtain ⟨_, ⟨xA0, xA1, xA2⟩⟩ := HKEEP _ (Below.refl _ _)
        go_wp2_with (first
          | (go_at_call_of 11 (Value.slice (some a1) n1 c1); refine (lwArray_src false (some a1) (some a2) n1 k c1 c2 sh dt _ (Src.of ((unhide XA).r1.below (Nat.le_refl _) (by first | exact hK0 | exact hK0.alloc hK0.size _ | exact ((Below.refl _ _).alloc (Nat.le_refl _) _).drew))) (Src.of ((unhide XA).r2.below (Nat.le_refl _) (by first | exact hK0 | exact hK0.alloc hK0.size _ | exact ((Below.refl _ _).alloc (Nat.le_refl _) _).drew))) (by omega) (by omega)).mono ?_; rintro e w1 ⟨ga1, gb1, da1, db1, rfl, hA1, hB1, _, _, hb1⟩; have hK1 : Below W4.heap.size W4 w1 := (by first | exact hK0.trans (hb1.mono hK0.size) | exact (hK0.alloc hK0.size _).trans (hb1.mono (by have := hK0.size; simp; omega)) | exact (((Below.refl _ _).alloc (Nat.le_refl _) _).drew).trans (hb1.mono (by simp))); have hA1_1 := hA1.row; have hB1_1 := hB1.row; obtain ⟨_, ⟨xA0, xA1, xA2⟩⟩ := HKEEP _ hK1)
          | (go_at_call 14; refine (lwScalar_any v _).mono ?_; rintro e w2 ⟨gb2, rfl, hB2, hb2⟩; have hK2 : Below W4.heap.size W4 w2 := (by first | exact hK1.trans (hb2.mono hK1.size) | exact (hK1.alloc hK1.size _).trans (hb2.mono (by have := hK1.size; simp; omega))); have hA1_2 : Row w2 (some ⟨ga1, 0, none⟩) n1 sh := (by first | exact hA1_1.below (Nat.le_refl _) hb2 | exact (hA1_1.alloc _).below (Nat.le_refl _) hb2); have hB1_2 : Row w2 (some ⟨gb1, 0, none⟩) k dt := (by first | exact hB1_1.below (Nat.le_refl _) hb2 | exact (hB1_1.alloc _).below (Nat.le_refl _) hb2); have hB2_2 := hB2.row; obtain ⟨_, ⟨xA0, xA1, xA2⟩⟩ := HKEEP _ hK2)
          | (go_at_call 24; refine (implEncode_any false false (some ⟨ga1, 0, none⟩) (some ⟨gb1, 0, none⟩) none (some ⟨gb2, 0, none⟩) n1 k 0 1 _ _ 0 1 sh dt [] [v] _ (by first | exact hA1_2 | exact hA1_2.alloc _) (by first | exact hB1_2 | exact hB1_2.alloc _) (row_nil _ _) (by first | exact hB2_2 | exact hB2_2.alloc _)).mono ?_; rintro e w3 ⟨e1, k1, f1, e2, k2, f2, rfl, hE1, hE2, _, hb3⟩; have hF1 := hE1.row; have hF2 := hE2.row; clear hE1 hE2; (have HR' := unhide HRE; rw [HR'] at hF1 hF2 ⊢; simp only at hF1 hF2 ⊢; clear HR'); have hK3 : Below W4.heap.size W4 w3 := (by first | exact hK2.trans (hb3.mono hK2.size) | exact (hK2.alloc hK2.size _).trans (hb3.mono (by have := hK2.size; simp; omega)))))
        all_goals (go_meet; case rel => first | exact ⟨rfl, _, _, _, _, _, _, _, rfl, Var.new hF1 hF2, hK3.alloc hK3.size _⟩)
      case rest =>
      obtain ⟨W5, hwc⟩ : ∃ x, x = wc := ⟨_, rfl⟩
      subst hwc
      obtain ⟨rfl, pX, e1X, k1X, f1X, e2X, k2X, f2X, rfl, hv, hK⟩ := hcut
      have T_A := hide ((unhide XA).below hK)
      have T_B := hide ((unhide XB).below hK)
      have T_HG := hide ((unhide HG).below hK)
      have T_HB := hide ((unhide HB).trans (hK.mono (unhide HB).size))
      clear HB XA XB HG
      have XA := T_A
      clear T_A
      have XB := T_B
      clear T_B
      have HG := T_HG
      clear T_HG
      have HB := T_HB
      clear T_HB
      have XX := hide hv
      clear hv hK
      go_upto_region 15 with fail
      go_cut [10, 11] (fun r6 r7 wr => r7 = .int .i64 0 ∧ ∃ p e1 k1 f1 e2 k2 f2, r6 = .pointer (some ⟨p, 0, none⟩) ∧ Var wr p false e1 k1 f1 e2 k2 f2 [] [rv] ∧ Below W5.heap.size W5 wr)
      case first => as_aux_lemma =>
        have hK0 : Below W5.heap.size W5 W5.drew := (Below.refl _ _).drew
        have HKEEP : ∀ wx, Below W5.heap.size W5 wx → Below W5.heap.size W5 wx ∧ (wx.cell? ⟨pA, 0, none⟩ = some (.bool false) ∧ wx.cell? ⟨pA, 1, none⟩ = some (.slice (some a1) n1 c1) ∧ wx.cell? ⟨pA, 2, none⟩ = some (.slice (some a2) k c2)) ∧ (wx.cell? ⟨pX, 0, none⟩ = some (.bool false) ∧ wx.cell? ⟨pX, 1, none⟩ = some (.slice e1X k1X f1X) ∧ wx.cell? ⟨pX, 2, none⟩ = some (.slice e2X k2X f2X)) := fun wx hwx => ⟨hwx, ((unhide XA).below hwx).cells, ((unhide XX).below hwx).cells⟩
        obtain ⟨_, ⟨xA0, xA1, xA2⟩, ⟨xX0, xX1, xX2⟩⟩ := HKEEP _ (Below.refl _ _)
        go_region_held (fun wx => Below W5.heap.size W5 wx ∧ (wx.cell? ⟨pA, 0, none⟩ = some (.bool false) ∧ wx.cell? ⟨pA, 1, none⟩ = some (.slice (some a1) n1 c1) ∧ wx.cell? ⟨pA, 2, none⟩ = some (.slice (some a2) k c2)) ∧ (wx.cell? ⟨pX, 0, none⟩ = some (.bool false) ∧ wx.cell? ⟨pX, 1, none⟩ = some (.slice e1X k1X f1X) ∧ wx.cell? ⟨pX, 2, none⟩ = some (.slice e2X k2X f2X))) (first | exact HKEEP _ hK2 | exact HKEEP _ (((hK2.setCell (by have z0 := hK0.size; have z1 := hK1.size; have z2 := hK2.size; simp <;> omega) _).setCell (by have z0 := hK0.size; have z1 := hK1.size; have z2 := hK2.size; simp <;> omega) _).setCell (by have z0 := hK0.size; have z1 := hK1.size; have z2 := hK2.size; simp <;> omega) _) | exact HKEEP _ (hK2.alloc hK2.size _) | exact HKEEP _ hK1 | exact HKEEP _ (hK1.alloc hK1.size _) | exact HKEEP _ hK0 | exact HKEEP _ (hK0.alloc hK0.size _) | exact HKEEP _ ((Below.refl _ _).alloc (Nat.le_refl _) _).drew)
          (first
            | (go_at_call_of 11 (Value.slice (some a1) n1 c1); refine (lwArray_src false (some a1) (some a2) n1 k c1 c2 sh dt _ (Src.of ((unhide XA).r1.below (Nat.le_refl _) (by first | exact hK0 | exact hK0.alloc hK0.size _ | exact ((Below.refl _ _).alloc (Nat.le_refl _) _).drew))) (Src.of ((unhide XA).r2.below (Nat.le_refl _) (by first | exact hK0 | exact hK0.alloc hK0.size _ | exact ((Below.refl _ _).alloc (Nat.le_refl _) _).drew))) (by omega) (by omega)).mono ?_; rintro e w1 ⟨ga1, gb1, da1, db1, rfl, hA1, hB1, _, _, hb1⟩; have hK1 : Below W5.heap.size W5 w1 := (by first | exact hK0.trans (hb1.mono hK0.size) | exact (hK0.alloc hK0.size _).trans (hb1.mono (by have := hK0.size; simp; omega)) | exact (((Below.refl _ _).alloc (Nat.le_refl _) _).drew).trans (hb1.mono (by simp))); (first | have hP1 := (Box.new _ _ _ _).below (Nat.le_refl _) hb1 | have hP1 := (Box.new _ _ _ _).drew.below (Nat.le_refl _) hb1 | skip); have hA1_1 := hA1.row; have hB1_1 := hB1.row; obtain ⟨_, ⟨xA0, xA1, xA2⟩, ⟨xX0, xX1, xX2⟩⟩ := HKEEP _ hK1)
            | (go_at_call 25; refine (implDecode_any false false (some ⟨ga1, 0, none⟩) (some ⟨gb1, 0, none⟩) e1X e2X n1 k k1X k2X _ _ f1X f2X sh dt sh dg _ (by first | exact hA1_1 | exact hA1_1.alloc _) (by first | exact hB1_1 | exact hB1_1.alloc _) ((unhide XX).r1.below (Nat.le_refl _) (by first | exact hK1 | exact hK1.alloc hK1.size _)) ((unhide XX).r2.below (Nat.le_refl _) (by first | exact hK1 | exact hK1.alloc hK1.size _)) ga gb ⟨(((unhide HG).below (by first | exact hK1 | exact hK1.alloc hK1.size _)) : Gl _ ga gb).big⟩).mono ?_; rintro e w2 ⟨e1, k1, f1, e2, k2, f2, rfl, hE1, hE2, _, hb2⟩; have hF1 := hE1.row; have hF2 := hE2.row; clear hE1 hE2; (have HR' := unhide HRD; rw [HR'] at hF1 hF2 ⊢; simp only at hF1 hF2 ⊢; clear HR'); have hK2 : Below W5.heap.size W5 w2 := (by first | exact hK1.trans (hb2.mono hK1.size) | exact (hK1.alloc hK1.size _).trans (hb2.mono (by have := hK1.size; simp; omega))); (first | (have hP2 := hP1.below (Nat.le_refl _) hb2; obtain ⟨u0, u1, u2, u3, u4, u5, u6⟩ := hP2.free'; (try simp at u0 u1 u2 u3 u4 u5 u6)) | (have hP2 := (Box.new _ _ _ _).below (Nat.le_refl _) hb2; obtain ⟨u0, u1, u2, u3, u4, u5, u6⟩ := hP2.free'; (try simp at u0 u1 u2 u3 u4 u5 u6)) | (have hP2 := (Box.new _ _ _ _).drew.below (Nat.le_refl _) hb2; obtain ⟨u0, u1, u2, u3, u4, u5, u6⟩ := hP2.free'; (try simp at u0 u1 u2 u3 u4 u5 u6)) | skip)))
        all_goals go_wp2_with fail
        all_goals (go_meet; case rel => first | exact ⟨rfl, _, _, _, _, _, _, _, rfl, Var.new hF1 hF2, hK2.alloc hK2.size _⟩ | exact ⟨rfl, _, _, _, _, _, _, _, rfl, Var.put hP2 hF1 hF2, ((hK2.setCell (by have z0 := hK0.size; have z1 := hK1.size; have z2 := hK2.size; simp <;> omega) _).setCell (by have z0 := hK0.size; have z1 := hK1.size; have z2 := hK2.size; simp <;> omega) _).setCell (by have z0 := hK0.size; have z1 := hK1.size; have z2 := hK2.size; simp <;> omega) _⟩)
      case rest =>
      obtain ⟨W6, hwc⟩ : ∃ x, x = wc := ⟨_, rfl⟩
      subst hwc
      obtain ⟨rfl, pY, e1Y, k1Y, f1Y, e2Y, k2Y, f2Y, rfl, hv, hK⟩ := hcut
      have T_A := hide ((unhide XA).below hK)
      have T_B := hide ((unhide XB).below hK)
      have T_X := hide ((unhide XX).below hK)
      have T_HG := hide ((unhide HG).below hK)
      have T_HB := hide ((unhide HB).trans (hK.mono (unhide HB).size))
      clear HB XA XB XX HG
      have XA := T_A
      clear T_A
      have XB := T_B
      clear T_B
      have XX := T_X
      clear T_X
      have HG := T_HG
      clear T_HG
      have HB := T_HB
      clear T_HB
      have XY := hide hv
      clear hv hK
      go_upto_region 16 with fail
      go_cut [12, 13] (fun r6 r7 wr => r7 = .int .i64 0 ∧ ∃ p e1 k1 f1 e2 k2 f2, r6 = .pointer (some ⟨p, 0, none⟩) ∧ Var wr p false e1 k1 f1 e2 k2 f2 [] [rv] ∧ Below W6.heap.size W6 wr)
      case first => as_aux_lemma =>
        have hK0 : Below W6.heap.size W6 W6 := Below.refl _ _
        have HKEEP : ∀ wx, Below W6.heap.size W6 wx → Below W6.heap.size W6 wx := fun _ h => h
        go_wp2_with (first
          | (go_at_call 14; refine (lwScalar_any P _).mono ?_; rintro e w1 ⟨gb1, rfl, hB1, hb1⟩; have hK1 : Below W6.heap.size W6 w1 := (by first | exact hK0.trans (hb1.mono hK0.size) | exact (hK0.alloc hK0.size _).trans (hb1.mono (by have := hK0.size; simp; omega)) | exact (((Below.refl _ _).alloc (Nat.le_refl _) _).drew).trans (hb1.mono (by simp))); have hB1_1 := hB1.row; skip)
          | (go_at_call 14; refine (lwScalar_any v _).mono ?_; rintro e w2 ⟨gb2, rfl, hB2, hb2⟩; have hK2 : Below W6.heap.size W6 w2 := (by first | exact hK1.trans (hb2.mono hK1.size) | exact (hK1.alloc hK1.size _).trans (hb2.mono (by have := hK1.size; simp; omega))); have hB1_2 : Row w2 (some ⟨gb1, 0, none⟩) 1 [P] := (by first | exact hB1_1.below (Nat.le_refl _) hb2 | exact (hB1_1.alloc _).below (Nat.le_refl _) hb2); have hB2_2 := hB2.row; skip)
          | (go_at_call 13; refine (implScalar2_any 7 false false none (some ⟨gb1, 0, none⟩) none (some ⟨gb2, 0, none⟩) 0 1 0 1 0 1 0 1 [] [P] [] [v] _ (row_nil _ _) (by first | exact hB1_2 | exact hB1_2.alloc _) (row_nil _ _) (by first | exact hB2_2 | exact hB2_2.alloc _) ga gb ((unhide HG).below (by first | exact hK2 | exact hK2.alloc hK2.size _))).mono ?_; rintro e w3 ⟨e1, k1, f1, e2, k2, f2, rfl, hE1, hE2, _, hb3⟩; have hF1 := hE1.row; have hF2 := hE2.row; clear hE1 hE2; (have HR' := unhide HRS; rw [HR'] at hF1 hF2 ⊢; simp only at hF1 hF2 ⊢; clear HR'); have hK3 : Below W6.heap.size W6 w3 := (by first | exact hK2.trans (hb3.mono hK2.size) | exact (hK2.alloc hK2.size _).trans (hb3.mono (by have := hK2.size; simp; omega)))))
        all_goals (go_meet; case rel => first | exact ⟨rfl, _, _, _, _, _, _, _, rfl, Var.new hF1 hF2, hK3.alloc hK3.size _⟩)
      case rest =>
      obtain ⟨W7, hwc⟩ : ∃ x, x = wc := ⟨_, rfl⟩
      subst hwc
      obtain ⟨rfl, pZ, e1Z, k1Z, f1Z, e2Z, k2Z, f2Z, rfl, hv, hK⟩ := hcut
      have T_A := hide ((unhide XA).below hK)
      have T_B := hide ((unhide XB).below hK)
      have T_X := hide ((unhide XX).below hK)
      have T_Y := hide ((unhide XY).below hK)
      have T_HG := hide ((unhide HG).below hK)
      have T_HB := hide ((unhide HB).trans (hK.mono (unhide HB).size))
      clear HB XA XB XX XY HG
      have XA := T_A
      clear T_A
      have XB := T_B
      clear T_B
      have XX := T_X
      clear T_X
      have XY := T_Y
      clear T_Y
      have HG := T_HG
      clear T_HG
      have HB := T_HB
      clear T_HB
      have XZ := hide hv
      clear hv hK
      go_upto_region 17 with fail
      go_cut [14, 15] (fun r6 r7 wr => r7 = .int .i64 0 ∧ ∃ p e1 k1 f1 e2 k2 f2, r6 = .pointer (some ⟨p, 0, none⟩) ∧ Var wr p false e1 k1 f1 e2 k2 f2 [] [rv] ∧ Below W7.heap.size W7 wr)
      case first => as_aux_lemma =>
        have hK0 : Below W7.heap.size W7 W7 := Below.refl _ _
        have HKEEP : ∀ wx, Below W7.heap.size W7 wx → Below W7.heap.size W7 wx := fun _ h => h
        go_wp2_with (first
          | (go_at_call 14; refine (lwScalar_any P _).mono ?_; rintro e w1 ⟨gb1, rfl, hB1, hb1⟩; have hK1 : Below W7.heap.size W7 w1 := (by first | exact hK0.trans (hb1.mono hK0.size) | exact (hK0.alloc hK0.size _).trans (hb1.mono (by have := hK0.size; simp; omega)) | exact (((Below.refl _ _).alloc (Nat.le_refl _) _).drew).trans (hb1.mono (by simp))); have hB1_1 := hB1.row; skip)
          | (go_at_call 14; refine (lwScalar_any v _).mono ?_; rintro e w2 ⟨gb2, rfl, hB2, hb2⟩; have hK2 : Below W7.heap.size W7 w2 := (by first | exact hK1.trans (hb2.mono hK1.size) | exact (hK1.alloc hK1.size _).trans (hb2.mono (by have := hK1.size; simp; omega))); have hB1_2 : Row w2 (some ⟨gb1, 0, none⟩) 1 [P] := (by first | exact hB1_1.below (Nat.le_refl _) hb2 | exact (hB1_1.alloc _).below (Nat.le_refl _) hb2); have hB2_2 := hB2.row; skip)
          | (go_at_call 22; refine (Scalar2_any 7 false false none (some ⟨gb1, 0, none⟩) none (some ⟨gb2, 0, none⟩) 0 1 0 1 0 1 0 1 [] [P] [] [v] _ (row_nil _ _) (by first | exact hB1_2 | exact hB1_2.alloc _) (row_nil _ _) (by first | exact hB2_2 | exact hB2_2.alloc _)).mono ?_; rintro e w3 ⟨e1, k1, f1, e2, k2, f2, rfl, hF1, hF2, hb3⟩; (have HR' := unhide HRS; rw [HR'] at hF1 hF2 ⊢; simp only at hF1 hF2 ⊢; clear HR'); have hK3 : Below W7.heap.size W7 w3 := (by first | exact hK2.trans (hb3.mono hK2.size) | exact (hK2.alloc hK2.size _).trans (hb3.mono (by have := hK2.size; simp; omega)))))
        all_goals (go_meet; case rel => first | exact ⟨rfl, _, _, _, _, _, _, _, rfl, Var.new hF1 hF2, hK3.alloc hK3.size _⟩)
      case rest =>
      obtain ⟨W8, hwc⟩ : ∃ x, x = wc := ⟨_, rfl⟩
      subst hwc
      obtain ⟨rfl, pU, e1U, k1U, f1U, e2U, k2U, f2U, rfl, hv, hK⟩ := hcut
      have T_A := hide ((unhide XA).below hK)
      have T_B := hide ((unhide XB).below hK)
      have T_X := hide ((unhide XX).below hK)
      have T_Y := hide ((unhide XY).below hK)
      have T_Z := hide ((unhide XZ).below hK)
      have T_HG := hide ((unhide HG).below hK)
      have T_HB := hide ((unhide HB).trans (hK.mono (unhide HB).size))
      clear HB XA XB XX XY XZ HG
      have XA := T_A
      clear T_A
      have XB := T_B
      clear T_B
      have XX := T_X
      clear T_X
      have XY := T_Y
      clear T_Y
      have XZ := T_Z
      clear T_Z
      have HG := T_HG
      clear T_HG
      have HB := T_HB
      clear T_HB
      have XU := hide hv
      clear hv hK
      obtain ⟨x0, x1, x2⟩ := (unhide XY).cells
      obtain ⟨y0, y1, y2⟩ := (unhide XU).cells
      go_wp2_with (first
        | (go_at_call_of 17 (Value.slice e1Y k1Y f1Y); refine (eqArray_refl _ _ _ _ _ _ _ _ _ _ _ _ _ [] [rv] _ (unhide XY).r1 (unhide XY).r2 (unhide XU).r1 (unhide XU).r2).mono ?_; rintro e wA ⟨rfl, hK⟩; have JZ := hide ((unhide XZ).below hK); have JU := hide ((unhide XU).below hK); have JB := hide ((unhide HB).trans (hK.mono (unhide HB).size)); clear hK x0 x1 x2 y0 y1 y2; obtain ⟨x0, x1, x2⟩ := (unhide JZ).cells; obtain ⟨y0, y1, y2⟩ := (unhide JU).cells)
        | (go_at_call_of 17 (Value.slice e1Z k1Z f1Z); refine (eqArray_refl _ _ _ _ _ _ _ _ _ _ _ _ _ [] [rv] _ (unhide JZ).r1 (unhide JZ).r2 (unhide JU).r1 (unhide JU).r2).mono ?_; rintro e wB ⟨rfl, hK⟩; have LB := hide ((unhide JB).trans (hK.mono (unhide JB).size)); clear hK))
      exact bodyPost_ret (v := .bool true) (by simp [results, Tryz.results5, go_sem]) rfl ⟨rfl, unhide LB⟩

end Go.Proofs.YtkgcmpmgaghdhaaGreatDoor
