import Derived.Test.YtkgcmpmgaghdhaaGreatDoorMFit0
import Derived.Test.YtkgcmpmgaghdhaaGreatDoorMFit1
import Derived.Test.YtkgcmpmgaghdhaaGreatDoorMFit1
import Derived.Test.YtkgcmpmgaghdhaaGreatDoorMFit1
import Derived.Test.YtkgcmpmgaghdhaaGreatDoorMFit1
import Derived.Test.YtkgcmpmgaghdhaaGreatDoorMFit0
import Derived.Test.YtkgcmpmgaghdhaaGreatDoorMFit1
import Derived.Test.YtkgcmpmgaghdhaaGreatDoorMFit2
import Derived.Test.YtkgcmpmgaghdhaaGreatDoorMFit2
import Derived.Test.YtkgcmpmgaghdhaaGreatDoorImplScalar2W
import Derived.Test.YtkgcmpmgaghdhaaGreatDoorImplReplicate
import Derived.Test.YtkgcmpmgaghdhaaGreatDoorMFit0
import Derived.Deep.RegionHeld
import Derived.Deep.DeepCutAuto
namespace Go.Proofs.YtkgcmpmgaghdhaaGreatDoor
open Go.RowKit

set_option maxRecDepth 20000 in
set_option maxHeartbeats 16000000 in
theorem law_There (ga gb : Addr) (a : Option Addr) (n cn : Nat) (w : World) (hby : Bytes w a n) (hc : n ≤ cn) (hn : n ≤ 1048576) (hG : Gl w ga gb) :
    Calls Tryz.prog 3 #[.slice a n cn] w fun e w' => e = .returned (.bool true) ∧ Below w.heap.size w w' := by
  have hcall := DrawFind_any a n cn w hby hc hn
  have hnz : ¬ (1048576 : Int) < (n : Int) := by omega
  have HG0 := hide hG
  clear hby hc hG
  go_enter Tryz.func3, Tryz.ntmps3
  go_upto_region 4 with (go_at_call 8; refine hcall.mono ?_; rintro e w1 ⟨c, d, a1, a2, b1, b2, n1, n2, m1, m2, c1, c2, d1, d2, sh, dt, sh', dt', rfl, r1, r2, q1, q2, h1, h2, h3, h4, hb1⟩; have R1 := hide r1; have R2 := hide r2; have Q1 := hide q1; have Q2 := hide q2; have HB1 := hide hb1; clear r1 r2 q1 q2 hb1)
  clear hcall
  obtain ⟨W, hW⟩ : ∃ W, W = (w1.alloc (.cells #[.bool c, .slice (some a1) n1 c1, .slice (some a2) n2 c2] 25)).alloc (.cells #[.bool d, .slice (some b1) m1 d1, .slice (some b2) m2 d2] 25) := ⟨_, rfl⟩
  obtain ⟨pA, hpA⟩ : ∃ P, P = w1.heap.size := ⟨_, rfl⟩
  obtain ⟨pB, hpB⟩ : ∃ P, P = w1.heap.size + 1 := ⟨_, rfl⟩
  have XA : Hid (Var W pA c (some a1) n1 c1 (some a2) n2 c2 sh dt) := by
    rw [hW, hpA]; exact (Var.new (unhide R1) (unhide R2)).below ((Below.refl _ _).alloc (Nat.le_refl _) _)
  have XB : Hid (Var W pB d (some b1) m1 d1 (some b2) m2 d2 sh' dt') := by
    rw [hW, hpB]
    have := Var.new (c := d) (f1 := d1) (f2 := d2) ((unhide Q1).alloc (.cells #[.bool c, .slice (some a1) n1 c1, .slice (some a2) n2 c2] 25)) ((unhide Q2).alloc (.cells #[.bool c, .slice (some a1) n1 c1, .slice (some a2) n2 c2] 25))
    rwa [World.size_alloc] at this
  have HB : Hid (Below w.heap.size w W) := by rw [hW]; exact ((unhide HB1).alloc (unhide HB1).size _).alloc (by have := (unhide HB1).size; simp; omega) _
  have HG : Hid (Gl W ga gb) := (unhide HG0).below (unhide HB)
  rw [← hW, ← hpB, ← hpA]
  clear hW hpA hpB R1 R2 Q1 Q2 HB1 HG0
  obtain ⟨r, hr⟩ : ∃ r, arrOk c sh dt = r := ⟨_, rfl⟩
  have HR := hide hr
  obtain ⟨q, hq⟩ : ∃ q, arrOk d sh' dt' = q := ⟨_, rfl⟩
  have HQ := hide hq
  clear hr hq
  obtain ⟨x0, x1, x2⟩ := (unhide XA).cells
  obtain ⟨y0, y1, y2⟩ := (unhide XB).cells
  cases r with
  | false =>
    go_wp2_with (go_at_call 9; refine (ArrayOk_eq _ _ _ _ _ _ _ sh dt _ (unhide XA).r1 (unhide XA).r2 _ HR).mono ?_; rintro e w3 ⟨rfl, hb3⟩; have HB3 := hide ((unhide HB).trans (hb3.mono (unhide HB).size)); clear hb3)
    exact bodyPost_ret (v := .bool true) (by simp [results, Tryz.results3, go_sem]) rfl ⟨rfl, unhide HB3⟩
  | true =>
  cases q with
  | false =>
    go_wp2_with (first | (go_at_call_of 9 (Value.slice (some a1) n1 c1); refine (ArrayOk_eq _ _ _ _ _ _ _ sh dt _ (unhide XA).r1 (unhide XA).r2 _ HR).mono ?_; rintro e w3 ⟨rfl, hb3⟩; have HB3 := hide ((unhide HB).trans (hb3.mono (unhide HB).size)); have X3 := hide ((unhide XB).below hb3); obtain ⟨z0, z1, z2⟩ := (unhide X3).cells; clear hb3) | (go_at_call_of 9 (Value.slice (some b1) m1 d1); refine (ArrayOk_eq _ _ _ _ _ _ _ sh' dt' _ (unhide X3).r1 (unhide X3).r2 _ HQ).mono ?_; rintro e w4 ⟨rfl, hb4⟩; have HB4 := hide ((unhide HB3).trans (hb4.mono (unhide HB3).size)); clear hb4))
    exact bodyPost_ret (v := .bool true) (by simp [results, Tryz.results3, go_sem]) rfl ⟨rfl, unhide HB4⟩
  | true =>
  by_cases hn1 : n1 = 1
  case neg =>
    have g1 : ((n1 : Int) != 1) = true := by simp; omega
    clear hn1
    go_wp2_with (first | (go_at_call_of 9 (Value.slice (some a1) n1 c1); refine (ArrayOk_eq _ _ _ _ _ _ _ sh dt _ (unhide XA).r1 (unhide XA).r2 _ HR).mono ?_; rintro e w3 ⟨rfl, hb3⟩; have HB3 := hide ((unhide HB).trans (hb3.mono (unhide HB).size)); have X3 := hide ((unhide XB).below hb3); obtain ⟨z0, z1, z2⟩ := (unhide X3).cells; have Y3 := hide ((unhide XA).below hb3); clear hb3) | (go_at_call_of 9 (Value.slice (some b1) m1 d1); refine (ArrayOk_eq _ _ _ _ _ _ _ sh' dt' _ (unhide X3).r1 (unhide X3).r2 _ HQ).mono ?_; rintro e w4 ⟨rfl, hb4⟩; have HB4 := hide ((unhide HB3).trans (hb4.mono (unhide HB3).size)); obtain ⟨u0, u1, u2⟩ := ((unhide Y3).below hb4).cells; clear hb4))
    exact bodyPost_ret (v := .bool true) (by simp [results, Tryz.results3, go_sem]) rfl ⟨rfl, unhide HB4⟩
  subst hn1
  have hlen := (unhide XA).r2.len
  have hshe := line_shapeT (unhide HR) (unhide XA).r1.len
  rw [hlen] at hshe
  subst hshe
  have HRM := hide (member_there (unhide HR) (unhide HQ))
  have HRF := hide (find_there (unhide HR) (unhide HQ) rfl)
  have HRL := hide (le_there (unhide HR) (unhide HQ) n2 hlen)
  have HRO := hide (rep_there hlen (unhide HR))
  obtain ⟨mv, hmv⟩ : ∃ x, x = memV c d dt dt' := ⟨_, rfl⟩
  obtain ⟨fv, hfv⟩ : ∃ x, x = finV c d dt dt' := ⟨_, rfl⟩
  rw [← hmv] at HRM HRL
  rw [← hfv] at HRF HRL
  clear hmv hfv hlen
  go_upto_region 6 with (first | (go_at_call_of 9 (Value.slice (some a1) 1 c1); refine (ArrayOk_eq _ _ _ _ _ _ _ [(n2 : Int)] dt _ (unhide XA).r1 (unhide XA).r2 _ HR).mono ?_; rintro e w3 ⟨rfl, hb3⟩; have HB3 := hide ((unhide HB).trans (hb3.mono (unhide HB).size)); have X3 := hide ((unhide XB).below hb3); obtain ⟨z0, z1, z2⟩ := (unhide X3).cells; have Y3 := hide ((unhide XA).below hb3); have G3 := hide ((unhide HG).below hb3); clear hb3) | (go_at_call_of 9 (Value.slice (some b1) m1 d1); refine (ArrayOk_eq _ _ _ _ _ _ _ sh' dt' _ (unhide X3).r1 (unhide X3).r2 _ HQ).mono ?_; rintro e w4 ⟨rfl, hb4⟩; have HB4 := hide ((unhide HB3).trans (hb4.mono (unhide HB3).size)); have Y4 := hide ((unhide Y3).below hb4); have X4 := hide ((unhide X3).below hb4); have G4 := hide ((unhide G3).below hb4); obtain ⟨u0, u1, u2⟩ := (unhide Y4).cells; clear hb4))
  clear XA XB HB HG HB3 X3 Y3 G3 x0 x1 x2 y0 y1 y2 z0 z1 z2 u0 u1 u2
  have XA := Y4
  have XB := X4
  have HB := HB4
  have HG := G4
  clear Y4 X4 HB4 G4
  go_cut [5, 6] (fun r6 r7 wr => r7 = .int .i64 0 ∧ ∃ p e1 k1 f1 e2 k2 f2, r6 = .pointer (some ⟨p, 0, none⟩) ∧ Var wr p false e1 k1 f1 e2 k2 f2 sh' mv ∧ Below w4.heap.size w4 wr)
  case first => as_aux_lemma =>
    have hK0 : Below w4.heap.size w4 w4.drew := (Below.refl _ _).drew
    have HKEEP : ∀ wx, Below w4.heap.size w4 wx → Below w4.heap.size w4 wx ∧ (wx.cell? ⟨pA, 0, none⟩ = some (.bool c) ∧ wx.cell? ⟨pA, 1, none⟩ = some (.slice (some a1) 1 c1) ∧ wx.cell? ⟨pA, 2, none⟩ = some (.slice (some a2) n2 c2)) ∧ (wx.cell? ⟨pB, 0, none⟩ = some (.bool d) ∧ wx.cell? ⟨pB, 1, none⟩ = some (.slice (some b1) m1 d1) ∧ wx.cell? ⟨pB, 2, none⟩ = some (.slice (some b2) m2 d2)) := fun wx hwx => ⟨hwx, ((unhide XA).below hwx).cells, ((unhide XB).below hwx).cells⟩
    obtain ⟨_, ⟨xA0, xA1, xA2⟩, ⟨xB0, xB1, xB2⟩⟩ := HKEEP _ (Below.refl _ _)
    go_region_held (fun wx => Below w4.heap.size w4 wx ∧ (wx.cell? ⟨pA, 0, none⟩ = some (.bool c) ∧ wx.cell? ⟨pA, 1, none⟩ = some (.slice (some a1) 1 c1) ∧ wx.cell? ⟨pA, 2, none⟩ = some (.slice (some a2) n2 c2)) ∧ (wx.cell? ⟨pB, 0, none⟩ = some (.bool d) ∧ wx.cell? ⟨pB, 1, none⟩ = some (.slice (some b1) m1 d1) ∧ wx.cell? ⟨pB, 2, none⟩ = some (.slice (some b2) m2 d2))) (first | exact HKEEP _ hK3 | exact HKEEP _ (((hK3.setCell (by have z0 := hK0.size; have z1 := hK1.size; have z2 := hK2.size; have z3 := hK3.size; simp <;> omega) _).setCell (by have z0 := hK0.size; have z1 := hK1.size; have z2 := hK2.size; have z3 := hK3.size; simp <;> omega) _).setCell (by have z0 := hK0.size; have z1 := hK1.size; have z2 := hK2.size; have z3 := hK3.size; simp <;> omega) _) | exact HKEEP _ (hK3.alloc hK3.size _) | exact HKEEP _ hK2 | exact HKEEP _ (hK2.alloc hK2.size _) | exact HKEEP _ hK1 | exact HKEEP _ (hK1.alloc hK1.size _) | exact HKEEP _ hK0 | exact HKEEP _ (hK0.alloc hK0.size _) | exact HKEEP _ ((Below.refl _ _).alloc (Nat.le_refl _) _).drew)
      (first
        | (go_at_call_of 11 (Value.slice (some b1) m1 d1); refine (lwArray_src d (some b1) (some b2) m1 m2 d1 d2 sh' dt' _ (Src.of ((unhide XB).r1.below (Nat.le_refl _) (by first | exact hK0 | exact hK0.alloc hK0.size _ | exact ((Below.refl _ _).alloc (Nat.le_refl _) _).drew))) (Src.of ((unhide XB).r2.below (Nat.le_refl _) (by first | exact hK0 | exact hK0.alloc hK0.size _ | exact ((Below.refl _ _).alloc (Nat.le_refl _) _).drew))) (by omega) (by omega)).mono ?_; rintro e w1 ⟨ga1, gb1, da1, db1, rfl, hA1, hB1, _, _, hb1⟩; have hK1 : Below w4.heap.size w4 w1 := (by first | exact hK0.trans (hb1.mono hK0.size) | exact (hK0.alloc hK0.size _).trans (hb1.mono (by have := hK0.size; simp; omega)) | exact (((Below.refl _ _).alloc (Nat.le_refl _) _).drew).trans (hb1.mono (by simp))); (first | have hP1 := (Box.new _ _ _ _).below (Nat.le_refl _) hb1 | have hP1 := (Box.new _ _ _ _).drew.below (Nat.le_refl _) hb1 | skip); have hA1_1 := hA1.row; have hB1_1 := hB1.row; obtain ⟨_, ⟨xA0, xA1, xA2⟩, ⟨xB0, xB1, xB2⟩⟩ := HKEEP _ hK1)
        | (go_at_call_of 11 (Value.slice (some a1) 1 c1); refine (lwArray_src c (some a1) (some a2) 1 n2 c1 c2 [(n2 : Int)] dt _ (Src.of ((unhide XA).r1.below (Nat.le_refl _) (by first | exact hK1 | exact hK1.alloc hK1.size _))) (Src.of ((unhide XA).r2.below (Nat.le_refl _) (by first | exact hK1 | exact hK1.alloc hK1.size _))) (by omega) (by omega)).mono ?_; rintro e w2 ⟨ga2, gb2, da2, db2, rfl, hA2, hB2, _, _, hb2⟩; have hK2 : Below w4.heap.size w4 w2 := (by first | exact hK1.trans (hb2.mono hK1.size) | exact (hK1.alloc hK1.size _).trans (hb2.mono (by have := hK1.size; simp; omega))); (first | have hP2 := hP1.below (Nat.le_refl _) hb2 | have hP2 := (Box.new _ _ _ _).below (Nat.le_refl _) hb2 | have hP2 := (Box.new _ _ _ _).drew.below (Nat.le_refl _) hb2 | skip); have hA1_2 : Row w2 (some ⟨ga1, 0, none⟩) m1 sh' := (by first | exact hA1_1.below (Nat.le_refl _) hb2 | exact (hA1_1.alloc _).below (Nat.le_refl _) hb2); have hB1_2 : Row w2 (some ⟨gb1, 0, none⟩) m2 dt' := (by first | exact hB1_1.below (Nat.le_refl _) hb2 | exact (hB1_1.alloc _).below (Nat.le_refl _) hb2); have hA2_2 := hA2.row; have hB2_2 := hB2.row; obtain ⟨_, ⟨xA0, xA1, xA2⟩, ⟨xB0, xB1, xB2⟩⟩ := HKEEP _ hK2)
        | (go_at_call 10; refine (implMember_any d c ⟨ga1, 0, none⟩ ⟨gb1, 0, none⟩ ⟨ga2, 0, none⟩ ⟨gb2, 0, none⟩ _ _ _ _ _ _ _ _ sh' dt' [(n2 : Int)] dt _ (by first | exact hA1_2 | exact hA1_2.alloc _) (by first | exact hB1_2 | exact hB1_2.alloc _) (by first | exact hA2_2 | exact hA2_2.alloc _) (by first | exact hB2_2 | exact hB2_2.alloc _)).mono ?_; rintro e w3 ⟨e1, k1, f1, e2, k2, f2, rfl, hE1, hE2, _, hb3⟩; have hF1 := hE1.row; have hF2 := hE2.row; clear hE1 hE2; (have HR' := unhide HRM; rw [HR'] at hF1 hF2 ⊢; simp only at hF1 hF2 ⊢; clear HR'); have hK3 : Below w4.heap.size w4 w3 := (by first | exact hK2.trans (hb3.mono hK2.size) | exact (hK2.alloc hK2.size _).trans (hb3.mono (by have := hK2.size; simp; omega))); (first | (have hP3 := hP2.below (Nat.le_refl _) hb3; obtain ⟨u0, u1, u2, u3, u4, u5, u6⟩ := hP3.free'; (try simp at u0 u1 u2 u3 u4 u5 u6)) | (have hP3 := (Box.new _ _ _ _).below (Nat.le_refl _) hb3; obtain ⟨u0, u1, u2, u3, u4, u5, u6⟩ := hP3.free'; (try simp at u0 u1 u2 u3 u4 u5 u6)) | (have hP3 := (Box.new _ _ _ _).drew.below (Nat.le_refl _) hb3; obtain ⟨u0, u1, u2, u3, u4, u5, u6⟩ := hP3.free'; (try simp at u0 u1 u2 u3 u4 u5 u6)) | skip)))
    all_goals go_wp2_with fail
    all_goals (go_meet; case rel => first | exact ⟨rfl, _, _, _, _, _, _, _, rfl, Var.new hF1 hF2, hK3.alloc hK3.size _⟩ | exact ⟨rfl, _, _, _, _, _, _, _, rfl, Var.put hP3 hF1 hF2, ((hK3.setCell (by have z0 := hK0.size; have z1 := hK1.size; have z2 := hK2.size; have z3 := hK3.size; simp <;> omega) _).setCell (by have z0 := hK0.size; have z1 := hK1.size; have z2 := hK2.size; have z3 := hK3.size; simp <;> omega) _).setCell (by have z0 := hK0.size; have z1 := hK1.size; have z2 := hK2.size; have z3 := hK3.size; simp <;> omega) _⟩)
  case rest =>
  obtain ⟨W5, hwc⟩ : ∃ x, x = wc := ⟨_, rfl⟩
  subst hwc
  obtain ⟨rfl, pM, e1M, k1M, f1M, e2M, k2M, f2M, rfl, hv, hK⟩ := hcut
  have T_A := hide ((unhide XA).below hK)
  have T_B := hide ((unhide XB).below hK)
  have T_HG := hide ((unhide HG).below hK)
  have T_HB := hide ((unhide HB).trans (hK.mono (unhide HB).size))
  clear HB XA XB HG
  have XA := T_A
  clear T_A
  have XB := T_B
  clear T_B
  have HG := T_HG
  clear T_HG
  have HB := T_HB
  clear T_HB
  have XM := hide hv
  clear hv hK
  go_upto_region 7 with fail
  go_cut [7, 8] (fun r6 r7 wr => r7 = .int .i64 0 ∧ ∃ p e1 k1 f1 e2 k2 f2, r6 = .pointer (some ⟨p, 0, none⟩) ∧ Var wr p false e1 k1 f1 e2 k2 f2 sh' fv ∧ Below W5.heap.size W5 wr)
  case first => as_aux_lemma =>
    have hK0 : Below W5.heap.size W5 W5.drew := (Below.refl _ _).drew
    have HKEEP : ∀ wx, Below W5.heap.size W5 wx → Below W5.heap.size W5 wx ∧ (wx.cell? ⟨pA, 0, none⟩ = some (.bool c) ∧ wx.cell? ⟨pA, 1, none⟩ = some (.slice (some a1) 1 c1) ∧ wx.cell? ⟨pA, 2, none⟩ = some (.slice (some a2) n2 c2)) ∧ (wx.cell? ⟨pB, 0, none⟩ = some (.bool d) ∧ wx.cell? ⟨pB, 1, none⟩ = some (.slice (some b1) m1 d1) ∧ wx.cell? ⟨pB, 2, none⟩ = some (.slice (some b2) m2 d2)) := fun wx hwx => ⟨hwx, ((unhide XA).below hwx).cells, ((unhide XB).below hwx).cells⟩
    obtain ⟨_, ⟨xA0, xA1, xA2⟩, ⟨xB0, xB1, xB2⟩⟩ := HKEEP _ (Below.refl _ _)
    go_region_held (fun wx => Below W5.heap.size W5 wx ∧ (wx.cell? ⟨pA, 0, none⟩ = some (.bool c) ∧ wx.cell? ⟨pA, 1, none⟩ = some (.slice (some a1) 1 c1) ∧ wx.cell? ⟨pA, 2, none⟩ = some (.slice (some a2) n2 c2)) ∧ (wx.cell? ⟨pB, 0, none⟩ = some (.bool d) ∧ wx.cell? ⟨pB, 1, none⟩ = some (.slice (some b1) m1 d1) ∧ wx.cell? ⟨pB, 2, none⟩ = some (.slice (some b2) m2 d2))) (first | exact HKEEP _ hK3 | exact HKEEP _ (((hK3.setCell (by have z0 := hK0.size; have z1 := hK1.size; have z2 := hK2.size; have z3 := hK3.size; simp <;> omega) _).setCell (by have z0 := hK0.size; have z1 := hK1.size; have z2 := hK2.size; have z3 := hK3.size; simp <;> omega) _).setCell (by have z0 := hK0.size; have z1 := hK1.size; have z2 := hK2.size; have z3 := hK3.size; simp <;> omega) _) | exact HKEEP _ (hK3.alloc hK3.size _) | exact HKEEP _ hK2 | exact HKEEP _ (hK2.alloc hK2.size _) | exact HKEEP _ hK1 | exact HKEEP _ (hK1.alloc hK1.size _) | exact HKEEP _ hK0 | exact HKEEP _ (hK0.alloc hK0.size _) | exact HKEEP _ ((Below.refl _ _).alloc (Nat.le_refl _) _).drew)
      (first
        | (go_at_call_of 11 (Value.slice (some a1) 1 c1); refine (lwArray_src c (some a1) (some a2) 1 n2 c1 c2 [(n2 : Int)] dt _ (Src.of ((unhide XA).r1.below (Nat.le_refl _) (by first | exact hK0 | exact hK0.alloc hK0.size _ | exact ((Below.refl _ _).alloc (Nat.le_refl _) _).drew))) (Src.of ((unhide XA).r2.below (Nat.le_refl _) (by first | exact hK0 | exact hK0.alloc hK0.size _ | exact ((Below.refl _ _).alloc (Nat.le_refl _) _).drew))) (by omega) (by omega)).mono ?_; rintro e w1 ⟨ga1, gb1, da1, db1, rfl, hA1, hB1, _, _, hb1⟩; have hK1 : Below W5.heap.size W5 w1 := (by first | exact hK0.trans (hb1.mono hK0.size) | exact (hK0.alloc hK0.size _).trans (hb1.mono (by have := hK0.size; simp; omega)) | exact (((Below.refl _ _).alloc (Nat.le_refl _) _).drew).trans (hb1.mono (by simp))); (first | have hP1 := (Box.new _ _ _ _).below (Nat.le_refl _) hb1 | have hP1 := (Box.new _ _ _ _).drew.below (Nat.le_refl _) hb1 | skip); have hA1_1 := hA1.row; have hB1_1 := hB1.row; obtain ⟨_, ⟨xA0, xA1, xA2⟩, ⟨xB0, xB1, xB2⟩⟩ := HKEEP _ hK1)
        | (go_at_call_of 11 (Value.slice (some b1) m1 d1); refine (lwArray_src d (some b1) (some b2) m1 m2 d1 d2 sh' dt' _ (Src.of ((unhide XB).r1.below (Nat.le_refl _) (by first | exact hK1 | exact hK1.alloc hK1.size _))) (Src.of ((unhide XB).r2.below (Nat.le_refl _) (by first | exact hK1 | exact hK1.alloc hK1.size _))) (by omega) (by omega)).mono ?_; rintro e w2 ⟨ga2, gb2, da2, db2, rfl, hA2, hB2, _, _, hb2⟩; have hK2 : Below W5.heap.size W5 w2 := (by first | exact hK1.trans (hb2.mono hK1.size) | exact (hK1.alloc hK1.size _).trans (hb2.mono (by have := hK1.size; simp; omega))); (first | have hP2 := hP1.below (Nat.le_refl _) hb2 | have hP2 := (Box.new _ _ _ _).below (Nat.le_refl _) hb2 | have hP2 := (Box.new _ _ _ _).drew.below (Nat.le_refl _) hb2 | skip); have hA1_2 : Row w2 (some ⟨ga1, 0, none⟩) 1 [(n2 : Int)] := (by first | exact hA1_1.below (Nat.le_refl _) hb2 | exact (hA1_1.alloc _).below (Nat.le_refl _) hb2); have hB1_2 : Row w2 (some ⟨gb1, 0, none⟩) n2 dt := (by first | exact hB1_1.below (Nat.le_refl _) hb2 | exact (hB1_1.alloc _).below (Nat.le_refl _) hb2); have hA2_2 := hA2.row; have hB2_2 := hB2.row; obtain ⟨_, ⟨xA0, xA1, xA2⟩, ⟨xB0, xB1, xB2⟩⟩ := HKEEP _ hK2)
        | (go_at_call 12; refine (implFind_any c d ⟨ga1, 0, none⟩ ⟨gb1, 0, none⟩ ⟨ga2, 0, none⟩ ⟨gb2, 0, none⟩ _ _ _ _ _ _ _ _ [(n2 : Int)] dt sh' dt' _ (by first | exact hA1_2 | exact hA1_2.alloc _) (by first | exact hB1_2 | exact hB1_2.alloc _) (by first | exact hA2_2 | exact hA2_2.alloc _) (by first | exact hB2_2 | exact hB2_2.alloc _)).mono ?_; rintro e w3 ⟨e1, k1, f1, e2, k2, f2, rfl, hE1, hE2, _, hb3⟩; have hF1 := hE1.row; have hF2 := hE2.row; clear hE1 hE2; (have HR' := unhide HRF; rw [HR'] at hF1 hF2 ⊢; simp only at hF1 hF2 ⊢; clear HR'); have hK3 : Below W5.heap.size W5 w3 := (by first | exact hK2.trans (hb3.mono hK2.size) | exact (hK2.alloc hK2.size _).trans (hb3.mono (by have := hK2.size; simp; omega))); (first | (have hP3 := hP2.below (Nat.le_refl _) hb3; obtain ⟨u0, u1, u2, u3, u4, u5, u6⟩ := hP3.free'; (try simp at u0 u1 u2 u3 u4 u5 u6)) | (have hP3 := (Box.new _ _ _ _).below (Nat.le_refl _) hb3; obtain ⟨u0, u1, u2, u3, u4, u5, u6⟩ := hP3.free'; (try simp at u0 u1 u2 u3 u4 u5 u6)) | (have hP3 := (Box.new _ _ _ _).drew.below (Nat.le_refl _) hb3; obtain ⟨u0, u1, u2, u3, u4, u5, u6⟩ := hP3.free'; (try simp at u0 u1 u2 u3 u4 u5 u6)) | skip)))
    all_goals go_wp2_with fail
    all_goals (go_meet; case rel => first | exact ⟨rfl, _, _, _, _, _, _, _, rfl, Var.new hF1 hF2, hK3.alloc hK3.size _⟩ | exact ⟨rfl, _, _, _, _, _, _, _, rfl, Var.put hP3 hF1 hF2, ((hK3.setCell (by have z0 := hK0.size; have z1 := hK1.size; have z2 := hK2.size; have z3 := hK3.size; simp <;> omega) _).setCell (by have z0 := hK0.size; have z1 := hK1.size; have z2 := hK2.size; have z3 := hK3.size; simp <;> omega) _).setCell (by have z0 := hK0.size; have z1 := hK1.size; have z2 := hK2.size; have z3 := hK3.size; simp <;> omega) _⟩)
  case rest =>
  obtain ⟨W6, hwc⟩ : ∃ x, x = wc := ⟨_, rfl⟩
  subst hwc
  obtain ⟨rfl, pF, e1F, k1F, f1F, e2F, k2F, f2F, rfl, hv, hK⟩ := hcut
  have T_A := hide ((unhide XA).below hK)
  have T_B := hide ((unhide XB).below hK)
  have T_M := hide ((unhide XM).below hK)
  have T_HG := hide ((unhide HG).below hK)
  have T_HB := hide ((unhide HB).trans (hK.mono (unhide HB).size))
  clear HB XA XB XM HG
  have XA := T_A
  clear T_A
  have XB := T_B
  clear T_B
  have XM := T_M
  clear T_M
  have HG := T_HG
  clear T_HG
  have HB := T_HB
  clear T_HB
  have XF := hide hv
  clear hv hK
  go_upto_region 8 with fail
  go_cut [9, 10] (fun r6 r7 wr => r7 = .int .i64 0 ∧ ∃ p e1 k1 f1 e2 k2 f2, r6 = .pointer (some ⟨p, 0, none⟩) ∧ Var wr p false e1 k1 f1 e2 k2 f2 sh' mv ∧ Below W6.heap.size W6 wr)
  case first => as_aux_lemma =>
    have hK0 : Below W6.heap.size W6 W6.drew := (Below.refl _ _).drew
    have HKEEP : ∀ wx, Below W6.heap.size W6 wx → Below W6.heap.size W6 wx ∧ (wx.cell? ⟨pF, 0, none⟩ = some (.bool false) ∧ wx.cell? ⟨pF, 1, none⟩ = some (.slice e1F k1F f1F) ∧ wx.cell? ⟨pF, 2, none⟩ = some (.slice e2F k2F f2F)) ∧ (wx.cell? ⟨pA, 0, none⟩ = some (.bool c) ∧ wx.cell? ⟨pA, 1, none⟩ = some (.slice (some a1) 1 c1) ∧ wx.cell? ⟨pA, 2, none⟩ = some (.slice (some a2) n2 c2)) := fun wx hwx => ⟨hwx, ((unhide XF).below hwx).cells, ((unhide XA).below hwx).cells⟩
    obtain ⟨_, ⟨xF0, xF1, xF2⟩, ⟨xA0, xA1, xA2⟩⟩ := HKEEP _ (Below.refl _ _)
    go_region_held (fun wx => Below W6.heap.size W6 wx ∧ (wx.cell? ⟨pF, 0, none⟩ = some (.bool false) ∧ wx.cell? ⟨pF, 1, none⟩ = some (.slice e1F k1F f1F) ∧ wx.cell? ⟨pF, 2, none⟩ = some (.slice e2F k2F f2F)) ∧ (wx.cell? ⟨pA, 0, none⟩ = some (.bool c) ∧ wx.cell? ⟨pA, 1, none⟩ = some (.slice (some a1) 1 c1) ∧ wx.cell? ⟨pA, 2, none⟩ = some (.slice (some a2) n2 c2))) (first | exact HKEEP _ hK2 | exact HKEEP _ (((hK2.setCell (by have z0 := hK0.size; have z1 := hK1.size; have z2 := hK2.size; simp <;> omega) _).setCell (by have z0 := hK0.size; have z1 := hK1.size; have z2 := hK2.size; simp <;> omega) _).setCell (by have z0 := hK0.size; have z1 := hK1.size; have z2 := hK2.size; simp <;> omega) _) | exact HKEEP _ (hK2.alloc hK2.size _) | exact HKEEP _ hK1 | exact HKEEP _ (hK1.alloc hK1.size _) | exact HKEEP _ hK0 | exact HKEEP _ (hK0.alloc hK0.size _) | exact HKEEP _ ((Below.refl _ _).alloc (Nat.le_refl _) _).drew)
      (first
        | (go_at_call 14; refine (lwScalar_any (n2 : Int) _).mono ?_; rintro e w1 ⟨gb1, rfl, hB1, hb1⟩; have hK1 : Below W6.heap.size W6 w1 := (by first | exact hK0.trans (hb1.mono hK0.size) | exact (hK0.alloc hK0.size _).trans (hb1.mono (by have := hK0.size; simp; omega)) | exact (((Below.refl _ _).alloc (Nat.le_refl _) _).drew).trans (hb1.mono (by simp))); (first | have hP1 := (Box.new _ _ _ _).below (Nat.le_refl _) hb1 | have hP1 := (Box.new _ _ _ _).drew.below (Nat.le_refl _) hb1 | skip); have hB1_1 := hB1.row; obtain ⟨_, ⟨xF0, xF1, xF2⟩, ⟨xA0, xA1, xA2⟩⟩ := HKEEP _ hK1)
        | (go_at_call 13; refine (implScalar2_any 12 false false e1F e2F none (some ⟨gb1, 0, none⟩) k1F k2F 0 1 f1F f2F 0 1 sh' fv [] [(n2 : Int)] _ ((unhide XF).r1.below (Nat.le_refl _) (by first | exact hK1 | exact hK1.alloc hK1.size _)) ((unhide XF).r2.below (Nat.le_refl _) (by first | exact hK1 | exact hK1.alloc hK1.size _)) (row_nil _ _) (by first | exact hB1_1 | exact hB1_1.alloc _) ga gb ((unhide HG).below (by first | exact hK1 | exact hK1.alloc hK1.size _))).mono ?_; rintro e w2 ⟨e1, k1, f1, e2, k2, f2, rfl, hE1, hE2, _, hb2⟩; have hF1 := hE1.row; have hF2 := hE2.row; clear hE1 hE2; (have HR' := unhide HRL; rw [HR'] at hF1 hF2 ⊢; simp only at hF1 hF2 ⊢; clear HR'); have hK2 : Below W6.heap.size W6 w2 := (by first | exact hK1.trans (hb2.mono hK1.size) | exact (hK1.alloc hK1.size _).trans (hb2.mono (by have := hK1.size; simp; omega))); (first | (have hP2 := hP1.below (Nat.le_refl _) hb2; obtain ⟨u0, u1, u2, u3, u4, u5, u6⟩ := hP2.free'; (try simp at u0 u1 u2 u3 u4 u5 u6)) | (have hP2 := (Box.new _ _ _ _).below (Nat.le_refl _) hb2; obtain ⟨u0, u1, u2, u3, u4, u5, u6⟩ := hP2.free'; (try simp at u0 u1 u2 u3 u4 u5 u6)) | (have hP2 := (Box.new _ _ _ _).drew.below (Nat.le_refl _) hb2; obtain ⟨u0, u1, u2, u3, u4, u5, u6⟩ := hP2.free'; (try simp at u0 u1 u2 u3 u4 u5 u6)) | skip)))
    all_goals go_wp2_with fail
    all_goals (go_meet; case rel => first | exact ⟨rfl, _, _, _, _, _, _, _, rfl, Var.new hF1 hF2, hK2.alloc hK2.size _⟩ | exact ⟨rfl, _, _, _, _, _, _, _, rfl, Var.put hP2 hF1 hF2, ((hK2.setCell (by have z0 := hK0.size; have z1 := hK1.size; have z2 := hK2.size; simp <;> omega) _).setCell (by have z0 := hK0.size; have z1 := hK1.size; have z2 := hK2.size; simp <;> omega) _).setCell (by have z0 := hK0.size; have z1 := hK1.size; have z2 := hK2.size; simp <;> omega) _⟩)
  case rest =>
  obtain ⟨W7, hwc⟩ : ∃ x, x = wc := ⟨_, rfl⟩
  subst hwc
  obtain ⟨rfl, pL, e1L, k1L, f1L, e2L, k2L, f2L, rfl, hv, hK⟩ := hcut
  have T_A := hide ((unhide XA).below hK)
  have T_B := hide ((unhide XB).below hK)
  have T_M := hide ((unhide XM).below hK)
  have T_F := hide ((unhide XF).below hK)
  have T_HG := hide ((unhide HG).below hK)
  have T_HB := hide ((unhide HB).trans (hK.mono (unhide HB).size))
  clear HB XA XB XM XF HG
  have XA := T_A
  clear T_A
  have XB := T_B
  clear T_B
  have XM := T_M
  clear T_M
  have XF := T_F
  clear T_F
  have HG := T_HG
  clear T_HG
  have HB := T_HB
  clear T_HB
  have XL := hide hv
  clear hv hK
  go_upto_region 9 with fail
  obtain ⟨x0, x1, x2⟩ := (unhide XA).cells
  obtain ⟨y0, y1, y2⟩ := (unhide XB).cells
  go_cut [11, 12] (fun r6 r7 wr => r7 = .int .i64 0 ∧ ∃ p e1 k1 f1 e2 k2 f2, r6 = .pointer (some ⟨p, 0, none⟩) ∧ Var wr p false e1 k1 f1 e2 k2 f2 sh' mv ∧ Below W7.heap.size W7 wr)
  case first => as_aux_lemma =>
    have hK0 : Below W7.heap.size W7 W7 := Below.refl _ _
    have HKEEP : ∀ wx, Below W7.heap.size W7 wx → Below W7.heap.size W7 wx ∧ (wx.cell? ⟨pA, 0, none⟩ = some (.bool c) ∧ wx.cell? ⟨pA, 1, none⟩ = some (.slice (some a1) 1 c1) ∧ wx.cell? ⟨pA, 2, none⟩ = some (.slice (some a2) n2 c2)) ∧ (wx.cell? ⟨pB, 0, none⟩ = some (.bool d) ∧ wx.cell? ⟨pB, 1, none⟩ = some (.slice (some b1) m1 d1) ∧ wx.cell? ⟨pB, 2, none⟩ = some (.slice (some b2) m2 d2)) := fun wx hwx => ⟨hwx, ((unhide XA).below hwx).cells, ((unhide XB).below hwx).cells⟩
    obtain ⟨_, ⟨xA0, xA1, xA2⟩, ⟨xB0, xB1, xB2⟩⟩ := HKEEP _ (Below.refl _ _)
    go_wp2_with (first
      | (go_at_call 15; refine (Member_any d c b1 b2 a1 a2 _ _ _ _ _ _ _ _ sh' dt' [(n2 : Int)] dt _ ((unhide XB).r1.below (Nat.le_refl _) (by first | exact hK0 | exact hK0.alloc hK0.size _ | exact ((Below.refl _ _).alloc (Nat.le_refl _) _).drew)) ((unhide XB).r2.below (Nat.le_refl _) (by first | exact hK0 | exact hK0.alloc hK0.size _ | exact ((Below.refl _ _).alloc (Nat.le_refl _) _).drew)) ((unhide XA).r1.below (Nat.le_refl _) (by first | exact hK0 | exact hK0.alloc hK0.size _ | exact ((Below.refl _ _).alloc (Nat.le_refl _) _).drew)) ((unhide XA).r2.below (Nat.le_refl _) (by first | exact hK0 | exact hK0.alloc hK0.size _ | exact ((Below.refl _ _).alloc (Nat.le_refl _) _).drew))).mono ?_; rintro e w1 ⟨e1, k1, f1, e2, k2, f2, rfl, hF1, hF2, hb1⟩; (have HR' := unhide HRM; rw [HR'] at hF1 hF2 ⊢; simp only at hF1 hF2 ⊢; clear HR'); have hK1 : Below W7.heap.size W7 w1 := (by first | exact hK0.trans (hb1.mono hK0.size) | exact (hK0.alloc hK0.size _).trans (hb1.mono (by have := hK0.size; simp; omega)) | exact (((Below.refl _ _).alloc (Nat.le_refl _) _).drew).trans (hb1.mono (by simp)))))
    all_goals (go_meet; case rel => first | exact ⟨rfl, _, _, _, _, _, _, _, rfl, Var.new hF1 hF2, hK1.alloc hK1.size _⟩)
  case rest =>
  obtain ⟨W8, hwc⟩ : ∃ x, x = wc := ⟨_, rfl⟩
  subst hwc
  obtain ⟨rfl, pW, e1W, k1W, f1W, e2W, k2W, f2W, rfl, hv, hK⟩ := hcut
  have T_A := hide ((unhide XA).below hK)
  have T_B := hide ((unhide XB).below hK)
  have T_M := hide ((unhide XM).below hK)
  have T_F := hide ((unhide XF).below hK)
  have T_L := hide ((unhide XL).below hK)
  have T_HG := hide ((unhide HG).below hK)
  have T_HB := hide ((unhide HB).trans (hK.mono (unhide HB).size))
  clear HB XA XB XM XF XL HG
  have XA := T_A
  clear T_A
  have XB := T_B
  clear T_B
  have XM := T_M
  clear T_M
  have XF := T_F
  clear T_F
  have XL := T_L
  clear T_L
  have HG := T_HG
  clear T_HG
  have HB := T_HB
  clear T_HB
  have XW := hide hv
  clear hv hK
  clear x0 x1 x2 y0 y1 y2
  go_upto_region 10 with fail
  go_cut [13, 14] (fun r6 r7 wr => r7 = .int .i64 0 ∧ ∃ p e1 k1 f1 e2 k2 f2, r6 = .pointer (some ⟨p, 0, none⟩) ∧ Var wr p c e1 k1 f1 e2 k2 f2 [(n2 : Int)] dt ∧ Below W8.heap.size W8 wr)
  case first => as_aux_lemma =>
    have hK0 : Below W8.heap.size W8 W8.drew := (Below.refl _ _).drew
    have HKEEP : ∀ wx, Below W8.heap.size W8 wx → Below W8.heap.size W8 wx ∧ (wx.cell? ⟨pA, 0, none⟩ = some (.bool c) ∧ wx.cell? ⟨pA, 1, none⟩ = some (.slice (some a1) 1 c1) ∧ wx.cell? ⟨pA, 2, none⟩ = some (.slice (some a2) n2 c2)) := fun wx hwx => ⟨hwx, ((unhide XA).below hwx).cells⟩
    obtain ⟨_, ⟨xA0, xA1, xA2⟩⟩ := HKEEP _ (Below.refl _ _)
    go_region_held (fun wx => Below W8.heap.size W8 wx ∧ (wx.cell? ⟨pA, 0, none⟩ = some (.bool c) ∧ wx.cell? ⟨pA, 1, none⟩ = some (.slice (some a1) 1 c1) ∧ wx.cell? ⟨pA, 2, none⟩ = some (.slice (some a2) n2 c2))) (first | exact HKEEP _ hK3 | exact HKEEP _ (((hK3.setCell (by have z0 := hK0.size; have z1 := hK1.size; have z2 := hK2.size; have z3 := hK3.size; simp <;> omega) _).setCell (by have z0 := hK0.size; have z1 := hK1.size; have z2 := hK2.size; have z3 := hK3.size; simp <;> omega) _).setCell (by have z0 := hK0.size; have z1 := hK1.size; have z2 := hK2.size; have z3 := hK3.size; simp <;> omega) _) | exact HKEEP _ (hK3.alloc hK3.size _) | exact HKEEP _ hK2 | exact HKEEP _ (hK2.alloc hK2.size _) | exact HKEEP _ hK1 | exact HKEEP _ (hK1.alloc hK1.size _) | exact HKEEP _ hK0 | exact HKEEP _ (hK0.alloc hK0.size _) | exact HKEEP _ ((Below.refl _ _).alloc (Nat.le_refl _) _).drew)
      (first
        | (go_at_call 14; refine (lwScalar_any 1 _).mono ?_; rintro e w1 ⟨gb1, rfl, hB1, hb1⟩; have hK1 : Below W8.heap.size W8 w1 := (by first | exact hK0.trans (hb1.mono hK0.size) | exact (hK0.alloc hK0.size _).trans (hb1.mono (by have := hK0.size; simp; omega)) | exact (((Below.refl _ _).alloc (Nat.le_refl _) _).drew).trans (hb1.mono (by simp))); (first | have hP1 := (Box.new _ _ _ _).below (Nat.le_refl _) hb1 | have hP1 := (Box.new _ _ _ _).drew.below (Nat.le_refl _) hb1 | skip); have hB1_1 := hB1.row; obtain ⟨_, ⟨xA0, xA1, xA2⟩⟩ := HKEEP _ hK1)
        | (go_at_call_of 11 (Value.slice (some a1) 1 c1); refine (lwArray_src c (some a1) (some a2) 1 n2 c1 c2 [(n2 : Int)] dt _ (Src.of ((unhide XA).r1.below (Nat.le_refl _) (by first | exact hK1 | exact hK1.alloc hK1.size _))) (Src.of ((unhide XA).r2.below (Nat.le_refl _) (by first | exact hK1 | exact hK1.alloc hK1.size _))) (by omega) (by omega)).mono ?_; rintro e w2 ⟨ga2, gb2, da2, db2, rfl, hA2, hB2, _, _, hb2⟩; have hK2 : Below W8.heap.size W8 w2 := (by first | exact hK1.trans (hb2.mono hK1.size) | exact (hK1.alloc hK1.size _).trans (hb2.mono (by have := hK1.size; simp; omega))); (first | have hP2 := hP1.below (Nat.le_refl _) hb2 | have hP2 := (Box.new _ _ _ _).below (Nat.le_refl _) hb2 | have hP2 := (Box.new _ _ _ _).drew.below (Nat.le_refl _) hb2 | skip); have hB1_2 : Row w2 (some ⟨gb1, 0, none⟩) 1 [1] := (by first | exact hB1_1.below (Nat.le_refl _) hb2 | exact (hB1_1.alloc _).below (Nat.le_refl _) hb2); have hA2_2 := hA2.row; have hB2_2 := hB2.row; obtain ⟨_, ⟨xA0, xA1, xA2⟩⟩ := HKEEP _ hK2)
        | (go_at_call 16; refine (implReplicate_any false c none (some ⟨gb1, 0, none⟩) (some ⟨ga2, 0, none⟩) (some ⟨gb2, 0, none⟩) 0 1 1 n2 0 1 _ _ [] [1] [(n2 : Int)] dt false _ (row_nil _ _) (by first | exact hB1_2 | exact hB1_2.alloc _) (by first | exact hA2_2 | exact hA2_2.alloc _) (by first | exact hB2_2 | exact hB2_2.alloc _)).mono ?_; rintro e w3 ⟨e1, k1, f1, e2, k2, f2, rfl, hE1, hE2, _, hb3⟩; have hF1 := hE1.row; have hF2 := hE2.row; clear hE1 hE2; (have HR' := unhide HRO; rw [HR'] at hF1 hF2 ⊢; simp only at hF1 hF2 ⊢; clear HR'); have hK3 : Below W8.heap.size W8 w3 := (by first | exact hK2.trans (hb3.mono hK2.size) | exact (hK2.alloc hK2.size _).trans (hb3.mono (by have := hK2.size; simp; omega))); (first | (have hP3 := hP2.below (Nat.le_refl _) hb3; obtain ⟨u0, u1, u2, u3, u4, u5, u6⟩ := hP3.free'; (try simp at u0 u1 u2 u3 u4 u5 u6)) | (have hP3 := (Box.new _ _ _ _).below (Nat.le_refl _) hb3; obtain ⟨u0, u1, u2, u3, u4, u5, u6⟩ := hP3.free'; (try simp at u0 u1 u2 u3 u4 u5 u6)) | (have hP3 := (Box.new _ _ _ _).drew.below (Nat.le_refl _) hb3; obtain ⟨u0, u1, u2, u3, u4, u5, u6⟩ := hP3.free'; (try simp at u0 u1 u2 u3 u4 u5 u6)) | skip)))
    all_goals go_wp2_with fail
    all_goals (go_meet; case rel => first | exact ⟨rfl, _, _, _, _, _, _, _, rfl, Var.new hF1 hF2, hK3.alloc hK3.size _⟩ | exact ⟨rfl, _, _, _, _, _, _, _, rfl, Var.put hP3 hF1 hF2, ((hK3.setCell (by have z0 := hK0.size; have z1 := hK1.size; have z2 := hK2.size; have z3 := hK3.size; simp <;> omega) _).setCell (by have z0 := hK0.size; have z1 := hK1.size; have z2 := hK2.size; have z3 := hK3.size; simp <;> omega) _).setCell (by have z0 := hK0.size; have z1 := hK1.size; have z2 := hK2.size; have z3 := hK3.size; simp <;> omega) _⟩)
  case rest =>
  obtain ⟨W9, hwc⟩ : ∃ x, x = wc := ⟨_, rfl⟩
  subst hwc
  obtain ⟨rfl, pO, e1O, k1O, f1O, e2O, k2O, f2O, rfl, hv, hK⟩ := hcut
  have T_A := hide ((unhide XA).below hK)
  have T_B := hide ((unhide XB).below hK)
  have T_M := hide ((unhide XM).below hK)
  have T_F := hide ((unhide XF).below hK)
  have T_L := hide ((unhide XL).below hK)
  have T_W := hide ((unhide XW).below hK)
  have T_HG := hide ((unhide HG).below hK)
  have T_HB := hide ((unhide HB).trans (hK.mono (unhide HB).size))
  clear HB XA XB XM XF XL XW HG
  have XA := T_A
  clear T_A
  have XB := T_B
  clear T_B
  have XM := T_M
  clear T_M
  have XF := T_F
  clear T_F
  have XL := T_L
  clear T_L
  have XW := T_W
  clear T_W
  have HG := T_HG
  clear T_HG
  have HB := T_HB
  clear T_HB
  have XO := hide hv
  clear hv hK
  obtain ⟨x0, x1, x2⟩ := (unhide XM).cells
  obtain ⟨y0, y1, y2⟩ := (unhide XW).cells
  go_wp2_with (first
    | (go_at_call_of 17 (Value.slice e1W k1W f1W); refine (eqArray_refl _ _ _ _ _ _ _ _ _ _ _ _ _ sh' mv _ (unhide XM).r1 (unhide XM).r2 (unhide XW).r1 (unhide XW).r2).mono ?_; rintro e wA ⟨rfl, hK⟩; have YM := hide ((unhide XM).below hK); have YL := hide ((unhide XL).below hK); have YO := hide ((unhide XO).below hK); have YA := hide ((unhide XA).below hK); have YB := hide ((unhide HB).trans (hK.mono (unhide HB).size)); clear hK x0 x1 x2 y0 y1 y2; obtain ⟨x0, x1, x2⟩ := (unhide YM).cells; obtain ⟨y0, y1, y2⟩ := (unhide YL).cells)
    | (go_at_call_of 17 (Value.slice e1L k1L f1L); refine (eqArray_refl _ _ _ _ _ _ _ _ _ _ _ _ _ sh' mv _ (unhide YM).r1 (unhide YM).r2 (unhide YL).r1 (unhide YL).r2).mono ?_; rintro e wB ⟨rfl, hK⟩; have ZO := hide ((unhide YO).below hK); have ZA := hide ((unhide YA).below hK); have ZB := hide ((unhide YB).trans (hK.mono (unhide YB).size)); clear hK x0 x1 x2 y0 y1 y2; obtain ⟨x0, x1, x2⟩ := (unhide ZO).cells; obtain ⟨y0, y1, y2⟩ := (unhide ZA).cells)
    | (go_at_call_of 17 (Value.slice e1O k1O f1O); refine (eqArray_refl _ _ _ _ _ _ _ _ _ _ _ _ _ [(n2 : Int)] dt _ (unhide ZO).r1 (unhide ZO).r2 (unhide ZA).r1 (unhide ZA).r2).mono ?_; rintro e wC ⟨rfl, hK⟩; have ZC := hide ((unhide ZB).trans (hK.mono (unhide ZB).size)); clear hK))
  exact bodyPost_ret (v := .bool true) (by simp [results, Tryz.results3, go_sem]) rfl ⟨rfl, unhide ZC⟩

end Go.Proofs.YtkgcmpmgaghdhaaGreatDoor
