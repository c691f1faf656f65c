import Derived.Test.YtkgcmpmgaghdhaaGreatDoorMFit0
import Derived.Test.YtkgcmpmgaghdhaaGreatDoorMFit1
import Derived.Test.YtkgcmpmgaghdhaaGreatDoorMFit1
import Derived.Test.YtkgcmpmgaghdhaaGreatDoorMFit1
import Derived.Test.YtkgcmpmgaghdhaaGreatDoorMFit1
import Derived.Test.YtkgcmpmgaghdhaaGreatDoorMFit0
import Derived.Test.YtkgcmpmgaghdhaaGreatDoorImplReshapeA
import Derived.Test.YtkgcmpmgaghdhaaGreatDoorSpecScalar2
import Derived.Test.YtkgcmpmgaghdhaaGreatDoorImplScalar2W
import Derived.Test.YtkgcmpmgaghdhaaGreatDoorMFit0
import Derived.Deep.RegionHeld
import Derived.Deep.DeepCutAuto
namespace Go.Proofs.YtkgcmpmgaghdhaaGreatDoor
open Go.RowKit

set_option maxRecDepth 20000 in
set_option maxHeartbeats 16000000 in
theorem law_Extended (ga gb : Addr) (a : Option Addr) (n cn : Nat) (w : World) (hby : Bytes w a n) (hc : n ≤ cn) (hn : n ≤ 1048576) (hG : Gl w ga gb) :
    Calls Tryz.prog 4 #[.slice a n cn] w fun e w' => e = .returned (.bool true) ∧ Below w.heap.size w w' := by
  have hcall := DrawScalar2_any a n cn w hby hc hn
  have hnz : ¬ (1048576 : Int) < (n : Int) := by omega
  have HG0 := hide hG
  clear hby hc hG
  go_enter Tryz.func4, Tryz.ntmps4
  go_upto_region 4 with (go_at_call 18; refine hcall.mono ?_; rintro e w1 ⟨op, c, d, a1, a2, b1, b2, n1, n2, m1, m2, c1, c2, d1, d2, sh, dt, sh', dt', rfl, r1, r2, q1, q2, h1, h2, h3, h4, hb1⟩; have R1 := hide r1; have R2 := hide r2; have Q1 := hide q1; have Q2 := hide q2; have HB1 := hide hb1; clear r1 r2 q1 q2 hb1)
  clear hcall
  obtain ⟨W, hW⟩ : ∃ W, W = (w1.alloc (.cells #[.bool c, .slice (some a1) n1 c1, .slice (some a2) n2 c2] 25)).alloc (.cells #[.bool d, .slice (some b1) m1 d1, .slice (some b2) m2 d2] 25) := ⟨_, rfl⟩
  obtain ⟨pA, hpA⟩ : ∃ P, P = w1.heap.size := ⟨_, rfl⟩
  obtain ⟨pB, hpB⟩ : ∃ P, P = w1.heap.size + 1 := ⟨_, rfl⟩
  have XA : Hid (Var W pA c (some a1) n1 c1 (some a2) n2 c2 sh dt) := by
    rw [hW, hpA]; exact (Var.new (unhide R1) (unhide R2)).below ((Below.refl _ _).alloc (Nat.le_refl _) _)
  have XB : Hid (Var W pB d (some b1) m1 d1 (some b2) m2 d2 sh' dt') := by
    rw [hW, hpB]
    have := Var.new (c := d) (f1 := d1) (f2 := d2) ((unhide Q1).alloc (.cells #[.bool c, .slice (some a1) n1 c1, .slice (some a2) n2 c2] 25)) ((unhide Q2).alloc (.cells #[.bool c, .slice (some a1) n1 c1, .slice (some a2) n2 c2] 25))
    rwa [World.size_alloc] at this
  have HB : Hid (Below w.heap.size w W) := by rw [hW]; exact ((unhide HB1).alloc (unhide HB1).size _).alloc (by have := (unhide HB1).size; simp; omega) _
  rw [← hW, ← hpB, ← hpA]
  clear hW hpA hpB R1 R2 Q1 Q2 HB1
  obtain ⟨r, hr⟩ : ∃ r, arrOk c sh dt = r := ⟨_, rfl⟩
  have HR := hide hr
  obtain ⟨q, hq⟩ : ∃ q, arrOk d sh' dt' = q := ⟨_, rfl⟩
  have HQ := hide hq
  clear hr hq
  obtain ⟨x0, x1, x2⟩ := (unhide XA).cells
  obtain ⟨y0, y1, y2⟩ := (unhide XB).cells
  cases r with
  | false =>
    go_wp2_with (go_at_call 9; refine (ArrayOk_eq _ _ _ _ _ _ _ sh dt _ (unhide XA).r1 (unhide XA).r2 _ HR).mono ?_; rintro e w3 ⟨rfl, hb3⟩; have HB3 := hide ((unhide HB).trans (hb3.mono (unhide HB).size)); clear hb3)
    exact bodyPost_ret (v := .bool true) (by simp [results, Tryz.results4, go_sem]) rfl ⟨rfl, unhide HB3⟩
  | true =>
  cases q with
  | false =>
    go_wp2_with (first | (go_at_call_of 9 (Value.slice (some a1) n1 c1); refine (ArrayOk_eq _ _ _ _ _ _ _ sh dt _ (unhide XA).r1 (unhide XA).r2 _ HR).mono ?_; rintro e w3 ⟨rfl, hb3⟩; have HB3 := hide ((unhide HB).trans (hb3.mono (unhide HB).size)); have X3 := hide ((unhide XB).below hb3); obtain ⟨z0, z1, z2⟩ := (unhide X3).cells; clear hb3) | (go_at_call_of 9 (Value.slice (some b1) m1 d1); refine (ArrayOk_eq _ _ _ _ _ _ _ sh' dt' _ (unhide X3).r1 (unhide X3).r2 _ HQ).mono ?_; rintro e w4 ⟨rfl, hb4⟩; have HB4 := hide ((unhide HB3).trans (hb4.mono (unhide HB3).size)); clear hb4))
    exact bodyPost_ret (v := .bool true) (by simp [results, Tryz.results4, go_sem]) rfl ⟨rfl, unhide HB4⟩
  | true =>
  go_upto_if 40 with (first | (go_at_call_of 9 (Value.slice (some a1) n1 c1); refine (ArrayOk_eq _ _ _ _ _ _ _ sh dt _ (unhide XA).r1 (unhide XA).r2 _ HR).mono ?_; rintro e w3 ⟨rfl, hb3⟩; have HB3 := hide ((unhide HB).trans (hb3.mono (unhide HB).size)); have X3 := hide ((unhide XB).below hb3); obtain ⟨z0, z1, z2⟩ := (unhide X3).cells; have Y3 := hide ((unhide XA).below hb3); clear hb3) | (go_at_call_of 9 (Value.slice (some b1) m1 d1); refine (ArrayOk_eq _ _ _ _ _ _ _ sh' dt' _ (unhide X3).r1 (unhide X3).r2 _ HQ).mono ?_; rintro e w4 ⟨rfl, hb4⟩; have HB4 := hide ((unhide HB3).trans (hb4.mono (unhide HB3).size)); have Y4 := hide ((unhide Y3).below hb4); have X4 := hide ((unhide X3).below hb4); clear hb4) | (go_at_call 14; refine (lwScalar_any 3 _).mono ?_; rintro e w5 ⟨gs, rfl, hOs, hb5⟩; have HB5 := hide ((unhide HB4).trans (hb5.mono (unhide HB4).size)); have Y5 := hide ((unhide Y4).below hb5); have X5 := hide ((unhide X4).below hb5); have O5 := hide hOs.row; obtain ⟨u0, u1, u2⟩ := (((unhide Y5).below ((Below.refl _ _).alloc (Nat.le_refl _) (.cells #[.bool false, .slice none 0 0, .slice (some ⟨gs, 0, none⟩) 1 1] 25)))).cells; clear hb5 hOs))
  clear XA XB HB HB3 X3 Y3 HB4 X4 Y4 x0 x1 x2 y0 y1 y2 z0 z1 z2
  obtain ⟨V, hV⟩ : ∃ V, V = w5.alloc (.cells #[.bool false, .slice none 0 0, .slice (some ⟨gs, 0, none⟩) 1 1] 25) := ⟨_, rfl⟩
  obtain ⟨pS, hpS⟩ : ∃ P, P = w5.heap.size := ⟨_, rfl⟩
  have hKV : Below w5.heap.size w5 V := by rw [hV]; exact (Below.refl _ _).alloc (Nat.le_refl _) _
  have XA := hide ((unhide Y5).below hKV)
  have XB := hide ((unhide X5).below hKV)
  have HB := hide ((unhide HB5).trans (hKV.mono (unhide HB5).size))
  have XS : Hid (Var V pS false none 0 0 (some ⟨gs, 0, none⟩) 1 1 [] [3]) := by rw [hV, hpS]; exact Var.new (row_nil _ _) (unhide O5)
  rw [← hV, ← hpS]
  rw [← hV] at u0 u1 u2
  have hpw : w.heap.size ≤ pS := by rw [hpS]; exact (unhide HB5).size
  have hne : ¬ pS = pA := by rw [hpS]; have := (unhide Y5).box.lt; omega
  have hne' : ¬ pS = pB := by rw [hpS]; have := (unhide X5).box.lt; omega
  clear hV hpS hKV Y5 X5 HB5 O5
  clear w1 W w3 w4 w5
  go_cut [] (fun wr => ∃ cs v e1 k1 f1 e2 k2 f2, dataOk cs v = true ∧ Var wr pS cs e1 k1 f1 e2 k2 f2 [] [v] ∧ But (fun y => y = pS) V wr)
  case first => as_aux_lemma =>
    by_cases h0 : 0 < n2
    · have g0 : decide ((0 : Int) < (n2 : Int)) = true := by simp; omega
      obtain ⟨b, off, eb, hlt, hcell⟩ := (unhide XA).r2.get h0
      cases eb
      rw [Nat.add_zero] at hcell
      obtain ⟨v, hv⟩ : ∃ v, v = dt.getD 0 0 := ⟨_, rfl⟩
      rw [← hv] at hcell
      have HD : Hid (dataOk c v = true) := by
        have hl := (unhide XA).r2.len
        have := unhide HR
        unfold arrOk at this
        simp only [Bool.and_eq_true] at this
        have hm := List.all_eq_true.1 this.2.2 v
        refine hm ?_
        rw [hv]
        have hl0 : 0 < dt.length := by omega
        simp [List.getD, hl0]
      obtain ⟨s0, s1, s2, s3, s4, s5, s6⟩ := (unhide XS).box.all
      obtain ⟨t0, t1, t2, t3, t4, t5, t6⟩ := (unhide XA).box.all
      clear hv
      go_wp2_with fail
      go_region
      all_goals go_wp2_with fail
      all_goals
        go_meet
        case rel =>
          have hbx := ((unhide XS).box.sets (c' := c) (u1 := .slice none 0 0) (u2 := .slice (some ⟨V.heap.size, 0, none⟩) 1 1)).alloc (.cells #[.int .i64 v] 3)
          have hnew := World.alloc_heap_new (((V.setCell ⟨pS, 0, none⟩ (.bool c)).setCell ⟨pS, 1, none⟩ (.slice none 0 0)).setCell ⟨pS, 2, none⟩ (.slice (some ⟨V.heap.size, 0, none⟩) 1 1)) (.cells #[.int .i64 v] 3)
          have hblk : Blk ((((V.setCell ⟨pS, 0, none⟩ (.bool c)).setCell ⟨pS, 1, none⟩ (.slice none 0 0)).setCell ⟨pS, 2, none⟩ (.slice (some ⟨V.heap.size, 0, none⟩) 1 1)).alloc (.cells #[.int .i64 v] 3)) V.heap.size [v] := by simpa [Blk] using hnew
          have hbut : But (fun y => y = pS) V ((((V.setCell ⟨pS, 0, none⟩ (.bool c)).setCell ⟨pS, 1, none⟩ (.slice none 0 0)).setCell ⟨pS, 2, none⟩ (.slice (some ⟨V.heap.size, 0, none⟩) 1 1)).alloc (.cells #[.int .i64 v] 3)) := (((((But.refl (fun y => y = pS) V).setCell (p := ⟨pS, 0, none⟩) rfl _).setCell (p := ⟨pS, 1, none⟩) rfl _).setCell (p := ⟨pS, 2, none⟩) rfl _).trans (But.of_below (S := fun y => y = pS) ((Below.refl _ _).alloc (Nat.le_refl _) _))).mono (by rintro x (h | h) <;> exact h)
          exact ⟨c, v, none, 0, 0, some ⟨V.heap.size, 0, none⟩, 1, 1, unhide HD, Var.below ⟨hbx, row_nil _ _, hblk.row rfl (by omega)⟩ (Below.refl _ _).drew, (hbut.trans (But.of_below (S := fun y => y = pS) (Below.refl _ _).drew)).mono (by rintro x (h | h) <;> exact h)⟩
    · have g0 : decide ((0 : Int) < (n2 : Int)) = false := by simp; omega
      go_wp2_with fail
      go_meet
      case rel => exact ⟨false, 3, _, _, _, _, _, _, by decide, unhide XS, But.refl _ _⟩
  case rest =>
  obtain ⟨U, hU⟩ : ∃ x, x = wc := ⟨_, rfl⟩
  subst hU
  obtain ⟨cs, v, e1S, k1S, f1S, e2S, k2S, f2S, hdv, hv, hb⟩ := hcut
  have HDV := hide hdv
  have YA := hide ((unhide XA).but (unhide XS).box hb (fun e => hne e.symm))
  have YB := hide ((unhide XB).but (unhide XS).box hb (fun e => hne' e.symm))
  have YS := hide hv
  have ZB := hide ((unhide HB).trans (hb.below (unhide HB).size (fun x hx => by omega)))
  clear XA XB XS HB hb hv u0 u1 u2 hne hne' hpw hdv
  have XA := YA
  have XB := YB
  have XS := YS
  have HB := ZB
  clear YA YB YS ZB
  have HG := hide ((unhide HG0).below (unhide HB))
  have hk1S : k1S ≤ 1 := by have := (unhide XS).r1.len; simp at this; omega
  have hk2S : k2S ≤ 1 := by have := (unhide XS).r2.len; simp at this; omega
  have hlenB := (unhide XB).r1.len
  have HRW := hide (wide_is (unhide HDV) (unhide HQ) m1 hlenB)
  have HEL := hide (ext_left (op := (op : Int)) (unhide HDV) (unhide HQ))
  have HER := hide (ext_right (op := (op : Int)) (unhide HDV) (unhide HQ))
  have hrl : (repl dt'.length v).length ≤ 10001 := by have := (unhide XB).r2.len; simp [repl]; omega
  obtain ⟨wv, hwv⟩ : ∃ x, x = repl dt'.length v := ⟨_, rfl⟩
  rw [← hwv] at HRW HEL HER hrl
  obtain ⟨rc, rsh, rdt, rp, hrx⟩ : ∃ rc rsh rdt rp, scalar2 (op : Int) cs d [] [v] sh' dt' = ⟨rc, rsh, rdt, rp⟩ := ⟨_, _, _, _, rfl⟩
  obtain ⟨uc, ush, udt, up, hru⟩ : ∃ rc rsh rdt rp, scalar2 (op : Int) d cs sh' dt' [] [v] = ⟨rc, rsh, rdt, rp⟩ := ⟨_, _, _, _, rfl⟩
  have HRX := hide hrx
  have HRU := hide hru
  have HRY : Hid (scalar2 (op : Int) cs d sh' wv sh' dt' = ⟨rc, rsh, rdt, rp⟩) := (unhide HEL).trans hrx
  have HRV : Hid (scalar2 (op : Int) d cs sh' dt' sh' wv = ⟨uc, ush, udt, up⟩) := (unhide HER).trans hru
  clear hwv hrx hru HEL HER hlenB
  go_upto_region 9 with fail
  go_cut [7, 8] (fun r6 r7 wr => r7 = .int .i64 0 ∧ ∃ p e1 k1 f1 e2 k2 f2, r6 = .pointer (some ⟨p, 0, none⟩) ∧ Var wr p cs e1 k1 f1 e2 k2 f2 sh' wv ∧ Below U.heap.size U wr)
  case first => as_aux_lemma =>
    have hK0 : Below U.heap.size U U.drew := (Below.refl _ _).drew
    have HKEEP : ∀ wx, Below U.heap.size U wx → Below U.heap.size U wx ∧ (wx.cell? ⟨pB, 0, none⟩ = some (.bool d) ∧ wx.cell? ⟨pB, 1, none⟩ = some (.slice (some b1) m1 d1) ∧ wx.cell? ⟨pB, 2, none⟩ = some (.slice (some b2) m2 d2)) ∧ (wx.cell? ⟨pS, 0, none⟩ = some (.bool cs) ∧ wx.cell? ⟨pS, 1, none⟩ = some (.slice e1S k1S f1S) ∧ wx.cell? ⟨pS, 2, none⟩ = some (.slice e2S k2S f2S)) := fun wx hwx => ⟨hwx, ((unhide XB).below hwx).cells, ((unhide XS).below hwx).cells⟩
    obtain ⟨_, ⟨xB0, xB1, xB2⟩, ⟨xS0, xS1, xS2⟩⟩ := HKEEP _ (Below.refl _ _)
    go_region_held (fun wx => Below U.heap.size U wx ∧ (wx.cell? ⟨pB, 0, none⟩ = some (.bool d) ∧ wx.cell? ⟨pB, 1, none⟩ = some (.slice (some b1) m1 d1) ∧ wx.cell? ⟨pB, 2, none⟩ = some (.slice (some b2) m2 d2)) ∧ (wx.cell? ⟨pS, 0, none⟩ = some (.bool cs) ∧ wx.cell? ⟨pS, 1, none⟩ = some (.slice e1S k1S f1S) ∧ wx.cell? ⟨pS, 2, none⟩ = some (.slice e2S k2S f2S))) (first | exact HKEEP _ hK3 | exact HKEEP _ (((hK3.setCell (by have z0 := hK0.size; have z1 := hK1.size; have z2 := hK2.size; have z3 := hK3.size; simp <;> omega) _).setCell (by have z0 := hK0.size; have z1 := hK1.size; have z2 := hK2.size; have z3 := hK3.size; simp <;> omega) _).setCell (by have z0 := hK0.size; have z1 := hK1.size; have z2 := hK2.size; have z3 := hK3.size; simp <;> omega) _) | exact HKEEP _ (hK3.alloc hK3.size _) | exact HKEEP _ hK2 | exact HKEEP _ (hK2.alloc hK2.size _) | exact HKEEP _ hK1 | exact HKEEP _ (hK1.alloc hK1.size _) | exact HKEEP _ hK0 | exact HKEEP _ (hK0.alloc hK0.size _) | exact HKEEP _ ((Below.refl _ _).alloc (Nat.le_refl _) _).drew)
      (first
        | (go_at_call 20; refine (lwVector_some b1 m1 d1 sh' _ ((unhide XB).r1.below (Nat.le_refl _) (by first | exact hK0 | exact hK0.alloc hK0.size _ | exact ((Below.refl _ _).alloc (Nat.le_refl _) _).drew))).mono ?_; rintro e w1 ⟨ga1, gb1, db1, rfl, hA1, hB1, _, hb1⟩; have hK1 : Below U.heap.size U w1 := (by first | exact hK0.trans (hb1.mono hK0.size) | exact (hK0.alloc hK0.size _).trans (hb1.mono (by have := hK0.size; simp; omega)) | exact (((Below.refl _ _).alloc (Nat.le_refl _) _).drew).trans (hb1.mono (by simp))); (first | have hP1 := (Box.new _ _ _ _).below (Nat.le_refl _) hb1 | have hP1 := (Box.new _ _ _ _).drew.below (Nat.le_refl _) hb1 | skip); have hA1_1 := hA1.row; have hB1_1 := hB1.row; obtain ⟨_, ⟨xB0, xB1, xB2⟩, ⟨xS0, xS1, xS2⟩⟩ := HKEEP _ hK1)
        | (go_at_call_of 11 (Value.slice e1S k1S f1S); refine (lwArray_src cs e1S e2S k1S k2S f1S f2S [] [v] _ (Src.of ((unhide XS).r1.below (Nat.le_refl _) (by first | exact hK1 | exact hK1.alloc hK1.size _))) (Src.of ((unhide XS).r2.below (Nat.le_refl _) (by first | exact hK1 | exact hK1.alloc hK1.size _))) (by omega) (by omega)).mono ?_; rintro e w2 ⟨ga2, gb2, da2, db2, rfl, hA2, hB2, _, _, hb2⟩; have hK2 : Below U.heap.size U w2 := (by first | exact hK1.trans (hb2.mono hK1.size) | exact (hK1.alloc hK1.size _).trans (hb2.mono (by have := hK1.size; simp; omega))); (first | have hP2 := hP1.below (Nat.le_refl _) hb2 | have hP2 := (Box.new _ _ _ _).below (Nat.le_refl _) hb2 | have hP2 := (Box.new _ _ _ _).drew.below (Nat.le_refl _) hb2 | skip); have hA1_2 : Row w2 (some ⟨ga1, 0, none⟩) 1 [(m1 : Int)] := (by first | exact hA1_1.below (Nat.le_refl _) hb2 | exact (hA1_1.alloc _).below (Nat.le_refl _) hb2); have hB1_2 : Row w2 (some ⟨gb1, 0, none⟩) m1 sh' := (by first | exact hB1_1.below (Nat.le_refl _) hb2 | exact (hB1_1.alloc _).below (Nat.le_refl _) hb2); have hA2_2 := hA2.row; have hB2_2 := hB2.row; obtain ⟨_, ⟨xB0, xB1, xB2⟩, ⟨xS0, xS1, xS2⟩⟩ := HKEEP _ hK2)
        | (go_at_call 19; refine (implReshape_any false cs ⟨ga1, 0, none⟩ ⟨gb1, 0, none⟩ ⟨ga2, 0, none⟩ ⟨gb2, 0, none⟩ 1 m1 _ _ 1 _ _ _ [(m1 : Int)] sh' [] [v] _ (by first | exact hA1_2 | exact hA1_2.alloc _) (by first | exact hB1_2 | exact hB1_2.alloc _) (by first | exact hA2_2 | exact hA2_2.alloc _) (by first | exact hB2_2 | exact hB2_2.alloc _)).mono ?_; rintro e w3 ⟨e1, k1, f1, e2, k2, f2, rfl, hE1, hE2, _, hb3⟩; have hF1 := hE1.row; have hF2 := hE2.row; clear hE1 hE2; (have HR' := unhide HRW; rw [HR'] at hF1 hF2 ⊢; simp only at hF1 hF2 ⊢; clear HR'); have hK3 : Below U.heap.size U w3 := (by first | exact hK2.trans (hb3.mono hK2.size) | exact (hK2.alloc hK2.size _).trans (hb3.mono (by have := hK2.size; simp; omega))); (first | (have hP3 := hP2.below (Nat.le_refl _) hb3; obtain ⟨u0, u1, u2, u3, u4, u5, u6⟩ := hP3.free'; (try simp at u0 u1 u2 u3 u4 u5 u6)) | (have hP3 := (Box.new _ _ _ _).below (Nat.le_refl _) hb3; obtain ⟨u0, u1, u2, u3, u4, u5, u6⟩ := hP3.free'; (try simp at u0 u1 u2 u3 u4 u5 u6)) | (have hP3 := (Box.new _ _ _ _).drew.below (Nat.le_refl _) hb3; obtain ⟨u0, u1, u2, u3, u4, u5, u6⟩ := hP3.free'; (try simp at u0 u1 u2 u3 u4 u5 u6)) | skip)))
    all_goals go_wp2_with fail
    all_goals (go_meet; case rel => first | exact ⟨rfl, _, _, _, _, _, _, _, rfl, Var.new hF1 hF2, hK3.alloc hK3.size _⟩ | exact ⟨rfl, _, _, _, _, _, _, _, rfl, Var.put hP3 hF1 hF2, ((hK3.setCell (by have z0 := hK0.size; have z1 := hK1.size; have z2 := hK2.size; have z3 := hK3.size; simp <;> omega) _).setCell (by have z0 := hK0.size; have z1 := hK1.size; have z2 := hK2.size; have z3 := hK3.size; simp <;> omega) _).setCell (by have z0 := hK0.size; have z1 := hK1.size; have z2 := hK2.size; have z3 := hK3.size; simp <;> omega) _⟩)
  case rest =>
  obtain ⟨U2, hwc⟩ : ∃ x, x = wc := ⟨_, rfl⟩
  subst hwc
  obtain ⟨rfl, pW, e1W, k1W, f1W, e2W, k2W, f2W, rfl, hv, hK⟩ := hcut
  have T_A := hide ((unhide XA).below hK)
  have T_B := hide ((unhide XB).below hK)
  have T_S := hide ((unhide XS).below hK)
  have T_HG := hide ((unhide HG).below hK)
  have T_HB := hide ((unhide HB).trans (hK.mono (unhide HB).size))
  clear HB XA XB XS HG
  have XA := T_A
  clear T_A
  have XB := T_B
  clear T_B
  have XS := T_S
  clear T_S
  have HG := T_HG
  clear T_HG
  have HB := T_HB
  clear T_HB
  have XW := hide hv
  clear hv hK
  have hk1W : k1W ≤ 6 := by have h1 := (unhide XW).r1.len; have h2 := (unhide XB).r1.len; omega
  have hk2W : k2W ≤ 10001 := by have h1 := (unhide XW).r2.len; omega
  obtain ⟨x0, x1, x2⟩ := (unhide XW).cells
  obtain ⟨y0, y1, y2⟩ := (unhide XB).cells
  go_upto_region 12 with (go_at_call 21; refine (eqIntS_any _ _ _ _ _ _ sh' sh' _ (unhide XW).r1 (unhide XB).r1).mono ?_; rintro e w6 ⟨rfl, q6, rfl⟩; rw [decide_eq_true rfl])
  obtain ⟨U3, hU3⟩ : ∃ x, x = U2.drewN q6 := ⟨_, rfl⟩
  have hK3 : Below U2.heap.size U2 U3 := by rw [hU3]; exact Below.drewN (Below.refl _ _) _
  rw [← hU3]
  have T_A := hide ((unhide XA).below hK3)
  have T_B := hide ((unhide XB).below hK3)
  have T_S := hide ((unhide XS).below hK3)
  have T_W := hide ((unhide XW).below hK3)
  have T_G := hide ((unhide HG).below hK3)
  have T_HB := hide ((unhide HB).trans (hK3.mono (unhide HB).size))
  clear hU3 hK3 XA XB XS XW HG HB x0 x1 x2 y0 y1 y2
  have XA := T_A
  clear T_A
  have XB := T_B
  clear T_B
  have XS := T_S
  clear T_S
  have XW := T_W
  clear T_W
  have HG := T_G
  have HB := T_HB
  clear T_G T_HB
  go_cut [9, 10] (fun r6 r7 wr => r7 = .int .i64 rp ∧ ∃ p e1 k1 f1 e2 k2 f2, r6 = .pointer (some ⟨p, 0, none⟩) ∧ Var wr p rc e1 k1 f1 e2 k2 f2 rsh rdt ∧ Below U3.heap.size U3 wr)
  case first => as_aux_lemma =>
    have hK0 : Below U3.heap.size U3 U3.drew := (Below.refl _ _).drew
    have HKEEP : ∀ wx, Below U3.heap.size U3 wx → Below U3.heap.size U3 wx ∧ (wx.cell? ⟨pS, 0, none⟩ = some (.bool cs) ∧ wx.cell? ⟨pS, 1, none⟩ = some (.slice e1S k1S f1S) ∧ wx.cell? ⟨pS, 2, none⟩ = some (.slice e2S k2S f2S)) ∧ (wx.cell? ⟨pB, 0, none⟩ = some (.bool d) ∧ wx.cell? ⟨pB, 1, none⟩ = some (.slice (some b1) m1 d1) ∧ wx.cell? ⟨pB, 2, none⟩ = some (.slice (some b2) m2 d2)) := fun wx hwx => ⟨hwx, ((unhide XS).below hwx).cells, ((unhide XB).below hwx).cells⟩
    obtain ⟨_, ⟨xS0, xS1, xS2⟩, ⟨xB0, xB1, xB2⟩⟩ := HKEEP _ (Below.refl _ _)
    go_region_held (fun wx => Below U3.heap.size U3 wx ∧ (wx.cell? ⟨pS, 0, none⟩ = some (.bool cs) ∧ wx.cell? ⟨pS, 1, none⟩ = some (.slice e1S k1S f1S) ∧ wx.cell? ⟨pS, 2, none⟩ = some (.slice e2S k2S f2S)) ∧ (wx.cell? ⟨pB, 0, none⟩ = some (.bool d) ∧ wx.cell? ⟨pB, 1, none⟩ = some (.slice (some b1) m1 d1) ∧ wx.cell? ⟨pB, 2, none⟩ = some (.slice (some b2) m2 d2))) (first | exact HKEEP _ hK3 | exact HKEEP _ (((hK3.setCell (by have z0 := hK0.size; have z1 := hK1.size; have z2 := hK2.size; have z3 := hK3.size; simp <;> omega) _).setCell (by have z0 := hK0.size; have z1 := hK1.size; have z2 := hK2.size; have z3 := hK3.size; simp <;> omega) _).setCell (by have z0 := hK0.size; have z1 := hK1.size; have z2 := hK2.size; have z3 := hK3.size; simp <;> omega) _) | exact HKEEP _ (hK3.alloc hK3.size _) | exact HKEEP _ hK2 | exact HKEEP _ (hK2.alloc hK2.size _) | exact HKEEP _ hK1 | exact HKEEP _ (hK1.alloc hK1.size _) | exact HKEEP _ hK0 | exact HKEEP _ (hK0.alloc hK0.size _) | exact HKEEP _ ((Below.refl _ _).alloc (Nat.le_refl _) _).drew)
      (first
        | (go_at_call_of 11 (Value.slice e1S k1S f1S); refine (lwArray_src cs e1S e2S k1S k2S f1S f2S [] [v] _ (Src.of ((unhide XS).r1.below (Nat.le_refl _) (by first | exact hK0 | exact hK0.alloc hK0.size _ | exact ((Below.refl _ _).alloc (Nat.le_refl _) _).drew))) (Src.of ((unhide XS).r2.below (Nat.le_refl _) (by first | exact hK0 | exact hK0.alloc hK0.size _ | exact ((Below.refl _ _).alloc (Nat.le_refl _) _).drew))) (by omega) (by omega)).mono ?_; rintro e w1 ⟨ga1, gb1, da1, db1, rfl, hA1, hB1, _, _, hb1⟩; have hK1 : Below U3.heap.size U3 w1 := (by first | exact hK0.trans (hb1.mono hK0.size) | exact (hK0.alloc hK0.size _).trans (hb1.mono (by have := hK0.size; simp; omega)) | exact (((Below.refl _ _).alloc (Nat.le_refl _) _).drew).trans (hb1.mono (by simp))); (first | have hP1 := (Box.new _ _ _ _).below (Nat.le_refl _) hb1 | have hP1 := (Box.new _ _ _ _).drew.below (Nat.le_refl _) hb1 | skip); have hA1_1 := hA1.row; have hB1_1 := hB1.row; obtain ⟨_, ⟨xS0, xS1, xS2⟩, ⟨xB0, xB1, xB2⟩⟩ := HKEEP _ hK1)
        | (go_at_call_of 11 (Value.slice (some b1) m1 d1); refine (lwArray_src d (some b1) (some b2) m1 m2 d1 d2 sh' dt' _ (Src.of ((unhide XB).r1.below (Nat.le_refl _) (by first | exact hK1 | exact hK1.alloc hK1.size _))) (Src.of ((unhide XB).r2.below (Nat.le_refl _) (by first | exact hK1 | exact hK1.alloc hK1.size _))) (by omega) (by omega)).mono ?_; rintro e w2 ⟨ga2, gb2, da2, db2, rfl, hA2, hB2, _, _, hb2⟩; have hK2 : Below U3.heap.size U3 w2 := (by first | exact hK1.trans (hb2.mono hK1.size) | exact (hK1.alloc hK1.size _).trans (hb2.mono (by have := hK1.size; simp; omega))); (first | have hP2 := hP1.below (Nat.le_refl _) hb2 | have hP2 := (Box.new _ _ _ _).below (Nat.le_refl _) hb2 | have hP2 := (Box.new _ _ _ _).drew.below (Nat.le_refl _) hb2 | skip); have hA1_2 : Row w2 (some ⟨ga1, 0, none⟩) k1S [] := (by first | exact hA1_1.below (Nat.le_refl _) hb2 | exact (hA1_1.alloc _).below (Nat.le_refl _) hb2); have hB1_2 : Row w2 (some ⟨gb1, 0, none⟩) k2S [v] := (by first | exact hB1_1.below (Nat.le_refl _) hb2 | exact (hB1_1.alloc _).below (Nat.le_refl _) hb2); have hA2_2 := hA2.row; have hB2_2 := hB2.row; obtain ⟨_, ⟨xS0, xS1, xS2⟩, ⟨xB0, xB1, xB2⟩⟩ := HKEEP _ hK2)
        | (go_at_call 13; refine (implScalar2_any (op : Int) cs d (some ⟨ga1, 0, none⟩) (some ⟨gb1, 0, none⟩) (some ⟨ga2, 0, none⟩) (some ⟨gb2, 0, none⟩) _ _ _ _ _ _ _ _ [] [v] sh' dt' _ (by first | exact hA1_2 | exact hA1_2.alloc _) (by first | exact hB1_2 | exact hB1_2.alloc _) (by first | exact hA2_2 | exact hA2_2.alloc _) (by first | exact hB2_2 | exact hB2_2.alloc _) ga gb ((unhide HG).below (by first | exact hK2 | exact hK2.alloc hK2.size _))).mono ?_; rintro e w3 ⟨e1, k1, f1, e2, k2, f2, rfl, hE1, hE2, _, hb3⟩; have hF1 := hE1.row; have hF2 := hE2.row; clear hE1 hE2; (have HR' := unhide HRX; rw [HR'] at hF1 hF2 ⊢; simp only at hF1 hF2 ⊢; clear HR'); have hK3 : Below U3.heap.size U3 w3 := (by first | exact hK2.trans (hb3.mono hK2.size) | exact (hK2.alloc hK2.size _).trans (hb3.mono (by have := hK2.size; simp; omega))); (first | (have hP3 := hP2.below (Nat.le_refl _) hb3; obtain ⟨u0, u1, u2, u3, u4, u5, u6⟩ := hP3.free'; (try simp at u0 u1 u2 u3 u4 u5 u6)) | (have hP3 := (Box.new _ _ _ _).below (Nat.le_refl _) hb3; obtain ⟨u0, u1, u2, u3, u4, u5, u6⟩ := hP3.free'; (try simp at u0 u1 u2 u3 u4 u5 u6)) | (have hP3 := (Box.new _ _ _ _).drew.below (Nat.le_refl _) hb3; obtain ⟨u0, u1, u2, u3, u4, u5, u6⟩ := hP3.free'; (try simp at u0 u1 u2 u3 u4 u5 u6)) | skip)))
    all_goals go_wp2_with fail
    all_goals (go_meet; case rel => first | exact ⟨rfl, _, _, _, _, _, _, _, rfl, Var.new hF1 hF2, hK3.alloc hK3.size _⟩ | exact ⟨rfl, _, _, _, _, _, _, _, rfl, Var.put hP3 hF1 hF2, ((hK3.setCell (by have z0 := hK0.size; have z1 := hK1.size; have z2 := hK2.size; have z3 := hK3.size; simp <;> omega) _).setCell (by have z0 := hK0.size; have z1 := hK1.size; have z2 := hK2.size; have z3 := hK3.size; simp <;> omega) _).setCell (by have z0 := hK0.size; have z1 := hK1.size; have z2 := hK2.size; have z3 := hK3.size; simp <;> omega) _⟩)
  case rest =>
  obtain ⟨U4, hwc⟩ : ∃ x, x = wc := ⟨_, rfl⟩
  subst hwc
  obtain ⟨rfl, pX, e1X, k1X, f1X, e2X, k2X, f2X, rfl, hv, hK⟩ := hcut
  have T_A := hide ((unhide XA).below hK)
  have T_B := hide ((unhide XB).below hK)
  have T_S := hide ((unhide XS).below hK)
  have T_W := hide ((unhide XW).below hK)
  have T_HG := hide ((unhide HG).below hK)
  have T_HB := hide ((unhide HB).trans (hK.mono (unhide HB).size))
  clear HB XA XB XS XW HG
  have XA := T_A
  clear T_A
  have XB := T_B
  clear T_B
  have XS := T_S
  clear T_S
  have XW := T_W
  clear T_W
  have HG := T_HG
  clear T_HG
  have HB := T_HB
  clear T_HB
  have XX := hide hv
  clear hv hK
  go_upto_region 13 with fail
  go_cut [11, 12] (fun r6 r7 wr => r7 = .int .i64 rp ∧ ∃ p e1 k1 f1 e2 k2 f2, r6 = .pointer (some ⟨p, 0, none⟩) ∧ Var wr p rc e1 k1 f1 e2 k2 f2 rsh rdt ∧ Below U4.heap.size U4 wr)
  case first => as_aux_lemma =>
    have hK0 : Below U4.heap.size U4 U4.drew := (Below.refl _ _).drew
    have HKEEP : ∀ wx, Below U4.heap.size U4 wx → Below U4.heap.size U4 wx ∧ (wx.cell? ⟨pW, 0, none⟩ = some (.bool cs) ∧ wx.cell? ⟨pW, 1, none⟩ = some (.slice e1W k1W f1W) ∧ wx.cell? ⟨pW, 2, none⟩ = some (.slice e2W k2W f2W)) ∧ (wx.cell? ⟨pB, 0, none⟩ = some (.bool d) ∧ wx.cell? ⟨pB, 1, none⟩ = some (.slice (some b1) m1 d1) ∧ wx.cell? ⟨pB, 2, none⟩ = some (.slice (some b2) m2 d2)) := fun wx hwx => ⟨hwx, ((unhide XW).below hwx).cells, ((unhide XB).below hwx).cells⟩
    obtain ⟨_, ⟨xW0, xW1, xW2⟩, ⟨xB0, xB1, xB2⟩⟩ := HKEEP _ (Below.refl _ _)
    go_region_held (fun wx => Below U4.heap.size U4 wx ∧ (wx.cell? ⟨pW, 0, none⟩ = some (.bool cs) ∧ wx.cell? ⟨pW, 1, none⟩ = some (.slice e1W k1W f1W) ∧ wx.cell? ⟨pW, 2, none⟩ = some (.slice e2W k2W f2W)) ∧ (wx.cell? ⟨pB, 0, none⟩ = some (.bool d) ∧ wx.cell? ⟨pB, 1, none⟩ = some (.slice (some b1) m1 d1) ∧ wx.cell? ⟨pB, 2, none⟩ = some (.slice (some b2) m2 d2))) (first | exact HKEEP _ hK3 | exact HKEEP _ (((hK3.setCell (by have z0 := hK0.size; have z1 := hK1.size; have z2 := hK2.size; have z3 := hK3.size; simp <;> omega) _).setCell (by have z0 := hK0.size; have z1 := hK1.size; have z2 := hK2.size; have z3 := hK3.size; simp <;> omega) _).setCell (by have z0 := hK0.size; have z1 := hK1.size; have z2 := hK2.size; have z3 := hK3.size; simp <;> omega) _) | exact HKEEP _ (hK3.alloc hK3.size _) | exact HKEEP _ hK2 | exact HKEEP _ (hK2.alloc hK2.size _) | exact HKEEP _ hK1 | exact HKEEP _ (hK1.alloc hK1.size _) | exact HKEEP _ hK0 | exact HKEEP _ (hK0.alloc hK0.size _) | exact HKEEP _ ((Below.refl _ _).alloc (Nat.le_refl _) _).drew)
      (first
        | (go_at_call_of 11 (Value.slice e1W k1W f1W); refine (lwArray_src cs e1W e2W k1W k2W f1W f2W sh' wv _ (Src.of ((unhide XW).r1.below (Nat.le_refl _) (by first | exact hK0 | exact hK0.alloc hK0.size _ | exact ((Below.refl _ _).alloc (Nat.le_refl _) _).drew))) (Src.of ((unhide XW).r2.below (Nat.le_refl _) (by first | exact hK0 | exact hK0.alloc hK0.size _ | exact ((Below.refl _ _).alloc (Nat.le_refl _) _).drew))) (by omega) (by omega)).mono ?_; rintro e w1 ⟨ga1, gb1, da1, db1, rfl, hA1, hB1, _, _, hb1⟩; have hK1 : Below U4.heap.size U4 w1 := (by first | exact hK0.trans (hb1.mono hK0.size) | exact (hK0.alloc hK0.size _).trans (hb1.mono (by have := hK0.size; simp; omega)) | exact (((Below.refl _ _).alloc (Nat.le_refl _) _).drew).trans (hb1.mono (by simp))); (first | have hP1 := (Box.new _ _ _ _).below (Nat.le_refl _) hb1 | have hP1 := (Box.new _ _ _ _).drew.below (Nat.le_refl _) hb1 | skip); have hA1_1 := hA1.row; have hB1_1 := hB1.row; obtain ⟨_, ⟨xW0, xW1, xW2⟩, ⟨xB0, xB1, xB2⟩⟩ := HKEEP _ hK1)
        | (go_at_call_of 11 (Value.slice (some b1) m1 d1); refine (lwArray_src d (some b1) (some b2) m1 m2 d1 d2 sh' dt' _ (Src.of ((unhide XB).r1.below (Nat.le_refl _) (by first | exact hK1 | exact hK1.alloc hK1.size _))) (Src.of ((unhide XB).r2.below (Nat.le_refl _) (by first | exact hK1 | exact hK1.alloc hK1.size _))) (by omega) (by omega)).mono ?_; rintro e w2 ⟨ga2, gb2, da2, db2, rfl, hA2, hB2, _, _, hb2⟩; have hK2 : Below U4.heap.size U4 w2 := (by first | exact hK1.trans (hb2.mono hK1.size) | exact (hK1.alloc hK1.size _).trans (hb2.mono (by have := hK1.size; simp; omega))); (first | have hP2 := hP1.below (Nat.le_refl _) hb2 | have hP2 := (Box.new _ _ _ _).below (Nat.le_refl _) hb2 | have hP2 := (Box.new _ _ _ _).drew.below (Nat.le_refl _) hb2 | skip); have hA1_2 : Row w2 (some ⟨ga1, 0, none⟩) k1W sh' := (by first | exact hA1_1.below (Nat.le_refl _) hb2 | exact (hA1_1.alloc _).below (Nat.le_refl _) hb2); have hB1_2 : Row w2 (some ⟨gb1, 0, none⟩) k2W wv := (by first | exact hB1_1.below (Nat.le_refl _) hb2 | exact (hB1_1.alloc _).below (Nat.le_refl _) hb2); have hA2_2 := hA2.row; have hB2_2 := hB2.row; obtain ⟨_, ⟨xW0, xW1, xW2⟩, ⟨xB0, xB1, xB2⟩⟩ := HKEEP _ hK2)
        | (go_at_call 13; refine (implScalar2_any (op : Int) cs d (some ⟨ga1, 0, none⟩) (some ⟨gb1, 0, none⟩) (some ⟨ga2, 0, none⟩) (some ⟨gb2, 0, none⟩) _ _ _ _ _ _ _ _ sh' wv sh' dt' _ (by first | exact hA1_2 | exact hA1_2.alloc _) (by first | exact hB1_2 | exact hB1_2.alloc _) (by first | exact hA2_2 | exact hA2_2.alloc _) (by first | exact hB2_2 | exact hB2_2.alloc _) ga gb ((unhide HG).below (by first | exact hK2 | exact hK2.alloc hK2.size _))).mono ?_; rintro e w3 ⟨e1, k1, f1, e2, k2, f2, rfl, hE1, hE2, _, hb3⟩; have hF1 := hE1.row; have hF2 := hE2.row; clear hE1 hE2; (have HR' := unhide HRY; rw [HR'] at hF1 hF2 ⊢; simp only at hF1 hF2 ⊢; clear HR'); have hK3 : Below U4.heap.size U4 w3 := (by first | exact hK2.trans (hb3.mono hK2.size) | exact (hK2.alloc hK2.size _).trans (hb3.mono (by have := hK2.size; simp; omega))); (first | (have hP3 := hP2.below (Nat.le_refl _) hb3; obtain ⟨u0, u1, u2, u3, u4, u5, u6⟩ := hP3.free'; (try simp at u0 u1 u2 u3 u4 u5 u6)) | (have hP3 := (Box.new _ _ _ _).below (Nat.le_refl _) hb3; obtain ⟨u0, u1, u2, u3, u4, u5, u6⟩ := hP3.free'; (try simp at u0 u1 u2 u3 u4 u5 u6)) | (have hP3 := (Box.new _ _ _ _).drew.below (Nat.le_refl _) hb3; obtain ⟨u0, u1, u2, u3, u4, u5, u6⟩ := hP3.free'; (try simp at u0 u1 u2 u3 u4 u5 u6)) | skip)))
    all_goals go_wp2_with fail
    all_goals (go_meet; case rel => first | exact ⟨rfl, _, _, _, _, _, _, _, rfl, Var.new hF1 hF2, hK3.alloc hK3.size _⟩ | exact ⟨rfl, _, _, _, _, _, _, _, rfl, Var.put hP3 hF1 hF2, ((hK3.setCell (by have z0 := hK0.size; have z1 := hK1.size; have z2 := hK2.size; have z3 := hK3.size; simp <;> omega) _).setCell (by have z0 := hK0.size; have z1 := hK1.size; have z2 := hK2.size; have z3 := hK3.size; simp <;> omega) _).setCell (by have z0 := hK0.size; have z1 := hK1.size; have z2 := hK2.size; have z3 := hK3.size; simp <;> omega) _⟩)
  case rest =>
  obtain ⟨U5, hwc⟩ : ∃ x, x = wc := ⟨_, rfl⟩
  subst hwc
  obtain ⟨rfl, pY, e1Y, k1Y, f1Y, e2Y, k2Y, f2Y, rfl, hv, hK⟩ := hcut
  have T_A := hide ((unhide XA).below hK)
  have T_B := hide ((unhide XB).below hK)
  have T_S := hide ((unhide XS).below hK)
  have T_W := hide ((unhide XW).below hK)
  have T_X := hide ((unhide XX).below hK)
  have T_HG := hide ((unhide HG).below hK)
  have T_HB := hide ((unhide HB).trans (hK.mono (unhide HB).size))
  clear HB XA XB XS XW XX HG
  have XA := T_A
  clear T_A
  have XB := T_B
  clear T_B
  have XS := T_S
  clear T_S
  have XW := T_W
  clear T_W
  have XX := T_X
  clear T_X
  have HG := T_HG
  clear T_HG
  have HB := T_HB
  clear T_HB
  have XY := hide hv
  clear hv hK
  go_upto_region 14 with fail
  obtain ⟨x0, x1, x2⟩ := (unhide XS).cells
  obtain ⟨y0, y1, y2⟩ := (unhide XB).cells
  go_cut [13, 14] (fun r6 r7 wr => r7 = .int .i64 rp ∧ ∃ p e1 k1 f1 e2 k2 f2, r6 = .pointer (some ⟨p, 0, none⟩) ∧ Var wr p rc e1 k1 f1 e2 k2 f2 rsh rdt ∧ Below U5.heap.size U5 wr)
  case first => as_aux_lemma =>
    have hK0 : Below U5.heap.size U5 U5 := Below.refl _ _
    have HKEEP : ∀ wx, Below U5.heap.size U5 wx → Below U5.heap.size U5 wx ∧ (wx.cell? ⟨pS, 0, none⟩ = some (.bool cs) ∧ wx.cell? ⟨pS, 1, none⟩ = some (.slice e1S k1S f1S) ∧ wx.cell? ⟨pS, 2, none⟩ = some (.slice e2S k2S f2S)) ∧ (wx.cell? ⟨pB, 0, none⟩ = some (.bool d) ∧ wx.cell? ⟨pB, 1, none⟩ = some (.slice (some b1) m1 d1) ∧ wx.cell? ⟨pB, 2, none⟩ = some (.slice (some b2) m2 d2)) := fun wx hwx => ⟨hwx, ((unhide XS).below hwx).cells, ((unhide XB).below hwx).cells⟩
    obtain ⟨_, ⟨xS0, xS1, xS2⟩, ⟨xB0, xB1, xB2⟩⟩ := HKEEP _ (Below.refl _ _)
    go_wp2_with (first
      | (go_at_call 22; refine (Scalar2_any (op : Int) cs d e1S e2S (some b1) (some b2) _ _ _ _ _ _ _ _ [] [v] sh' dt' _ ((unhide XS).r1.below (Nat.le_refl _) (by first | exact hK0 | exact hK0.alloc hK0.size _ | exact ((Below.refl _ _).alloc (Nat.le_refl _) _).drew)) ((unhide XS).r2.below (Nat.le_refl _) (by first | exact hK0 | exact hK0.alloc hK0.size _ | exact ((Below.refl _ _).alloc (Nat.le_refl _) _).drew)) ((unhide XB).r1.below (Nat.le_refl _) (by first | exact hK0 | exact hK0.alloc hK0.size _ | exact ((Below.refl _ _).alloc (Nat.le_refl _) _).drew)) ((unhide XB).r2.below (Nat.le_refl _) (by first | exact hK0 | exact hK0.alloc hK0.size _ | exact ((Below.refl _ _).alloc (Nat.le_refl _) _).drew))).mono ?_; rintro e w1 ⟨e1, k1, f1, e2, k2, f2, rfl, hF1, hF2, hb1⟩; (have HR' := unhide HRX; rw [HR'] at hF1 hF2 ⊢; simp only at hF1 hF2 ⊢; clear HR'); have hK1 : Below U5.heap.size U5 w1 := (by first | exact hK0.trans (hb1.mono hK0.size) | exact (hK0.alloc hK0.size _).trans (hb1.mono (by have := hK0.size; simp; omega)) | exact (((Below.refl _ _).alloc (Nat.le_refl _) _).drew).trans (hb1.mono (by simp)))))
    all_goals (go_meet; case rel => first | exact ⟨rfl, _, _, _, _, _, _, _, rfl, Var.new hF1 hF2, hK1.alloc hK1.size _⟩)
  case rest =>
  obtain ⟨U6, hwc⟩ : ∃ x, x = wc := ⟨_, rfl⟩
  subst hwc
  obtain ⟨rfl, pZ, e1Z, k1Z, f1Z, e2Z, k2Z, f2Z, rfl, hv, hK⟩ := hcut
  have T_A := hide ((unhide XA).below hK)
  have T_B := hide ((unhide XB).below hK)
  have T_S := hide ((unhide XS).below hK)
  have T_W := hide ((unhide XW).below hK)
  have T_X := hide ((unhide XX).below hK)
  have T_Y := hide ((unhide XY).below hK)
  have T_HG := hide ((unhide HG).below hK)
  have T_HB := hide ((unhide HB).trans (hK.mono (unhide HB).size))
  clear HB XA XB XS XW XX XY HG
  have XA := T_A
  clear T_A
  have XB := T_B
  clear T_B
  have XS := T_S
  clear T_S
  have XW := T_W
  clear T_W
  have XX := T_X
  clear T_X
  have XY := T_Y
  clear T_Y
  have HG := T_HG
  clear T_HG
  have HB := T_HB
  clear T_HB
  have XZ := hide hv
  clear hv hK
  clear x0 x1 x2 y0 y1 y2
  go_upto_region 15 with fail
  go_cut [15, 16] (fun r6 r7 wr => r7 = .int .i64 up ∧ ∃ p e1 k1 f1 e2 k2 f2, r6 = .pointer (some ⟨p, 0, none⟩) ∧ Var wr p uc e1 k1 f1 e2 k2 f2 ush udt ∧ Below U6.heap.size U6 wr)
  case first => as_aux_lemma =>
    have hK0 : Below U6.heap.size U6 U6.drew := (Below.refl _ _).drew
    have HKEEP : ∀ wx, Below U6.heap.size U6 wx → Below U6.heap.size U6 wx ∧ (wx.cell? ⟨pB, 0, none⟩ = some (.bool d) ∧ wx.cell? ⟨pB, 1, none⟩ = some (.slice (some b1) m1 d1) ∧ wx.cell? ⟨pB, 2, none⟩ = some (.slice (some b2) m2 d2)) ∧ (wx.cell? ⟨pS, 0, none⟩ = some (.bool cs) ∧ wx.cell? ⟨pS, 1, none⟩ = some (.slice e1S k1S f1S) ∧ wx.cell? ⟨pS, 2, none⟩ = some (.slice e2S k2S f2S)) := fun wx hwx => ⟨hwx, ((unhide XB).below hwx).cells, ((unhide XS).below hwx).cells⟩
    obtain ⟨_, ⟨xB0, xB1, xB2⟩, ⟨xS0, xS1, xS2⟩⟩ := HKEEP _ (Below.refl _ _)
    go_region_held (fun wx => Below U6.heap.size U6 wx ∧ (wx.cell? ⟨pB, 0, none⟩ = some (.bool d) ∧ wx.cell? ⟨pB, 1, none⟩ = some (.slice (some b1) m1 d1) ∧ wx.cell? ⟨pB, 2, none⟩ = some (.slice (some b2) m2 d2)) ∧ (wx.cell? ⟨pS, 0, none⟩ = some (.bool cs) ∧ wx.cell? ⟨pS, 1, none⟩ = some (.slice e1S k1S f1S) ∧ wx.cell? ⟨pS, 2, none⟩ = some (.slice e2S k2S f2S))) (first | exact HKEEP _ hK3 | exact HKEEP _ (((hK3.setCell (by have z0 := hK0.size; have z1 := hK1.size; have z2 := hK2.size; have z3 := hK3.size; simp <;> omega) _).setCell (by have z0 := hK0.size; have z1 := hK1.size; have z2 := hK2.size; have z3 := hK3.size; simp <;> omega) _).setCell (by have z0 := hK0.size; have z1 := hK1.size; have z2 := hK2.size; have z3 := hK3.size; simp <;> omega) _) | exact HKEEP _ (hK3.alloc hK3.size _) | exact HKEEP _ hK2 | exact HKEEP _ (hK2.alloc hK2.size _) | exact HKEEP _ hK1 | exact HKEEP _ (hK1.alloc hK1.size _) | exact HKEEP _ hK0 | exact HKEEP _ (hK0.alloc hK0.size _) | exact HKEEP _ ((Below.refl _ _).alloc (Nat.le_refl _) _).drew)
      (first
        | (go_at_call_of 11 (Value.slice (some b1) m1 d1); refine (lwArray_src d (some b1) (some b2) m1 m2 d1 d2 sh' dt' _ (Src.of ((unhide XB).r1.below (Nat.le_refl _) (by first | exact hK0 | exact hK0.alloc hK0.size _ | exact ((Below.refl _ _).alloc (Nat.le_refl _) _).drew))) (Src.of ((unhide XB).r2.below (Nat.le_refl _) (by first | exact hK0 | exact hK0.alloc hK0.size _ | exact ((Below.refl _ _).alloc (Nat.le_refl _) _).drew))) (by omega) (by omega)).mono ?_; rintro e w1 ⟨ga1, gb1, da1, db1, rfl, hA1, hB1, _, _, hb1⟩; have hK1 : Below U6.heap.size U6 w1 := (by first | exact hK0.trans (hb1.mono hK0.size) | exact (hK0.alloc hK0.size _).trans (hb1.mono (by have := hK0.size; simp; omega)) | exact (((Below.refl _ _).alloc (Nat.le_refl _) _).drew).trans (hb1.mono (by simp))); (first | have hP1 := (Box.new _ _ _ _).below (Nat.le_refl _) hb1 | have hP1 := (Box.new _ _ _ _).drew.below (Nat.le_refl _) hb1 | skip); have hA1_1 := hA1.row; have hB1_1 := hB1.row; obtain ⟨_, ⟨xB0, xB1, xB2⟩, ⟨xS0, xS1, xS2⟩⟩ := HKEEP _ hK1)
        | (go_at_call_of 11 (Value.slice e1S k1S f1S); refine (lwArray_src cs e1S e2S k1S k2S f1S f2S [] [v] _ (Src.of ((unhide XS).r1.below (Nat.le_refl _) (by first | exact hK1 | exact hK1.alloc hK1.size _))) (Src.of ((unhide XS).r2.below (Nat.le_refl _) (by first | exact hK1 | exact hK1.alloc hK1.size _))) (by omega) (by omega)).mono ?_; rintro e w2 ⟨ga2, gb2, da2, db2, rfl, hA2, hB2, _, _, hb2⟩; have hK2 : Below U6.heap.size U6 w2 := (by first | exact hK1.trans (hb2.mono hK1.size) | exact (hK1.alloc hK1.size _).trans (hb2.mono (by have := hK1.size; simp; omega))); (first | have hP2 := hP1.below (Nat.le_refl _) hb2 | have hP2 := (Box.new _ _ _ _).below (Nat.le_refl _) hb2 | have hP2 := (Box.new _ _ _ _).drew.below (Nat.le_refl _) hb2 | skip); have hA1_2 : Row w2 (some ⟨ga1, 0, none⟩) m1 sh' := (by first | exact hA1_1.below (Nat.le_refl _) hb2 | exact (hA1_1.alloc _).below (Nat.le_refl _) hb2); have hB1_2 : Row w2 (some ⟨gb1, 0, none⟩) m2 dt' := (by first | exact hB1_1.below (Nat.le_refl _) hb2 | exact (hB1_1.alloc _).below (Nat.le_refl _) hb2); have hA2_2 := hA2.row; have hB2_2 := hB2.row; obtain ⟨_, ⟨xB0, xB1, xB2⟩, ⟨xS0, xS1, xS2⟩⟩ := HKEEP _ hK2)
        | (go_at_call 13; refine (implScalar2_any (op : Int) d cs (some ⟨ga1, 0, none⟩) (some ⟨gb1, 0, none⟩) (some ⟨ga2, 0, none⟩) (some ⟨gb2, 0, none⟩) _ _ _ _ _ _ _ _ sh' dt' [] [v] _ (by first | exact hA1_2 | exact hA1_2.alloc _) (by first | exact hB1_2 | exact hB1_2.alloc _) (by first | exact hA2_2 | exact hA2_2.alloc _) (by first | exact hB2_2 | exact hB2_2.alloc _) ga gb ((unhide HG).below (by first | exact hK2 | exact hK2.alloc hK2.size _))).mono ?_; rintro e w3 ⟨e1, k1, f1, e2, k2, f2, rfl, hE1, hE2, _, hb3⟩; have hF1 := hE1.row; have hF2 := hE2.row; clear hE1 hE2; (have HR' := unhide HRU; rw [HR'] at hF1 hF2 ⊢; simp only at hF1 hF2 ⊢; clear HR'); have hK3 : Below U6.heap.size U6 w3 := (by first | exact hK2.trans (hb3.mono hK2.size) | exact (hK2.alloc hK2.size _).trans (hb3.mono (by have := hK2.size; simp; omega))); (first | (have hP3 := hP2.below (Nat.le_refl _) hb3; obtain ⟨u0, u1, u2, u3, u4, u5, u6⟩ := hP3.free'; (try simp at u0 u1 u2 u3 u4 u5 u6)) | (have hP3 := (Box.new _ _ _ _).below (Nat.le_refl _) hb3; obtain ⟨u0, u1, u2, u3, u4, u5, u6⟩ := hP3.free'; (try simp at u0 u1 u2 u3 u4 u5 u6)) | (have hP3 := (Box.new _ _ _ _).drew.below (Nat.le_refl _) hb3; obtain ⟨u0, u1, u2, u3, u4, u5, u6⟩ := hP3.free'; (try simp at u0 u1 u2 u3 u4 u5 u6)) | skip)))
    all_goals go_wp2_with fail
    all_goals (go_meet; case rel => first | exact ⟨rfl, _, _, _, _, _, _, _, rfl, Var.new hF1 hF2, hK3.alloc hK3.size _⟩ | exact ⟨rfl, _, _, _, _, _, _, _, rfl, Var.put hP3 hF1 hF2, ((hK3.setCell (by have z0 := hK0.size; have z1 := hK1.size; have z2 := hK2.size; have z3 := hK3.size; simp <;> omega) _).setCell (by have z0 := hK0.size; have z1 := hK1.size; have z2 := hK2.size; have z3 := hK3.size; simp <;> omega) _).setCell (by have z0 := hK0.size; have z1 := hK1.size; have z2 := hK2.size; have z3 := hK3.size; simp <;> omega) _⟩)
  case rest =>
  obtain ⟨U7, hwc⟩ : ∃ x, x = wc := ⟨_, rfl⟩
  subst hwc
  obtain ⟨rfl, pP, e1P, k1P, f1P, e2P, k2P, f2P, rfl, hv, hK⟩ := hcut
  have T_A := hide ((unhide XA).below hK)
  have T_B := hide ((unhide XB).below hK)
  have T_S := hide ((unhide XS).below hK)
  have T_W := hide ((unhide XW).below hK)
  have T_X := hide ((unhide XX).below hK)
  have T_Y := hide ((unhide XY).below hK)
  have T_Z := hide ((unhide XZ).below hK)
  have T_HG := hide ((unhide HG).below hK)
  have T_HB := hide ((unhide HB).trans (hK.mono (unhide HB).size))
  clear HB XA XB XS XW XX XY XZ HG
  have XA := T_A
  clear T_A
  have XB := T_B
  clear T_B
  have XS := T_S
  clear T_S
  have XW := T_W
  clear T_W
  have XX := T_X
  clear T_X
  have XY := T_Y
  clear T_Y
  have XZ := T_Z
  clear T_Z
  have HG := T_HG
  clear T_HG
  have HB := T_HB
  clear T_HB
  have XP := hide hv
  clear hv hK
  go_upto_region 16 with fail
  go_cut [17, 18] (fun r6 r7 wr => r7 = .int .i64 up ∧ ∃ p e1 k1 f1 e2 k2 f2, r6 = .pointer (some ⟨p, 0, none⟩) ∧ Var wr p uc e1 k1 f1 e2 k2 f2 ush udt ∧ Below U7.heap.size U7 wr)
  case first => as_aux_lemma =>
    have hK0 : Below U7.heap.size U7 U7.drew := (Below.refl _ _).drew
    have HKEEP : ∀ wx, Below U7.heap.size U7 wx → Below U7.heap.size U7 wx ∧ (wx.cell? ⟨pB, 0, none⟩ = some (.bool d) ∧ wx.cell? ⟨pB, 1, none⟩ = some (.slice (some b1) m1 d1) ∧ wx.cell? ⟨pB, 2, none⟩ = some (.slice (some b2) m2 d2)) ∧ (wx.cell? ⟨pW, 0, none⟩ = some (.bool cs) ∧ wx.cell? ⟨pW, 1, none⟩ = some (.slice e1W k1W f1W) ∧ wx.cell? ⟨pW, 2, none⟩ = some (.slice e2W k2W f2W)) := fun wx hwx => ⟨hwx, ((unhide XB).below hwx).cells, ((unhide XW).below hwx).cells⟩
    obtain ⟨_, ⟨xB0, xB1, xB2⟩, ⟨xW0, xW1, xW2⟩⟩ := HKEEP _ (Below.refl _ _)
    go_region_held (fun wx => Below U7.heap.size U7 wx ∧ (wx.cell? ⟨pB, 0, none⟩ = some (.bool d) ∧ wx.cell? ⟨pB, 1, none⟩ = some (.slice (some b1) m1 d1) ∧ wx.cell? ⟨pB, 2, none⟩ = some (.slice (some b2) m2 d2)) ∧ (wx.cell? ⟨pW, 0, none⟩ = some (.bool cs) ∧ wx.cell? ⟨pW, 1, none⟩ = some (.slice e1W k1W f1W) ∧ wx.cell? ⟨pW, 2, none⟩ = some (.slice e2W k2W f2W))) (first | exact HKEEP _ hK3 | exact HKEEP _ (((hK3.setCell (by have z0 := hK0.size; have z1 := hK1.size; have z2 := hK2.size; have z3 := hK3.size; simp <;> omega) _).setCell (by have z0 := hK0.size; have z1 := hK1.size; have z2 := hK2.size; have z3 := hK3.size; simp <;> omega) _).setCell (by have z0 := hK0.size; have z1 := hK1.size; have z2 := hK2.size; have z3 := hK3.size; simp <;> omega) _) | exact HKEEP _ (hK3.alloc hK3.size _) | exact HKEEP _ hK2 | exact HKEEP _ (hK2.alloc hK2.size _) | exact HKEEP _ hK1 | exact HKEEP _ (hK1.alloc hK1.size _) | exact HKEEP _ hK0 | exact HKEEP _ (hK0.alloc hK0.size _) | exact HKEEP _ ((Below.refl _ _).alloc (Nat.le_refl _) _).drew)
      (first
        | (go_at_call_of 11 (Value.slice (some b1) m1 d1); refine (lwArray_src d (some b1) (some b2) m1 m2 d1 d2 sh' dt' _ (Src.of ((unhide XB).r1.below (Nat.le_refl _) (by first | exact hK0 | exact hK0.alloc hK0.size _ | exact ((Below.refl _ _).alloc (Nat.le_refl _) _).drew))) (Src.of ((unhide XB).r2.below (Nat.le_refl _) (by first | exact hK0 | exact hK0.alloc hK0.size _ | exact ((Below.refl _ _).alloc (Nat.le_refl _) _).drew))) (by omega) (by omega)).mono ?_; rintro e w1 ⟨ga1, gb1, da1, db1, rfl, hA1, hB1, _, _, hb1⟩; have hK1 : Below U7.heap.size U7 w1 := (by first | exact hK0.trans (hb1.mono hK0.size) | exact (hK0.alloc hK0.size _).trans (hb1.mono (by have := hK0.size; simp; omega)) | exact (((Below.refl _ _).alloc (Nat.le_refl _) _).drew).trans (hb1.mono (by simp))); (first | have hP1 := (Box.new _ _ _ _).below (Nat.le_refl _) hb1 | have hP1 := (Box.new _ _ _ _).drew.below (Nat.le_refl _) hb1 | skip); have hA1_1 := hA1.row; have hB1_1 := hB1.row; obtain ⟨_, ⟨xB0, xB1, xB2⟩, ⟨xW0, xW1, xW2⟩⟩ := HKEEP _ hK1)
        | (go_at_call_of 11 (Value.slice e1W k1W f1W); refine (lwArray_src cs e1W e2W k1W k2W f1W f2W sh' wv _ (Src.of ((unhide XW).r1.below (Nat.le_refl _) (by first | exact hK1 | exact hK1.alloc hK1.size _))) (Src.of ((unhide XW).r2.below (Nat.le_refl _) (by first | exact hK1 | exact hK1.alloc hK1.size _))) (by omega) (by omega)).mono ?_; rintro e w2 ⟨ga2, gb2, da2, db2, rfl, hA2, hB2, _, _, hb2⟩; have hK2 : Below U7.heap.size U7 w2 := (by first | exact hK1.trans (hb2.mono hK1.size) | exact (hK1.alloc hK1.size _).trans (hb2.mono (by have := hK1.size; simp; omega))); (first | have hP2 := hP1.below (Nat.le_refl _) hb2 | have hP2 := (Box.new _ _ _ _).below (Nat.le_refl _) hb2 | have hP2 := (Box.new _ _ _ _).drew.below (Nat.le_refl _) hb2 | skip); have hA1_2 : Row w2 (some ⟨ga1, 0, none⟩) m1 sh' := (by first | exact hA1_1.below (Nat.le_refl _) hb2 | exact (hA1_1.alloc _).below (Nat.le_refl _) hb2); have hB1_2 : Row w2 (some ⟨gb1, 0, none⟩) m2 dt' := (by first | exact hB1_1.below (Nat.le_refl _) hb2 | exact (hB1_1.alloc _).below (Nat.le_refl _) hb2); have hA2_2 := hA2.row; have hB2_2 := hB2.row; obtain ⟨_, ⟨xB0, xB1, xB2⟩, ⟨xW0, xW1, xW2⟩⟩ := HKEEP _ hK2)
        | (go_at_call 13; refine (implScalar2_any (op : Int) d cs (some ⟨ga1, 0, none⟩) (some ⟨gb1, 0, none⟩) (some ⟨ga2, 0, none⟩) (some ⟨gb2, 0, none⟩) _ _ _ _ _ _ _ _ sh' dt' sh' wv _ (by first | exact hA1_2 | exact hA1_2.alloc _) (by first | exact hB1_2 | exact hB1_2.alloc _) (by first | exact hA2_2 | exact hA2_2.alloc _) (by first | exact hB2_2 | exact hB2_2.alloc _) ga gb ((unhide HG).below (by first | exact hK2 | exact hK2.alloc hK2.size _))).mono ?_; rintro e w3 ⟨e1, k1, f1, e2, k2, f2, rfl, hE1, hE2, _, hb3⟩; have hF1 := hE1.row; have hF2 := hE2.row; clear hE1 hE2; (have HR' := unhide HRV; rw [HR'] at hF1 hF2 ⊢; simp only at hF1 hF2 ⊢; clear HR'); have hK3 : Below U7.heap.size U7 w3 := (by first | exact hK2.trans (hb3.mono hK2.size) | exact (hK2.alloc hK2.size _).trans (hb3.mono (by have := hK2.size; simp; omega))); (first | (have hP3 := hP2.below (Nat.le_refl _) hb3; obtain ⟨u0, u1, u2, u3, u4, u5, u6⟩ := hP3.free'; (try simp at u0 u1 u2 u3 u4 u5 u6)) | (have hP3 := (Box.new _ _ _ _).below (Nat.le_refl _) hb3; obtain ⟨u0, u1, u2, u3, u4, u5, u6⟩ := hP3.free'; (try simp at u0 u1 u2 u3 u4 u5 u6)) | (have hP3 := (Box.new _ _ _ _).drew.below (Nat.le_refl _) hb3; obtain ⟨u0, u1, u2, u3, u4, u5, u6⟩ := hP3.free'; (try simp at u0 u1 u2 u3 u4 u5 u6)) | skip)))
    all_goals go_wp2_with fail
    all_goals (go_meet; case rel => first | exact ⟨rfl, _, _, _, _, _, _, _, rfl, Var.new hF1 hF2, hK3.alloc hK3.size _⟩ | exact ⟨rfl, _, _, _, _, _, _, _, rfl, Var.put hP3 hF1 hF2, ((hK3.setCell (by have z0 := hK0.size; have z1 := hK1.size; have z2 := hK2.size; have z3 := hK3.size; simp <;> omega) _).setCell (by have z0 := hK0.size; have z1 := hK1.size; have z2 := hK2.size; have z3 := hK3.size; simp <;> omega) _).setCell (by have z0 := hK0.size; have z1 := hK1.size; have z2 := hK2.size; have z3 := hK3.size; simp <;> omega) _⟩)
  case rest =>
  obtain ⟨U8, hwc⟩ : ∃ x, x = wc := ⟨_, rfl⟩
  subst hwc
  obtain ⟨rfl, pQ, e1Q, k1Q, f1Q, e2Q, k2Q, f2Q, rfl, hv, hK⟩ := hcut
  have T_A := hide ((unhide XA).below hK)
  have T_B := hide ((unhide XB).below hK)
  have T_S := hide ((unhide XS).below hK)
  have T_W := hide ((unhide XW).below hK)
  have T_X := hide ((unhide XX).below hK)
  have T_Y := hide ((unhide XY).below hK)
  have T_Z := hide ((unhide XZ).below hK)
  have T_P := hide ((unhide XP).below hK)
  have T_HG := hide ((unhide HG).below hK)
  have T_HB := hide ((unhide HB).trans (hK.mono (unhide HB).size))
  clear HB XA XB XS XW XX XY XZ XP HG
  have XA := T_A
  clear T_A
  have XB := T_B
  clear T_B
  have XS := T_S
  clear T_S
  have XW := T_W
  clear T_W
  have XX := T_X
  clear T_X
  have XY := T_Y
  clear T_Y
  have XZ := T_Z
  clear T_Z
  have XP := T_P
  clear T_P
  have HG := T_HG
  clear T_HG
  have HB := T_HB
  clear T_HB
  have XQ := hide hv
  clear hv hK
  obtain ⟨x0, x1, x2⟩ := (unhide XX).cells
  obtain ⟨y0, y1, y2⟩ := (unhide XY).cells
  go_wp2_with (first
    | (go_at_call_of 17 (Value.slice e1Y k1Y f1Y); refine (eqArray_refl _ _ _ _ _ _ _ _ _ _ _ _ _ rsh rdt _ (unhide XX).r1 (unhide XX).r2 (unhide XY).r1 (unhide XY).r2).mono ?_; rintro e wA ⟨rfl, hK⟩; have JX := hide ((unhide XX).below hK); have JZ := hide ((unhide XZ).below hK); have JP := hide ((unhide XP).below hK); have JQ := hide ((unhide XQ).below hK); have JB := hide ((unhide HB).trans (hK.mono (unhide HB).size)); clear hK x0 x1 x2 y0 y1 y2; obtain ⟨x0, x1, x2⟩ := (unhide JX).cells; obtain ⟨y0, y1, y2⟩ := (unhide JZ).cells)
    | (go_at_call_of 17 (Value.slice e1Z k1Z f1Z); refine (eqArray_refl _ _ _ _ _ _ _ _ _ _ _ _ _ rsh rdt _ (unhide JX).r1 (unhide JX).r2 (unhide JZ).r1 (unhide JZ).r2).mono ?_; rintro e wB ⟨rfl, hK⟩; have LP := hide ((unhide JP).below hK); have LQ := hide ((unhide JQ).below hK); have LB := hide ((unhide JB).trans (hK.mono (unhide JB).size)); clear hK x0 x1 x2 y0 y1 y2; obtain ⟨x0, x1, x2⟩ := (unhide LP).cells; obtain ⟨y0, y1, y2⟩ := (unhide LQ).cells)
    | (go_at_call_of 17 (Value.slice e1Q k1Q f1Q); refine (eqArray_refl _ _ _ _ _ _ _ _ _ _ _ _ _ ush udt _ (unhide LP).r1 (unhide LP).r2 (unhide LQ).r1 (unhide LQ).r2).mono ?_; rintro e wC ⟨rfl, hK⟩; have MB := hide ((unhide LB).trans (hK.mono (unhide LB).size)); clear hK))
  exact bodyPost_ret (v := .bool true) (by simp [results, Tryz.results4, go_sem]) rfl ⟨rfl, unhide MB⟩

end Go.Proofs.YtkgcmpmgaghdhaaGreatDoor
