import Derived.Test.YtgjpchnkodnieaaGreatDoorMFit0
import Derived.Test.YtgjpchnkodnieaaGreatDoorMFit1
import Derived.Test.YtgjpchnkodnieaaGreatDoorMFit1
import Derived.Test.YtgjpchnkodnieaaGreatDoorMFit1
import Derived.Test.YtgjpchnkodnieaaGreatDoorMFit1
import Derived.Test.YtgjpchnkodnieaaGreatDoorMFit1
import Derived.Test.YtgjpchnkodnieaaGreatDoorMFit1
import Derived.Test.YtgjpchnkodnieaaGreatDoorMFit0
import Derived.Test.YtgjpchnkodnieaaGreatDoorMFit1
import Derived.Test.YtgjpchnkodnieaaGreatDoorImplMonad
import Derived.Test.YtgjpchnkodnieaaGreatDoorSpecTranspose
import Derived.Test.YtgjpchnkodnieaaGreatDoorMFit3
import Derived.Test.YtgjpchnkodnieaaGreatDoorImplRotateA
import Derived.Test.YtgjpchnkodnieaaGreatDoorMFit0
import Derived.Test.YtgjpchnkodnieaaGreatDoorMFit0
import Derived.Test.YtgjpchnkodnieaaGreatDoorMFit0
import Derived.Deep.RegionHeld
import Derived.Deep.DeepCutAuto
namespace Go.Proofs.YtgjpchnkodnieaaGreatDoor
open Go.RowKit

/-- A list somewhere. -/
structure RowV (W : World) (a : Option Addr) (n : Nat) (zs : List Int) : Prop where
  r1 : Row W a n zs
theorem RowV.below {W V : World} {a : Option Addr} {n : Nat} {zs : List Int} (h : RowV W a n zs) (hb : Below W.heap.size W V) : RowV V a n zs := ⟨h.r1.below (Nat.le_refl _) hb⟩

def nosN (r : Nat) : List Int := (List.range r).map fun (i : Nat) => (i : Int) + 1
theorem back_is {dt : List Int} {r : Nat} (h : orderOk dt r r = true) : BackOf dt (turnN dt (nosN r) r r) r :=
  ⟨turnN_len _ _ _ _, fun i hi => by rw [(turned h i hi).1]; simp [nosN, hi]⟩
theorem nos_get {r i : Nat} (h : i < r) : (nosN r).getD i 0 = (i : Int) + 1 := by simp [nosN, h]

theorem trans_zero {c d : Bool} {sh dt sh' dt' : List Int} (h : (transpose c d sh dt sh' dt').code = 0) : arrOk c sh dt = true ∧ listCode c sh.length = 0 ∧ dt.length = sh'.length ∧ orderOk dt sh'.length sh'.length = true := by
  cases h1 : arrOk c sh dt with
  | false => rw [transpose_bad1 h1] at h; exact absurd h (by simp [noAns])
  | true =>
    cases h2 : arrOk d sh' dt' with
    | false => rw [transpose_bad2 h2] at h; exact absurd h (by simp [noAns])
    | true =>
      by_cases h3 : listCode c sh.length = 0
      · by_cases h4 : dt.length = sh'.length
        · cases h5 : orderOk dt sh'.length sh'.length with
          | false => rw [transpose_dom h1 h2 h3 h4 h5] at h; exact absurd h (by simp [noAns])
          | true => exact ⟨rfl, h3, h4, rfl⟩
        · rw [transpose_len h1 h2 h3 h4] at h; exact absurd h (by simp [noAns])
      · rw [transpose_list h1 h2 _ rfl h3] at h; exact absurd h h3

set_option maxRecDepth 20000 in
set_option maxHeartbeats 16000000 in
theorem law_Back (ga gb : Addr) (a : Option Addr) (n cn : Nat) (w : World) (hby : Bytes w a n) (hc : n ≤ cn) (hn : n ≤ 1048576) (_ : Gl w ga gb) :
    Calls Tryz.prog 3 #[.slice a n cn] w fun e w' => e = .returned (.bool true) ∧ Below w.heap.size w w' := by
  have hcall := DrawTranspose_any a n cn w hby hc hn
  have HY := hide hby
  have hnz : ¬ (1048576 : Int) < (n : Int) := by omega
  clear hby
  go_enter Tryz.func3, Tryz.ntmps3
  go_upto_region 4 with (go_at_call 8; refine hcall.mono ?_; rintro e w1 ⟨cp, c, a1, a2, b1, b2, n1, n2, m1, m2, c1, c2, d1, d2, shp, dtp, sh, dt, rfl, r1, r2, q1, q2, h1, h2, h3, h4, hb1⟩; have R1 := hide r1; have R2 := hide r2; have Q1 := hide q1; have Q2 := hide q2; have HB1 := hide hb1; clear r1 r2 q1 q2 hb1)
  clear hcall
  obtain ⟨V, hV⟩ : ∃ V, V = (w1.alloc (.cells #[.bool cp, .slice (some a1) n1 c1, .slice (some a2) n2 c2] 25)).alloc (.cells #[.bool c, .slice (some b1) m1 d1, .slice (some b2) m2 d2] 25) := ⟨_, rfl⟩
  obtain ⟨pP, hpP⟩ : ∃ P, P = w1.heap.size := ⟨_, rfl⟩
  obtain ⟨pA, hpA⟩ : ∃ P, P = w1.heap.size + 1 := ⟨_, rfl⟩
  have XP : Hid (Var V pP cp (some a1) n1 c1 (some a2) n2 c2 shp dtp) := by
    rw [hV, hpP]; exact (Var.new (unhide R1) (unhide R2)).below ((Below.refl _ _).alloc (Nat.le_refl _) _)
  have XA : Hid (Var V pA c (some b1) m1 d1 (some b2) m2 d2 sh dt) := by
    rw [hV, hpA]
    have := Var.new (c := c) (f1 := d1) (f2 := d2) ((unhide Q1).alloc (.cells #[.bool cp, .slice (some a1) n1 c1, .slice (some a2) n2 c2] 25)) ((unhide Q2).alloc (.cells #[.bool cp, .slice (some a1) n1 c1, .slice (some a2) n2 c2] 25))
    rwa [World.size_alloc] at this
  have HB : Hid (Below w.heap.size w V) := by rw [hV]; exact ((unhide HB1).alloc (unhide HB1).size _).alloc (by have := (unhide HB1).size; simp; omega) _
  have hneAP : ¬ pA = pP := by omega
  have hnePA : ¬ pP = pA := by omega
  have hlowP : w.heap.size ≤ pP := by rw [hpP]; exact (unhide HB1).size
  have hlowA : w.heap.size ≤ pA := by omega
  rw [← hV, ← hpA, ← hpP]
  clear hV hpA hpP R1 R2 Q1 Q2 HB1
  have hcall := DrawRotate_any a n cn V ((unhide HY).below (unhide HB)) hc hn
  clear hc HY
  go_upto_region 5 with (go_at_call 9; refine hcall.mono ?_; rintro e w2 ⟨ck, cx, fl, e1, e2, x1, x2, k1, k2, l1, l2, f1, f2, g1, g2, shk, dtk, shx, dtx, rfl, r1, r2, q1, q2, i1, i2, _, _, hb1⟩; have R1 := hide r1; have R2 := hide r2; have HK := hide hb1; clear r1 r2 q1 q2 hb1)
  clear hcall
  obtain ⟨W, hW⟩ : ∃ W, W = (w2.alloc (.cells #[.bool ck, .slice (some e1) k1 f1, .slice (some e2) k2 f2] 25)).alloc (.cells #[.bool cx, .slice (some x1) l1 g1, .slice (some x2) l2 g2] 25) := ⟨_, rfl⟩
  obtain ⟨pK, hpK⟩ : ∃ P, P = w2.heap.size := ⟨_, rfl⟩
  have hKW : Below V.heap.size V W := by rw [hW]; exact ((unhide HK).alloc (unhide HK).size _).alloc (by have := (unhide HK).size; simp; omega) _
  have XK : Hid (Var W pK ck (some e1) k1 f1 (some e2) k2 f2 shk dtk) := by
    rw [hW, hpK]; exact (Var.new (unhide R1) (unhide R2)).below ((Below.refl _ _).alloc (Nat.le_refl _) _)
  have YA := hide ((unhide XA).below hKW)
  have YP := hide ((unhide XP).below hKW)
  have YB := hide ((unhide HB).trans (hKW.mono (unhide HB).size))
  have hneKA : ¬ pK = pA := by rw [hpK]; have h1 := (unhide XA).box.lt; have h2 := (unhide HK).size; omega
  rw [← hW, ← hpK]
  clear hW hpK hKW R1 R2 HK XA XP HB
  have XA := YA
  have XP := YP
  have HB := YB
  clear YA YP YB
  obtain ⟨r, hr⟩ : ∃ r, arrOk c sh dt = r := ⟨_, rfl⟩
  have HR := hide hr
  clear hr
  obtain ⟨x0, x1', x2'⟩ := (unhide XA).cells
  cases r with
  | false =>
    go_wp2_with (go_at_call 10; refine (ArrayOk_eq _ _ _ _ _ _ _ sh dt _ (unhide XA).r1 (unhide XA).r2 _ HR).mono ?_; rintro e w3 ⟨rfl, hb3⟩; have HB3 := hide ((unhide HB).trans (hb3.mono (unhide HB).size)); clear hb3)
    exact bodyPost_ret (v := .bool true) (by simp [results, Tryz.results3, go_sem]) rfl ⟨rfl, unhide HB3⟩
  | true =>
  go_upto_region 7 with (go_at_call 10; refine (ArrayOk_eq _ _ _ _ _ _ _ sh dt _ (unhide XA).r1 (unhide XA).r2 _ HR).mono ?_; rintro e w3 ⟨rfl, hb3⟩; have HB3 := hide ((unhide HB).trans (hb3.mono (unhide HB).size)); have YA := hide ((unhide XA).below hb3); have YP := hide ((unhide XP).below hb3); have YK := hide ((unhide XK).below hb3); clear hb3)
  clear XA XP XK HB x0 x1' x2'
  have XA := YA
  have XP := YP
  have XK := YK
  have HB := HB3
  clear YA YP YK HB3
  obtain ⟨U, hU⟩ : ∃ x, x = w3 := ⟨_, rfl⟩
  subst hU
  obtain ⟨rv, hrv1, _, hrok, hrv2⟩ := rev_back (fl := false) (unhide HR)
  obtain ⟨rf, hrf1, _, hrfok, hrf2⟩ := rev_back (fl := true) (unhide HR)
  have HRV1 := hide hrv1
  have HRV2 := hide hrv2
  have HRF1 := hide hrf1
  have HRF2 := hide hrf2
  have HROK := hide hrok
  have HFOK := hide hrfok
  clear hrv1 hrv2 hrf1 hrf2 hrok hrfok
  go_cut [8, 9] (fun r6 r7 wr => r7 = .int .i64 0 ∧ ∃ p e1 k1 f1 e2 k2 f2, r6 = .pointer (some ⟨p, 0, none⟩) ∧ Var wr p c e1 k1 f1 e2 k2 f2 sh rv ∧ U.heap.size ≤ p ∧ Below U.heap.size U wr)
  case first => as_aux_lemma =>
    have hK0 : Below U.heap.size U U := Below.refl _ _
    have HKEEP : ∀ wx, Below U.heap.size U wx → Below U.heap.size U wx ∧ (wx.cell? ⟨pA, 0, none⟩ = some (.bool c) ∧ wx.cell? ⟨pA, 1, none⟩ = some (.slice (some b1) m1 d1) ∧ wx.cell? ⟨pA, 2, none⟩ = some (.slice (some b2) m2 d2)) := fun wx hwx => ⟨hwx, ((unhide XA).below hwx).cells⟩
    obtain ⟨_, ⟨xA0, xA1, xA2⟩⟩ := HKEEP _ (Below.refl _ _)
    go_wp2_with (first
      | (go_at_call_of 12 (Value.slice (some b1) m1 d1); refine (lwArray_src c (some b1) (some b2) m1 m2 d1 d2 sh dt _ (Src.of ((unhide XA).r1.below (Nat.le_refl _) (by first | exact hK0 | exact hK0.alloc hK0.size _ | exact ((Below.refl _ _).alloc (Nat.le_refl _) _).drew))) (Src.of ((unhide XA).r2.below (Nat.le_refl _) (by first | exact hK0 | exact hK0.alloc hK0.size _ | exact ((Below.refl _ _).alloc (Nat.le_refl _) _).drew))) (by omega) (by omega)).mono ?_; rintro e w1 ⟨ga1, gb1, da1, db1, rfl, hA1, hB1, hu1, hv1, hb1⟩; have hK1 : Below U.heap.size U w1 := (by first | exact hK0.trans (hb1.mono hK0.size) | exact (hK0.alloc hK0.size _).trans (hb1.mono (by have := hK0.size; simp; omega)) | exact (((Below.refl _ _).alloc (Nat.le_refl _) _).drew).trans (hb1.mono (by simp))); have hA1_1 := hA1.row; have hB1_1 := hB1.row; obtain ⟨_, ⟨xA0, xA1, xA2⟩⟩ := HKEEP _ hK1)
      | (go_at_call 11; refine (implMon_rev 21 false (.inl ⟨rfl, rfl⟩) c (some ⟨ga1, 0, none⟩) (some ⟨gb1, 0, none⟩) _ _ _ _ sh dt _ (by first | exact hA1_1 | exact hA1_1.alloc _) (by first | exact hB1_1 | exact hB1_1.alloc _) (unhide HR)).mono ?_; rintro e w2 ⟨e1, k1, f1, e2, k2, f2, rfl, hE1, hE2, _, hb2⟩; have hF1 := hE1.row; have hF2 := hE2.row; clear hE1 hE2; (have HR' := unhide HRV1; rw [HR'] at hF1 hF2 ⊢; simp only at hF1 hF2 ⊢; clear HR'); have hK2 : Below U.heap.size U w2 := (by first | exact hK1.trans (hb2.mono hK1.size) | exact (hK1.alloc hK1.size _).trans (hb2.mono (by have := hK1.size; simp; omega)))))
    all_goals (go_meet; case rel => first | exact ⟨rfl, _, _, _, _, _, _, _, rfl, Var.new hF1 hF2, hK2.size, hK2.alloc hK2.size _⟩)
  case rest =>
  obtain ⟨U1, hwc⟩ : ∃ x, x = wc := ⟨_, rfl⟩
  subst hwc
  obtain ⟨rfl, pX, e1X, k1X, f1X, e2X, k2X, f2X, rfl, hv, hfrX, hK⟩ := hcut
  have hneAX : ¬ pA = pX := by have := (unhide XA).box.lt; omega
  have hneXA : ¬ pX = pA := fun e => hneAX e.symm
  have hnePX : ¬ pP = pX := by have := (unhide XP).box.lt; omega
  have hneXP : ¬ pX = pP := fun e => hnePX e.symm
  have hneKX : ¬ pK = pX := by have := (unhide XK).box.lt; omega
  have hneXK : ¬ pX = pK := fun e => hneKX e.symm
  have hlowX : w.heap.size ≤ pX := by have := (unhide HB).size; omega
  clear hfrX
  have T_A := hide ((unhide XA).below hK)
  have T_P := hide ((unhide XP).below hK)
  have T_K := hide ((unhide XK).below hK)
  have T_HB := hide ((unhide HB).trans (hK.mono (unhide HB).size))
  clear HB XA XP XK
  have XA := T_A
  clear T_A
  have XP := T_P
  clear T_P
  have XK := T_K
  clear T_K
  have HB := T_HB
  clear T_HB
  have XX := hide hv
  clear hv hK
  go_upto_region 8 with fail
  go_cut [10] (fun r7 wr => r7 = .int .i64 0 ∧ ∃ e1 k1 f1 e2 k2 f2, Var wr pX c e1 k1 f1 e2 k2 f2 sh dt ∧ But (fun y => y = pX) U1 wr)
  case first => as_aux_lemma =>
    have hK0 : Below U1.heap.size U1 U1 := Below.refl _ _
    have HKEEP : ∀ wx, Below U1.heap.size U1 wx → Below U1.heap.size U1 wx ∧ (wx.cell? ⟨pX, 0, none⟩ = some (.bool c) ∧ wx.cell? ⟨pX, 1, none⟩ = some (.slice e1X k1X f1X) ∧ wx.cell? ⟨pX, 2, none⟩ = some (.slice e2X k2X f2X)) := fun wx hwx => ⟨hwx, ((unhide XX).below hwx).cells⟩
    obtain ⟨_, ⟨xX0, xX1, xX2⟩⟩ := HKEEP _ (Below.refl _ _)
    go_wp2_with (first
      | (go_at_call 11; refine (implMon_rev 21 false (.inl ⟨rfl, rfl⟩) c e1X e2X _ _ _ _ sh rv _ ((unhide XX).r1.below (Nat.le_refl _) (by first | exact hK0 | exact hK0.alloc hK0.size _ | exact ((Below.refl _ _).alloc (Nat.le_refl _) _).drew)) ((unhide XX).r2.below (Nat.le_refl _) (by first | exact hK0 | exact hK0.alloc hK0.size _ | exact ((Below.refl _ _).alloc (Nat.le_refl _) _).drew)) (unhide HROK)).mono ?_; rintro e w1 ⟨e1, k1, f1, e2, k2, f2, rfl, hE1, hE2, _, hb1⟩; have hF1 := hE1.row; have hF2 := hE2.row; clear hE1 hE2; (have HR' := unhide HRV2; rw [HR'] at hF1 hF2 ⊢; simp only at hF1 hF2 ⊢; clear HR'); have hK1 : Below U1.heap.size U1 w1 := (by first | exact hK0.trans (hb1.mono hK0.size) | exact (hK0.alloc hK0.size _).trans (hb1.mono (by have := hK0.size; simp; omega)) | exact (((Below.refl _ _).alloc (Nat.le_refl _) _).drew).trans (hb1.mono (by simp))); obtain ⟨u0, u1, u2, u3, u4, u5, u6⟩ := ((unhide XX).box.below (Nat.le_refl _) hK1).free'))
    all_goals (go_meet; case rel => exact ⟨rfl, _, _, _, _, _, _, Var.put ((unhide XX).box.below (Nat.le_refl _) hK1) hF1 hF2, ((((But.of_below (S := fun y => y = pX) hK1).setCell (p := ⟨pX, 0, none⟩) rfl _).setCell (p := ⟨pX, 1, none⟩) rfl _).setCell (p := ⟨pX, 2, none⟩) rfl _)⟩)
  case rest =>
  obtain ⟨U2, hwc⟩ : ∃ x, x = wc := ⟨_, rfl⟩
  subst hwc
  obtain ⟨rfl, e1Xn, k1Xn, f1Xn, e2Xn, k2Xn, f2Xn, hv, hK⟩ := hcut
  have T_A := hide ((unhide XA).but (unhide XX).box hK hneAX)
  have T_P := hide ((unhide XP).but (unhide XX).box hK hnePX)
  have T_K := hide ((unhide XK).but (unhide XX).box hK hneKX)
  have T_HB := hide ((unhide HB).trans (hK.below (unhide HB).size (fun y hy => by rw [hy]; exact hlowX)))
  clear HB XA XP XK XX
  have XA := T_A
  clear T_A
  have XP := T_P
  clear T_P
  have XK := T_K
  clear T_K
  have HB := T_HB
  clear T_HB
  have XX := hide hv
  clear hv hK
  go_upto_region 9 with fail
  go_cut [11, 12] (fun r6 r7 wr => r7 = .int .i64 0 ∧ ∃ p e1 k1 f1 e2 k2 f2, r6 = .pointer (some ⟨p, 0, none⟩) ∧ Var wr p c e1 k1 f1 e2 k2 f2 sh rf ∧ U2.heap.size ≤ p ∧ Below U2.heap.size U2 wr)
  case first => as_aux_lemma =>
    have hK0 : Below U2.heap.size U2 U2 := Below.refl _ _
    have HKEEP : ∀ wx, Below U2.heap.size U2 wx → Below U2.heap.size U2 wx ∧ (wx.cell? ⟨pA, 0, none⟩ = some (.bool c) ∧ wx.cell? ⟨pA, 1, none⟩ = some (.slice (some b1) m1 d1) ∧ wx.cell? ⟨pA, 2, none⟩ = some (.slice (some b2) m2 d2)) := fun wx hwx => ⟨hwx, ((unhide XA).below hwx).cells⟩
    obtain ⟨_, ⟨xA0, xA1, xA2⟩⟩ := HKEEP _ (Below.refl _ _)
    go_wp2_with (first
      | (go_at_call_of 12 (Value.slice (some b1) m1 d1); refine (lwArray_src c (some b1) (some b2) m1 m2 d1 d2 sh dt _ (Src.of ((unhide XA).r1.below (Nat.le_refl _) (by first | exact hK0 | exact hK0.alloc hK0.size _ | exact ((Below.refl _ _).alloc (Nat.le_refl _) _).drew))) (Src.of ((unhide XA).r2.below (Nat.le_refl _) (by first | exact hK0 | exact hK0.alloc hK0.size _ | exact ((Below.refl _ _).alloc (Nat.le_refl _) _).drew))) (by omega) (by omega)).mono ?_; rintro e w1 ⟨ga1, gb1, da1, db1, rfl, hA1, hB1, hu1, hv1, hb1⟩; have hK1 : Below U2.heap.size U2 w1 := (by first | exact hK0.trans (hb1.mono hK0.size) | exact (hK0.alloc hK0.size _).trans (hb1.mono (by have := hK0.size; simp; omega)) | exact (((Below.refl _ _).alloc (Nat.le_refl _) _).drew).trans (hb1.mono (by simp))); have hA1_1 := hA1.row; have hB1_1 := hB1.row; obtain ⟨_, ⟨xA0, xA1, xA2⟩⟩ := HKEEP _ hK1)
      | (go_at_call 11; refine (implMon_rev 22 true (.inr ⟨rfl, rfl⟩) c (some ⟨ga1, 0, none⟩) (some ⟨gb1, 0, none⟩) _ _ _ _ sh dt _ (by first | exact hA1_1 | exact hA1_1.alloc _) (by first | exact hB1_1 | exact hB1_1.alloc _) (unhide HR)).mono ?_; rintro e w2 ⟨e1, k1, f1, e2, k2, f2, rfl, hE1, hE2, _, hb2⟩; have hF1 := hE1.row; have hF2 := hE2.row; clear hE1 hE2; (have HR' := unhide HRF1; rw [HR'] at hF1 hF2 ⊢; simp only at hF1 hF2 ⊢; clear HR'); have hK2 : Below U2.heap.size U2 w2 := (by first | exact hK1.trans (hb2.mono hK1.size) | exact (hK1.alloc hK1.size _).trans (hb2.mono (by have := hK1.size; simp; omega)))))
    all_goals (go_meet; case rel => first | exact ⟨rfl, _, _, _, _, _, _, _, rfl, Var.new hF1 hF2, hK2.size, hK2.alloc hK2.size _⟩)
  case rest =>
  obtain ⟨U3, hwc⟩ : ∃ x, x = wc := ⟨_, rfl⟩
  subst hwc
  obtain ⟨rfl, pY, e1Y, k1Y, f1Y, e2Y, k2Y, f2Y, rfl, hv, hfrY, hK⟩ := hcut
  have hneAY : ¬ pA = pY := by have := (unhide XA).box.lt; omega
  have hneYA : ¬ pY = pA := fun e => hneAY e.symm
  have hnePY : ¬ pP = pY := by have := (unhide XP).box.lt; omega
  have hneYP : ¬ pY = pP := fun e => hnePY e.symm
  have hneKY : ¬ pK = pY := by have := (unhide XK).box.lt; omega
  have hneYK : ¬ pY = pK := fun e => hneKY e.symm
  have hneXY : ¬ pX = pY := by have := (unhide XX).box.lt; omega
  have hneYX : ¬ pY = pX := fun e => hneXY e.symm
  have hlowY : w.heap.size ≤ pY := by have := (unhide HB).size; omega
  clear hfrY
  have T_A := hide ((unhide XA).below hK)
  have T_P := hide ((unhide XP).below hK)
  have T_K := hide ((unhide XK).below hK)
  have T_X := hide ((unhide XX).below hK)
  have T_HB := hide ((unhide HB).trans (hK.mono (unhide HB).size))
  clear HB XA XP XK XX
  have XA := T_A
  clear T_A
  have XP := T_P
  clear T_P
  have XK := T_K
  clear T_K
  have XX := T_X
  clear T_X
  have HB := T_HB
  clear T_HB
  have XY := hide hv
  clear hv hK
  go_upto_region 10 with fail
  go_cut [13] (fun r7 wr => r7 = .int .i64 0 ∧ ∃ e1 k1 f1 e2 k2 f2, Var wr pY c e1 k1 f1 e2 k2 f2 sh dt ∧ But (fun y => y = pY) U3 wr)
  case first => as_aux_lemma =>
    have hK0 : Below U3.heap.size U3 U3 := Below.refl _ _
    have HKEEP : ∀ wx, Below U3.heap.size U3 wx → Below U3.heap.size U3 wx ∧ (wx.cell? ⟨pY, 0, none⟩ = some (.bool c) ∧ wx.cell? ⟨pY, 1, none⟩ = some (.slice e1Y k1Y f1Y) ∧ wx.cell? ⟨pY, 2, none⟩ = some (.slice e2Y k2Y f2Y)) := fun wx hwx => ⟨hwx, ((unhide XY).below hwx).cells⟩
    obtain ⟨_, ⟨xY0, xY1, xY2⟩⟩ := HKEEP _ (Below.refl _ _)
    go_wp2_with (first
      | (go_at_call 11; refine (implMon_rev 22 true (.inr ⟨rfl, rfl⟩) c e1Y e2Y _ _ _ _ sh rf _ ((unhide XY).r1.below (Nat.le_refl _) (by first | exact hK0 | exact hK0.alloc hK0.size _ | exact ((Below.refl _ _).alloc (Nat.le_refl _) _).drew)) ((unhide XY).r2.below (Nat.le_refl _) (by first | exact hK0 | exact hK0.alloc hK0.size _ | exact ((Below.refl _ _).alloc (Nat.le_refl _) _).drew)) (unhide HFOK)).mono ?_; rintro e w1 ⟨e1, k1, f1, e2, k2, f2, rfl, hE1, hE2, _, hb1⟩; have hF1 := hE1.row; have hF2 := hE2.row; clear hE1 hE2; (have HR' := unhide HRF2; rw [HR'] at hF1 hF2 ⊢; simp only at hF1 hF2 ⊢; clear HR'); have hK1 : Below U3.heap.size U3 w1 := (by first | exact hK0.trans (hb1.mono hK0.size) | exact (hK0.alloc hK0.size _).trans (hb1.mono (by have := hK0.size; simp; omega)) | exact (((Below.refl _ _).alloc (Nat.le_refl _) _).drew).trans (hb1.mono (by simp))); obtain ⟨u0, u1, u2, u3, u4, u5, u6⟩ := ((unhide XY).box.below (Nat.le_refl _) hK1).free'))
    all_goals (go_meet; case rel => exact ⟨rfl, _, _, _, _, _, _, Var.put ((unhide XY).box.below (Nat.le_refl _) hK1) hF1 hF2, ((((But.of_below (S := fun y => y = pY) hK1).setCell (p := ⟨pY, 0, none⟩) rfl _).setCell (p := ⟨pY, 1, none⟩) rfl _).setCell (p := ⟨pY, 2, none⟩) rfl _)⟩)
  case rest =>
  obtain ⟨U4, hwc⟩ : ∃ x, x = wc := ⟨_, rfl⟩
  subst hwc
  obtain ⟨rfl, e1Yn, k1Yn, f1Yn, e2Yn, k2Yn, f2Yn, hv, hK⟩ := hcut
  have T_A := hide ((unhide XA).but (unhide XY).box hK hneAY)
  have T_P := hide ((unhide XP).but (unhide XY).box hK hnePY)
  have T_K := hide ((unhide XK).but (unhide XY).box hK hneKY)
  have T_X := hide ((unhide XX).but (unhide XY).box hK hneXY)
  have T_HB := hide ((unhide HB).trans (hK.below (unhide HB).size (fun y hy => by rw [hy]; exact hlowY)))
  clear HB XA XP XK XX XY
  have XA := T_A
  clear T_A
  have XP := T_P
  clear T_P
  have XK := T_K
  clear T_K
  have XX := T_X
  clear T_X
  have HB := T_HB
  clear T_HB
  have XY := hide hv
  clear hv hK
  obtain ⟨x0, x1', x2'⟩ := (unhide XX).cells
  obtain ⟨y0, y1', y2'⟩ := (unhide XA).cells
  go_upto_region 13 with (first
    | (go_at_call_of 13 (Value.slice e1Xn k1Xn f1Xn); refine (eqArray_refl _ _ _ _ _ _ _ _ _ _ _ _ _ sh dt _ (unhide XX).r1 (unhide XX).r2 (unhide XA).r1 (unhide XA).r2).mono ?_; rintro e wA ⟨rfl, hK⟩; have JY := hide ((unhide XY).below hK); have JA := hide ((unhide XA).below hK); have JP := hide ((unhide XP).below hK); have JK := hide ((unhide XK).below hK); have JB := hide ((unhide HB).trans (hK.mono (unhide HB).size)); clear hK x0 x1' x2' y0 y1' y2'; obtain ⟨x0, x1', x2'⟩ := (unhide JY).cells; obtain ⟨y0, y1', y2'⟩ := (unhide JA).cells)
    | (go_at_call_of 13 (Value.slice e1Yn k1Yn f1Yn); refine (eqArray_refl _ _ _ _ _ _ _ _ _ _ _ _ _ sh dt _ (unhide JY).r1 (unhide JY).r2 (unhide JA).r1 (unhide JA).r2).mono ?_; rintro e wB ⟨rfl, hK⟩; have LA := hide ((unhide JA).below hK); have LP := hide ((unhide JP).below hK); have LK := hide ((unhide JK).below hK); have LB := hide ((unhide JB).trans (hK.mono (unhide JB).size)); clear hK))
  clear XX XY XA XP XK HB JY JA JP JK JB x0 x1' x2' y0 y1' y2' HRV1 HRV2 HRF1 HRF2 HROK HFOK
  have XA := LA
  have XP := LP
  have XK := LK
  have HB := LB
  clear LA LP LK LB
  obtain ⟨U5, hU5⟩ : ∃ x, x = wB := ⟨_, rfl⟩
  subst hU5
  obtain ⟨tc, tsh, tdt, cT, hrt⟩ : ∃ rc rsh rdt rp, transpose cp c shp dtp sh dt = ⟨rc, rsh, rdt, rp⟩ := ⟨_, _, _, _, rfl⟩
  have HRT := hide hrt
  clear hrt
  go_cut [14, 15] (fun r6 r7 wr => r7 = .int .i64 cT ∧ ∃ p e1 k1 f1 e2 k2 f2, r6 = .pointer (some ⟨p, 0, none⟩) ∧ Var wr p tc e1 k1 f1 e2 k2 f2 tsh tdt ∧ Below U5.heap.size U5 wr)
  case first => as_aux_lemma =>
    have hK0 : Below U5.heap.size U5 U5 := Below.refl _ _
    have HKEEP : ∀ wx, Below U5.heap.size U5 wx → Below U5.heap.size U5 wx ∧ (wx.cell? ⟨pP, 0, none⟩ = some (.bool cp) ∧ wx.cell? ⟨pP, 1, none⟩ = some (.slice (some a1) n1 c1) ∧ wx.cell? ⟨pP, 2, none⟩ = some (.slice (some a2) n2 c2)) ∧ (wx.cell? ⟨pA, 0, none⟩ = some (.bool c) ∧ wx.cell? ⟨pA, 1, none⟩ = some (.slice (some b1) m1 d1) ∧ wx.cell? ⟨pA, 2, none⟩ = some (.slice (some b2) m2 d2)) := fun wx hwx => ⟨hwx, ((unhide XP).below hwx).cells, ((unhide XA).below hwx).cells⟩
    obtain ⟨_, ⟨xP0, xP1, xP2⟩, ⟨xA0, xA1, xA2⟩⟩ := HKEEP _ (Below.refl _ _)
    go_wp2_with (first
      | (go_at_call 14; refine (Transpose_any cp c a1 a2 b1 b2 _ _ _ _ _ _ _ _ shp dtp sh dt _ ((unhide XP).r1.below (Nat.le_refl _) (by first | exact hK0 | exact hK0.alloc hK0.size _ | exact ((Below.refl _ _).alloc (Nat.le_refl _) _).drew)) ((unhide XP).r2.below (Nat.le_refl _) (by first | exact hK0 | exact hK0.alloc hK0.size _ | exact ((Below.refl _ _).alloc (Nat.le_refl _) _).drew)) ((unhide XA).r1.below (Nat.le_refl _) (by first | exact hK0 | exact hK0.alloc hK0.size _ | exact ((Below.refl _ _).alloc (Nat.le_refl _) _).drew)) ((unhide XA).r2.below (Nat.le_refl _) (by first | exact hK0 | exact hK0.alloc hK0.size _ | exact ((Below.refl _ _).alloc (Nat.le_refl _) _).drew))).mono ?_; rintro e w1 ⟨e1, k1, f1, e2, k2, f2, rfl, hF1, hF2, hb1⟩; (have HR' := unhide HRT; rw [HR'] at hF1 hF2 ⊢; simp only at hF1 hF2 ⊢; clear HR'); have hK1 : Below U5.heap.size U5 w1 := (by first | exact hK0.trans (hb1.mono hK0.size) | exact (hK0.alloc hK0.size _).trans (hb1.mono (by have := hK0.size; simp; omega)) | exact (((Below.refl _ _).alloc (Nat.le_refl _) _).drew).trans (hb1.mono (by simp)))))
    all_goals (go_meet; case rel => first | exact ⟨rfl, _, _, _, _, _, _, _, rfl, Var.new hF1 hF2, hK1.alloc hK1.size _⟩)
  case rest =>
  obtain ⟨U6, hwc⟩ : ∃ x, x = wc := ⟨_, rfl⟩
  subst hwc
  obtain ⟨rfl, pT, e1T, k1T, f1T, e2T, k2T, f2T, rfl, hv, hK⟩ := hcut
  have T_A := hide ((unhide XA).below hK)
  have T_P := hide ((unhide XP).below hK)
  have T_K := hide ((unhide XK).below hK)
  have T_HB := hide ((unhide HB).trans (hK.mono (unhide HB).size))
  clear HB XA XP XK
  have XA := T_A
  clear T_A
  have XP := T_P
  clear T_P
  have XK := T_K
  clear T_K
  have HB := T_HB
  clear T_HB
  have XT := hide hv
  clear hv hK
  clear XT
  go_upto_region 14 with fail
  go_cut [16, 9] (fun r6 r7 wr => r7 = .int .i64 cT ∧ ∃ p e1 k1 f1 e2 k2 f2, r6 = .pointer (some ⟨p, 0, none⟩) ∧ Var wr p tc e1 k1 f1 e2 k2 f2 tsh tdt ∧ U6.heap.size ≤ p ∧ Below U6.heap.size U6 wr)
  case first => as_aux_lemma =>
    have hK0 : Below U6.heap.size U6 U6.drew := (Below.refl _ _).drew
    have HKEEP : ∀ wx, Below U6.heap.size U6 wx → Below U6.heap.size U6 wx ∧ (wx.cell? ⟨pP, 0, none⟩ = some (.bool cp) ∧ wx.cell? ⟨pP, 1, none⟩ = some (.slice (some a1) n1 c1) ∧ wx.cell? ⟨pP, 2, none⟩ = some (.slice (some a2) n2 c2)) ∧ (wx.cell? ⟨pA, 0, none⟩ = some (.bool c) ∧ wx.cell? ⟨pA, 1, none⟩ = some (.slice (some b1) m1 d1) ∧ wx.cell? ⟨pA, 2, none⟩ = some (.slice (some b2) m2 d2)) := fun wx hwx => ⟨hwx, ((unhide XP).below hwx).cells, ((unhide XA).below hwx).cells⟩
    obtain ⟨_, ⟨xP0, xP1, xP2⟩, ⟨xA0, xA1, xA2⟩⟩ := HKEEP _ (Below.refl _ _)
    go_region_held (fun wx => Below U6.heap.size U6 wx ∧ (wx.cell? ⟨pP, 0, none⟩ = some (.bool cp) ∧ wx.cell? ⟨pP, 1, none⟩ = some (.slice (some a1) n1 c1) ∧ wx.cell? ⟨pP, 2, none⟩ = some (.slice (some a2) n2 c2)) ∧ (wx.cell? ⟨pA, 0, none⟩ = some (.bool c) ∧ wx.cell? ⟨pA, 1, none⟩ = some (.slice (some b1) m1 d1) ∧ wx.cell? ⟨pA, 2, none⟩ = some (.slice (some b2) m2 d2))) (first | exact HKEEP _ hK3 | exact HKEEP _ (((hK3.setCell (by have z0 := hK0.size; have z1 := hK1.size; have z2 := hK2.size; have z3 := hK3.size; simp <;> omega) _).setCell (by have z0 := hK0.size; have z1 := hK1.size; have z2 := hK2.size; have z3 := hK3.size; simp <;> omega) _).setCell (by have z0 := hK0.size; have z1 := hK1.size; have z2 := hK2.size; have z3 := hK3.size; simp <;> omega) _) | exact HKEEP _ (hK3.alloc hK3.size _) | exact HKEEP _ hK2 | exact HKEEP _ (hK2.alloc hK2.size _) | exact HKEEP _ hK1 | exact HKEEP _ (hK1.alloc hK1.size _) | exact HKEEP _ hK0 | exact HKEEP _ (hK0.alloc hK0.size _) | exact HKEEP _ ((Below.refl _ _).alloc (Nat.le_refl _) _).drew)
      (first
        | (go_at_call_of 12 (Value.slice (some a1) n1 c1); refine (lwArray_src cp (some a1) (some a2) n1 n2 c1 c2 shp dtp _ (Src.of ((unhide XP).r1.below (Nat.le_refl _) (by first | exact hK0 | exact hK0.alloc hK0.size _ | exact ((Below.refl _ _).alloc (Nat.le_refl _) _).drew))) (Src.of ((unhide XP).r2.below (Nat.le_refl _) (by first | exact hK0 | exact hK0.alloc hK0.size _ | exact ((Below.refl _ _).alloc (Nat.le_refl _) _).drew))) (by omega) (by omega)).mono ?_; rintro e w1 ⟨ga1, gb1, da1, db1, rfl, hA1, hB1, hu1, hv1, hb1⟩; have hK1 : Below U6.heap.size U6 w1 := (by first | exact hK0.trans (hb1.mono hK0.size) | exact (hK0.alloc hK0.size _).trans (hb1.mono (by have := hK0.size; simp; omega)) | exact (((Below.refl _ _).alloc (Nat.le_refl _) _).drew).trans (hb1.mono (by simp))); (first | have hP1 := (Box.new _ _ _ _).below (Nat.le_refl _) hb1 | have hP1 := (Box.new _ _ _ _).drew.below (Nat.le_refl _) hb1 | skip); have hA1_1 := hA1.row; have hB1_1 := hB1.row; obtain ⟨_, ⟨xP0, xP1, xP2⟩, ⟨xA0, xA1, xA2⟩⟩ := HKEEP _ hK1)
        | (go_at_call_of 12 (Value.slice (some b1) m1 d1); refine (lwArray_src c (some b1) (some b2) m1 m2 d1 d2 sh dt _ (Src.of ((unhide XA).r1.below (Nat.le_refl _) (by first | exact hK1 | exact hK1.alloc hK1.size _))) (Src.of ((unhide XA).r2.below (Nat.le_refl _) (by first | exact hK1 | exact hK1.alloc hK1.size _))) (by omega) (by omega)).mono ?_; rintro e w2 ⟨ga2, gb2, da2, db2, rfl, hA2, hB2, hu2, hv2, hb2⟩; have hK2 : Below U6.heap.size U6 w2 := (by first | exact hK1.trans (hb2.mono hK1.size) | exact (hK1.alloc hK1.size _).trans (hb2.mono (by have := hK1.size; simp; omega))); (first | have hP2 := hP1.below (Nat.le_refl _) hb2 | have hP2 := (Box.new _ _ _ _).below (Nat.le_refl _) hb2 | have hP2 := (Box.new _ _ _ _).drew.below (Nat.le_refl _) hb2 | skip); have hA1_2 : Row w2 (some ⟨ga1, 0, none⟩) n1 shp := (by first | exact hA1_1.below (Nat.le_refl _) hb2 | exact (hA1_1.alloc _).below (Nat.le_refl _) hb2); have hB1_2 : Row w2 (some ⟨gb1, 0, none⟩) n2 dtp := (by first | exact hB1_1.below (Nat.le_refl _) hb2 | exact (hB1_1.alloc _).below (Nat.le_refl _) hb2); have hA2_2 := hA2.row; have hB2_2 := hB2.row; obtain ⟨_, ⟨xP0, xP1, xP2⟩, ⟨xA0, xA1, xA2⟩⟩ := HKEEP _ hK2)
        | (go_at_call 15; refine (implTranspose_any cp c (some ⟨ga1, 0, none⟩) (some ⟨gb1, 0, none⟩) (some ⟨ga2, 0, none⟩) (some ⟨gb2, 0, none⟩) _ _ _ _ _ _ _ _ shp dtp sh dt _ (by first | exact hA1_2 | exact hA1_2.alloc _) (by first | exact hB1_2 | exact hB1_2.alloc _) (by first | exact hA2_2 | exact hA2_2.alloc _) (by first | exact hB2_2 | exact hB2_2.alloc _)).mono ?_; rintro e w3 ⟨e1, k1, f1, e2, k2, f2, rfl, hE1, hE2, _, hb3⟩; have hF1 := hE1.row; have hF2 := hE2.row; clear hE1 hE2; (have HR' := unhide HRT; rw [HR'] at hF1 hF2 ⊢; simp only at hF1 hF2 ⊢; clear HR'); have hK3 : Below U6.heap.size U6 w3 := (by first | exact hK2.trans (hb3.mono hK2.size) | exact (hK2.alloc hK2.size _).trans (hb3.mono (by have := hK2.size; simp; omega))); (first | (have hP3 := hP2.below (Nat.le_refl _) hb3; obtain ⟨u0, u1, u2, u3, u4, u5, u6⟩ := hP3.free'; (try simp at u0 u1 u2 u3 u4 u5 u6)) | (have hP3 := (Box.new _ _ _ _).below (Nat.le_refl _) hb3; obtain ⟨u0, u1, u2, u3, u4, u5, u6⟩ := hP3.free'; (try simp at u0 u1 u2 u3 u4 u5 u6)) | (have hP3 := (Box.new _ _ _ _).drew.below (Nat.le_refl _) hb3; obtain ⟨u0, u1, u2, u3, u4, u5, u6⟩ := hP3.free'; (try simp at u0 u1 u2 u3 u4 u5 u6)) | skip)))
    all_goals go_wp2_with fail
    all_goals (go_meet; case rel => first | exact ⟨rfl, _, _, _, _, _, _, _, rfl, Var.new hF1 hF2, (by first | exact hK3.size | exact hK2.size | exact hK1.size | exact hK0.size | exact Nat.le_refl _), hK3.alloc hK3.size _⟩ | exact ⟨rfl, _, _, _, _, _, _, _, rfl, Var.put hP3 hF1 hF2, (by first | exact hK3.size | exact hK2.size | exact hK1.size | exact hK0.size | exact Nat.le_refl _), ((hK3.setCell (by have z0 := hK0.size; have z1 := hK1.size; have z2 := hK2.size; have z3 := hK3.size; simp <;> omega) _).setCell (by have z0 := hK0.size; have z1 := hK1.size; have z2 := hK2.size; have z3 := hK3.size; simp <;> omega) _).setCell (by have z0 := hK0.size; have z1 := hK1.size; have z2 := hK2.size; have z3 := hK3.size; simp <;> omega) _⟩)
  case rest =>
  obtain ⟨U7, hwc⟩ : ∃ x, x = wc := ⟨_, rfl⟩
  subst hwc
  obtain ⟨rfl, pZ, e1Z, k1Z, f1Z, e2Z, k2Z, f2Z, rfl, hv, hfrZ, hK⟩ := hcut
  have hneAZ : ¬ pA = pZ := by have := (unhide XA).box.lt; omega
  have hneZA : ¬ pZ = pA := fun e => hneAZ e.symm
  have hnePZ : ¬ pP = pZ := by have := (unhide XP).box.lt; omega
  have hneZP : ¬ pZ = pP := fun e => hnePZ e.symm
  have hneKZ : ¬ pK = pZ := by have := (unhide XK).box.lt; omega
  have hneZK : ¬ pZ = pK := fun e => hneKZ e.symm
  have hlowZ : w.heap.size ≤ pZ := by have := (unhide HB).size; omega
  clear hfrZ
  have T_A := hide ((unhide XA).below hK)
  have T_P := hide ((unhide XP).below hK)
  have T_K := hide ((unhide XK).below hK)
  have T_HB := hide ((unhide HB).trans (hK.mono (unhide HB).size))
  clear HB XA XP XK
  have XA := T_A
  clear T_A
  have XP := T_P
  clear T_P
  have XK := T_K
  clear T_K
  have HB := T_HB
  clear T_HB
  have XZ := hide hv
  clear hv hK
  have gcc : (cT != cT) = false := by simp
  go_upto_if 103 with fail
  go_cut [] (fun wx => Var wx pA c (some b1) m1 d1 (some b2) m2 d2 sh dt ∧ Var wx pK ck (some e1) k1 f1 (some e2) k2 f2 shk dtk ∧ Below w.heap.size w wx)
  case first =>
    by_cases hz : cT = 0
    rotate_left
    · have gz : (cT == 0) = false := by simp [hz]
      go_wp2_with fail
      go_meet
      case rel => exact ⟨unhide XA, unhide XK, unhide HB⟩
    subst hz
    obtain ⟨hokp, hlc, hpl, hord⟩ := trans_zero (c := cp) (d := c) (sh := shp) (dt := dtp) (sh' := sh) (dt' := dt) (by rw [unhide HRT])
    obtain ⟨Tz, rz, hrz1, _, _, hrz2⟩ := trans_back hokp (unhide HR) hlc hpl hord (back_is hord)
    have e2 : (⟨tc, tsh, tdt, 0⟩ : Ans) = ⟨c, Tz, rz, 0⟩ := (unhide HRT).symm.trans hrz1
    obtain ⟨t1, t2, t3, _⟩ := Ans.mk.inj e2
    subst tc
    subst Tz
    subst rz
    have hlm := (unhide XA).r1.len
    rw [hlm] at hrz2 hord hpl
    have hl2 : n2 = m1 := by have := (unhide XP).r2.len; omega
    subst hl2
    have hs5 := (shapeIn_of (unhide HR)).2.2
    rw [hlm] at hs5
    obtain ⟨bk, hbk⟩ : ∃ x, x = turnN dtp (nosN n2) n2 n2 := ⟨_, rfl⟩
    rw [← hbk] at hrz2
    have HZ2 := hide hrz2
    have HORD := hide hord
    have HBKE := hide hbk
    clear hrz1 hrz2 hord hpl hokp hlc hlm e2 hbk
    obtain ⟨x0, x1', x2'⟩ := (unhide XP).cells
    have hmk := run_make_row' (P := Tryz.prog) 23 3 (.int .i64 0) 8 Tryz.underlying23 info_int rfl .i64 .i64 n2 (by omega) (by omega)
    obtain ⟨X0, hX0⟩ : ∃ x, x = U7.alloc (.cells (madeCells #[.int .i64 0] n2) 3) := ⟨_, rfl⟩
    obtain ⟨g, hg⟩ : ∃ x, x = U7.heap.size := ⟨_, rfl⟩
    have HBK : Hid (Blk X0 g (turnN dtp (nosN n2) n2 0)) := by rw [hX0]; exact Blk.made U7 n2 g hg
    have HU : Hid (Below U7.heap.size U7 X0) := by rw [hX0]; exact (Below.refl _ _).alloc (Nat.le_refl _) _
    have hlg : U7.heap.size ≤ g := by omega
    go_upto_region 19 with fail
    rw [← hX0, ← hg]
    clear hX0 hg x0 x1' x2' hmk
    go_wp2_with fail
    go_loopw [18] (fun i wr => ∃ k : Nat, k ≤ n2 ∧ i = .int .i64 (k : Nat) ∧ Hid (Blk wr g (turnN dtp (nosN n2) n2 k)) ∧ Hid (Below U7.heap.size U7 wr)) (fun i _ => n2 - (intOf i).toNat)
    case atStart => exact ⟨0, Nat.zero_le _, rfl, HBK, HU⟩
    case round =>
    clear HBK HU
    obtain ⟨k, hk, rfl, hblk, hbl⟩ := hrel
    by_cases hlt : k < n2
    · have hkz : (k : Int) < (n2 : Int) := by omega
      obtain ⟨x0, x1', x2'⟩ := ((unhide XP).below (unhide hbl)).cells
      obtain ⟨bb, ob, eb, hbb, hcb⟩ := ((unhide XP).below (unhide hbl)).r2.get hlt
      cases eb
      obtain ⟨j, hj⟩ : ∃ j, axNo dtp k = j := ⟨_, rfl⟩
      have hjl : j < n2 := by rw [← hj]; exact stepOk_lt (order_step (unhide HORD) hlt)
      have hrg := order_range (unhide HORD) k hlt
      have hdk : dtp.getD k 0 = (j : Int) + 1 := by rw [← hj]; unfold axNo; omega
      rw [hdk] at hcb
      have hjz : (j : Int) < (n2 : Int) := by omega
      have hwj : IntKind.i64.wrap ((j : Int) + 1 - 1) = (j : Int) := by rw [IntKind.wrap_i64]; omega
      have hwk : IntKind.i64.wrap ((k : Int) + 1) = (k : Int) + 1 := by rw [IntKind.wrap_i64]; omega
      have cj := (unhide hblk).cell (i := j) (by rw [turnN_len]; omega)
      have fj := (unhide hblk).free j
      obtain ⟨xj, hxj⟩ : ∃ x, x = (turnN dtp (nosN n2) n2 k).getD j 0 := ⟨_, rfl⟩
      rw [← hxj] at cj
      have HST : Hid ((turnN dtp (nosN n2) n2 k).set j ((k : Int) + 1) = turnN dtp (nosN n2) n2 (k + 1)) := by show _ = _; rw [← hj, ← nos_get hlt]; rfl
      clear hrg hdk hj hxj
      go_wp2_with fail
      refine ⟨⟨k + 1, by omega, by go_num, ?_, ?_⟩, ?_⟩
      · rw [← unhide HST]; exact hide ((unhide hblk).set j _)
      · exact hide ((unhide hbl).setCell (p := ⟨g, j, none⟩) hlg _)
      · simp [intOf]; omega
    have hkz : ¬ (k : Int) < (n2 : Int) := by omega
    have hkn : k = n2 := by omega
    clear hlt hk
    subst k
    have XB : Hid (RowV wr (some ⟨g, 0, none⟩) n2 bk) := by rw [unhide HBKE]; exact hide ⟨(unhide hblk).row (turnN_len _ _ _ _) (by omega)⟩
    have YA := hide ((unhide XA).below (unhide hbl))
    have YK := hide ((unhide XK).below (unhide hbl))
    have YZ := hide ((unhide XZ).below (unhide hbl))
    have YB := hide ((unhide HB).trans ((unhide hbl).mono (unhide HB).size))
    clear XA XK XP XZ HB hblk hbl HRT HORD HBKE
    have XA := YA
    have XK := YK
    have XZ := YZ
    have HB := YB
    clear YA YK YZ YB
    obtain ⟨U8, hU8⟩ : ∃ x, x = wr := ⟨_, rfl⟩
    subst hU8
    go_upto_region 23 with fail
    go_cut [10] (fun r7 wr => r7 = .int .i64 0 ∧ ∃ e1 k1 f1 e2 k2 f2, Var wr pZ c e1 k1 f1 e2 k2 f2 sh dt ∧ But (fun y => y = pZ) U8 wr)
    case first => as_aux_lemma =>
      have hK0 : Below U8.heap.size U8 U8.drew := (Below.refl _ _).drew
      have HKEEP : ∀ wx, Below U8.heap.size U8 wx → Below U8.heap.size U8 wx ∧ (wx.cell? ⟨pZ, 0, none⟩ = some (.bool c) ∧ wx.cell? ⟨pZ, 1, none⟩ = some (.slice e1Z k1Z f1Z) ∧ wx.cell? ⟨pZ, 2, none⟩ = some (.slice e2Z k2Z f2Z)) := fun wx hwx => ⟨hwx, ((unhide XZ).below hwx).cells⟩
      obtain ⟨_, ⟨xZ0, xZ1, xZ2⟩⟩ := HKEEP _ (Below.refl _ _)
      go_region_with (first
          | (go_at_call 16; refine (lwVector_some ⟨g, 0, none⟩ n2 n2 bk _ ((unhide XB).r1.below (Nat.le_refl _) (by first | exact hK0 | exact hK0.alloc hK0.size _ | exact ((Below.refl _ _).alloc (Nat.le_refl _) _).drew))).mono ?_; rintro e w1 ⟨ga1, gb1, db1, rfl, hA1, hB1, _, hb1⟩; have hK1 : Below U8.heap.size U8 w1 := (by first | exact hK0.trans (hb1.mono hK0.size) | exact (hK0.alloc hK0.size _).trans (hb1.mono (by have := hK0.size; simp; omega)) | exact (((Below.refl _ _).alloc (Nat.le_refl _) _).drew).trans (hb1.mono (by simp))); (first | have hP1 := (Box.new _ _ _ _).below (Nat.le_refl _) hb1 | have hP1 := (Box.new _ _ _ _).drew.below (Nat.le_refl _) hb1 | skip); have hA1_1 := hA1.row; have hB1_1 := hB1.row; obtain ⟨_, ⟨xZ0, xZ1, xZ2⟩⟩ := HKEEP _ hK1)
          | (go_at_call 15; refine (implTranspose_any false c (some ⟨ga1, 0, none⟩) (some ⟨gb1, 0, none⟩) e1Z e2Z _ _ _ _ _ _ _ _ [(n2 : Int)] bk tsh tdt _ (by first | exact hA1_1 | exact hA1_1.alloc _) (by first | exact hB1_1 | exact hB1_1.alloc _) ((unhide XZ).r1.below (Nat.le_refl _) (by first | exact hK1 | exact hK1.alloc hK1.size _)) ((unhide XZ).r2.below (Nat.le_refl _) (by first | exact hK1 | exact hK1.alloc hK1.size _))).mono ?_; rintro e w2 ⟨e1, k1, f1, e2, k2, f2, rfl, hE1, hE2, _, hb2⟩; have hF1 := hE1.row; have hF2 := hE2.row; clear hE1 hE2; (have HR' := unhide HZ2; rw [HR'] at hF1 hF2 ⊢; simp only at hF1 hF2 ⊢; clear HR'); have hK2 : Below U8.heap.size U8 w2 := (by first | exact hK1.trans (hb2.mono hK1.size) | exact (hK1.alloc hK1.size _).trans (hb2.mono (by have := hK1.size; simp; omega))); (first | (have hP2 := hP1.below (Nat.le_refl _) hb2; obtain ⟨u0, u1, u2, u3, u4, u5, u6⟩ := hP2.free'; (try simp at u0 u1 u2 u3 u4 u5 u6)) | (have hP2 := (Box.new _ _ _ _).below (Nat.le_refl _) hb2; obtain ⟨u0, u1, u2, u3, u4, u5, u6⟩ := hP2.free'; (try simp at u0 u1 u2 u3 u4 u5 u6)) | (have hP2 := (Box.new _ _ _ _).drew.below (Nat.le_refl _) hb2; obtain ⟨u0, u1, u2, u3, u4, u5, u6⟩ := hP2.free'; (try simp at u0 u1 u2 u3 u4 u5 u6)) | skip); obtain ⟨u0, u1, u2, u3, u4, u5, u6⟩ := ((unhide XZ).box.below (Nat.le_refl _) hK2).free'))
      all_goals go_wp2_with fail
      all_goals (go_meet; case rel => exact ⟨rfl, _, _, _, _, _, _, Var.put ((unhide XZ).box.below (Nat.le_refl _) hK2) hF1 hF2, ((((But.of_below (S := fun y => y = pZ) hK2).setCell (p := ⟨pZ, 0, none⟩) rfl _).setCell (p := ⟨pZ, 1, none⟩) rfl _).setCell (p := ⟨pZ, 2, none⟩) rfl _)⟩)
    case rest =>
    obtain ⟨U9, hwc⟩ : ∃ x, x = wc := ⟨_, rfl⟩
    subst hwc
    obtain ⟨rfl, e1Zn, k1Zn, f1Zn, e2Zn, k2Zn, f2Zn, hv, hK⟩ := hcut
    have T_A := hide ((unhide XA).but (unhide XZ).box hK hneAZ)
    have T_K := hide ((unhide XK).but (unhide XZ).box hK hneKZ)
    have T_HB := hide ((unhide HB).trans (hK.below (unhide HB).size (fun y hy => by rw [hy]; exact hlowZ)))
    clear HB XA XK XZ
    have XA := T_A
    clear T_A
    have XK := T_K
    clear T_K
    have HB := T_HB
    clear T_HB
    have XZ := hide hv
    clear hv hK
    obtain ⟨x0, x1', x2'⟩ := (unhide XZ).cells
    obtain ⟨y0, y1', y2'⟩ := (unhide XA).cells
    go_wp2_with (go_at_call 13; refine (eqArray_refl _ _ _ _ _ _ _ _ _ _ _ _ _ sh dt _ (unhide XZ).r1 (unhide XZ).r2 (unhide XA).r1 (unhide XA).r2).mono ?_; rintro e wA ⟨rfl, hK⟩; have JB := hide ((unhide HB).trans (hK.mono (unhide HB).size)); have JA := hide ((unhide XA).below hK); have JK := hide ((unhide XK).below hK); clear hK)
    go_meet
    case rel => exact ⟨unhide JA, unhide JK, unhide JB⟩
  case rest =>
  obtain ⟨U9, hU9⟩ : ∃ x, x = wc := ⟨_, rfl⟩
  subst hU9
  obtain ⟨hvA, hvK, hvB⟩ := hcut
  clear XA XP XK XZ HB gcc HRT
  have XA := hide hvA
  have XK := hide hvK
  have HB := hide hvB
  clear hvA hvK hvB
  obtain ⟨rk, hrk⟩ : ∃ r, arrOk ck shk dtk = r := ⟨_, rfl⟩
  have HRK := hide hrk
  clear hrk
  obtain ⟨x0, x1', x2'⟩ := (unhide XK).cells
  cases rk with
  | false =>
    go_wp2_with (go_at_call 10; refine (ArrayOk_eq _ _ _ _ _ _ _ shk dtk _ (unhide XK).r1 (unhide XK).r2 _ HRK).mono ?_; rintro e w3 ⟨rfl, hb3⟩; have HB3 := hide ((unhide HB).trans (hb3.mono (unhide HB).size)); have YA := hide ((unhide XA).below hb3); have YK := hide ((unhide XK).below hb3); clear hb3 x0 x1' x2'; obtain ⟨x0, x1', x2'⟩ := (unhide YK).cells)
    exact bodyPost_ret (v := .bool true) (by simp [results, Tryz.results3, go_sem]) rfl ⟨rfl, unhide HB3⟩
  | true =>
  cases ck with
  | true =>
    go_wp2_with (go_at_call 10; refine (ArrayOk_eq _ _ _ _ _ _ _ shk dtk _ (unhide XK).r1 (unhide XK).r2 _ HRK).mono ?_; rintro e w3 ⟨rfl, hb3⟩; have HB3 := hide ((unhide HB).trans (hb3.mono (unhide HB).size)); have YA := hide ((unhide XA).below hb3); have YK := hide ((unhide XK).below hb3); clear hb3 x0 x1' x2'; obtain ⟨x0, x1', x2'⟩ := (unhide YK).cells)
    exact bodyPost_ret (v := .bool true) (by simp [results, Tryz.results3, go_sem]) rfl ⟨rfl, unhide HB3⟩
  | false =>
  by_cases hk2 : k2 = 1
  rotate_left
  · have gk : ((k2 : Int) != 1) = true := by simp; omega
    clear hk2
    go_wp2_with (go_at_call 10; refine (ArrayOk_eq _ _ _ _ _ _ _ shk dtk _ (unhide XK).r1 (unhide XK).r2 _ HRK).mono ?_; rintro e w3 ⟨rfl, hb3⟩; have HB3 := hide ((unhide HB).trans (hb3.mono (unhide HB).size)); have YA := hide ((unhide XA).below hb3); have YK := hide ((unhide XK).below hb3); clear hb3 x0 x1' x2'; obtain ⟨x0, x1', x2'⟩ := (unhide YK).cells)
    exact bodyPost_ret (v := .bool true) (by simp [results, Tryz.results3, go_sem]) rfl ⟨rfl, unhide HB3⟩
  subst hk2
  go_upto_region 28 with (go_at_call 10; refine (ArrayOk_eq _ _ _ _ _ _ _ shk dtk _ (unhide XK).r1 (unhide XK).r2 _ HRK).mono ?_; rintro e w3 ⟨rfl, hb3⟩; have HB3 := hide ((unhide HB).trans (hb3.mono (unhide HB).size)); have YA := hide ((unhide XA).below hb3); have YK := hide ((unhide XK).below hb3); clear hb3 x0 x1' x2'; obtain ⟨x0, x1', x2'⟩ := (unhide YK).cells)
  clear XA XK HB x0 x1' x2'
  have XA := YA
  have XK := YK
  have HB := HB3
  clear YA YK HB3
  obtain ⟨V0, hV0⟩ : ∃ x, x = w3 := ⟨_, rfl⟩
  subst hV0
  obtain ⟨bK, oK, eK, hbK, hcK⟩ := (unhide XK).r2.get (k := 0) (by omega)
  cases eK
  rw [Nat.add_zero] at hcK
  obtain ⟨kv, hkv⟩ : ∃ v, dtk = [v] := List.length_eq_one_iff.1 (unhide XK).r2.len
  subst hkv
  rw [show ([kv] : List Int).getD 0 0 = kv from rfl] at hcK
  have hkb := dataOk_bd (unhide HRK) (k := 0) (by simp)
  rw [show ([kv] : List Int).getD 0 0 = kv from rfl] at hkb
  obtain ⟨ru, hru1, _, hru2⟩ := rot_back (fl := fl) (unhide HRK) (unhide HR)
  have HRU1 := hide hru1
  have HRU2 := hide hru2
  clear hru1 hru2
  have HCK := hide hcK
  clear hcK
  go_cut [19, 9] (fun r6 r7 wr => r7 = .int .i64 0 ∧ ∃ p e1 k1 f1 e2 k2 f2, r6 = .pointer (some ⟨p, 0, none⟩) ∧ Var wr p c e1 k1 f1 e2 k2 f2 sh ru ∧ V0.heap.size ≤ p ∧ Below V0.heap.size V0 wr)
  case first => as_aux_lemma =>
    have hK0 : Below V0.heap.size V0 V0.drew := (Below.refl _ _).drew
    have HKEEP : ∀ wx, Below V0.heap.size V0 wx → Below V0.heap.size V0 wx ∧ (wx.cell? ⟨pK, 0, none⟩ = some (.bool false) ∧ wx.cell? ⟨pK, 1, none⟩ = some (.slice (some e1) k1 f1) ∧ wx.cell? ⟨pK, 2, none⟩ = some (.slice (some ⟨bK, oK, none⟩) 1 f2)) ∧ (wx.cell? ⟨pA, 0, none⟩ = some (.bool c) ∧ wx.cell? ⟨pA, 1, none⟩ = some (.slice (some b1) m1 d1) ∧ wx.cell? ⟨pA, 2, none⟩ = some (.slice (some b2) m2 d2)) := fun wx hwx => ⟨hwx, ((unhide XK).below hwx).cells, ((unhide XA).below hwx).cells⟩
    obtain ⟨_, ⟨xK0, xK1, xK2⟩, ⟨xA0, xA1, xA2⟩⟩ := HKEEP _ (Below.refl _ _)
    go_region_held (fun wx => Below V0.heap.size V0 wx ∧ (wx.cell? ⟨pK, 0, none⟩ = some (.bool false) ∧ wx.cell? ⟨pK, 1, none⟩ = some (.slice (some e1) k1 f1) ∧ wx.cell? ⟨pK, 2, none⟩ = some (.slice (some ⟨bK, oK, none⟩) 1 f2)) ∧ (wx.cell? ⟨pA, 0, none⟩ = some (.bool c) ∧ wx.cell? ⟨pA, 1, none⟩ = some (.slice (some b1) m1 d1) ∧ wx.cell? ⟨pA, 2, none⟩ = some (.slice (some b2) m2 d2))) (first | exact HKEEP _ hK3 | exact HKEEP _ (((hK3.setCell (by have z0 := hK0.size; have z1 := hK1.size; have z2 := hK2.size; have z3 := hK3.size; simp <;> omega) _).setCell (by have z0 := hK0.size; have z1 := hK1.size; have z2 := hK2.size; have z3 := hK3.size; simp <;> omega) _).setCell (by have z0 := hK0.size; have z1 := hK1.size; have z2 := hK2.size; have z3 := hK3.size; simp <;> omega) _) | exact HKEEP _ (hK3.alloc hK3.size _) | exact HKEEP _ hK2 | exact HKEEP _ (hK2.alloc hK2.size _) | exact HKEEP _ hK1 | exact HKEEP _ (hK1.alloc hK1.size _) | exact HKEEP _ hK0 | exact HKEEP _ (hK0.alloc hK0.size _) | exact HKEEP _ ((Below.refl _ _).alloc (Nat.le_refl _) _).drew)
      (first
        | (go_at_call_of 12 (Value.slice (some e1) k1 f1); refine (lwArray_src false (some e1) (some ⟨bK, oK, none⟩) k1 1 f1 f2 shk [kv] _ (Src.of ((unhide XK).r1.below (Nat.le_refl _) (by first | exact hK0 | exact hK0.alloc hK0.size _ | exact ((Below.refl _ _).alloc (Nat.le_refl _) _).drew))) (Src.of ((unhide XK).r2.below (Nat.le_refl _) (by first | exact hK0 | exact hK0.alloc hK0.size _ | exact ((Below.refl _ _).alloc (Nat.le_refl _) _).drew))) (by omega) (by omega)).mono ?_; rintro e w1 ⟨ga1, gb1, da1, db1, rfl, hA1, hB1, hu1, hv1, hb1⟩; have hK1 : Below V0.heap.size V0 w1 := (by first | exact hK0.trans (hb1.mono hK0.size) | exact (hK0.alloc hK0.size _).trans (hb1.mono (by have := hK0.size; simp; omega)) | exact (((Below.refl _ _).alloc (Nat.le_refl _) _).drew).trans (hb1.mono (by simp))); (first | have hP1 := (Box.new _ _ _ _).below (Nat.le_refl _) hb1 | have hP1 := (Box.new _ _ _ _).drew.below (Nat.le_refl _) hb1 | skip); have hA1_1 := hA1.row; have hB1_1 := hB1.row; obtain ⟨_, ⟨xK0, xK1, xK2⟩, ⟨xA0, xA1, xA2⟩⟩ := HKEEP _ hK1)
        | (go_at_call_of 12 (Value.slice (some b1) m1 d1); refine (lwArray_src c (some b1) (some b2) m1 m2 d1 d2 sh dt _ (Src.of ((unhide XA).r1.below (Nat.le_refl _) (by first | exact hK1 | exact hK1.alloc hK1.size _))) (Src.of ((unhide XA).r2.below (Nat.le_refl _) (by first | exact hK1 | exact hK1.alloc hK1.size _))) (by omega) (by omega)).mono ?_; rintro e w2 ⟨ga2, gb2, da2, db2, rfl, hA2, hB2, hu2, hv2, hb2⟩; have hK2 : Below V0.heap.size V0 w2 := (by first | exact hK1.trans (hb2.mono hK1.size) | exact (hK1.alloc hK1.size _).trans (hb2.mono (by have := hK1.size; simp; omega))); (first | have hP2 := hP1.below (Nat.le_refl _) hb2 | have hP2 := (Box.new _ _ _ _).below (Nat.le_refl _) hb2 | have hP2 := (Box.new _ _ _ _).drew.below (Nat.le_refl _) hb2 | skip); have hA1_2 : Row w2 (some ⟨ga1, 0, none⟩) k1 shk := (by first | exact hA1_1.below (Nat.le_refl _) hb2 | exact (hA1_1.alloc _).below (Nat.le_refl _) hb2); have hB1_2 : Row w2 (some ⟨gb1, 0, none⟩) 1 [kv] := (by first | exact hB1_1.below (Nat.le_refl _) hb2 | exact (hB1_1.alloc _).below (Nat.le_refl _) hb2); have hA2_2 := hA2.row; have hB2_2 := hB2.row; obtain ⟨_, ⟨xK0, xK1, xK2⟩, ⟨xA0, xA1, xA2⟩⟩ := HKEEP _ hK2)
        | (go_at_call 17; refine (implRotate_any false c (some ⟨ga1, 0, none⟩) (some ⟨gb1, 0, none⟩) (some ⟨ga2, 0, none⟩) (some ⟨gb2, 0, none⟩) _ _ _ _ _ _ _ _ shk [kv] sh dt fl _ (by first | exact hA1_2 | exact hA1_2.alloc _) (by first | exact hB1_2 | exact hB1_2.alloc _) (by first | exact hA2_2 | exact hA2_2.alloc _) (by first | exact hB2_2 | exact hB2_2.alloc _)).mono ?_; rintro e w3 ⟨e1, k1, f1, e2, k2, f2, rfl, hE1, hE2, _, hb3⟩; have hF1 := hE1.row; have hF2 := hE2.row; clear hE1 hE2; (have HR' := unhide HRU1; rw [HR'] at hF1 hF2 ⊢; simp only at hF1 hF2 ⊢; clear HR'); have hK3 : Below V0.heap.size V0 w3 := (by first | exact hK2.trans (hb3.mono hK2.size) | exact (hK2.alloc hK2.size _).trans (hb3.mono (by have := hK2.size; simp; omega))); (first | (have hP3 := hP2.below (Nat.le_refl _) hb3; obtain ⟨u0, u1, u2, u3, u4, u5, u6⟩ := hP3.free'; (try simp at u0 u1 u2 u3 u4 u5 u6)) | (have hP3 := (Box.new _ _ _ _).below (Nat.le_refl _) hb3; obtain ⟨u0, u1, u2, u3, u4, u5, u6⟩ := hP3.free'; (try simp at u0 u1 u2 u3 u4 u5 u6)) | (have hP3 := (Box.new _ _ _ _).drew.below (Nat.le_refl _) hb3; obtain ⟨u0, u1, u2, u3, u4, u5, u6⟩ := hP3.free'; (try simp at u0 u1 u2 u3 u4 u5 u6)) | skip)))
    all_goals go_wp2_with fail
    all_goals (go_meet; case rel => first | exact ⟨rfl, _, _, _, _, _, _, _, rfl, Var.new hF1 hF2, (by first | exact hK3.size | exact hK2.size | exact hK1.size | exact hK0.size | exact Nat.le_refl _), hK3.alloc hK3.size _⟩ | exact ⟨rfl, _, _, _, _, _, _, _, rfl, Var.put hP3 hF1 hF2, (by first | exact hK3.size | exact hK2.size | exact hK1.size | exact hK0.size | exact Nat.le_refl _), ((hK3.setCell (by have z0 := hK0.size; have z1 := hK1.size; have z2 := hK2.size; have z3 := hK3.size; simp <;> omega) _).setCell (by have z0 := hK0.size; have z1 := hK1.size; have z2 := hK2.size; have z3 := hK3.size; simp <;> omega) _).setCell (by have z0 := hK0.size; have z1 := hK1.size; have z2 := hK2.size; have z3 := hK3.size; simp <;> omega) _⟩)
  case rest =>
  obtain ⟨V1, hwc⟩ : ∃ x, x = wc := ⟨_, rfl⟩
  subst hwc
  obtain ⟨rfl, pU, e1U, k1U, f1U, e2U, k2U, f2U, rfl, hv, hfrU, hK⟩ := hcut
  have hneAU : ¬ pA = pU := by have := (unhide XA).box.lt; omega
  have hneUA : ¬ pU = pA := fun e => hneAU e.symm
  have hneKU : ¬ pK = pU := by have := (unhide XK).box.lt; omega
  have hneUK : ¬ pU = pK := fun e => hneKU e.symm
  have hlowU : w.heap.size ≤ pU := by have := (unhide HB).size; omega
  clear hfrU
  have T_HCK : Hid (V1.cell? ⟨bK, oK, none⟩ = some (.int .i64 kv)) := (hK.cell (p := ⟨bK, oK, none⟩) hbK).trans (unhide HCK)
  have T_hbK : bK < V1.heap.size := Nat.lt_of_lt_of_le hbK hK.size
  clear HCK hbK
  have HCK := T_HCK
  have hbK := T_hbK
  clear T_HCK T_hbK
  have T_A := hide ((unhide XA).below hK)
  have T_K := hide ((unhide XK).below hK)
  have T_HB := hide ((unhide HB).trans (hK.mono (unhide HB).size))
  clear HB XA XK
  have XA := T_A
  clear T_A
  have XK := T_K
  clear T_K
  have HB := T_HB
  clear T_HB
  have XU := hide hv
  clear hv hK
  have hwn : IntKind.i64.wrap (-kv) = -kv := by rw [IntKind.wrap_i64]; omega
  go_upto_region 29 with fail
  go_cut [10] (fun r7 wr => r7 = .int .i64 0 ∧ ∃ e1 k1 f1 e2 k2 f2, Var wr pU c e1 k1 f1 e2 k2 f2 sh dt ∧ But (fun y => y = pU) V1 wr)
  case first => as_aux_lemma =>
    have hK0 : Below V1.heap.size V1 V1.drew := (Below.refl _ _).drew
    have HKEEP : ∀ wx, Below V1.heap.size V1 wx → Below V1.heap.size V1 wx ∧ (wx.cell? ⟨pK, 0, none⟩ = some (.bool false) ∧ wx.cell? ⟨pK, 1, none⟩ = some (.slice (some e1) k1 f1) ∧ wx.cell? ⟨pK, 2, none⟩ = some (.slice (some ⟨bK, oK, none⟩) 1 f2)) ∧ (wx.cell? ⟨pU, 0, none⟩ = some (.bool c) ∧ wx.cell? ⟨pU, 1, none⟩ = some (.slice e1U k1U f1U) ∧ wx.cell? ⟨pU, 2, none⟩ = some (.slice e2U k2U f2U)) ∧ wx.cell? ⟨bK, oK, none⟩ = some (.int .i64 kv) := fun wx hwx => ⟨hwx, ((unhide XK).below hwx).cells, ((unhide XU).below hwx).cells, (hwx.cell (p := ⟨bK, oK, none⟩) hbK).trans (unhide HCK)⟩
    obtain ⟨_, ⟨xK0, xK1, xK2⟩, ⟨xU0, xU1, xU2⟩, hxk⟩ := HKEEP _ (Below.refl _ _)
    go_region_with (first
        | (go_at_call 18; refine (lwScalar_any (-kv) _).mono ?_; rintro e w1 ⟨gb1, rfl, hB1, hb1⟩; have hK1 : Below V1.heap.size V1 w1 := (by first | exact hK0.trans (hb1.mono hK0.size) | exact (hK0.alloc hK0.size _).trans (hb1.mono (by have := hK0.size; simp; omega)) | exact (((Below.refl _ _).alloc (Nat.le_refl _) _).drew).trans (hb1.mono (by simp))); (first | have hP1 := (Box.new _ _ _ _).below (Nat.le_refl _) hb1 | have hP1 := (Box.new _ _ _ _).drew.below (Nat.le_refl _) hb1 | skip); have hB1_1 := hB1.row; obtain ⟨_, ⟨xK0, xK1, xK2⟩, ⟨xU0, xU1, xU2⟩, hxk⟩ := HKEEP _ hK1)
        | (go_at_call 17; refine (implRotate_any false c none (some ⟨gb1, 0, none⟩) e1U e2U 0 1 _ _ 0 1 _ _ [] [-kv] sh ru fl _ (row_nil _ _) (by first | exact hB1_1 | exact hB1_1.alloc _) ((unhide XU).r1.below (Nat.le_refl _) (by first | exact hK1 | exact hK1.alloc hK1.size _)) ((unhide XU).r2.below (Nat.le_refl _) (by first | exact hK1 | exact hK1.alloc hK1.size _))).mono ?_; rintro e w2 ⟨e1, k1, f1, e2, k2, f2, rfl, hE1, hE2, _, hb2⟩; have hF1 := hE1.row; have hF2 := hE2.row; clear hE1 hE2; (have HR' := unhide HRU2; rw [HR'] at hF1 hF2 ⊢; simp only at hF1 hF2 ⊢; clear HR'); have hK2 : Below V1.heap.size V1 w2 := (by first | exact hK1.trans (hb2.mono hK1.size) | exact (hK1.alloc hK1.size _).trans (hb2.mono (by have := hK1.size; simp; omega))); (first | (have hP2 := hP1.below (Nat.le_refl _) hb2; obtain ⟨u0, u1, u2, u3, u4, u5, u6⟩ := hP2.free'; (try simp at u0 u1 u2 u3 u4 u5 u6)) | (have hP2 := (Box.new _ _ _ _).below (Nat.le_refl _) hb2; obtain ⟨u0, u1, u2, u3, u4, u5, u6⟩ := hP2.free'; (try simp at u0 u1 u2 u3 u4 u5 u6)) | (have hP2 := (Box.new _ _ _ _).drew.below (Nat.le_refl _) hb2; obtain ⟨u0, u1, u2, u3, u4, u5, u6⟩ := hP2.free'; (try simp at u0 u1 u2 u3 u4 u5 u6)) | skip); obtain ⟨u0, u1, u2, u3, u4, u5, u6⟩ := ((unhide XU).box.below (Nat.le_refl _) hK2).free'))
    all_goals go_wp2_with fail
    all_goals (go_meet; case rel => exact ⟨rfl, _, _, _, _, _, _, Var.put ((unhide XU).box.below (Nat.le_refl _) hK2) hF1 hF2, ((((But.of_below (S := fun y => y = pU) hK2).setCell (p := ⟨pU, 0, none⟩) rfl _).setCell (p := ⟨pU, 1, none⟩) rfl _).setCell (p := ⟨pU, 2, none⟩) rfl _)⟩)
  case rest =>
  obtain ⟨V2, hwc⟩ : ∃ x, x = wc := ⟨_, rfl⟩
  subst hwc
  obtain ⟨rfl, e1Un, k1Un, f1Un, e2Un, k2Un, f2Un, hv, hK⟩ := hcut
  have T_A := hide ((unhide XA).but (unhide XU).box hK hneAU)
  have T_HB := hide ((unhide HB).trans (hK.below (unhide HB).size (fun y hy => by rw [hy]; exact hlowU)))
  clear HB XA XU
  have XA := T_A
  clear T_A
  have HB := T_HB
  clear T_HB
  have XU := hide hv
  clear hv hK
  obtain ⟨x0, x1', x2'⟩ := (unhide XU).cells
  obtain ⟨y0, y1', y2'⟩ := (unhide XA).cells
  go_wp2_with (go_at_call 13; refine (eqArray_refl _ _ _ _ _ _ _ _ _ _ _ _ _ sh dt _ (unhide XU).r1 (unhide XU).r2 (unhide XA).r1 (unhide XA).r2).mono ?_; rintro e wA ⟨rfl, hK⟩; have JB := hide ((unhide HB).trans (hK.mono (unhide HB).size)); clear hK)
  exact bodyPost_ret (v := .bool true) (by simp [results, Tryz.results3, go_sem]) rfl ⟨rfl, unhide JB⟩

end Go.Proofs.YtgjpchnkodnieaaGreatDoor
