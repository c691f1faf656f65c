import Derived.Test.YtgjpchnkodnieaaGreatDoorZv22
import Derived.Test.YtgjpchnkodnieaaGreatDoorZv31
import Derived.Test.YtgjpchnkodnieaaGreatDoorZv36
import Derived.Test.YtgjpchnkodnieaaGreatDoorZv32
import Derived.Test.YtgjpchnkodnieaaGreatDoorZv04
import Derived.Test.YtgjpchnkodnieaaGreatDoorZv34
import Derived.Test.YtgjpchnkodnieaaGreatDoorZv15
import Derived.Test.YtgjpchnkodnieaaGreatDoorZv09
import Derived.Test.YtgjpchnkodnieaaGreatDoorZv42
import Derived.Test.YtgjpchnkodnieaaGreatDoorZv38
import Derived.Test.YtgjpchnkodnieaaGreatDoorZv27
import Derived.Test.YtgjpchnkodnieaaGreatDoorZv13
import Derived.Test.YtgjpchnkodnieaaGreatDoorZv49
import Derived.Test.YtgjpchnkodnieaaGreatDoorZv01
import Derived.Deep.RegionHeld
import Derived.Deep.RegionLaw
import Derived.Deep.AppendLies
import Derived.Deep.DeepCutAuto
namespace Go.Proofs.YtgjpchnkodnieaaGreatDoor
open Go.RowKit
set_option maxRecDepth 20000 in
set_option maxHeartbeats 16000000 in
theorem law_ViewsP (hpick : PickedSaid) (ga gb : Addr) (a : Option Addr) (n cn : Nat) (w : World) (hby : Bytes w a n) (hc : n ≤ cn) (hn : n ≤ 1048576) (_ : Gl w ga gb) :
    Calls Tryz.prog 5 #[.slice a n cn] w fun e w' => e = .returned (.bool true) ∧ Below w.heap.size w w' := by
  obtain ⟨i0, hi, hz0, hz1, hz2⟩ := info_parts info_int
  have hcall := DrawPlaces_any a n cn w hby hc hn
  have hnz : ¬ (1048576 : Int) < (n : Int) := by omega
  clear hby hc
  go_enter Tryz.func5, Tryz.ntmps5
  go_upto_region 4 with (go_at_call 24; refine hcall.mono ?_; rintro e w1 ⟨c, a1, a2, n1, n2, c1, c2, sh, st, cells, rfl, hF1, hF2, h1, h2, hb1⟩)
  clear hcall
  have HB : Hid (Below w.heap.size w w) := Below.refl _ _
  obtain ⟨U0, hU⟩ : ∃ V, V = w1.alloc (.cells #[.int .i64 c, .slice (some a1) n1 c1, .slice (some a2) n2 c2] 46) := ⟨_, rfl⟩
  obtain ⟨pV, hP⟩ : ∃ P, P = w1.heap.size := ⟨_, rfl⟩
  have hKK : Below w.heap.size w U0 := by rw [hU]; exact hb1.alloc hb1.size _
  have XV : Hid (VVar U0 pV c (some a1) n1 c1 (some a2) n2 c2 sh st) := by rw [hU, hP]; exact VVar.new hF1 hF2
  have hfrV : w.heap.size ≤ pV := by rw [hP]; exact hb1.size
  rw [← hU, ← hP]
  clear hU hP hF1 hF2 hb1
  have T_HB := hide ((unhide HB).trans (hKK.mono (unhide HB).size))
  clear HB
  have HB := T_HB
  clear T_HB
  clear hKK
  have hl1 : sh.length = n1 := (unhide XV).r1.len
  obtain ⟨r, hr⟩ : ∃ r, viewOk c sh st cells = r := ⟨_, rfl⟩
  have HR := hide hr
  clear hr
  obtain ⟨xV0, xV1, xV2⟩ := (unhide XV).cells
  cases r with
  | false =>
    go_wp2_with (first | (go_at_call 25; refine (ViewOk_eq c _ _ _ _ _ _ sh st cells _ (unhide XV).r1 (unhide XV).r2 false HR).mono ?_; rintro e w3 ⟨rfl, hb3⟩; have YV := hide ((unhide XV).below hb3); have YB := hide ((unhide HB).trans (hb3.mono (unhide HB).size)); clear hb3 xV0 xV1 xV2; obtain ⟨xV0, xV1, xV2⟩ := (unhide YV).cells) | (go_at_call 26; refine (ViewOk_impl c _ _ _ _ _ _ sh st cells _ (unhide YV).r1 (unhide YV).r2).mono ?_; rintro e w4 ⟨rfl, hb4⟩; rw [unhide HR]; have ZB := hide ((unhide YB).trans (hb4.mono (unhide YB).size)); clear hb4))
    exact bodyPost_ret (v := .bool true) (by simp [results, Tryz.results5, go_sem]) rfl ⟨rfl, unhide ZB⟩
  | true =>
  go_upto_region 6 with (go_at_call 25; refine (ViewOk_eq c _ _ _ _ _ _ sh st cells _ (unhide XV).r1 (unhide XV).r2 true HR).mono ?_; rintro e w3 ⟨rfl, hb3⟩)
  clear xV0 xV1 xV2
  obtain ⟨U1, hwc⟩ : ∃ x, x = w3 := ⟨_, rfl⟩
  subst hwc
  have T_V := hide ((unhide XV).below hb3)
  have T_HB := hide ((unhide HB).trans (hb3.mono (unhide HB).size))
  clear HB XV
  have XV := T_V
  clear T_V
  have HB := T_HB
  clear T_HB
  clear hb3
  have h5 : n1 ≤ 5 := by rw [← hl1]; exact view_len (unhide HR)
  obtain ⟨P, hP⟩ : ∃ P, P = placesOf c sh st := ⟨_, rfl⟩
  have HPE := hide hP
  clear hP
  have HPL : Hid (places c sh st cells = P) := by show _ = _; rw [places_ok (unhide HR), unhide HPE]
  obtain ⟨xV0, xV1, xV2⟩ := (unhide XV).cells
  go_upto_region 7 with (go_at_call 27; refine (lwPlaces_any c (some a1) (some a2) n1 n2 c1 c2 sh st cells _ (unhide XV).r1 (unhide XV).r2 (by omega)).mono ?_; rintro e w4 ⟨e1A, k1A, f1A, e2A, k2A, f2A, rfl, -, hF1, hF2, hb4⟩; rw [unhide HPL] at hF2)
  clear xV0 xV1 xV2
  obtain ⟨U2, hU⟩ : ∃ V, V = w4.alloc (.cells #[.bool false, .slice e1A k1A f1A, .slice e2A k2A f2A] 25) := ⟨_, rfl⟩
  obtain ⟨pA, hP⟩ : ∃ P, P = w4.heap.size := ⟨_, rfl⟩
  have hKK : Below U1.heap.size U1 U2 := by rw [hU]; exact hb4.alloc hb4.size _
  have XA : Hid (Var U2 pA false e1A k1A f1A e2A k2A f2A sh P) := by rw [hU, hP]; exact Var.new hF1 hF2
  have hfrA : U1.heap.size ≤ pA := by rw [hP]; exact hb4.size
  rw [← hU, ← hP]
  clear hU hP hF1 hF2 hb4
  have T_V := hide ((unhide XV).below hKK)
  have T_HB := hide ((unhide HB).trans (hKK.mono (unhide HB).size))
  clear HB XV
  have XV := T_V
  clear T_V
  have HB := T_HB
  clear T_HB
  clear hKK
  have HOK : Hid (arrOk false sh P = true) := by show _ = _; rw [unhide HPE]; exact view_arr (unhide HR)
  go_cut [57] (fun v wx => v = .bool false ∧ Below U2.heap.size U2 wx)
  case first => as_aux_lemma =>
    have hK0 : Below U2.heap.size U2 U2.drew := (Below.refl _ _).drew
    have HKEEP : ∀ wx, Below U2.heap.size U2 wx → Below U2.heap.size U2 wx ∧ (wx.cell? ⟨pA, 0, none⟩ = some (.bool false) ∧ wx.cell? ⟨pA, 1, none⟩ = some (.slice e1A k1A f1A) ∧ wx.cell? ⟨pA, 2, none⟩ = some (.slice e2A k2A f2A)) ∧ (wx.cell? ⟨pV, 0, none⟩ = some (.int .i64 c) ∧ wx.cell? ⟨pV, 1, none⟩ = some (.slice (some a1) n1 c1) ∧ wx.cell? ⟨pV, 2, none⟩ = some (.slice (some a2) n2 c2)) := fun wx hwx => ⟨hwx, ((unhide XA).below hwx).cells, ((unhide XV).below hwx).cells⟩
    obtain ⟨_, ⟨xA0, xA1, xA2⟩, ⟨xV0, xV1, xV2⟩⟩ := HKEEP _ (Below.refl _ _)
    first | (go_region_held (fun wx => Below U2.heap.size U2 wx ∧ (wx.cell? ⟨pA, 0, none⟩ = some (.bool false) ∧ wx.cell? ⟨pA, 1, none⟩ = some (.slice e1A k1A f1A) ∧ wx.cell? ⟨pA, 2, none⟩ = some (.slice e2A k2A f2A)) ∧ (wx.cell? ⟨pV, 0, none⟩ = some (.int .i64 c) ∧ wx.cell? ⟨pV, 1, none⟩ = some (.slice (some a1) n1 c1) ∧ wx.cell? ⟨pV, 2, none⟩ = some (.slice (some a2) n2 c2))) (first | exact HKEEP _ hK3 | exact HKEEP _ hK2 | exact HKEEP _ hK1 | exact HKEEP _ hK0 | exact HKEEP _ (Below.refl _ _)) (first | (go_at_call 10; refine (ArrayOk_eq false _ _ _ _ _ _ sh P _ ((unhide XA).r1.below (Nat.le_refl _) hK0) ((unhide XA).r2.below (Nat.le_refl _) hK0) true HOK).mono ?_; rintro e w1 ⟨rfl, hb1⟩; have hK1 : Below U2.heap.size U2 w1 := hK0.trans (hb1.mono hK0.size); obtain ⟨_, ⟨xA0, xA1, xA2⟩, ⟨xV0, xV1, xV2⟩⟩ := HKEEP _ hK1) | (go_at_call 29; refine (Places_any c _ _ _ _ _ _ sh st cells _ ((unhide XV).r1.below (Nat.le_refl _) hK1) ((unhide XV).r2.below (Nat.le_refl _) hK1)).mono ?_; rintro e w2 ⟨q2, j2, l2, rfl, hQ2, hb2⟩; rw [unhide HPL] at hQ2; have hK2 : Below U2.heap.size U2 w2 := hK1.trans (hb2.mono hK1.size); obtain ⟨_, ⟨xA0, xA1, xA2⟩, ⟨xV0, xV1, xV2⟩⟩ := HKEEP _ hK2) | (go_at_call 28; refine (eqIntS_refl _ _ _ _ _ _ P _ ((unhide XA).r2.below (Nat.le_refl _) hK2) hQ2).mono ?_; rintro e w3 ⟨rfl, hb3⟩; have hK3 : Below U2.heap.size U2 w3 := hK2.trans (hb3.mono hK2.size); obtain ⟨_, ⟨xA0, xA1, xA2⟩, ⟨xV0, xV1, xV2⟩⟩ := HKEEP _ hK3))) | fail
    all_goals go_wp2_with fail
    all_goals (go_meet; case rel => exact ⟨rfl, hK3⟩)
  case rest => as_aux_lemma =>
  obtain ⟨U3, hwc⟩ : ∃ x, x = wc := ⟨_, rfl⟩
  subst hwc
  obtain ⟨rfl, hKK⟩ := hcut
  have T_V := hide ((unhide XV).below hKK)
  have T_A := hide ((unhide XA).below hKK)
  have T_HB := hide ((unhide HB).trans (hKK.mono (unhide HB).size))
  clear HB XV XA
  have XV := T_V
  clear T_V
  have XA := T_A
  clear T_A
  have HB := T_HB
  clear T_HB
  clear hKK
  obtain ⟨Q, hQ⟩ : ∃ Q, Q = ((U3.alloc (.cells #[] 3)).alloc (.cells #[] 3)).alloc (.cells #[] 3) := ⟨_, rfl⟩
  have HG : Hid (GL3 U3 Q 0 U3.heap.size 0 0 (U3.heap.size + 1) 0 0 (U3.heap.size + 1 + 1) 0 [] [] []) := by rw [hQ]; exact GL3.start U3
  obtain ⟨xV0, xV1, xV2⟩ := (unhide XV).cells
  go_upto_region 13 with fail
  rw [← hQ]
  clear hQ
  clear xV0 xV1 xV2
  go_wp2_with fail
  go_loopw [7, 8, 9, 10] (fun v7 v8 v9 i wr => ∃ (k g7 c7 g8 c8 g9 c9 : Nat), k ≤ n1 ∧ v7 = .slice (some ⟨g7, 0, none⟩) k c7 ∧ v8 = .slice (some ⟨g8, 0, none⟩) k c8 ∧ v9 = .slice (some ⟨g9, 0, none⟩) k c9 ∧ i = .int .i64 (k : Nat) ∧ Hid (GL3 U3 wr k g7 c7 k g8 c8 k g9 c9 (listN (frN n sh) k) (listN (nsN n sh) k) (listN (orN n n1) k))) (fun _ _ _ i _ => n1 - (intOf i).toNat)
  case atStart => exact ⟨0, _, 0, _, 0, _, 0, Nat.zero_le _, rfl, rfl, rfl, rfl, HG⟩
  case round =>
  clear HG
  obtain ⟨k, g7, c7, g8, c8, g9, c9, hk, rfl, rfl, rfl, rfl, hg⟩ := hrel
  by_cases hlt : k < n1
  · as_aux_lemma =>
    have hkz : (k : Int) < (n1 : Int) := by omega
    obtain ⟨k3, hk3⟩ : ∃ k3 : Nat, k3 = k + 3 := ⟨_, rfl⟩
    obtain ⟨N, hN⟩ : ∃ N : Nat, N = n * k3 := ⟨_, rfl⟩
    have hNb : N ≤ 8388608 := by rw [hN]; exact Nat.le_trans (Nat.mul_le_mul hn (show k3 ≤ 8 by omega)) (by omega)
    have w3 : IntKind.i64.wrap ((k : Int) + 3) = (k3 : Int) := by rw [IntKind.wrap_i64]; omega
    have wN : IntKind.i64.wrap ((n : Int) * (k3 : Int)) = (N : Int) := by
      have e : (n : Int) * (k3 : Int) = (N : Int) := by rw [hN, Int.natCast_mul]
      rw [e, IntKind.wrap_i64]; omega
    obtain ⟨s, hs⟩ : ∃ s, s = sN sh k := ⟨_, rfl⟩
    obtain ⟨f, hf⟩ : ∃ f, f = frN n sh k := ⟨_, rfl⟩
    obtain ⟨g, hgg⟩ : ∃ g, g = nsN n sh k := ⟨_, rfl⟩
    obtain ⟨o, ho⟩ : ∃ o, o = orN n n1 k := ⟨_, rfl⟩
    have hsh := sN_le (formed_parts (viewOk_parts (unhide HR)).1).1 k
    rw [← hs] at hsh
    have hfl := frN_le n sh k
    rw [← hs, ← hf] at hfl
    obtain ⟨s1, hs1⟩ : ∃ s1 : Nat, s1 = s + 1 := ⟨_, rfl⟩
    have ws : IntKind.i64.wrap ((s : Int) + 1) = (s1 : Int) := by rw [IntKind.wrap_i64]; omega
    have hs1z : ¬ (s1 : Int) = 0 := by omega
    have hmf : (N : Int) % (s1 : Int) = (f : Int) := by
      have e : f = N % s1 := by rw [hf, hN, hs1, hk3, hs]; rfl
      rw [e]; rfl
    have hmf2 : (N : Int).tmod (s1 : Int) = (f : Int) := by rw [Int.tmod_eq_emod_of_nonneg (by omega)]; exact hmf
    obtain ⟨d7, hd7, q, q'⟩ := divV N 7
    have hd1 : (N : Int).tdiv 7 = (d7 : Int) := q
    have hd2 : (N : Int) / 7 = (d7 : Int) := q'
    clear q q'
    have hwd7 : IntKind.i64.wrap (d7 : Int) = (d7 : Int) := by rw [IntKind.wrap_i64]; omega
    obtain ⟨sf, hsf⟩ : ∃ sf : Nat, sf = s - f := ⟨_, rfl⟩
    have wsf : IntKind.i64.wrap ((s : Int) - (f : Int)) = (sf : Int) := by rw [IntKind.wrap_i64]; omega
    obtain ⟨sf1, hsf1⟩ : ∃ sf1 : Nat, sf1 = sf + 1 := ⟨_, rfl⟩
    have wsf1 : IntKind.i64.wrap ((sf : Int) + 1) = (sf1 : Int) := by rw [IntKind.wrap_i64]; omega
    have hsf1z : ¬ (sf1 : Int) = 0 := by omega
    have hsf1n : ¬ sf1 = 0 := by omega
    have hs1n : ¬ s1 = 0 := by omega
    have hn1n : ¬ n1 = 0 := by omega
    have hmg : (d7 : Int) % (sf1 : Int) = (g : Int) := by
      have e : g = d7 % sf1 := by rw [hgg, hd7, hsf1, hsf, hN, hk3, hs, hf]; rfl
      rw [e]; rfl
    have hmg2 : (d7 : Int).tmod (sf1 : Int) = (g : Int) := by rw [Int.tmod_eq_emod_of_nonneg (by omega)]; exact hmg
    obtain ⟨kn, hkn⟩ : ∃ kn : Nat, kn = k + n := ⟨_, rfl⟩
    have wkn : IntKind.i64.wrap ((k : Int) + (n : Int)) = (kn : Int) := by rw [IntKind.wrap_i64]; omega
    have hn1z : ¬ (n1 : Int) = 0 := by omega
    obtain ⟨om, hom⟩ : ∃ om : Nat, om = kn % n1 := ⟨_, rfl⟩
    have hmo : (kn : Int) % (n1 : Int) = (om : Int) := by rw [hom]; rfl
    have hmo2 : (kn : Int).tmod (n1 : Int) = (om : Int) := by rw [Int.tmod_eq_emod_of_nonneg (by omega)]; exact hmo
    have hob := orN_bd n (show 0 < n1 by omega) k
    rw [← ho] at hob
    have hoo : o = om + 1 := by rw [ho, hom, hkn]; rfl
    have wo : IntKind.i64.wrap ((om : Int) + 1) = (o : Int) := by rw [IntKind.wrap_i64]; omega
    have HLF : Hid (listN (frN n sh) (k + 1) = listN (frN n sh) k ++ [(f : Int)]) := by show _ = _; rw [listN_snoc, hf]
    have HLG : Hid (listN (nsN n sh) (k + 1) = listN (nsN n sh) k ++ [(g : Int)]) := by show _ = _; rw [listN_snoc, hgg]
    have HLO : Hid (listN (orN n n1) (k + 1) = listN (orN n n1) k ++ [(o : Int)]) := by show _ = _; rw [listN_snoc, ho]
    have HFL : Hid ((listN (frN n sh) k ++ [(f : Int)]).getD k 0 = (f : Int)) := by show _ = _; rw [← unhide HLF, listN_get _ (by omega), hf]
    obtain ⟨bS, oS, eS, hbS, hcS⟩ := (unhide XV).r1.get hlt
    rw [← hsh.1] at hcS
    have hlow := (unhide hg).low
    have hcS3 : wr.cell? ⟨bS, oS + k, none⟩ = some (.int .i64 (s : Int)) := (hlow.cell (p := ⟨bS, oS + k, none⟩) hbS).trans hcS
    have HCS := hide hcS
    cases eS
    have YV := hide ((unhide XV).below hlow)
    have hszr := hlow.size
    have hgb : g ≤ 10000 ∧ f ≤ 10000 ∧ s ≤ 10000 := by have := nsN_le n sh k; omega
    clear hlow hcS hob hsh hN hs hf hgg ho hk3 hs1 hd7 hsf hsf1 hkn hom hoo hfl
    have hkb : k < 5 := by omega
    obtain ⟨x0, x1, x2⟩ := (unhide YV).cells
    go_upto_region 18 with (at_builtin; refine wpList_append_lies _ rfl _ _ 23 rfl U3.heap.size 3 i0 (.int .i64 0) 1 8 Tryz.underlying23 hi hz0 hz1 hz2 rfl (by decide) _ _ _ rfl (owns_below (unhide hg).o7 (Nat.le_refl _) ((Below.refl _ _).alloc (Nat.le_refl _) _)) ⟨wr.heap.size, 0, none⟩ 1 1 [.int .i64 (f : Nat)] rfl rfl (cells_new _ _) (one_one _) (by omega) (by unfold maxLen; omega) (by omega) (by simp; omega) (wr.heap.size + 1) (by simp) ?_; intro h7 e7 w5 hown hgrow hat hlt5; have HG5 := hide ((unhide hg).p7 hown hgrow hat (by omega)); clear hown hgrow hat hlt5)
    clear x0 x1 x2 YV hcS3 hg
    have hlow5 := (unhide HG5).low
    have hcS5 : w5.cell? ⟨bS, oS + k, none⟩ = some (.int .i64 (s : Int)) := (hlow5.cell (p := ⟨bS, oS + k, none⟩) hbS).trans (unhide HCS)
    have hcF5 : w5.cell? ⟨h7, k, none⟩ = some (.int .i64 (f : Int)) := by rw [← unhide HFL]; exact own_cellG (unhide HG5).o7 (by omega) (by omega)
    have YV := hide ((unhide XV).below hlow5)
    have hszr5 := hlow5.size
    have HKEEP : ∀ wx, Below w5.heap.size w5 wx → Below w5.heap.size w5 wx ∧ (wx.cell? ⟨pV, 1, none⟩ = some (.slice (some ⟨bS, oS, none⟩) n1 c1) ∧ wx.cell? ⟨bS, oS + k, none⟩ = some (.int .i64 (s : Int)) ∧ wx.cell? ⟨h7, k, none⟩ = some (.int .i64 (f : Int))) := fun wx hwx => ⟨hwx, ((unhide YV).below hwx).cells.2.1, (hwx.cell (p := ⟨bS, oS + k, none⟩) (Nat.lt_of_lt_of_le hbS hszr5)).trans hcS5, (hwx.cell (p := ⟨h7, k, none⟩) (owns_ltG (unhide HG5).o7)).trans hcF5⟩
    have hG6 := hide ((unhide HG5).below ((Below.refl _ _).drew))
    obtain ⟨_, x1, x2, x3⟩ := HKEEP _ (Below.refl _ _)
    have hk1z : (k : Int) < ((k : Int) + 1) := by omega
    have hk1n : (k : Int) < ((k + 1 : Nat) : Int) := by omega
    go_upto_region 18 with fail
    go_region_held3 (fun wx => (wx.cell? ⟨pV, 1, none⟩ = some (.slice (some ⟨bS, oS, none⟩) n1 c1) ∧ wx.cell? ⟨bS, oS + k, none⟩ = some (.int .i64 (s : Int)) ∧ wx.cell? ⟨h7, k, none⟩ = some (.int .i64 (f : Int)))) (first | exact hK6 | exact (HKEEP _ (Below.refl _ _).drew).2 | exact (HKEEP _ ((Below.refl _ _).alloc (Nat.le_refl _) _).drew).2) (first | (refine step_append_lies _ (by rfl) _ _ _ (by rfl) U3.heap.size 3 i0 _ 1 8 Tryz.underlying23 hi hz0 hz1 hz2 rfl (by omega) (.slice (some ⟨g8, 0, none⟩) k c8) k ((listN (nsN n sh) k).map (Value.int .i64)) (by rfl) (by first | exact owns_below (unhide hG6).o8 (Nat.le_refl _) ((Below.refl _ _).alloc (Nat.le_refl _) _) | exact (owns_below (unhide HG5).o8 (Nat.le_refl _) ((Below.refl _ _).alloc (Nat.le_refl _) _)).drew) ⟨w5.heap.size, 0, none⟩ 1 1 [.int .i64 (g : Nat)] (by rfl) (by rfl) (by first | exact cells_new _ _ | exact cells_new w5 _) (one_one _) (by omega) (by unfold maxLen; omega) (by omega) (by simp; omega) (w5.heap.size + 1) (by simp) ?_; intro h8 e8 w6 hown hgrow hat hlt6; have HG6 := hide ((unhide hG6).p8 hown (by exact hgrow) hat (by show w5.heap.size < _; omega)); have hK6 : w6.cell? ⟨pV, 1, none⟩ = some (.slice (some ⟨bS, oS, none⟩) n1 c1) ∧ w6.cell? ⟨bS, oS + k, none⟩ = some (.int .i64 (s : Int)) ∧ w6.cell? ⟨h7, k, none⟩ = some (.int .i64 (f : Int)) := ⟨((unhide XV).below (unhide HG6).low).cells.2.1, ((unhide HG6).low.cell (p := ⟨bS, oS + k, none⟩) hbS).trans (unhide HCS), by rw [← unhide HFL]; exact own_cellG (unhide HG6).o7 (by omega) (by omega)⟩; clear hown hgrow hat hlt6))
    go_upto_region 19 with fail
    clear hK6
    have hlow6 := (unhide HG6).low
    have YV := hide ((unhide XV).below hlow6)
    have hszr6 := hlow6.size
    obtain ⟨x0, x1, x2⟩ := (unhide YV).cells
    go_wp2_with (at_builtin; refine wpList_append_lies _ rfl _ _ 23 rfl U3.heap.size 3 i0 (.int .i64 0) 1 8 Tryz.underlying23 hi hz0 hz1 hz2 rfl (by decide) _ _ _ rfl (owns_below (unhide HG6).o9 (Nat.le_refl _) ((Below.refl _ _).alloc (Nat.le_refl _) _)) ⟨w6.heap.size, 0, none⟩ 1 1 [.int .i64 (o : Nat)] rfl rfl (cells_new _ _) (one_one _) (by omega) (by unfold maxLen; omega) (by omega) (by simp; omega) (w6.heap.size + 1) (by simp) ?_; intro h9 e9 w7 hown hgrow hat hlt7; have HG7 := hide ((unhide HG6).p9 hown hgrow hat (by omega)); clear hown hgrow hat hlt7)
    go_roundw
    case rel =>
      refine ⟨k + 1, h7, e7, h8, e8, h9, e9, by omega, rfl, rfl, rfl, by go_num, ?_⟩
      show GL3 _ _ _ _ _ _ _ _ _ _ _ _ _ _
      rw [unhide HLF, unhide HLG, unhide HLO]
      exact unhide HG7
    case measure => simp [intOf]; omega
  · have hkz : ¬ (k : Int) < (n1 : Int) := by omega
    have hkn : k = n1 := by omega
    clear hlt hk
    subst k
    obtain ⟨fr, hfr⟩ : ∃ x, x = listN (frN n sh) n1 := ⟨_, rfl⟩
    obtain ⟨ns, hns⟩ : ∃ x, x = listN (nsN n sh) n1 := ⟨_, rfl⟩
    obtain ⟨ord, hord⟩ : ∃ x, x = listN (orN n n1) n1 := ⟨_, rfl⟩
    have XF : Hid (RowL wr (some ⟨g7, 0, none⟩) n1 fr) := by rw [hfr]; exact hide ⟨rowG (unhide hg).o7 (by omega)⟩
    have XS : Hid (RowL wr (some ⟨g8, 0, none⟩) n1 ns) := by rw [hns]; exact hide ⟨rowG (unhide hg).o8 (by omega)⟩
    have XO : Hid (RowL wr (some ⟨g9, 0, none⟩) n1 ord) := by rw [hord]; exact hide ⟨rowG (unhide hg).o9 (by omega)⟩
    have hKK := (unhide hg).low
    clear hg
    have T_V := hide ((unhide XV).below hKK)
    have T_A := hide ((unhide XA).below hKK)
    have T_HB := hide ((unhide HB).trans (hKK.mono (unhide HB).size))
    clear HB XV XA
    have XV := T_V
    clear T_V
    have XA := T_A
    clear T_A
    have HB := T_HB
    clear T_HB
    clear hKK
    obtain ⟨U4, hwc⟩ : ∃ x, x = wr := ⟨_, rfl⟩
    subst hwc
    obtain ⟨tsh, tst, ht1, ht2, ht3, ht4⟩ := turn_all (unhide HR) n
    rw [hl1, ← hord] at ht1 ht2
    rw [← unhide HPE] at ht2
    obtain ⟨PT, hPT⟩ : ∃ x, x = placesOf c tsh tst := ⟨_, rfl⟩
    rw [← hPT] at ht2 ht3
    have HT1 := hide ht1
    have HT2 := hide ht2
    have HT3 := hide ht3
    obtain ⟨ok, o2, s1, s2, Zd, Yd, Zt, Yt, cD, dT, eD, eT, hq1, hq2, hq3, hq4⟩ := cut_all (unhide HR) n
    rw [hl1, ← hfr, ← hns] at hq1
    rw [hl1, ← hfr, ← unhide HPE] at hq2
    rw [hl1, ← hns] at hq3
    have HC1 := hide hq1
    have HC2 := hide hq2
    have HC3 := hide hq3
    have HC4 := hide hq4
    clear ht1 ht2 ht3 hq1 hq2 hq3 hq4 hPT hfr hns hord
    have hkA1 : k1A ≤ 5 := by have := (unhide XA).r1.len; omega
    have hkA2 : k2A ≤ 10000 := by have h1 := (unhide XA).r2.len; have h2 := places_len c sh st; have h3 := count_bd sh; rw [← unhide HPE] at h2; omega
    obtain ⟨xV0, xV1, xV2⟩ := (unhide XV).cells
    go_upto_region 21 with (go_at_call 30; refine (TurnView_impl c (some a1) (some a2) n1 n2 c1 c2 sh st ⟨g9, 0, none⟩ n1 c9 ord _ (unhide XV).r1 (unhide XV).r2 (unhide XO).r1).mono ?_; rintro e w6 ⟨e1T, k1T, f1T, e2T, k2T, f2T, rfl, hE1, hE2, _, hb6⟩; have hF1 := hE1.row; have hF2 := hE2.row; clear hE1 hE2; (have HR' := unhide HT1; rw [HR'] at hF1 hF2 ⊢; simp only at hF1 hF2 ⊢; clear HR'))
    clear xV0 xV1 xV2
    obtain ⟨U5, hU⟩ : ∃ V, V = w6.alloc (.cells #[.int .i64 c, .slice e1T k1T f1T, .slice e2T k2T f2T] 46) := ⟨_, rfl⟩
    obtain ⟨pT, hP⟩ : ∃ P, P = w6.heap.size := ⟨_, rfl⟩
    have hKK : Below U4.heap.size U4 U5 := by rw [hU]; exact hb6.alloc hb6.size _
    have XT : Hid (VVar U5 pT c e1T k1T f1T e2T k2T f2T tsh tst) := by rw [hU, hP]; exact VVar.new hF1 hF2
    have hfrT : U4.heap.size ≤ pT := by rw [hP]; exact hb6.size
    rw [← hU, ← hP]
    clear hU hP hF1 hF2 hb6
    have T_V := hide ((unhide XV).below hKK)
    have T_A := hide ((unhide XA).below hKK)
    have T_F := hide ((unhide XF).below hKK)
    have T_S := hide ((unhide XS).below hKK)
    have T_O := hide ((unhide XO).below hKK)
    have T_HB := hide ((unhide HB).trans (hKK.mono (unhide HB).size))
    clear HB XV XA XF XS XO
    have XV := T_V
    clear T_V
    have XA := T_A
    clear T_A
    have XF := T_F
    clear T_F
    have XS := T_S
    clear T_S
    have XO := T_O
    clear T_O
    have HB := T_HB
    clear T_HB
    clear hKK
    have hkT : k1T ≤ 5 := by have := (unhide XT).r1.len; omega
    clear hfrT
    go_cut [14, 15] (fun r6 r7 wr => r7 = .int .i64 0 ∧ ∃ p e1 k1 f1 e2 k2 f2, r6 = .pointer (some ⟨p, 0, none⟩) ∧ Var wr p false e1 k1 f1 e2 k2 f2 tsh PT ∧ U5.heap.size ≤ p ∧ Below U5.heap.size U5 wr)
    case first => as_aux_lemma =>
      have hK0 : Below U5.heap.size U5 U5.drew := (Below.refl _ _).drew
      have HKEEP : ∀ wx, Below U5.heap.size U5 wx → Below U5.heap.size U5 wx ∧ (wx.cell? ⟨pA, 0, none⟩ = some (.bool false) ∧ wx.cell? ⟨pA, 1, none⟩ = some (.slice e1A k1A f1A) ∧ wx.cell? ⟨pA, 2, none⟩ = some (.slice e2A k2A f2A)) := fun wx hwx => ⟨hwx, ((unhide XA).below hwx).cells⟩
      obtain ⟨_, ⟨xA0, xA1, xA2⟩⟩ := HKEEP _ (Below.refl _ _)
      go_region_held (fun wx => Below U5.heap.size U5 wx ∧ (wx.cell? ⟨pA, 0, none⟩ = some (.bool false) ∧ wx.cell? ⟨pA, 1, none⟩ = some (.slice e1A k1A f1A) ∧ wx.cell? ⟨pA, 2, none⟩ = some (.slice e2A k2A f2A))) (first | exact HKEEP _ hK3 | exact HKEEP _ (((hK3.setCell (by have z0 := hK0.size; have z1 := hK1.size; have z2 := hK2.size; have z3 := hK3.size; simp <;> omega) _).setCell (by have z0 := hK0.size; have z1 := hK1.size; have z2 := hK2.size; have z3 := hK3.size; simp <;> omega) _).setCell (by have z0 := hK0.size; have z1 := hK1.size; have z2 := hK2.size; have z3 := hK3.size; simp <;> omega) _) | exact HKEEP _ (hK3.alloc hK3.size _) | exact HKEEP _ hK2 | exact HKEEP _ (hK2.alloc hK2.size _) | exact HKEEP _ hK1 | exact HKEEP _ (hK1.alloc hK1.size _) | exact HKEEP _ hK0 | exact HKEEP _ (hK0.alloc hK0.size _) | exact HKEEP _ ((Below.refl _ _).alloc (Nat.le_refl _) _).drew)
        (first
          | (go_at_call 16; refine (lwVector_some ⟨g9, 0, none⟩ n1 c9 ord _ ((unhide XO).r1.below (Nat.le_refl _) (by first | exact hK0 | exact hK0.alloc hK0.size _ | exact ((Below.refl _ _).alloc (Nat.le_refl _) _).drew))).mono ?_; rintro e w1 ⟨ga1, gb1, db1, rfl, hA1, hB1, _, hb1⟩; have hK1 : Below U5.heap.size U5 w1 := (by first | exact hK0.trans (hb1.mono hK0.size) | exact (hK0.alloc hK0.size _).trans (hb1.mono (by have := hK0.size; simp; omega)) | exact (((Below.refl _ _).alloc (Nat.le_refl _) _).drew).trans (hb1.mono (by simp))); (first | have hP1 := (Box.new _ _ _ _).below (Nat.le_refl _) hb1 | have hP1 := (Box.new _ _ _ _).drew.below (Nat.le_refl _) hb1 | skip); have hA1_1 := hA1.row; have hB1_1 := hB1.row; obtain ⟨_, ⟨xA0, xA1, xA2⟩⟩ := HKEEP _ hK1)
          | (go_at_call_of 12 (Value.slice e1A k1A f1A); refine (lwArray_src false e1A e2A k1A k2A f1A f2A sh P _ (Src.of ((unhide XA).r1.below (Nat.le_refl _) (by first | exact hK1 | exact hK1.alloc hK1.size _))) (Src.of ((unhide XA).r2.below (Nat.le_refl _) (by first | exact hK1 | exact hK1.alloc hK1.size _))) (by omega) (by omega)).mono ?_; rintro e w2 ⟨ga2, gb2, da2, db2, rfl, hA2, hB2, hu2, hv2, hb2⟩; have hK2 : Below U5.heap.size U5 w2 := (by first | exact hK1.trans (hb2.mono hK1.size) | exact (hK1.alloc hK1.size _).trans (hb2.mono (by have := hK1.size; simp; omega))); (first | have hP2 := hP1.below (Nat.le_refl _) hb2 | have hP2 := (Box.new _ _ _ _).below (Nat.le_refl _) hb2 | have hP2 := (Box.new _ _ _ _).drew.below (Nat.le_refl _) hb2 | skip); have hA1_2 : Row w2 (some ⟨ga1, 0, none⟩) 1 [(n1 : Int)] := (by first | exact hA1_1.below (Nat.le_refl _) hb2 | exact (hA1_1.alloc _).below (Nat.le_refl _) hb2); have hB1_2 : Row w2 (some ⟨gb1, 0, none⟩) n1 ord := (by first | exact hB1_1.below (Nat.le_refl _) hb2 | exact (hB1_1.alloc _).below (Nat.le_refl _) hb2); have hA2_2 := hA2.row; have hB2_2 := hB2.row; obtain ⟨_, ⟨xA0, xA1, xA2⟩⟩ := HKEEP _ hK2)
          | (go_at_call 15; refine (implTranspose_any false false (some ⟨ga1, 0, none⟩) (some ⟨gb1, 0, none⟩) (some ⟨ga2, 0, none⟩) (some ⟨gb2, 0, none⟩) _ _ _ _ _ _ _ _ [(n1 : Int)] ord sh P _ (by first | exact hA1_2 | exact hA1_2.alloc _) (by first | exact hB1_2 | exact hB1_2.alloc _) (by first | exact hA2_2 | exact hA2_2.alloc _) (by first | exact hB2_2 | exact hB2_2.alloc _)).mono ?_; rintro e w3 ⟨e1, k1, f1, e2, k2, f2, rfl, hE1, hE2, _, hb3⟩; have hF1 := hE1.row; have hF2 := hE2.row; clear hE1 hE2; (have HR' := unhide HT2; rw [HR'] at hF1 hF2 ⊢; simp only at hF1 hF2 ⊢; clear HR'); have hK3 : Below U5.heap.size U5 w3 := (by first | exact hK2.trans (hb3.mono hK2.size) | exact (hK2.alloc hK2.size _).trans (hb3.mono (by have := hK2.size; simp; omega))); (first | (have hP3 := hP2.below (Nat.le_refl _) hb3; obtain ⟨u0, u1, u2, u3, u4, u5, u6⟩ := hP3.free'; (try simp at u0 u1 u2 u3 u4 u5 u6)) | (have hP3 := (Box.new _ _ _ _).below (Nat.le_refl _) hb3; obtain ⟨u0, u1, u2, u3, u4, u5, u6⟩ := hP3.free'; (try simp at u0 u1 u2 u3 u4 u5 u6)) | (have hP3 := (Box.new _ _ _ _).drew.below (Nat.le_refl _) hb3; obtain ⟨u0, u1, u2, u3, u4, u5, u6⟩ := hP3.free'; (try simp at u0 u1 u2 u3 u4 u5 u6)) | skip)))
      all_goals go_wp2_with fail
      all_goals (go_meet; case rel => first | exact ⟨rfl, _, _, _, _, _, _, _, rfl, Var.new hF1 hF2, (by first | exact hK3.size | exact hK2.size | exact hK1.size | exact hK0.size | exact Nat.le_refl _), hK3.alloc hK3.size _⟩ | exact ⟨rfl, _, _, _, _, _, _, _, rfl, Var.put hP3 hF1 hF2, (by first | exact hK3.size | exact hK2.size | exact hK1.size | exact hK0.size | exact Nat.le_refl _), ((hK3.setCell (by have z0 := hK0.size; have z1 := hK1.size; have z2 := hK2.size; have z3 := hK3.size; simp <;> omega) _).setCell (by have z0 := hK0.size; have z1 := hK1.size; have z2 := hK2.size; have z3 := hK3.size; simp <;> omega) _).setCell (by have z0 := hK0.size; have z1 := hK1.size; have z2 := hK2.size; have z3 := hK3.size; simp <;> omega) _⟩)
    case rest => as_aux_lemma =>
    obtain ⟨U6, hwc⟩ : ∃ x, x = wc := ⟨_, rfl⟩
    subst hwc
    obtain ⟨rfl, pX, e1X, k1X, f1X, e2X, k2X, f2X, rfl, hv, hfrX, hK⟩ := hcut
    have T_V := hide ((unhide XV).below hK)
    have T_A := hide ((unhide XA).below hK)
    have T_F := hide ((unhide XF).below hK)
    have T_S := hide ((unhide XS).below hK)
    have T_T := hide ((unhide XT).below hK)
    have T_HB := hide ((unhide HB).trans (hK.mono (unhide HB).size))
    clear HB XV XA XF XS XT
    have XV := T_V
    clear T_V
    have XA := T_A
    clear T_A
    have XF := T_F
    clear T_F
    have XS := T_S
    clear T_S
    have XT := T_T
    clear T_T
    have HB := T_HB
    clear T_HB
    have XX := hide hv
    clear hv hK
    clear XO hfrX
    go_upto_region 22 with fail
    go_cut [139] (fun v wx => v = .bool false ∧ Below U6.heap.size U6 wx)
    case first => as_aux_lemma =>
      have hK0 : Below U6.heap.size U6 U6.drew := (Below.refl _ _).drew
      have HKEEP : ∀ wx, Below U6.heap.size U6 wx → Below U6.heap.size U6 wx ∧ (wx.cell? ⟨pX, 0, none⟩ = some (.bool false) ∧ wx.cell? ⟨pX, 1, none⟩ = some (.slice e1X k1X f1X) ∧ wx.cell? ⟨pX, 2, none⟩ = some (.slice e2X k2X f2X)) ∧ (wx.cell? ⟨pT, 0, none⟩ = some (.int .i64 c) ∧ wx.cell? ⟨pT, 1, none⟩ = some (.slice e1T k1T f1T) ∧ wx.cell? ⟨pT, 2, none⟩ = some (.slice e2T k2T f2T)) := fun wx hwx => ⟨hwx, ((unhide XX).below hwx).cells, ((unhide XT).below hwx).cells⟩
      obtain ⟨_, ⟨xX0, xX1, xX2⟩, ⟨xT0, xT1, xT2⟩⟩ := HKEEP _ (Below.refl _ _)
      first | (go_region_held (fun wx => Below U6.heap.size U6 wx ∧ (wx.cell? ⟨pX, 0, none⟩ = some (.bool false) ∧ wx.cell? ⟨pX, 1, none⟩ = some (.slice e1X k1X f1X) ∧ wx.cell? ⟨pX, 2, none⟩ = some (.slice e2X k2X f2X)) ∧ (wx.cell? ⟨pT, 0, none⟩ = some (.int .i64 c) ∧ wx.cell? ⟨pT, 1, none⟩ = some (.slice e1T k1T f1T) ∧ wx.cell? ⟨pT, 2, none⟩ = some (.slice e2T k2T f2T))) (first | exact HKEEP _ hK2 | exact HKEEP _ hK1 | exact HKEEP _ hK0 | exact HKEEP _ (Below.refl _ _)) (first | (go_at_call 27; refine (lwPlaces_any c e1T e2T k1T k2T f1T f2T tsh tst cells _ ((unhide XT).r1.below (Nat.le_refl _) hK0) ((unhide XT).r2.below (Nat.le_refl _) hK0) (by omega)).mono ?_; rintro e w1 ⟨q1, j1, l1, q2, j2, l2, rfl, -, hQ1, hQ2, hb1⟩; rw [unhide HT3] at hQ2; have hK1 : Below U6.heap.size U6 w1 := hK0.trans (hb1.mono hK0.size); obtain ⟨_, ⟨xX0, xX1, xX2⟩, ⟨xT0, xT1, xT2⟩⟩ := HKEEP _ hK1) | (go_at_call 13; refine (eqArray_refl _ _ _ _ _ _ _ _ _ _ _ _ _ tsh PT _ ((unhide XX).r1.below (Nat.le_refl _) hK1) ((unhide XX).r2.below (Nat.le_refl _) hK1) hQ1 hQ2).mono ?_; rintro e w2 ⟨rfl, hb2⟩; have hK2 : Below U6.heap.size U6 w2 := hK1.trans (hb2.mono hK1.size); obtain ⟨_, ⟨xX0, xX1, xX2⟩, ⟨xT0, xT1, xT2⟩⟩ := HKEEP _ hK2))) | fail
      all_goals go_wp2_with fail
      all_goals (go_meet; case rel => exact ⟨rfl, hK2⟩)
    case rest => as_aux_lemma =>
    clear XX XT
    obtain ⟨U7, hwc⟩ : ∃ x, x = wc := ⟨_, rfl⟩
    subst hwc
    obtain ⟨rfl, hKK⟩ := hcut
    have T_V := hide ((unhide XV).below hKK)
    have T_A := hide ((unhide XA).below hKK)
    have T_F := hide ((unhide XF).below hKK)
    have T_S := hide ((unhide XS).below hKK)
    have T_HB := hide ((unhide HB).trans (hKK.mono (unhide HB).size))
    clear HB XV XA XF XS
    have XV := T_V
    clear T_V
    have XA := T_A
    clear T_A
    have XF := T_F
    clear T_F
    have XS := T_S
    clear T_S
    have HB := T_HB
    clear T_HB
    clear hKK
    obtain ⟨xV0, xV1, xV2⟩ := (unhide XV).cells
    go_upto_region 25 with (go_at_call 31; refine (CutView_any c a1 a2 n1 n2 c1 c2 sh st ⟨g7, 0, none⟩ n1 c7 fr ⟨g8, 0, none⟩ n1 c8 ns _ (unhide XV).r1 (unhide XV).r2 (unhide XF).r1 (unhide XS).r1).mono ?_; rintro e w8 ⟨e1W, k1W, f1W, e2W, k2W, f2W, rfl, hF1, hF2, hb8⟩; (have HR' := unhide HC1; rw [HR'] at hF1 hF2 ⊢; simp only at hF1 hF2 ⊢; clear HR'))
    clear xV0 xV1 xV2
    obtain ⟨U8, hU⟩ : ∃ V, V = w8.alloc (.cells #[.int .i64 o2, .slice e1W k1W f1W, .slice e2W k2W f2W] 46) := ⟨_, rfl⟩
    obtain ⟨pW, hP⟩ : ∃ P, P = w8.heap.size := ⟨_, rfl⟩
    have hKK : Below U7.heap.size U7 U8 := by rw [hU]; exact hb8.alloc hb8.size _
    have XW : Hid (VVar U8 pW o2 e1W k1W f1W e2W k2W f2W s1 s2) := by rw [hU, hP]; exact VVar.new hF1 hF2
    have hfrW : U7.heap.size ≤ pW := by rw [hP]; exact hb8.size
    rw [← hU, ← hP]
    clear hU hP hF1 hF2 hb8
    have T_V := hide ((unhide XV).below hKK)
    have T_A := hide ((unhide XA).below hKK)
    have T_F := hide ((unhide XF).below hKK)
    have T_S := hide ((unhide XS).below hKK)
    have T_HB := hide ((unhide HB).trans (hKK.mono (unhide HB).size))
    clear HB XV XA XF XS
    have XV := T_V
    clear T_V
    have XA := T_A
    clear T_A
    have XF := T_F
    clear T_F
    have XS := T_S
    clear T_S
    have HB := T_HB
    clear T_HB
    clear hKK
    clear XW hfrW
    obtain ⟨xV0, xV1, xV2⟩ := (unhide XV).cells
    go_upto_region 26 with (go_at_call 32; refine (CutView_impl c (some a1) (some a2) n1 n2 c1 c2 sh st ⟨g7, 0, none⟩ n1 c7 fr ⟨g8, 0, none⟩ n1 c8 ns _ (unhide XV).r1 (unhide XV).r2 (unhide XF).r1 (unhide XS).r1).mono ?_; rintro e w9 ⟨e1C, k1C, f1C, e2C, k2C, f2C, rfl, hE1, hE2, _, hb9⟩; have hF1 := hE1.row; have hF2 := hE2.row; clear hE1 hE2; (have HR' := unhide HC1; rw [HR'] at hF1 hF2 ⊢; simp only at hF1 hF2 ⊢; clear HR'))
    clear xV0 xV1 xV2
    obtain ⟨U9, hU⟩ : ∃ V, V = w9.alloc (.cells #[.int .i64 o2, .slice e1C k1C f1C, .slice e2C k2C f2C] 46) := ⟨_, rfl⟩
    obtain ⟨pC, hP⟩ : ∃ P, P = w9.heap.size := ⟨_, rfl⟩
    have hKK : Below U8.heap.size U8 U9 := by rw [hU]; exact hb9.alloc hb9.size _
    have XC : Hid (VVar U9 pC o2 e1C k1C f1C e2C k2C f2C s1 s2) := by rw [hU, hP]; exact VVar.new hF1 hF2
    have hfrC : U8.heap.size ≤ pC := by rw [hP]; exact hb9.size
    rw [← hU, ← hP]
    clear hU hP hF1 hF2 hb9
    have T_V := hide ((unhide XV).below hKK)
    have T_A := hide ((unhide XA).below hKK)
    have T_F := hide ((unhide XF).below hKK)
    have T_S := hide ((unhide XS).below hKK)
    have T_HB := hide ((unhide HB).trans (hKK.mono (unhide HB).size))
    clear HB XV XA XF XS
    have XV := T_V
    clear T_V
    have XA := T_A
    clear T_A
    have XF := T_F
    clear T_F
    have XS := T_S
    clear T_S
    have HB := T_HB
    clear T_HB
    clear hKK
    clear hfrC
    go_cut [19, 15] (fun r6 r7 wr => r7 = .int .i64 eD ∧ ∃ p e1 k1 f1 e2 k2 f2, r6 = .pointer (some ⟨p, 0, none⟩) ∧ Var wr p cD e1 k1 f1 e2 k2 f2 Zd Yd ∧ U9.heap.size ≤ p ∧ Below U9.heap.size U9 wr)
    case first => as_aux_lemma =>
      have hK0 : Below U9.heap.size U9 U9.drew := (Below.refl _ _).drew
      have HKEEP : ∀ wx, Below U9.heap.size U9 wx → Below U9.heap.size U9 wx ∧ (wx.cell? ⟨pA, 0, none⟩ = some (.bool false) ∧ wx.cell? ⟨pA, 1, none⟩ = some (.slice e1A k1A f1A) ∧ wx.cell? ⟨pA, 2, none⟩ = some (.slice e2A k2A f2A)) := fun wx hwx => ⟨hwx, ((unhide XA).below hwx).cells⟩
      obtain ⟨_, ⟨xA0, xA1, xA2⟩⟩ := HKEEP _ (Below.refl _ _)
      go_region_held (fun wx => Below U9.heap.size U9 wx ∧ (wx.cell? ⟨pA, 0, none⟩ = some (.bool false) ∧ wx.cell? ⟨pA, 1, none⟩ = some (.slice e1A k1A f1A) ∧ wx.cell? ⟨pA, 2, none⟩ = some (.slice e2A k2A f2A))) (first | exact HKEEP _ hK3 | exact HKEEP _ (((hK3.setCell (by have z0 := hK0.size; have z1 := hK1.size; have z2 := hK2.size; have z3 := hK3.size; simp <;> omega) _).setCell (by have z0 := hK0.size; have z1 := hK1.size; have z2 := hK2.size; have z3 := hK3.size; simp <;> omega) _).setCell (by have z0 := hK0.size; have z1 := hK1.size; have z2 := hK2.size; have z3 := hK3.size; simp <;> omega) _) | exact HKEEP _ (hK3.alloc hK3.size _) | exact HKEEP _ hK2 | exact HKEEP _ (hK2.alloc hK2.size _) | exact HKEEP _ hK1 | exact HKEEP _ (hK1.alloc hK1.size _) | exact HKEEP _ hK0 | exact HKEEP _ (hK0.alloc hK0.size _) | exact HKEEP _ ((Below.refl _ _).alloc (Nat.le_refl _) _).drew)
        (first
          | (go_at_call 16; refine (lwVector_some ⟨g7, 0, none⟩ n1 c7 fr _ ((unhide XF).r1.below (Nat.le_refl _) (by first | exact hK0 | exact hK0.alloc hK0.size _ | exact ((Below.refl _ _).alloc (Nat.le_refl _) _).drew))).mono ?_; rintro e w1 ⟨ga1, gb1, db1, rfl, hA1, hB1, _, hb1⟩; have hK1 : Below U9.heap.size U9 w1 := (by first | exact hK0.trans (hb1.mono hK0.size) | exact (hK0.alloc hK0.size _).trans (hb1.mono (by have := hK0.size; simp; omega)) | exact (((Below.refl _ _).alloc (Nat.le_refl _) _).drew).trans (hb1.mono (by simp))); (first | have hP1 := (Box.new _ _ _ _).below (Nat.le_refl _) hb1 | have hP1 := (Box.new _ _ _ _).drew.below (Nat.le_refl _) hb1 | skip); have hA1_1 := hA1.row; have hB1_1 := hB1.row; obtain ⟨_, ⟨xA0, xA1, xA2⟩⟩ := HKEEP _ hK1)
          | (go_at_call_of 12 (Value.slice e1A k1A f1A); refine (lwArray_src false e1A e2A k1A k2A f1A f2A sh P _ (Src.of ((unhide XA).r1.below (Nat.le_refl _) (by first | exact hK1 | exact hK1.alloc hK1.size _))) (Src.of ((unhide XA).r2.below (Nat.le_refl _) (by first | exact hK1 | exact hK1.alloc hK1.size _))) (by omega) (by omega)).mono ?_; rintro e w2 ⟨ga2, gb2, da2, db2, rfl, hA2, hB2, hu2, hv2, hb2⟩; have hK2 : Below U9.heap.size U9 w2 := (by first | exact hK1.trans (hb2.mono hK1.size) | exact (hK1.alloc hK1.size _).trans (hb2.mono (by have := hK1.size; simp; omega))); (first | have hP2 := hP1.below (Nat.le_refl _) hb2 | have hP2 := (Box.new _ _ _ _).below (Nat.le_refl _) hb2 | have hP2 := (Box.new _ _ _ _).drew.below (Nat.le_refl _) hb2 | skip); have hA1_2 : Row w2 (some ⟨ga1, 0, none⟩) 1 [(n1 : Int)] := (by first | exact hA1_1.below (Nat.le_refl _) hb2 | exact (hA1_1.alloc _).below (Nat.le_refl _) hb2); have hB1_2 : Row w2 (some ⟨gb1, 0, none⟩) n1 fr := (by first | exact hB1_1.below (Nat.le_refl _) hb2 | exact (hB1_1.alloc _).below (Nat.le_refl _) hb2); have hA2_2 := hA2.row; have hB2_2 := hB2.row; obtain ⟨_, ⟨xA0, xA1, xA2⟩⟩ := HKEEP _ hK2)
          | (go_at_call 33; refine (implDrop_any false false (some ⟨ga1, 0, none⟩) (some ⟨gb1, 0, none⟩) (some ⟨ga2, 0, none⟩) (some ⟨gb2, 0, none⟩) _ _ _ _ _ _ _ _ [(n1 : Int)] fr sh P _ (by first | exact hA1_2 | exact hA1_2.alloc _) (by first | exact hB1_2 | exact hB1_2.alloc _) (by first | exact hA2_2 | exact hA2_2.alloc _) (by first | exact hB2_2 | exact hB2_2.alloc _)).mono ?_; rintro e w3 ⟨e1, k1, f1, e2, k2, f2, rfl, hE1, hE2, _, hb3, hc1, hc2, hc3⟩; have hF1 := hE1.row; have hF2 := hE2.row; clear hE1 hE2; (have HR' := unhide HC2; rw [HR'] at hF1 hF2 ⊢; simp only at hF1 hF2 ⊢; clear HR'); have hK3 : Below U9.heap.size U9 w3 := (by first | exact hK2.trans (hb3.mono hK2.size) | exact (hK2.alloc hK2.size _).trans (hb3.mono (by have := hK2.size; simp; omega))); (first | (have hP3 := hP2.below (Nat.le_refl _) hb3; obtain ⟨u0, u1, u2, u3, u4, u5, u6⟩ := hP3.free'; (try simp at u0 u1 u2 u3 u4 u5 u6)) | (have hP3 := (Box.new _ _ _ _).below (Nat.le_refl _) hb3; obtain ⟨u0, u1, u2, u3, u4, u5, u6⟩ := hP3.free'; (try simp at u0 u1 u2 u3 u4 u5 u6)) | (have hP3 := (Box.new _ _ _ _).drew.below (Nat.le_refl _) hb3; obtain ⟨u0, u1, u2, u3, u4, u5, u6⟩ := hP3.free'; (try simp at u0 u1 u2 u3 u4 u5 u6)) | skip)))
      all_goals go_wp2_with fail
      all_goals (go_meet; case rel => first | exact ⟨rfl, _, _, _, _, _, _, _, rfl, Var.new hF1 hF2, (by first | exact hK3.size | exact hK2.size | exact hK1.size | exact hK0.size | exact Nat.le_refl _), hK3.alloc hK3.size _⟩ | exact ⟨rfl, _, _, _, _, _, _, _, rfl, Var.put hP3 hF1 hF2, (by first | exact hK3.size | exact hK2.size | exact hK1.size | exact hK0.size | exact Nat.le_refl _), ((hK3.setCell (by have z0 := hK0.size; have z1 := hK1.size; have z2 := hK2.size; have z3 := hK3.size; simp <;> omega) _).setCell (by have z0 := hK0.size; have z1 := hK1.size; have z2 := hK2.size; have z3 := hK3.size; simp <;> omega) _).setCell (by have z0 := hK0.size; have z1 := hK1.size; have z2 := hK2.size; have z3 := hK3.size; simp <;> omega) _⟩)
    case rest => as_aux_lemma =>
    obtain ⟨U10, hwc⟩ : ∃ x, x = wc := ⟨_, rfl⟩
    subst hwc
    obtain ⟨rfl, pY, e1Y, k1Y, f1Y, e2Y, k2Y, f2Y, rfl, hv, hfrY, hK⟩ := hcut
    have hneVY : ¬ pV = pY := by have := (unhide XV).box.lt; omega
    have hneAY : ¬ pA = pY := by have := (unhide XA).box.lt; omega
    have hneCY : ¬ pC = pY := by have := (unhide XC).box.lt; omega
    have hlowY : w.heap.size ≤ pY := by have := (unhide HB).size; omega
    clear hfrY
    have T_V := hide ((unhide XV).below hK)
    have T_A := hide ((unhide XA).below hK)
    have T_S := hide ((unhide XS).below hK)
    have T_C := hide ((unhide XC).below hK)
    have T_HB := hide ((unhide HB).trans (hK.mono (unhide HB).size))
    clear HB XV XA XS XC
    have XV := T_V
    clear T_V
    have XA := T_A
    clear T_A
    have XS := T_S
    clear T_S
    have XC := T_C
    clear T_C
    have HB := T_HB
    clear T_HB
    have XY := hide hv
    clear hv hK
    clear XF
    go_upto_region 27 with fail
    go_cut [20] (fun r7 wr => r7 = .int .i64 eT ∧ ∃ e1 k1 f1 e2 k2 f2, Var wr pY dT e1 k1 f1 e2 k2 f2 Zt Yt ∧ But (fun y => y = pY) U10 wr)
    case first => as_aux_lemma =>
      have hK0 : Below U10.heap.size U10 U10.drew := (Below.refl _ _).drew
      have HKEEP : ∀ wx, Below U10.heap.size U10 wx → Below U10.heap.size U10 wx ∧ (wx.cell? ⟨pY, 0, none⟩ = some (.bool cD) ∧ wx.cell? ⟨pY, 1, none⟩ = some (.slice e1Y k1Y f1Y) ∧ wx.cell? ⟨pY, 2, none⟩ = some (.slice e2Y k2Y f2Y)) := fun wx hwx => ⟨hwx, ((unhide XY).below hwx).cells⟩
      obtain ⟨_, ⟨xY0, xY1, xY2⟩⟩ := HKEEP _ (Below.refl _ _)
      go_region_with (first
          | (go_at_call 16; refine (lwVector_some ⟨g8, 0, none⟩ n1 c8 ns _ ((unhide XS).r1.below (Nat.le_refl _) (by first | exact hK0 | exact hK0.alloc hK0.size _ | exact ((Below.refl _ _).alloc (Nat.le_refl _) _).drew))).mono ?_; rintro e w1 ⟨ga1, gb1, db1, rfl, hA1, hB1, _, hb1⟩; have hK1 : Below U10.heap.size U10 w1 := (by first | exact hK0.trans (hb1.mono hK0.size) | exact (hK0.alloc hK0.size _).trans (hb1.mono (by have := hK0.size; simp; omega)) | exact (((Below.refl _ _).alloc (Nat.le_refl _) _).drew).trans (hb1.mono (by simp))); (first | have hP1 := (Box.new _ _ _ _).below (Nat.le_refl _) hb1 | have hP1 := (Box.new _ _ _ _).drew.below (Nat.le_refl _) hb1 | skip); have hA1_1 := hA1.row; have hB1_1 := hB1.row; obtain ⟨_, ⟨xY0, xY1, xY2⟩⟩ := HKEEP _ hK1)
          | (go_at_call 34; refine (implTake_any false cD (some ⟨ga1, 0, none⟩) (some ⟨gb1, 0, none⟩) e1Y e2Y _ _ _ _ _ _ _ _ [(n1 : Int)] ns Zd Yd _ (by first | exact hA1_1 | exact hA1_1.alloc _) (by first | exact hB1_1 | exact hB1_1.alloc _) ((unhide XY).r1.below (Nat.le_refl _) (by first | exact hK1 | exact hK1.alloc hK1.size _)) ((unhide XY).r2.below (Nat.le_refl _) (by first | exact hK1 | exact hK1.alloc hK1.size _))).mono ?_; rintro e w2 ⟨e1, k1, f1, e2, k2, f2, rfl, hE1, hE2, _, hb2, hc1, hc2, hc3⟩; have hF1 := hE1.row; have hF2 := hE2.row; clear hE1 hE2; (have HR' := unhide HC3; rw [HR'] at hF1 hF2 ⊢; simp only at hF1 hF2 ⊢; clear HR'); have hK2 : Below U10.heap.size U10 w2 := (by first | exact hK1.trans (hb2.mono hK1.size) | exact (hK1.alloc hK1.size _).trans (hb2.mono (by have := hK1.size; simp; omega))); (first | (have hP2 := hP1.below (Nat.le_refl _) hb2; obtain ⟨u0, u1, u2, u3, u4, u5, u6⟩ := hP2.free'; (try simp at u0 u1 u2 u3 u4 u5 u6)) | (have hP2 := (Box.new _ _ _ _).below (Nat.le_refl _) hb2; obtain ⟨u0, u1, u2, u3, u4, u5, u6⟩ := hP2.free'; (try simp at u0 u1 u2 u3 u4 u5 u6)) | (have hP2 := (Box.new _ _ _ _).drew.below (Nat.le_refl _) hb2; obtain ⟨u0, u1, u2, u3, u4, u5, u6⟩ := hP2.free'; (try simp at u0 u1 u2 u3 u4 u5 u6)) | skip); obtain ⟨u0, u1, u2, u3, u4, u5, u6⟩ := ((unhide XY).box.below (Nat.le_refl _) hK2).free'))
      all_goals go_wp2_with fail
      all_goals (go_meet; case rel => exact ⟨rfl, _, _, _, _, _, _, Var.put ((unhide XY).box.below (Nat.le_refl _) hK2) hF1 hF2, ((((But.of_below (S := fun y => y = pY) hK2).setCell (p := ⟨pY, 0, none⟩) rfl _).setCell (p := ⟨pY, 1, none⟩) rfl _).setCell (p := ⟨pY, 2, none⟩) rfl _)⟩)
    case rest => as_aux_lemma =>
    clear XS
    obtain ⟨U11, hwc⟩ : ∃ x, x = wc := ⟨_, rfl⟩
    subst hwc
    obtain ⟨rfl, e1Yn, k1Yn, f1Yn, e2Yn, k2Yn, f2Yn, hv, hK⟩ := hcut
    have T_V := hide ((unhide XV).but (unhide XY).box hK hneVY)
    have T_A := hide ((unhide XA).but (unhide XY).box hK hneAY)
    have T_C := hide ((unhide XC).but (unhide XY).box hK hneCY)
    have T_HB := hide ((unhide HB).trans (hK.below (unhide HB).size (fun y hy => by rw [hy]; exact hlowY)))
    clear HB XV XA XC XY
    have XV := T_V
    clear T_V
    have XA := T_A
    clear T_A
    have XC := T_C
    clear T_C
    have HB := T_HB
    clear T_HB
    have XY := hide hv
    clear hv hK
    go_upto_region 28 with fail
    go_cut [196] (fun v wx => v = .bool false ∧ Below U11.heap.size U11 wx)
    case first => as_aux_lemma =>
      cases ok with
      | false =>
        go_wp2_with fail
        go_quiet (fail)
        all_goals go_wp2_with fail
        all_goals (go_meet; case rel => first | exact ⟨rfl, Below.refl _ _⟩ | exact ⟨rfl, (Below.refl _ _).drew⟩ | exact ⟨rfl, Below.drewN (Below.refl _ _) _⟩)
      | true =>
        obtain ⟨hok1, hok2, hok3, hok4, hok5, hok6, hok7⟩ := unhide HC4 rfl
        rw [hok4, hok5] at XY
        subst hok1
        subst hok2
        subst hok3
        have hkC : k1C ≤ 5 := by have := (unhide XC).r1.len; omega
        clear hok4 hok5 hok7 HC1 HC2 HC3 HC4
        have hK0 : Below U11.heap.size U11 U11.drew := (Below.refl _ _).drew
        have HKEEP : ∀ wx, Below U11.heap.size U11 wx → Below U11.heap.size U11 wx ∧ (wx.cell? ⟨pY, 0, none⟩ = some (.bool false) ∧ wx.cell? ⟨pY, 1, none⟩ = some (.slice e1Yn k1Yn f1Yn) ∧ wx.cell? ⟨pY, 2, none⟩ = some (.slice e2Yn k2Yn f2Yn)) ∧ (wx.cell? ⟨pC, 0, none⟩ = some (.int .i64 o2) ∧ wx.cell? ⟨pC, 1, none⟩ = some (.slice e1C k1C f1C) ∧ wx.cell? ⟨pC, 2, none⟩ = some (.slice e2C k2C f2C)) := fun wx hwx => ⟨hwx, ((unhide XY).below hwx).cells, ((unhide XC).below hwx).cells⟩
        obtain ⟨_, ⟨xY0, xY1, xY2⟩, ⟨xC0, xC1, xC2⟩⟩ := HKEEP _ (Below.refl _ _)
        first | (go_region_held (fun wx => Below U11.heap.size U11 wx ∧ (wx.cell? ⟨pY, 0, none⟩ = some (.bool false) ∧ wx.cell? ⟨pY, 1, none⟩ = some (.slice e1Yn k1Yn f1Yn) ∧ wx.cell? ⟨pY, 2, none⟩ = some (.slice e2Yn k2Yn f2Yn)) ∧ (wx.cell? ⟨pC, 0, none⟩ = some (.int .i64 o2) ∧ wx.cell? ⟨pC, 1, none⟩ = some (.slice e1C k1C f1C) ∧ wx.cell? ⟨pC, 2, none⟩ = some (.slice e2C k2C f2C))) (first | exact HKEEP _ hK3 | exact HKEEP _ hK2 | exact HKEEP _ hK1 | exact HKEEP _ hK0 | exact HKEEP _ (Below.refl _ _)) (first | (go_at_call 27; refine (lwPlaces_any o2 e1C e2C k1C k2C f1C f2C s1 s2 cells _ ((unhide XC).r1.below (Nat.le_refl _) hK0) ((unhide XC).r2.below (Nat.le_refl _) hK0) (by omega)).mono ?_; rintro e w1 ⟨q1, j1, l1, q2, j2, l2, rfl, -, hQ1, hQ2, hb1⟩; have hK1 : Below U11.heap.size U11 w1 := hK0.trans (hb1.mono hK0.size); obtain ⟨_, ⟨xY0, xY1, xY2⟩, ⟨xC0, xC1, xC2⟩⟩ := HKEEP _ hK1) | (go_at_call 13; refine (eqArray_refl _ _ _ _ _ _ _ _ _ _ _ _ _ s1 (places o2 s1 s2 cells) _ ((unhide XY).r1.below (Nat.le_refl _) hK1) ((unhide XY).r2.below (Nat.le_refl _) hK1) hQ1 hQ2).mono ?_; rintro e w2 ⟨rfl, hb2⟩; have hK2 : Below U11.heap.size U11 w2 := hK1.trans (hb2.mono hK1.size); obtain ⟨_, ⟨xY0, xY1, xY2⟩, ⟨xC0, xC1, xC2⟩⟩ := HKEEP _ hK2) | (go_at_call 26; refine (ViewOk_impl o2 _ _ _ _ _ _ s1 s2 cells _ ((unhide XC).r1.below (Nat.le_refl _) hK2) ((unhide XC).r2.below (Nat.le_refl _) hK2)).mono ?_; rintro e w3 ⟨rfl, hb3⟩; rw [hok6]; have hK3 : Below U11.heap.size U11 w3 := hK2.trans (hb3.mono hK2.size); obtain ⟨_, ⟨xY0, xY1, xY2⟩, ⟨xC0, xC1, xC2⟩⟩ := HKEEP _ hK3))) | fail
        all_goals go_wp2_with fail
        all_goals (go_meet; case rel => exact ⟨rfl, hK3⟩)
    case rest => as_aux_lemma =>
    clear XC XY HC1 HC2 HC3 HC4
    obtain ⟨U12, hwc⟩ : ∃ x, x = wc := ⟨_, rfl⟩
    subst hwc
    obtain ⟨rfl, hKK⟩ := hcut
    have T_V := hide ((unhide XV).below hKK)
    have T_A := hide ((unhide XA).below hKK)
    have T_HB := hide ((unhide HB).trans (hKK.mono (unhide HB).size))
    clear HB XV XA
    have XV := T_V
    clear T_V
    have XA := T_A
    clear T_A
    have HB := T_HB
    clear T_HB
    clear hKK
    by_cases hz : n1 = 0
    · have hzz : ¬ (0 : Int) < (n1 : Int) := by omega
      clear hz
      obtain ⟨xV0, xV1, xV2⟩ := (unhide XV).cells
      obtain ⟨xA0, xA1, xA2⟩ := (unhide XA).cells
      go_wp2_with (go_at_call 37; refine (hpick c a1 a2 n1 n2 c1 c2 sh st cells e1A e2A k1A k2A f1A f2A n _ (unhide XV).r1 (unhide XV).r2 (unhide XA).r1 (by rw [← unhide HPE]; exact (unhide XA).r2) (unhide HR) hn).mono ?_; rintro e w9 ⟨rfl, hb9⟩; have ZB := hide ((unhide HB).trans (hb9.mono (unhide HB).size)))
      exact bodyPost_ret (v := .bool true) (by simp [results, Tryz.results5, go_sem]) rfl ⟨rfl, unhide ZB⟩
    · have hzz : (0 : Int) < (n1 : Int) := by omega
      obtain ⟨m, hm⟩ : ∃ m : Nat, n1 = m + 1 := ⟨n1 - 1, by omega⟩
      have wm : IntKind.i64.wrap ((n1 : Int) - 1) = (m : Int) := by rw [IntKind.wrap_i64]; omega
      obtain ⟨okF, o3, y1, y2, Zf, Yf, cF, eF, hp1, hp2, hp3⟩ := flip_all (unhide HR) (m := m) (by omega)
      rw [← unhide HPE] at hp2
      have HF1 := hide hp1
      have HF2 := hide hp2
      have HF3 := hide hp3
      clear hp1 hp2 hp3 hm hz
      obtain ⟨xV0, xV1, xV2⟩ := (unhide XV).cells
      go_upto_region 32 with (go_at_call 35; refine (FlipView_impl c (some a1) (some a2) n1 n2 c1 c2 sh st (m : Int) _ (unhide XV).r1 (unhide XV).r2).mono ?_; rintro e w6 ⟨e1L, k1L, f1L, e2L, k2L, f2L, rfl, hE1, hE2, _, hb6⟩; have hF1 := hE1.row; have hF2 := hE2.row; clear hE1 hE2; (have HR' := unhide HF1; rw [HR'] at hF1 hF2 ⊢; simp only at hF1 hF2 ⊢; clear HR'))
      clear xV0 xV1 xV2
      obtain ⟨U13, hU⟩ : ∃ V, V = w6.alloc (.cells #[.int .i64 o3, .slice e1L k1L f1L, .slice e2L k2L f2L] 46) := ⟨_, rfl⟩
      obtain ⟨pL, hP⟩ : ∃ P, P = w6.heap.size := ⟨_, rfl⟩
      have hKK : Below U12.heap.size U12 U13 := by rw [hU]; exact hb6.alloc hb6.size _
      have XL : Hid (VVar U13 pL o3 e1L k1L f1L e2L k2L f2L y1 y2) := by rw [hU, hP]; exact VVar.new hF1 hF2
      have hfrL : U12.heap.size ≤ pL := by rw [hP]; exact hb6.size
      rw [← hU, ← hP]
      clear hU hP hF1 hF2 hb6
      have T_V := hide ((unhide XV).below hKK)
      have T_A := hide ((unhide XA).below hKK)
      have T_HB := hide ((unhide HB).trans (hKK.mono (unhide HB).size))
      clear HB XV XA
      have XV := T_V
      clear T_V
      have XA := T_A
      clear T_A
      have HB := T_HB
      clear T_HB
      clear hKK
      clear hfrL
      obtain ⟨xV0, xV1, xV2⟩ := (unhide XV).cells
      go_upto_region 33 with (go_at_call 36; refine (FlipView_any c a1 a2 n1 n2 c1 c2 sh st (m : Int) _ (unhide XV).r1 (unhide XV).r2).mono ?_; rintro e w7 ⟨e1M, k1M, f1M, e2M, k2M, f2M, rfl, hF1, hF2, hb7⟩; (have HR' := unhide HF1; rw [HR'] at hF1 hF2 ⊢; simp only at hF1 hF2 ⊢; clear HR'))
      clear xV0 xV1 xV2
      obtain ⟨U14, hU⟩ : ∃ V, V = w7.alloc (.cells #[.int .i64 o3, .slice e1M k1M f1M, .slice e2M k2M f2M] 46) := ⟨_, rfl⟩
      obtain ⟨pM, hP⟩ : ∃ P, P = w7.heap.size := ⟨_, rfl⟩
      have hKK : Below U13.heap.size U13 U14 := by rw [hU]; exact hb7.alloc hb7.size _
      have XM : Hid (VVar U14 pM o3 e1M k1M f1M e2M k2M f2M y1 y2) := by rw [hU, hP]; exact VVar.new hF1 hF2
      have hfrM : U13.heap.size ≤ pM := by rw [hP]; exact hb7.size
      rw [← hU, ← hP]
      clear hU hP hF1 hF2 hb7
      have T_V := hide ((unhide XV).below hKK)
      have T_A := hide ((unhide XA).below hKK)
      have T_L := hide ((unhide XL).below hKK)
      have T_HB := hide ((unhide HB).trans (hKK.mono (unhide HB).size))
      clear HB XV XA XL
      have XV := T_V
      clear T_V
      have XA := T_A
      clear T_A
      have XL := T_L
      clear T_L
      have HB := T_HB
      clear T_HB
      clear hKK
      clear XM hfrM wm
      go_cut [25, 26] (fun r6 r7 wr => r7 = .int .i64 eF ∧ ∃ p e1 k1 f1 e2 k2 f2, r6 = .pointer (some ⟨p, 0, none⟩) ∧ Var wr p cF e1 k1 f1 e2 k2 f2 Zf Yf ∧ Below U14.heap.size U14 wr)
      case first => as_aux_lemma =>
        have hK0 : Below U14.heap.size U14 U14 := Below.refl _ _
        have HKEEP : ∀ wx, Below U14.heap.size U14 wx → Below U14.heap.size U14 wx ∧ (wx.cell? ⟨pA, 0, none⟩ = some (.bool false) ∧ wx.cell? ⟨pA, 1, none⟩ = some (.slice e1A k1A f1A) ∧ wx.cell? ⟨pA, 2, none⟩ = some (.slice e2A k2A f2A)) := fun wx hwx => ⟨hwx, ((unhide XA).below hwx).cells⟩
        obtain ⟨_, ⟨xA0, xA1, xA2⟩⟩ := HKEEP _ (Below.refl _ _)
        go_wp2_with (first
          | (go_at_call_of 12 (Value.slice e1A k1A f1A); refine (lwArray_src false e1A e2A k1A k2A f1A f2A sh P _ (Src.of ((unhide XA).r1.below (Nat.le_refl _) (by first | exact hK0 | exact hK0.alloc hK0.size _ | exact ((Below.refl _ _).alloc (Nat.le_refl _) _).drew))) (Src.of ((unhide XA).r2.below (Nat.le_refl _) (by first | exact hK0 | exact hK0.alloc hK0.size _ | exact ((Below.refl _ _).alloc (Nat.le_refl _) _).drew))) (by omega) (by omega)).mono ?_; rintro e w1 ⟨ga1, gb1, da1, db1, rfl, hA1, hB1, hu1, hv1, hb1⟩; have hK1 : Below U14.heap.size U14 w1 := (by first | exact hK0.trans (hb1.mono hK0.size) | exact (hK0.alloc hK0.size _).trans (hb1.mono (by have := hK0.size; simp; omega)) | exact (((Below.refl _ _).alloc (Nat.le_refl _) _).drew).trans (hb1.mono (by simp))); have hA1_1 := hA1.row; have hB1_1 := hB1.row; obtain ⟨_, ⟨xA0, xA1, xA2⟩⟩ := HKEEP _ hK1)
          | (go_at_call 11; refine (implMon_rev 21 false (.inl ⟨rfl, rfl⟩) false (some ⟨ga1, 0, none⟩) (some ⟨gb1, 0, none⟩) _ _ _ _ sh P _ (by first | exact hA1_1 | exact hA1_1.alloc _) (by first | exact hB1_1 | exact hB1_1.alloc _) (unhide HOK)).mono ?_; rintro e w2 ⟨e1, k1, f1, e2, k2, f2, rfl, hE1, hE2, _, hb2⟩; have hF1 := hE1.row; have hF2 := hE2.row; clear hE1 hE2; (have HR' := unhide HF2; rw [HR'] at hF1 hF2 ⊢; simp only at hF1 hF2 ⊢; clear HR'); have hK2 : Below U14.heap.size U14 w2 := (by first | exact hK1.trans (hb2.mono hK1.size) | exact (hK1.alloc hK1.size _).trans (hb2.mono (by have := hK1.size; simp; omega)))))
        all_goals (go_meet; case rel => first | exact ⟨rfl, _, _, _, _, _, _, _, rfl, Var.new hF1 hF2, hK2.alloc hK2.size _⟩)
      case rest => as_aux_lemma =>
      obtain ⟨U15, hwc⟩ : ∃ x, x = wc := ⟨_, rfl⟩
      subst hwc
      obtain ⟨rfl, pZ, e1Z, k1Z, f1Z, e2Z, k2Z, f2Z, rfl, hv, hK⟩ := hcut
      have T_V := hide ((unhide XV).below hK)
      have T_A := hide ((unhide XA).below hK)
      have T_L := hide ((unhide XL).below hK)
      have T_HB := hide ((unhide HB).trans (hK.mono (unhide HB).size))
      clear HB XV XA XL
      have XV := T_V
      clear T_V
      have XA := T_A
      clear T_A
      have XL := T_L
      clear T_L
      have HB := T_HB
      clear T_HB
      have XZ := hide hv
      clear hv hK
      go_upto_region 34 with fail
      go_cut [236] (fun v wx => v = .bool false ∧ Below U15.heap.size U15 wx)
      case first => as_aux_lemma =>
        cases okF with
        | false =>
          go_wp2_with fail
          go_quiet (fail)
          all_goals go_wp2_with fail
          all_goals (go_meet; case rel => first | exact ⟨rfl, Below.refl _ _⟩ | exact ⟨rfl, (Below.refl _ _).drew⟩ | exact ⟨rfl, Below.drewN (Below.refl _ _) _⟩)
        | true =>
          obtain ⟨hok1, hok2, hok3, hok4, hok5⟩ := unhide HF3 rfl
          rw [hok3, hok4] at XZ
          subst hok1
          subst hok2
          have hkL : k1L ≤ 5 := by have := (unhide XL).r1.len; omega
          clear hok3 hok4 hok5 HF1 HF2 HF3
          have hK0 : Below U15.heap.size U15 U15.drew := (Below.refl _ _).drew
          have HKEEP : ∀ wx, Below U15.heap.size U15 wx → Below U15.heap.size U15 wx ∧ (wx.cell? ⟨pZ, 0, none⟩ = some (.bool false) ∧ wx.cell? ⟨pZ, 1, none⟩ = some (.slice e1Z k1Z f1Z) ∧ wx.cell? ⟨pZ, 2, none⟩ = some (.slice e2Z k2Z f2Z)) ∧ (wx.cell? ⟨pL, 0, none⟩ = some (.int .i64 o3) ∧ wx.cell? ⟨pL, 1, none⟩ = some (.slice e1L k1L f1L) ∧ wx.cell? ⟨pL, 2, none⟩ = some (.slice e2L k2L f2L)) := fun wx hwx => ⟨hwx, ((unhide XZ).below hwx).cells, ((unhide XL).below hwx).cells⟩
          obtain ⟨_, ⟨xZ0, xZ1, xZ2⟩, ⟨xL0, xL1, xL2⟩⟩ := HKEEP _ (Below.refl _ _)
          first | (go_region_held (fun wx => Below U15.heap.size U15 wx ∧ (wx.cell? ⟨pZ, 0, none⟩ = some (.bool false) ∧ wx.cell? ⟨pZ, 1, none⟩ = some (.slice e1Z k1Z f1Z) ∧ wx.cell? ⟨pZ, 2, none⟩ = some (.slice e2Z k2Z f2Z)) ∧ (wx.cell? ⟨pL, 0, none⟩ = some (.int .i64 o3) ∧ wx.cell? ⟨pL, 1, none⟩ = some (.slice e1L k1L f1L) ∧ wx.cell? ⟨pL, 2, none⟩ = some (.slice e2L k2L f2L))) (first | exact HKEEP _ hK2 | exact HKEEP _ hK1 | exact HKEEP _ hK0 | exact HKEEP _ (Below.refl _ _)) (first | (go_at_call 27; refine (lwPlaces_any o3 e1L e2L k1L k2L f1L f2L y1 y2 cells _ ((unhide XL).r1.below (Nat.le_refl _) hK0) ((unhide XL).r2.below (Nat.le_refl _) hK0) (by omega)).mono ?_; rintro e w1 ⟨q1, j1, l1, q2, j2, l2, rfl, -, hQ1, hQ2, hb1⟩; have hK1 : Below U15.heap.size U15 w1 := hK0.trans (hb1.mono hK0.size); obtain ⟨_, ⟨xZ0, xZ1, xZ2⟩, ⟨xL0, xL1, xL2⟩⟩ := HKEEP _ hK1) | (go_at_call 13; refine (eqArray_refl _ _ _ _ _ _ _ _ _ _ _ _ _ y1 (places o3 y1 y2 cells) _ ((unhide XZ).r1.below (Nat.le_refl _) hK1) ((unhide XZ).r2.below (Nat.le_refl _) hK1) hQ1 hQ2).mono ?_; rintro e w2 ⟨rfl, hb2⟩; have hK2 : Below U15.heap.size U15 w2 := hK1.trans (hb2.mono hK1.size); obtain ⟨_, ⟨xZ0, xZ1, xZ2⟩, ⟨xL0, xL1, xL2⟩⟩ := HKEEP _ hK2))) | fail
          all_goals go_wp2_with fail
          all_goals (go_meet; case rel => exact ⟨rfl, hK2⟩)
      case rest => as_aux_lemma =>
      clear XL XZ HF1 HF2 HF3
      obtain ⟨U16, hwc⟩ : ∃ x, x = wc := ⟨_, rfl⟩
      subst hwc
      obtain ⟨rfl, hKK⟩ := hcut
      have T_V := hide ((unhide XV).below hKK)
      have T_A := hide ((unhide XA).below hKK)
      have T_HB := hide ((unhide HB).trans (hKK.mono (unhide HB).size))
      clear HB XV XA
      have XV := T_V
      clear T_V
      have XA := T_A
      clear T_A
      have HB := T_HB
      clear T_HB
      clear hKK
      go_upto_region 36 with fail
      obtain ⟨xV0, xV1, xV2⟩ := (unhide XV).cells
      obtain ⟨xA0, xA1, xA2⟩ := (unhide XA).cells
      go_wp2_with (go_at_call 37; refine (hpick c a1 a2 n1 n2 c1 c2 sh st cells e1A e2A k1A k2A f1A f2A n _ (unhide XV).r1 (unhide XV).r2 (unhide XA).r1 (by rw [← unhide HPE]; exact (unhide XA).r2) (unhide HR) hn).mono ?_; rintro e w9 ⟨rfl, hb9⟩; have ZB := hide ((unhide HB).trans (hb9.mono (unhide HB).size)))
      exact bodyPost_ret (v := .bool true) (by simp [results, Tryz.results5, go_sem]) rfl ⟨rfl, unhide ZB⟩
end Go.Proofs.YtgjpchnkodnieaaGreatDoor
