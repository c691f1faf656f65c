import Derived.Test.YtgjpchnkodnieaaGreatDoorZv22
import Derived.Test.YtgjpchnkodnieaaGreatDoorZv31
import Derived.Test.YtgjpchnkodnieaaGreatDoorZv32
import Derived.Test.YtgjpchnkodnieaaGreatDoorZv35
import Derived.Test.YtgjpchnkodnieaaGreatDoorZv34
import Derived.Test.YtgjpchnkodnieaaGreatDoorZv15
import Derived.Test.YtgjpchnkodnieaaGreatDoorZv09
import Derived.Test.YtgjpchnkodnieaaGreatDoorZv21
import Derived.Test.YtgjpchnkodnieaaGreatDoorZv04
import Derived.Test.YtgjpchnkodnieaaGreatDoorZv40
import Derived.Test.YtgjpchnkodnieaaGreatDoorZv44
import Derived.Test.YtgjpchnkodnieaaGreatDoorZv47
import Derived.Test.YtgjpchnkodnieaaGreatDoorZv46
import Derived.Test.YtgjpchnkodnieaaGreatDoorZv28
import Derived.Test.YtgjpchnkodnieaaGreatDoorZv01
import Derived.Deep.RegionHeld
import Derived.Deep.AppendLies
import Derived.Deep.DeepCutAuto
namespace Go.Proofs.YtgjpchnkodnieaaGreatDoor
open Go.RowKit
theorem PGrow.one {B n1 c1 n2 c2 : Nat} {s1 s2 : Option Addr} {sh dt : List Int} (w : World) (hB : B ≤ w.heap.size) (it : PItem B (w.alloc (.cells #[.bool false, .bool false, .slice s1 n1 c1, .slice s2 n2 c2] 119)) w.heap.size s1 n1 c1 s2 n2 c2 ⟨false, false, sh, dt⟩) :
    PGrow B (w.alloc (.cells #[.bool false, .bool false, .slice s1 n1 c1, .slice s2 n2 c2] 119)) w.heap.size 1 1 [.bool false, .bool false, .slice s1 n1 c1, .slice s2 n2 c2] [⟨false, false, sh, dt⟩] := by
  refine ⟨World.ownsRow_lit w #[.bool false, .bool false, .slice s1 n1 c1, .slice s2 n2 c2] 1 hB (by unfold maxLen; omega) rfl, rfl, fun i hi => ?_⟩
  have e : i = 0 := by omega
  subst e
  exact ⟨s1, n1, c1, s2, n2, c2, rfl, rfl, rfl, rfl, it⟩
theorem news4V (w : World) (v0 v1 v2 v3 : Value) : ∀ j u, ([v0, v1, v2, v3] : List Value)[j]? = some u → (w.alloc (.cells #[v0, v1, v2, v3] 119)).cell? ((⟨w.heap.size, 0, none⟩ : Addr).add j) = some u := by
  intro j u hj
  have hadd : (⟨w.heap.size, 0, none⟩ : Addr).add j = ⟨w.heap.size, j, none⟩ := by unfold Addr.add; split <;> simp_all
  rw [hadd]
  have := World.alloc_heap_new w (.cells #[v0, v1, v2, v3] 119)
  simp only [World.cell?, this]
  simpa using hj
theorem one4V (b c : Bool) (s1 : Option Addr) (n1 c1 : Nat) (s2 : Option Addr) (n2 c2 : Nat) : ∀ u ∈ ([.bool b, .bool c, .slice s1 n1 c1, .slice s2 n2 c2] : List Value), u.oneCell' = true := by
  intro u hu
  simp at hu
  rcases hu with rfl | rfl | rfl | rfl <;> rfl
theorem partsV_snoc (n : Nat) (list : List Int) (m : Nat) : partsV n list m ++ [⟨true, false, [], []⟩] = partsV n list (m + 1) := by
  unfold partsV; rw [List.cons_append, ← List.replicate_succ']
set_option maxRecDepth 20000 in
set_option maxHeartbeats 16000000 in
theorem law_Picked : PickedSaid := by
  intro c a1 a2 n1 n2 c1 c2 sh st cells b1 b2 m1 m2 d1 d2 n w r1 r2 q1 q2 hok hn
  obtain ⟨i0, hi, hz0, hz1, hz2⟩ := info_parts info_int
  obtain ⟨ip, hpi, hpz0, hpz1, hpz2⟩ := info_parts info_part
  have HR := hide hok
  clear hok
  obtain ⟨P, hP⟩ : ∃ P, P = placesOf c sh st := ⟨_, rfl⟩
  rw [← hP] at q2
  have HPE := hide hP
  have hl1 : sh.length = n1 := r1.len
  have h5 : n1 ≤ 5 := by rw [← hl1]; exact view_len (unhide HR)
  have hkA1 : m1 ≤ 5 := by have := q1.len; omega
  have hkA2 : m2 ≤ 10000 := by have h1 := q2.len; have h2 := places_len c sh st; have h3 := count_bd sh; rw [← hP] at h2; omega
  clear hP
  obtain ⟨U0, hU0⟩ : ∃ U, U = (w.alloc (.cells #[.int .i64 c, .slice (some a1) n1 c1, .slice (some a2) n2 c2] 46)).alloc (.cells #[.bool false, .slice b1 m1 d1, .slice b2 m2 d2] 25) := ⟨_, rfl⟩
  obtain ⟨pV, hpV⟩ : ∃ P, P = w.heap.size := ⟨_, rfl⟩
  obtain ⟨pA, hpA⟩ : ∃ P, P = w.heap.size + 1 := ⟨_, rfl⟩
  have XV : Hid (VVar U0 pV c (some a1) n1 c1 (some a2) n2 c2 sh st) := by
    rw [hU0, hpV]; exact (VVar.new r1 r2).below ((Below.refl _ _).alloc (Nat.le_refl _) _)
  have XA : Hid (Var U0 pA false b1 m1 d1 b2 m2 d2 sh P) := by
    rw [hU0, hpA]
    have := Var.new (c := false) (f1 := d1) (f2 := d2) (q1.alloc (.cells #[.int .i64 c, .slice (some a1) n1 c1, .slice (some a2) n2 c2] 46)) (q2.alloc (.cells #[.int .i64 c, .slice (some a1) n1 c1, .slice (some a2) n2 c2] 46))
    rwa [World.size_alloc] at this
  have HB : Hid (Below w.heap.size w U0) := by rw [hU0]; exact ((Below.refl _ _).alloc (Nat.le_refl _) _).alloc (by simp) _
  clear r1 r2 q1 q2
  obtain ⟨x3, hx3, q, q'⟩ := modN n 3 (by omega)
  have e1 : (n : Int).tmod 3 = (x3 : Int) := q
  have e1' : (n : Int) % 3 = (x3 : Int) := q'
  clear q q'
  obtain ⟨d3, -, q, q'⟩ := divV n 3
  have e2 : (n : Int).tdiv 3 = (d3 : Int) := q
  have e2' : (n : Int) / 3 = (d3 : Int) := q'
  clear q q'
  obtain ⟨x4, hx4, q, q'⟩ := modN d3 4 (by omega)
  have e3 : (d3 : Int).tmod 4 = (x4 : Int) := q
  have e3' : (d3 : Int) % 4 = (x4 : Int) := q'
  clear q q'
  go_enter Tryz.func37, Tryz.ntmps37
  go_upto_region 1 with fail
  rw [← hU0, ← hpA, ← hpV]
  clear hU0 hpA hpV
  go_upto_region 2 with fail
  obtain ⟨U1, hU⟩ : ∃ U, U = U0.alloc (.cells #[.int .i64 (x3 : Nat), .int .i64 (x4 : Nat)] 3) := ⟨_, rfl⟩
  obtain ⟨gD, hg⟩ : ∃ g, g = U0.heap.size := ⟨_, rfl⟩
  have XD : Hid (RowL U1 (some ⟨gD, 0, none⟩) 2 [(x3 : Int), (x4 : Int)]) := by
    rw [hU, hg]
    have hb : Blk (U0.alloc (.cells #[.int .i64 (x3 : Nat), .int .i64 (x4 : Nat)] 3)) U0.heap.size [(x3 : Int), (x4 : Int)] := World.alloc_heap_new U0 _
    exact hide ⟨hb.row rfl (by omega)⟩
  have hKK : Below U0.heap.size U0 U1 := by rw [hU]; exact (Below.refl _ _).alloc (Nat.le_refl _) _
  rw [← hU, ← hg]
  clear hU hg e1 e1' e2 e2' e3 e3'
  have T_V := hide ((unhide XV).below hKK)
  have T_A := hide ((unhide XA).below hKK)
  have T_HB := hide ((unhide HB).trans (hKK.mono (unhide HB).size))
  clear HB XV XA
  have XV := T_V
  clear T_V
  have XA := T_A
  clear T_A
  have HB := T_HB
  clear T_HB
  clear hKK
  obtain ⟨ok, o2, s1, s2, Zr, Yr, cR, eR, hq1, hq2, hq3⟩ := fold_all (unhide HR) x3 x4 (by omega) (by omega)
  rw [← unhide HPE] at hq2
  have HC1 := hide hq1
  have HC2 := hide hq2
  have HC3 := hide hq3
  clear hq1 hq2 hq3 hx3 hx4
  obtain ⟨xV0, xV1, xV2⟩ := (unhide XV).cells
  go_upto_region 3 with (go_at_call 96; refine (FoldView_any c a1 a2 n1 n2 c1 c2 sh st ⟨gD, 0, none⟩ 2 2 [(x3 : Int), (x4 : Int)] _ (unhide XV).r1 (unhide XV).r2 (unhide XD).r1).mono ?_; rintro e w2 ⟨e1W, k1W, f1W, e2W, k2W, f2W, rfl, hF1, hF2, hb2⟩; (have HR' := unhide HC1; rw [HR'] at hF1 hF2 ⊢; simp only at hF1 hF2 ⊢; clear HR'))
  clear xV0 xV1 xV2
  obtain ⟨U2, hU⟩ : ∃ V, V = w2.alloc (.cells #[.int .i64 o2, .slice e1W k1W f1W, .slice e2W k2W f2W] 46) := ⟨_, rfl⟩
  obtain ⟨pW, hP⟩ : ∃ P, P = w2.heap.size := ⟨_, rfl⟩
  have hKK : Below U1.heap.size U1 U2 := by rw [hU]; exact hb2.alloc hb2.size _
  have XW : Hid (VVar U2 pW o2 e1W k1W f1W e2W k2W f2W s1 s2) := by rw [hU, hP]; exact VVar.new hF1 hF2
  have hfrW : U1.heap.size ≤ pW := by rw [hP]; exact hb2.size
  rw [← hU, ← hP]
  clear hU hP hF1 hF2 hb2
  have T_V := hide ((unhide XV).below hKK)
  have T_A := hide ((unhide XA).below hKK)
  have T_D := hide ((unhide XD).below hKK)
  have T_HB := hide ((unhide HB).trans (hKK.mono (unhide HB).size))
  clear HB XV XA XD
  have XV := T_V
  clear T_V
  have XA := T_A
  clear T_A
  have XD := T_D
  clear T_D
  have HB := T_HB
  clear T_HB
  clear hKK
  clear XW hfrW
  obtain ⟨xV0, xV1, xV2⟩ := (unhide XV).cells
  go_upto_region 4 with (go_at_call 97; refine (FoldView_impl c (some a1) (some a2) n1 n2 c1 c2 sh st ⟨gD, 0, none⟩ 2 2 [(x3 : Int), (x4 : Int)] _ (unhide XV).r1 (unhide XV).r2 (unhide XD).r1).mono ?_; rintro e w3 ⟨e1C, k1C, f1C, e2C, k2C, f2C, rfl, hE1, hE2, _, hb3⟩; have hF1 := hE1.row; have hF2 := hE2.row; clear hE1 hE2; (have HR' := unhide HC1; rw [HR'] at hF1 hF2 ⊢; simp only at hF1 hF2 ⊢; clear HR'))
  clear xV0 xV1 xV2
  obtain ⟨U3, hU⟩ : ∃ V, V = w3.alloc (.cells #[.int .i64 o2, .slice e1C k1C f1C, .slice e2C k2C f2C] 46) := ⟨_, rfl⟩
  obtain ⟨pC, hP⟩ : ∃ P, P = w3.heap.size := ⟨_, rfl⟩
  have hKK : Below U2.heap.size U2 U3 := by rw [hU]; exact hb3.alloc hb3.size _
  have XC : Hid (VVar U3 pC o2 e1C k1C f1C e2C k2C f2C s1 s2) := by rw [hU, hP]; exact VVar.new hF1 hF2
  have hfrC : U2.heap.size ≤ pC := by rw [hP]; exact hb3.size
  rw [← hU, ← hP]
  clear hU hP hF1 hF2 hb3
  have T_V := hide ((unhide XV).below hKK)
  have T_A := hide ((unhide XA).below hKK)
  have T_D := hide ((unhide XD).below hKK)
  have T_HB := hide ((unhide HB).trans (hKK.mono (unhide HB).size))
  clear HB XV XA XD
  have XV := T_V
  clear T_V
  have XA := T_A
  clear T_A
  have XD := T_D
  clear T_D
  have HB := T_HB
  clear T_HB
  clear hKK
  clear hfrC
  go_cut [14, 15] (fun r6 r7 wr => r7 = .int .i64 eR ∧ ∃ p e1 k1 f1 e2 k2 f2, r6 = .pointer (some ⟨p, 0, none⟩) ∧ Var wr p cR e1 k1 f1 e2 k2 f2 Zr Yr ∧ Below U3.heap.size U3 wr)
  case first => as_aux_lemma =>
    have hK0 : Below U3.heap.size U3 U3.drew := (Below.refl _ _).drew
    have HKEEP : ∀ wx, Below U3.heap.size U3 wx → Below U3.heap.size U3 wx ∧ (wx.cell? ⟨pA, 0, none⟩ = some (.bool false) ∧ wx.cell? ⟨pA, 1, none⟩ = some (.slice b1 m1 d1) ∧ wx.cell? ⟨pA, 2, none⟩ = some (.slice b2 m2 d2)) := fun wx hwx => ⟨hwx, ((unhide XA).below hwx).cells⟩
    obtain ⟨_, ⟨xA0, xA1, xA2⟩⟩ := HKEEP _ (Below.refl _ _)
    go_region_held (fun wx => Below U3.heap.size U3 wx ∧ (wx.cell? ⟨pA, 0, none⟩ = some (.bool false) ∧ wx.cell? ⟨pA, 1, none⟩ = some (.slice b1 m1 d1) ∧ wx.cell? ⟨pA, 2, none⟩ = some (.slice b2 m2 d2))) (first | exact HKEEP _ hK3 | exact HKEEP _ (((hK3.setCell (by have z0 := hK0.size; have z1 := hK1.size; have z2 := hK2.size; have z3 := hK3.size; simp <;> omega) _).setCell (by have z0 := hK0.size; have z1 := hK1.size; have z2 := hK2.size; have z3 := hK3.size; simp <;> omega) _).setCell (by have z0 := hK0.size; have z1 := hK1.size; have z2 := hK2.size; have z3 := hK3.size; simp <;> omega) _) | exact HKEEP _ (hK3.alloc hK3.size _) | exact HKEEP _ hK2 | exact HKEEP _ (hK2.alloc hK2.size _) | exact HKEEP _ hK1 | exact HKEEP _ (hK1.alloc hK1.size _) | exact HKEEP _ hK0 | exact HKEEP _ (hK0.alloc hK0.size _) | exact HKEEP _ ((Below.refl _ _).alloc (Nat.le_refl _) _).drew)
      (first
        | (go_at_call 16; refine (lwVector_some ⟨gD, 0, none⟩ 2 2 [(x3 : Int), (x4 : Int)] _ ((unhide XD).r1.below (Nat.le_refl _) (by first | exact hK0 | exact hK0.alloc hK0.size _ | exact ((Below.refl _ _).alloc (Nat.le_refl _) _).drew))).mono ?_; rintro e w1 ⟨ga1, gb1, db1, rfl, hA1, hB1, _, hb1⟩; have hK1 : Below U3.heap.size U3 w1 := (by first | exact hK0.trans (hb1.mono hK0.size) | exact (hK0.alloc hK0.size _).trans (hb1.mono (by have := hK0.size; simp; omega)) | exact (((Below.refl _ _).alloc (Nat.le_refl _) _).drew).trans (hb1.mono (by simp))); (first | have hP1 := (Box.new _ _ _ _).below (Nat.le_refl _) hb1 | have hP1 := (Box.new _ _ _ _).drew.below (Nat.le_refl _) hb1 | skip); have hA1_1 := hA1.row; have hB1_1 := hB1.row; obtain ⟨_, ⟨xA0, xA1, xA2⟩⟩ := HKEEP _ hK1)
        | (go_at_call_of 12 (Value.slice b1 m1 d1); refine (lwArray_src false b1 b2 m1 m2 d1 d2 sh P _ (Src.of ((unhide XA).r1.below (Nat.le_refl _) (by first | exact hK1 | exact hK1.alloc hK1.size _))) (Src.of ((unhide XA).r2.below (Nat.le_refl _) (by first | exact hK1 | exact hK1.alloc hK1.size _))) (by omega) (by omega)).mono ?_; rintro e w2 ⟨ga2, gb2, da2, db2, rfl, hA2, hB2, hu2, hv2, hb2⟩; have hK2 : Below U3.heap.size U3 w2 := (by first | exact hK1.trans (hb2.mono hK1.size) | exact (hK1.alloc hK1.size _).trans (hb2.mono (by have := hK1.size; simp; omega))); (first | have hP2 := hP1.below (Nat.le_refl _) hb2 | have hP2 := (Box.new _ _ _ _).below (Nat.le_refl _) hb2 | have hP2 := (Box.new _ _ _ _).drew.below (Nat.le_refl _) hb2 | skip); have hA1_2 : Row w2 (some ⟨ga1, 0, none⟩) 1 [(2 : Int)] := (by first | exact hA1_1.below (Nat.le_refl _) hb2 | exact (hA1_1.alloc _).below (Nat.le_refl _) hb2); have hB1_2 : Row w2 (some ⟨gb1, 0, none⟩) 2 [(x3 : Int), (x4 : Int)] := (by first | exact hB1_1.below (Nat.le_refl _) hb2 | exact (hB1_1.alloc _).below (Nat.le_refl _) hb2); have hA2_2 := hA2.row; have hB2_2 := hB2.row; obtain ⟨_, ⟨xA0, xA1, xA2⟩⟩ := HKEEP _ hK2)
        | (go_at_call 98; refine (implReshape_any false false ⟨ga1, 0, none⟩ ⟨gb1, 0, none⟩ ⟨ga2, 0, none⟩ ⟨gb2, 0, none⟩ _ _ _ _ _ _ _ _ [2] [(x3 : Int), (x4 : Int)] sh P _ (by first | exact hA1_2 | exact hA1_2.alloc _) (by first | exact hB1_2 | exact hB1_2.alloc _) (by first | exact hA2_2 | exact hA2_2.alloc _) (by first | exact hB2_2 | exact hB2_2.alloc _)).mono ?_; rintro e w3 ⟨e1, k1, f1, e2, k2, f2, rfl, hE1, hE2, _, hb3⟩; have hF1 := hE1.row; have hF2 := hE2.row; clear hE1 hE2; (have HR' := unhide HC2; rw [HR'] at hF1 hF2 ⊢; simp only at hF1 hF2 ⊢; clear HR'); have hK3 : Below U3.heap.size U3 w3 := (by first | exact hK2.trans (hb3.mono hK2.size) | exact (hK2.alloc hK2.size _).trans (hb3.mono (by have := hK2.size; simp; omega))); (first | (have hP3 := hP2.below (Nat.le_refl _) hb3; obtain ⟨u0, u1, u2, u3, u4, u5, u6⟩ := hP3.free'; (try simp at u0 u1 u2 u3 u4 u5 u6)) | (have hP3 := (Box.new _ _ _ _).below (Nat.le_refl _) hb3; obtain ⟨u0, u1, u2, u3, u4, u5, u6⟩ := hP3.free'; (try simp at u0 u1 u2 u3 u4 u5 u6)) | (have hP3 := (Box.new _ _ _ _).drew.below (Nat.le_refl _) hb3; obtain ⟨u0, u1, u2, u3, u4, u5, u6⟩ := hP3.free'; (try simp at u0 u1 u2 u3 u4 u5 u6)) | skip)))
    all_goals go_wp2_with fail
    all_goals (go_meet; case rel => first | exact ⟨rfl, _, _, _, _, _, _, _, rfl, Var.new hF1 hF2, hK3.alloc hK3.size _⟩ | exact ⟨rfl, _, _, _, _, _, _, _, rfl, Var.put hP3 hF1 hF2, ((hK3.setCell (by have z0 := hK0.size; have z1 := hK1.size; have z2 := hK2.size; have z3 := hK3.size; simp <;> omega) _).setCell (by have z0 := hK0.size; have z1 := hK1.size; have z2 := hK2.size; have z3 := hK3.size; simp <;> omega) _).setCell (by have z0 := hK0.size; have z1 := hK1.size; have z2 := hK2.size; have z3 := hK3.size; simp <;> omega) _⟩)
  case rest =>
  obtain ⟨U4, hwc⟩ : ∃ x, x = wc := ⟨_, rfl⟩
  subst hwc
  obtain ⟨rfl, pZ, e1Z, k1Z, f1Z, e2Z, k2Z, f2Z, rfl, hv, hK⟩ := hcut
  have T_V := hide ((unhide XV).below hK)
  have T_A := hide ((unhide XA).below hK)
  have T_C := hide ((unhide XC).below hK)
  have T_HB := hide ((unhide HB).trans (hK.mono (unhide HB).size))
  clear HB XV XA XC
  have XV := T_V
  clear T_V
  have XA := T_A
  clear T_A
  have XC := T_C
  clear T_C
  have HB := T_HB
  clear T_HB
  have XZ := hide hv
  clear hv hK
  clear XD
  go_upto_region 5 with fail
  go_cut [69] (fun v wx => v = .bool false ∧ Below U4.heap.size U4 wx)
  case first => as_aux_lemma =>
    cases ok with
    | false =>
      go_wp2_with fail
      go_quiet (fail)
      all_goals go_wp2_with fail
      all_goals (go_meet; case rel => first | exact ⟨rfl, Below.refl _ _⟩ | exact ⟨rfl, (Below.refl _ _).drew⟩ | exact ⟨rfl, Below.drewN (Below.refl _ _) _⟩)
    | true =>
      obtain ⟨hok1, hok2, hok3, hok4, hok5⟩ := unhide HC3 rfl
      rw [hok3, hok4] at XZ
      subst hok1
      subst hok2
      have hkC : k1C ≤ 5 := by have := (unhide XC).r1.len; omega
      clear hok3 hok4 hok5 HC1 HC2 HC3
      have hK0 : Below U4.heap.size U4 U4.drew := (Below.refl _ _).drew
      have HKEEP : ∀ wx, Below U4.heap.size U4 wx → Below U4.heap.size U4 wx ∧ (wx.cell? ⟨pZ, 0, none⟩ = some (.bool false) ∧ wx.cell? ⟨pZ, 1, none⟩ = some (.slice e1Z k1Z f1Z) ∧ wx.cell? ⟨pZ, 2, none⟩ = some (.slice e2Z k2Z f2Z)) ∧ (wx.cell? ⟨pC, 0, none⟩ = some (.int .i64 o2) ∧ wx.cell? ⟨pC, 1, none⟩ = some (.slice e1C k1C f1C) ∧ wx.cell? ⟨pC, 2, none⟩ = some (.slice e2C k2C f2C)) := fun wx hwx => ⟨hwx, ((unhide XZ).below hwx).cells, ((unhide XC).below hwx).cells⟩
      obtain ⟨_, ⟨xZ0, xZ1, xZ2⟩, ⟨xC0, xC1, xC2⟩⟩ := HKEEP _ (Below.refl _ _)
      first | (go_region_held (fun wx => Below U4.heap.size U4 wx ∧ (wx.cell? ⟨pZ, 0, none⟩ = some (.bool false) ∧ wx.cell? ⟨pZ, 1, none⟩ = some (.slice e1Z k1Z f1Z) ∧ wx.cell? ⟨pZ, 2, none⟩ = some (.slice e2Z k2Z f2Z)) ∧ (wx.cell? ⟨pC, 0, none⟩ = some (.int .i64 o2) ∧ wx.cell? ⟨pC, 1, none⟩ = some (.slice e1C k1C f1C) ∧ wx.cell? ⟨pC, 2, none⟩ = some (.slice e2C k2C f2C))) (first | exact HKEEP _ hK2 | exact HKEEP _ hK1 | exact HKEEP _ hK0 | exact HKEEP _ (Below.refl _ _)) (first | (go_at_call 27; refine (lwPlaces_any o2 e1C e2C k1C k2C f1C f2C s1 s2 cells _ ((unhide XC).r1.below (Nat.le_refl _) hK0) ((unhide XC).r2.below (Nat.le_refl _) hK0) (by omega)).mono ?_; rintro e w1 ⟨q1, j1, l1, q2, j2, l2, rfl, -, hQ1, hQ2, hb1⟩; have hK1 : Below U4.heap.size U4 w1 := hK0.trans (hb1.mono hK0.size); obtain ⟨_, ⟨xZ0, xZ1, xZ2⟩, ⟨xC0, xC1, xC2⟩⟩ := HKEEP _ hK1) | (go_at_call 13; refine (eqArray_refl _ _ _ _ _ _ _ _ _ _ _ _ _ s1 (places o2 s1 s2 cells) _ ((unhide XZ).r1.below (Nat.le_refl _) hK1) ((unhide XZ).r2.below (Nat.le_refl _) hK1) hQ1 hQ2).mono ?_; rintro e w2 ⟨rfl, hb2⟩; have hK2 : Below U4.heap.size U4 w2 := hK1.trans (hb2.mono hK1.size); obtain ⟨_, ⟨xZ0, xZ1, xZ2⟩, ⟨xC0, xC1, xC2⟩⟩ := HKEEP _ hK2))) | fail
      all_goals go_wp2_with fail
      all_goals (go_meet; case rel => exact ⟨rfl, hK2⟩)
  case rest =>
  clear XC XZ HC1 HC2 HC3
  obtain ⟨U5, hwc⟩ : ∃ x, x = wc := ⟨_, rfl⟩
  subst hwc
  obtain ⟨rfl, hKK⟩ := hcut
  have T_V := hide ((unhide XV).below hKK)
  have T_A := hide ((unhide XA).below hKK)
  have T_HB := hide ((unhide HB).trans (hKK.mono (unhide HB).size))
  clear HB XV XA
  have XV := T_V
  clear T_V
  have XA := T_A
  clear T_A
  have HB := T_HB
  clear T_HB
  clear hKK
  obtain ⟨xV0, xV1, xV2⟩ := (unhide XV).cells
  by_cases hz : n1 = 0
  · have hzz : ((n1 : Int) == 0) = true := by simp; omega
    go_wp2_with fail
    exact bodyPost_ret (v := .bool true) (by simp [results, Tryz.results37, go_sem]) rfl ⟨rfl, unhide HB⟩
  obtain ⟨m, hm⟩ : ∃ m : Nat, n1 = m + 1 := ⟨n1 - 1, by omega⟩
  have HM := hide hm
  clear hm
  have hzz : ((n1 : Int) == 0) = false := by simp; omega
  have h0z : (0 : Int) < (n1 : Int) := by omega
  obtain ⟨bS, oS, eS, hbS, hcS⟩ := (unhide XV).r1.get (k := 0) (by omega)
  cases eS
  rw [Nat.add_zero] at hcS
  obtain ⟨s, hs⟩ : ∃ s, s = sN sh 0 := ⟨_, rfl⟩
  have hsh := sN_le (formed_parts (viewOk_parts (unhide HR)).1).1 0
  rw [← hs] at hsh
  rw [← hsh.1] at hcS
  have hsb := hsh.2
  clear hs hsh
  by_cases hs0 : s = 0
  · have hsz : ((s : Int) == 0) = true := by simp; omega
    go_wp2_with fail
    exact bodyPost_ret (v := .bool true) (by simp [results, Tryz.results37, go_sem]) rfl ⟨rfl, unhide HB⟩
  have hsz : ((s : Int) == 0) = false := by simp; omega
  have hsnz : ¬ (s : Int) = 0 := by omega
  obtain ⟨fr, hfr, q, q'⟩ := modN n s (by omega)
  have e1 : (n : Int).tmod (s : Int) = (fr : Int) := q
  have e1' : (n : Int) % (s : Int) = (fr : Int) := q'
  clear q q'
  obtain ⟨d2', -, q, q'⟩ := divV n 2
  have e2 : (n : Int).tdiv 2 = (d2' : Int) := q
  have e2' : (n : Int) / 2 = (d2' : Int) := q'
  clear q q'
  obtain ⟨x5, hx5, q, q'⟩ := modN d2' 5 (by omega)
  have e3 : (d2' : Int).tmod 5 = (x5 : Int) := q
  have e3' : (d2' : Int) % 5 = (x5 : Int) := q'
  clear q q'
  obtain ⟨sp, hsp⟩ : ∃ sp : Int, (x5 : Int) - 2 = sp := ⟨_, rfl⟩
  have hspb : -2 ≤ sp ∧ sp ≤ 2 := by omega
  have wsp : IntKind.i64.wrap ((x5 : Int) - 2) = sp := by rw [hsp, IntKind.wrap_i64]; omega
  obtain ⟨d10, -, q, q'⟩ := divV n 10
  have e4 : (n : Int).tdiv 10 = (d10 : Int) := q
  have e4' : (n : Int) / 10 = (d10 : Int) := q'
  clear q q'
  obtain ⟨ct, hct, q, q'⟩ := modN d10 4 (by omega)
  have e5 : (d10 : Int).tmod 4 = (ct : Int) := q
  have e5' : (d10 : Int) % 4 = (ct : Int) := q'
  clear q q' hsp
  go_upto_region 14 with fail
  clear e1 e1' e2 e2' e3 e3' e4 e4' e5 e5' wsp hsz hsnz hzz h0z hcS
  clear xV0 xV1 xV2
  obtain ⟨Q, hQ⟩ : ∃ Q, Q = U5.alloc (.cells #[] 3) := ⟨_, rfl⟩
  have HG : Hid (Q.ownsRow U5.heap.size 3 1 (.slice (some ⟨U5.heap.size, 0, none⟩) 0 0) 0 ((pickL fr sp 0).map (Value.int .i64))) := by rw [hQ]; exact owns_empty U5
  have HL : Hid (Below U5.heap.size U5 Q) := by rw [hQ]; exact (Below.refl _ _).alloc (Nat.le_refl _) _
  rw [← hQ]
  clear hQ
  go_wp2_with fail
  go_loopw [20, 21] (fun v i wr => ∃ (k g cg : Nat), k ≤ ct ∧ v = .slice (some ⟨g, 0, none⟩) k cg ∧ i = .int .i64 (k : Nat) ∧ Hid (wr.ownsRow U5.heap.size 3 1 (.slice (some ⟨g, 0, none⟩) k cg) k ((pickL fr sp k).map (Value.int .i64))) ∧ Hid (Below U5.heap.size U5 wr)) (fun _ i _ => ct - (intOf i).toNat)
  case atStart => exact ⟨0, _, 0, Nat.zero_le _, rfl, rfl, HG, HL⟩
  case round =>
  clear HG HL
  obtain ⟨k, g, cg, hk, rfl, rfl, hg, hlw⟩ := hrel
  by_cases hlt : k < ct
  · have hkz : (k : Int) < (ct : Int) := by omega
    obtain ⟨ks, hks⟩ : ∃ ks : Int, ks = (k : Int) * sp := ⟨_, rfl⟩
    have hksb : -6 ≤ ks ∧ ks ≤ 6 := by
      have hk3 : k ≤ 3 := by omega
      rw [hks]
      have q1 := Int.mul_le_mul_of_nonneg_left hspb.2 (show (0 : Int) ≤ k by omega)
      have q2 := Int.mul_le_mul_of_nonneg_left hspb.1 (show (0 : Int) ≤ k by omega)
      omega
    have wk : IntKind.i64.wrap ((k : Int) * sp) = ks := by rw [← hks, IntKind.wrap_i64]; omega
    obtain ⟨t1, ht1⟩ : ∃ t1 : Int, t1 = (fr : Int) + ks := ⟨_, rfl⟩
    have wt1 : IntKind.i64.wrap ((fr : Int) + ks) = t1 := by rw [← ht1, IntKind.wrap_i64]; omega
    obtain ⟨t2, ht2⟩ : ∃ t2 : Int, t2 = t1 + 1 := ⟨_, rfl⟩
    have wt2 : IntKind.i64.wrap (t1 + 1) = t2 := by rw [← ht2, IntKind.wrap_i64]; omega
    have HLP : Hid (pickL fr sp (k + 1) = pickL fr sp k ++ [t2]) := by show _ = _; rw [pickL_snoc, ht2, ht1, hks]
    have hszr := (unhide hlw).size
    clear hks ht1 ht2 hksb
    go_wp2_with (at_builtin; refine wpList_append_lies _ rfl _ _ 23 rfl U5.heap.size 3 i0 (.int .i64 0) 1 8 Tryz.underlying23 hi hz0 hz1 hz2 rfl (by decide) _ _ _ rfl (owns_below (unhide hg) (Nat.le_refl _) ((Below.refl _ _).alloc (Nat.le_refl _) _)) ⟨wr.heap.size, 0, none⟩ 1 1 [.int .i64 t2] rfl rfl (cells_new _ _) (one_one _) (by omega) (by unfold maxLen; omega) (by omega) (by simp; omega) (wr.heap.size + 1) (by simp) ?_; intro g' cg' w7 hown hgrow hat hlt7; have HG7 := hide hown; have HL7 : Hid (Below U5.heap.size U5 w7) := (((unhide hlw).alloc hszr _).grown hgrow (by simp; omega) (by intro x hx; cases hx; exact owns_from (unhide hg))); clear hown hgrow hat hlt7)
    go_roundw
    case rel =>
      refine ⟨k + 1, g', cg', by omega, rfl, by go_num, ?_, HL7⟩
      show World.ownsRow _ _ _ _ _ _ _
      rw [unhide HLP, List.map_append]
      exact unhide HG7
    case measure => simp [intOf]; omega
  have hkz : ¬ (k : Int) < (ct : Int) := by omega
  have hkn : k = ct := by omega
  clear hlt hk
  subst k
  have XL : Hid (RowL wr (some ⟨g, 0, none⟩) ct (pickL fr sp ct)) := hide ⟨rowG (unhide hg) (by omega)⟩
  have hKK := unhide hlw
  clear hg hlw
  have T_V := hide ((unhide XV).below hKK)
  have T_A := hide ((unhide XA).below hKK)
  have T_HB := hide ((unhide HB).trans (hKK.mono (unhide HB).size))
  clear HB XV XA
  have XV := T_V
  clear T_V
  have XA := T_A
  clear T_A
  have HB := T_HB
  clear T_HB
  clear hKK
  obtain ⟨U6, hwc⟩ : ∃ x, x = wr := ⟨_, rfl⟩
  subst hwc
  obtain ⟨ok, o2, s1, s2, hq1, hq2⟩ := pick_all (unhide HR) (m := m) (n := ct) (by have := unhide HM; omega) (fr : Int) sp (by omega)
  rw [← unhide HPE] at hq2
  have HC1 := hide hq1
  have HC2 := hide hq2
  clear hq1 hq2
  obtain ⟨xV0, xV1, xV2⟩ := (unhide XV).cells
  go_upto_region 19 with (go_at_call 99; refine (PickView_any c ⟨bS, oS, none⟩ a2 n1 n2 c1 c2 sh st 0 (fr : Int) sp (ct : Int) _ (unhide XV).r1 (unhide XV).r2).mono ?_; rintro e w8 ⟨e1S, k1S, f1S, e2S, k2S, f2S, rfl, hF1, hF2, hb8⟩; (have HR' := unhide HC1; rw [HR'] at hF1 hF2 ⊢; simp only at hF1 hF2 ⊢; clear HR'))
  clear xV0 xV1 xV2
  clear hF1 hF2
  obtain ⟨U7, hwc⟩ : ∃ x, x = w8 := ⟨_, rfl⟩
  subst hwc
  have T_V := hide ((unhide XV).below hb8)
  have T_A := hide ((unhide XA).below hb8)
  have T_L := hide ((unhide XL).below hb8)
  have T_HB := hide ((unhide HB).trans (hb8.mono (unhide HB).size))
  clear HB XV XA XL
  have XV := T_V
  clear T_V
  have XA := T_A
  clear T_A
  have XL := T_L
  clear T_L
  have HB := T_HB
  clear T_HB
  clear hb8
  obtain ⟨xV0, xV1, xV2⟩ := (unhide XV).cells
  go_upto_region 20 with (go_at_call 100; refine (PickView_impl c (some ⟨bS, oS, none⟩) (some a2) n1 n2 c1 c2 sh st 0 (fr : Int) sp (ct : Int) _ (unhide XV).r1 (unhide XV).r2).mono ?_; rintro e w9 ⟨e1K, k1K, f1K, e2K, k2K, f2K, rfl, hE1, hE2, _, hb9⟩; have hF1 := hE1.row; have hF2 := hE2.row; clear hE1 hE2; (have HR' := unhide HC1; rw [HR'] at hF1 hF2 ⊢; simp only at hF1 hF2 ⊢; clear HR'))
  clear xV0 xV1 xV2
  obtain ⟨U8, hU⟩ : ∃ V, V = w9.alloc (.cells #[.int .i64 o2, .slice e1K k1K f1K, .slice e2K k2K f2K] 46) := ⟨_, rfl⟩
  obtain ⟨pK, hP⟩ : ∃ P, P = w9.heap.size := ⟨_, rfl⟩
  have hKK : Below U7.heap.size U7 U8 := by rw [hU]; exact hb9.alloc hb9.size _
  have XK : Hid (VVar U8 pK o2 e1K k1K f1K e2K k2K f2K s1 s2) := by rw [hU, hP]; exact VVar.new hF1 hF2
  have hfrK : U7.heap.size ≤ pK := by rw [hP]; exact hb9.size
  rw [← hU, ← hP]
  clear hU hP hF1 hF2 hb9
  have T_V := hide ((unhide XV).below hKK)
  have T_A := hide ((unhide XA).below hKK)
  have T_L := hide ((unhide XL).below hKK)
  have T_HB := hide ((unhide HB).trans (hKK.mono (unhide HB).size))
  clear HB XV XA XL
  have XV := T_V
  clear T_V
  have XA := T_A
  clear T_A
  have XL := T_L
  clear T_L
  have HB := T_HB
  clear T_HB
  clear hKK
  clear hfrK
  go_upto_region 21 with (go_at_call 16; refine (lwVector_some ⟨g, 0, none⟩ ct cg (pickL fr sp ct) _ (unhide XL).r1).mono ?_; rintro e w10 ⟨ga1, gb1, db1, rfl, hA1, hB1, hdb, hb10⟩)
  obtain ⟨U9, hU⟩ : ∃ U, U = w10.alloc (.cells #[.bool false, .bool false, .slice (some ⟨ga1, 0, none⟩) 1 1, .slice (some ⟨gb1, 0, none⟩) ct db1] 119) := ⟨_, rfl⟩
  obtain ⟨gp, hgp⟩ : ∃ g, g = w10.heap.size := ⟨_, rfl⟩
  have hKK : Below U8.heap.size U8 U9 := by rw [hU]; exact hb10.alloc hb10.size _
  have HG : Hid (PGrow U8.heap.size U9 gp 1 1 [.bool false, .bool false, .slice (some ⟨ga1, 0, none⟩) 1 1, .slice (some ⟨gb1, 0, none⟩) ct db1] (partsV ct (pickL fr sp ct) 0)) := by
    rw [hU, hgp]
    refine PGrow.one w10 hb10.size ⟨Src.of (hA1.row.alloc _), Src.of (hB1.row.alloc _), fun h => ?_, fun h => ?_, fun x hx => hA1.low hx, fun x hx => hB1.low hx, by omega, by omega, fun _ => ⟨_, rfl⟩⟩
    · have := hA1.row.hi h; omega
    · have := hB1.row.hi h; omega
  rw [← hU, ← hgp]
  clear hU hgp hA1 hB1 hb10 hdb XL
  have HL := hide hKK
  clear hKK
  go_wp2_with fail
  go_loopw [23, 24] (fun v i wr => ∃ (j gp cp : Nat) (xs : List Value), 1 ≤ j ∧ j ≤ n1 ∧ v = .slice (some ⟨gp, 0, none⟩) j cp ∧ i = .int .i64 (j : Nat) ∧ Hid (PGrow U8.heap.size wr gp cp j xs (partsV ct (pickL fr sp ct) (j - 1))) ∧ Hid (Below U8.heap.size U8 wr)) (fun _ i _ => n1 - (intOf i).toNat)
  case atStart => exact ⟨1, gp, 1, _, Nat.le_refl _, by have := unhide HM; omega, rfl, rfl, HG, HL⟩
  case round =>
  clear HG HL
  obtain ⟨j, gp, cp, xs, hj1, hj2, rfl, rfl, hg, hlw⟩ := hrel
  by_cases hlt : j < n1
  · have hkz : (j : Int) < (n1 : Int) := by omega
    have hszr := (unhide hlw).size
    have hge := (unhide hg).ge
    have HPS : Hid (partsV ct (pickL fr sp ct) (j - 1) ++ [⟨true, false, [], []⟩] = partsV ct (pickL fr sp ct) (j + 1 - 1)) := by show _ = _; rw [partsV_snoc, show j - 1 + 1 = j + 1 - 1 by omega]
    go_wp2_with (at_builtin; refine wpList_append_lies _ rfl _ _ 120 rfl U8.heap.size 119 ip _ 4 64 Tryz.underlying120 hpi hpz0 hpz1 hpz2 rfl (by decide) _ _ _ rfl (owns_below (unhide hg).own (Nat.le_refl _) ((Below.refl _ _).alloc (Nat.le_refl _) _)) ⟨wr.heap.size, 0, none⟩ 1 1 [.bool true, .bool false, .slice none 0 0, .slice none 0 0] rfl rfl (news4V _ _ _ _ _) (one4V true false none 0 0 none 0 0) (by omega) (by unfold maxLen; omega) (by omega) (by simp; omega) (wr.heap.size + 1) (by simp) ?_; intro g' cp' w7 hown hgrow hat hlt7; have HP7 := hide ((unhide hg).push _ (p := ⟨true, false, [], []⟩) ⟨Src.none _, Src.none _, fun h => h.1 rfl, fun h => h.1 rfl, fun x hx => absurd rfl hx.1, fun x hx => absurd rfl hx.1, by omega, by omega, fun h => by cases h⟩ hown hgrow (by rcases hat with h | h; (· exact .inl (Option.some.inj (show some gp = some g' from h)).symm); exact .inr h)); clear hown hgrow hat hlt7)
    go_roundw
    case rel =>
      have h7 : PGrow U8.heap.size w7 g' cp' (j + 1) (xs ++ [.bool true, .bool false, .slice none 0 0, .slice none 0 0]) (partsV ct (pickL fr sp ct) (j + 1 - 1)) := by rw [← unhide HPS]; exact (unhide HP7).1
      have hb7 : Below U8.heap.size U8 w7 := (unhide hlw).trans ((unhide HP7).2.below hszr (fun x hx => by rw [hx]; exact hge))
      exact ⟨j + 1, g', cp', _, by omega, by omega, rfl, by go_num, h7, hb7⟩
    case measure => simp [intOf]; omega
  have hkz : ¬ (j : Int) < (n1 : Int) := by omega
  have hjn : j = n1 := by omega
  clear hlt hj1 hj2
  subst j
  have HPG : Hid (PGrow U8.heap.size wr gp cp n1 xs (partsV ct (pickL fr sp ct) m)) := by rw [show m = n1 - 1 by have := unhide HM; omega]; exact hg
  have hKK := unhide hlw
  clear hg hlw
  have T_V := hide ((unhide XV).below hKK)
  have T_A := hide ((unhide XA).below hKK)
  have T_K := hide ((unhide XK).below hKK)
  have T_HB := hide ((unhide HB).trans (hKK.mono (unhide HB).size))
  clear HB XV XA XK
  have XV := T_V
  clear T_V
  have XA := T_A
  clear T_A
  have XK := T_K
  clear T_K
  have HB := T_HB
  clear T_HB
  clear hKK
  obtain ⟨U10, hwc⟩ : ∃ x, x = wr := ⟨_, rfl⟩
  subst hwc
  cases ok with
  | false =>
    go_wp2_with fail
    exact bodyPost_ret (v := .bool true) (by simp [results, Tryz.results37, go_sem]) rfl ⟨rfl, unhide HB⟩
  | true =>
  obtain ⟨hix, hs5⟩ := unhide HC2 rfl
  have HIX := hide hix
  have hkK : k1K ≤ 5 := by have := (unhide XK).r1.len; omega
  clear hix hs5 HC1 HC2
  go_upto_region 27 with fail
  go_cut [25, 15] (fun r6 r7 wr => r7 = .int .i64 0 ∧ ∃ p e1 k1 f1 e2 k2 f2, r6 = .pointer (some ⟨p, 0, none⟩) ∧ Var wr p false e1 k1 f1 e2 k2 f2 s1 (places o2 s1 s2 cells) ∧ Below U10.heap.size U10 wr)
  case first => as_aux_lemma =>
    have hK0 : Below U10.heap.size U10 U10 := Below.refl _ _
    have HKEEP : ∀ wx, Below U10.heap.size U10 wx → Below U10.heap.size U10 wx ∧ (wx.cell? ⟨pA, 0, none⟩ = some (.bool false) ∧ wx.cell? ⟨pA, 1, none⟩ = some (.slice b1 m1 d1) ∧ wx.cell? ⟨pA, 2, none⟩ = some (.slice b2 m2 d2)) := fun wx hwx => ⟨hwx, ((unhide XA).below hwx).cells⟩
    obtain ⟨_, ⟨xA0, xA1, xA2⟩⟩ := HKEEP _ (Below.refl _ _)
    go_wp2_with (first
      | (go_at_call_of 12 (Value.slice b1 m1 d1); refine (lwArray_src false b1 b2 m1 m2 d1 d2 sh P _ (Src.of ((unhide XA).r1.below (Nat.le_refl _) (by first | exact hK0 | exact hK0.alloc hK0.size _ | exact ((Below.refl _ _).alloc (Nat.le_refl _) _).drew))) (Src.of ((unhide XA).r2.below (Nat.le_refl _) (by first | exact hK0 | exact hK0.alloc hK0.size _ | exact ((Below.refl _ _).alloc (Nat.le_refl _) _).drew))) (by omega) (by omega)).mono ?_; rintro e w1 ⟨ga1, gb1, da1, db1, rfl, hA1, hB1, hu1, hv1, hb1⟩; have hK1 : Below U10.heap.size U10 w1 := (by first | exact hK0.trans (hb1.mono hK0.size) | exact (hK0.alloc hK0.size _).trans (hb1.mono (by have := hK0.size; simp; omega)) | exact (((Below.refl _ _).alloc (Nat.le_refl _) _).drew).trans (hb1.mono (by simp))); have hA1_1 := hA1.row; have hB1_1 := hB1.row; obtain ⟨_, ⟨xA0, xA1, xA2⟩⟩ := HKEEP _ hK1)
      | (go_at_call 101; refine (implIndex_any false ⟨ga1, 0, none⟩ ⟨gb1, 0, none⟩ (some ⟨gp, 0, none⟩) _ _ _ _ n1 cp sh P (partsV ct (pickL fr sp ct) m) _ (by first | exact hA1_1 | exact hA1_1.alloc _) (by first | exact hB1_1 | exact hB1_1.alloc _) (PGrow.rowN ((unhide HPG).below (by first | exact hK1 | exact hK1.alloc hK1.size _)) (by omega))).mono ?_; rintro e w2 ⟨e1, k1, f1, e2, k2, f2, rfl, hE1, hE2, _, hb2, hc1, hc2, hc3⟩; have hF1 := hE1.row; have hF2 := hE2.row; clear hE1 hE2; (have HR' := unhide HIX; rw [HR'] at hF1 hF2 ⊢; simp only at hF1 hF2 ⊢; clear HR'); have hK2 : Below U10.heap.size U10 w2 := (by first | exact hK1.trans (hb2.mono hK1.size) | exact (hK1.alloc hK1.size _).trans (hb2.mono (by have := hK1.size; simp; omega)))))
    all_goals (go_meet; case rel => first | exact ⟨rfl, _, _, _, _, _, _, _, rfl, Var.new hF1 hF2, hK2.alloc hK2.size _⟩)
  case rest =>
  obtain ⟨U11, hwc⟩ : ∃ x, x = wc := ⟨_, rfl⟩
  subst hwc
  obtain ⟨rfl, pY, e1Y, k1Y, f1Y, e2Y, k2Y, f2Y, rfl, hv, hK⟩ := hcut
  have T_V := hide ((unhide XV).below hK)
  have T_A := hide ((unhide XA).below hK)
  have T_K := hide ((unhide XK).below hK)
  have T_HB := hide ((unhide HB).trans (hK.mono (unhide HB).size))
  clear HB XV XA XK
  have XV := T_V
  clear T_V
  have XA := T_A
  clear T_A
  have XK := T_K
  clear T_K
  have HB := T_HB
  clear T_HB
  have XY := hide hv
  clear hv hK
  go_upto_region 28 with fail
  go_cut [8] (fun v wx => v = .bool true ∧ Below U11.heap.size U11 wx)
  case first => as_aux_lemma =>
    have hK0 : Below U11.heap.size U11 U11.drew := (Below.refl _ _).drew
    have HKEEP : ∀ wx, Below U11.heap.size U11 wx → Below U11.heap.size U11 wx ∧ (wx.cell? ⟨pY, 0, none⟩ = some (.bool false) ∧ wx.cell? ⟨pY, 1, none⟩ = some (.slice e1Y k1Y f1Y) ∧ wx.cell? ⟨pY, 2, none⟩ = some (.slice e2Y k2Y f2Y)) ∧ (wx.cell? ⟨pK, 0, none⟩ = some (.int .i64 o2) ∧ wx.cell? ⟨pK, 1, none⟩ = some (.slice e1K k1K f1K) ∧ wx.cell? ⟨pK, 2, none⟩ = some (.slice e2K k2K f2K)) := fun wx hwx => ⟨hwx, ((unhide XY).below hwx).cells, ((unhide XK).below hwx).cells⟩
    obtain ⟨_, ⟨xY0, xY1, xY2⟩, ⟨xK0, xK1, xK2⟩⟩ := HKEEP _ (Below.refl _ _)
    first | (go_region_held (fun wx => Below U11.heap.size U11 wx ∧ (wx.cell? ⟨pY, 0, none⟩ = some (.bool false) ∧ wx.cell? ⟨pY, 1, none⟩ = some (.slice e1Y k1Y f1Y) ∧ wx.cell? ⟨pY, 2, none⟩ = some (.slice e2Y k2Y f2Y)) ∧ (wx.cell? ⟨pK, 0, none⟩ = some (.int .i64 o2) ∧ wx.cell? ⟨pK, 1, none⟩ = some (.slice e1K k1K f1K) ∧ wx.cell? ⟨pK, 2, none⟩ = some (.slice e2K k2K f2K))) (first | exact HKEEP _ hK2 | exact HKEEP _ hK1 | exact HKEEP _ hK0 | exact HKEEP _ (Below.refl _ _)) (first | (go_at_call 27; refine (lwPlaces_any o2 e1K e2K k1K k2K f1K f2K s1 s2 cells _ ((unhide XK).r1.below (Nat.le_refl _) hK0) ((unhide XK).r2.below (Nat.le_refl _) hK0) (by omega)).mono ?_; rintro e w1 ⟨q1, j1, l1, q2, j2, l2, rfl, -, hQ1, hQ2, hb1⟩; have hK1 : Below U11.heap.size U11 w1 := hK0.trans (hb1.mono hK0.size); obtain ⟨_, ⟨xY0, xY1, xY2⟩, ⟨xK0, xK1, xK2⟩⟩ := HKEEP _ hK1) | (go_at_call 13; refine (eqArray_refl _ _ _ _ _ _ _ _ _ _ _ _ _ s1 (places o2 s1 s2 cells) _ ((unhide XY).r1.below (Nat.le_refl _) hK1) ((unhide XY).r2.below (Nat.le_refl _) hK1) hQ1 hQ2).mono ?_; rintro e w2 ⟨rfl, hb2⟩; have hK2 : Below U11.heap.size U11 w2 := hK1.trans (hb2.mono hK1.size); obtain ⟨_, ⟨xY0, xY1, xY2⟩, ⟨xK0, xK1, xK2⟩⟩ := HKEEP _ hK2))) | fail
    all_goals go_wp2_with fail
    all_goals (go_meet; case rel => exact ⟨rfl, hK2⟩)
  case rest =>
  obtain ⟨U12, hwc⟩ : ∃ x, x = wc := ⟨_, rfl⟩
  subst hwc
  obtain ⟨rfl, hKK⟩ := hcut
  have T_V := hide ((unhide XV).below hKK)
  have T_A := hide ((unhide XA).below hKK)
  have T_HB := hide ((unhide HB).trans (hKK.mono (unhide HB).size))
  clear HB XV XA
  have XV := T_V
  clear T_V
  have XA := T_A
  clear T_A
  have HB := T_HB
  clear T_HB
  clear hKK
  go_wp2_with fail
  exact bodyPost_ret (v := .bool true) (by simp [results, Tryz.results37, go_sem]) rfl ⟨rfl, unhide HB⟩
end Go.Proofs.YtgjpchnkodnieaaGreatDoor
