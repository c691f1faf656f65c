import Derived.Test.YtgjpchnkodnieaaGreatDoorMFit3
import Derived.Test.YtgjpchnkodnieaaGreatDoorMFit3
import Derived.Test.YtgjpchnkodnieaaGreatDoorMFit3
import Derived.Test.YtgjpchnkodnieaaGreatDoorMFit3
import Derived.Test.YtgjpchnkodnieaaGreatDoorSpecFoldH
import Derived.Test.YtgjpchnkodnieaaGreatDoorSpecJoin
import Derived.Test.YtgjpchnkodnieaaGreatDoorSpecScalar2
import Derived.Test.YtgjpchnkodnieaaGreatDoorMFit1
import Derived.Deep.DeepCutAuto
import Derived.Deep.RegionHeld
namespace Go.Proofs.YtgjpchnkodnieaaGreatDoor
open Go.RowKit

set_option maxRecDepth 20000 in
set_option maxHeartbeats 16000000 in
theorem Inner_any (f g : Int) (c d : Bool) (a1 a2 b1 b2 : Addr) (n1 n2 m1 m2 c1 c2 d1 d2 : Nat) (sh dt sh' dt' : List Int) (w : World) (h1 : Row w (some a1) n1 sh) (h2 : Row w (some a2) n2 dt) (k1 : Row w (some b1) m1 sh') (k2 : Row w (some b2) m2 dt') (hc1 : n1 ≤ c1) (hd1 : m1 ≤ d1) :
    Calls Tryz.prog 40 #[.int .i64 f, .int .i64 g, .agg #[.bool c, .slice (some a1) n1 c1, .slice (some a2) n2 c2], .agg #[.bool d, .slice (some b1) m1 d1, .slice (some b2) m2 d2]] w (GivesRow w (inner f g c d sh dt sh' dt')) := by
  have hl1 := hide h1.len
  have hl2 := hide h2.len
  have hl3 := hide k1.len
  have hl4 := hide k2.len
  have hs1 := h1.small
  have hs2 := h2.small
  have hs3 := k1.small
  have hs4 := k2.small
  have H1 := hide h1
  have H2 := hide h2
  have K1 := hide k1
  have K2 := hide k2
  clear h1 h2 k1 k2
  obtain ⟨r1, hr1⟩ : ∃ r, arrOk c sh dt = r := ⟨_, rfl⟩
  obtain ⟨r2, hr2⟩ : ∃ r, arrOk d sh' dt' = r := ⟨_, rfl⟩
  have HR1 := hide hr1
  have HR2 := hide hr2
  obtain ⟨bad, hbad⟩ : ∃ b : Bool, b = !(r1 && (r2 && (opIn f && opIn g))) := ⟨_, rfl⟩
  have HBAD := hide hbad
  clear hr1 hr2 hbad
  go_enter Tryz.func40, Tryz.ntmps40
  go_upto_region 1 with fail
  go_cut [51] (fun b wx => b = .bool bad ∧ Box wx w.heap.size c (.slice (some a1) n1 c1) (.slice (some a2) n2 c2) ∧ Box wx (w.heap.size + 1) d (.slice (some b1) m1 d1) (.slice (some b2) m2 d2) ∧ Box wx (w.heap.size + 2) false (.slice none 0 0) (.slice none 0 0) ∧ Below w.heap.size w wx)
  case first =>
    as_aux_lemma =>
      cases r1 with
      | false =>
        go_wp2_with (go_at_call 10; refine (ArrayOk_eq _ _ _ _ _ _ _ sh dt _ ((((unhide H1).alloc _).alloc _).alloc _) ((((unhide H2).alloc _).alloc _).alloc _) _ HR1).mono ?_; rintro e w1 ⟨rfl, hb1⟩; obtain ⟨B4, B5, B6, hB1⟩ := boxes3 hb1; clear hb1)
        go_meet
        case rel => exact ⟨by rw [unhide HBAD]; rfl, B4, B5, B6, hB1⟩
      | true =>
        cases r2 with
        | false =>
          go_wp2_with (first | (go_at_call_of 10 (Value.slice (some a1) n1 c1); refine (ArrayOk_eq _ _ _ _ _ _ _ sh dt _ ((((unhide H1).alloc _).alloc _).alloc _) ((((unhide H2).alloc _).alloc _).alloc _) _ HR1).mono ?_; rintro e w1 ⟨rfl, hb1⟩; obtain ⟨B4, B5, B6, hB1⟩ := boxes3 hb1; clear hb1; have HB1 := hide hB1; have C4 := hide B4; have C5 := hide B5; have C6 := hide B6; obtain ⟨y0, y1, y2, y3, y4, y5, y6⟩ := B5.all; clear B4 B5 B6 hB1) | (go_at_call_of 10 (Value.slice (some b1) m1 d1); refine (ArrayOk_eq _ _ _ _ _ _ _ sh' dt' _ ((unhide K1).below (Nat.le_refl _) (unhide HB1)) ((unhide K2).below (Nat.le_refl _) (unhide HB1)) _ HR2).mono ?_; rintro e w2 ⟨rfl, hb2⟩))
          go_meet
          case rel => exact ⟨by rw [unhide HBAD]; rfl, (unhide C4).below (Nat.le_refl _) hb2, (unhide C5).below (Nat.le_refl _) hb2, (unhide C6).below (Nat.le_refl _) hb2, (unhide HB1).trans (hb2.mono (unhide HB1).size)⟩
        | true =>
          have h5 : f < 1 ∨ (1 ≤ f ∧ 16 < f) ∨ (1 ≤ f ∧ f ≤ 16 ∧ g < 1) ∨ (1 ≤ f ∧ f ≤ 16 ∧ 1 ≤ g ∧ 16 < g) ∨ (1 ≤ f ∧ f ≤ 16 ∧ 1 ≤ g ∧ g ≤ 16) := by omega
          rcases h5 with hq | ⟨hq0, hq⟩ | ⟨hq0, hq1, hq⟩ | ⟨hq0, hq1, hq2, hq⟩ | ⟨hq0, hq1, hq2, hq⟩
          all_goals
            go_wp2_with (first | (go_at_call_of 10 (Value.slice (some a1) n1 c1); refine (ArrayOk_eq _ _ _ _ _ _ _ sh dt _ ((((unhide H1).alloc _).alloc _).alloc _) ((((unhide H2).alloc _).alloc _).alloc _) _ HR1).mono ?_; rintro e w1 ⟨rfl, hb1⟩; obtain ⟨B4, B5, B6, hB1⟩ := boxes3 hb1; clear hb1; have HB1 := hide hB1; have C4 := hide B4; have C5 := hide B5; have C6 := hide B6; obtain ⟨y0, y1, y2, y3, y4, y5, y6⟩ := B5.all; clear B4 B5 B6 hB1) | (go_at_call_of 10 (Value.slice (some b1) m1 d1); refine (ArrayOk_eq _ _ _ _ _ _ _ sh' dt' _ ((unhide K1).below (Nat.le_refl _) (unhide HB1)) ((unhide K2).below (Nat.le_refl _) (unhide HB1)) _ HR2).mono ?_; rintro e w2 ⟨rfl, hb2⟩))
            go_meet
            case rel => exact ⟨by first | (rw [unhide HBAD, show opIn f = true from decide_eq_true ⟨hq0, hq1⟩, show opIn g = true from decide_eq_true ⟨hq2, hq⟩]; rfl) | (rw [unhide HBAD, show opIn f = true from decide_eq_true ⟨hq0, hq1⟩, show opIn g = true from decide_eq_true ⟨hq2, hq⟩]; simp; omega) | (rw [unhide HBAD]; simp [opIn]; omega), (unhide C4).below (Nat.le_refl _) hb2, (unhide C5).below (Nat.le_refl _) hb2, (unhide C6).below (Nat.le_refl _) hb2, (unhide HB1).trans (hb2.mono (unhide HB1).size)⟩
  case rest =>
    obtain ⟨w1, hw1⟩ : ∃ x, x = wc := ⟨_, rfl⟩
    subst hw1
    obtain ⟨rfl, hB4, hB5, hB6, hB1⟩ := hcut
    have C4 := hide hB4
    have C5 := hide hB5
    have C6 := hide hB6
    have HB1 := hide hB1
    clear hB4 hB5 hB6 hB1
    cases bad with
    | true =>
      have HS : Hid (inner f g c d sh dt sh' dt' = noAns 3) := inner_bad (by
        rintro ⟨e1, e2, e3, e4⟩
        have := unhide HBAD
        rw [← unhide HR1, ← unhide HR2, e1, e2, e3, e4] at this
        simp at this)
      go_wp2_with fail
      refine (l4None_any _).mono ?_
      rintro e w9 ⟨rfl, hb9⟩
      obtain ⟨q0, q1, q2, q3, q4, q5, q6⟩ := ((unhide C6).below (Nat.le_refl _) hb9).all
      have hB9 := hide ((unhide HB1).trans (hb9.mono (unhide HB1).size))
      clear hb9 C4 C5 C6 HB1
      go_wp2
      refine bodyPost_ret (v := .tuple #[.agg #[.bool false, .slice none 0 0, .slice none 0 0], .int .i64 3]) (by simp [results, Tryz.results40, go_sem, q0, q1, q2]) rfl ?_
      rw [unhide HS]
      exact ⟨none, 0, 0, none, 0, 0, rfl, row_nil _ _, row_nil _ _, (((unhide hB9).setCell (by simp <;> omega) _).setCell (by simp <;> omega) _).setCell (by simp <;> omega) _⟩
    | false =>
      have hall : r1 = true ∧ r2 = true ∧ opIn f = true ∧ opIn g = true := by
        have := unhide HBAD
        simpa using this.symm
      obtain ⟨rfl, rfl, hf, hg⟩ := hall
      have HOF := hide hf
      have HOG := hide hg
      have HGO := hide (inner_go (unhide HR1) (unhide HR2) hf hg)
      have HIN1 := hide (shapeIn_of (unhide HR1)).1
      have HIN2 := hide (shapeIn_of (unhide HR2)).1
      have hNb := innN_bd (unhide HIN1) (unhide HIN2)
      obtain ⟨N, hN⟩ : ∃ N : Nat, innN sh sh' = N := ⟨(innN sh sh').toNat, by omega⟩
      rw [hN] at hNb
      obtain ⟨hNb0, hNb1⟩ := hNb
      have hN10 : N ≤ 10000 := by omega
      have HNN := hide hN
      have HFIRST : Hid (axisN (stSh (N : Int) sh') true = (N : Int)) := by have := axisN_first (sh := sh) (sh' := sh'); rw [hN] at this; exact this
      have HGN : Hid (inner f g c d sh dt sh' dt' = innCore f g c d (stSh (N : Int) sh) (stDt (N : Int) sh dt) (stSh (N : Int) sh') (stDt (N : Int) sh' dt') (N : Int)) := by have := unhide HGO; rw [hN] at this; exact this
      clear hN hf hg HBAD HGO hNb0 hNb1
      obtain ⟨x0, x1, x2, x3, x4, x5, x6⟩ := (unhide C4).all
      obtain ⟨y0, y1, y2, y3, y4, y5, y6⟩ := (unhide C5).all
      go_upto_if 56 with fail
      go_cut [10] (fun v wx => w1 = wx ∧ v = .int .i64 (N : Nat))
      case first =>
        as_aux_lemma =>
          have e0 : innN sh sh' = N := unhide HNN
          unfold innN at e0
          by_cases hm0 : m1 = 0
          · have e1 : sh' = [] := List.length_eq_zero_iff.mp ((unhide hl3).trans hm0)
            rw [if_pos e1] at e0
            by_cases hn0 : n1 = 0
            · have e2 : sh = [] := List.length_eq_zero_iff.mp ((unhide hl1).trans hn0)
              rw [if_pos e2] at e0
              have hm0' : ¬ ((0 : Int) < (m1 : Int)) := by omega
              have hn0' : ¬ ((0 : Int) < (n1 : Int)) := by omega
              have E0 := hide e0
              clear e0 hm0 hn0
              go_wp2
              go_meet
              case rel => exact ⟨rfl, by rw [← unhide E0]⟩
            · have e2 : sh ≠ [] := fun e => hn0 (by rw [← unhide hl1, e]; rfl)
              rw [if_neg e2] at e0
              obtain ⟨k, hk⟩ : ∃ k, n1 = k + 1 := ⟨n1 - 1, by omega⟩
              have hkn : (n1 : Int) - 1 = (k : Int) := by omega
              have hk1 : k < n1 := by omega
              obtain ⟨bb, ob, hab, hblt, hc⟩ := (unhide H1).get hk1
              cases hab
              have hc' := ((unhide HB1).cell (p := ⟨bb, ob + k, none⟩) hblt).trans hc
              rw [unhide hl1, hk, Nat.add_sub_cancel] at e0
              rw [e0] at hc'
              have hm0' : ¬ ((0 : Int) < (m1 : Int)) := by omega
              have hn0' : (0 : Int) < (n1 : Int) := by omega
              clear e0 hm0 hn0 hk hc
              go_wp2
              go_meet
              case rel => exact ⟨rfl, rfl⟩
          · have e1 : sh' ≠ [] := fun e => hm0 (by rw [← unhide hl3, e]; rfl)
            rw [if_neg e1] at e0
            obtain ⟨bb, ob, hab, hblt, hc⟩ := (unhide K1).get (show 0 < m1 by omega)
            cases hab
            have hc' := ((unhide HB1).cell (p := ⟨bb, ob + 0, none⟩) hblt).trans hc
            rw [e0] at hc'
            rw [Nat.add_zero] at hc'
            have hm0' : (0 : Int) < (m1 : Int) := by omega
            clear e0 hm0 hc
            go_wp2
            go_meet
            case rel => exact ⟨rfl, rfl⟩
      case rest =>
        obtain ⟨rfl, rfl⟩ := hcut
        have hO1 := hide (st_ok (unhide HR1) (Int.natCast_nonneg N) (by omega : (N : Int) ≤ 10000))
        have hO2 := hide (st_ok (unhide HR2) (Int.natCast_nonneg N) (by omega : (N : Int) ≤ 10000))
        have hD1 : Hid (sh = [] → 0 < n2) := fun e => by
          have := (shapeIn_of (unhide HR1)).2.1
          rw [e, unhide hl2] at this
          simp [prodAll] at this
          omega
        have hD2 : Hid (sh' = [] → 0 < m2) := fun e => by
          have := (shapeIn_of (unhide HR2)).2.1
          rw [e, unhide hl4] at this
          simp [prodAll] at this
          omega
        go_upto_region 8 with fail
        go_cut [] (fun wx => ∃ a1' p1 e1 a2' p2 e2, Box wx w.heap.size c (.slice (some a1') p1 e1) (.slice (some a2') p2 e2) ∧ Box wx (w.heap.size + 1) d (.slice (some b1) m1 d1) (.slice (some b2) m2 d2) ∧ Box wx (w.heap.size + 2) false (.slice none 0 0) (.slice none 0 0) ∧ Row wx (some a1') p1 (stSh N sh) ∧ Row wx (some a2') p2 (stDt N sh dt) ∧ p1 ≤ e1 ∧ Below w.heap.size w wx)
        case first =>
          as_aux_lemma =>
            go_wp2_with (go_at_call 103; refine (l4Stretch_any c a1 a2 n1 n2 c1 c2 N sh dt _ ((unhide H1).below (Nat.le_refl _) (unhide HB1)) ((unhide H2).below (Nat.le_refl _) (unhide HB1)) hc1 hN10 (unhide hD1)).mono ?_; rintro e w2 ⟨a1', p1, e1, a2', p2, e2, rfl, hr1, hr2, hpe, hb2⟩; have C4' := (unhide C4).below (Nat.le_refl _) hb2; have C5' := (unhide C5).below (Nat.le_refl _) hb2; have C6' := (unhide C6).below (Nat.le_refl _) hb2; obtain ⟨v0, v1, v2, v3, v4, v5, v6⟩ := C4'.all; have HB2 := hide ((unhide HB1).trans (hb2.mono (unhide HB1).size)); have HR1' := hide hr1; have HR2' := hide hr2; have D4 := hide C4'; have D5 := hide C5'; have D6 := hide C6'; clear hb2 hr1 hr2 C4' C5' C6')
            go_meet
            case rel => exact ⟨a1', p1, e1, a2', p2, e2, (unhide D4).sets, (((unhide D5).other (by simp) _).other (by simp) _).other (by simp) _, (((unhide D6).other (by simp) _).other (by simp) _).other (by simp) _, (unhide HR1').sets (unhide D4) _ _ _, (unhide HR2').sets (unhide D4) _ _ _, hpe, (((unhide HB2).setCell (by simp) _).setCell (by simp) _).setCell (by simp) _⟩
        case rest =>
          clear x0 x1 x2 x3 x4 x5 x6 y0 y1 y2 y3 y4 y5 y6 C4 C5 C6 HB1
          obtain ⟨w2, hw2⟩ : ∃ x, x = wc := ⟨_, rfl⟩
          subst hw2
          obtain ⟨a1', p1, e1, a2', p2, e2, hB4, hB5, hB6, hR1, hR2, hpe, hB2⟩ := hcut
          have C4 := hide hB4
          have C5 := hide hB5
          have C6 := hide hB6
          have HB2 := hide hB2
          have HX1 := hide hR1
          have HX2 := hide hR2
          clear hB4 hB5 hB6 hB2 hR1 hR2
          obtain ⟨y0, y1, y2, y3, y4, y5, y6⟩ := (unhide C5).all
          go_upto_region 9 with fail
          go_cut [] (fun wx => ∃ b1' q1 f1 b2' q2 f2, Box wx w.heap.size c (.slice (some a1') p1 e1) (.slice (some a2') p2 e2) ∧ Box wx (w.heap.size + 1) d (.slice (some b1') q1 f1) (.slice (some b2') q2 f2) ∧ Box wx (w.heap.size + 2) false (.slice none 0 0) (.slice none 0 0) ∧ Row wx (some a1') p1 (stSh N sh) ∧ Row wx (some a2') p2 (stDt N sh dt) ∧ Row wx (some b1') q1 (stSh N sh') ∧ Row wx (some b2') q2 (stDt N sh' dt') ∧ q1 ≤ f1 ∧ Below w.heap.size w wx)
          case first =>
            as_aux_lemma =>
              go_wp2_with (go_at_call 103; refine (l4Stretch_any d b1 b2 m1 m2 d1 d2 N sh' dt' _ ((unhide K1).below (Nat.le_refl _) (unhide HB2)) ((unhide K2).below (Nat.le_refl _) (unhide HB2)) hd1 hN10 (unhide hD2)).mono ?_; rintro e w3 ⟨b1', q1, f1, b2', q2, f2, rfl, hr1, hr2, hqf, hb3⟩; have C4' := (unhide C4).below (Nat.le_refl _) hb3; have C5' := (unhide C5).below (Nat.le_refl _) hb3; have C6' := (unhide C6).below (Nat.le_refl _) hb3; obtain ⟨v0, v1, v2, v3, v4, v5, v6⟩ := C5'.all; have HB3 := hide ((unhide HB2).trans (hb3.mono (unhide HB2).size)); have HR1' := hide hr1; have HR2' := hide hr2; have HY1 := hide ((unhide HX1).below (Nat.le_refl _) hb3); have HY2 := hide ((unhide HX2).below (Nat.le_refl _) hb3); have D4 := hide C4'; have D5 := hide C5'; have D6 := hide C6'; clear hb3 hr1 hr2 C4' C5' C6')
              go_meet
              case rel => exact ⟨b1', q1, f1, b2', q2, f2, (((unhide D4).other (by simp) _).other (by simp) _).other (by simp) _, (unhide D5).sets, (((unhide D6).other (by simp) _).other (by simp) _).other (by simp) _, (unhide HY1).sets (unhide D5) _ _ _, (unhide HY2).sets (unhide D5) _ _ _, (unhide HR1').sets (unhide D5) _ _ _, (unhide HR2').sets (unhide D5) _ _ _, hqf, (((unhide HB3).setCell (by simp) _).setCell (by simp) _).setCell (by simp) _⟩
          case rest =>
            clear y0 y1 y2 y3 y4 y5 y6 C4 C5 C6 HB2 HX1 HX2
            obtain ⟨W, hWe⟩ : ∃ x, x = wc := ⟨_, rfl⟩
            subst hWe
            obtain ⟨b1', q1, f1, b2', q2, f2, hB4, hB5, hB6, hR1, hR2, hS1, hS2, hqf, hBW⟩ := hcut
            obtain ⟨s, hse⟩ : ∃ s, s = stSh (N : Int) sh := ⟨_, rfl⟩
            obtain ⟨x, hxe⟩ : ∃ x, x = stDt (N : Int) sh dt := ⟨_, rfl⟩
            obtain ⟨s', hse'⟩ : ∃ s, s = stSh (N : Int) sh' := ⟨_, rfl⟩
            obtain ⟨y, hye⟩ : ∃ x, x = stDt (N : Int) sh' dt' := ⟨_, rfl⟩
            have hne : s ≠ [] := by rw [hse]; exact stSh_ne _ _
            have hne' : s' ≠ [] := by rw [hse']; exact stSh_ne _ _
            have HFI := unhide HFIRST
            have HGN' := unhide HGN
            rw [← hse, ← hxe, ← hse', ← hye] at HGN'
            rw [← hse'] at HFI
            rw [← hse] at hR1
            rw [← hxe] at hR2
            rw [← hse'] at hS1
            rw [← hye] at hS2
            have hok1 := unhide hO1
            have hok2 := unhide hO2
            rw [← hse, ← hxe] at hok1
            rw [← hse', ← hye] at hok2
            clear hse hxe hse' hye HFIRST HGN hO1 hO2 HNN HIN1 HIN2 hD1 hD2 H1 H2 K1 K2 hl1 hl2 hl3 hl4 HR1 HR2 hs1 hs2 hs3 hs4 hc1 hd1
            have HGN := hide HGN'
            have C4 := hide hB4
            have C5 := hide hB5
            have C6 := hide hB6
            have HBW := hide hBW
            have HX1 := hide hR1
            have HX2 := hide hR2
            have HY1 := hide hS1
            have HY2 := hide hS2
            have HOK1 := hide hok1
            have HOK2 := hide hok2
            obtain ⟨hsin, hsp, hs5⟩ := shapeIn_of hok1
            obtain ⟨hsin', hsp', hs5'⟩ := shapeIn_of hok2
            have HSI := hide hsin
            have HSI' := hide hsin'
            have hlx := hR2.len
            have hly := hS2.len
            have hls := hR1.len
            have hls' := hS1.len
            obtain ⟨B, L, A1, ⟨hB, hL, hA1⟩, hprod, hBb, hLb, _⟩ := inn_axes false hok1 hne
            obtain ⟨B2, L2, A, ⟨hB2, hL2, hA⟩, hprod', _, hL2b, hAb⟩ := inn_axes true hok2 hne'
            have hA1e : A1 = 1 := by have := axisA_last hne; omega
            have hB2e : B2 = 1 := by have := axisB_first s'; omega
            have hL2e : L2 = N := by omega
            subst hA1e hB2e hL2e
            have hp1 : 0 < p1 := by rw [← hls]; exact List.length_pos_iff.mpr hne
            have hq1 : 0 < q1 := by rw [← hls']; exact List.length_pos_iff.mpr hne'
            have hxl : x.length ≤ 10000 := by have := hsin.bd; omega
            have hyl : y.length ≤ 10000 := by have := hsin'.bd; omega
            have hp2 : p2 ≤ 10000 := by omega
            have hq2 : q2 ≤ 10000 := by omega
            have hp5 : p1 ≤ 5 := by omega
            have hq5 : q1 ≤ 5 := by omega
            obtain ⟨t, ht⟩ : ∃ t, p1 = t + 1 := ⟨p1 - 1, by omega⟩
            have htn : (p1 : Int) - 1 = (t : Int) := by omega
            have htl : t < p1 := by omega
            obtain ⟨ba, oa, haa, hblt, hct⟩ := hR1.get htl
            cases haa
            have hLt : s.getD t 0 = (L : Int) := by rw [← hL]; simp [axisN, axisAt, hls, ht]
            rw [hLt] at hct
            obtain ⟨bb, ob, hab, _, _⟩ := hS1.get hq1
            cases hab
            have HAX : Hid (axisB s false = (B : Int) ∧ axisN s false = (L : Int) ∧ axisA s false = ((1 : Nat) : Int)) := ⟨hB, hL, hA1⟩
            have HAX' : Hid (axisB s' true = ((1 : Nat) : Int) ∧ axisN s' true = (L2 : Int) ∧ axisA s' true = (A : Int)) := ⟨hB2, hL2, hA⟩
            obtain ⟨x0, x1, x2, x3, x4, x5, x6⟩ := hB4.all
            clear hB4 hB5 hB6 hBW hR1 hR2 hS1 hS2 hok1 hok2 hsin hsin' HGN' HFI hsp hsp' hs5 hs5' hB hL hA1 hB2 hL2 hA hLt ht hls hls' hxl hyl
            by_cases hLN : L = L2
            · subst hLN
              have hLq : ((L : Int) != (L : Int)) = false := by simp
              obtain ⟨y0, y1, y2, y3, y4, y5, y6⟩ := (unhide C5).all
              obtain ⟨zs, hzs⟩ : ∃ zs, zs = without s false ++ without s' true := ⟨_, rfl⟩
              obtain ⟨sb, hsb⟩ : ∃ r, shapeB zs = r := ⟨_, rfl⟩
              have HSB : Hid (shapeB (without s false ++ without s' true) = sb) := by rw [← hzs]; exact hsb
              have HSBz := hide hsb
              have HZS := hide hzs
              clear hzs hsb
              go_upto_region 12 with fail
              go_cut [11, 12] (fun v11 v12 wx => ∃ ash csh, v11 = .slice ash (p1 - 1 + (q1 - 1)) csh ∧ v12 = .bool sb ∧ Own wx W.heap.size ash (p1 - 1 + (q1 - 1)) zs ∧ Below W.heap.size W wx)
              case first =>
                as_aux_lemma =>
                  have HKEEP : ∀ wx, Below W.heap.size W wx → Below W.heap.size W wx ∧ wx.cell? ⟨w.heap.size, 1, none⟩ = some (.slice (some ⟨ba, oa, none⟩) p1 e1) ∧ wx.cell? ⟨w.heap.size + 1, 1, none⟩ = some (.slice (some ⟨bb, ob, none⟩) q1 f1) := fun wx hwx => ⟨hwx, ((unhide C4).below (Nat.le_refl _) hwx).cells.2.1, ((unhide C5).below (Nat.le_refl _) hwx).cells.2.1⟩
                  go_region_held (fun wx => Below W.heap.size W wx ∧ wx.cell? ⟨w.heap.size, 1, none⟩ = some (.slice (some ⟨ba, oa, none⟩) p1 e1) ∧ wx.cell? ⟨w.heap.size + 1, 1, none⟩ = some (.slice (some ⟨bb, ob, none⟩) q1 f1)) (first | (refine HKEEP _ ?_; repeat (first | exact hKC | exact hKB | exact hKA | exact Below.refl _ _ | refine Below.drew ?_)))
                    (first
                    | (go_at_call_of 105 (Value.slice (some ⟨ba, oa, none⟩) p1 e1); refine (l4Without_some ba oa p1 e1 s false _ ((unhide HX1).below (Nat.le_refl _) (by repeat (first | exact hKB | exact Below.refl _ _ | refine Below.drew ?_))) hp1 hpe).mono ?_; rintro e wA ⟨ga, ca, rfl, hOA, hbA⟩; have hKA : Below W.heap.size W wA := (by refine Below.trans ?_ (hbA.mono (by first | exact hKB.size | (simp <;> omega))); repeat (first | exact hKB | exact Below.refl _ _ | refine Below.drew ?_)); (first | have hOB' := hOB.below (Nat.le_refl _) hbA | skip))
                    | (go_at_call_of 105 (Value.slice (some ⟨bb, ob, none⟩) q1 f1); refine (l4Without_some bb ob q1 f1 s' true _ ((unhide HY1).below (Nat.le_refl _) (by repeat (first | exact hKA | exact Below.refl _ _ | refine Below.drew ?_))) hq1 hqf).mono ?_; rintro e wB ⟨gb, cb, rfl, hOB, hbB⟩; have hKB : Below W.heap.size W wB := (by refine Below.trans ?_ (hbB.mono (by first | exact hKA.size | (simp <;> omega))); repeat (first | exact hKA | exact Below.refl _ _ | refine Below.drew ?_)); (first | have hOA' := hOA.below (Nat.le_refl _) hbB | skip))
                    | (go_at_call 104; refine (l4Joined_any _ _ _ _ _ _ (without s false) (without s' true) _ (by first | exact hOA'.row | exact hOA.row) (by first | exact hOB'.row | exact hOB.row) (by omega) (by omega) sb HSB).mono ?_; rintro e wC ⟨ash, csh, rfl, hOC, hbC⟩; have hKC : Below W.heap.size W wC := (by first | exact hKB.trans (hbC.mono hKB.size) | exact hKA.trans (hbC.mono hKA.size)); have hOC' : Own wC W.heap.size ash (p1 - 1 + (q1 - 1)) (without s false ++ without s' true) := hOC.mono (by first | exact hKB.size | exact hKA.size)))
                  all_goals go_wp2_with fail
                  all_goals (go_meet; case rel => exact ⟨ash, csh, rfl, rfl, by rw [unhide HZS]; exact hOC', hKC⟩)
              case rest =>
                obtain ⟨w3, hw3⟩ : ∃ x, x = wc := ⟨_, rfl⟩
                subst hw3
                obtain ⟨ash, csh, rfl, rfl, hOJ, hb3⟩ := hcut
                have D6 := hide ((unhide C6).below (Nat.le_refl _) hb3)
                have HB3 := hide hb3
                have HOJ := hide hOJ
                have hBWz := (unhide HBW).size
                have HB3W := hide ((unhide HBW).trans (hb3.mono hBWz))
                have hz4 := (unhide C4).lt
                have hz5 := (unhide C5).lt
                have hz6 := (unhide C6).lt
                have HP1 := hide hprod
                have HP2 := hide hprod'
                have hall1 : B * L * 1 = p2 := hprod.trans hlx
                have hall2 : 1 * L * A = q2 := hprod'.trans hly
                have HALL1 := hide hall1
                have HALL2 := hide hall2
                clear hb3 hOJ x0 x1 x2 x3 x4 x5 x6 y0 y1 y2 y3 y4 y5 y6 hprod hprod' hall1 hall2
                cases sb with
                | false =>
                  have HS : Hid (inner f g c d sh dt sh' dt' = noAns 7) := by
                    show _ = _
                    rw [unhide HGN]
                    unfold innCore
                    rw [if_neg (by rw [(unhide HAX).2.1]; simp), if_pos (by rw [← unhide HZS]; exact unhide HSBz)]
                  go_wp2_with fail
                  refine (l4None_any _).mono ?_
                  rintro e w9 ⟨rfl, hb9⟩
                  obtain ⟨q0, q1, q2, q3, q4, q5, q6⟩ := ((unhide D6).below (Nat.le_refl _) hb9).all
                  have hB9 := hide ((unhide HB3W).trans (hb9.mono (unhide HB3W).size))
                  clear hb9 D6 C4 C5 C6 HB3 HB3W HOJ
                  go_wp2
                  refine bodyPost_ret (v := .tuple #[.agg #[.bool false, .slice none 0 0, .slice none 0 0], .int .i64 7]) (by simp [results, Tryz.results40, go_sem, q0, q1, q2]) rfl ?_
                  rw [unhide HS]
                  exact ⟨none, 0, 0, none, 0, 0, rfl, row_nil _ _, row_nil _ _, (((unhide hB9).setCell (by simp <;> omega) _).setCell (by simp <;> omega) _).setCell (by simp <;> omega) _⟩
                | true =>
                  obtain ⟨F, hF⟩ : ∃ F, F = innEl f g c d x y L A := ⟨_, rfl⟩
                  have HG2 : Hid (inner f g c d sh dt sh' dt' = gatherAns false zs F (B * A)) := by
                    show _ = _
                    rw [unhide HGN]
                    unfold innCore
                    rw [if_neg (by rw [(unhide HAX).2.1]; simp), if_neg (by rw [← unhide HZS, unhide HSBz]; simp), ← unhide HZS, (unhide HAX').2.2, (unhide HAX).1, Int.toNat_natCast, Int.toNat_natCast, Int.toNat_natCast, hF]
                  have HAO1 : Hid (∀ P, P < B → arrOk c [(L : Int)] (lineOf x P L 1 0) = true) := fun P hP => line_ok (unhide HOK1) (unhide HP1) hP (by omega) hLb
                  have HAO2 : Hid (∀ Q, Q < A → arrOk d [(L : Int)] (lineOf y 0 L A Q) = true) := fun Q hQ => line_ok (unhide HOK2) (unhide HP2) (by omega) hQ hLb
                  have HFK : Hid (∀ P Q (z : Ans), P < B → Q < A → z = scalar2 g c d [(L : Int)] (lineOf x P L 1 0) [(L : Int)] (lineOf y 0 L A Q) → F (P * A + Q) = if z.code = 0 then foldR f z.dt else (0, z.code)) := by
                    intro P Q z hP hQ hz
                    have e1 : (P * A + Q) / A = P := by rw [Nat.mul_comm, Nat.mul_add_div (by omega), Nat.div_eq_of_lt hQ, Nat.add_zero]
                    have e2 : (P * A + Q) % A = Q := by rw [Nat.mul_comm, Nat.mul_add_mod, Nat.mod_eq_of_lt hQ]
                    rw [hF]
                    refine innEl_eq hLb ?_ ?_ (unhide HOG) z ?_
                    · rw [e1]; exact unhide HAO1 P hP
                    · rw [e2]; exact unhide HAO2 Q hQ
                    · rw [e1, e2]; exact hz
                  clear hF HGN HSB HSBz HZS HP1 HP2 HOK1 HOK2
                  go_upto_region 15 with fail
                  go_cut [13] (fun r wx => Laid W false (p1 - 1 + (q1 - 1)) zs r wx)
                  case first =>
                    as_aux_lemma =>
                      go_wp2_with fail
                      go_meet
                      case rel => exact laid_cbz (unhide HOJ) (unhide HB3)
                  case rest =>
                    clear HOJ HB3 HB3W D6
                    obtain ⟨w4, hw4⟩ : ∃ x, x = wc := ⟨_, rfl⟩
                    subst hw4
                    obtain ⟨p, g0, ash', csh', rfl, hbx, hblk, hO, hb4, hp, hg, hne⟩ := hcut
                    have hst0 := hide (Stage.start F hbx hblk hO hb4 hp hg hne)
                    clear hbx hblk hO hb4 hg hne
                    obtain ⟨x0, x1, x2, x3, x4, x5, x6⟩ := ((unhide C4).low hz4 (unhide hst0).low).all
                    go_wp2_with fail
                    refine (l4Axis_any _ _ _ s false _ ((unhide HX1).below (Nat.le_refl _) (unhide hst0).low) (unhide HSI) hp1).mono ?_
                    rw [(unhide HAX).1, (unhide HAX).2.1, (unhide HAX).2.2]
                    rintro e w5 ⟨rfl, hb5⟩
                    have hst1 := hide ((unhide hst0).below hb5)
                    clear hb5 hst0 x0 x1 x2 x3 x4 x5 x6
                    obtain ⟨y0, y1, y2, y3, y4, y5, y6⟩ := ((unhide C5).low hz5 (unhide hst1).low).all
                    go_wp2_with fail
                    refine (l4Axis_any _ _ _ s' true _ ((unhide HY1).below (Nat.le_refl _) (unhide hst1).low) (unhide HSI') hq1).mono ?_
                    rw [(unhide HAX').1, (unhide HAX').2.1, (unhide HAX').2.2]
                    rintro e w6 ⟨rfl, hb6⟩
                    have hst2 := hide ((unhide hst1).below hb6)
                    clear hb6 hst1 y0 y1 y2 y3 y4 y5 y6 HSI HSI' HAX HAX' HX1 HY1
                    obtain ⟨i0, hi, hz0, hz1, hz2⟩ := info_parts info_int
                    go_wp2_with fail
                    go_loopw [20] (fun i wr => ∃ P gg cap, P ≤ B ∧ i = .int .i64 (P : Nat) ∧ Hid (Stage W p false ash' (p1 - 1 + (q1 - 1)) csh' zs F (P * A) wr gg cap)) (fun i _ => B - (intOf i).toNat)
                    case atStart =>
                      refine ⟨0, g0, 0, Nat.zero_le _, rfl, ?_⟩
                      rw [Nat.zero_mul]
                      exact hst2
                    case round =>
                      as_aux_lemma =>
                        obtain ⟨P, gg, cap, hP, rfl, hst⟩ := hrel
                        clear hst2
                        by_cases hlt : P < B
                        · go_wp2_with fail
                          go_loopw [21] (fun i wx => ∃ Q gg cap, Q ≤ A ∧ i = .int .i64 (Q : Nat) ∧ Hid (Stage W p false ash' (p1 - 1 + (q1 - 1)) csh' zs F (P * A + Q) wx gg cap)) (fun i _ => A - (intOf i).toNat)
                          case atStart => exact ⟨0, gg, cap, Nat.zero_le _, rfl, hst⟩
                          case round =>
                            as_aux_lemma =>
                              clear hst
                              obtain ⟨Q, gg, cap, hQ, rfl, hst⟩ := hrel
                              by_cases hqlt : Q < A
                              · obtain ⟨wy, hwy⟩ : ∃ x, x = wr := ⟨_, rfl⟩
                                subst hwy
                                have E4 := hide ((unhide C4).low hz4 (unhide hst).low)
                                have hylt := (unhide hst).low.size
                                obtain ⟨z, hz⟩ : ∃ z, z = scalar2 g c d [(L : Int)] (lineOf x P L 1 0) [(L : Int)] (lineOf y 0 L A Q) := ⟨_, rfl⟩
                                have hFQ := unhide HFK P Q z hlt hqlt hz
                                have hZB : ∀ k, -1000000000000000 ≤ z.dt.getD k 0 ∧ z.dt.getD k 0 ≤ 1000000000000000 := fun k => by rw [hz]; exact scalar2_bd hLb (unhide HAO1 P hlt) (unhide HAO2 Q hqlt) (unhide HOG) (line_len _ _ _ _ _) (line_len _ _ _ _ _) k
                                obtain ⟨zch, zsh, zdt, zcode⟩ := z
                                have HZ := hide hz
                                have HFQ : Hid (F (P * A + Q) = if zcode = 0 then foldR f zdt else (0, zcode)) := hFQ
                                have HZB : Hid (∀ k, -1000000000000000 ≤ zdt.getD k 0 ∧ zdt.getD k 0 ≤ 1000000000000000) := hZB
                                clear hz hFQ hZB
                                have HL1 : Hid (∀ wx, Below wy.heap.size wy wx → Calls Tryz.prog 107 #[.agg #[.bool c, .slice (some ⟨ba, oa, none⟩) p1 e1, .slice (some a2') p2 e2], .int .i64 (P : Nat), .int .i64 (L : Nat), .int .i64 1, .int .i64 0] wx fun e w' => ∃ g cap', e = .returned (.slice (some ⟨g, 0, none⟩) L cap') ∧ Own w' wx.heap.size (some ⟨g, 0, none⟩) L (lineOf x P L 1 0) ∧ Below wx.heap.size wx w' ∧ L ≤ cap') := fun wx hwx =>
                                  l4Line_some c _ (some a2') p2 e2 P L 1 0 x wx ((unhide HX2).below (Nat.le_refl _) ((unhide hst).low.trans (hwx.mono hylt))) (fun i hi => line_in (unhide HALL1) hlt (by omega) hi) (by omega) hLb (by omega) (by omega) hp2
                                go_upto_region 24 with fail
                                go_cut [22] (fun r wx => LaidX wy c L (lineOf x P L 1 0) r wx)
                                case first =>
                                  as_aux_lemma =>
                                    have HKEEP : ∀ wx, Below wy.heap.size wy wx → Below wy.heap.size wy wx ∧ wx.cell? ⟨w.heap.size, 0, none⟩ = some (.bool c) ∧ wx.cell? ⟨w.heap.size, 1, none⟩ = some (.slice (some ⟨ba, oa, none⟩) p1 e1) ∧ wx.cell? ⟨w.heap.size, 2, none⟩ = some (.slice (some a2') p2 e2) := fun wx hwx => ⟨hwx, ((unhide E4).below (Nat.le_refl _) hwx).cells⟩
                                    go_region_held (fun wx => Below wy.heap.size wy wx ∧ wx.cell? ⟨w.heap.size, 0, none⟩ = some (.bool c) ∧ wx.cell? ⟨w.heap.size, 1, none⟩ = some (.slice (some ⟨ba, oa, none⟩) p1 e1) ∧ wx.cell? ⟨w.heap.size, 2, none⟩ = some (.slice (some a2') p2 e2)) (first | (refine HKEEP _ ?_; first | exact hKA | exact (Below.refl _ _).drew | (repeat (first | exact hKA | exact Below.refl _ _ | refine Below.drew ?_ | refine Below.alloc ?_ (by first | omega | (simp <;> omega)) _ | refine Below.setCell ?_ (by first | omega | (simp <;> omega)) _))))
                                      (first
                                      | (go_at_call 107; go_loud (refine ((unhide HL1) _ (by repeat (first | exact Below.refl _ _ | refine Below.drew ?_ | refine Below.alloc ?_ (by first | omega | (simp <;> omega)) _))).mono ?_); rintro e wA ⟨gA, cA, rfl, hOA, hbA, _⟩; go_loud (have hKA : Below wy.heap.size wy wA := (by refine Below.trans ?_ (hbA.mono (by first | omega | (simp <;> omega))); repeat (first | exact Below.refl _ _ | refine Below.drew ?_ | refine Below.alloc ?_ (by first | omega | (simp <;> omega)) _))); have hsA := hKA.size; (first | (have hP5 := (Box.new _ _ _ _).drew.below (Nat.le_refl _) hbA; obtain ⟨t0, t1, t2, t3, t4, t5, t6⟩ := hP5.free'; (try simp at t0 t1 t2 t3 t4 t5 t6)) | (have hP5 := ((Box.new _ _ _ _).alloc _).drew.below (Nat.le_refl _) hbA; obtain ⟨t0, t1, t2, t3, t4, t5, t6⟩ := hP5.free'; (try simp at t0 t1 t2 t3 t4 t5 t6)) | skip); (first | have hQ5 := (Blk.one _ _).drew.below (Nat.le_refl _) hbA | have hQ5 := ((Blk.one _ _).alloc _).drew.below (Nat.le_refl _) hbA | skip)))
                                    all_goals go_wp2_with fail
                                    all_goals have HOW := hOA.row
                                    all_goals (go_meet; case rel => first
                                      | with_reducible exact lx_cbz HOW hKA
                                      | with_reducible exact lx_czb HOW hKA
                                      | with_reducible exact lx_bcz HOW hKA hQ5
                                      | with_reducible exact lx_zc HOW hKA (by simpa using hP5) (by first | exact Nat.le_refl _ | omega) (by simpa using hQ5)
                                      | with_reducible exact lx_zcb HOW hKA (by simpa using hP5) (by first | exact Nat.le_refl _ | omega))
                                case rest =>
                                  clear E4 HL1
                                  obtain ⟨wX, hwX⟩ : ∃ x, x = wc := ⟨_, rfl⟩
                                  subst hwX
                                  obtain ⟨px, sx, gx, cx, rfl, hbX, hrX1, hrX2, hbX'⟩ := hcut
                                  have hstX := hide ((unhide hst).below hbX')
                                  have HbX := hide hbX
                                  have HrX1 := hide hrX1
                                  have HrX2 := hide hrX2
                                  clear hbX hrX1 hrX2 hbX' hst hylt
                                  have E5 := hide ((unhide C5).low hz5 (unhide hstX).low)
                                  have hylt := (unhide hstX).low.size
                                  have HL2 : Hid (∀ wx, Below wX.heap.size wX wx → Calls Tryz.prog 107 #[.agg #[.bool d, .slice (some ⟨bb, ob, none⟩) q1 f1, .slice (some b2') q2 f2], .int .i64 0, .int .i64 (L : Nat), .int .i64 (A : Nat), .int .i64 (Q : Nat)] wx fun e w' => ∃ g cap', e = .returned (.slice (some ⟨g, 0, none⟩) L cap') ∧ Own w' wx.heap.size (some ⟨g, 0, none⟩) L (lineOf y 0 L A Q) ∧ Below wx.heap.size wx w' ∧ L ≤ cap') := fun wx hwx =>
                                    l4Line_some d _ (some b2') q2 f2 0 L A Q y wx ((unhide HY2).below (Nat.le_refl _) ((unhide hstX).low.trans (hwx.mono hylt))) (fun i hi => line_in (unhide HALL2) (by omega) hqlt hi) (by omega) hLb hAb (by omega) hq2
                                  go_upto_region 25 with fail
                                  go_cut [23] (fun r wx => LaidX wX d L (lineOf y 0 L A Q) r wx)
                                  case first =>
                                    as_aux_lemma =>
                                      have HKEEP : ∀ wx, Below wX.heap.size wX wx → Below wX.heap.size wX wx ∧ wx.cell? ⟨w.heap.size + 1, 0, none⟩ = some (.bool d) ∧ wx.cell? ⟨w.heap.size + 1, 1, none⟩ = some (.slice (some ⟨bb, ob, none⟩) q1 f1) ∧ wx.cell? ⟨w.heap.size + 1, 2, none⟩ = some (.slice (some b2') q2 f2) := fun wx hwx => ⟨hwx, ((unhide E5).below (Nat.le_refl _) hwx).cells⟩
                                      go_region_held (fun wx => Below wX.heap.size wX wx ∧ wx.cell? ⟨w.heap.size + 1, 0, none⟩ = some (.bool d) ∧ wx.cell? ⟨w.heap.size + 1, 1, none⟩ = some (.slice (some ⟨bb, ob, none⟩) q1 f1) ∧ wx.cell? ⟨w.heap.size + 1, 2, none⟩ = some (.slice (some b2') q2 f2)) (first | (refine HKEEP _ ?_; first | exact hKA | exact (Below.refl _ _).drew | (repeat (first | exact hKA | exact Below.refl _ _ | refine Below.drew ?_ | refine Below.alloc ?_ (by first | omega | (simp <;> omega)) _ | refine Below.setCell ?_ (by first | omega | (simp <;> omega)) _))))
                                        (first
                                        | (go_at_call 107; go_loud (refine ((unhide HL2) _ (by repeat (first | exact Below.refl _ _ | refine Below.drew ?_ | refine Below.alloc ?_ (by first | omega | (simp <;> omega)) _))).mono ?_); rintro e wA ⟨gA, cA, rfl, hOA, hbA, _⟩; go_loud (have hKA : Below wX.heap.size wX wA := (by refine Below.trans ?_ (hbA.mono (by first | omega | (simp <;> omega))); repeat (first | exact Below.refl _ _ | refine Below.drew ?_ | refine Below.alloc ?_ (by first | omega | (simp <;> omega)) _))); have hsA := hKA.size; (first | (have hP5 := (Box.new _ _ _ _).drew.below (Nat.le_refl _) hbA; obtain ⟨t0, t1, t2, t3, t4, t5, t6⟩ := hP5.free'; (try simp at t0 t1 t2 t3 t4 t5 t6)) | (have hP5 := ((Box.new _ _ _ _).alloc _).drew.below (Nat.le_refl _) hbA; obtain ⟨t0, t1, t2, t3, t4, t5, t6⟩ := hP5.free'; (try simp at t0 t1 t2 t3 t4 t5 t6)) | skip); (first | have hQ5 := (Blk.one _ _).drew.below (Nat.le_refl _) hbA | have hQ5 := ((Blk.one _ _).alloc _).drew.below (Nat.le_refl _) hbA | skip)))
                                      all_goals go_wp2_with fail
                                      all_goals have HOW := hOA.row
                                      all_goals (go_meet; case rel => first
                                        | with_reducible exact lx_cbz HOW hKA
                                        | with_reducible exact lx_czb HOW hKA
                                        | with_reducible exact lx_bcz HOW hKA hQ5
                                        | with_reducible exact lx_zc HOW hKA (by simpa using hP5) (by first | exact Nat.le_refl _ | omega) (by simpa using hQ5)
                                        | with_reducible exact lx_zcb HOW hKA (by simpa using hP5) (by first | exact Nat.le_refl _ | omega))
                                  case rest =>
                                    clear E5 HL2
                                    obtain ⟨wY, hwY⟩ : ∃ x, x = wc := ⟨_, rfl⟩
                                    subst hwY
                                    obtain ⟨py, sy, gy, cy, rfl, hbY, hrY1, hrY2, hbY'⟩ := hcut
                                    have hstY := hide ((unhide hstX).below hbY')
                                    have HbX' := (unhide HbX).below (Nat.le_refl _) hbY'
                                    have HrX1' := hide ((unhide HrX1).below (Nat.le_refl _) hbY')
                                    have HrX2' := hide ((unhide HrX2).below (Nat.le_refl _) hbY')
                                    have HrY1 := hide hrY1
                                    have HrY2 := hide hrY2
                                    obtain ⟨u0, u1, u2, u3, u4, u5, u6⟩ := HbX'.all
                                    obtain ⟨v0, v1, v2, v3, v4, v5, v6⟩ := hbY.all
                                    clear hrY1 hrY2 hbY' hstX HbX HrX1 HrX2 HbX' hbY hylt
                                    go_wp2_with fail
                                    refine (Scalar2_any g c d (some ⟨sx, 0, none⟩) (some ⟨gx, 0, none⟩) (some ⟨sy, 0, none⟩) (some ⟨gy, 0, none⟩) 1 L 1 L 1 cx 1 cy [(L : Int)] (lineOf x P L 1 0) [(L : Int)] (lineOf y 0 L A Q) _ (unhide HrX1') (unhide HrX2') (unhide HrY1) (unhide HrY2)).mono ?_
                                    rw [← unhide HZ]
                                    rintro e w7 ⟨za1, zn1, zc1, za2, zn2, zc2, rfl, _, hzd, hb7⟩
                                    have hst7 := ((unhide hstY).below hb7).below ((Below.refl w7.heap.size w7).alloc (Nat.le_refl _) (.cells #[.bool zch, .slice za1 zn1 zc1, .slice za2 zn2 zc2] 25))
                                    have hzd7 := hide (hzd.alloc (.cells #[.bool zch, .slice za1 zn1 zc1, .slice za2 zn2 zc2] 25))
                                    have hst7 := hide hst7
                                    clear hzd hb7 hstY u0 u1 u2 u3 u4 u5 u6 v0 v1 v2 v3 v4 v5 v6 HrX1' HrX2' HrY1 HrY2 HZ
                                    have hkk : P * A + Q < B * A := by
                                      have : (P + 1) * A ≤ B * A := Nat.mul_le_mul_right A hlt
                                      rw [Nat.add_mul] at this; omega
                                    by_cases hzc : zcode = 0
                                    · have HZC := hide hzc
                                      have HFQ' : Hid (F (P * A + Q) = foldR f zdt) := by have := unhide HFQ; rw [if_pos hzc] at this; exact this
                                      subst hzc
                                      obtain ⟨r, hr⟩ : ∃ r, foldR f zdt = r := ⟨_, rfl⟩
                                      obtain ⟨r1, r2⟩ := r
                                      have HFR : Hid (F (P * A + Q) = (r1, r2)) := (unhide HFQ').trans hr
                                      have HRR := hide hr
                                      clear hr HFQ HFQ' HZC
                                      go_wp2_with fail
                                      refine (l4Fold_any f za2 zn2 zc2 zdt _ (unhide hzd7) (unhide HOF) (unhide HZB)).mono ?_
                                      rw [unhide HRR]
                                      rintro e w8 ⟨rfl, hb8⟩
                                      have hst8 := (unhide hst7).below hb8
                                      clear hb8 hst7 hzd7 HRR HZB
                                      have G6 := hide ((unhide C6).low hz6 hst8.low)
                                      have HW6 := hide ((unhide HBW).trans (hst8.low.mono hBWz))
                                      by_cases hcode : r2 = 0
                                      · subst hcode
                                        have hfk := unhide HFR
                                        obtain ⟨z0, z1, z2, z3, z4, z5, z6⟩ := hst8.box.all
                                        have hown := hst8.owns
                                        have hlow := hst8.low.size
                                        have hkb : P * A + Q ≤ 200000000 := by have := Nat.mul_le_mul (by omega : P ≤ 10000) hAb; omega
                                        go_wp2_with (at_builtin; refine wpList_append_lies _ rfl _ _ 23 rfl W.heap.size 3 i0 (.int .i64 0) 1 8 Tryz.underlying23 hi hz0 hz1 hz2 rfl (by decide) _ _ _ rfl (hown.alloc _) ⟨w8.heap.size, 0, none⟩ 1 1 [.int .i64 r1] rfl rfl (cells_new _ _) (one_one _) (by omega) (by unfold maxLen; omega) (by omega) (by have := hlow; simp; omega) (w8.heap.size + 1) (by simp) ?_; intro g' cap' w9 hown' hgrow hat hlt9; obtain ⟨hb9, hst9⟩ := hst8.push _ hfk hown' hgrow hat; obtain ⟨z0', z1', z2', z3', z4', z5', z6'⟩ := hb9.all; clear hgrow hat hown')
                                        go_roundw
                                        case rel => exact ⟨Q + 1, g', cap', by omega, by go_num, hst9⟩
                                        case measure => simp [intOf]; omega
                                      · have HS : Hid (inner f g c d sh dt sh' dt' = noAns r2) := by
                                          show _ = _
                                          have := gather_bad (c := false) (sh := zs) hst8.code hkk (by rw [unhide HFR]; exact hcode)
                                          rw [unhide HG2, this, unhide HFR]
                                        have hcb : (r2 != 0) = true := by simp [hcode]
                                        clear hcode hst8
                                        go_wp2_with fail
                                        refine (l4None_any _).mono ?_
                                        rintro e w9 ⟨rfl, hb9⟩
                                        obtain ⟨q0, q1, q2, q3, q4, q5, q6⟩ := ((unhide G6).below (Nat.le_refl _) hb9).all
                                        have hB9 := hide ((unhide HW6).trans (hb9.mono (unhide HW6).size))
                                        clear hb9 G6 HW6
                                        go_wp2
                                        refine bodyPost_ret (v := .tuple #[.agg #[.bool false, .slice none 0 0, .slice none 0 0], .int .i64 r2]) (by simp [results, Tryz.results40, go_sem, q0, q1, q2]) rfl ?_
                                        rw [unhide HS]
                                        exact ⟨none, 0, 0, none, 0, 0, rfl, row_nil _ _, row_nil _ _, (((unhide hB9).setCell (by simp <;> omega) _).setCell (by simp <;> omega) _).setCell (by simp <;> omega) _⟩
                                    · have HS : Hid (inner f g c d sh dt sh' dt' = noAns zcode) := by
                                        show _ = _
                                        have hf := unhide HFQ
                                        rw [if_neg hzc] at hf
                                        have := gather_bad (c := false) (sh := zs) (unhide hst7).code hkk (by rw [hf]; exact hzc)
                                        rw [unhide HG2, this, hf]
                                      have hcb : (zcode != 0) = true := by simp [hzc]
                                      have G6 := hide ((unhide C6).low hz6 (unhide hst7).low)
                                      have HW6 := hide ((unhide HBW).trans ((unhide hst7).low.mono hBWz))
                                      clear hzc hst7 hzd7 HFQ HZB
                                      go_wp2_with fail
                                      refine (l4None_any _).mono ?_
                                      rintro e w9 ⟨rfl, hb9⟩
                                      obtain ⟨q0, q1, q2, q3, q4, q5, q6⟩ := ((unhide G6).below (Nat.le_refl _) hb9).all
                                      have hB9 := hide ((unhide HW6).trans (hb9.mono (unhide HW6).size))
                                      clear hb9 G6 HW6
                                      go_wp2
                                      refine bodyPost_ret (v := .tuple #[.agg #[.bool false, .slice none 0 0, .slice none 0 0], .int .i64 zcode]) (by simp [results, Tryz.results40, go_sem, q0, q1, q2]) rfl ?_
                                      rw [unhide HS]
                                      exact ⟨none, 0, 0, none, 0, 0, rfl, row_nil _ _, row_nil _ _, (((unhide hB9).setCell (by simp <;> omega) _).setCell (by simp <;> omega) _).setCell (by simp <;> omega) _⟩
                              · have hQA : Q = A := by omega
                                subst hQA
                                go_wp2_with fail
                                go_roundw
                                case rel => exact ⟨P + 1, gg, cap, by omega, by go_num, by rw [Nat.add_mul, Nat.one_mul]; exact hst⟩
                                case measure => simp [intOf]; omega
                        · have hPB : P = B := by omega
                          subst hPB
                          have HS : Hid (inner f g c d sh dt sh' dt' = ⟨false, zs, vals F (P * A), 0⟩) := (unhide HG2).trans (gather_good (unhide hst).code)
                          have hkb : P * A ≤ 100000000 := Nat.mul_le_mul (by omega : P ≤ 10000) hAb
                          obtain ⟨ad', cd, hv, hD⟩ := Own.of_owns (unhide hst).owns (by omega)
                          cases hv
                          obtain ⟨z0, z1, z2, z3, z4, z5, z6⟩ := (unhide hst).box.all
                          have G6 := hide ((unhide C6).low hz6 (unhide hst).low)
                          obtain ⟨q0, q1', q2', q3, q4, q5, q6⟩ := (unhide G6).all
                          have HW6 := hide ((unhide HBW).trans ((unhide hst).low.mono hBWz))
                          have HO6 := hide (unhide hst).own
                          have HD := hide hD
                          clear hst hD HG2 HFK
                          go_wp2
                          refine bodyPost_ret (v := .tuple #[.agg #[.bool false, .slice ash' (p1 - 1 + (q1 - 1)) csh', .slice (some ⟨gg, 0, none⟩) (P * A) cap], .int .i64 0]) (by simp [results, Tryz.results40, go_sem, q0, q1', q2']) rfl ?_
                          rw [unhide HS]
                          refine ⟨ash', p1 - 1 + (q1 - 1), csh', some ⟨gg, 0, none⟩, P * A, cap, rfl, ?_, ?_, (((unhide HW6).setCell (by simp <;> omega) _).setCell (by simp <;> omega) _).setCell (by simp <;> omega) _⟩
                          · exact (unhide HO6).row.sets (unhide G6) _ _ _
                          · exact (unhide HD).row.sets (unhide G6) _ _ _
            · have hLq : ((L : Int) != (L2 : Int)) = true := by simp; omega
              have HS : Hid (inner f g c d sh dt sh' dt' = noAns 5) := by
                show _ = _
                rw [unhide HGN]
                unfold innCore
                rw [if_pos (by rw [(unhide HAX).2.1]; omega)]
              go_wp2_with fail
              refine (l4None_any _).mono ?_
              rintro e w9 ⟨rfl, hb9⟩
              obtain ⟨q0, q1, q2, q3, q4, q5, q6⟩ := ((unhide C6).below (Nat.le_refl _) hb9).all
              have hB9 := hide ((unhide HBW).trans (hb9.mono (unhide HBW).size))
              clear hb9 C4 C5 C6 HBW
              go_wp2
              refine bodyPost_ret (v := .tuple #[.agg #[.bool false, .slice none 0 0, .slice none 0 0], .int .i64 5]) (by simp [results, Tryz.results40, go_sem, q0, q1, q2]) rfl ?_
              rw [unhide HS]
              exact ⟨none, 0, 0, none, 0, 0, rfl, row_nil _ _, row_nil _ _, (((unhide hB9).setCell (by simp <;> omega) _).setCell (by simp <;> omega) _).setCell (by simp <;> omega) _⟩

end Go.Proofs.YtgjpchnkodnieaaGreatDoor
