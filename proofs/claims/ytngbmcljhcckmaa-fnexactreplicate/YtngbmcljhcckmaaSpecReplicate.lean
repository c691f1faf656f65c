import Derived.Test.YtngbmcljhcckmaaSpecRepR
import Derived.Test.YtngbmcljhcckmaaMMath
import Derived.Test.YtngbmcljhcckmaaRepStage
import Derived.Test.YtngbmcljhcckmaaSpecWider
import Derived.Test.YtngbmcljhcckmaaSpecListN
import Derived.Test.YtngbmcljhcckmaaSpecAxisN
import Derived.Test.YtngbmcljhcckmaaSpecShapeOk
import Derived.Test.YtngbmcljhcckmaaSpecNone
import Derived.Test.YtngbmcljhcckmaaMMath
import Derived.Deep.DeepCutAuto
import Derived.Deep.RegionHeld
import Derived.BigQuiet
namespace Go.Proofs.Ytngbmcljhcckmaa
open Go.RowKit

set_option maxRecDepth 20000 in
set_option maxHeartbeats 8000000 in
theorem Replicate_any (c d : Bool) (a1 a2 b1 b2 : Addr) (n1 n2 m1 m2 c1 c2 d1 d2 : Nat) (sh dt sh' dt' : List Int) (fl : Bool) (w : World) (h1 : Row w (some a1) n1 sh) (h2 : Row w (some a2) n2 dt) (k1 : Row w (some b1) m1 sh') (k2 : Row w (some b2) m2 dt') :
    Calls Try.prog 16 #[.agg #[.bool c, .slice (some a1) n1 c1, .slice (some a2) n2 c2], .agg #[.bool d, .slice (some b1) m1 d1, .slice (some b2) m2 d2], .bool fl] w (GivesRow w (replicateA c d sh dt sh' dt' fl)) := by
  have hl1 := hide h1.len
  have hl2 := hide h2.len
  have hl3 := hide k1.len
  have hl4 := hide k2.len
  have hs1 := h1.small
  have hs2 := h2.small
  have hs3 := k1.small
  have hs4 := k2.small
  have H1 := hide h1
  have H2 := hide h2
  have K1 := hide k1
  have K2 := hide k2
  clear h1 h2 k1 k2
  obtain ⟨r1, hr1⟩ : ∃ r, arrOk c sh dt = r := ⟨_, rfl⟩
  obtain ⟨r2, hr2⟩ : ∃ r, arrOk d sh' dt' = r := ⟨_, rfl⟩
  have HR1 := hide hr1
  have HR2 := hide hr2
  clear hr1 hr2
  go_enter Try.func16, Try.ntmps16
  go_wp2_with fail
  refine (ArrayOk_eq _ _ _ _ _ _ _ sh dt _ ((((unhide H1).alloc _).alloc _).alloc _) ((((unhide H2).alloc _).alloc _).alloc _) _ HR1).mono ?_
  rintro e w1 ⟨rfl, hb1⟩
  obtain ⟨B4, B5, B6, hB1⟩ := boxes3 hb1
  have hz1 := B6.lt
  clear hb1
  obtain ⟨x0, x1, x2, x3, x4, x5, x6⟩ := B4.all
  obtain ⟨y0, y1, y2, y3, y4, y5, y6⟩ := B5.all
  cases r1 with
  | false =>
    have HS : Hid (replicateA c d sh dt sh' dt' fl = noAns 3) := rep_bad1 (unhide HR1)
    go_wp2_with fail
    refine (l4None_any _).mono ?_
    rintro e w9 ⟨rfl, hb9⟩
    obtain ⟨q0, q1, q2, q3, q4, q5, q6⟩ := ((B6).below (Nat.le_refl _) hb9).all
    have hB9 := hide ((hB1).trans (hb9.mono (hB1).size))
    clear hb9 hB1 B4 B5 B6 hz1 x0 x1 x2 x3 x4 x5 x6 y0 y1 y2 y3 y4 y5 y6
    go_wp2
    refine bodyPost_ret (v := .tuple #[.agg #[.bool false, .slice none 0 0, .slice none 0 0], .int .i64 3]) (by simp [results, Try.results16, go_sem, q0, q1, q2]) rfl ?_
    rw [unhide HS]
    exact ⟨none, 0, 0, none, 0, 0, rfl, row_nil _ _, row_nil _ _, (((unhide hB9).setCell (by simp <;> omega) _).setCell (by simp <;> omega) _).setCell (by simp <;> omega) _⟩
  | true =>
    go_wp2_with fail
    refine (ArrayOk_eq _ _ _ _ _ _ _ sh' dt' _ ((unhide K1).below (Nat.le_refl _) hB1) ((unhide K2).below (Nat.le_refl _) hB1) _ HR2).mono ?_
    rintro e w2 ⟨rfl, hb2⟩
    have C4 := hide (B4.below (Nat.le_refl _) hb2)
    have C5 := hide (B5.below (Nat.le_refl _) hb2)
    have C6 := hide (B6.below (Nat.le_refl _) hb2)
    have hB2 := hide (hB1.trans (hb2.mono hB1.size))
    clear hb2 hB1 B4 B5 B6 hz1 x0 x1 x2 x3 x4 x5 x6 y0 y1 y2 y3 y4 y5 y6 w1
    cases r2 with
    | false =>
      have HS : Hid (replicateA c d sh dt sh' dt' fl = noAns 3) := rep_bad2 (unhide HR2)
      go_wp2_with fail
      refine (l4None_any _).mono ?_
      rintro e w9 ⟨rfl, hb9⟩
      obtain ⟨q0, q1, q2, q3, q4, q5, q6⟩ := ((unhide C6).below (Nat.le_refl _) hb9).all
      have hB9 := hide ((unhide hB2).trans (hb9.mono (unhide hB2).size))
      clear hb9 C4 C5 C6 hB2
      go_wp2
      refine bodyPost_ret (v := .tuple #[.agg #[.bool false, .slice none 0 0, .slice none 0 0], .int .i64 3]) (by simp [results, Try.results16, go_sem, q0, q1, q2]) rfl ?_
      rw [unhide HS]
      exact ⟨none, 0, 0, none, 0, 0, rfl, row_nil _ _, row_nil _ _, (((unhide hB9).setCell (by simp <;> omega) _).setCell (by simp <;> omega) _).setCell (by simp <;> omega) _⟩
    | true =>
      obtain ⟨x0, x1, x2, x3, x4, x5, x6⟩ := (unhide C4).all
      obtain ⟨r, hr⟩ : ∃ r, listCode c n1 = r := ⟨_, rfl⟩
      have HLC := hide hr
      clear hr
      go_wp2_with fail
      refine (l5List_any c _ _ _ _ _ hs1 r HLC).mono ?_
      rintro e w3 ⟨rfl, hb3⟩
      have D4 := hide ((unhide C4).below (Nat.le_refl _) hb3)
      have D5 := hide ((unhide C5).below (Nat.le_refl _) hb3)
      have D6 := hide ((unhide C6).below (Nat.le_refl _) hb3)
      have hB3 := hide ((unhide hB2).trans (hb3.mono (unhide hB2).size))
      clear hb3 hB2 C4 C5 C6 x0 x1 x2 x3 x4 x5 x6 w2
      by_cases hcode : r = 0
      · subst hcode
        have HL0 : Hid (listCode c sh.length = 0) := by show _ = _; rw [unhide hl1]; exact unhide HLC
        obtain ⟨zs, hzs⟩ : ∃ zs, zs = repSh sh' := ⟨_, rfl⟩
        have HOKZ : Hid (arrOk d zs dt' = true) := by rw [hzs]; exact rep_ok (unhide HR2)
        have HZN : Hid (zs ≠ []) := by rw [hzs]; exact repSh_ne sh'
        have HZE : Hid (zs = repSh sh') := hzs
        have HZ0 : Hid (m1 = 0 → zs = sh' ++ [1]) := fun h => by
          have : sh' = [] := List.length_eq_zero_iff.mp (by rw [unhide hl3]; exact h)
          rw [hzs, this]; rfl
        have HZ1 : Hid (m1 ≠ 0 → zs = sh') := fun h => by
          have : sh' ≠ [] := fun e => h (by rw [← unhide hl3, e]; rfl)
          rw [hzs]; unfold repSh; rw [if_neg this]
        have hm15 : m1 ≤ 5 := by have := (shapeIn_of (unhide HR2)).2.2; rw [unhide hl3] at this; exact this
        clear hzs
        obtain ⟨y0, y1, y2, y3, y4, y5, y6⟩ := (unhide D5).all
        have hz6 := (unhide D6).lt
        go_upto_if 39 with fail
        go_cut [] (fun wx => ∃ (s1 : Addr) (M e1 : Nat), 0 < M ∧ M ≤ 6 ∧ Row wx (some s1) M zs ∧ Box wx w.heap.size c (.slice (some a1) n1 c1) (.slice (some a2) n2 c2) ∧ Box wx (w.heap.size + 1) d (.slice (some s1) M e1) (.slice (some b2) m2 d2) ∧ Box wx (w.heap.size + 2) false (.slice none 0 0) (.slice none 0 0) ∧ Below w.heap.size w wx)
        case first => as_aux_lemma =>
          by_cases hm0 : m1 = 0
          · have g0 : ((m1 : Int) == 0) = true := by simp [hm0]
            have HZ := hide (unhide HZ0 hm0)
            clear hm0
            go_wp2_with (go_at_call 55; refine (l5Wider_any d b1 (some b2) m1 m2 d1 d2 sh' _ ((unhide K1).below (Nat.le_refl _) (unhide hB3)) (by omega)).mono ?_; rintro e w4 ⟨g, cap, rfl, ho, hb4⟩; have HO := hide ho; have HB4 := hide hb4; clear ho hb4 y0 y1 y2 y3 y4 y5 y6; obtain ⟨y0, y1, y2, y3, y4, y5, y6⟩ := ((unhide D5).below (Nat.le_refl _) (unhide HB4)).all)
            go_meet
            case rel =>
              obtain ⟨_, _, ev, hO⟩ := Own.of_owns (unhide HO) (by omega)
              cases ev
              have E4 := (unhide D4).below (Nat.le_refl _) (unhide HB4)
              have E5 := (unhide D5).below (Nat.le_refl _) (unhide HB4)
              have E6 := (unhide D6).below (Nat.le_refl _) (unhide HB4)
              have hz3 := (unhide hB3).size
              refine ⟨⟨g, 0, none⟩, m1 + 1, cap, by omega, by omega, ?_, ?_, E5.sets, ?_, ?_⟩
              · rw [unhide HZ]; exact hO.row.sets E5 _ _ _
              · exact ((E4.other (q := ⟨w.heap.size + 1, 0, none⟩) (by simp) _).other (q := ⟨w.heap.size + 1, 1, none⟩) (by simp) _).other (q := ⟨w.heap.size + 1, 2, none⟩) (by simp) _
              · exact ((E6.other (q := ⟨w.heap.size + 1, 0, none⟩) (by simp) _).other (q := ⟨w.heap.size + 1, 1, none⟩) (by simp) _).other (q := ⟨w.heap.size + 1, 2, none⟩) (by simp) _
              · exact ((((unhide hB3).trans ((unhide HB4).mono hz3)).setCell (by simp) _).setCell (by simp) _).setCell (by simp) _
          · have g0 : ((m1 : Int) == 0) = false := by simp; omega
            have HZ := hide (unhide HZ1 hm0)
            have hmp : 0 < m1 := by omega
            clear hm0
            go_wp2_with fail
            go_meet
            case rel => exact ⟨b1, m1, d1, hmp, by omega, by rw [unhide HZ]; exact (unhide K1).below (Nat.le_refl _) (unhide hB3), unhide D4, unhide D5, unhide D6, unhide hB3⟩
        case rest =>
          obtain ⟨w4, hw4⟩ : ∃ x, x = wc := ⟨_, rfl⟩
          subst hw4
          obtain ⟨s1, M, e1, hM0, hM6, hrow, f4, f5, f6, hbl⟩ := hcut
          have HRW := hide hrow
          have E4 := hide f4
          have E5 := hide f5
          have E6 := hide f6
          have hB4 := hide hbl
          clear hrow f4 f5 f6 hbl D4 D5 D6 hB3 y0 y1 y2 y3 y4 y5 y6 hz6 HZ0 HZ1 hm15 w3
          obtain ⟨B, L, A, hax, hprod, hBb, hLb, hAb⟩ := axis_is fl (unhide HOKZ) (unhide HZN)
          rw [unhide hl4] at hprod
          have hca := l4Axis_any (some s1) M e1 zs fl w4 (unhide HRW) (shapeIn_of (unhide HOKZ)).1 hM0
          rw [hax.b, hax.l, hax.a] at hca
          obtain ⟨m, hm⟩ : ∃ m, m = repM dt sh' fl := ⟨_, rfl⟩
          obtain ⟨hrN, hrM⟩ := repM_is dt sh' fl (L := L) (K := n2) (by rw [← unhide HZE]; exact hax.l) (unhide hl2)
          have hME : m = if L = 1 then n2 else L := by rw [hm]; exact hrM
          have HRN := hide hrN
          have HMM := hide hm
          have HAX := hide hax
          have HPR := hide hprod
          clear hax hprod hm hrM hrN
          obtain ⟨y0, y1, y2, y3, y4, y5, y6⟩ := (unhide E5).all
          go_upto_region 9 with (go_at_call 56; refine hca.mono ?_; rintro e' w5 ⟨rfl, hb5⟩; have HB5' := hide hb5; clear hb5)
          have J4 := hide ((unhide E4).below (Nat.le_refl _) (unhide HB5'))
          have J5 := hide ((unhide E5).below (Nat.le_refl _) (unhide HB5'))
          have J6 := hide ((unhide E6).below (Nat.le_refl _) (unhide HB5'))
          have HB5 := hide ((unhide hB4).trans ((unhide HB5').mono (unhide hB4).size))
          have HRS := hide ((unhide HRW).below (Nat.le_refl _) (unhide HB5'))
          clear hca y0 y1 y2 y3 y4 y5 y6 E4 E5 E6 hB4 HB5' HRW w4
          have H2J := hide ((unhide H2).below (Nat.le_refl _) (unhide HB5))
          have K2J := hide ((unhide K2).below (Nat.le_refl _) (unhide HB5))
          obtain ⟨x0, x1, x2, x3, x4, x5, x6⟩ := (unhide J4).all
          by_cases herr : L ≠ 1 ∧ n2 ≠ 1 ∧ n2 ≠ L
          · have HS : Hid (replicateA c d sh dt sh' dt' fl = noAns 5) := rep_len (unhide HR1) (unhide HR2) (unhide HL0) (by rw [unhide HRN, unhide hl2]; exact herr)
            have g1 : ((L : Int) == 1) = false := by simp; omega
            have g2 : ((n2 : Int) != 1) = true := by simp; omega
            have g3 : ((n2 : Int) != (L : Int)) = true := by simp; omega
            clear herr hME
            go_wp2_with fail
            refine (l4None_any _).mono ?_
            rintro e w9 ⟨rfl, hb9⟩
            obtain ⟨q0, q1, q2, q3, q4, q5, q6⟩ := ((unhide J6).below (Nat.le_refl _) hb9).all
            have hB9 := hide ((unhide HB5).trans (hb9.mono (unhide HB5).size))
            clear hb9 J4 J5 J6 HB5 x0 x1 x2 x3 x4 x5 x6
            go_wp2
            refine bodyPost_ret (v := .tuple #[.agg #[.bool false, .slice none 0 0, .slice none 0 0], .int .i64 5]) (by simp [results, Try.results16, go_sem, q0, q1, q2]) rfl ?_
            rw [unhide HS]
            exact ⟨none, 0, 0, none, 0, 0, rfl, row_nil _ _, row_nil _ _, (((unhide hB9).setCell (by simp <;> omega) _).setCell (by simp <;> omega) _).setCell (by simp <;> omega) _⟩
          · have HNE : Hid (¬ (repN sh' fl ≠ 1 ∧ dt.length ≠ 1 ∧ dt.length ≠ repN sh' fl)) := by rw [unhide HRN, unhide hl2]; exact herr
            have hmK : 0 < m → 0 < n2 := by
              intro h
              by_cases h1 : L = 1
              · rw [if_pos h1] at hME; omega
              · rw [if_neg h1] at hME; omega
            have hmL : 0 < m → 0 < L := by
              intro h
              by_cases h1 : L = 1
              · omega
              · rw [if_neg h1] at hME; omega
            have hm1 : m ≤ 10000 := by
              have h5 := (shapeIn_of (unhide HR1)).1.bd
              rw [(shapeIn_of (unhide HR1)).2.1, unhide hl2] at h5
              rw [hME]; split <;> omega
            go_upto_if 52 with fail
            go_cut [12] (fun v wx => w5 = wx ∧ v = .int .i64 (m : Nat))
            case first => as_aux_lemma =>
              by_cases h1 : L = 1
              · have g1 : ((L : Int) == 1) = true := by simp [h1]
                have HM : Hid (m = n2) := by show _ = _; rw [hME, if_pos h1]
                clear h1 herr hME hmK hmL
                go_wp2_with fail
                go_meet
                case rel => exact ⟨rfl, by rw [unhide HM]⟩
              · have g1 : ((L : Int) == 1) = false := by simp; omega
                have HM : Hid (m = L) := by show _ = _; rw [hME, if_neg h1]
                by_cases h2 : n2 = 1
                · have g2 : ((n2 : Int) != 1) = false := by simp; omega
                  clear h1 h2 herr hME hmK hmL
                  go_wp2_with fail
                  go_meet
                  case rel => exact ⟨rfl, by rw [unhide HM]⟩
                · have g2 : ((n2 : Int) != 1) = true := by simp; omega
                  have g3 : ((n2 : Int) != (L : Int)) = false := by simp; omega
                  clear h1 h2 herr hME hmK hmL
                  go_wp2_with fail
                  go_meet
                  case rel => exact ⟨rfl, by rw [unhide HM]⟩
            case rest =>
              obtain ⟨rfl, rfl⟩ := hcut
              clear herr hME
              go_wp2_with fail
              go_loop [14] (fun i => ∃ k : Nat, k ≤ n2 ∧ i = .int .i64 k ∧ Hid ((dt.take k).all nonNeg = true)) (fun i => n2 - (intOf i).toNat)
              case atStart => exact ⟨0, Nat.zero_le _, rfl, rfl⟩
              case round =>
                obtain ⟨k, hk, rfl, hall⟩ := hrel
                by_cases hlt : k < n2
                · obtain ⟨ba, oa, hab, hblt, hc'⟩ := (unhide H2J).get hlt
                  cases hab
                  have hks : Hid (k < dt.length) := by show k < dt.length; rw [unhide hl2]; exact hlt
                  obtain ⟨x, hx⟩ : ∃ x, x = dt.getD k 0 := ⟨_, rfl⟩
                  rw [← hx] at hc'
                  have HX := hide hx
                  clear hx
                  by_cases hneg : x < 0
                  · have HS : Hid (replicateA c d sh dt sh' dt' fl = noAns 3) := rep_neg (unhide HR1) (unhide HR2) (unhide HL0) (unhide HNE) (all_not dt nonNeg k (unhide hks) (by rw [← unhide HX]; exact decide_eq_false (by omega)))
                    go_wp2_with fail
                    refine (l4None_any _).mono ?_
                    rintro e w9 ⟨rfl, hb9⟩
                    obtain ⟨q0, q1, q2, q3, q4, q5, q6⟩ := ((unhide J6).below (Nat.le_refl _) hb9).all
                    have hB9 := hide ((unhide HB5).trans (hb9.mono (unhide HB5).size))
                    clear hb9 J4 J5 J6 HB5 x0 x1 x2 x3 x4 x5 x6 hc'
                    go_wp2
                    refine bodyPost_ret (v := .tuple #[.agg #[.bool false, .slice none 0 0, .slice none 0 0], .int .i64 3]) (by simp [results, Try.results16, go_sem, q0, q1, q2]) rfl ?_
                    rw [unhide HS]
                    exact ⟨none, 0, 0, none, 0, 0, rfl, row_nil _ _, row_nil _ _, (((unhide hB9).setCell (by simp <;> omega) _).setCell (by simp <;> omega) _).setCell (by simp <;> omega) _⟩
                  · have HA := hide (all_step dt nonNeg k (unhide hks) (unhide hall) (by rw [← unhide HX]; exact decide_eq_true (by omega)))
                    go_wp2
                    go_round
                    case rel => exact ⟨k + 1, by omega, by go_num, HA⟩
                    case measure => simp [intOf]; omega
                · have HA : Hid (dt.all nonNeg = true) := by
                    have := unhide hall
                    rwa [List.take_of_length_le (by rw [unhide hl2]; omega)] at this
                  clear hall
                  have hlt' : ¬ (k : Int) < (n2 : Int) := by omega
                  go_wp2_with fail
                  clear hlt' hlt hk
                  go_loopw [13, 15] (fun s i wr => ∃ (j : Nat) (sm : Nat), j ≤ m ∧ sm ≤ 10000 ∧ i = .int .i64 (j : Nat) ∧ s = .int .i64 (sm : Nat) ∧ Hid (timesSum dt j = (sm : Int)) ∧ Hid (Below w5.heap.size w5 wr)) (fun _ i _ => m - (intOf i).toNat)
                  case atStart => exact ⟨0, 0, Nat.zero_le _, Nat.zero_le _, rfl, rfl, hide rfl, hide (Below.refl _ _)⟩
                  case round =>
                    obtain ⟨j, sm, hj, hsm, rfl, rfl, hsum, hbr⟩ := hrel
                    obtain ⟨z0, z1, z2, z3, z4, z5, z6⟩ := ((unhide J4).below (Nat.le_refl _) (unhide hbr)).all
                    clear x0 x1 x2 x3 x4 x5 x6
                    by_cases hlt : j < m
                    · have hn2 : 0 < n2 := hmK (by omega)
                      obtain ⟨u, hu⟩ : ∃ u, u = j % n2 := ⟨_, rfl⟩
                      have hul : u < n2 := by rw [hu]; exact Nat.mod_lt _ hn2
                      have hq1 : (j : Int).tmod (n2 : Int) = (u : Int) := by rw [Int.tmod_eq_emod_of_nonneg (by omega), hu]; rfl
                      have hq2 : (j : Int) % (n2 : Int) = (u : Int) := by rw [hu]; rfl
                      have hu0 : (0 : Int) ≤ (u : Int) := by omega
                      have hu1 : (u : Int) < (n2 : Int) := by omega
                      have hn2' : ¬ n2 = 0 := by omega
                      obtain ⟨ba, oa, hab, hblt, hc'⟩ := ((unhide H2J).below (Nat.le_refl _) (unhide hbr)).get hul
                      cases hab
                      obtain ⟨x, hx⟩ : ∃ x, x = dt.getD u 0 := ⟨_, rfl⟩
                      rw [← hx] at hc'
                      have hxt : timesAt dt j = x := by unfold timesAt; rw [unhide hl2, ← hu, hx]
                      have hx0 : 0 ≤ x := by rw [← hxt]; exact times_nn (unhide HA) j
                      have hxb : x ≤ 1000000000000000 := by rw [hx]; exact (dataOk_bd (unhide HR1) (by rw [unhide hl2]; exact hul)).2
                      obtain ⟨y, hy⟩ : ∃ y : Nat, y = sm + x.toNat := ⟨_, rfl⟩
                      have hyx : (sm : Int) + x = (y : Int) := by omega
                      have hws : IntKind.i64.wrap ((sm : Int) + x) = (y : Int) := by rw [hyx, IntKind.wrap_i64]; omega
                      have HNS : Hid (timesSum dt (j + 1) = (y : Int)) := by show timesSum dt j + timesAt dt j = _; rw [unhide hsum, hxt, hyx]
                      have hwy : IntKind.i64.wrap (y : Int) = (y : Int) := by rw [IntKind.wrap_i64]; omega
                      clear hu hx hxt hy hx0 hxb hyx
                      by_cases hbig : 10000 < y
                      · have hbz : (10000 : Int) < (y : Int) := by omega
                        have HS : Hid (replicateA c d sh dt sh' dt' fl = noAns 7) := rep_big (unhide HR1) (unhide HR2) (unhide HL0) (unhide HNE) (unhide HA) (.inl (by rw [← unhide HMM]; have h1 := sum_mono (unhide HA) (show j + 1 ≤ m by omega); have h2 := unhide HNS; omega))
                        clear hbig
                        go_wp2_with fail
                        go_quiet (fail)
                        obtain ⟨wd, hwd⟩ : ∃ x, x = wr.drewN nq := ⟨_, rfl⟩
                        have HWD : Hid (Below wr.heap.size wr wd) := by rw [hwd]; exact Below.drewN (Below.refl _ _) _
                        rw [← hwd]
                        clear hwd
                        have Q6 := hide (((unhide J6).below (Nat.le_refl _) (unhide hbr)).below (Nat.le_refl _) (unhide HWD))
                        have HBD := hide ((unhide HB5).trans (((unhide hbr).trans ((unhide HWD).mono (unhide hbr).size)).mono (unhide HB5).size))
                        clear z0 z1 z2 z3 z4 z5 z6 hc'
                        go_wp2_with fail
                        refine (l4None_any _).mono ?_
                        rintro e w9 ⟨rfl, hb9⟩
                        obtain ⟨q0, q1, q2, q3, q4, q5, q6⟩ := ((unhide Q6).below (Nat.le_refl _) hb9).all
                        have hB9 := hide ((unhide HBD).trans (hb9.mono (unhide HBD).size))
                        clear hb9 Q6 HBD
                        go_wp2
                        refine bodyPost_ret (v := .tuple #[.agg #[.bool false, .slice none 0 0, .slice none 0 0], .int .i64 7]) (by simp [results, Try.results16, go_sem, q0, q1, q2]) rfl ?_
                        rw [unhide HS]
                        exact ⟨none, 0, 0, none, 0, 0, rfl, row_nil _ _, row_nil _ _, (((unhide hB9).setCell (by simp <;> omega) _).setCell (by simp <;> omega) _).setCell (by simp <;> omega) _⟩
                      · have hbz : ¬ (10000 : Int) < (y : Int) := by omega
                        go_wp2_with fail
                        go_quiet (fail)
                        go_wp2_with fail
                        go_roundw
                        case rel => exact ⟨j + 1, y, by omega, by omega, by go_num, rfl, HNS, hide ((unhide hbr).trans ((Below.drewN (Below.refl _ _) _).mono (unhide hbr).size))⟩
                        case measure => simp [intOf]; omega
                    · have hjm : j = m := by omega
                      subst j
                      clear hlt hj
                      obtain ⟨w6, hw6⟩ : ∃ x, x = wr := ⟨_, rfl⟩
                      subst hw6
                      have G4 := hide ((unhide J4).below (Nat.le_refl _) (unhide hbr))
                      have G5 := hide ((unhide J5).below (Nat.le_refl _) (unhide hbr))
                      have G6 := hide ((unhide J6).below (Nat.le_refl _) (unhide hbr))
                      have HB6 := hide ((unhide HB5).trans ((unhide hbr).mono (unhide HB5).size))
                      have HRZ := hide ((unhide HRS).below (Nat.le_refl _) (unhide hbr))
                      have H2G := hide ((unhide H2J).below (Nat.le_refl _) (unhide hbr))
                      have K2G := hide ((unhide K2J).below (Nat.le_refl _) (unhide hbr))
                      clear J4 J5 J6 HB5 HRS H2J K2J hbr z0 z1 z2 z3 z4 z5 z6
                      obtain ⟨y0, y1, y2, y3, y4, y5, y6⟩ := (unhide G5).all
                      obtain ⟨i0, hi, hz0, hz1, hz2⟩ := info_parts info_int
                      have hB6z := (unhide HB6).size
                      have hz4 := (unhide G4).lt
                      have hz5 := (unhide G5).lt
                      have hz6 := (unhide G6).lt
                      go_upto_region 26 with fail
                      go_cut [16] (fun r wx => Laid w6 d M zs r wx)
                      case first => as_aux_lemma =>
                        have HKEEP : ∀ wx, Below w6.heap.size w6 wx → Below w6.heap.size w6 wx ∧ wx.cell? ⟨w.heap.size + 1, 0, none⟩ = some (.bool d) ∧ wx.cell? ⟨w.heap.size + 1, 1, none⟩ = some (.slice (some s1) M e1) := fun wx hwx => ⟨hwx, ((unhide G5).below (Nat.le_refl _) hwx).cells.1, ((unhide G5).below (Nat.le_refl _) hwx).cells.2.1⟩
                        go_region_held (fun wx => Below w6.heap.size w6 wx ∧ wx.cell? ⟨w.heap.size + 1, 0, none⟩ = some (.bool d) ∧ wx.cell? ⟨w.heap.size + 1, 1, none⟩ = some (.slice (some s1) M e1)) (first | (refine HKEEP _ ?_; repeat (first | exact hKA | exact Below.refl _ _ | refine Below.drew ?_ | refine Below.alloc ?_ (by first | omega | (simp <;> omega)) _ | refine Below.setCell ?_ (by first | omega | (simp <;> omega)) _)))
                          (first
                          | (go_at_call 40; refine (l3Ints_any _ _ _ zs _ ((unhide HRZ).below (Nat.le_refl _) (by repeat (first | exact Below.refl _ _ | refine Below.drew ?_ | refine Below.alloc ?_ (by simp <;> omega) _)))).mono ?_; rintro e wA ⟨ash, csh, rfl, hOA, hbA⟩; (have hKA : Below w6.heap.size w6 wA := (by refine Below.trans ?_ (hbA.mono (by first | omega | (simp <;> omega))); repeat (first | exact Below.refl _ _ | refine Below.drew ?_ | refine Below.alloc ?_ (by first | omega | (simp <;> omega)) _))); have hsA := hKA.size; (first | (have hP5 := (Box.new _ _ _ _).drew.below (Nat.le_refl _) hbA; obtain ⟨t0, t1, t2, t3, t4, t5, t6⟩ := hP5.free'; (try simp at t0 t1 t2 t3 t4 t5 t6)) | (have hP5 := ((Box.new _ _ _ _).alloc _).drew.below (Nat.le_refl _) hbA; obtain ⟨t0, t1, t2, t3, t4, t5, t6⟩ := hP5.free'; (try simp at t0 t1 t2 t3 t4 t5 t6)) | skip); (first | have hQ5 := (Blk.new _).drew.below (Nat.le_refl _) hbA | have hQ5 := ((Blk.new _).alloc _).drew.below (Nat.le_refl _) hbA | skip)))
                        all_goals go_wp2_with fail
                        all_goals have HOW : Own wA w6.heap.size ash M zs := hOA.mono (by first | exact Nat.le_refl _ | (simp <;> omega))
                        all_goals (go_meet; case rel => first
                          | with_reducible exact laid_cbz HOW hKA
                          | with_reducible exact laid_czb HOW hKA
                          | with_reducible exact laid_bcz HOW hKA hQ5 (Nat.le_refl _) (fun x hx => by have := hOA.low hx; simp at this; omega)
                          | with_reducible exact laid_zc HOW hKA (by simpa using hP5) (by first | exact Nat.le_refl _ | omega) (by simpa using hQ5) (by first | exact Nat.le_refl _ | omega) (fun x hx => by have := hOA.low hx; simp at this; omega)
                          | with_reducible exact laid_zcb HOW hKA (by simpa using hP5) (by first | exact Nat.le_refl _ | omega))
                      case rest =>
                        obtain ⟨w7, hw7⟩ : ∃ x, x = wc := ⟨_, rfl⟩
                        subst hw7
                        obtain ⟨p, g0, ash, csh, rfl, hbx, hblk, hO, hb7, hp, hg, hne⟩ := hcut
                        clear y0 y1 y2 y3 y4 y5 y6
                        rcases hO.at_ with h | ⟨gs, os, rfl, hgs, hgl, _, _⟩
                        · omega
                        have hgp : gs ≠ p := hO.row.notBox hbx (at_self (by omega))
                        have hgg : gs ≠ g0 := hne gs (at_self (by omega))
                        have hg0p : g0 ≠ p := hblk.notBox hbx
                        obtain ⟨ZS, hZS⟩ : ∃ ZS, ZS = repZS dt sh' fl := ⟨_, rfl⟩
                        have HZT : Hid (ZS = if fl = true then zs.set 0 (sm : Int) else zs.set (M - 1) (sm : Int)) := by
                          show _ = _
                          rw [hZS, repZS_is, ← unhide HZE, ← unhide HMM, unhide hsum, (unhide HRZ).len]
                        have HZZ := hide hZS
                        clear hZS
                        have HBX := hide hbx
                        have HBG := hide hblk
                        have HOB := hide hO
                        have HBEL := hide hb7
                        clear hbx hblk hO hb7 hne
                        obtain ⟨v0, v1, v2, v3, v4, v5, v6⟩ := (unhide HBX).all
                        go_upto_if 108 with fail
                        go_cut [] (fun wx => Box wx p d (.slice (some ⟨gs, os, none⟩) M csh) (.slice (some ⟨g0, 0, none⟩) 0 0) ∧ Blk wx g0 [] ∧ Own wx w6.heap.size (some ⟨gs, os, none⟩) M ZS ∧ Below w6.heap.size w6 wx)
                        case first => as_aux_lemma =>
                          obtain ⟨bs, os', hbs, hbl, cs0⟩ := (unhide HOB).row.get hM0
                          cases hbs
                          rcases (unhide HOB).at_ with h | ⟨_, _, hcs, _, _, hce, hfr⟩
                          · omega
                          cases hcs
                          cases fl with
                          | true =>
                            have c0 := hce 0 hM0
                            have f0 := hfr 0 hM0
                            simp only [Nat.add_zero] at c0 f0
                            have hM0z : (0 : Int) < (M : Int) := by omega
                            go_wp2_with fail
                            go_meet
                            case rel =>
                              have hz := unhide HZT
                              simp only [if_true] at hz
                              rw [hz]
                              exact ⟨(unhide HBX).other (by simpa using hgp.symm) _, (unhide HBG).other (by simpa using hgg.symm) _, (unhide HOB).set (k := 0) hM0 _, (unhide HBEL).setCell (by simpa using hgs) _⟩
                          | false =>
                            obtain ⟨Mp, hMp⟩ : ∃ Mp, M = Mp + 1 := ⟨M - 1, by omega⟩
                            have c0 := hce Mp (by omega)
                            have f0 := hfr Mp (by omega)
                            have hMz : IntKind.i64.wrap ((M : Int) - 1) = (Mp : Int) := by rw [IntKind.wrap_i64]; omega
                            have hMe : (M : Int) - 1 = (Mp : Int) := by omega
                            have hMl : (Mp : Int) < (M : Int) := by omega
                            have HMP := hide hMp
                            clear hMp
                            go_wp2_with fail
                            go_meet
                            case rel =>
                              have hz := unhide HZT
                              simp only [Bool.false_eq_true, if_false] at hz
                              rw [show M - 1 = Mp by have := unhide HMP; omega] at hz
                              rw [hz]
                              exact ⟨(unhide HBX).other (by simpa using hgp.symm) _, (unhide HBG).other (by simpa using hgg.symm) _, (unhide HOB).set (k := Mp) (by have := unhide HMP; omega) _, (unhide HBEL).setCell (by simpa using hgs) _⟩
                        case rest =>
                          obtain ⟨w8, hw8⟩ : ∃ x, x = wc := ⟨_, rfl⟩
                          subst hw8
                          obtain ⟨hbx, hblk, hO, hbl⟩ := hcut
                          clear HBX HBG HOB HBEL v0 v1 v2 v3 v4 v5 v6
                          have N4 := hide ((unhide G4).low hz4 hbl)
                          have N5 := hide ((unhide G5).low hz5 hbl)
                          have N6 := hide ((unhide G6).low hz6 hbl)
                          have HB8 := hide ((unhide HB6).trans (hbl.mono hB6z))
                          have HBX := hide hbx
                          have HOB := hide hO
                          have HST0 : Hid (Gat w6 p d (some ⟨gs, os, none⟩) M csh ZS (repAt dt dt' L A m 0 0 0 0) 0 w8 g0 0) := by
                            show Gat _ _ _ _ _ _ _ _ _ _ _ _
                            rw [repAt_end]
                            exact ⟨hbx, hblk.owns hg, hO, fun x hx => by have := at_eq hx; omega, hbl, hp⟩
                          clear hbx hblk hO hbl
                          obtain ⟨sb, hsb⟩ : ∃ r, shapeB ZS = r := ⟨_, rfl⟩
                          have HSB := hide hsb
                          clear hsb
                          obtain ⟨v0, v1, v2, v3, v4, v5, v6⟩ := (unhide HBX).all
                          go_upto_if 124 with (go_at_call 39; refine (l3ShapeOk_eq _ _ _ ZS _ (unhide HOB).row sb HSB).mono ?_; rintro e w9 ⟨rfl, hw9⟩; obtain rfl := hw9.symm)
                          clear v0 v1 v2 v3 v4 v5 v6
                          cases sb with
                          | false =>
                            have HS : Hid (replicateA c d sh dt sh' dt' fl = noAns 7) := rep_big (unhide HR1) (unhide HR2) (unhide HL0) (unhide HNE) (unhide HA) (.inr (by rw [← unhide HZZ]; exact unhide HSB))
                            clear HST0 HBX HOB
                            go_wp2_with fail
                            refine (l4None_any _).mono ?_
                            rintro e w9 ⟨rfl, hb9⟩
                            obtain ⟨q0, q1, q2, q3, q4, q5, q6⟩ := ((unhide N6).below (Nat.le_refl _) hb9).all
                            have hB9 := hide ((unhide HB8).trans (hb9.mono (unhide HB8).size))
                            clear hb9 N4 N5 N6 HB8
                            go_wp2
                            refine bodyPost_ret (v := .tuple #[.agg #[.bool false, .slice none 0 0, .slice none 0 0], .int .i64 7]) (by simp [results, Try.results16, go_sem, q0, q1, q2]) rfl ?_
                            rw [unhide HS]
                            exact ⟨none, 0, 0, none, 0, 0, rfl, row_nil _ _, row_nil _ _, (((unhide hB9).setCell (by simp <;> omega) _).setCell (by simp <;> omega) _).setCell (by simp <;> omega) _⟩
                          | true =>
                            have HGO : Hid (replicateA c d sh dt sh' dt' fl = ⟨d, ZS, repAll dt dt' L A m B, 0⟩) := by
                              show _ = _
                              rw [rep_go (unhide HR1) (unhide HR2) (unhide HL0) (unhide HNE) (unhide HA) (by rw [← unhide HMM, ← unhide HZZ, unhide hsum, unhide HSB]; rintro (h | h); (· omega); cases h), ← unhide HZZ, ← unhide HMM, unhide HRN, ← unhide HZE, (unhide HAX).b, (unhide HAX).a]
                              simp
                            have hsmm : timesSum dt m ≤ 10000 := by rw [unhide hsum]; omega
                            have HLEN : Hid (∀ P i cc q, P ≤ 10000 → i ≤ m → cc ≤ 10000 → (repAt dt dt' L A m P i cc q).length ≤ 2000000000000) := fun P i cc q hP hi hc => repAt_len (unhide HA) dt' hP hAb hsmm hi hc
                            have HTI : Hid (∀ i, i < m → ∃ y : Nat, timesAt dt i = (y : Int) ∧ y ≤ 10000) := fun i hi => by
                              have h1 := times_nn (unhide HA) i
                              have h2 := sum_mono (unhide HA) (show i + 1 ≤ m by omega)
                              have h3 := sum_nn (unhide HA) i
                              simp only [timesSum] at h2
                              exact ⟨(timesAt dt i).toNat, by omega, by omega⟩
                            have HTD : Hid (∀ i, timesAt dt i = dt.getD (i % n2) 0) := fun i => by unfold timesAt; rw [unhide hl2]
                            clear hsmm HBX HOB N4 N5 N6 HB8 HNE HL0 HZE HZT HOKZ HZN HAX HSB HZZ HMM hsum HA HRN HRZ
                            go_wp2_with fail
                            go_loopw [17] (fun v wr => ∃ (P n g cap : Nat), P ≤ B ∧ v = .int .i64 (P : Nat) ∧ Hid (Gat w6 p d (some ⟨gs, os, none⟩) M csh ZS (repAt dt dt' L A m P 0 0 0) n wr g cap)) (fun v _ => B - (intOf v).toNat)
                            case atStart => exact ⟨0, 0, g0, 0, Nat.zero_le _, rfl, HST0⟩
                            case round =>
                              obtain ⟨P, n, g, cap, hP, rfl, hst⟩ := hrel
                              clear HST0
                              by_cases hlt : P < B
                              · obtain ⟨wo, hwo⟩ : ∃ x, x = wr := ⟨_, rfl⟩
                                subst hwo
                                go_wp2_with fail
                                go_loopw [18] (fun v wr => ∃ (i n g cap : Nat), i ≤ m ∧ v = .int .i64 (i : Nat) ∧ Hid (Gat w6 p d (some ⟨gs, os, none⟩) M csh ZS (repAt dt dt' L A m P i 0 0) n wr g cap)) (fun v _ => m - (intOf v).toNat)
                                case atStart => exact ⟨0, n, g, cap, Nat.zero_le _, rfl, hst⟩
                                case round =>
                                  clear hst wo n g cap
                                  obtain ⟨i, n, g, cap, hi', rfl, hst⟩ := hrel
                                  by_cases hli : i < m
                                  · have hn2 : 0 < n2 := hmK (by omega)
                                    have hL0 : 0 < L := hmL (by omega)
                                    obtain ⟨T, hT, hT4⟩ := unhide HTI i hli
                                    obtain ⟨u, hu⟩ : ∃ u, u = i % n2 := ⟨_, rfl⟩
                                    have hul : u < n2 := by rw [hu]; exact Nat.mod_lt _ hn2
                                    have hq1 : (i : Int).tmod (n2 : Int) = (u : Int) := by rw [Int.tmod_eq_emod_of_nonneg (by omega), hu]; rfl
                                    have hq2 : (i : Int) % (n2 : Int) = (u : Int) := by rw [hu]; rfl
                                    have hu0 : (0 : Int) ≤ (u : Int) := by omega
                                    have hu1 : (u : Int) < (n2 : Int) := by omega
                                    have hn2' : ¬ n2 = 0 := by omega
                                    have HDT : Hid (dt.getD u 0 = (T : Int)) := by show _ = _; rw [hu, ← unhide HTD i]; exact hT
                                    have HTN : Hid ((timesAt dt i).toNat = T) := by show _ = _; rw [hT]; simp
                                    clear hT hu
                                    obtain ⟨wo, hwo⟩ : ∃ x, x = wr := ⟨_, rfl⟩
                                    subst hwo
                                    go_wp2_with fail
                                    go_loopw [19] (fun v wr => ∃ (cc n g cap : Nat), cc ≤ T ∧ v = .int .i64 (cc : Nat) ∧ Hid (Gat w6 p d (some ⟨gs, os, none⟩) M csh ZS (repAt dt dt' L A m P i cc 0) n wr g cap)) (fun v _ => T - (intOf v).toNat)
                                    case atStart => exact ⟨0, n, g, cap, Nat.zero_le _, rfl, hst⟩
                                    case round =>
                                      clear hst wo n g cap
                                      obtain ⟨cc, n, g, cap, hcT, rfl, hst⟩ := hrel
                                      obtain ⟨z0, z1, z2, z3, z4, z5, z6⟩ := ((unhide G4).low hz4 (unhide hst).low).all
                                      obtain ⟨ba, oa, hab, hblt, hc'⟩ := ((unhide H2G).below (Nat.le_refl _) (unhide hst).low).get hul
                                      cases hab
                                      rw [unhide HDT] at hc'
                                      by_cases hlc : cc < T
                                      · have HLC' := hide hlc
                                        clear hlc
                                        go_wp2_with fail
                                        have hlcz : decide ((cc : Int) < (T : Int)) = true := decide_eq_true (by have := unhide HLC'; omega)
                                        go_big_quiet (fail)
                                        have hlc := unhide HLC'
                                        clear HLC' hlcz
                                        obtain ⟨wd, hwd⟩ : ∃ x, x = wr.drewN nq := ⟨_, rfl⟩
                                        have hst2 : Hid (Gat w6 p d (some ⟨gs, os, none⟩) M csh ZS (repAt dt dt' L A m P i cc 0) n wd g cap) := by rw [hwd]; exact (unhide hst).below (Below.drewN (Below.refl _ _) _)
                                        rw [← hwd]
                                        clear hwd hst z0 z1 z2 z3 z4 z5 z6 hc' hblt
                                        go_wp2_with fail
                                        go_loopw [20] (fun v wr => ∃ (q n g cap : Nat), q ≤ A ∧ v = .int .i64 (q : Nat) ∧ Hid (Gat w6 p d (some ⟨gs, os, none⟩) M csh ZS (repAt dt dt' L A m P i cc q) n wr g cap)) (fun v _ => A - (intOf v).toNat)
                                        case atStart => exact ⟨0, n, g, cap, Nat.zero_le _, rfl, hst2⟩
                                        case round =>
                                          clear hst2 wd n g cap
                                          obtain ⟨q, n, g, cap, hq, rfl, hst⟩ := hrel
                                          by_cases hlq : q < A
                                          · obtain ⟨u1, hu1'⟩ : ∃ v, v = P * L := ⟨_, rfl⟩
                                            obtain ⟨u2, hu2⟩ : ∃ v, v = i % L := ⟨_, rfl⟩
                                            obtain ⟨u3, hu3⟩ : ∃ v, v = u1 + u2 := ⟨_, rfl⟩
                                            obtain ⟨u4, hu4⟩ : ∃ v, v = u3 * A := ⟨_, rfl⟩
                                            obtain ⟨J, hJ⟩ : ∃ v, v = u4 + q := ⟨_, rfl⟩
                                            have hu2l : u2 < L := by rw [hu2]; exact Nat.mod_lt _ hL0
                                            have hJe : J = (P * L + i % L) * A + q := by rw [hJ, hu4, hu3, hu1', hu2]
                                            have hJl : J < m2 := by rw [hJe, ← unhide HPR]; exact three_lt hlt (by rw [← hu2]; exact hu2l) hlq
                                            have hb1 : u4 ≤ J := by omega
                                            have hb2 : u3 ≤ u4 := by rw [hu4]; exact Nat.le_mul_of_pos_right _ (by omega)
                                            have a1' : IntKind.i64.wrap ((P : Int) * (L : Int)) = (u1 : Int) := by rw [← Int.natCast_mul, ← hu1', IntKind.wrap_i64]; omega
                                            have a3' : IntKind.i64.wrap ((u1 : Int) + (u2 : Int)) = (u3 : Int) := by rw [IntKind.wrap_i64]; omega
                                            have a4' : IntKind.i64.wrap ((u3 : Int) * (A : Int)) = (u4 : Int) := by rw [← Int.natCast_mul, ← hu4, IntKind.wrap_i64]; omega
                                            have a5' : IntKind.i64.wrap ((u4 : Int) + (q : Int)) = (J : Int) := by rw [IntKind.wrap_i64]; omega
                                            obtain ⟨bd, od, hbd, hbdl, hcx⟩ := (unhide K2G).get hJl
                                            cases hbd
                                            obtain ⟨x, hx⟩ : ∃ x, x = dt'.getD J 0 := ⟨_, rfl⟩
                                            rw [← hx] at hcx
                                            have HSTEP : Hid (repAt dt dt' L A m P i cc q ++ [x] = repAt dt dt' L A m P i cc (q + 1)) := by
                                              have h := repAt_q (dt := dt) (dt' := dt') (n := L) (A := A) (m := m) (p := P) (i := i) (c := cc) (q := q) (by rw [← hJe, unhide hl4]; exact hJl) hlq
                                              rw [← hJe, ← hx] at h
                                              exact h
                                            have hnl : n ≤ 2000000000000 := by rw [← (unhide hst).len]; exact unhide HLEN P i cc q (by omega) hi' (by omega)
                                            have hst' := unhide hst
                                            have HSX : ∀ wx, Box wx p d (.slice (some ⟨gs, os, none⟩) M csh) (.slice (some ⟨g, 0, none⟩) n cap) → Below w6.heap.size w6 wx → wx.cell? ⟨p, 2, none⟩ = some (.slice (some ⟨g, 0, none⟩) n cap) ∧ wx.frozen? ⟨p, 2, none⟩ = false ∧ wx.cell? ⟨w.heap.size + 1, 2, none⟩ = some (.slice (some ⟨bd, od, none⟩) m2 d2) ∧ wx.cell? ⟨bd, od + J, none⟩ = some (.int .i64 x) := fun wx h1 h2 => by
                                              obtain ⟨q0, q1, q2, q3, q4, q5, q6⟩ := h1.all
                                              exact ⟨q2, q5, ((unhide G5).low hz5 h2).cells.2.2, (h2.cell (p := ⟨bd, od + J, none⟩) hbdl).trans hcx⟩
                                            have HU2 : Hid (i % L = u2) := hu2.symm
                                            clear hu1' hu2 hu3 hu4 hJ hJe hx hb1 hb2
                                            go_wp2_with fail
                                            refine regionRp _ wr (by simp) p (w.heap.size + 1) P L i A q u1 u2 u3 u4 J g n cap bd od m2 d2 x rfl rfl rfl rfl rfl rfl rfl a1' ⟨hL0, unhide HU2, by omega⟩ a3' a4' a5' hJl ((repAt dt dt' L A m P i cc q).map (Value.int .i64)) w6.heap.size hst'.owns hst'.low.size (by omega)
                                              (fun wx => wx.cell? ⟨p, 2, none⟩ = some (.slice (some ⟨g, 0, none⟩) n cap) ∧ wx.frozen? ⟨p, 2, none⟩ = false ∧ wx.cell? ⟨w.heap.size + 1, 2, none⟩ = some (.slice (some ⟨bd, od, none⟩) m2 d2) ∧ wx.cell? ⟨bd, od + J, none⟩ = some (.int .i64 x)) (fun wx h => h)
                                              (fun wx hb => HSX wx (hst'.box.below (Nat.le_refl _) hb) (hst'.low.trans (hb.mono hst'.low.size))) (fun w7 hg => HSX w7 (hst'.grew1 hg).1 (hst'.grew1 hg).2) (fun _ _ _ _ _ h => h) ?_
                                            intro g' cap' w7 hown' hgrow hat
                                            have hst6 : Hid (Gat w6 p d (some ⟨gs, os, none⟩) M csh ZS (repAt dt dt' L A m P i cc (q + 1)) (n + 1) (w7.setCell ⟨p, 2, none⟩ (.slice (some ⟨g', 0, none⟩) (n + 1) cap')) g' cap') := by
                                              show Gat _ _ _ _ _ _ _ _ _ _ _ _
                                              rw [← unhide HSTEP]
                                              exact hst'.push1 hown' hgrow hat
                                            clear hst' hst hown' hgrow hat HSX hcx
                                            simp only [outRp, Act.put, List.setIfInBounds_toArray, List.set_cons_zero, List.set_cons_succ]
                                            go_wp2_with fail
                                            go_roundw
                                            case rel => exact ⟨q + 1, n + 1, g', cap', by omega, by go_num, hst6⟩
                                            case measure => simp [intOf]; omega
                                          · obtain rfl : q = A := by omega
                                            have hst3 : Hid (Gat w6 p d (some ⟨gs, os, none⟩) M csh ZS (repAt dt dt' L q m P i (cc + 1) 0) n wr g cap) := by
                                              show Gat _ _ _ _ _ _ _ _ _ _ _ _
                                              rw [← repAt_c]
                                              exact unhide hst
                                            go_wp2_with fail
                                            go_roundw
                                            case rel => exact ⟨cc + 1, n, g, cap, by omega, by go_num, hst3⟩
                                            case measure => simp [intOf]; omega
                                      · have HCC : Hid (cc = T) := by show cc = T; omega
                                        have hst3 : Hid (Gat w6 p d (some ⟨gs, os, none⟩) M csh ZS (repAt dt dt' L A m P (i + 1) 0 0) n wr g cap) := by
                                          show Gat _ _ _ _ _ _ _ _ _ _ _ _
                                          rw [← repAt_i, unhide HTN, ← unhide HCC]
                                          exact unhide hst
                                        clear hlc
                                        go_wp2_with fail
                                        have hlcz : decide ((cc : Int) < (T : Int)) = false := decide_eq_false (by have := unhide HCC; omega)
                                        clear hcT
                                        go_big_quiet (fail)
                                        have hlt' : ¬ cc < T := by have := unhide HCC; omega
                                        clear hlcz
                                        go_wp2_with fail
                                        go_roundw
                                        case rel => exact ⟨i + 1, n, g, cap, by omega, by go_num, hide ((unhide hst3).below (Below.drewN (Below.refl _ _) _))⟩
                                        case measure => simp [intOf]; omega
                                  · obtain rfl : i = m := by omega
                                    have hst3 : Hid (Gat w6 p d (some ⟨gs, os, none⟩) M csh ZS (repAt dt dt' L A i (P + 1) 0 0 0) n wr g cap) := by
                                      show Gat _ _ _ _ _ _ _ _ _ _ _ _
                                      rw [← repAt_p]
                                      exact unhide hst
                                    go_wp2_with fail
                                    go_roundw
                                    case rel => exact ⟨P + 1, n, g, cap, by omega, by go_num, hst3⟩
                                    case measure => simp [intOf]; omega
                              · obtain rfl : P = B := by omega
                                have hst' := unhide hst
                                have hnl : n ≤ 2000000000000 := by rw [← hst'.len]; exact unhide HLEN P 0 0 0 hBb (Nat.zero_le _) (by omega)
                                have hst2 : Gat w6 p d (some ⟨gs, os, none⟩) M csh ZS (repAll dt dt' L A m P) n wr g cap := by rw [← repAt_end (m := m)]; exact hst'
                                obtain ⟨ad', cd, hv, hD⟩ := Own.of_owns hst2.owns (by omega)
                                cases hv
                                have Z6 := hide ((unhide G6).low hz6 hst2.low)
                                obtain ⟨v0, v1, v2, v3, v4, v5, v6⟩ := hst2.box.all
                                obtain ⟨q0, q1, q2, q3, q4, q5, q6⟩ := (unhide Z6).all
                                have HW6 := hide ((unhide HB6).trans (hst2.low.mono hB6z))
                                have HO6 := hide hst2.own
                                have HD := hide hD
                                clear hst hst' hst2 hD
                                go_wp2
                                have hx := (unhide Z6).sets (c' := d) (u1 := .slice (some ⟨gs, os, none⟩) M csh) (u2 := .slice (some ⟨g, 0, none⟩) n cap)
                                obtain ⟨r0, r1, r2, _, _, _⟩ := hx.all
                                refine bodyPost_ret (v := .tuple #[.agg #[.bool d, .slice (some ⟨gs, os, none⟩) M csh, .slice (some ⟨g, 0, none⟩) n cap], .int .i64 0]) (by simp [results, Try.results16, go_sem, r0, r1, r2]) rfl ?_
                                rw [unhide HGO]
                                exact ⟨some ⟨gs, os, none⟩, M, csh, some ⟨g, 0, none⟩, n, cap, rfl, (unhide HO6).row.sets (unhide Z6) _ _ _, (unhide HD).row.sets (unhide Z6) _ _ _, (((unhide HW6).setCell (by simp <;> omega) _).setCell (by simp <;> omega) _).setCell (by simp <;> omega) _⟩
      · have HS : Hid (replicateA c d sh dt sh' dt' fl = noAns r) := rep_list (unhide HR1) (unhide HR2) r (by rw [unhide hl1]; exact unhide HLC) hcode
        have hcb : (r != 0) = true := by simp [hcode]
        clear hcode
        go_wp2_with fail
        refine (l4None_any _).mono ?_
        rintro e w9 ⟨rfl, hb9⟩
        obtain ⟨q0, q1, q2, q3, q4, q5, q6⟩ := ((unhide D6).below (Nat.le_refl _) hb9).all
        have hB9 := hide ((unhide hB3).trans (hb9.mono (unhide hB3).size))
        clear hb9 D4 D5 D6 hB3
        go_wp2
        refine bodyPost_ret (v := .tuple #[.agg #[.bool false, .slice none 0 0, .slice none 0 0], .int .i64 r]) (by simp [results, Try.results16, go_sem, q0, q1, q2]) rfl ?_
        rw [unhide HS]
        exact ⟨none, 0, 0, none, 0, 0, rfl, row_nil _ _, row_nil _ _, (((unhide hB9).setCell (by simp <;> omega) _).setCell (by simp <;> omega) _).setCell (by simp <;> omega) _⟩

end Go.Proofs.Ytngbmcljhcckmaa
