import Derived.Test.YtkgcmpmgaghdhaaDoorDecodeMath
import Derived.Test.YtkgcmpmgaghdhaaDoorSpecListN
import Derived.Test.YtkgcmpmgaghdhaaDoorSpecNone
import Derived.Test.YtkgcmpmgaghdhaaDoorSpecTwo
import Derived.Test.YtkgcmpmgaghdhaaDoorSpecBoxes
import Derived.Deep.DeepCutAuto
import Derived.BigQuiet
namespace Go.Proofs.YtkgcmpmgaghdhaaDoor
open Go.RowKit

theorem arr_bd' {c : Bool} {sh dt : List Int} (h : arrOk c sh dt = true) (k : Nat) : -1000000000000000 ≤ dt.getD k 0 ∧ dt.getD k 0 ≤ 1000000000000000 := by
  by_cases hk : k < dt.length
  · have h1 : dt.all (dataOk c) = true := by simp [arrOk] at h; simpa using h.2.2
    have h2 := List.all_eq_true.mp h1 (dt.getD k 0) (by simp [hk])
    simp [dataOk] at h2
    simpa using h2.2
  · have e : dt.getD k 0 = 0 := by simp [List.getD, List.getElem?_eq_none (by omega : dt.length ≤ k)]
    rw [e]; omega

theorem row_one (w : World) (v : Int) : Row (w.alloc (.cells #[.int .i64 v] 3)) (some ⟨w.heap.size, 0, none⟩) 1 [v] := by
  refine ⟨rfl, by omega, .inr ⟨w.heap.size, 0, rfl, by simp, fun i hi => ?_⟩⟩
  have e : i = 0 := by omega
  subst e
  simp

set_option maxRecDepth 20000 in
set_option maxHeartbeats 8000000 in
theorem Decode_any (c d : Bool) (a1 a2 b1 b2 : Addr) (n1 n2 m1 m2 c1 c2 d1 d2 : Nat) (sh dt sh' dt' : List Int) (w : World) (h1 : Row w (some a1) n1 sh) (h2 : Row w (some a2) n2 dt) (k1 : Row w (some b1) m1 sh') (k2 : Row w (some b2) m2 dt') :
    Calls Tryd.prog 5 #[.agg #[.bool c, .slice (some a1) n1 c1, .slice (some a2) n2 c2], .agg #[.bool d, .slice (some b1) m1 d1, .slice (some b2) m2 d2]] w (GivesRow w (decode c d sh dt sh' dt')) := by
  have hl1 := hide h1.len
  have hl2 := hide h2.len
  have hl3 := hide k1.len
  have hl4 := hide k2.len
  have hs1 := h1.small
  have hs2 := h2.small
  have hs3 := k1.small
  have hs4 := k2.small
  have H1 := hide h1
  have H2 := hide h2
  have K1 := hide k1
  have K2 := hide k2
  clear h1 h2 k1 k2
  obtain ⟨r1, hr1⟩ : ∃ r, arrOk c sh dt = r := ⟨_, rfl⟩
  obtain ⟨r2, hr2⟩ : ∃ r, arrOk d sh' dt' = r := ⟨_, rfl⟩
  have HR1 := hide hr1
  have HR2 := hide hr2
  clear hr1 hr2
  go_enter Tryd.func5, Tryd.ntmps5
  go_wp2_with fail
  refine (ArrayOk_eq _ _ _ _ _ _ _ sh dt _ ((((unhide H1).alloc _).alloc _).alloc _) ((((unhide H2).alloc _).alloc _).alloc _) _ HR1).mono ?_
  rintro e w1 ⟨rfl, hb1⟩
  obtain ⟨B4, B5, B6, hB1⟩ := boxes3 hb1
  have hz1 := B6.lt
  clear hb1
  obtain ⟨x0, x1, x2, x3, x4, x5, x6⟩ := B4.all
  obtain ⟨y0, y1, y2, y3, y4, y5, y6⟩ := B5.all
  cases r1 with
  | false =>
    have HS := hide (decode_bad1 (d := d) (sh' := sh') (dt' := dt') (unhide HR1))
    go_wp2_with fail
    refine (l4None_any _).mono ?_
    rintro e w9 ⟨rfl, hb9⟩
    obtain ⟨q0, q1, q2, q3, q4, q5, q6⟩ := (B6.below (Nat.le_refl _) hb9).all
    have hB9 := hide ((hB1).trans (hb9.mono (hB1).size))
    clear hb9 hB1 B4 B5 B6 hz1 x0 x1 x2 x3 x4 x5 x6 y0 y1 y2 y3 y4 y5 y6
    go_wp2
    refine bodyPost_ret (v := .tuple #[.agg #[.bool false, .slice none 0 0, .slice none 0 0], .int .i64 3]) (by simp [results, Tryd.results5, go_sem, q0, q1, q2]) rfl ?_
    rw [unhide HS]
    exact ⟨none, 0, 0, none, 0, 0, rfl, row_nil _ _, row_nil _ _, (((unhide hB9).setCell (by simp <;> omega) _).setCell (by simp <;> omega) _).setCell (by simp <;> omega) _⟩
  | true =>
    go_wp2_with fail
    refine (ArrayOk_eq _ _ _ _ _ _ _ sh' dt' _ ((unhide K1).below (Nat.le_refl _) hB1) ((unhide K2).below (Nat.le_refl _) hB1) _ HR2).mono ?_
    rintro e w2 ⟨rfl, hb2⟩
    have C4 := hide (B4.below (Nat.le_refl _) hb2)
    have C5 := hide (B5.below (Nat.le_refl _) hb2)
    have C6 := hide (B6.below (Nat.le_refl _) hb2)
    have hB2 := hide (hB1.trans (hb2.mono hB1.size))
    clear hb2 hB1 B4 B5 B6 hz1 x0 x1 x2 x3 x4 x5 x6 y0 y1 y2 y3 y4 y5 y6 w1
    cases r2 with
    | false =>
      have HS := hide (decode_bad2 (c := c) (sh := sh) (dt := dt) (unhide HR2))
      go_wp2_with fail
      refine (l4None_any _).mono ?_
      rintro e w9 ⟨rfl, hb9⟩
      obtain ⟨q0, q1, q2, q3, q4, q5, q6⟩ := ((unhide C6).below (Nat.le_refl _) hb9).all
      have hB9 := hide (((unhide hB2)).trans (hb9.mono ((unhide hB2)).size))
      clear hb9 C4 C5 C6 hB2
      go_wp2
      refine bodyPost_ret (v := .tuple #[.agg #[.bool false, .slice none 0 0, .slice none 0 0], .int .i64 3]) (by simp [results, Tryd.results5, go_sem, q0, q1, q2]) rfl ?_
      rw [unhide HS]
      exact ⟨none, 0, 0, none, 0, 0, rfl, row_nil _ _, row_nil _ _, (((unhide hB9).setCell (by simp <;> omega) _).setCell (by simp <;> omega) _).setCell (by simp <;> omega) _⟩
    | true =>
      obtain ⟨x0, x1, x2, x3, x4, x5, x6⟩ := (unhide C4).all
      obtain ⟨rc, hrc⟩ : ∃ r, decCode c d n1 m1 = r := ⟨_, rfl⟩
      have HDC := hide hrc
      clear hrc
      obtain ⟨ra, hra⟩ : ∃ r, listCode c n1 = r := ⟨_, rfl⟩
      have HLA := hide hra
      clear hra
      go_wp2_with fail
      refine (l5List_any c _ _ _ _ _ hs1 ra HLA).mono ?_
      rintro e w3 ⟨rfl, hb3⟩
      have D4 := hide ((unhide C4).below (Nat.le_refl _) hb3)
      have D5 := hide ((unhide C5).below (Nat.le_refl _) hb3)
      have D6 := hide ((unhide C6).below (Nat.le_refl _) hb3)
      have hB3 := hide ((unhide hB2).trans (hb3.mono (unhide hB2).size))
      clear hb3 hB2 C4 C5 C6 x0 x1 x2 x3 x4 x5 x6 w2
      obtain ⟨y0, y1, y2, y3, y4, y5, y6⟩ := (unhide D5).all
      go_upto_if 24 with fail
      go_cut [6] (fun b wx => Below w3.heap.size w3 wx ∧ b = .int .i64 rc)
      case first =>
        by_cases e0 : ra = 0
        · have f0 : (ra == 0) = true := by simp [e0]
          have HLB : Hid (listCode d m1 = rc) := by show _ = _; rw [← unhide HDC]; unfold decCode; rw [if_neg (by rw [unhide HLA]; simp [e0])]
          clear e0
          go_wp2_with (go_at_call 14; refine (l5List_any d _ _ _ _ _ hs3 rc HLB).mono ?_; rintro e w4 ⟨rfl, hb4⟩)
          go_meet
          case rel => exact ⟨hb4, rfl⟩
        · have f0 : (ra == 0) = false := by simp [e0]
          have HE : Hid (ra = rc) := by show _ = _; rw [← unhide HDC]; unfold decCode; rw [if_pos (by rw [unhide HLA]; exact e0)]; exact (unhide HLA).symm
          clear e0
          go_wp2
          go_meet
          case rel => exact ⟨Below.refl _ _, by rw [unhide HE]⟩
      case rest =>
        obtain ⟨w4, hw4⟩ : ∃ x, x = wc := ⟨_, rfl⟩
        subst hw4
        obtain ⟨hb4, rfl⟩ := hcut
        have E4 := hide ((unhide D4).below (Nat.le_refl _) hb4)
        have E5 := hide ((unhide D5).below (Nat.le_refl _) hb4)
        have E6 := hide ((unhide D6).below (Nat.le_refl _) hb4)
        have hB4 := hide ((unhide hB3).trans (hb4.mono (unhide hB3).size))
        clear hb4 hB3 D4 D5 D6 y0 y1 y2 y3 y4 y5 y6 w3 HLA
        by_cases hcode : rc = 0
        · subst hcode
          have HD0 : Hid (decCode c d sh.length sh'.length = 0) := by show _ = _; rw [unhide hl1, unhide hl3]; exact unhide HDC
          obtain ⟨x0, x1, x2, x3, x4, x5, x6⟩ := (unhide E4).all
          obtain ⟨y0, y1, y2, y3, y4, y5, y6⟩ := (unhide E5).all
          obtain ⟨n, hn⟩ : ∃ n, decLen n2 m2 = n := ⟨_, rfl⟩
          have HN := hide hn
          clear hn
          go_upto_if 35 with fail
          go_cut [7] (fun b wx => w4 = wx ∧ b = .int .i64 (n : Nat))
          case first =>
            by_cases e1 : m2 = 1
            · have f1 : ((m2 : Int) == 1) = true := by simp [e1]
              have HE : Hid (n2 = n) := by show _ = _; rw [← unhide HN]; unfold decLen; rw [if_pos e1]
              clear e1
              go_wp2
              go_meet
              case rel => exact ⟨rfl, by rw [unhide HE]⟩
            · have f1 : ((m2 : Int) == 1) = false := by simp; omega
              have HE : Hid (m2 = n) := by show _ = _; rw [← unhide HN]; unfold decLen; rw [if_neg e1]
              clear e1
              go_wp2
              go_meet
              case rel => exact ⟨rfl, by rw [unhide HE]⟩
          case rest =>
            obtain ⟨rfl, rfl⟩ := hcut
            by_cases hbad : n2 ≠ 1 ∧ n2 ≠ n
            · have HS := hide (decode_len (unhide HR1) (unhide HR2) (unhide HD0) n2 m2 (unhide hl2) (unhide hl4) hbad.1 (by rw [unhide HN]; exact hbad.2))
              have f1 : ((n2 : Int) != 1) = true := by simp; omega
              have f2 : ((n2 : Int) != (n : Int)) = true := by simp; omega
              clear hbad
              go_wp2_with fail
              refine (l4None_any _).mono ?_
              rintro e w9 ⟨rfl, hb9⟩
              obtain ⟨q0, q1, q2, q3, q4, q5, q6⟩ := ((unhide E6).below (Nat.le_refl _) hb9).all
              have hB9 := hide (((unhide hB4)).trans (hb9.mono ((unhide hB4)).size))
              clear hb9 E4 E5 E6 hB4 x0 x1 x2 x3 x4 x5 x6 y0 y1 y2 y3 y4 y5 y6
              go_wp2
              refine bodyPost_ret (v := .tuple #[.agg #[.bool false, .slice none 0 0, .slice none 0 0], .int .i64 5]) (by simp [results, Tryd.results5, go_sem, q0, q1, q2]) rfl ?_
              rw [unhide HS]
              exact ⟨none, 0, 0, none, 0, 0, rfl, row_nil _ _, row_nil _ _, (((unhide hB9).setCell (by simp <;> omega) _).setCell (by simp <;> omega) _).setCell (by simp <;> omega) _⟩
            · have hor : n2 = 1 ∨ n2 = n := by omega
              have HGO := hide (decode_go (unhide HR1) (unhide HR2) (unhide HD0) n2 m2 (unhide hl2) (unhide hl4) (by rw [unhide HN]; exact hor))
              rw [unhide HN] at HGO
              have hpos : 0 < n → 0 < n2 ∧ 0 < m2 := by
                intro h0
                have := unhide HN
                unfold decLen at this
                split at this <;> omega
              have hns : n ≤ 17592186044416 := by
                have := unhide HN
                unfold decLen at this
                split at this <;> omega
              have HV1 := hide (arr_bd' (unhide HR1))
              have HV2 := hide (arr_bd' (unhide HR2))
              clear hbad
              go_upto_region 11 with fail
              go_cut [49] (fun b wx => w4 = wx ∧ b = .bool false)
              case first =>
                rcases hor with e1 | e1
                · have f1 : ((n2 : Int) != 1) = false := by simp [e1]
                  clear e1
                  go_wp2
                  go_meet
                  case rel => exact ⟨rfl, rfl⟩
                · by_cases e2 : n2 = 1
                  · have f1 : ((n2 : Int) != 1) = false := by simp [e2]
                    clear e1 e2
                    go_wp2
                    go_meet
                    case rel => exact ⟨rfl, rfl⟩
                  · have f1 : ((n2 : Int) != 1) = true := by simp; omega
                    have f2 : ((n2 : Int) != (n : Int)) = false := by simp [e1]
                    clear e1 e2
                    go_wp2
                    go_meet
                    case rel => exact ⟨rfl, rfl⟩
              case rest =>
                obtain ⟨rfl, rfl⟩ := hcut
                have hz4 := (unhide E4).lt
                have hz5 := (unhide E5).lt
                have hz6 := (unhide E6).lt
                clear x0 x1 x2 x3 x4 x5 x6 y0 y1 y2 y3 y4 y5 y6 hor
                go_wp2_with fail
                go_loopw [8, 9] (fun a i wr => ∃ (k : Nat) (v : Int), k ≤ n ∧ i = .int .i64 (k : Nat) ∧ a = .int .i64 v ∧ Hid (decStep dt dt' n2 m2 k = some v) ∧ Hid (-1000000000000000 ≤ v ∧ v ≤ 1000000000000000) ∧ Hid (Below w4.heap.size w4 wr)) (fun _ i _ => n - (intOf i).toNat)
                case atStart => exact ⟨0, 0, Nat.zero_le _, rfl, rfl, rfl, by show _ ∧ _; omega, Below.refl _ _⟩
                case round =>
                  obtain ⟨k, v, hk, rfl, rfl, hdec, hvb, hbl⟩ := hrel
                  have HW := hide ((unhide hB4).trans ((unhide hbl).mono (unhide hB4).size))
                  have G6 := hide ((unhide E6).low hz6 (unhide hbl))
                  obtain ⟨x0, x1, x2, x3, x4, x5, x6⟩ := ((unhide E4).low hz4 (unhide hbl)).all
                  obtain ⟨y0, y1, y2, y3, y4, y5, y6⟩ := ((unhide E5).low hz5 (unhide hbl)).all
                  by_cases hlt : k < n
                  · obtain ⟨hn2, hm2⟩ := hpos (by omega)
                    obtain ⟨j, hj⟩ : ∃ j, j = k % n2 := ⟨_, rfl⟩
                    obtain ⟨l, hl⟩ : ∃ l, l = k % m2 := ⟨_, rfl⟩
                    have hjl : j < n2 := by rw [hj]; exact Nat.mod_lt _ hn2
                    have hll : l < m2 := by rw [hl]; exact Nat.mod_lt _ hm2
                    have hq1 : (k : Int).tmod (n2 : Int) = (j : Int) := by rw [Int.tmod_eq_emod_of_nonneg (by omega), hj]; rfl
                    have hq2 : (k : Int) % (n2 : Int) = (j : Int) := by rw [hj]; rfl
                    have hq3 : (k : Int).tmod (m2 : Int) = (l : Int) := by rw [Int.tmod_eq_emod_of_nonneg (by omega), hl]; rfl
                    have hq4 : (k : Int) % (m2 : Int) = (l : Int) := by rw [hl]; rfl
                    have hj1 : (j : Int) < (n2 : Int) := by omega
                    have hl1' : (l : Int) < (m2 : Int) := by omega
                    have g1 : ((n2 : Int) == 0) = false := by simp; omega
                    have g2 : ((m2 : Int) == 0) = false := by simp; omega
                    have g3 : ¬ n2 = 0 := by omega
                    have g4 : ¬ m2 = 0 := by omega
                    obtain ⟨ba, oa, hab, hblt, hca⟩ := (unhide H2).get hjl
                    cases hab
                    obtain ⟨bb, ob, hab, hblt', hcb⟩ := (unhide K2).get hll
                    cases hab
                    have hca' := ((unhide HW).cell (p := ⟨ba, oa + j, none⟩) hblt).trans hca
                    have hcb' := ((unhide HW).cell (p := ⟨bb, ob + l, none⟩) hblt').trans hcb
                    have hxb := unhide HV1 j
                    have hyb := unhide HV2 l
                    obtain ⟨x, hx⟩ : ∃ x, x = dt.getD j 0 := ⟨_, rfl⟩
                    obtain ⟨y, hy⟩ : ∃ y, y = dt'.getD l 0 := ⟨_, rfl⟩
                    rw [← hx] at hca' hxb
                    rw [← hy] at hcb' hyb
                    obtain ⟨r, hr⟩ : ∃ r, timesOf v x = r := ⟨_, rfl⟩
                    obtain ⟨r1, r2⟩ := r
                    have HT := hide hr
                    have hrb := times_bd hr
                    obtain ⟨hrb1, hrb2⟩ := hrb
                    obtain ⟨hyb1, hyb2⟩ := hyb
                    have HSTEP : Hid (decStep dt dt' n2 m2 (k + 1) = if r2 = true ∧ inM (r1 + y) = true then some (r1 + y) else none) := by
                      show _ = _
                      have := dec_step (r1 := r1) (r2 := r2) (unhide hdec) (by rw [← hj, ← hx]; exact hr)
                      rw [← hl, ← hy] at this
                      exact this
                    clear hr hx hy hca hcb hj hl hdec
                    cases r2 with
                    | false =>
                      have HS : Hid (decode c d sh dt sh' dt' = noAns 7) := by
                        show _ = _
                        have h1 := unhide HSTEP
                        rw [if_neg (by simp)] at h1
                        rw [unhide HGO, dec_none h1 (by omega)]; rfl
                      have HIM : Hid (inM (r1 + y) = inM (r1 + y)) := rfl
                      go_wp2
                      go_quiet ((go_at_call 15; exact Calls.quiet_of_same (l4Times_eq _ _ _ (unhide hvb) hxb r1 false HT)))
                      go_wp2
                      go_quiet (fail)
                      go_wp2_with (go_at_call 16; refine (l4In_any _ _).mono ?_; rw [unhide HIM]; rintro e wq ⟨rfl, rfl⟩)
                      refine (l4None_any _).mono ?_
                      rintro e w9 ⟨rfl, hb9⟩
                      have hb9' : Below wr.heap.size wr w9 := Below.trans (by repeat (first | exact Below.refl _ _ | refine Below.drewN ?_ _ | refine Below.drew ?_)) (hb9.mono (by simp))
                      obtain ⟨q0, q1, q2, q3, q4, q5, q6⟩ := ((unhide G6).below (Nat.le_refl _) hb9').all
                      have hB9 := hide ((unhide HW).trans (hb9'.mono (unhide HW).size))
                      clear hb9 hb9'
                      go_wp2
                      refine bodyPost_ret (v := .tuple #[.agg #[.bool false, .slice none 0 0, .slice none 0 0], .int .i64 7]) (by simp [results, Tryd.results5, go_sem, q0, q1, q2]) rfl ?_
                      rw [unhide HS]
                      exact ⟨none, 0, 0, none, 0, 0, rfl, row_nil _ _, row_nil _ _, (((unhide hB9).setCell (by simp <;> omega) _).setCell (by simp <;> omega) _).setCell (by simp <;> omega) _⟩
                    | true =>
                      cases him : inM (r1 + y) with
                      | false =>
                        have HIM := hide him
                        have HS : Hid (decode c d sh dt sh' dt' = noAns 7) := by
                          show _ = _
                          have h1 := unhide HSTEP
                          rw [if_neg (by simp [him])] at h1
                          rw [unhide HGO, dec_none h1 (by omega)]; rfl
                        clear him
                        go_wp2
                        go_quiet ((go_at_call 15; exact Calls.quiet_of_same (l4Times_eq _ _ _ (unhide hvb) hxb r1 true HT)))
                        go_wp2
                        go_quiet (fail)
                        go_wp2_with (go_at_call 16; refine (l4In_any _ _).mono ?_; rw [unhide HIM]; rintro e wq ⟨rfl, rfl⟩)
                        refine (l4None_any _).mono ?_
                        rintro e w9 ⟨rfl, hb9⟩
                        have hb9' : Below wr.heap.size wr w9 := Below.trans (by repeat (first | exact Below.refl _ _ | refine Below.drewN ?_ _ | refine Below.drew ?_)) (hb9.mono (by simp))
                        obtain ⟨q0, q1, q2, q3, q4, q5, q6⟩ := ((unhide G6).below (Nat.le_refl _) hb9').all
                        have hB9 := hide ((unhide HW).trans (hb9'.mono (unhide HW).size))
                        clear hb9 hb9'
                        go_wp2
                        refine bodyPost_ret (v := .tuple #[.agg #[.bool false, .slice none 0 0, .slice none 0 0], .int .i64 7]) (by simp [results, Tryd.results5, go_sem, q0, q1, q2]) rfl ?_
                        rw [unhide HS]
                        exact ⟨none, 0, 0, none, 0, 0, rfl, row_nil _ _, row_nil _ _, (((unhide hB9).setCell (by simp <;> omega) _).setCell (by simp <;> omega) _).setCell (by simp <;> omega) _⟩
                      | true =>
                        have HIM := hide him
                        have HNX : Hid (decStep dt dt' n2 m2 (k + 1) = some (r1 + y)) := by
                          show _ = _
                          have h1 := unhide HSTEP
                          rwa [if_pos ⟨rfl, him⟩] at h1
                        have HBD : Hid (-1000000000000000 ≤ r1 + y ∧ r1 + y ≤ 1000000000000000) := inM_bd him
                        clear him
                        go_wp2
                        go_quiet ((go_at_call 15; exact Calls.quiet_of_same (l4Times_eq _ _ _ (unhide hvb) hxb r1 true HT)))
                        go_wp2
                        go_quiet (fail)
                        go_wp2_with (go_at_call 16; refine (l4In_any _ _).mono ?_; rw [unhide HIM]; rintro e wq ⟨rfl, rfl⟩)
                        go_roundw
                        case rel => exact ⟨k + 1, r1 + y, by omega, by go_num, rfl, HNX, HBD, (by show Below _ _ _; repeat (first | exact unhide hbl | refine Below.drewN ?_ _ | refine Below.drew ?_))⟩
                        case measure => simp [intOf]; omega
                  · have hkn : k = n := by omega
                    subst hkn
                    have HS : Hid (decode c d sh dt sh' dt' = ⟨false, [], [v], 0⟩) := by show _ = _; rw [unhide HGO, unhide hdec]; rfl
                    obtain ⟨q0, q1, q2, q3, q4, q5, q6⟩ := (unhide G6).all
                    have q7 : w.heap.size + 1 + 1 < wr.heap.size := q6
                    have q8 : w.heap.size + 1 + 1 < wr.heap.size + 1 := by omega
                    go_wp2
                    refine bodyPost_ret (v := .tuple #[.agg #[.bool false, .slice (some ⟨wr.heap.size, 0, none⟩) 0 0, .slice (some ⟨wr.heap.size + 1, 0, none⟩) 1 1], .int .i64 0]) (by simp [results, Tryd.results5, go_sem, q0, q1, q2, q7, q8, World.cell?_alloc_past]) rfl ?_
                    rw [unhide HS]
                    refine ⟨some ⟨wr.heap.size, 0, none⟩, 0, 0, some ⟨wr.heap.size + 1, 0, none⟩, 1, 1, rfl, row_nil _ _, ?_, ?_⟩
                    · have h1 := row_one ((((wr.setCell ⟨w.heap.size + 1 + 1, 0, none⟩ (.bool false)).setCell ⟨w.heap.size + 1 + 1, 1, none⟩ (.slice (some ⟨wr.heap.size, 0, none⟩) 0 0)).setCell ⟨w.heap.size + 1 + 1, 2, none⟩ (.slice (some ⟨wr.heap.size + 1, 0, none⟩) 1 1)).alloc (.cells #[] 3)) v
                      simpa using h1
                    · repeat (first | exact unhide HW | refine Below.setCell ?_ (by simp <;> omega) _ | refine Below.alloc ?_ (by have := (unhide HW).size; first | omega | (simp <;> omega)) _)
        · have HS := hide (decode_list (unhide HR1) (unhide HR2) rc (by rw [unhide hl1, unhide hl3]; exact unhide HDC) hcode)
          have hcb : (rc != 0) = true := by simp [hcode]
          clear hcode
          go_wp2_with fail
          refine (l4None_any _).mono ?_
          rintro e w9 ⟨rfl, hb9⟩
          obtain ⟨q0, q1, q2, q3, q4, q5, q6⟩ := ((unhide E6).below (Nat.le_refl _) hb9).all
          have hB9 := hide (((unhide hB4)).trans (hb9.mono ((unhide hB4)).size))
          clear hb9 E4 E5 E6 hB4
          go_wp2
          refine bodyPost_ret (v := .tuple #[.agg #[.bool false, .slice none 0 0, .slice none 0 0], .int .i64 rc]) (by simp [results, Tryd.results5, go_sem, q0, q1, q2]) rfl ?_
          rw [unhide HS]
          exact ⟨none, 0, 0, none, 0, 0, rfl, row_nil _ _, row_nil _ _, (((unhide hB9).setCell (by simp <;> omega) _).setCell (by simp <;> omega) _).setCell (by simp <;> omega) _⟩

end Go.Proofs.YtkgcmpmgaghdhaaDoor
