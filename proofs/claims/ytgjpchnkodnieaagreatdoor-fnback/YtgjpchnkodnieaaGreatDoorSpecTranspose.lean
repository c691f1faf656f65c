import Derived.Test.YtgjpchnkodnieaaGreatDoorSpecTransB
import Derived.Test.YtgjpchnkodnieaaGreatDoorSpecTransR
import Derived.Test.YtgjpchnkodnieaaGreatDoorSpecRotate
namespace Go.Proofs.YtgjpchnkodnieaaGreatDoor
open Go.RowKit

set_option maxRecDepth 20000 in
set_option maxHeartbeats 8000000 in
theorem Transpose_any (c d : Bool) (a1 a2 b1 b2 : Addr) (n1 n2 m1 m2 c1 c2 d1 d2 : Nat) (sh dt sh' dt' : List Int) (w : World) (h1 : Row w (some a1) n1 sh) (h2 : Row w (some a2) n2 dt) (k1 : Row w (some b1) m1 sh') (k2 : Row w (some b2) m2 dt') :
    Calls Tryz.prog 14 #[.agg #[.bool c, .slice (some a1) n1 c1, .slice (some a2) n2 c2], .agg #[.bool d, .slice (some b1) m1 d1, .slice (some b2) m2 d2]] w (GivesRow w (transpose c d sh dt sh' dt')) := by
  have hl1 := hide h1.len
  have hl2 := hide h2.len
  have hl3 := hide k1.len
  have hl4 := hide k2.len
  have hs1 := h1.small
  have hs2 := h2.small
  have hs3 := k1.small
  have hs4 := k2.small
  have H1 := hide h1
  have H2 := hide h2
  have K1 := hide k1
  have K2 := hide k2
  clear h1 h2 k1 k2
  obtain ⟨r1, hr1⟩ : ∃ r, arrOk c sh dt = r := ⟨_, rfl⟩
  obtain ⟨r2, hr2⟩ : ∃ r, arrOk d sh' dt' = r := ⟨_, rfl⟩
  have HR1 := hide hr1
  have HR2 := hide hr2
  clear hr1 hr2
  go_enter Tryz.func14, Tryz.ntmps14
  go_wp2_with fail
  refine (ArrayOk_eq _ _ _ _ _ _ _ sh dt _ ((((unhide H1).alloc _).alloc _).alloc _) ((((unhide H2).alloc _).alloc _).alloc _) _ HR1).mono ?_
  rintro e w1 ⟨rfl, hb1⟩
  obtain ⟨B4, B5, B6, hB1⟩ := boxes3 hb1
  have hz1 := B6.lt
  clear hb1
  obtain ⟨x0, x1, x2, x3, x4, x5, x6⟩ := B4.all
  obtain ⟨y0, y1, y2, y3, y4, y5, y6⟩ := B5.all
  cases r1 with
  | false =>
    have HS : Hid (transpose c d sh dt sh' dt' = noAns 3) := transpose_bad1 (unhide HR1)
    go_wp2_with fail
    refine (l4None_any _).mono ?_
    rintro e w9 ⟨rfl, hb9⟩
    obtain ⟨q0, q1, q2, q3, q4, q5, q6⟩ := ((B6).below (Nat.le_refl _) hb9).all
    have hB9 := hide ((hB1).trans (hb9.mono (hB1).size))
    clear hb9 hB1 B4 B5 B6 hz1 x0 x1 x2 x3 x4 x5 x6 y0 y1 y2 y3 y4 y5 y6
    go_wp2
    refine bodyPost_ret (v := .tuple #[.agg #[.bool false, .slice none 0 0, .slice none 0 0], .int .i64 3]) (by simp [results, Tryz.results14, go_sem, q0, q1, q2]) rfl ?_
    rw [unhide HS]
    exact ⟨none, 0, 0, none, 0, 0, rfl, row_nil _ _, row_nil _ _, (((unhide hB9).setCell (by simp <;> omega) _).setCell (by simp <;> omega) _).setCell (by simp <;> omega) _⟩
  | true =>
    go_wp2_with fail
    refine (ArrayOk_eq _ _ _ _ _ _ _ sh' dt' _ ((unhide K1).below (Nat.le_refl _) hB1) ((unhide K2).below (Nat.le_refl _) hB1) _ HR2).mono ?_
    rintro e w2 ⟨rfl, hb2⟩
    have C4 := hide (B4.below (Nat.le_refl _) hb2)
    have C5 := hide (B5.below (Nat.le_refl _) hb2)
    have C6 := hide (B6.below (Nat.le_refl _) hb2)
    have hB2 := hide (hB1.trans (hb2.mono hB1.size))
    clear hb2 hB1 B4 B5 B6 hz1 x0 x1 x2 x3 x4 x5 x6 y0 y1 y2 y3 y4 y5 y6 w1
    cases r2 with
    | false =>
      have HS : Hid (transpose c d sh dt sh' dt' = noAns 3) := transpose_bad2 (unhide HR2)
      go_wp2_with fail
      refine (l4None_any _).mono ?_
      rintro e w9 ⟨rfl, hb9⟩
      obtain ⟨q0, q1, q2, q3, q4, q5, q6⟩ := ((unhide C6).below (Nat.le_refl _) hb9).all
      have hB9 := hide ((unhide hB2).trans (hb9.mono (unhide hB2).size))
      clear hb9 C4 C5 C6 hB2
      go_wp2
      refine bodyPost_ret (v := .tuple #[.agg #[.bool false, .slice none 0 0, .slice none 0 0], .int .i64 3]) (by simp [results, Tryz.results14, go_sem, q0, q1, q2]) rfl ?_
      rw [unhide HS]
      exact ⟨none, 0, 0, none, 0, 0, rfl, row_nil _ _, row_nil _ _, (((unhide hB9).setCell (by simp <;> omega) _).setCell (by simp <;> omega) _).setCell (by simp <;> omega) _⟩
    | true =>
      obtain ⟨x0, x1, x2, x3, x4, x5, x6⟩ := (unhide C4).all
      obtain ⟨y0, y1, y2, y3, y4, y5, y6⟩ := (unhide C5).all
      obtain ⟨r, hr⟩ : ∃ r, listCode c n1 = r := ⟨_, rfl⟩
      have HLC := hide hr
      have HCC : Hid (listCode c sh.length = r) := by rw [unhide hl1]; exact hr
      clear hr
      go_upto_region 4 with (go_at_call 54; refine (l5List_any c _ _ _ _ _ hs1 r HLC).mono ?_; rintro e w3 ⟨rfl, hb3⟩; have HB3 := hide hb3; clear hb3)
      have D4 := hide ((unhide C4).below (Nat.le_refl _) (unhide HB3))
      have D5 := hide ((unhide C5).below (Nat.le_refl _) (unhide HB3))
      have D6 := hide ((unhide C6).below (Nat.le_refl _) (unhide HB3))
      have hB3 := hide ((unhide hB2).trans ((unhide HB3).mono (unhide hB2).size))
      clear C4 C5 C6 hB2 HB3 x0 x1 x2 x3 x4 x5 x6 y0 y1 y2 y3 y4 y5 y6 w2
      by_cases h0 : r = 0
      · subst h0
        obtain ⟨x0, x1, x2, x3, x4, x5, x6⟩ := (unhide D4).all
        obtain ⟨y0, y1, y2, y3, y4, y5, y6⟩ := (unhide D5).all
        by_cases hlen : n2 = m1
        · subst hlen
          have hn5 : n2 ≤ 5 := by rw [← unhide hl3]; exact (shapeIn_of (unhide HR2)).2.2
          have hmk := run_make_row' (P := Tryz.prog) 23 3 (.int .i64 0) 8 Tryz.underlying23 info_int rfl .i64 .i64 n2 (by omega) (by omega)
          have hmb := run_make_row' (P := Tryz.prog) 79 4 (.bool false) 1 Tryz.underlying79 info_boolT rfl .i64 .i64 n2 (by omega) (by omega)
          go_upto_region 9 with fail
          go_cut [8] (fun r wx => LaidTr w3 d n2 r wx)
          case first =>
            as_aux_lemma =>
              go_region
              all_goals go_wp2_with fail
              all_goals go_meet
              all_goals case rel =>
                apply laidT_of
                · (repeat (first | with_reducible exact Box.new' (by first | rfl | (simp; done) | (simp <;> omega)) | with_reducible refine Box.sets ?_ | with_reducible refine Box.alloc ?_ _ | with_reducible refine Box.drew ?_))
                · (repeat (first | with_reducible exact Blk.made _ _ _ (by first | rfl | (simp; done) | (simp <;> omega)) | with_reducible exact Blk.new' (by first | rfl | (simp; done) | (simp <;> omega)) | with_reducible refine Blk.alloc ?_ _ | with_reducible refine Blk.drew ?_ | with_reducible refine Blk.other ?_ (by first | omega | (simp <;> omega)) _))
                · (repeat (first | with_reducible exact Blk.made _ _ _ (by first | rfl | (simp; done) | (simp <;> omega)) | with_reducible exact Blk.new' (by first | rfl | (simp; done) | (simp <;> omega)) | with_reducible refine Blk.alloc ?_ _ | with_reducible refine Blk.drew ?_ | with_reducible refine Blk.other ?_ (by first | omega | (simp <;> omega)) _))
                · (repeat (first | with_reducible exact Below.refl _ _ | with_reducible refine Below.drew ?_ | with_reducible refine Below.alloc ?_ (by first | omega | (simp <;> omega)) _ | with_reducible refine Below.setCell ?_ (by first | omega | (simp <;> omega)) _))
                · refine ⟨?_, ?_, ?_, ?_, ?_, ?_⟩ <;> first | omega | (simp; done) | (simp <;> omega)
          case rest =>
            obtain ⟨w4, hw4⟩ : ∃ x, x = wc := ⟨_, rfl⟩
            subst hw4
            obtain ⟨p, gs, g0, rfl, hbx, hks, hk0, hb4, hp, hgs, hg0, hne1, hne2, hne3⟩ := hcut
            have hw34 := hb4.size
            have hz6 := (unhide D6).lt
            have E4 := hide ((unhide D4).below (Nat.le_refl _) hb4)
            have E5 := hide ((unhide D5).below (Nat.le_refl _) hb4)
            have E6 := hide ((unhide D6).below (Nat.le_refl _) hb4)
            have HW4 := hide ((unhide hB3).trans (hb4.mono (unhide hB3).size))
            have HBX := hide hbx
            have HKS := hide hks
            have HK0 := hide hk0
            have hpl := hbx.lt
            have hgsl := hks.lt
            have hg0l := hk0.lt
            clear hbx hks hk0 hb4 x0 x1 x2 x3 x4 x5 x6 y0 y1 y2 y3 y4 y5 y6 D4 D5 D6 hB3
            go_upto_region 11 with fail
            have F4 := hide ((unhide E4).alloc (.cells (madeCells #[.bool false] n2) 4))
            have F5 := hide ((unhide E5).alloc (.cells (madeCells #[.bool false] n2) 4))
            have F6 := hide ((unhide E6).alloc (.cells (madeCells #[.bool false] n2) 4))
            have FBX := hide ((unhide HBX).alloc (.cells (madeCells #[.bool false] n2) 4))
            have FKS := hide ((unhide HKS).alloc (.cells (madeCells #[.bool false] n2) 4))
            have FK0 := hide ((unhide HK0).alloc (.cells (madeCells #[.bool false] n2) 4))
            have FSB := hide (BBlk.made w4 n2 w4.heap.size rfl)
            have FW : Hid (Below w.heap.size w (w4.alloc (.cells (madeCells #[.bool false] n2) 4))) := (unhide HW4).alloc (by have := (unhide HW4).size; omega) _
            have hWz : (w4.alloc (.cells (madeCells #[.bool false] n2) 4)).heap.size = w4.heap.size + 1 := by simp
            generalize w4.alloc (.cells (madeCells #[.bool false] n2) 4) = W at *
            generalize w4.heap.size = gb at *
            generalize w3.heap.size = H at *
            clear E4 E5 E6 HBX HKS HK0 HW4
            go_wp2_with fail
            go_loopw [10] (fun v wr => ∃ i : Nat, i ≤ n2 ∧ v = .int .i64 (i : Nat) ∧ Hid (orderOk dt n2 i = true) ∧ Hid (Blk wr gs (turnN dt sh' n2 i)) ∧ Hid (BBlk wr gb (seenN dt n2 i)) ∧ Hid (Box wr p d (.slice (some ⟨gs, 0, none⟩) n2 n2) (.slice (some ⟨g0, 0, none⟩) 0 0)) ∧ Hid (Blk wr g0 []) ∧ Hid (Below H W wr)) (fun v _ => n2 - (intOf v).toNat)
            case atStart => exact ⟨0, Nat.zero_le _, rfl, rfl, FKS, FSB, FBX, FK0, Below.refl _ _⟩
            case round =>
              obtain ⟨i, hi, rfl, hord, hsh, hse, hbx, hk0, hlow⟩ := hrel
              clear FKS FSB FBX FK0
              have G4 := hide ((unhide F4).low (by omega) (unhide hlow))
              have G5 := hide ((unhide F5).low (by omega) (unhide hlow))
              have G6 := hide ((unhide F6).low (by omega) (unhide hlow))
              have GW := hide ((unhide FW).trans ((unhide hlow).mono (by omega)))
              obtain ⟨x0, x1, x2, x3, x4, x5, x6⟩ := (unhide G4).all
              obtain ⟨y0, y1, y2, y3, y4, y5, y6⟩ := (unhide G5).all
              obtain ⟨v0, v1, v2, v3, v4, v5, v6⟩ := (unhide hbx).all
              by_cases hlt : i < n2
              · obtain ⟨bk, ok, hab, hbk, hck⟩ := (unhide H2).get hlt
                cases hab
                have hckr := ((unhide GW).cell (p := ⟨bk, ok + i, none⟩) hbk).trans hck
                obtain ⟨be, oe, hab, hbe, hce⟩ := (unhide K1).get hlt
                cases hab
                have hcer := ((unhide GW).cell (p := ⟨be, oe + i, none⟩) hbe).trans hce
                have hxb := dataOk_bd (unhide HR1) (k := i) (by rw [unhide hl2]; exact hlt)
                obtain ⟨x, hx⟩ : ∃ x, x = dt.getD i 0 := ⟨_, rfl⟩
                obtain ⟨y, hy⟩ : ∃ y, y = sh'.getD i 0 := ⟨_, rfl⟩
                rw [← hx] at hckr hxb
                rw [← hy] at hcer
                have HX := hide hx
                have HY := hide hy
                clear hx hy hck hce
                by_cases hx0 : x < 1
                · have HS : Hid (transpose c d sh dt sh' dt' = noAns 3) := transpose_dom (unhide HR1) (unhide HR2) (unhide HCC) (by rw [unhide hl2, unhide hl3]) (by rw [unhide hl3]; exact order_bad hlt (by unfold stepOk; rw [← unhide HX, decide_eq_false (by omega)]; rfl))
                  have g0' : x - 1 < 0 := by omega
                  clear hx0
                  go_wp2_with fail
                  refine (l4None_any _).mono ?_
                  rintro e w9 ⟨rfl, hb9⟩
                  obtain ⟨q0, q1, q2, q3, q4, q5, q6⟩ := ((unhide G6).below (Nat.le_refl _) hb9).all
                  have hB9 := hide ((unhide GW).trans (hb9.mono (unhide GW).size))
                  clear hb9 G4 G5 G6 GW x0 x1 x2 x3 x4 x5 x6 y0 y1 y2 y3 y4 y5 y6 v0 v1 v2 v3 v4 v5 v6
                  go_wp2
                  refine bodyPost_ret (v := .tuple #[.agg #[.bool false, .slice none 0 0, .slice none 0 0], .int .i64 3]) (by simp [results, Tryz.results14, go_sem, q0, q1, q2]) rfl ?_
                  rw [unhide HS]
                  exact ⟨none, 0, 0, none, 0, 0, rfl, row_nil _ _, row_nil _ _, (((unhide hB9).setCell (by simp <;> omega) _).setCell (by simp <;> omega) _).setCell (by simp <;> omega) _⟩
                · by_cases hxn : (n2 : Int) < x
                  · have HS : Hid (transpose c d sh dt sh' dt' = noAns 3) := transpose_dom (unhide HR1) (unhide HR2) (unhide HCC) (by rw [unhide hl2, unhide hl3]) (by rw [unhide hl3]; exact order_bad hlt (by unfold stepOk; rw [← unhide HX, decide_eq_false (by omega)]; rfl))
                    have g0' : (n2 : Int) ≤ x - 1 := by omega
                    have g1' : ¬ (x - 1 < 0) := by omega
                    clear hx0 hxn
                    go_wp2_with fail
                    refine (l4None_any _).mono ?_
                    rintro e w9 ⟨rfl, hb9⟩
                    obtain ⟨q0, q1, q2, q3, q4, q5, q6⟩ := ((unhide G6).below (Nat.le_refl _) hb9).all
                    have hB9 := hide ((unhide GW).trans (hb9.mono (unhide GW).size))
                    clear hb9 G4 G5 G6 GW x0 x1 x2 x3 x4 x5 x6 y0 y1 y2 y3 y4 y5 y6 v0 v1 v2 v3 v4 v5 v6
                    go_wp2
                    refine bodyPost_ret (v := .tuple #[.agg #[.bool false, .slice none 0 0, .slice none 0 0], .int .i64 3]) (by simp [results, Tryz.results14, go_sem, q0, q1, q2]) rfl ?_
                    rw [unhide HS]
                    exact ⟨none, 0, 0, none, 0, 0, rfl, row_nil _ _, row_nil _ _, (((unhide hB9).setCell (by simp <;> omega) _).setCell (by simp <;> omega) _).setCell (by simp <;> omega) _⟩
                  · obtain ⟨k, hk⟩ : ∃ k : Nat, x = (k : Int) + 1 := ⟨(x - 1).toNat, by omega⟩
                    have hkn : k < n2 := by omega
                    have HAX : Hid (axNo dt i = k) := by show _ = _; unfold axNo; rw [← unhide HX, hk]; omega
                    have hcs := (unhide hse).cell (i := k) (by rw [seenN_len]; exact hkn)
                    have hfs := (unhide hse).free k
                    have hct := (unhide hsh).cell (i := k) (by rw [turnN_len]; exact hkn)
                    have hft := (unhide hsh).free k
                    obtain ⟨sb, hsb⟩ : ∃ b, b = (seenN dt n2 i).getD k false := ⟨_, rfl⟩
                    rw [← hsb] at hcs
                    have HSK : Hid (stepOk dt n2 i = !sb) := by
                      show _ = _
                      unfold stepOk
                      rw [← unhide HX, decide_eq_true (by omega), unhide HAX, hsb]; rfl
                    subst hk
                    have hwk : IntKind.i64.wrap ((k : Int) + 1 - 1) = (k : Int) := by rw [IntKind.wrap_i64]; omega
                    clear hsb hx0 hxn
                    cases sb with
                    | true =>
                      have HS : Hid (transpose c d sh dt sh' dt' = noAns 3) := transpose_dom (unhide HR1) (unhide HR2) (unhide HCC) (by rw [unhide hl2, unhide hl3]) (by rw [unhide hl3]; exact order_bad hlt (unhide HSK))
                      go_wp2_with fail
                      refine (l4None_any _).mono ?_
                      rintro e w9 ⟨rfl, hb9⟩
                      obtain ⟨q0, q1, q2, q3, q4, q5, q6⟩ := ((unhide G6).below (Nat.le_refl _) hb9).all
                      have hB9 := hide ((unhide GW).trans (hb9.mono (unhide GW).size))
                      clear hb9 G4 G5 G6 GW x0 x1 x2 x3 x4 x5 x6 y0 y1 y2 y3 y4 y5 y6 v0 v1 v2 v3 v4 v5 v6
                      go_wp2
                      refine bodyPost_ret (v := .tuple #[.agg #[.bool false, .slice none 0 0, .slice none 0 0], .int .i64 3]) (by simp [results, Tryz.results14, go_sem, q0, q1, q2]) rfl ?_
                      rw [unhide HS]
                      exact ⟨none, 0, 0, none, 0, 0, rfl, row_nil _ _, row_nil _ _, (((unhide hB9).setCell (by simp <;> omega) _).setCell (by simp <;> omega) _).setCell (by simp <;> omega) _⟩
                    | false =>
                      have HO1 : Hid (orderOk dt n2 (i + 1) = true) := by show (orderOk dt n2 i && stepOk dt n2 i) = true; rw [unhide hord, unhide HSK]; rfl
                      go_upto_region 18 with fail
                      have I4 := hide ((unhide G4).other (q := ⟨gb, k, none⟩) (by show w.heap.size ≠ gb; omega) (.bool true))
                      have I5 := hide ((unhide G5).other (q := ⟨gb, k, none⟩) (by show w.heap.size + 1 ≠ gb; omega) (.bool true))
                      have IBX := hide ((unhide hbx).other (q := ⟨gb, k, none⟩) (by show p ≠ gb; omega) (.bool true))
                      have ISH := hide ((unhide hsh).other (p := ⟨gb, k, none⟩) (by show gs ≠ gb; omega) (.bool true))
                      have IK0 := hide ((unhide hk0).other (p := ⟨gb, k, none⟩) (by show g0 ≠ gb; omega) (.bool true))
                      have ISE := hide ((unhide hse).set k true)
                      have ILW := hide ((unhide hlow).setCell (p := ⟨gb, k, none⟩) (by show H ≤ gb; omega) (.bool true))
                      have IW := hide ((unhide GW).setCell (p := ⟨gb, k, none⟩) (by show w.heap.size ≤ gb; omega) (.bool true))
                      clear x0 x1 x2 x3 x4 x5 x6 y0 y1 y2 y3 y4 y5 y6 v0 v1 v2 v3 v4 v5 v6 hcs hfs hct hft hckr hcer G4 G5 hbx hsh hk0 hse hlow GW G6
                      generalize wr.setCell ⟨gb, k, none⟩ (.bool true) = w7 at *
                      have hbew : be < w7.heap.size := Nat.lt_of_lt_of_le hbe (unhide IW).size
                      have hceY : w7.cell? ⟨be, oe + i, none⟩ = some (.int .i64 y) := by
                        obtain ⟨be', oe', hab', _, hc'⟩ := ((unhide K1).below (Nat.le_refl _) (unhide IW)).get hlt
                        cases hab'
                        rw [hc', unhide HY]
                      have hct := (unhide ISH).cell (i := k) (by rw [turnN_len]; exact hkn)
                      have hft := (unhide ISH).free k
                      obtain ⟨x0, x1, x2, x3, x4, x5, x6⟩ := (unhide I5).all
                      obtain ⟨v0, v1, v2, v3, v4, v5, v6⟩ := (unhide IBX).all
                      have HKEEP : ∀ wx, But (fun k => k = gs) w7 wx → But (fun k => k = gs) w7 wx ∧ wx.cell? ⟨p, 1, none⟩ = some (.slice (some ⟨gs, 0, none⟩) n2 n2) ∧ wx.cell? ⟨w.heap.size + 1, 1, none⟩ = some (.slice (some ⟨be, oe, none⟩) n2 d1) ∧ wx.cell? ⟨be, oe + i, none⟩ = some (.int .i64 y) := fun wx hwx => ⟨hwx, ((unhide IBX).but hwx (fun e => hne2 e.symm)).cells.2.1, ((unhide I5).but hwx (by show ¬ (w.heap.size + 1 = gs); omega)).cells.2.1, (hwx.cellAt hbew (by omega)).trans hceY⟩
                      go_region_held3 (fun wx => But (fun k => k = gs) w7 wx ∧ wx.cell? ⟨p, 1, none⟩ = some (.slice (some ⟨gs, 0, none⟩) n2 n2) ∧ wx.cell? ⟨w.heap.size + 1, 1, none⟩ = some (.slice (some ⟨be, oe, none⟩) n2 d1) ∧ wx.cell? ⟨be, oe + i, none⟩ = some (.int .i64 y)) (first | exact HKEEP _ ((But.refl (fun k => k = gs) w7).setCell (p := ⟨gs, k, none⟩) rfl (.int .i64 y)).drew | exact HKEEP _ (But.refl (fun k => k = gs) w7).drew | exact HKEEP _ (But.refl _ _)) (first | fail)
                      all_goals
                        go_wp2_with fail
                        go_roundw
                        case rel => exact ⟨i + 1, by omega, by go_num, HO1, by show Blk _ _ ((turnN dt sh' n2 i).set (axNo dt i) (sh'.getD i 0)); rw [unhide HAX, ← unhide HY]; exact Blk.set (unhide ISH) k y, BBlk.other (by show BBlk _ _ ((seenN dt n2 i).set (axNo dt i) true); rw [unhide HAX]; exact unhide ISE) (by show gb ≠ gs; omega) _, Box.other (unhide IBX) (fun e => hne2 e.symm) _, Blk.other (unhide IK0) (fun e => hne1 e.symm) _, by first | exact (Below.setCell (unhide ILW) (by show H ≤ gs; omega) _).drew | exact Below.setCell (unhide ILW) (by show H ≤ gs; omega) _⟩
                        case measure => simp [intOf]; omega
              · have hin : i = n2 := by omega
                subst hin
                have HSI := hide (shapeIn_of (unhide HR2)).1
                obtain ⟨ZS, hZS⟩ : ∃ z, z = turnN dt sh' i i := ⟨_, rfl⟩
                have HZL : Hid (ZS.length = i) := by rw [hZS, turnN_len]; exact rfl
                obtain ⟨f, hf⟩ : ∃ f, f = transAt dt sh' dt' := ⟨_, rfl⟩
                have HS : Hid (transpose c d sh dt sh' dt' = ⟨d, ZS, vals f m2, 0⟩) := by
                  rw [hZS, hf, ← unhide hl4]
                  have := transpose_go (unhide HR1) (unhide HR2) (unhide HCC) (by rw [unhide hl2, unhide hl3]) (by rw [unhide hl3]; exact unhide hord)
                  rwa [unhide hl3] at this
                have HFP : Hid (∀ P, (f P).1 = dt'.getD (place sh' (backIx dt (digits ZS (P : Nat)) i)).toNat 0) := by
                  intro P
                  rw [hf, hZS]
                  show dt'.getD (place sh' (backIx dt (digits (turnN dt sh' sh'.length sh'.length) P) sh'.length)).toNat 0 = _
                  rw [unhide hl3]
                have HZLE : Hid (∀ k, ZS.getD k 0 ≤ 10000) := by rw [hZS]; exact turn_le (unhide hord) (fun k => ((unhide HSI).cell k).2)
                have HZF : Hid (0 < m2 → Full ZS) := fun h => by
                  rw [hZS]
                  refine turn_full (unhide hord) (unhide hl3) (full_of (unhide HSI) ?_)
                  rw [(shapeIn_of (unhide HR2)).2.1, unhide hl4]; omega
                have HBI : Hid (∀ D, IxIn ZS D → IxIn sh' (backIx dt D i)) := fun D hD => back_in (unhide hord) (unhide hl3) (by rw [← hZS]; exact hD)
                have HSTP : Hid (∀ j, j < i → axNo dt j < i ∧ dt.getD j 0 = (axNo dt j : Int) + 1) := fun j hj => by
                  have h9 := order_step (unhide hord) hj
                  refine ⟨stepOk_lt h9, ?_⟩
                  unfold stepOk at h9
                  simp only [Bool.and_eq_true, decide_eq_true_eq] at h9
                  unfold axNo
                  omega
                have hm4 : m2 ≤ 10000 := by have h9 := (shapeIn_of (unhide HR2)).2.1; rw [unhide hl4] at h9; have := (unhide HSI).bd; omega
                rw [← hZS] at hsh
                have HST0 := hide (Stg.start f (unhide hbx) (unhide hk0) (unhide GW) (by omega) (by omega))
                have HG0 : Hid (g0 ≠ gs) := fun e => hne1 e.symm
                obtain ⟨i0, hi', hz0, hz1, hz2⟩ := info_parts info_int
                clear hZS hf x0 x1 x2 x3 x4 x5 x6 y0 y1 y2 y3 y4 y5 y6 v0 v1 v2 v3 v4 v5 v6 hbx hk0 hse hlow hmb F4 F5 F6 FW
                obtain ⟨y0, y1, y2, y3, y4, y5, y6⟩ := (unhide G5).all
                go_wp2_with fail
                go_loopw [12] (fun v wr => ∃ P g cap, P ≤ m2 ∧ v = .int .i64 (P : Nat) ∧ Hid (Stg w p d (.slice (some ⟨gs, 0, none⟩) i i) f P wr g cap) ∧ Hid (g ≠ gs) ∧ Hid (Blk wr gs ZS) ∧ Hid (Box wr w.heap.size c (.slice (some a1) n1 c1) (.slice (some a2) i c2)) ∧ Hid (Box wr (w.heap.size + 1) d (.slice (some b1) i d1) (.slice (some b2) m2 d2)) ∧ Hid (Box wr (w.heap.size + 2) false (.slice none 0 0) (.slice none 0 0))) (fun v _ => m2 - (intOf v).toNat)
                case atStart => exact ⟨0, _, 0, Nat.zero_le _, rfl, HST0, HG0, hsh, G4, G5, G6⟩
                case round =>
                  obtain ⟨wo, hwo⟩ : ∃ x, x = wr := ⟨_, rfl⟩
                  subst hwo
                  obtain ⟨P, g, cap, hP, rfl, hst, hgg, hzs, hb4, hb5, hb6⟩ := hrel
                  clear HST0 HG0 hsh G4 G5 G6 GW y0 y1 y2 y3 y4 y5 y6
                  obtain ⟨x0, x1, x2, x3, x4, x5, x6⟩ := (unhide hb4).all
                  obtain ⟨y0, y1, y2, y3, y4, y5, y6⟩ := (unhide hb5).all
                  obtain ⟨v0, v1, v2, v3, v4, v5, v6⟩ := (unhide hst).box.all
                  by_cases hlt2 : P < m2
                  · have HFU := hide (unhide HZF (by omega))
                    obtain ⟨D, hD⟩ : ∃ D, D = digits ZS (P : Nat) := ⟨_, rfl⟩
                    have HDL : Hid (D.length = i) := by rw [hD, digits_len]; exact unhide HZL
                    have HDI : Hid (IxIn ZS D) := by rw [hD]; exact digits_in (unhide HFU) _
                    have hci := l5Index_any (some ⟨gs, 0, none⟩) i i ZS (P : Nat) wo ((unhide hzs).row (unhide HZL) (by omega)) (by omega) (unhide HZLE) (unhide HFU) (by omega) (by omega)
                    rw [← hD] at hci
                    have HFPP : Hid ((f P).1 = dt'.getD (place sh' (backIx dt D i)).toNat 0) := by rw [hD]; exact unhide HFP P
                    clear hD
                    go_upto_region 24 with (go_at_call 55; refine hci.mono ?_; rintro e w2 ⟨rfl, hK2, hb2⟩; have HK2 := hide hK2; have HB2 := hide hb2; clear hK2 hb2)
                    clear hci
                    have hwz := (unhide hst).low.size
                    have hwz2 := (unhide HB2).size
                    have Jb4 := hide (((unhide hb4).below (Nat.le_refl _) (unhide HB2)).alloc (.cells (madeCells #[.int .i64 0] i) 3))
                    have Jb5 := hide (((unhide hb5).below (Nat.le_refl _) (unhide HB2)).alloc (.cells (madeCells #[.int .i64 0] i) 3))
                    have Jb6 := hide (((unhide hb6).below (Nat.le_refl _) (unhide HB2)).alloc (.cells (madeCells #[.int .i64 0] i) 3))
                    have Jzs := hide (((unhide hzs).below (Nat.le_refl _) (unhide HB2)).alloc (.cells (madeCells #[.int .i64 0] i) 3))
                    have Jst := hide ((unhide hst).below ((unhide HB2).alloc hwz2 (.cells (madeCells #[.int .i64 0] i) 3)))
                    have JK := hide ((unhide HK2).alloc (.cells (madeCells #[.int .i64 0] i) 3))
                    have JF := hide (Blk.made w2 i w2.heap.size rfl)
                    have hgt : wo.heap.size < w2.heap.size := (unhide HK2).lt
                    have hl6 := (unhide hb6).lt
                    have hlp := (unhide hst).box.lt
                    have hlz := (unhide hzs).lt
                    have hlg := owns_lt (unhide hst).owns (g := g) rfl
                    have hWs : (w2.alloc (.cells (madeCells #[.int .i64 0] i) 3)).heap.size = w2.heap.size + 1 := by simp
                    generalize w2.alloc (.cells (madeCells #[.int .i64 0] i) 3) = wf at *
                    generalize w2.heap.size = gf at *
                    generalize wo.heap.size = gt at *
                    clear hst hzs hb4 hb5 hb6 HK2 HB2 x0 x1 x2 x3 x4 x5 x6 y0 y1 y2 y3 y4 y5 y6 v0 v1 v2 v3 v4 v5 v6 w2
                    obtain ⟨BI, hBI⟩ : ∃ b, b = backIx dt D i := ⟨_, rfl⟩
                    have HBL : Hid (BI.length = i) := by rw [hBI, backIx_len]; exact rfl
                    have HBG : Hid (∀ j, j < i → BI.getD j 0 = D.getD (axNo dt j) 0) := fun j hj => by rw [hBI, backIx_get _ _ _ _ hj]
                    have HBN : Hid (IxIn sh' BI) := by rw [hBI]; exact unhide HBI D (unhide HDI)
                    rw [← hBI] at HFPP
                    clear hBI
                    go_wp2_with fail
                    go_loopw [15] (fun v wr => ∃ j : Nat, j ≤ i ∧ v = .int .i64 (j : Nat) ∧ Hid (Blk wr gf (BI.take j ++ (List.replicate i 0).drop j)) ∧ Hid (Below gf wf wr)) (fun v _ => i - (intOf v).toNat)
                    case atStart => exact ⟨0, Nat.zero_le _, rfl, by simpa using JF, Below.refl _ _⟩
                    case round =>
                      obtain ⟨j, hj, rfl, hbf, hlf⟩ := hrel
                      clear JF
                      have L4 := hide ((unhide Jb4).low (by omega) (unhide hlf))
                      have HWr := hide ((unhide Jst).low.trans ((unhide hlf).mono (by omega)))
                      obtain ⟨x0, x1, x2, x3, x4, x5, x6⟩ := (unhide L4).all
                      by_cases hlj : j < i
                      · obtain ⟨bk, ok, hab, hbk, hck⟩ := (unhide H2).get hlj
                        cases hab
                        have hckr := ((unhide HWr).cell (p := ⟨bk, ok + j, none⟩) hbk).trans hck
                        obtain ⟨hka, hkx⟩ := unhide HSTP j hlj
                        rw [hkx] at hckr
                        have HGJ := hide (unhide HBG j hlj)
                        obtain ⟨k, hk⟩ : ∃ k, k = axNo dt j := ⟨_, rfl⟩
                        rw [← hk] at hka hckr HGJ
                        have hcd := ((unhide hlf).cell (p := ⟨gt, k, none⟩) hgt).trans ((unhide JK).cell (i := k) (by rw [unhide HDL]; exact hka))
                        have hcf := (unhide hbf).cell (i := j) (by rw [mix_len (by rw [unhide HBL]; simp) (by simp; exact hj)]; simpa using hlj)
                        have hff := (unhide hbf).free j
                        obtain ⟨y, hy⟩ : ∃ y, y = D.getD k 0 := ⟨_, rfl⟩
                        rw [← hy] at hcd HGJ
                        have HNX : Hid (Blk (wr.setCell ⟨gf, j, none⟩ (.int .i64 y)) gf (BI.take (j + 1) ++ (List.replicate i 0).drop (j + 1))) := by
                          have h9 := (unhide hbf).set j y
                          rw [← unhide HGJ, mix_set (by rw [unhide HBL]; simp) (by simpa using hlj)] at h9
                          rwa [unhide HGJ] at h9
                        clear hck hkx hk hy
                        go_wp2
                        go_roundw
                        case rel => exact ⟨j + 1, by omega, by go_num, HNX, (unhide hlf).setCell (by exact Nat.le_refl _) _⟩
                        case measure => simp [intOf]; omega
                      · have hji : j = i := by omega
                        subst hji
                        have HBF : Hid (Blk wr gf BI) := by
                          have := unhide hbf
                          rwa [List.take_of_length_le (by rw [unhide HBL]; exact Nat.le_refl _), List.drop_of_length_le (by simp), List.append_nil] at this
                        have M5 := hide ((unhide Jb5).low (by omega) (unhide hlf))
                        have M6 := hide ((unhide Jb6).low (by omega) (unhide hlf))
                        have MZ : Hid (Blk wr gs ZS) := ((unhide hlf).block gs (by have := (unhide Jzs).lt; omega)).trans (unhide Jzs)
                        have NST : Hid (Stg w p d (.slice (some ⟨gs, 0, none⟩) j j) f P wr g cap) := ⟨(unhide Jst).box.low (by omega) (unhide hlf), owns_lowB (unhide Jst).owns (by omega) (unhide hlf), unhide HWr, (unhide Jst).place⟩
                        have hpb := place_bd (unhide HBN)
                        rw [(shapeIn_of (unhide HR2)).2.1, unhide hl4] at hpb
                        obtain ⟨J, hJ⟩ : ∃ J : Nat, place sh' BI = (J : Int) := ⟨(place sh' BI).toNat, by omega⟩
                        have hJl : J < m2 := by omega
                        obtain ⟨bd, od, hab, hbd, hcd⟩ := (unhide K2).get hJl
                        cases hab
                        have hcdr := ((unhide HWr).cell (p := ⟨bd, od + J, none⟩) hbd).trans hcd
                        have hbdl : bd < wr.heap.size := Nat.lt_of_lt_of_le hbd (unhide HWr).size
                        obtain ⟨x, hx⟩ : ∃ x, x = dt'.getD J 0 := ⟨_, rfl⟩
                        rw [← hx] at hcdr
                        have HFX : Hid ((f P).1 = x) := by rw [unhide HFPP, hJ, hx]; exact rfl
                        have HKK : Hid (∀ wx, Below wr.heap.size wr wx → wx.cell? ⟨p, 2, none⟩ = some (.slice (some ⟨g, 0, none⟩) P cap) ∧ wx.cell? ⟨w.heap.size + 1, 2, none⟩ = some (.slice (some ⟨bd, od, none⟩) m2 d2) ∧ wx.cell? ⟨w.heap.size + 1, 1, none⟩ = some (.slice (some b1) j d1) ∧ wx.cell? ⟨bd, od + J, none⟩ = some (.int .i64 x) ∧ wx.frozen? ⟨p, 2, none⟩ = false) := fun wx hwx => ⟨((unhide NST).box.below (Nat.le_refl _) hwx).cells.2.2, ((unhide M5).below (Nat.le_refl _) hwx).cells.2.2, ((unhide M5).below (Nat.le_refl _) hwx).cells.2.1, (hwx.cell (p := ⟨bd, od + J, none⟩) hbdl).trans hcdr, ((unhide NST).box.below (Nat.le_refl _) hwx).free _⟩
                        have HCC2 : Hid (∀ wx, Below wr.heap.size wr wx → Calls Tryz.prog 56 #[.slice (some b1) j d1, .slice (some ⟨gf, 0, none⟩) j j] wx fun e w' => e = .returned (.int .i64 (J : Nat)) ∧ Below wx.heap.size wx w') := fun wx hwx => by
                          rw [← hJ]
                          exact l5At_any (some b1) (some ⟨gf, 0, none⟩) j d1 j j sh' BI wx (((unhide K1).below (Nat.le_refl _) (unhide HWr)).below (Nat.le_refl _) hwx) (((unhide HBF).below (Nat.le_refl _) hwx).row (unhide HBL) (by omega)) (Nat.le_refl _) (unhide HSI) (unhide HBN)
                        have HAA : Hid (∀ wx w7, Below wr.heap.size wr wx → (wx.alloc (.cells #[.int .i64 x] 3)).grownBy w7 (some g) → w7.cell? ⟨p, 2, none⟩ = some (.slice (some ⟨g, 0, none⟩) P cap) ∧ w7.cell? ⟨w.heap.size + 1, 2, none⟩ = some (.slice (some ⟨bd, od, none⟩) m2 d2) ∧ w7.cell? ⟨w.heap.size + 1, 1, none⟩ = some (.slice (some b1) j d1) ∧ w7.cell? ⟨bd, od + J, none⟩ = some (.int .i64 x) ∧ w7.frozen? ⟨p, 2, none⟩ = false) := fun wx w7 hwx hg => by
                          have ho := owns_below (unhide NST).owns (Nat.le_refl _) hwx
                          have q1 := ((unhide NST).box.below (Nat.le_refl _) hwx).grown ho _ hg
                          have q2 := ((unhide M5).below (Nat.le_refl _) hwx).grown ho _ hg
                          have hgw : w.heap.size ≤ g := by
                            rcases ho.2 with ⟨hv, _⟩ | ⟨g', cp, cur, hv, hbg, _⟩
                            · simp at hv
                            · simp at hv; omega
                          exact ⟨q1.cells.2.2, q2.cells.2.2, q2.cells.2.1, (grown_cell _ hg (Nat.lt_of_lt_of_le hbdl hwx.size) (by omega)).trans ((hwx.cell (p := ⟨bd, od + J, none⟩) hbdl).trans hcdr), q1.free _⟩
                        clear hpb hJ hcd hx hbf hlf JK Jst Jb4 Jb5 Jb6 Jzs
                        go_upto_region 28 with fail
                        refine regionT _ wr (by simp) p (w.heap.size + 1) rfl rfl (.slice (some ⟨gf, 0, none⟩) j j) rfl g P cap ((vals f P).map (Value.int .i64)) bd od m2 d2 J (some b1) j d1 x w.heap.size hJl (by omega) (fun wx => wx.cell? ⟨p, 2, none⟩ = some (.slice (some ⟨g, 0, none⟩) P cap) ∧ wx.cell? ⟨w.heap.size + 1, 2, none⟩ = some (.slice (some ⟨bd, od, none⟩) m2 d2) ∧ wx.cell? ⟨w.heap.size + 1, 1, none⟩ = some (.slice (some b1) j d1) ∧ wx.cell? ⟨bd, od + J, none⟩ = some (.int .i64 x) ∧ wx.frozen? ⟨p, 2, none⟩ = false) (fun _ h => h) (unhide HKK) (unhide HCC2) (unhide NST).owns (unhide HWr).size (unhide HAA) (fun _ _ _ _ _ h => h) ?_
                        intro wx g' cap' w7 hbx hown7 hgrow hat
                        simp only [outT, Act.put, List.setIfInBounds_toArray, List.set_cons_zero, List.set_cons_succ]
                        have ho := owns_below (unhide NST).owns (Nat.le_refl _) hbx
                        obtain ⟨hb7, hst7⟩ := ((unhide NST).below hbx).push _ (unhide HFX) hown7 hgrow
                        have N4 := (((unhide L4).below (Nat.le_refl _) hbx).grown ho _ hgrow).other (q := ⟨p, 2, none⟩) (by show w.heap.size ≠ p; omega) (.slice (some ⟨g', 0, none⟩) (P + 1) cap')
                        have N5 := (((unhide M5).below (Nat.le_refl _) hbx).grown ho _ hgrow).other (q := ⟨p, 2, none⟩) (by show w.heap.size + 1 ≠ p; omega) (.slice (some ⟨g', 0, none⟩) (P + 1) cap')
                        have N6 := (((unhide M6).below (Nat.le_refl _) hbx).grown ho _ hgrow).other (q := ⟨p, 2, none⟩) (by show w.heap.size + 2 ≠ p; omega) (.slice (some ⟨g', 0, none⟩) (P + 1) cap')
                        have NZ := (((unhide MZ).below (Nat.le_refl _) hbx).grown _ hgrow (fun e => unhide hgg e.symm)).other (p := ⟨p, 2, none⟩) hne2 (.slice (some ⟨g', 0, none⟩) (P + 1) cap')
                        have hgs : g' ≠ gs := by
                          rcases hat with e | e
                          · have e' : g = g' := by simpa [Value.ownBlock] using e
                            rw [← e']; exact unhide hgg
                          · have := ((unhide MZ).below (Nat.le_refl _) hbx).lt; omega
                        clear hb7 hown7 hgrow hat ho hbx
                        go_wp2_with fail
                        go_roundw
                        case rel => exact ⟨P + 1, g', cap', by omega, by go_num, hst7, hgs, NZ, N4, N5, N6⟩
                        case measure => simp [intOf]; omega
                  · have hPN : P = m2 := by omega
                    subst hPN
                    have HLW := hide (unhide hst).low
                    obtain ⟨_, _, hv, hDD⟩ := Own.of_owns (unhide hst).owns (by omega)
                    cases hv
                    have HD := hide hDD
                    obtain ⟨z0, z1, z2, z3, z4, z5, z6⟩ := (unhide hb6).all
                    clear hst hDD
                    go_wp2
                    refine bodyPost_ret (v := .tuple #[.agg #[.bool d, .slice (some ⟨gs, 0, none⟩) i i, .slice (some ⟨g, 0, none⟩) P cap], .int .i64 0]) (by simp [results, Tryz.results14, go_sem, z0, z1, z2]) rfl ?_
                    rw [unhide HS]
                    exact ⟨_, _, _, _, _, _, rfl, ((unhide hzs).row (unhide HZL) (by omega)).sets (unhide hb6) _ _ _, (unhide HD).row.sets (unhide hb6) _ _ _, (((unhide HLW).setCell (by simp <;> omega) _).setCell (by simp <;> omega) _).setCell (by simp <;> omega) _⟩
        · have HS : Hid (transpose c d sh dt sh' dt' = noAns 5) := transpose_len (unhide HR1) (unhide HR2) (unhide HCC) (by rw [unhide hl2, unhide hl3]; exact hlen)
          have g0 : ((n2 : Int) != (m1 : Int)) = true := by simp; omega
          clear hlen
          go_wp2_with fail
          refine (l4None_any _).mono ?_
          rintro e w9 ⟨rfl, hb9⟩
          obtain ⟨q0, q1, q2, q3, q4, q5, q6⟩ := ((unhide D6).below (Nat.le_refl _) hb9).all
          have hB9 := hide ((unhide hB3).trans (hb9.mono (unhide hB3).size))
          clear hb9 D4 D5 D6 hB3 x0 x1 x2 x3 x4 x5 x6 y0 y1 y2 y3 y4 y5 y6
          go_wp2
          refine bodyPost_ret (v := .tuple #[.agg #[.bool false, .slice none 0 0, .slice none 0 0], .int .i64 5]) (by simp [results, Tryz.results14, go_sem, q0, q1, q2]) rfl ?_
          rw [unhide HS]
          exact ⟨none, 0, 0, none, 0, 0, rfl, row_nil _ _, row_nil _ _, (((unhide hB9).setCell (by simp <;> omega) _).setCell (by simp <;> omega) _).setCell (by simp <;> omega) _⟩

      · have HS : Hid (transpose c d sh dt sh' dt' = noAns r) := transpose_list (unhide HR1) (unhide HR2) r (unhide HCC) h0
        have hcb : (r != 0) = true := by simp [h0]
        clear h0
        go_wp2_with fail
        refine (l4None_any _).mono ?_
        rintro e w9 ⟨rfl, hb9⟩
        obtain ⟨q0, q1, q2, q3, q4, q5, q6⟩ := ((unhide D6).below (Nat.le_refl _) hb9).all
        have hB9 := hide ((unhide hB3).trans (hb9.mono (unhide hB3).size))
        clear hb9 D4 D5 D6 hB3
        go_wp2
        refine bodyPost_ret (v := .tuple #[.agg #[.bool false, .slice none 0 0, .slice none 0 0], .int .i64 r]) (by simp [results, Tryz.results14, go_sem, q0, q1, q2]) rfl ?_
        rw [unhide HS]
        exact ⟨none, 0, 0, none, 0, 0, rfl, row_nil _ _, row_nil _ _, (((unhide hB9).setCell (by simp <;> omega) _).setCell (by simp <;> omega) _).setCell (by simp <;> omega) _⟩

end Go.Proofs.YtgjpchnkodnieaaGreatDoor
