import Derived.Test.YtlnangnimbgpoaaSpecTwoRows
namespace Go.Proofs.Ytlnangnimbgpoaa
open Go.RowKit

set_option maxRecDepth 20000 in
set_option maxHeartbeats 8000000 in
theorem Take_any (c d : Bool) (a1 a2 b1 b2 : Addr) (n1 n2 m1 m2 c1 c2 d1 d2 : Nat) (sh dt sh' dt' : List Int) (w : World) (h1 : Row w (some a1) n1 sh) (h2 : Row w (some a2) n2 dt) (k1 : Row w (some b1) m1 sh') (k2 : Row w (some b2) m2 dt') :
    Calls Try.prog 27 #[.agg #[.bool c, .slice (some a1) n1 c1, .slice (some a2) n2 c2], .agg #[.bool d, .slice (some b1) m1 d1, .slice (some b2) m2 d2]] w (GivesRow w (take c d sh dt sh' dt')) := by
  have hl1 := hide h1.len
  have hl2 := hide h2.len
  have hl3 := hide k1.len
  have hs2 := h2.small
  have hs4 := k2.small
  have H1 := hide h1
  have H2 := hide h2
  have K1 := hide k1
  have K2 := hide k2
  clear h1 h2 k1 k2
  obtain ⟨r1, hr1⟩ : ∃ r, arrOk c sh dt = r := ⟨_, rfl⟩
  obtain ⟨r2, hr2⟩ : ∃ r, arrOk d sh' dt' = r := ⟨_, rfl⟩
  have HR1 := hide hr1
  have HR2 := hide hr2
  clear hr1 hr2
  go_enter Try.func27, Try.ntmps27
  go_wp2_with fail
  refine (ArrayOk_eq _ _ _ _ _ _ _ sh dt _ ((((unhide H1).alloc _).alloc _).alloc _) ((((unhide H2).alloc _).alloc _).alloc _) _ HR1).mono ?_
  rintro e w1 ⟨rfl, hb1⟩
  obtain ⟨B4, B5, B6, hB1⟩ := boxes3 hb1
  have hz1 := B6.lt
  clear hb1
  obtain ⟨x0, x1, x2, x3, x4, x5, x6⟩ := B4.all
  obtain ⟨y0, y1, y2, y3, y4, y5, y6⟩ := B5.all
  cases r1 with
  | false =>
    have HS : Hid (take c d sh dt sh' dt' = noAns 3) := window_bad1 (unhide HR1)
    go_wp2_with fail
    refine (l4None_any _).mono ?_
    rintro e w9 ⟨rfl, hb9⟩
    obtain ⟨q0, q1, q2, q3, q4, q5, q6⟩ := ((B6).below (Nat.le_refl _) hb9).all
    have hB9 := hide ((hB1).trans (hb9.mono (hB1).size))
    clear hb9 hB1 B4 B5 B6 hz1 x0 x1 x2 x3 x4 x5 x6 y0 y1 y2 y3 y4 y5 y6
    go_wp2
    refine bodyPost_ret (v := .tuple #[.agg #[.bool false, .slice none 0 0, .slice none 0 0], .int .i64 3]) (by simp [results, Try.results27, go_sem, q0, q1, q2]) rfl ?_
    rw [unhide HS]
    exact ⟨none, 0, 0, none, 0, 0, rfl, row_nil _ _, row_nil _ _, (((unhide hB9).setCell (by simp <;> omega) _).setCell (by simp <;> omega) _).setCell (by simp <;> omega) _⟩
  | true =>
    go_wp2_with fail
    refine (ArrayOk_eq _ _ _ _ _ _ _ sh' dt' _ ((unhide K1).below (Nat.le_refl _) hB1) ((unhide K2).below (Nat.le_refl _) hB1) _ HR2).mono ?_
    rintro e w2 ⟨rfl, hb2⟩
    have C4 := hide (B4.below (Nat.le_refl _) hb2)
    have C5 := hide (B5.below (Nat.le_refl _) hb2)
    have C6 := hide (B6.below (Nat.le_refl _) hb2)
    have hB2 := hide (hB1.trans (hb2.mono hB1.size))
    clear hb2 hB1 B4 B5 B6 hz1 x0 x1 x2 x3 x4 x5 x6 y0 y1 y2 y3 y4 y5 y6 w1
    cases r2 with
    | false =>
      have HS : Hid (take c d sh dt sh' dt' = noAns 3) := window_bad2 (unhide HR2)
      go_wp2_with fail
      refine (l4None_any _).mono ?_
      rintro e w9 ⟨rfl, hb9⟩
      obtain ⟨q0, q1, q2, q3, q4, q5, q6⟩ := ((unhide C6).below (Nat.le_refl _) hb9).all
      have hB9 := hide ((unhide hB2).trans (hb9.mono (unhide hB2).size))
      clear hb9 C4 C5 C6 hB2
      go_wp2
      refine bodyPost_ret (v := .tuple #[.agg #[.bool false, .slice none 0 0, .slice none 0 0], .int .i64 3]) (by simp [results, Try.results27, go_sem, q0, q1, q2]) rfl ?_
      rw [unhide HS]
      exact ⟨none, 0, 0, none, 0, 0, rfl, row_nil _ _, row_nil _ _, (((unhide hB9).setCell (by simp <;> omega) _).setCell (by simp <;> omega) _).setCell (by simp <;> omega) _⟩
    | true =>
      obtain ⟨r, hr⟩ : ∃ r, countedCode c n1 n2 m1 = r := ⟨_, rfl⟩
      have hcall := l5Counted_any c d a1 a2 b1 b2 n1 n2 m1 m2 c1 c2 d1 d2 sh dt sh' dt' w2 ((unhide H1).below (Nat.le_refl _) (unhide hB2)) ((unhide H2).below (Nat.le_refl _) (unhide hB2)) ((unhide K1).below (Nat.le_refl _) (unhide hB2)) ((unhide K2).below (Nat.le_refl _) (unhide hB2)) r hr
      have HCC : Hid (countedCode c sh.length dt.length sh'.length = r) := by rw [unhide hl1, unhide hl2, unhide hl3]; exact hr
      have HN5 : Hid (r = 0 → n2 ≤ 5) := fun e => counted_five (hr.trans e) (by rw [← unhide hl3]; exact (shapeIn_of (unhide HR2)).2.2)
      clear hr
      obtain ⟨x0, x1, x2, x3, x4, x5, x6⟩ := (unhide C4).all
      obtain ⟨y0, y1, y2, y3, y4, y5, y6⟩ := (unhide C5).all
      go_upto_region 4 with (go_at_call 70; refine hcall.mono ?_; rintro e w3 ⟨⟨e1, l1, f1, e2, l2, f2, rfl, hz⟩, hb3⟩; have HZ := hide hz; have HB3 := hide hb3; clear hz hb3)
      clear hcall x0 x1 x2 x3 x4 x5 x6 y0 y1 y2 y3 y4 y5 y6
      have D4 := hide (((unhide C4).below (Nat.le_refl _) (unhide HB3)).alloc (.cells #[.bool d, .slice e1 l1 f1, .slice e2 l2 f2] 26))
      have D6 := hide (((unhide C6).below (Nat.le_refl _) (unhide HB3)).alloc (.cells #[.bool d, .slice e1 l1 f1, .slice e2 l2 f2] 26))
      have D7 := hide (Box.new w3 d (.slice e1 l1 f1) (.slice e2 l2 f2))
      have hww := (unhide hB2).size
      have hw23 := (unhide HB3).size
      have hz6 := (unhide C6).lt
      have HW := hide (((unhide hB2).trans ((unhide HB3).mono hww)).alloc (by omega) (.cells #[.bool d, .slice e1 l1 f1, .slice e2 l2 f2] 26))
      have HZ' : Hid (r = 0 → l1 = n2 ∧ l2 = m2 ∧ Row (w3.alloc (.cells #[.bool d, .slice e1 l1 f1, .slice e2 l2 f2] 26)) e1 n2 (countedSh n2 sh') ∧ Row (w3.alloc (.cells #[.bool d, .slice e1 l1 f1, .slice e2 l2 f2] 26)) e2 m2 dt') := fun h => by
        obtain ⟨q1, q2, q3, q4⟩ := unhide HZ h
        exact ⟨q1, q2, q3.alloc _, q4.alloc _⟩
      have hp2 : w.heap.size + 2 < w3.heap.size := by omega
      have hpW : w3.heap.size < (w3.alloc (.cells #[.bool d, .slice e1 l1 f1, .slice e2 l2 f2] 26)).heap.size := by simp
      generalize w3.alloc (.cells #[.bool d, .slice e1 l1 f1, .slice e2 l2 f2] 26) = W at *
      generalize w3.heap.size = p at *
      clear C4 C5 C6 hB2 HB3 HZ hww hw23 hz6 w3 w2
      by_cases h0 : r = 0
      · subst h0
        obtain ⟨ql1, ql2, hR1, hR2⟩ := unhide HZ' rfl
        subst l1
        subst l2
        have hn5 := unhide HN5 rfl
        have HP1 := hide hR1
        have HP2 := hide hR2
        have HBO : Hid (arrOk d (countedSh n2 sh') dt' = true) := counted_ok (unhide HR2) hn5
        clear HZ' hR1 hR2
        obtain ⟨bs, hbs⟩ : ∃ b, b = countedSh n2 sh' := ⟨_, rfl⟩
        rw [← hbs] at HP1 HBO
        have HBS : Hid (countedSh dt.length sh' = bs) := by rw [unhide hl2]; exact hbs.symm
        clear hbs
        obtain ⟨ZS, hZS⟩ : ∃ z, z = takeZ dt := ⟨_, rfl⟩
        obtain ⟨ST, hST⟩ : ∃ z, z = takeSt bs dt := ⟨_, rfl⟩
        have HZL : Hid (ZS.length = n2) := by rw [hZS, takeZ_len]; exact unhide hl2
        have HSL : Hid (ST.length = n2) := by rw [hST, takeSt_len]; exact unhide hl2
        have HZD := hide hZS
        have HSD := hide hST
        clear hZS hST
        obtain ⟨x0, x1, x2, x3, x4, x5, x6⟩ := (unhide D4).all
        obtain ⟨i0, hi, hz0, hz1, hz2⟩ := info_parts info_int
        go_upto_region 8 with fail
        have HT0 := hide (Two.start W ST ZS)
        go_wp2_with fail
        go_loopw [8, 9, 10] (fun s z i wr => ∃ k g1 p1 g2 p2, k ≤ n2 ∧ i = .int .i64 (k : Nat) ∧ s = .slice (some ⟨g1, 0, none⟩) k p1 ∧ z = .slice (some ⟨g2, 0, none⟩) k p2 ∧ Hid (Two W ST ZS k k g1 p1 g2 p2 wr)) (fun _ _ i _ => n2 - (intOf i).toNat)
        case atStart => exact ⟨0, _, 0, _, 0, Nat.zero_le _, rfl, rfl, rfl, HT0⟩
        case round =>
          obtain ⟨k, g1, p1, g2, p2, hk, rfl, rfl, rfl, ht⟩ := hrel
          clear HT0 x0 x1 x2 x3 x4 x5 x6
          have hlow := (unhide ht).low
          have hlz := hlow.size
          have hp3 : p < wr.heap.size := by omega
          obtain ⟨x0, x1, x2, x3, x4, x5, x6⟩ := ((unhide D4).low (by omega) hlow).all
          obtain ⟨y0, y1, y2, y3, y4, y5, y6⟩ := ((unhide D7).low (by omega) hlow).all
          by_cases hlt : k < n2
          · obtain ⟨bk, ok, hab, hbk, hck⟩ := (unhide H2).get hlt
            cases hab
            have hbkW : bk < W.heap.size := Nat.lt_of_lt_of_le hbk (unhide HW).size
            have hckW := ((unhide HW).cell (p := ⟨bk, ok + k, none⟩) hbk).trans hck
            have hckr := (hlow.cell (p := ⟨bk, ok + k, none⟩) hbkW).trans hckW
            obtain ⟨be, oe, rfl, hbe, hce⟩ := (unhide HP1).get hlt
            have hcer := (hlow.cell (p := ⟨be, oe + k, none⟩) hbe).trans hce
            have hxb := dataOk_bd (unhide HR1) (k := k) (by rw [unhide hl2]; exact hlt)
            have hbb := (shapeIn_of (unhide HBO)).1.cell k
            obtain ⟨x, hx⟩ : ∃ x, x = dt.getD k 0 := ⟨_, rfl⟩
            obtain ⟨b, hb⟩ : ∃ b, b = bs.getD k 0 := ⟨_, rfl⟩
            have HZG := hide (takeZ_get dt k (by rw [unhide hl2]; exact hlt))
            have HSG := hide (takeSt_get bs dt k (by rw [unhide hl2]; exact hlt))
            rw [← unhide HZD, ← hx] at HZG
            rw [← unhide HSD, ← hx, ← hb] at HSG
            rw [← hx] at hckW hckr hxb
            rw [← hb] at hce hcer hbb
            clear hx hb hck
            have HAB : Hid (absI x = absI x) := rfl
            obtain ⟨y, hy⟩ : ∃ y, absI x = y := ⟨_, rfl⟩
            rw [hy] at HZG
            have hca := l5Abs_any x y wr hxb hy
            clear hy HAB
            go_upto_region 12 with (first | (go_at_call 71; refine hca.mono ?_; rintro e wq ⟨rfl, hw⟩; obtain rfl := hw.symm) | (at_builtin; refine wpList_append_lies _ rfl _ _ 22 rfl W.heap.size 3 i0 (.int .i64 0) 1 8 Try.underlying22 hi hz0 hz1 hz2 rfl (by decide) _ _ _ rfl (owns_below (unhide ht).o2 (Nat.le_refl _) ((Below.refl _ _).alloc (Nat.le_refl _) _)) ⟨wr.heap.size, 0, none⟩ 1 1 [.int .i64 y] rfl rfl (cells_new _ _) (one_one _) (by omega) (by unfold maxLen; omega) (by omega) (by have := (unhide ht).low.size; simp; omega) (wr.heap.size + 1) (by simp) ?_; intro g2' p2' w7 hown' hgrow hat hlt7; have ht7 := hide ((unhide ht).push2 _ hown' (unhide HZG) (by rw [unhide HZL]; exact hlt) hgrow hat); clear hgrow hat hown' hlt7))
            clear hca x0 x1 x2 x3 x4 x5 x6 y0 y1 y2 y3 y4 y5 y6 hckr hcer
            have hlow7 := (unhide ht7).low
            have hlz7 := hlow7.size
            obtain ⟨x0, x1, x2, x3, x4, x5, x6⟩ := ((unhide D4).low (by omega) hlow7).all
            obtain ⟨y0, y1, y2, y3, y4, y5, y6⟩ := ((unhide D7).low (by omega) hlow7).all
            have hckr := (hlow7.cell (p := ⟨bk, ok + k, none⟩) hbkW).trans hckW
            have hcer := (hlow7.cell (p := ⟨be, oe + k, none⟩) hbe).trans hce
            by_cases hneg : x < 0
            · rw [if_pos hneg] at HSG
              have hwr : IntKind.i64.wrap (b + x) = b + x := by rw [IntKind.wrap_i64]; omega
              go_upto_region 13 with fail
              have HKEEP : ∀ wx, Below W.heap.size W wx → Below W.heap.size W wx ∧ wx.cell? ⟨p, 1, none⟩ = some (.slice (some ⟨be, oe, none⟩) n2 f1) ∧ wx.cell? ⟨w.heap.size, 2, none⟩ = some (.slice (some ⟨bk, ok, none⟩) n2 c2) ∧ wx.cell? ⟨bk, ok + k, none⟩ = some (.int .i64 x) ∧ wx.cell? ⟨be, oe + k, none⟩ = some (.int .i64 b) := fun wx hwx => ⟨hwx, ((unhide D7).low (by omega) hwx).cells.2.1, ((unhide D4).low (by omega) hwx).cells.2.2, (hwx.cell (p := ⟨bk, ok + k, none⟩) hbkW).trans hckW, (hwx.cell (p := ⟨be, oe + k, none⟩) hbe).trans hce⟩
              have ht7' := (unhide ht7).drew
              go_region_held3 (fun wx => Below W.heap.size W wx ∧ wx.cell? ⟨p, 1, none⟩ = some (.slice (some ⟨be, oe, none⟩) n2 f1) ∧ wx.cell? ⟨w.heap.size, 2, none⟩ = some (.slice (some ⟨bk, ok, none⟩) n2 c2) ∧ wx.cell? ⟨bk, ok + k, none⟩ = some (.int .i64 x) ∧ wx.cell? ⟨be, oe + k, none⟩ = some (.int .i64 b)) (first | exact HKEEP _ ht8.low | exact HKEEP _ hlow7.drew | exact HKEEP _ hlow7 | exact HKEEP _ (Below.alloc hlow7.drew (by simp; omega) _) | exact HKEEP _ (Below.drew (Below.alloc hlow7 (by omega) _))) (first | (refine step_append_lies _ (by rfl) _ _ _ (by rfl) W.heap.size 3 i0 _ 1 8 Try.underlying22 hi hz0 hz1 hz2 rfl (by omega) (.slice (some ⟨g1, 0, none⟩) k p1) k ((ST.take k).map (Value.int .i64)) (by rfl) (by first | exact owns_below ht7'.o1 (Nat.le_refl _) ((Below.refl _ _).alloc (Nat.le_refl _) _) | exact owns_below (unhide ht7).o1 (Nat.le_refl _) ((Below.refl _ _).alloc (Nat.le_refl _) _).drew) ⟨w7.heap.size, 0, none⟩ 1 1 [.int .i64 (b + x)] (by rfl) (by rfl) (by exact cells_new w7 _) (one_one _) (by omega) (by unfold maxLen; omega) (by omega) (by simp; omega) (w7.heap.size + 1) (by simp) ?_; intro g' p' w8 hown' hgrow hat hlt8; have ht8 := ht7'.push1 _ hown' (unhide HSG) (by rw [unhide HSL]; exact hlt) (by exact hgrow) hat))
              all_goals
                have HT8 := hide ht8
                clear ht7' ht7 hlow7 x0 x1 x2 x3 x4 x5 x6 y0 y1 y2 y3 y4 y5 y6
                go_wp2
                go_roundw
                case rel => exact ⟨k + 1, _, _, _, _, by omega, by go_num, rfl, rfl, HT8⟩
                case measure => simp [intOf]; omega
            · rw [if_neg hneg] at HSG
              go_wp2_with (at_builtin; refine wpList_append_lies _ rfl _ _ 22 rfl W.heap.size 3 i0 (.int .i64 0) 1 8 Try.underlying22 hi hz0 hz1 hz2 rfl (by decide) _ _ _ rfl (owns_below (unhide ht7).o1 (Nat.le_refl _) ((Below.refl _ _).alloc (Nat.le_refl _) _)) ⟨w7.heap.size, 0, none⟩ 1 1 [.int .i64 0] rfl rfl (cells_new _ _) (one_one _) (by omega) (by unfold maxLen; omega) (by omega) (by have := (unhide ht7).low.size; simp; omega) (w7.heap.size + 1) (by simp) ?_; intro g1' p1' w8 hown' hgrow hat hlt7; have ht8 := hide ((unhide ht7).push1 _ hown' (unhide HSG) (by rw [unhide HSL]; exact hlt) hgrow hat); clear hgrow hat hown' hlt7)
              go_roundw
              case rel => exact ⟨k + 1, _, _, _, _, by omega, by go_num, rfl, rfl, ht8⟩
              case measure => simp [intOf]; omega
          · have hkn : k = n2 := by omega
            subst hkn
            have HZE : Hid (wr.ownsRow W.heap.size 3 1 (.slice (some ⟨g2, 0, none⟩) k p2) k (ZS.map (Value.int .i64))) := by have := (unhide ht).o2; rwa [List.take_of_length_le (by rw [unhide HZL]; exact Nat.le_refl _)] at this
            have HSE : Hid (wr.ownsRow W.heap.size 3 1 (.slice (some ⟨g1, 0, none⟩) k p1) k (ST.map (Value.int .i64))) := by have := (unhide ht).o1; rwa [List.take_of_length_le (by rw [unhide HSL]; exact Nat.le_refl _)] at this
            obtain ⟨_, _, ev, hOz⟩ := Own.of_owns (unhide HZE) hs2
            cases ev
            obtain ⟨_, _, ev, hOs⟩ := Own.of_owns (unhide HSE) hs2
            cases ev
            have HOZ := hide hOz
            have HOS := hide hOs
            have E6 := hide ((unhide D6).low (by omega) hlow)
            have E7 := hide ((unhide D7).low (by omega) hlow)
            have HWr := hide ((unhide HW).trans (hlow.mono (unhide HW).size))
            have HQ1 := hide ((unhide HP1).below (Nat.le_refl _) hlow)
            have HQ2 := hide ((unhide HP2).below (Nat.le_refl _) hlow)
            clear ht hlow hOz hOs HZE HSE
            obtain ⟨sb, hsb⟩ : ∃ r, shapeB ZS = r := ⟨_, rfl⟩
            have HSB := hide hsb
            clear hsb
            cases sb with
            | false =>
              have HS : Hid (take c d sh dt sh' dt' = noAns 7) := window_big (unhide HR1) (unhide HR2) (unhide HCC) rfl (by  show shapeB (takeZ dt) = false; rw [← unhide HZD]; exact unhide HSB)
              go_upto_region 16 with (go_at_call 74; refine (l3ShapeOk_eq _ _ _ ZS _ (unhide HOZ).row _ HSB).mono ?_; rintro e wq ⟨rfl, hw⟩; obtain rfl := hw.symm)
              go_wp2_with fail
              refine (l4None_any _).mono ?_
              rintro e w9 ⟨rfl, hb9⟩
              obtain ⟨q0, q1, q2, q3, q4, q5, q6⟩ := ((unhide E6).below (Nat.le_refl _) hb9).all
              have hB9 := hide ((unhide HWr).trans (hb9.mono (unhide HWr).size))
              clear hb9 E6 E7 HWr HOZ HOS y0 y1 y2 y3 y4 y5 y6 x0 x1 x2 x3 x4 x5 x6
              go_wp2
              refine bodyPost_ret (v := .tuple #[.agg #[.bool false, .slice none 0 0, .slice none 0 0], .int .i64 7]) (by simp [results, Try.results27, go_sem, q0, q1, q2]) rfl ?_
              rw [unhide HS]
              exact ⟨none, 0, 0, none, 0, 0, rfl, row_nil _ _, row_nil _ _, (((unhide hB9).setCell (by simp <;> omega) _).setCell (by simp <;> omega) _).setCell (by simp <;> omega) _⟩
            | true =>
              have hcb := shapeB_count (unhide HSB)
              obtain ⟨N, hN⟩ : ∃ N : Nat, countOf ZS = (N : Int) := ⟨(countOf ZS).toNat, by omega⟩
              have hNs : N ≤ 10000 := by omega
              have HSTB : Hid (∀ i, i < k → -1000000000000000 ≤ ST.getD i 0 ∧ ST.getD i 0 ≤ 1000000000000000) := by
                intro i hi
                have hi' : i < dt.length := by rw [unhide hl2]; exact hi
                have h1 := dataOk_bd (unhide HR1) hi'
                have h2 := (shapeIn_of (unhide HBO)).1.cell i
                rw [unhide HSD, takeSt_get _ _ _ hi']
                split <;> omega
              have hcall := l5Window_any d (e1) e2 (some ⟨g1, 0, none⟩) (some ⟨g2, 0, none⟩) k m2 k f1 f2 p1 p2 bs dt' ST ZS wr (unhide HQ1) (unhide HQ2) (unhide HOS).row (unhide HOZ).row (Nat.le_refl _) (unhide HBO) (unhide HSB) (unhide HSTB) N hN
              have HS : Hid (take c d sh dt sh' dt' = ⟨d, ZS, vals (windowAt d bs dt' ST ZS) N, 0⟩) := by
                have := window_go (lim := true) (Z := fun _ => takeZ) (S := takeSt) (unhide HR1) (unhide HR2) (unhide HCC) (fun _ => by show shapeB (takeZ dt) = true; rw [← unhide HZD]; exact unhide HSB) N (by  show countOf (takeZ dt) = _; rw [← unhide HZD]; exact hN)
                rw [unhide HBS] at this
                rw [unhide HZD, unhide HSD]
                exact this
              clear hcb hN
              go_wp2_with (first | (go_at_call 74; refine (l3ShapeOk_eq _ _ _ ZS _ (unhide HOZ).row _ HSB).mono ?_; rintro e wq ⟨rfl, hw⟩; obtain rfl := hw.symm) | (go_at_call 72; refine hcall.mono ?_; rintro e w8 ⟨g8, k8, rfl, hr8, hb8⟩; have HR8 := hide hr8; have HB8 := hide hb8; obtain ⟨t0, t1, t2, t3, t4, t5, t6⟩ := ((unhide E6).below (Nat.le_refl _) hb8).all; clear hr8 hb8))
              refine bodyPost_ret (v := .tuple #[.agg #[.bool d, .slice (some ⟨g2, 0, none⟩) k p2, .slice (some ⟨g8, 0, none⟩) N k8], .int .i64 0]) (by simp [results, Try.results27, go_sem, t0, t1, t2]) rfl ?_
              have E8 := (unhide E6).below (Nat.le_refl _) (unhide HB8)
              rw [unhide HS]
              exact ⟨_, _, _, _, _, _, rfl, ((unhide HOZ).row.below (Nat.le_refl _) (unhide HB8)).sets E8 _ _ _, (unhide HR8).sets E8 _ _ _, ((((unhide HWr).trans ((unhide HB8).mono (unhide HWr).size)).setCell (by simp <;> omega) _).setCell (by simp <;> omega) _).setCell (by simp <;> omega) _⟩
      · have HS : Hid (take c d sh dt sh' dt' = noAns r) := window_code' (unhide HR1) (unhide HR2) r (unhide HCC) h0
        have hcb : (r != 0) = true := by simp [h0]
        clear h0
        go_wp2_with fail
        refine (l4None_any _).mono ?_
        rintro e w9 ⟨rfl, hb9⟩
        obtain ⟨q0, q1, q2, q3, q4, q5, q6⟩ := ((unhide D6).below (Nat.le_refl _) hb9).all
        have hB9 := hide ((unhide HW).trans (hb9.mono (unhide HW).size))
        clear hb9 D4 D6 D7 HW
        go_wp2
        refine bodyPost_ret (v := .tuple #[.agg #[.bool false, .slice none 0 0, .slice none 0 0], .int .i64 r]) (by simp [results, Try.results27, go_sem, q0, q1, q2]) rfl ?_
        rw [unhide HS]
        exact ⟨none, 0, 0, none, 0, 0, rfl, row_nil _ _, row_nil _ _, (((unhide hB9).setCell (by simp <;> omega) _).setCell (by simp <;> omega) _).setCell (by simp <;> omega) _⟩

end Go.Proofs.Ytlnangnimbgpoaa
