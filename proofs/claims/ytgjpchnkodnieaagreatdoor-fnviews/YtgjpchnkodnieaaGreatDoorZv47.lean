import Derived.Test.YtgjpchnkodnieaaGreatDoorZv25
import Derived.Test.YtgjpchnkodnieaaGreatDoorZv24
import Derived.Test.YtgjpchnkodnieaaGreatDoorZv28
namespace Go.Proofs.YtgjpchnkodnieaaGreatDoor
open Go.RowKit
set_option maxRecDepth 20000 in
set_option maxHeartbeats 4000000 in
theorem PickView_impl (c : Int) (a1 a2 : Option Addr) (n1 n2 c1 c2 : Nat) (sh st : List Int) (ax fr step num : Int) (w : World) (h1 : Row w a1 n1 sh) (h2 : Row w a2 n2 st) :
    Calls Tryz.prog 100 #[.agg #[.int .i64 c, .slice a1 n1 c1, .slice a2 n2 c2], .int .i64 ax, .int .i64 fr, .int .i64 step, .int .i64 num] w (GivesVO w (pick c sh st ax fr step num)) := by
  obtain ⟨r, hr⟩ : ∃ r, formed c sh st = r := ⟨_, rfl⟩
  have HR := hide hr
  clear hr
  have hl1 := hide h1.len
  have H1 := hide h1
  have H2 := hide h2
  clear h1 h2
  cases r with
  | false =>
    have HF : Hid (pick c sh st ax fr step num = noView) := pick_no (by rintro ⟨h, _⟩; rw [unhide HR] at h; cases h)
    go_enter Tryz.func100, Tryz.ntmps100
    go_wp2_with fail
    refine (layoutOf_no c a1 a2 n1 n2 c1 c2 sh st _ (((unhide H1).alloc _).alloc _) (((unhide H2).alloc _).alloc _) (unhide HR)).mono ?_
    rintro e w1 ⟨rfl, hb1⟩
    obtain ⟨B1, hB⟩ := vhead hb1
    obtain ⟨z0, z1, z2, z3, z4, z5, z6⟩ := B1.all
    have HB := hide hB
    clear hb1 B1 hB
    go_wp2_with fail
    refine bodyPost_ret (v := .tuple #[.agg #[.int .i64 0, .slice none 0 0, .slice none 0 0], .bool false]) (by simp [results, Tryz.results100, go_sem, z0, z1, z2, z6]) rfl ?_
    rw [unhide HF]
    exact givesV_none (((((unhide HB).setCell (by simp <;> omega) _).setCell (by simp <;> omega) _).setCell (by simp <;> omega) _).alloc (by simp <;> omega) _)
  | true =>
    obtain ⟨hsb, hle, hcb, hst⟩ := formed_parts (unhide HR)
    obtain ⟨hin, h5⟩ := shapeB_in hsb
    have H5 := hide h5
    have HLE := hide hle
    have HST := hide hst
    have HIN := hide hin
    have HSB := hide hsb
    obtain ⟨f, hf⟩ : ∃ f, fl c sh st = f := ⟨_, rfl⟩
    have hf0 : Hid (f 0 = c) := by rw [← hf]; exact fl_0 c sh st
    have hf1 : Hid (f 1 = (sh.length : Int)) := by rw [← hf]; exact fl_1 c sh st
    have HFL := hide hf
    clear hf hsb hle hst hin h5
    obtain ⟨r2, hr2⟩ : ∃ r, withinB ax 0 (f 1 - 1) = r := ⟨_, rfl⟩
    obtain ⟨r3, hr3⟩ : ∃ r, viewIn step = r := ⟨_, rfl⟩
    obtain ⟨r4, hr4⟩ : ∃ r, withinB num 0 10000 = r := ⟨_, rfl⟩
    have HR2 := hide hr2
    have HR3 := hide hr3
    have HR4 := hide hr4
    have hb10 : 0 ≤ f 1 := by rw [unhide hf1]; omega
    have hb11 : f 1 ≤ 5 := by rw [unhide hf1]; have := unhide H5; omega
    clear hr2 hr3 hr4
    go_enter Tryz.func100, Tryz.ntmps100
    go_wp2_with fail
    refine (layoutOf_yes c a1 a2 n1 n2 c1 c2 sh st _ (((unhide H1).alloc _).alloc _) (((unhide H2).alloc _).alloc _) (unhide HR) f HFL).mono ?_
    rintro e w1 ⟨rfl, hb1⟩
    obtain ⟨B1, hB⟩ := vhead hb1
    obtain ⟨z0, z1, z2, z3, z4, z5, z6⟩ := B1.all
    have HV := hide (B1.alloc (objL f))
    have HB := hide (hB.alloc hB.size (objL f))
    have HL := hide (LBox.new w1 f)
    have hp1 := B1.lt
    clear hb1 B1 hB
    go_upto_region 2 with fail
    clear z0 z1 z2 z3 z4 z5 z6
    generalize w1.alloc (objL f) = W at *
    generalize w1.heap.size = p at *
    clear w1
    obtain ⟨x0, x1, x2, x3, x4, x5, x6, x7, x8, x9, x10, x11, y0, y1, y2, y3, y4, y5, y6, y7, y8, y9, y10, y11, xl⟩ := (unhide HL).all
    cases r2 with
    | false =>
      have HF : Hid (pick c sh st ax fr step num = noView) := pick_no (by
        rintro ⟨_, h0, h1, _⟩
        have h2 := of_decide_eq_false (unhide HR2)
        rw [unhide hf1] at h2
        omega)
      go_wp2_with (go_at_call 94; refine (hasAxis_eq f ax hb10 hb11 _ HR2 _).mono ?_; rintro e w2 ⟨rfl, hb2⟩; have HV2 := hide ((unhide HV).below (Nat.le_refl _) hb2); have HL2 := hide ((unhide HL).below (Nat.le_refl _) hb2); have HB2 := hide ((unhide HB).trans (hb2.mono (unhide HB).size)); obtain ⟨z0, z1, z2, z3, z4, z5, z6⟩ := (unhide HV2).all; clear hb2)
      refine bodyPost_ret (v := .tuple #[.agg #[.int .i64 0, .slice none 0 0, .slice none 0 0], .bool false]) (by simp [results, Tryz.results100, go_sem, z0, z1, z2]) rfl ?_
      rw [unhide HF]
      exact givesV_none ((((unhide HB2).setCell (by simp <;> omega) _).setCell (by simp <;> omega) _).setCell (by simp <;> omega) _)
    | true =>
      cases r3 with
      | false =>
        have HF : Hid (pick c sh st ax fr step num = noView) := pick_no (by
          rintro ⟨_, _, _, _, _, h⟩
          rw [unhide HR3] at h
          cases h)
        go_wp2_with (first | (go_at_call 94; refine (hasAxis_eq f ax hb10 hb11 _ HR2 _).mono ?_; rintro e w2 ⟨rfl, hb2⟩; have HV2 := hide ((unhide HV).below (Nat.le_refl _) hb2); have HL2 := hide ((unhide HL).below (Nat.le_refl _) hb2); have HB2 := hide ((unhide HB).trans (hb2.mono (unhide HB).size)); obtain ⟨z0, z1, z2, z3, z4, z5, z6⟩ := (unhide HV2).all; clear hb2) | (go_at_call 172; refine (isOffset_eq step _ HR3 _).mono ?_; rintro e wq ⟨rfl, hw⟩; obtain rfl := hw.symm))
        refine bodyPost_ret (v := .tuple #[.agg #[.int .i64 0, .slice none 0 0, .slice none 0 0], .bool false]) (by simp [results, Tryz.results100, go_sem, z0, z1, z2]) rfl ?_
        rw [unhide HF]
        exact givesV_none ((((unhide HB2).setCell (by simp <;> omega) _).setCell (by simp <;> omega) _).setCell (by simp <;> omega) _)
      | true =>
        cases r4 with
        | false =>
          have HF : Hid (pick c sh st ax fr step num = noView) := pick_no (by
            rintro ⟨_, _, _, h0, h1, _⟩
            exact (of_decide_eq_false (unhide HR4)) ⟨h0, h1⟩)
          go_wp2_with (first | (go_at_call 94; refine (hasAxis_eq f ax hb10 hb11 _ HR2 _).mono ?_; rintro e w2 ⟨rfl, hb2⟩; have HV2 := hide ((unhide HV).below (Nat.le_refl _) hb2); have HL2 := hide ((unhide HL).below (Nat.le_refl _) hb2); have HB2 := hide ((unhide HB).trans (hb2.mono (unhide HB).size)); obtain ⟨z0, z1, z2, z3, z4, z5, z6⟩ := (unhide HV2).all; clear hb2) | (go_at_call 172; refine (isOffset_eq step _ HR3 _).mono ?_; rintro e wq ⟨rfl, hw⟩; obtain rfl := hw.symm) | (go_at_call 50; refine (isWithin_eq num 0 10000 _ _ HR4).mono ?_; rintro e wq ⟨rfl, hw⟩; obtain rfl := hw.symm))
          refine bodyPost_ret (v := .tuple #[.agg #[.int .i64 0, .slice none 0 0, .slice none 0 0], .bool false]) (by simp [results, Tryz.results100, go_sem, z0, z1, z2]) rfl ?_
          rw [unhide HF]
          exact givesV_none ((((unhide HB2).setCell (by simp <;> omega) _).setCell (by simp <;> omega) _).setCell (by simp <;> omega) _)
        | true =>
          have hax := of_decide_eq_true (unhide HR2)
          rw [unhide hf1] at hax
          have hnum := of_decide_eq_true (unhide HR4)
          have hstp := of_decide_eq_true (unhide HR3)
          obtain ⟨k, rfl⟩ : ∃ k : Nat, ax = (k : Int) := ⟨ax.toNat, by omega⟩
          have hk : k < sh.length := by omega
          have hk5 : k < 5 := by have := unhide H5; omega
          have hks : k < st.length := by rw [unhide HLE]; exact hk
          have HPI : Hid (pickIn c sh st (k : Int) step num) := ⟨unhide HR, by omega, by omega, hnum.1, hnum.2, unhide HR3⟩
          obtain ⟨x, hx⟩ : ∃ x, sh.getD k 0 = x := ⟨_, rfl⟩
          obtain ⟨y, hy⟩ : ∃ y, st.getD k 0 = y := ⟨_, rfl⟩
          have HX : Hid (f (2 + k) = x) := by rw [← unhide HFL, ← hx]; exact fl_len c sh st hk5
          have HY : Hid (f (7 + k) = y) := by rw [← unhide HFL, ← hy]; exact fl_str c sh st k
          have hxb := (unhide HIN).cell k
          have hyb := unhide HST k
          rw [hx] at hxb
          rw [hy] at hyb
          have HXX := hide hx
          have HYY := hide hy
          have hc0 : -10000 ≤ f 0 := by rw [unhide hf0]; exact hcb.1
          have hc1 : f 0 ≤ 10000 := by rw [unhide hf0]; exact hcb.2
          have HL'' : Hid (∀ (c' : Int) (v u : Int) (w0 : World), Calls Tryz.prog 87 #[lay (fl c' (sh.set k v) (st.set k u))] w0 (GivesVO w0 (answerOf c' (sh.set k v) (st.set k u)))) := fun c' v u w0 => view_any c' (sh.set k v) (st.set k u) w0 (by simp; exact unhide H5) (by simp [unhide HLE])
          have HPC : Hid (∀ (fr' num' : Int) (w0 : World), -10000 ≤ fr' → fr' ≤ 10000 → ∀ g, Hid (fl (c + fr' * y) (sh.set k num') (st.set k (y * step)) = g) → Calls Tryz.prog 173 #[lay f, .int .i64 k, .int .i64 fr', .int .i64 step, .int .i64 num'] w0 fun e w' => e = .returned (lay g) ∧ Below w0.heap.size w0 w') := fun fr' num' w0 h0 h1 g hg => picked_fl c sh st f HFL k hk5 hk hks y fr' step num' HYY hyb.1 hyb.2 hcb.1 hcb.2 h0 h1 hstp.1 hstp.2 g hg w0
          clear hx hy hax hnum hstp
          go_upto_region 4 with (first | (go_at_call 94; refine (hasAxis_eq f (k : Int) hb10 hb11 _ HR2 _).mono ?_; rintro e w2 ⟨rfl, hb2⟩; have HV2 := hide ((unhide HV).below (Nat.le_refl _) hb2); have HL2 := hide ((unhide HL).below (Nat.le_refl _) hb2); have HB2 := hide ((unhide HB).trans (hb2.mono (unhide HB).size)); obtain ⟨z0, z1, z2, z3, z4, z5, z6⟩ := (unhide HV2).all; clear hb2) | (go_at_call 172; refine (isOffset_eq step _ HR3 _).mono ?_; rintro e wq ⟨rfl, hw⟩; obtain rfl := hw.symm) | (go_at_call 50; refine (isWithin_eq num 0 10000 _ _ HR4).mono ?_; rintro e wq ⟨rfl, hw⟩; obtain rfl := hw.symm))
          clear x0 x1 x2 x3 x4 x5 x6 x7 x8 x9 x10 x11 y0 y1 y2 y3 y4 y5 y6 y7 y8 y9 y10 y11 xl HL HV HB HR2 HR3 HR4
          obtain ⟨x0, x1, x2, x3, x4, x5, x6, x7, x8, x9, x10, x11, y0, y1, y2, y3, y4, y5, y6, y7, y8, y9, y10, y11, xl⟩ := (unhide HL2).all
          have hki : (k : Int) < 5 := by omega
          have hk0 : (0 : Int) ≤ k := by omega
          have hcx : w2.cell? ⟨p, 2 + k, none⟩ = some (.int .i64 x) := by rw [(unhide HL2).at (by omega), unhide HX]
          by_cases hnz : num = 0
          · subst hnz
            have HANS : Hid (pick c sh st (k : Int) fr step 0 = answerOf (c + 0 * y) (sh.set k 0) (st.set k (y * step))) := by show _ = _; rw [pick_none (unhide HPI) (by omega), unhide HYY]; simp
            have hpk := fun w0 h0 h1 => unhide HPC 0 0 w0 h0 h1 _ (hide rfl)
            have hvw := unhide HL'' (c + 0 * y) 0 (y * step)
            generalize answerOf (c + 0 * y) (sh.set k 0) (st.set k (y * step)) = r9 at *
            generalize fl (c + 0 * y) (sh.set k 0) (st.set k (y * step)) = g at *
            have HFC := hide hpk
            have HVC := hide hvw
            clear hpk hvw
            go_wp2_with (first
              | (go_at_call 173; refine (unhide HFC _ (by omega) (by omega)).mono ?_; rintro e w3 ⟨rfl, hb3⟩; have HV3 := hide ((unhide HV2).below (Nat.le_refl _) hb3); have HB3 := hide ((unhide HB2).trans (hb3.mono (unhide HB2).size)); clear hb3)
              | (go_at_call 87; refine (unhide HVC _).mono ?_; rintro e w9 ⟨q1, m1, d1, q2, m2, d2, rfl, hq1, hq2, hqa, hb9⟩; have HQ1 := hide hq1; have HQ2 := hide hq2; have HQA := hide hqa; have HB9 := hide hb9; obtain ⟨z0, z1, z2, z3, z4, z5, z6⟩ := ((unhide HV3).below (Nat.le_refl _) hb9).all; clear hq1 hq2 hqa hb9))
            refine bodyPost_ret (v := .tuple #[.agg #[.int .i64 r9.c, .slice q1 m1 d1, .slice q2 m2 d2], .bool r9.code]) (by simp [results, Tryz.results100, go_sem, z0, z1, z2]) rfl ?_
            rw [unhide HANS]
            exact gives_on (unhide HQ1) (unhide HQ2) (unhide HQA) (unhide HB3) (unhide HB9) (by omega) (unhide HV3).lt _ _ _
          · have hnp : 0 < num := by have := (unhide HPI).2.2.2.1; omega
            have hn1 := (unhide HPI).2.2.2.2.1
            have hs := of_decide_eq_true (unhide HPI).2.2.2.2.2
            have hwx : IntKind.i64.wrap (x - 1) = x - 1 := by rw [IntKind.wrap_i64]; omega
            have hwn : IntKind.i64.wrap (num - 1) = num - 1 := by rw [IntKind.wrap_i64]; omega
            obtain ⟨rq, hrq⟩ : ∃ r, withinB fr 0 (x - 1) = r := ⟨_, rfl⟩
            have HRQ := hide hrq
            clear hrq
            cases rq with
            | false =>
              have HF : Hid (pick c sh st (k : Int) fr step num = noView) := pick_off (unhide HPI) hnp (by
                rintro ⟨h0, h1, _⟩
                rw [unhide HXX] at h1
                exact (of_decide_eq_false (unhide HRQ)) ⟨h0, by omega⟩)
              obtain ⟨z0, z1, z2, z3, z4, z5, z6⟩ := (unhide HV2).all
              clear hnz hs
              go_wp2_with (go_at_call 50; refine (isWithin_eq fr 0 (x - 1) _ _ HRQ).mono ?_; rintro e wq ⟨rfl, hw⟩; obtain rfl := hw.symm)
              refine bodyPost_ret (v := .tuple #[.agg #[.int .i64 0, .slice none 0 0, .slice none 0 0], .bool false]) (by simp [results, Tryz.results100, go_sem, z0, z1, z2]) rfl ?_
              rw [unhide HF]
              exact givesV_none ((((unhide HB2).setCell (by simp <;> omega) _).setCell (by simp <;> omega) _).setCell (by simp <;> omega) _)
            | true =>
              have hfr := of_decide_eq_true (unhide HRQ)
              obtain ⟨z, hz⟩ : ∃ z, z = step * (num - 1) := ⟨_, rfl⟩
              have hzb : -100000000 ≤ z ∧ z ≤ 100000000 := by rw [hz]; exact mul_bd hs.1 hs.2 (by omega) (by omega)
              have hwz : IntKind.i64.wrap (step * (num - 1)) = z := by rw [← hz, IntKind.wrap_i64]; omega
              have hwe : IntKind.i64.wrap (fr + z) = fr + z := by rw [IntKind.wrap_i64]; omega
              obtain ⟨re, hre⟩ : ∃ r, withinB (fr + z) 0 (x - 1) = r := ⟨_, rfl⟩
              have HRE := hide hre
              have HZE : Hid (fr + (num - 1) * step = fr + z) := by show _ = _; rw [hz, Int.mul_comm]
              clear hre hz hnz hs
              cases re with
              | false =>
                have HF : Hid (pick c sh st (k : Int) fr step num = noView) := pick_off (unhide HPI) hnp (by
                  rintro ⟨_, _, h0, h1⟩
                  rw [unhide HXX, unhide HZE] at h1
                  rw [unhide HZE] at h0
                  exact (of_decide_eq_false (unhide HRE)) ⟨h0, by omega⟩)
                obtain ⟨z0, z1, z2, z3, z4, z5, z6⟩ := (unhide HV2).all
                clear hfr
                go_wp2_with (first | (go_at_call_of 50 (Value.int .i64 fr); refine (isWithin_eq fr 0 (x - 1) _ _ HRQ).mono ?_; rintro e wq ⟨rfl, hw⟩; obtain rfl := hw.symm) | (go_at_call 50; refine (isWithin_eq (fr + z) 0 (x - 1) _ _ HRE).mono ?_; rintro e wq ⟨rfl, hw⟩; obtain rfl := hw.symm))
                refine bodyPost_ret (v := .tuple #[.agg #[.int .i64 0, .slice none 0 0, .slice none 0 0], .bool false]) (by simp [results, Tryz.results100, go_sem, z0, z1, z2]) rfl ?_
                rw [unhide HF]
                exact givesV_none ((((unhide HB2).setCell (by simp <;> omega) _).setCell (by simp <;> omega) _).setCell (by simp <;> omega) _)
              | true =>
                have hre := of_decide_eq_true (unhide HRE)
                have HANS : Hid (pick c sh st (k : Int) fr step num = answerOf (c + fr * y) (sh.set k num) (st.set k (y * step))) := by
                  show _ = _
                  rw [pick_some (unhide HPI) hnp (by refine ⟨hfr.1, ?_, ?_, ?_⟩ <;> first | (rw [unhide HXX, unhide HZE]; omega) | (rw [unhide HXX]; omega) | (rw [unhide HZE]; omega)), unhide HYY]
                have hpk := fun w0 h0 h1 => unhide HPC fr num w0 h0 h1 _ (hide rfl)
                have hvw := unhide HL'' (c + fr * y) num (y * step)
                have hr0 : -10000 ≤ fr := by omega
                have hr1 : fr ≤ 10000 := by omega
                generalize answerOf (c + fr * y) (sh.set k num) (st.set k (y * step)) = r9 at *
                generalize fl (c + fr * y) (sh.set k num) (st.set k (y * step)) = g at *
                have HFC := hide hpk
                have HVC := hide hvw
                clear hpk hvw hfr hre
                go_wp2_with (first
                  | (go_at_call_of 50 (Value.int .i64 fr); refine (isWithin_eq fr 0 (x - 1) _ _ HRQ).mono ?_; rintro e wq ⟨rfl, hw⟩; obtain rfl := hw.symm)
                  | (go_at_call 50; refine (isWithin_eq (fr + z) 0 (x - 1) _ _ HRE).mono ?_; rintro e wq ⟨rfl, hw⟩; obtain rfl := hw.symm)
                  | (go_at_call 173; refine (unhide HFC _ hr0 hr1).mono ?_; rintro e w3 ⟨rfl, hb3⟩; have HV3 := hide ((unhide HV2).below (Nat.le_refl _) hb3); have HB3 := hide ((unhide HB2).trans (hb3.mono (unhide HB2).size)); clear hb3)
                  | (go_at_call 87; refine (unhide HVC _).mono ?_; rintro e w9 ⟨q1, m1, d1, q2, m2, d2, rfl, hq1, hq2, hqa, hb9⟩; have HQ1 := hide hq1; have HQ2 := hide hq2; have HQA := hide hqa; have HB9 := hide hb9; obtain ⟨z0, z1, z2, z3, z4, z5, z6⟩ := ((unhide HV3).below (Nat.le_refl _) hb9).all; clear hq1 hq2 hqa hb9))
                refine bodyPost_ret (v := .tuple #[.agg #[.int .i64 r9.c, .slice q1 m1 d1, .slice q2 m2 d2], .bool r9.code]) (by simp [results, Tryz.results100, go_sem, z0, z1, z2]) rfl ?_
                rw [unhide HANS]
                exact gives_on (unhide HQ1) (unhide HQ2) (unhide HQA) (unhide HB3) (unhide HB9) (by omega) (unhide HV3).lt _ _ _
end Go.Proofs.YtgjpchnkodnieaaGreatDoor
