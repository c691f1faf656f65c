import Derived.Test.YtadbhidpmihghaaImplVHead
import Derived.Test.YtadbhidpmihghaaImplFlipL
import Derived.Test.YtadbhidpmihghaaSpecFlip
namespace Go.Proofs.Ytadbhidpmihghaa
open Go.RowKit

set_option maxRecDepth 20000 in
set_option maxHeartbeats 4000000 in
theorem FlipView_impl (c : Int) (a1 a2 : Addr) (n1 n2 c1 c2 : Nat) (sh st : List Int) (ax : Int) (w : World) (h1 : Row w (some a1) n1 sh) (h2 : Row w (some a2) n2 st) :
    Calls Try.prog 29 #[.agg #[.int .i64 c, .slice (some a1) n1 c1, .slice (some a2) n2 c2], .int .i64 ax] w (GivesVO w (flip c sh st ax)) := by
  obtain ⟨r, hr⟩ : ∃ r, formed c sh st = r := ⟨_, rfl⟩
  have HR := hide hr
  clear hr
  have hl1 := hide h1.len
  have H1 := hide h1
  have H2 := hide h2
  clear h1 h2
  cases r with
  | false =>
    have HF : Hid (flip c sh st ax = noView) := flip_no (by rw [unhide HR]; simp)
    go_enter Try.func29, Try.ntmps29
    go_wp2_with fail
    refine (layoutOf_no c (some a1) (some a2) n1 n2 c1 c2 sh st _ (((unhide H1).alloc _).alloc _) (((unhide H2).alloc _).alloc _) (unhide HR)).mono ?_
    rintro e w1 ⟨rfl, hb1⟩
    obtain ⟨B1, hB⟩ := vhead hb1
    obtain ⟨z0, z1, z2, z3, z4, z5, z6⟩ := B1.all
    have HB := hide hB
    clear hb1 B1 hB
    go_wp2_with fail
    refine bodyPost_ret (v := .tuple #[.agg #[.int .i64 0, .slice none 0 0, .slice none 0 0], .bool false]) (by simp [results, Try.results29, go_sem, z0, z1, z2, z6]) rfl ?_
    rw [unhide HF]
    exact givesV_none (((((unhide HB).setCell (by simp <;> omega) _).setCell (by simp <;> omega) _).setCell (by simp <;> omega) _).alloc (by simp <;> omega) _)
  | true =>
    obtain ⟨hsb, hle, hcb, hst⟩ := formed_parts (unhide HR)
    obtain ⟨hin, h5⟩ := shapeB_in hsb
    have H5 := hide h5
    have HLE := hide hle
    have HST := hide hst
    have HIN := hide hin
    have HSB := hide hsb
    obtain ⟨f, hf⟩ : ∃ f, fl c sh st = f := ⟨_, rfl⟩
    have hf0 : Hid (f 0 = c) := by rw [← hf]; exact fl_0 c sh st
    have hf1 : Hid (f 1 = (sh.length : Int)) := by rw [← hf]; exact fl_1 c sh st
    have HFL := hide hf
    clear hf hsb hle hst hin h5
    obtain ⟨r2, hr2⟩ : ∃ r, withinB ax 0 (f 1 - 1) = r := ⟨_, rfl⟩
    have HR2 := hide hr2
    have hb10 : 0 ≤ f 1 := by rw [unhide hf1]; omega
    have hb11 : f 1 ≤ 5 := by rw [unhide hf1]; have := unhide H5; omega
    clear hr2
    go_enter Try.func29, Try.ntmps29
    go_wp2_with fail
    refine (layoutOf_yes c (some a1) (some a2) n1 n2 c1 c2 sh st _ (((unhide H1).alloc _).alloc _) (((unhide H2).alloc _).alloc _) (unhide HR) f HFL).mono ?_
    rintro e w1 ⟨rfl, hb1⟩
    obtain ⟨B1, hB⟩ := vhead hb1
    obtain ⟨z0, z1, z2, z3, z4, z5, z6⟩ := B1.all
    have HV := hide (B1.alloc (objL f))
    have HB := hide (hB.alloc hB.size (objL f))
    have HL := hide (LBox.new w1 f)
    have hp1 := B1.lt
    clear hb1 B1 hB
    go_upto_region 2 with fail
    clear z0 z1 z2 z3 z4 z5 z6
    generalize w1.alloc (objL f) = W at *
    generalize w1.heap.size = p at *
    clear w1
    obtain ⟨x0, x1, x2, x3, x4, x5, x6, x7, x8, x9, x10, x11, y0, y1, y2, y3, y4, y5, y6, y7, y8, y9, y10, y11, xl⟩ := (unhide HL).all
    cases r2 with
    | false =>
      have HF : Hid (flip c sh st ax = noView) := flip_no (by
        intro h
        have h2 := of_decide_eq_false (unhide HR2)
        rw [unhide hf1] at h2
        omega)
      go_wp2_with (go_at_call 49; refine (hasAxis_eq f ax hb10 hb11 _ HR2 _).mono ?_; rintro e w2 ⟨rfl, hb2⟩; have HB2 := hide ((unhide HB).trans (hb2.mono (unhide HB).size)); obtain ⟨z0, z1, z2, z3, z4, z5, z6⟩ := ((unhide HV).below (Nat.le_refl _) hb2).all; clear hb2)
      refine bodyPost_ret (v := .tuple #[.agg #[.int .i64 0, .slice none 0 0, .slice none 0 0], .bool false]) (by simp [results, Try.results29, go_sem, z0, z1, z2]) rfl ?_
      rw [unhide HF]
      exact givesV_none ((((unhide HB2).setCell (by simp <;> omega) _).setCell (by simp <;> omega) _).setCell (by simp <;> omega) _)
    | true =>
      have hax := of_decide_eq_true (unhide HR2)
      rw [unhide hf1] at hax
      obtain ⟨k, rfl⟩ : ∃ k : Nat, ax = (k : Int) := ⟨ax.toNat, by omega⟩
      have hk : k < sh.length := by omega
      have hk5 : k < 5 := by have := unhide H5; omega
      have hks : k < st.length := by rw [unhide HLE]; exact hk
      obtain ⟨x, hx⟩ : ∃ x, sh.getD k 0 = x := ⟨_, rfl⟩
      obtain ⟨y, hy⟩ : ∃ y, st.getD k 0 = y := ⟨_, rfl⟩
      have HX : Hid (f (2 + k) = x) := by rw [← unhide HFL, ← hx]; exact fl_len c sh st hk5
      have HY : Hid (f (7 + k) = y) := by rw [← unhide HFL, ← hy]; exact fl_str c sh st k
      have hxb := (unhide HIN).cell k
      have hyb := unhide HST k
      rw [hx] at hxb
      rw [hy] at hyb
      have hc0 : -10000 ≤ f 0 := by rw [unhide hf0]; exact hcb.1
      have hc1 : f 0 ≤ 10000 := by rw [unhide hf0]; exact hcb.2
      obtain ⟨g, hg⟩ : ∃ g, (if 1 < x then upd (upd f 0 (f 0 + (x - 1) * y)) (7 + k) (-y) else f) = g := ⟨_, rfl⟩
      have HG : Hid (∃ c' st', g = fl c' sh st' ∧ st'.length = sh.length ∧ flip c sh st (k : Int) = answerOf c' sh st') := by
        rw [← hg]
        by_cases h1 : 1 < x
        · refine ⟨c + (x - 1) * y, st.set k (-y), ?_, by simp [unhide HLE], ?_⟩
          · rw [if_pos h1, unhide hf0, ← unhide HFL, fl_off, fl_set _ _ _ _ hks]
          · rw [← hx, ← hy]; exact flip_two (unhide HR) hk (by rw [hx]; exact h1)
        · refine ⟨c, st, ?_, unhide HLE, ?_⟩
          · rw [if_neg h1, ← unhide HFL]
          · exact flip_one (unhide HR) hk (by rw [hx]; exact h1)
      obtain ⟨c', st', hgf, hl', hans⟩ := unhide HG
      have HGF := hide hgf
      have HANS := hide hans
      have HL' := hide hl'
      have hflip : ∀ w0 : World, Calls Try.prog 50 #[lay f, .int .i64 k] w0 fun e w' => e = .returned (lay g) ∧ Below w0.heap.size w0 w' := fun w0 => by
        have := flipped_any f k hk5 x y HX HY hxb.1 hxb.2 hyb.1 hyb.2 hc0 hc1 _ (hide rfl) w0
        rwa [hg] at this
      have hview : ∀ w0 : World, Calls Try.prog 34 #[lay g] w0 (GivesVO w0 (answerOf c' sh st')) := fun w0 => by
        rw [hgf]; exact view_any c' sh st' w0 (unhide H5) hl'
      generalize answerOf c' sh st' = r9 at *
      have HFC := hide hflip
      have HVC := hide hview
      clear hgf hans hl' hg hx hy hflip hview HG
      go_wp2_with (first
        | (go_at_call 49; refine (hasAxis_eq f (k : Int) hb10 hb11 _ HR2 _).mono ?_; rintro e w2 ⟨rfl, hb2⟩; have HV2 := hide ((unhide HV).below (Nat.le_refl _) hb2); have HL2 := hide ((unhide HL).below (Nat.le_refl _) hb2); have HB2 := hide ((unhide HB).trans (hb2.mono (unhide HB).size)); obtain ⟨u0, u1, u2, u3, u4, u5, u6, u7, u8, u9, u10, u11, v0, v1, v2, v3, v4, v5, v6, v7, v8, v9, v10, v11, ul⟩ := (unhide HL2).all; clear hb2)
        | (go_at_call 50; refine (unhide HFC _).mono ?_; rintro e w3 ⟨rfl, hb3⟩; have HV3 := hide ((unhide HV2).below (Nat.le_refl _) hb3); have HB3 := hide ((unhide HB2).trans (hb3.mono (unhide HB2).size)); clear hb3)
        | (go_at_call 34; refine (unhide HVC _).mono ?_; rintro e w9 ⟨q1, m1, d1, q2, m2, d2, rfl, hq1, hq2, hqa, hb9⟩; have HQ1 := hide hq1; have HQ2 := hide hq2; have HQA := hide hqa; have HB9 := hide hb9; obtain ⟨z0, z1, z2, z3, z4, z5, z6⟩ := ((unhide HV3).below (Nat.le_refl _) hb9).all; clear hq1 hq2 hqa hb9))
      refine bodyPost_ret (v := .tuple #[.agg #[.int .i64 r9.c, .slice q1 m1 d1, .slice q2 m2 d2], .bool r9.code]) (by simp [results, Try.results29, go_sem, z0, z1, z2]) rfl ?_
      rw [unhide HANS]
      exact gives_on (unhide HQ1) (unhide HQ2) (unhide HQA) (unhide HB3) (unhide HB9) (by omega) (unhide HV3).lt _ _ _

end Go.Proofs.Ytadbhidpmihghaa
