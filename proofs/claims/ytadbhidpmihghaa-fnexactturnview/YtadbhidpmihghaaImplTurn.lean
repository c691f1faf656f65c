import Derived.Test.YtadbhidpmihghaaImplVHead
import Derived.Test.YtadbhidpmihghaaMTurned
import Derived.Test.YtadbhidpmihghaaMSort
import Derived.Test.YtadbhidpmihghaaSpecTurn
namespace Go.Proofs.Ytadbhidpmihghaa
open Go.RowKit

set_option maxRecDepth 20000 in
set_option maxHeartbeats 4000000 in
theorem TurnView_impl (c : Int) (a1 a2 : Addr) (n1 n2 c1 c2 : Nat) (sh st : List Int) (s0 : Addr) (k0 l0 : Nat) (ps : List Int) (w : World) (h1 : Row w (some a1) n1 sh) (h2 : Row w (some a2) n2 st) (k1 : Row w (some s0) k0 ps) :
    Calls Try.prog 24 #[.agg #[.int .i64 c, .slice (some a1) n1 c1, .slice (some a2) n2 c2], .slice (some s0) k0 l0] w (GivesVO w (turnVw c sh st ps)) := by
  obtain ⟨r, hr⟩ : ∃ r, formed c sh st = r := ⟨_, rfl⟩
  have HR := hide hr
  clear hr
  have hl1 := hide h1.len
  have H1 := hide h1
  have H2 := hide h2
  have K1 := hide k1
  have HPL := hide k1.len
  clear k1
  clear h1 h2
  cases r with
  | false =>
    have HF : Hid (turnVw c sh st ps = noView) := turn_no (by rw [unhide HR]; simp)
    go_enter Try.func24, Try.ntmps24
    go_wp2_with fail
    refine (layoutOf_no c (some a1) (some a2) n1 n2 c1 c2 sh st _ (((unhide H1).alloc _).alloc _) (((unhide H2).alloc _).alloc _) (unhide HR)).mono ?_
    rintro e w1 ⟨rfl, hb1⟩
    obtain ⟨B1, hB⟩ := vhead hb1
    obtain ⟨z0, z1, z2, z3, z4, z5, z6⟩ := B1.all
    have HB := hide hB
    clear hb1 B1 hB
    go_wp2_with fail
    refine bodyPost_ret (v := .tuple #[.agg #[.int .i64 0, .slice none 0 0, .slice none 0 0], .bool false]) (by simp [results, Try.results24, go_sem, z0, z1, z2, z6]) rfl ?_
    rw [unhide HF]
    exact givesV_none (((((unhide HB).setCell (by simp <;> omega) _).setCell (by simp <;> omega) _).setCell (by simp <;> omega) _).alloc (by simp <;> omega) _)
  | true =>
    obtain ⟨hsb, hle, hcb, hst⟩ := formed_parts (unhide HR)
    obtain ⟨hin, h5⟩ := shapeB_in hsb
    have H5 := hide h5
    have HLE := hide hle
    have HST := hide hst
    have HIN := hide hin
    have HSB := hide hsb
    obtain ⟨f, hf⟩ : ∃ f, fl c sh st = f := ⟨_, rfl⟩
    have hf0 : Hid (f 0 = c) := by rw [← hf]; exact fl_0 c sh st
    have hf1 : Hid (f 1 = (sh.length : Int)) := by rw [← hf]; exact fl_1 c sh st
    have HFL := hide hf
    clear hf hsb hle hst hin h5
    go_enter Try.func24, Try.ntmps24
    go_wp2_with fail
    refine (layoutOf_yes c (some a1) (some a2) n1 n2 c1 c2 sh st _ (((unhide H1).alloc _).alloc _) (((unhide H2).alloc _).alloc _) (unhide HR) f HFL).mono ?_
    rintro e w1 ⟨rfl, hb1⟩
    obtain ⟨B1, hB⟩ := vhead hb1
    obtain ⟨z0, z1, z2, z3, z4, z5, z6⟩ := B1.all
    have HV := hide (B1.alloc (objL f))
    have HB := hide (hB.alloc hB.size (objL f))
    have HL := hide (LBox.new w1 f)
    have hp1 := B1.lt
    clear hb1 B1 hB
    go_upto_region 2 with fail
    clear z0 z1 z2 z3 z4 z5 z6
    generalize w1.alloc (objL f) = W at *
    generalize w1.heap.size = p at *
    clear w1
    have KW := hide ((unhide K1).below (Nat.le_refl _) (unhide HB))
    obtain ⟨x0, x1, x2, x3, x4, x5, x6, x7, x8, x9, x10, x11, y0, y1, y2, y3, y4, y5, y6, y7, y8, y9, y10, y11, xl⟩ := (unhide HL).all
    obtain ⟨z0, z1, z2, z3, z4, z5, z6⟩ := (unhide HV).all
    by_cases hk : k0 = sh.length
    · have hbq : ((k0 : Int) != f 1) = false := by rw [unhide hf1]; simp; omega
      have hk5 : k0 ≤ 5 := by rw [hk]; exact unhide H5
      have HK := hide hk
      obtain ⟨r2, hr2⟩ : ∃ r, inTurn (sortedI ps) k0 = r := ⟨_, rfl⟩
      have HR2 := hide hr2
      have HOR : Hid (orderOk ps k0 k0 = r2) := by rw [← hr2]; exact order_is (unhide HPL)
      clear hk hr2
      cases r2 with
      | false =>
        have HF : Hid (turnVw c sh st ps = noView) := turn_no (by
          rintro ⟨_, _, h⟩
          rw [← unhide HK, unhide HOR] at h
          cases h)
        clear z0 z1 z2 z3 z4 z5 z6
        go_wp2_with (go_at_call 45; refine (isOrder_any _ _ _ ps _ (unhide KW) (by omega) _ HR2).mono ?_; rintro e w2 ⟨rfl, hb2⟩; have HB2 := hide ((unhide HB).trans (hb2.mono (unhide HB).size)); obtain ⟨z0, z1, z2, z3, z4, z5, z6⟩ := ((unhide HV).below (Nat.le_refl _) hb2).all; clear hb2)
        refine bodyPost_ret (v := .tuple #[.agg #[.int .i64 0, .slice none 0 0, .slice none 0 0], .bool false]) (by simp [results, Try.results24, go_sem, z0, z1, z2]) rfl ?_
        rw [unhide HF]
        exact givesV_none ((((unhide HB2).setCell (by simp <;> omega) _).setCell (by simp <;> omega) _).setCell (by simp <;> omega) _)
      | true =>
        obtain ⟨g, hg⟩ : ∃ g, fl c (turnN ps sh k0 k0) (turnN ps st k0 k0) = g := ⟨_, rfl⟩
        have HANS : Hid (turnVw c sh st ps = answerOf c (turnN ps sh k0 k0) (turnN ps st k0 k0)) := by
          have ho : orderOk ps sh.length sh.length = true := by rw [← unhide HK]; exact unhide HOR
          have hpl : ps.length = sh.length := by rw [unhide HPL, unhide HK]
          show _ = _
          rw [turn_go ⟨unhide HR, hpl, ho⟩, unhide HK, turn_same rfl hpl ho, turn_same (unhide HLE) hpl ho]
          unfold answerOf
          rw [if_pos (turn_formed (unhide HR) hpl ho)]
        have HTC : Hid (∀ w0 : World, Row w0 (some s0) k0 ps → Calls Try.prog 46 #[lay f, .slice (some s0) k0 l0] w0 fun e w' => e = .returned (lay g) ∧ Below w0.heap.size w0 w') := fun w0 h0 => by
          rw [← hg]; exact turned_any c sh st ps (some s0) k0 l0 (unhide HK).symm (by rw [unhide HLE, unhide HK]) hk5 (unhide HOR) f HFL w0 h0
        have HVC : Hid (∀ w0 : World, Calls Try.prog 34 #[lay g] w0 (GivesVO w0 (answerOf c (turnN ps sh k0 k0) (turnN ps st k0 k0)))) := fun w0 => by
          rw [← hg]; exact view_any c _ _ w0 (by rw [turnN_len]; exact hk5) (by rw [turnN_len, turnN_len])
        generalize answerOf c (turnN ps sh k0 k0) (turnN ps st k0 k0) = r9 at *
        clear hg z0 z1 z2 z3 z4 z5 z6
        go_wp2_with (first
          | (go_at_call 45; refine (isOrder_any _ _ _ ps _ (unhide KW) (by omega) _ HR2).mono ?_; rintro e w2 ⟨rfl, hb2⟩; have HV2 := hide ((unhide HV).below (Nat.le_refl _) hb2); have KW2 := hide ((unhide KW).below (Nat.le_refl _) hb2); have HB2 := hide ((unhide HB).trans (hb2.mono (unhide HB).size)); obtain ⟨u0, u1, u2, u3, u4, u5, u6, u7, u8, u9, u10, u11, v0, v1, v2, v3, v4, v5, v6, v7, v8, v9, v10, v11, ul⟩ := ((unhide HL).below (Nat.le_refl _) hb2).all; clear hb2)
          | (go_at_call 46; refine (unhide HTC _ (unhide KW2)).mono ?_; rintro e w3 ⟨rfl, hb3⟩; have HV3 := hide ((unhide HV2).below (Nat.le_refl _) hb3); have HB3 := hide ((unhide HB2).trans (hb3.mono (unhide HB2).size)); clear hb3)
          | (go_at_call 34; refine (unhide HVC _).mono ?_; rintro e w9 ⟨q1, m1, d1, q2, m2, d2, rfl, hq1, hq2, hqa, hb9⟩; have HQ1 := hide hq1; have HQ2 := hide hq2; have HQA := hide hqa; have HB9 := hide hb9; obtain ⟨z0, z1, z2, z3, z4, z5, z6⟩ := ((unhide HV3).below (Nat.le_refl _) hb9).all; clear hq1 hq2 hqa hb9))
        refine bodyPost_ret (v := .tuple #[.agg #[.int .i64 r9.c, .slice q1 m1 d1, .slice q2 m2 d2], .bool r9.code]) (by simp [results, Try.results24, go_sem, z0, z1, z2]) rfl ?_
        rw [unhide HANS]
        exact gives_on (unhide HQ1) (unhide HQ2) (unhide HQA) (unhide HB3) (unhide HB9) (by omega) (unhide HV3).lt _ _ _
    · have hbq : ((k0 : Int) != f 1) = true := by rw [unhide hf1]; simp; omega
      have HF : Hid (turnVw c sh st ps = noView) := turn_no (by
        rintro ⟨_, h, _⟩
        rw [unhide HPL] at h
        exact hk h)
      clear hk
      go_wp2_with fail
      refine bodyPost_ret (v := .tuple #[.agg #[.int .i64 0, .slice none 0 0, .slice none 0 0], .bool false]) (by simp [results, Try.results24, go_sem, z0, z1, z2]) rfl ?_
      rw [unhide HF]
      exact givesV_none ((((unhide HB).setCell (by simp <;> omega) _).setCell (by simp <;> omega) _).setCell (by simp <;> omega) _)

end Go.Proofs.Ytadbhidpmihghaa
