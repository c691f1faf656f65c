import Derived.Test.YtadbhidpmihghabImplVHead
import Derived.Test.YtadbhidpmihghabImplPart
import Derived.Test.YtadbhidpmihghabCutAns
namespace Go.Proofs.Ytadbhidpmihghab
open Go.RowKit

set_option maxRecDepth 20000 in
set_option maxHeartbeats 4000000 in
theorem CutView_impl (c : Int) (a1 a2 : Addr) (n1 n2 c1 c2 : Nat) (sh st : List Int) (s0 : Addr) (k0 l0 : Nat) (fr : List Int) (s1 : Addr) (k1 l1 : Nat) (ns : List Int) (w : World) (h1 : Row w (some a1) n1 sh) (h2 : Row w (some a2) n2 st) (g1 : Row w (some s0) k0 fr) (g2 : Row w (some s1) k1 ns) :
    Calls Try.prog 10 #[.agg #[.int .i64 c, .slice (some a1) n1 c1, .slice (some a2) n2 c2], .slice (some s0) k0 l0, .slice (some s1) k1 l1] w (GivesVO w (cutV c sh st fr ns)) := by
  obtain ⟨r, hr⟩ : ∃ r, formed c sh st = r := ⟨_, rfl⟩
  have HR := hide hr
  clear hr
  have hl1 := hide h1.len
  have H1 := hide h1
  have H2 := hide h2
  have K1 := hide g1
  have K2 := hide g2
  have HF1 := hide g1.len
  have HF2 := hide g2.len
  clear g1 g2
  clear h1 h2
  cases r with
  | false =>
    have HF : Hid (cutV c sh st fr ns = noView) := cutA_no (by rw [unhide HR]; simp)
    go_enter Try.func10, Try.ntmps10
    go_wp2_with fail
    refine (layoutOf_no c (some a1) (some a2) n1 n2 c1 c2 sh st _ (((unhide H1).alloc _).alloc _) (((unhide H2).alloc _).alloc _) (unhide HR)).mono ?_
    rintro e w1 ⟨rfl, hb1⟩
    obtain ⟨B1, hB⟩ := vhead hb1
    obtain ⟨z0, z1, z2, z3, z4, z5, z6⟩ := B1.all
    have HB := hide hB
    clear hb1 B1 hB
    go_wp2_with fail
    refine bodyPost_ret (v := .tuple #[.agg #[.int .i64 0, .slice none 0 0, .slice none 0 0], .bool false]) (by simp [results, Try.results10, go_sem, z0, z1, z2, z6]) rfl ?_
    rw [unhide HF]
    exact givesV_none (((((unhide HB).setCell (by simp <;> omega) _).setCell (by simp <;> omega) _).setCell (by simp <;> omega) _).alloc (by simp <;> omega) _)
  | true =>
    obtain ⟨hsb, hle, hcb, hst⟩ := formed_parts (unhide HR)
    obtain ⟨hin, h5⟩ := shapeB_in hsb
    have H5 := hide h5
    have HLE := hide hle
    have HST := hide hst
    have HIN := hide hin
    have HSB := hide hsb
    obtain ⟨f, hf⟩ : ∃ f, fl c sh st = f := ⟨_, rfl⟩
    have hf0 : Hid (f 0 = c) := by rw [← hf]; exact fl_0 c sh st
    have hf1 : Hid (f 1 = (sh.length : Int)) := by rw [← hf]; exact fl_1 c sh st
    have HFL := hide hf
    clear hf hsb hle hst hin h5
    go_enter Try.func10, Try.ntmps10
    go_wp2_with fail
    refine (layoutOf_yes c (some a1) (some a2) n1 n2 c1 c2 sh st _ (((unhide H1).alloc _).alloc _) (((unhide H2).alloc _).alloc _) (unhide HR) f HFL).mono ?_
    rintro e w1 ⟨rfl, hb1⟩
    obtain ⟨B1, hB⟩ := vhead hb1
    obtain ⟨z0, z1, z2, z3, z4, z5, z6⟩ := B1.all
    have HV := hide (B1.alloc (objL f))
    have HB := hide (hB.alloc hB.size (objL f))
    have HL := hide (LBox.new w1 f)
    have hp1 := B1.lt
    clear hb1 B1 hB
    go_upto_region 2 with fail
    clear z0 z1 z2 z3 z4 z5 z6
    generalize w1.alloc (objL f) = W at *
    generalize w1.heap.size = p at *
    clear w1
    have KW1 := hide ((unhide K1).below (Nat.le_refl _) (unhide HB))
    have KW2 := hide ((unhide K2).below (Nat.le_refl _) (unhide HB))
    obtain ⟨x0, x1, x2, x3, x4, x5, x6, x7, x8, x9, x10, x11, y0, y1, y2, y3, y4, y5, y6, y7, y8, y9, y10, y11, xl⟩ := (unhide HL).all
    obtain ⟨r2, hr2⟩ : ∃ r, (decide (k0 = sh.length ∧ k1 = sh.length) && cutB sh fr ns sh.length) = r := ⟨_, rfl⟩
    have HR2 := hide hr2
    clear hr2
    cases r2 with
    | false =>
      have HF : Hid (cutV c sh st fr ns = noView) := cutA_no (by
        rintro ⟨_, h1, h2, h3⟩
        have := unhide HR2
        rw [unhide HF1] at h1
        rw [unhide HF2] at h2
        rw [decide_eq_true ⟨h1, h2⟩, h3] at this
        cases this)
      go_wp2_with (go_at_call 25; refine (hasPart_any c sh st fr ns (some s0) (some s1) k0 k1 l0 l1 sh.length rfl (unhide H5) (unhide HIN).cell f HFL _ (unhide KW1) (unhide KW2) _ HR2).mono ?_; rintro e w2 ⟨rfl, hb2⟩; have HB2 := hide ((unhide HB).trans (hb2.mono (unhide HB).size)); obtain ⟨z0, z1, z2, z3, z4, z5, z6⟩ := ((unhide HV).below (Nat.le_refl _) hb2).all; clear hb2)
      refine bodyPost_ret (v := .tuple #[.agg #[.int .i64 0, .slice none 0 0, .slice none 0 0], .bool false]) (by simp [results, Try.results10, go_sem, z0, z1, z2]) rfl ?_
      rw [unhide HF]
      exact givesV_none ((((unhide HB2).setCell (by simp <;> omega) _).setCell (by simp <;> omega) _).setCell (by simp <;> omega) _)
    | true =>
      have hall := unhide HR2
      simp only [Bool.and_eq_true, decide_eq_true_eq] at hall
      obtain ⟨⟨hk0, hk1⟩, hcutb⟩ := hall
      have HANS : Hid (cutV c sh st fr ns = answerOf (offN c fr st sh.length) ns st) := cutA_go ⟨unhide HR, by rw [unhide HF1, hk0], by rw [unhide HF2, hk1], hcutb⟩
      obtain ⟨g, hg⟩ : ∃ g, fl (offN c fr st sh.length) ns st = g := ⟨_, rfl⟩
      have HPC : Hid (∀ w0 : World, Row w0 (some s0) k0 fr → Row w0 (some s1) k1 ns → Calls Try.prog 26 #[lay f, .slice (some s0) k0 l0, .slice (some s1) k1 l1] w0 fun e w' => e = .returned (lay g) ∧ Below w0.heap.size w0 w') := fun w0 h0 h1 => by
        rw [← hg]
        rw [hk0] at h0 ⊢
        rw [hk1] at h1 ⊢
        exact part_any c sh st fr ns (some s0) (some s1) l0 l1 sh.length rfl (unhide H5) hcb (fun k => ((unhide HIN).cell k).2) (unhide HST) hcutb f HFL w0 h0 h1
      have HVC : Hid (∀ w0 : World, Calls Try.prog 27 #[lay g] w0 (GivesVO w0 (answerOf (offN c fr st sh.length) ns st))) := fun w0 => by
        rw [← hg]
        exact view_any _ ns st w0 (by rw [unhide HF2, hk1]; exact unhide H5) (by rw [unhide HF2, hk1]; exact unhide HLE)
      generalize answerOf (offN c fr st sh.length) ns st = r9 at *
      clear hg hk0 hk1 hcutb
      go_wp2_with (first
        | (go_at_call 25; refine (hasPart_any c sh st fr ns (some s0) (some s1) k0 k1 l0 l1 sh.length rfl (unhide H5) (unhide HIN).cell f HFL _ (unhide KW1) (unhide KW2) _ HR2).mono ?_; rintro e w2 ⟨rfl, hb2⟩; have HV2 := hide ((unhide HV).below (Nat.le_refl _) hb2); have KX1 := hide ((unhide KW1).below (Nat.le_refl _) hb2); have KX2 := hide ((unhide KW2).below (Nat.le_refl _) hb2); have HB2 := hide ((unhide HB).trans (hb2.mono (unhide HB).size)); obtain ⟨u0, u1, u2, u3, u4, u5, u6, u7, u8, u9, u10, u11, v0, v1, v2, v3, v4, v5, v6, v7, v8, v9, v10, v11, ul⟩ := ((unhide HL).below (Nat.le_refl _) hb2).all; clear hb2)
        | (go_at_call 26; refine (unhide HPC _ (unhide KX1) (unhide KX2)).mono ?_; rintro e w3 ⟨rfl, hb3⟩; have HV3 := hide ((unhide HV2).below (Nat.le_refl _) hb3); have HB3 := hide ((unhide HB2).trans (hb3.mono (unhide HB2).size)); clear hb3)
        | (go_at_call 27; refine (unhide HVC _).mono ?_; rintro e w9 ⟨q1, m1, d1, q2, m2, d2, rfl, hq1, hq2, hqa, hb9⟩; have HQ1 := hide hq1; have HQ2 := hide hq2; have HQA := hide hqa; have HB9 := hide hb9; obtain ⟨z0, z1, z2, z3, z4, z5, z6⟩ := ((unhide HV3).below (Nat.le_refl _) hb9).all; clear hq1 hq2 hqa hb9))
      refine bodyPost_ret (v := .tuple #[.agg #[.int .i64 r9.c, .slice q1 m1 d1, .slice q2 m2 d2], .bool r9.code]) (by simp [results, Try.results10, go_sem, z0, z1, z2]) rfl ?_
      rw [unhide HANS]
      exact gives_on (unhide HQ1) (unhide HQ2) (unhide HQA) (unhide HB3) (unhide HB9) (by omega) (unhide HV3).lt _ _ _

end Go.Proofs.Ytadbhidpmihghab
