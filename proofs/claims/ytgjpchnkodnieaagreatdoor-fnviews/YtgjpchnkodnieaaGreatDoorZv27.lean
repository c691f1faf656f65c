import Derived.Test.YtgjpchnkodnieaaGreatDoorZv24
import Derived.Test.YtgjpchnkodnieaaGreatDoorZv18
import Derived.Test.YtgjpchnkodnieaaGreatDoorZv25
import Derived.Test.YtgjpchnkodnieaaGreatDoorZv26
import Derived.Test.YtgjpchnkodnieaaGreatDoorZv12
import Derived.Test.YtgjpchnkodnieaaGreatDoorZv17
import Derived.Test.YtgjpchnkodnieaaGreatDoorZv14
import Derived.Test.YtgjpchnkodnieaaGreatDoorZv16
namespace Go.Proofs.YtgjpchnkodnieaaGreatDoor
open Go.RowKit
theorem vok_no1 {off : Int} {sh st : List Int} {cells : Int} (h : formed off sh st = false) : viewOk off sh st cells = false := by unfold viewOk; rw [h]; rfl
theorem vok_no2 {off : Int} {sh st : List Int} {cells : Int} (h : withinB cells 0 10000 = false) : viewOk off sh st cells = false := by
  unfold viewOk
  rw [show decide (0 ≤ cells ∧ cells ≤ 10000) = false from h]; simp
theorem viewOk_none {off : Int} {sh st : List Int} {cells : Int} (h : formed off sh st = true) (hc : withinB cells 0 10000 = true) (h0 : countOf sh = 0) : viewOk off sh st cells = true := by
  unfold viewOk
  rw [show decide (0 ≤ cells ∧ cells ≤ 10000) = true from hc, h]
  simp [placesOf, h0]
theorem viewOk_some {off : Int} {sh st : List Int} {cells : Int} (h : formed off sh st = true) (hc : withinB cells 0 10000 = true) (h0 : 0 < countOf sh) : viewOk off sh st cells = decide (0 ≤ off + lowN sh st sh.length ∧ off + highN sh st sh.length < cells) := by
  unfold viewOk
  rw [show decide (0 ≤ cells ∧ cells ≤ 10000) = true from hc, h, reach_iff (formed_parts h).1 h0]
  rfl
theorem oklay {w w1 : World} {c : Int} {v1 v2 : Value} (hb : Below (w.alloc (.cells #[.int .i64 c, v1, v2] 46)).heap.size (w.alloc (.cells #[.int .i64 c, v1, v2] 46)) w1) : Below w.heap.size w w1 :=
  ((Below.refl _ _).alloc (Nat.le_refl _) _).trans (hb.mono (by simp))
set_option maxRecDepth 20000 in
set_option maxHeartbeats 4000000 in
theorem ViewOk_impl : ImplVOk := by
  intro c a1 a2 n1 n2 c1 c2 sh st cells w h1 h2
  obtain ⟨r, hr⟩ : ∃ r, formed c sh st = r := ⟨_, rfl⟩
  have HR := hide hr
  have H1 := hide h1
  have H2 := hide h2
  clear hr h1 h2
  cases r with
  | false =>
    have HF := hide (vok_no1 (cells := cells) (unhide HR))
    go_enter Tryz.func26, Tryz.ntmps26
    go_wp2_with (go_at_call 82; refine (layoutOf_no c a1 a2 n1 n2 c1 c2 sh st _ ((unhide H1).alloc _) ((unhide H2).alloc _) (unhide HR)).mono ?_; rintro e w1 ⟨rfl, hb1⟩; have HB := hide (oklay hb1); clear hb1)
    go_ret
    exact ⟨ret_bool (by rw [unhide HF]), (unhide HB).alloc (unhide HB).size _⟩
  | true =>
    obtain ⟨hsb, hle, hcb, hst⟩ := formed_parts (unhide HR)
    obtain ⟨hin, h5⟩ := shapeB_in hsb
    obtain ⟨f, hf⟩ : ∃ f, fl c sh st = f := ⟨_, rfl⟩
    have HFL := hide hf
    have HRC : Hid (∀ w0 : World, Calls Tryz.prog 84 #[lay f] w0 fun e w' => e = .returned (.tuple #[.int .i64 (c + lowN sh st sh.length), .int .i64 (c + highN sh st sh.length)]) ∧ Below w0.heap.size w0 w') := fun w0 => reach_any c sh st hin.cell hst h5 hcb.1 hcb.2 f HFL w0
    obtain ⟨cn, hcn⟩ : ∃ cn, countOf sh = cn := ⟨_, rfl⟩
    have hcb0 : 0 ≤ cn := by rw [← hcn, ← prodAll_count sh hsb]; exact hin.bd.1
    have HCN := hide hcn
    have HSB := hide hsb
    obtain ⟨r2, hr2⟩ : ∃ r, withinB cells 0 10000 = r := ⟨_, rfl⟩
    have HR2 := hide hr2
    obtain ⟨lo, hlo⟩ : ∃ x, c + lowN sh st sh.length = x := ⟨_, rfl⟩
    obtain ⟨hi, hhi⟩ : ∃ x, c + highN sh st sh.length = x := ⟨_, rfl⟩
    rw [hlo, hhi] at HRC
    have HLO := hide hlo
    have HHI := hide hhi
    clear hf hcn hle hcb hst hin h5 hsb hr2 hlo hhi
    go_enter Tryz.func26, Tryz.ntmps26
    go_wp2_with fail
    refine (layoutOf_yes c a1 a2 n1 n2 c1 c2 sh st _ ((unhide H1).alloc _) ((unhide H2).alloc _) (unhide HR) f HFL).mono ?_
    rintro e w1 ⟨rfl, hb1⟩
    have HB := hide ((oklay hb1).alloc (oklay hb1).size (objL f))
    have HL := hide (LBox.new w1 f)
    clear hb1
    go_upto_region 2 with fail
    generalize w1.alloc (objL f) = W at *
    generalize w1.heap.size = p at *
    clear w1
    obtain ⟨x0, x1, x2, x3, x4, x5, x6, x7, x8, x9, x10, x11, y0, y1, y2, y3, y4, y5, y6, y7, y8, y9, y10, y11, xl⟩ := (unhide HL).all
    cases r2 with
    | false =>
      have HF := hide (vok_no2 (off := c) (sh := sh) (st := st) (unhide HR2))
      go_wp2_with (go_at_call 50; refine (isWithin_eq cells 0 10000 _ _ HR2).mono ?_; rintro e wq ⟨rfl, hw⟩; obtain rfl := hw.symm)
      go_ret
      exact ⟨ret_bool (by rw [unhide HF]), unhide HB⟩
    | true =>
      by_cases h0 : cn = 0
      · subst h0
        have HF := hide (viewOk_none (unhide HR) (unhide HR2) (unhide HCN))
        go_wp2_with (first
          | (go_at_call 50; refine (isWithin_eq cells 0 10000 _ _ HR2).mono ?_; rintro e wq ⟨rfl, hw⟩; obtain rfl := hw.symm)
          | (go_at_call 83; refine (count_eq c sh st (unhide HSB) f HFL _ HCN _).mono ?_; rintro e w2 ⟨rfl, hb2⟩; have HB2 := hide ((unhide HB).trans (hb2.mono (unhide HB).size)); clear hb2))
        go_ret
        exact ⟨ret_bool (by rw [unhide HF]), unhide HB2⟩
      · have h0b : (cn == 0) = false := by simp [h0]
        have HF := hide (viewOk_some (off := c) (st := st) (unhide HR) (unhide HR2) (by rw [unhide HCN]; omega))
        rw [unhide HLO, unhide HHI] at HF
        have HFC : Hid (∀ b, (decide (0 ≤ lo ∧ hi < cells)) = b → viewOk c sh st cells = b) := fun b hb => by rw [unhide HF, hb]
        clear HF
        by_cases hl : 0 ≤ lo
        · by_cases hh : hi < cells
          · have HE := hide (unhide HFC true (decide_eq_true ⟨hl, hh⟩))
            go_wp2_with (first
              | (go_at_call 50; refine (isWithin_eq cells 0 10000 _ _ HR2).mono ?_; rintro e wq ⟨rfl, hw⟩; obtain rfl := hw.symm)
              | (go_at_call 83; refine (count_eq c sh st (unhide HSB) f HFL _ HCN _).mono ?_; rintro e w2 ⟨rfl, hb2⟩; have HB2 := hide ((unhide HB).trans (hb2.mono (unhide HB).size)); obtain ⟨u0, u1, u2, u3, u4, u5, u6, u7, u8, u9, u10, u11, v0, v1, v2, v3, v4, v5, v6, v7, v8, v9, v10, v11, ul⟩ := ((unhide HL).below (Nat.le_refl _) hb2).all; clear hb2)
              | (go_at_call 84; refine (unhide HRC _).mono ?_; rintro e w3 ⟨rfl, hb3⟩; have HB3 := hide ((unhide HB2).trans (hb3.mono (unhide HB2).size)); clear hb3))
            go_ret
            exact ⟨ret_bool (by rw [unhide HE]; first | done | (simp <;> omega)), unhide HB3⟩
          · have HE := hide (unhide HFC false (decide_eq_false (fun h => hh h.2)))
            go_wp2_with (first
              | (go_at_call 50; refine (isWithin_eq cells 0 10000 _ _ HR2).mono ?_; rintro e wq ⟨rfl, hw⟩; obtain rfl := hw.symm)
              | (go_at_call 83; refine (count_eq c sh st (unhide HSB) f HFL _ HCN _).mono ?_; rintro e w2 ⟨rfl, hb2⟩; have HB2 := hide ((unhide HB).trans (hb2.mono (unhide HB).size)); obtain ⟨u0, u1, u2, u3, u4, u5, u6, u7, u8, u9, u10, u11, v0, v1, v2, v3, v4, v5, v6, v7, v8, v9, v10, v11, ul⟩ := ((unhide HL).below (Nat.le_refl _) hb2).all; clear hb2)
              | (go_at_call 84; refine (unhide HRC _).mono ?_; rintro e w3 ⟨rfl, hb3⟩; have HB3 := hide ((unhide HB2).trans (hb3.mono (unhide HB2).size)); clear hb3))
            go_ret
            exact ⟨ret_bool (by rw [unhide HE]; first | done | (simp <;> omega)), unhide HB3⟩
        · have HE := hide (unhide HFC false (decide_eq_false (fun h => hl h.1)))
          go_wp2_with (first
            | (go_at_call 50; refine (isWithin_eq cells 0 10000 _ _ HR2).mono ?_; rintro e wq ⟨rfl, hw⟩; obtain rfl := hw.symm)
            | (go_at_call 83; refine (count_eq c sh st (unhide HSB) f HFL _ HCN _).mono ?_; rintro e w2 ⟨rfl, hb2⟩; have HB2 := hide ((unhide HB).trans (hb2.mono (unhide HB).size)); obtain ⟨u0, u1, u2, u3, u4, u5, u6, u7, u8, u9, u10, u11, v0, v1, v2, v3, v4, v5, v6, v7, v8, v9, v10, v11, ul⟩ := ((unhide HL).below (Nat.le_refl _) hb2).all; clear hb2)
            | (go_at_call 84; refine (unhide HRC _).mono ?_; rintro e w3 ⟨rfl, hb3⟩; have HB3 := hide ((unhide HB2).trans (hb3.mono (unhide HB2).size)); clear hb3))
          go_ret
          exact ⟨ret_bool (by rw [unhide HE]; first | done | (simp <;> omega)), unhide HB3⟩
end Go.Proofs.YtgjpchnkodnieaaGreatDoor
namespace Go.Proofs.YtgjpchnkodnieaaGreatDoor
open Go.RowKit
set_option maxRecDepth 20000 in
set_option maxHeartbeats 4000000 in
theorem TurnView_impl (c : Int) (a1 a2 : Option Addr) (n1 n2 c1 c2 : Nat) (sh st : List Int) (s0 : Addr) (k0 l0 : Nat) (ps : List Int) (w : World) (h1 : Row w a1 n1 sh) (h2 : Row w a2 n2 st) (k1 : Row w (some s0) k0 ps) :
    Calls Tryz.prog 30 #[.agg #[.int .i64 c, .slice a1 n1 c1, .slice a2 n2 c2], .slice (some s0) k0 l0] w (GivesVO w (turnVw c sh st ps)) := by
  obtain ⟨r, hr⟩ : ∃ r, formed c sh st = r := ⟨_, rfl⟩
  have HR := hide hr
  clear hr
  have hl1 := hide h1.len
  have H1 := hide h1
  have H2 := hide h2
  have K1 := hide k1
  have HPL := hide k1.len
  clear k1
  clear h1 h2
  cases r with
  | false =>
    have HF : Hid (turnVw c sh st ps = noView) := turn_no (by rw [unhide HR]; simp)
    go_enter Tryz.func30, Tryz.ntmps30
    go_wp2_with fail
    refine (layoutOf_no c a1 a2 n1 n2 c1 c2 sh st _ (((unhide H1).alloc _).alloc _) (((unhide H2).alloc _).alloc _) (unhide HR)).mono ?_
    rintro e w1 ⟨rfl, hb1⟩
    obtain ⟨B1, hB⟩ := vhead hb1
    obtain ⟨z0, z1, z2, z3, z4, z5, z6⟩ := B1.all
    have HB := hide hB
    clear hb1 B1 hB
    go_wp2_with fail
    refine bodyPost_ret (v := .tuple #[.agg #[.int .i64 0, .slice none 0 0, .slice none 0 0], .bool false]) (by simp [results, Tryz.results30, go_sem, z0, z1, z2, z6]) rfl ?_
    rw [unhide HF]
    exact givesV_none (((((unhide HB).setCell (by simp <;> omega) _).setCell (by simp <;> omega) _).setCell (by simp <;> omega) _).alloc (by simp <;> omega) _)
  | true =>
    obtain ⟨hsb, hle, hcb, hst⟩ := formed_parts (unhide HR)
    obtain ⟨hin, h5⟩ := shapeB_in hsb
    have H5 := hide h5
    have HLE := hide hle
    have HST := hide hst
    have HIN := hide hin
    have HSB := hide hsb
    obtain ⟨f, hf⟩ : ∃ f, fl c sh st = f := ⟨_, rfl⟩
    have hf0 : Hid (f 0 = c) := by rw [← hf]; exact fl_0 c sh st
    have hf1 : Hid (f 1 = (sh.length : Int)) := by rw [← hf]; exact fl_1 c sh st
    have HFL := hide hf
    clear hf hsb hle hst hin h5
    go_enter Tryz.func30, Tryz.ntmps30
    go_wp2_with fail
    refine (layoutOf_yes c a1 a2 n1 n2 c1 c2 sh st _ (((unhide H1).alloc _).alloc _) (((unhide H2).alloc _).alloc _) (unhide HR) f HFL).mono ?_
    rintro e w1 ⟨rfl, hb1⟩
    obtain ⟨B1, hB⟩ := vhead hb1
    obtain ⟨z0, z1, z2, z3, z4, z5, z6⟩ := B1.all
    have HV := hide (B1.alloc (objL f))
    have HB := hide (hB.alloc hB.size (objL f))
    have HL := hide (LBox.new w1 f)
    have hp1 := B1.lt
    clear hb1 B1 hB
    go_upto_region 2 with fail
    clear z0 z1 z2 z3 z4 z5 z6
    generalize w1.alloc (objL f) = W at *
    generalize w1.heap.size = p at *
    clear w1
    have KW := hide ((unhide K1).below (Nat.le_refl _) (unhide HB))
    obtain ⟨x0, x1, x2, x3, x4, x5, x6, x7, x8, x9, x10, x11, y0, y1, y2, y3, y4, y5, y6, y7, y8, y9, y10, y11, xl⟩ := (unhide HL).all
    obtain ⟨z0, z1, z2, z3, z4, z5, z6⟩ := (unhide HV).all
    by_cases hk : k0 = sh.length
    · have hbq : ((k0 : Int) != f 1) = false := by rw [unhide hf1]; simp; omega
      have hk5 : k0 ≤ 5 := by rw [hk]; exact unhide H5
      have HK := hide hk
      obtain ⟨r2, hr2⟩ : ∃ r, inTurn (sortedI ps) k0 = r := ⟨_, rfl⟩
      have HR2 := hide hr2
      have HOR : Hid (orderOk ps k0 k0 = r2) := by rw [← hr2]; exact order_is (unhide HPL)
      clear hk hr2
      cases r2 with
      | false =>
        have HF : Hid (turnVw c sh st ps = noView) := turn_no (by
          rintro ⟨_, _, h⟩
          rw [← unhide HK, unhide HOR] at h
          cases h)
        clear z0 z1 z2 z3 z4 z5 z6
        go_wp2_with (go_at_call 58; refine (isOrder_any _ _ _ ps _ (unhide KW) (by omega) _ HR2).mono ?_; rintro e w2 ⟨rfl, hb2⟩; have HB2 := hide ((unhide HB).trans (hb2.mono (unhide HB).size)); obtain ⟨z0, z1, z2, z3, z4, z5, z6⟩ := ((unhide HV).below (Nat.le_refl _) hb2).all; clear hb2)
        refine bodyPost_ret (v := .tuple #[.agg #[.int .i64 0, .slice none 0 0, .slice none 0 0], .bool false]) (by simp [results, Tryz.results30, go_sem, z0, z1, z2]) rfl ?_
        rw [unhide HF]
        exact givesV_none ((((unhide HB2).setCell (by simp <;> omega) _).setCell (by simp <;> omega) _).setCell (by simp <;> omega) _)
      | true =>
        obtain ⟨g, hg⟩ : ∃ g, fl c (turnN ps sh k0 k0) (turnN ps st k0 k0) = g := ⟨_, rfl⟩
        have HANS : Hid (turnVw c sh st ps = answerOf c (turnN ps sh k0 k0) (turnN ps st k0 k0)) := by
          have ho : orderOk ps sh.length sh.length = true := by rw [← unhide HK]; exact unhide HOR
          have hpl : ps.length = sh.length := by rw [unhide HPL, unhide HK]
          show _ = _
          rw [turn_go ⟨unhide HR, hpl, ho⟩, unhide HK, turn_same rfl hpl ho, turn_same (unhide HLE) hpl ho]
          unfold answerOf
          rw [if_pos (turn_formed (unhide HR) hpl ho)]
        have HTC : Hid (∀ w0 : World, Row w0 (some s0) k0 ps → Calls Tryz.prog 86 #[lay f, .slice (some s0) k0 l0] w0 fun e w' => e = .returned (lay g) ∧ Below w0.heap.size w0 w') := fun w0 h0 => by
          rw [← hg]; exact turned_any c sh st ps (some s0) k0 l0 (unhide HK).symm (by rw [unhide HLE, unhide HK]) hk5 (unhide HOR) f HFL w0 h0
        have HVC : Hid (∀ w0 : World, Calls Tryz.prog 87 #[lay g] w0 (GivesVO w0 (answerOf c (turnN ps sh k0 k0) (turnN ps st k0 k0)))) := fun w0 => by
          rw [← hg]; exact view_any c _ _ w0 (by rw [turnN_len]; exact hk5) (by rw [turnN_len, turnN_len])
        generalize answerOf c (turnN ps sh k0 k0) (turnN ps st k0 k0) = r9 at *
        clear hg z0 z1 z2 z3 z4 z5 z6
        go_wp2_with (first
          | (go_at_call 58; refine (isOrder_any _ _ _ ps _ (unhide KW) (by omega) _ HR2).mono ?_; rintro e w2 ⟨rfl, hb2⟩; have HV2 := hide ((unhide HV).below (Nat.le_refl _) hb2); have KW2 := hide ((unhide KW).below (Nat.le_refl _) hb2); have HB2 := hide ((unhide HB).trans (hb2.mono (unhide HB).size)); obtain ⟨u0, u1, u2, u3, u4, u5, u6, u7, u8, u9, u10, u11, v0, v1, v2, v3, v4, v5, v6, v7, v8, v9, v10, v11, ul⟩ := ((unhide HL).below (Nat.le_refl _) hb2).all; clear hb2)
          | (go_at_call 86; refine (unhide HTC _ (unhide KW2)).mono ?_; rintro e w3 ⟨rfl, hb3⟩; have HV3 := hide ((unhide HV2).below (Nat.le_refl _) hb3); have HB3 := hide ((unhide HB2).trans (hb3.mono (unhide HB2).size)); clear hb3)
          | (go_at_call 87; refine (unhide HVC _).mono ?_; rintro e w9 ⟨q1, m1, d1, q2, m2, d2, rfl, hq1, hq2, hqa, hb9⟩; have HQ1 := hide hq1; have HQ2 := hide hq2; have HQA := hide hqa; have HB9 := hide hb9; obtain ⟨z0, z1, z2, z3, z4, z5, z6⟩ := ((unhide HV3).below (Nat.le_refl _) hb9).all; clear hq1 hq2 hqa hb9))
        refine bodyPost_ret (v := .tuple #[.agg #[.int .i64 r9.c, .slice q1 m1 d1, .slice q2 m2 d2], .bool r9.code]) (by simp [results, Tryz.results30, go_sem, z0, z1, z2]) rfl ?_
        rw [unhide HANS]
        exact gives_on (unhide HQ1) (unhide HQ2) (unhide HQA) (unhide HB3) (unhide HB9) (by omega) (unhide HV3).lt _ _ _
    · have hbq : ((k0 : Int) != f 1) = true := by rw [unhide hf1]; simp; omega
      have HF : Hid (turnVw c sh st ps = noView) := turn_no (by
        rintro ⟨_, h, _⟩
        rw [unhide HPL] at h
        exact hk h)
      clear hk
      go_wp2_with fail
      refine bodyPost_ret (v := .tuple #[.agg #[.int .i64 0, .slice none 0 0, .slice none 0 0], .bool false]) (by simp [results, Tryz.results30, go_sem, z0, z1, z2]) rfl ?_
      rw [unhide HF]
      exact givesV_none ((((unhide HB).setCell (by simp <;> omega) _).setCell (by simp <;> omega) _).setCell (by simp <;> omega) _)
end Go.Proofs.YtgjpchnkodnieaaGreatDoor
namespace Go.Proofs.YtgjpchnkodnieaaGreatDoor
open Go.RowKit
set_option maxRecDepth 20000 in
set_option maxHeartbeats 4000000 in
theorem CutView_impl (c : Int) (a1 a2 : Option Addr) (n1 n2 c1 c2 : Nat) (sh st : List Int) (s0 : Addr) (k0 l0 : Nat) (fr : List Int) (s1 : Addr) (k1 l1 : Nat) (ns : List Int) (w : World) (h1 : Row w a1 n1 sh) (h2 : Row w a2 n2 st) (g1 : Row w (some s0) k0 fr) (g2 : Row w (some s1) k1 ns) :
    Calls Tryz.prog 32 #[.agg #[.int .i64 c, .slice a1 n1 c1, .slice a2 n2 c2], .slice (some s0) k0 l0, .slice (some s1) k1 l1] w (GivesVO w (cutV c sh st fr ns)) := by
  obtain ⟨r, hr⟩ : ∃ r, formed c sh st = r := ⟨_, rfl⟩
  have HR := hide hr
  clear hr
  have hl1 := hide h1.len
  have H1 := hide h1
  have H2 := hide h2
  have K1 := hide g1
  have K2 := hide g2
  have HF1 := hide g1.len
  have HF2 := hide g2.len
  clear g1 g2
  clear h1 h2
  cases r with
  | false =>
    have HF : Hid (cutV c sh st fr ns = noView) := cutA_no (by rw [unhide HR]; simp)
    go_enter Tryz.func32, Tryz.ntmps32
    go_wp2_with fail
    refine (layoutOf_no c a1 a2 n1 n2 c1 c2 sh st _ (((unhide H1).alloc _).alloc _) (((unhide H2).alloc _).alloc _) (unhide HR)).mono ?_
    rintro e w1 ⟨rfl, hb1⟩
    obtain ⟨B1, hB⟩ := vhead hb1
    obtain ⟨z0, z1, z2, z3, z4, z5, z6⟩ := B1.all
    have HB := hide hB
    clear hb1 B1 hB
    go_wp2_with fail
    refine bodyPost_ret (v := .tuple #[.agg #[.int .i64 0, .slice none 0 0, .slice none 0 0], .bool false]) (by simp [results, Tryz.results32, go_sem, z0, z1, z2, z6]) rfl ?_
    rw [unhide HF]
    exact givesV_none (((((unhide HB).setCell (by simp <;> omega) _).setCell (by simp <;> omega) _).setCell (by simp <;> omega) _).alloc (by simp <;> omega) _)
  | true =>
    obtain ⟨hsb, hle, hcb, hst⟩ := formed_parts (unhide HR)
    obtain ⟨hin, h5⟩ := shapeB_in hsb
    have H5 := hide h5
    have HLE := hide hle
    have HST := hide hst
    have HIN := hide hin
    have HSB := hide hsb
    obtain ⟨f, hf⟩ : ∃ f, fl c sh st = f := ⟨_, rfl⟩
    have hf0 : Hid (f 0 = c) := by rw [← hf]; exact fl_0 c sh st
    have hf1 : Hid (f 1 = (sh.length : Int)) := by rw [← hf]; exact fl_1 c sh st
    have HFL := hide hf
    clear hf hsb hle hst hin h5
    go_enter Tryz.func32, Tryz.ntmps32
    go_wp2_with fail
    refine (layoutOf_yes c a1 a2 n1 n2 c1 c2 sh st _ (((unhide H1).alloc _).alloc _) (((unhide H2).alloc _).alloc _) (unhide HR) f HFL).mono ?_
    rintro e w1 ⟨rfl, hb1⟩
    obtain ⟨B1, hB⟩ := vhead hb1
    obtain ⟨z0, z1, z2, z3, z4, z5, z6⟩ := B1.all
    have HV := hide (B1.alloc (objL f))
    have HB := hide (hB.alloc hB.size (objL f))
    have HL := hide (LBox.new w1 f)
    have hp1 := B1.lt
    clear hb1 B1 hB
    go_upto_region 2 with fail
    clear z0 z1 z2 z3 z4 z5 z6
    generalize w1.alloc (objL f) = W at *
    generalize w1.heap.size = p at *
    clear w1
    have KW1 := hide ((unhide K1).below (Nat.le_refl _) (unhide HB))
    have KW2 := hide ((unhide K2).below (Nat.le_refl _) (unhide HB))
    obtain ⟨x0, x1, x2, x3, x4, x5, x6, x7, x8, x9, x10, x11, y0, y1, y2, y3, y4, y5, y6, y7, y8, y9, y10, y11, xl⟩ := (unhide HL).all
    obtain ⟨r2, hr2⟩ : ∃ r, (decide (k0 = sh.length ∧ k1 = sh.length) && cutB sh fr ns sh.length) = r := ⟨_, rfl⟩
    have HR2 := hide hr2
    clear hr2
    cases r2 with
    | false =>
      have HF : Hid (cutV c sh st fr ns = noView) := cutA_no (by
        rintro ⟨_, h1, h2, h3⟩
        have := unhide HR2
        rw [unhide HF1] at h1
        rw [unhide HF2] at h2
        rw [decide_eq_true ⟨h1, h2⟩, h3] at this
        cases this)
      go_wp2_with (go_at_call 90; refine (hasPart_any c sh st fr ns (some s0) (some s1) k0 k1 l0 l1 sh.length rfl (unhide H5) (unhide HIN).cell f HFL _ (unhide KW1) (unhide KW2) _ HR2).mono ?_; rintro e w2 ⟨rfl, hb2⟩; have HB2 := hide ((unhide HB).trans (hb2.mono (unhide HB).size)); obtain ⟨z0, z1, z2, z3, z4, z5, z6⟩ := ((unhide HV).below (Nat.le_refl _) hb2).all; clear hb2)
      refine bodyPost_ret (v := .tuple #[.agg #[.int .i64 0, .slice none 0 0, .slice none 0 0], .bool false]) (by simp [results, Tryz.results32, go_sem, z0, z1, z2]) rfl ?_
      rw [unhide HF]
      exact givesV_none ((((unhide HB2).setCell (by simp <;> omega) _).setCell (by simp <;> omega) _).setCell (by simp <;> omega) _)
    | true =>
      have hall := unhide HR2
      simp only [Bool.and_eq_true, decide_eq_true_eq] at hall
      obtain ⟨⟨hk0, hk1⟩, hcutb⟩ := hall
      have HANS : Hid (cutV c sh st fr ns = answerOf (offN c fr st sh.length) ns st) := cutA_go ⟨unhide HR, by rw [unhide HF1, hk0], by rw [unhide HF2, hk1], hcutb⟩
      obtain ⟨g, hg⟩ : ∃ g, fl (offN c fr st sh.length) ns st = g := ⟨_, rfl⟩
      have HPC : Hid (∀ w0 : World, Row w0 (some s0) k0 fr → Row w0 (some s1) k1 ns → Calls Tryz.prog 91 #[lay f, .slice (some s0) k0 l0, .slice (some s1) k1 l1] w0 fun e w' => e = .returned (lay g) ∧ Below w0.heap.size w0 w') := fun w0 h0 h1 => by
        rw [← hg]
        rw [hk0] at h0 ⊢
        rw [hk1] at h1 ⊢
        exact part_any c sh st fr ns (some s0) (some s1) l0 l1 sh.length rfl (unhide H5) hcb (fun k => ((unhide HIN).cell k).2) (unhide HST) hcutb f HFL w0 h0 h1
      have HVC : Hid (∀ w0 : World, Calls Tryz.prog 87 #[lay g] w0 (GivesVO w0 (answerOf (offN c fr st sh.length) ns st))) := fun w0 => by
        rw [← hg]
        exact view_any _ ns st w0 (by rw [unhide HF2, hk1]; exact unhide H5) (by rw [unhide HF2, hk1]; exact unhide HLE)
      generalize answerOf (offN c fr st sh.length) ns st = r9 at *
      clear hg hk0 hk1 hcutb
      go_wp2_with (first
        | (go_at_call 90; refine (hasPart_any c sh st fr ns (some s0) (some s1) k0 k1 l0 l1 sh.length rfl (unhide H5) (unhide HIN).cell f HFL _ (unhide KW1) (unhide KW2) _ HR2).mono ?_; rintro e w2 ⟨rfl, hb2⟩; have HV2 := hide ((unhide HV).below (Nat.le_refl _) hb2); have KX1 := hide ((unhide KW1).below (Nat.le_refl _) hb2); have KX2 := hide ((unhide KW2).below (Nat.le_refl _) hb2); have HB2 := hide ((unhide HB).trans (hb2.mono (unhide HB).size)); obtain ⟨u0, u1, u2, u3, u4, u5, u6, u7, u8, u9, u10, u11, v0, v1, v2, v3, v4, v5, v6, v7, v8, v9, v10, v11, ul⟩ := ((unhide HL).below (Nat.le_refl _) hb2).all; clear hb2)
        | (go_at_call 91; refine (unhide HPC _ (unhide KX1) (unhide KX2)).mono ?_; rintro e w3 ⟨rfl, hb3⟩; have HV3 := hide ((unhide HV2).below (Nat.le_refl _) hb3); have HB3 := hide ((unhide HB2).trans (hb3.mono (unhide HB2).size)); clear hb3)
        | (go_at_call 87; refine (unhide HVC _).mono ?_; rintro e w9 ⟨q1, m1, d1, q2, m2, d2, rfl, hq1, hq2, hqa, hb9⟩; have HQ1 := hide hq1; have HQ2 := hide hq2; have HQA := hide hqa; have HB9 := hide hb9; obtain ⟨z0, z1, z2, z3, z4, z5, z6⟩ := ((unhide HV3).below (Nat.le_refl _) hb9).all; clear hq1 hq2 hqa hb9))
      refine bodyPost_ret (v := .tuple #[.agg #[.int .i64 r9.c, .slice q1 m1 d1, .slice q2 m2 d2], .bool r9.code]) (by simp [results, Tryz.results32, go_sem, z0, z1, z2]) rfl ?_
      rw [unhide HANS]
      exact gives_on (unhide HQ1) (unhide HQ2) (unhide HQA) (unhide HB3) (unhide HB9) (by omega) (unhide HV3).lt _ _ _
end Go.Proofs.YtgjpchnkodnieaaGreatDoor
namespace Go.Proofs.YtgjpchnkodnieaaGreatDoor
open Go.RowKit
set_option maxRecDepth 20000 in
set_option maxHeartbeats 4000000 in
theorem FlipView_impl (c : Int) (a1 a2 : Option Addr) (n1 n2 c1 c2 : Nat) (sh st : List Int) (ax : Int) (w : World) (h1 : Row w a1 n1 sh) (h2 : Row w a2 n2 st) :
    Calls Tryz.prog 35 #[.agg #[.int .i64 c, .slice a1 n1 c1, .slice a2 n2 c2], .int .i64 ax] w (GivesVO w (flip c sh st ax)) := by
  obtain ⟨r, hr⟩ : ∃ r, formed c sh st = r := ⟨_, rfl⟩
  have HR := hide hr
  clear hr
  have hl1 := hide h1.len
  have H1 := hide h1
  have H2 := hide h2
  clear h1 h2
  cases r with
  | false =>
    have HF : Hid (flip c sh st ax = noView) := flip_no (by rw [unhide HR]; simp)
    go_enter Tryz.func35, Tryz.ntmps35
    go_wp2_with fail
    refine (layoutOf_no c a1 a2 n1 n2 c1 c2 sh st _ (((unhide H1).alloc _).alloc _) (((unhide H2).alloc _).alloc _) (unhide HR)).mono ?_
    rintro e w1 ⟨rfl, hb1⟩
    obtain ⟨B1, hB⟩ := vhead hb1
    obtain ⟨z0, z1, z2, z3, z4, z5, z6⟩ := B1.all
    have HB := hide hB
    clear hb1 B1 hB
    go_wp2_with fail
    refine bodyPost_ret (v := .tuple #[.agg #[.int .i64 0, .slice none 0 0, .slice none 0 0], .bool false]) (by simp [results, Tryz.results35, go_sem, z0, z1, z2, z6]) rfl ?_
    rw [unhide HF]
    exact givesV_none (((((unhide HB).setCell (by simp <;> omega) _).setCell (by simp <;> omega) _).setCell (by simp <;> omega) _).alloc (by simp <;> omega) _)
  | true =>
    obtain ⟨hsb, hle, hcb, hst⟩ := formed_parts (unhide HR)
    obtain ⟨hin, h5⟩ := shapeB_in hsb
    have H5 := hide h5
    have HLE := hide hle
    have HST := hide hst
    have HIN := hide hin
    have HSB := hide hsb
    obtain ⟨f, hf⟩ : ∃ f, fl c sh st = f := ⟨_, rfl⟩
    have hf0 : Hid (f 0 = c) := by rw [← hf]; exact fl_0 c sh st
    have hf1 : Hid (f 1 = (sh.length : Int)) := by rw [← hf]; exact fl_1 c sh st
    have HFL := hide hf
    clear hf hsb hle hst hin h5
    obtain ⟨r2, hr2⟩ : ∃ r, withinB ax 0 (f 1 - 1) = r := ⟨_, rfl⟩
    have HR2 := hide hr2
    have hb10 : 0 ≤ f 1 := by rw [unhide hf1]; omega
    have hb11 : f 1 ≤ 5 := by rw [unhide hf1]; have := unhide H5; omega
    clear hr2
    go_enter Tryz.func35, Tryz.ntmps35
    go_wp2_with fail
    refine (layoutOf_yes c a1 a2 n1 n2 c1 c2 sh st _ (((unhide H1).alloc _).alloc _) (((unhide H2).alloc _).alloc _) (unhide HR) f HFL).mono ?_
    rintro e w1 ⟨rfl, hb1⟩
    obtain ⟨B1, hB⟩ := vhead hb1
    obtain ⟨z0, z1, z2, z3, z4, z5, z6⟩ := B1.all
    have HV := hide (B1.alloc (objL f))
    have HB := hide (hB.alloc hB.size (objL f))
    have HL := hide (LBox.new w1 f)
    have hp1 := B1.lt
    clear hb1 B1 hB
    go_upto_region 2 with fail
    clear z0 z1 z2 z3 z4 z5 z6
    generalize w1.alloc (objL f) = W at *
    generalize w1.heap.size = p at *
    clear w1
    obtain ⟨x0, x1, x2, x3, x4, x5, x6, x7, x8, x9, x10, x11, y0, y1, y2, y3, y4, y5, y6, y7, y8, y9, y10, y11, xl⟩ := (unhide HL).all
    cases r2 with
    | false =>
      have HF : Hid (flip c sh st ax = noView) := flip_no (by
        intro h
        have h2 := of_decide_eq_false (unhide HR2)
        rw [unhide hf1] at h2
        omega)
      go_wp2_with (go_at_call 94; refine (hasAxis_eq f ax hb10 hb11 _ HR2 _).mono ?_; rintro e w2 ⟨rfl, hb2⟩; have HB2 := hide ((unhide HB).trans (hb2.mono (unhide HB).size)); obtain ⟨z0, z1, z2, z3, z4, z5, z6⟩ := ((unhide HV).below (Nat.le_refl _) hb2).all; clear hb2)
      refine bodyPost_ret (v := .tuple #[.agg #[.int .i64 0, .slice none 0 0, .slice none 0 0], .bool false]) (by simp [results, Tryz.results35, go_sem, z0, z1, z2]) rfl ?_
      rw [unhide HF]
      exact givesV_none ((((unhide HB2).setCell (by simp <;> omega) _).setCell (by simp <;> omega) _).setCell (by simp <;> omega) _)
    | true =>
      have hax := of_decide_eq_true (unhide HR2)
      rw [unhide hf1] at hax
      obtain ⟨k, rfl⟩ : ∃ k : Nat, ax = (k : Int) := ⟨ax.toNat, by omega⟩
      have hk : k < sh.length := by omega
      have hk5 : k < 5 := by have := unhide H5; omega
      have hks : k < st.length := by rw [unhide HLE]; exact hk
      obtain ⟨x, hx⟩ : ∃ x, sh.getD k 0 = x := ⟨_, rfl⟩
      obtain ⟨y, hy⟩ : ∃ y, st.getD k 0 = y := ⟨_, rfl⟩
      have HX : Hid (f (2 + k) = x) := by rw [← unhide HFL, ← hx]; exact fl_len c sh st hk5
      have HY : Hid (f (7 + k) = y) := by rw [← unhide HFL, ← hy]; exact fl_str c sh st k
      have hxb := (unhide HIN).cell k
      have hyb := unhide HST k
      rw [hx] at hxb
      rw [hy] at hyb
      have hc0 : -10000 ≤ f 0 := by rw [unhide hf0]; exact hcb.1
      have hc1 : f 0 ≤ 10000 := by rw [unhide hf0]; exact hcb.2
      obtain ⟨g, hg⟩ : ∃ g, (if 1 < x then upd (upd f 0 (f 0 + (x - 1) * y)) (7 + k) (-y) else f) = g := ⟨_, rfl⟩
      have HG : Hid (∃ c' st', g = fl c' sh st' ∧ st'.length = sh.length ∧ flip c sh st (k : Int) = answerOf c' sh st') := by
        rw [← hg]
        by_cases h1 : 1 < x
        · refine ⟨c + (x - 1) * y, st.set k (-y), ?_, by simp [unhide HLE], ?_⟩
          · rw [if_pos h1, unhide hf0, ← unhide HFL, fl_off, fl_set _ _ _ _ hks]
          · rw [← hx, ← hy]; exact flip_two (unhide HR) hk (by rw [hx]; exact h1)
        · refine ⟨c, st, ?_, unhide HLE, ?_⟩
          · rw [if_neg h1, ← unhide HFL]
          · exact flip_one (unhide HR) hk (by rw [hx]; exact h1)
      obtain ⟨c', st', hgf, hl', hans⟩ := unhide HG
      have HGF := hide hgf
      have HANS := hide hans
      have HL' := hide hl'
      have hflip : ∀ w0 : World, Calls Tryz.prog 95 #[lay f, .int .i64 k] w0 fun e w' => e = .returned (lay g) ∧ Below w0.heap.size w0 w' := fun w0 => by
        have := flipped_any f k hk5 x y HX HY hxb.1 hxb.2 hyb.1 hyb.2 hc0 hc1 _ (hide rfl) w0
        rwa [hg] at this
      have hview : ∀ w0 : World, Calls Tryz.prog 87 #[lay g] w0 (GivesVO w0 (answerOf c' sh st')) := fun w0 => by
        rw [hgf]; exact view_any c' sh st' w0 (unhide H5) hl'
      generalize answerOf c' sh st' = r9 at *
      have HFC := hide hflip
      have HVC := hide hview
      clear hgf hans hl' hg hx hy hflip hview HG
      go_wp2_with (first
        | (go_at_call 94; refine (hasAxis_eq f (k : Int) hb10 hb11 _ HR2 _).mono ?_; rintro e w2 ⟨rfl, hb2⟩; have HV2 := hide ((unhide HV).below (Nat.le_refl _) hb2); have HL2 := hide ((unhide HL).below (Nat.le_refl _) hb2); have HB2 := hide ((unhide HB).trans (hb2.mono (unhide HB).size)); obtain ⟨u0, u1, u2, u3, u4, u5, u6, u7, u8, u9, u10, u11, v0, v1, v2, v3, v4, v5, v6, v7, v8, v9, v10, v11, ul⟩ := (unhide HL2).all; clear hb2)
        | (go_at_call 95; refine (unhide HFC _).mono ?_; rintro e w3 ⟨rfl, hb3⟩; have HV3 := hide ((unhide HV2).below (Nat.le_refl _) hb3); have HB3 := hide ((unhide HB2).trans (hb3.mono (unhide HB2).size)); clear hb3)
        | (go_at_call 87; refine (unhide HVC _).mono ?_; rintro e w9 ⟨q1, m1, d1, q2, m2, d2, rfl, hq1, hq2, hqa, hb9⟩; have HQ1 := hide hq1; have HQ2 := hide hq2; have HQA := hide hqa; have HB9 := hide hb9; obtain ⟨z0, z1, z2, z3, z4, z5, z6⟩ := ((unhide HV3).below (Nat.le_refl _) hb9).all; clear hq1 hq2 hqa hb9))
      refine bodyPost_ret (v := .tuple #[.agg #[.int .i64 r9.c, .slice q1 m1 d1, .slice q2 m2 d2], .bool r9.code]) (by simp [results, Tryz.results35, go_sem, z0, z1, z2]) rfl ?_
      rw [unhide HANS]
      exact gives_on (unhide HQ1) (unhide HQ2) (unhide HQA) (unhide HB3) (unhide HB9) (by omega) (unhide HV3).lt _ _ _
end Go.Proofs.YtgjpchnkodnieaaGreatDoor
