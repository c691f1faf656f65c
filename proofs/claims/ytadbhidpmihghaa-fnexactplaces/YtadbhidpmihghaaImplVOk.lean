import Derived.Test.YtadbhidpmihghaaImplCount
import Derived.Test.YtadbhidpmihghaaImplReach
import Derived.Test.YtadbhidpmihghaaVLawOk
namespace Go.Proofs.Ytadbhidpmihghaa
open Go.RowKit

theorem vok_no1 {off : Int} {sh st : List Int} {cells : Int} (h : formed off sh st = false) : viewOk off sh st cells = false := by unfold viewOk; rw [h]; rfl
theorem vok_no2 {off : Int} {sh st : List Int} {cells : Int} (h : withinB cells 0 10000 = false) : viewOk off sh st cells = false := by
  unfold viewOk
  rw [show decide (0 ≤ cells ∧ cells ≤ 10000) = false from h]; simp
theorem viewOk_none {off : Int} {sh st : List Int} {cells : Int} (h : formed off sh st = true) (hc : withinB cells 0 10000 = true) (h0 : countOf sh = 0) : viewOk off sh st cells = true := by
  unfold viewOk
  rw [show decide (0 ≤ cells ∧ cells ≤ 10000) = true from hc, h]
  simp [placesOf, h0]
theorem viewOk_some {off : Int} {sh st : List Int} {cells : Int} (h : formed off sh st = true) (hc : withinB cells 0 10000 = true) (h0 : 0 < countOf sh) : viewOk off sh st cells = decide (0 ≤ off + lowN sh st sh.length ∧ off + highN sh st sh.length < cells) := by
  unfold viewOk
  rw [show decide (0 ≤ cells ∧ cells ≤ 10000) = true from hc, h, reach_iff (formed_parts h).1 h0]
  rfl

theorem oklay {w w1 : World} {c : Int} {v1 v2 : Value} (hb : Below (w.alloc (.cells #[.int .i64 c, v1, v2] 24)).heap.size (w.alloc (.cells #[.int .i64 c, v1, v2] 24)) w1) : Below w.heap.size w w1 :=
  ((Below.refl _ _).alloc (Nat.le_refl _) _).trans (hb.mono (by simp))

set_option maxRecDepth 20000 in
set_option maxHeartbeats 4000000 in
theorem ViewOk_impl : ImplVOk := by
  intro c a1 a2 n1 n2 c1 c2 sh st cells w h1 h2
  obtain ⟨r, hr⟩ : ∃ r, formed c sh st = r := ⟨_, rfl⟩
  have HR := hide hr
  have H1 := hide h1
  have H2 := hide h2
  clear hr h1 h2
  cases r with
  | false =>
    have HF := hide (vok_no1 (cells := cells) (unhide HR))
    go_enter Try.func20, Try.ntmps20
    go_wp2_with (go_at_call 38; refine (layoutOf_no c a1 a2 n1 n2 c1 c2 sh st _ ((unhide H1).alloc _) ((unhide H2).alloc _) (unhide HR)).mono ?_; rintro e w1 ⟨rfl, hb1⟩; have HB := hide (oklay hb1); clear hb1)
    go_ret
    exact ⟨ret_bool (by rw [unhide HF]), (unhide HB).alloc (unhide HB).size _⟩
  | true =>
    obtain ⟨hsb, hle, hcb, hst⟩ := formed_parts (unhide HR)
    obtain ⟨hin, h5⟩ := shapeB_in hsb
    obtain ⟨f, hf⟩ : ∃ f, fl c sh st = f := ⟨_, rfl⟩
    have HFL := hide hf
    have HRC : Hid (∀ w0 : World, Calls Try.prog 41 #[lay f] w0 fun e w' => e = .returned (.tuple #[.int .i64 (c + lowN sh st sh.length), .int .i64 (c + highN sh st sh.length)]) ∧ Below w0.heap.size w0 w') := fun w0 => reach_any c sh st hin.cell hst h5 hcb.1 hcb.2 f HFL w0
    obtain ⟨cn, hcn⟩ : ∃ cn, countOf sh = cn := ⟨_, rfl⟩
    have hcb0 : 0 ≤ cn := by rw [← hcn, ← prodAll_count sh hsb]; exact hin.bd.1
    have HCN := hide hcn
    have HSB := hide hsb
    obtain ⟨r2, hr2⟩ : ∃ r, withinB cells 0 10000 = r := ⟨_, rfl⟩
    have HR2 := hide hr2
    obtain ⟨lo, hlo⟩ : ∃ x, c + lowN sh st sh.length = x := ⟨_, rfl⟩
    obtain ⟨hi, hhi⟩ : ∃ x, c + highN sh st sh.length = x := ⟨_, rfl⟩
    rw [hlo, hhi] at HRC
    have HLO := hide hlo
    have HHI := hide hhi
    clear hf hcn hle hcb hst hin h5 hsb hr2 hlo hhi
    go_enter Try.func20, Try.ntmps20
    go_wp2_with fail
    refine (layoutOf_yes c a1 a2 n1 n2 c1 c2 sh st _ ((unhide H1).alloc _) ((unhide H2).alloc _) (unhide HR) f HFL).mono ?_
    rintro e w1 ⟨rfl, hb1⟩
    have HB := hide ((oklay hb1).alloc (oklay hb1).size (objL f))
    have HL := hide (LBox.new w1 f)
    clear hb1
    go_upto_region 2 with fail
    generalize w1.alloc (objL f) = W at *
    generalize w1.heap.size = p at *
    clear w1
    obtain ⟨x0, x1, x2, x3, x4, x5, x6, x7, x8, x9, x10, x11, y0, y1, y2, y3, y4, y5, y6, y7, y8, y9, y10, y11, xl⟩ := (unhide HL).all
    cases r2 with
    | false =>
      have HF := hide (vok_no2 (off := c) (sh := sh) (st := st) (unhide HR2))
      go_wp2_with (go_at_call 39; refine (isWithin_eq cells 0 10000 _ _ HR2).mono ?_; rintro e wq ⟨rfl, hw⟩; obtain rfl := hw.symm)
      go_ret
      exact ⟨ret_bool (by rw [unhide HF]), unhide HB⟩
    | true =>
      by_cases h0 : cn = 0
      · subst h0
        have HF := hide (viewOk_none (unhide HR) (unhide HR2) (unhide HCN))
        go_wp2_with (first
          | (go_at_call 39; refine (isWithin_eq cells 0 10000 _ _ HR2).mono ?_; rintro e wq ⟨rfl, hw⟩; obtain rfl := hw.symm)
          | (go_at_call 40; refine (count_eq c sh st (unhide HSB) f HFL _ HCN _).mono ?_; rintro e w2 ⟨rfl, hb2⟩; have HB2 := hide ((unhide HB).trans (hb2.mono (unhide HB).size)); clear hb2))
        go_ret
        exact ⟨ret_bool (by rw [unhide HF]), unhide HB2⟩
      · have h0b : (cn == 0) = false := by simp [h0]
        have HF := hide (viewOk_some (off := c) (st := st) (unhide HR) (unhide HR2) (by rw [unhide HCN]; omega))
        rw [unhide HLO, unhide HHI] at HF
        have HFC : Hid (∀ b, (decide (0 ≤ lo ∧ hi < cells)) = b → viewOk c sh st cells = b) := fun b hb => by rw [unhide HF, hb]
        clear HF
        by_cases hl : 0 ≤ lo
        · by_cases hh : hi < cells
          · have HE := hide (unhide HFC true (decide_eq_true ⟨hl, hh⟩))
            go_wp2_with (first
              | (go_at_call 39; refine (isWithin_eq cells 0 10000 _ _ HR2).mono ?_; rintro e wq ⟨rfl, hw⟩; obtain rfl := hw.symm)
              | (go_at_call 40; refine (count_eq c sh st (unhide HSB) f HFL _ HCN _).mono ?_; rintro e w2 ⟨rfl, hb2⟩; have HB2 := hide ((unhide HB).trans (hb2.mono (unhide HB).size)); obtain ⟨u0, u1, u2, u3, u4, u5, u6, u7, u8, u9, u10, u11, v0, v1, v2, v3, v4, v5, v6, v7, v8, v9, v10, v11, ul⟩ := ((unhide HL).below (Nat.le_refl _) hb2).all; clear hb2)
              | (go_at_call 41; refine (unhide HRC _).mono ?_; rintro e w3 ⟨rfl, hb3⟩; have HB3 := hide ((unhide HB2).trans (hb3.mono (unhide HB2).size)); clear hb3))
            go_ret
            exact ⟨ret_bool (by rw [unhide HE]; first | done | (simp <;> omega)), unhide HB3⟩
          · have HE := hide (unhide HFC false (decide_eq_false (fun h => hh h.2)))
            go_wp2_with (first
              | (go_at_call 39; refine (isWithin_eq cells 0 10000 _ _ HR2).mono ?_; rintro e wq ⟨rfl, hw⟩; obtain rfl := hw.symm)
              | (go_at_call 40; refine (count_eq c sh st (unhide HSB) f HFL _ HCN _).mono ?_; rintro e w2 ⟨rfl, hb2⟩; have HB2 := hide ((unhide HB).trans (hb2.mono (unhide HB).size)); obtain ⟨u0, u1, u2, u3, u4, u5, u6, u7, u8, u9, u10, u11, v0, v1, v2, v3, v4, v5, v6, v7, v8, v9, v10, v11, ul⟩ := ((unhide HL).below (Nat.le_refl _) hb2).all; clear hb2)
              | (go_at_call 41; refine (unhide HRC _).mono ?_; rintro e w3 ⟨rfl, hb3⟩; have HB3 := hide ((unhide HB2).trans (hb3.mono (unhide HB2).size)); clear hb3))
            go_ret
            exact ⟨ret_bool (by rw [unhide HE]; first | done | (simp <;> omega)), unhide HB3⟩
        · have HE := hide (unhide HFC false (decide_eq_false (fun h => hl h.1)))
          go_wp2_with (first
            | (go_at_call 39; refine (isWithin_eq cells 0 10000 _ _ HR2).mono ?_; rintro e wq ⟨rfl, hw⟩; obtain rfl := hw.symm)
            | (go_at_call 40; refine (count_eq c sh st (unhide HSB) f HFL _ HCN _).mono ?_; rintro e w2 ⟨rfl, hb2⟩; have HB2 := hide ((unhide HB).trans (hb2.mono (unhide HB).size)); obtain ⟨u0, u1, u2, u3, u4, u5, u6, u7, u8, u9, u10, u11, v0, v1, v2, v3, v4, v5, v6, v7, v8, v9, v10, v11, ul⟩ := ((unhide HL).below (Nat.le_refl _) hb2).all; clear hb2)
            | (go_at_call 41; refine (unhide HRC _).mono ?_; rintro e w3 ⟨rfl, hb3⟩; have HB3 := hide ((unhide HB2).trans (hb3.mono (unhide HB2).size)); clear hb3))
          go_ret
          exact ⟨ret_bool (by rw [unhide HE]; first | done | (simp <;> omega)), unhide HB3⟩

end Go.Proofs.Ytadbhidpmihghaa
