import Derived.Test.YtadbhidpmihghaaViewMath
import Derived.Test.YtadbhidpmihghaaVBoxes
import Derived.Test.YtadbhidpmihghaaSpecIx
import Derived.Test.YtadbhidpmihghaaSpecShapeOk
import Derived.Deep.AppendLies
import Derived.Deep.QuietTactic
import Derived.Deep.DeepCutAuto
import Derived.BigQuiet
namespace Go.Proofs.Ytadbhidpmihghaa
open Go.RowKit

set_option maxHeartbeats 400000 in
theorem l7In_eq (v : Int) (r : Bool) (hr : Hid (viewIn v = r)) (w : World) : Calls Try.prog 55 #[.int .i64 v] w fun e w' => e = .returned (.bool r) ∧ w' = w := by
  by_cases h1 : -10000 ≤ v
  · by_cases h2 : v ≤ 10000
    · have HE : Hid (r = true) := by rw [← unhide hr]; exact decide_eq_true ⟨h1, h2⟩
      go_enter Try.func55, Try.ntmps55
      go_wp2
      go_ret
      exact ⟨ret_bool (by rw [unhide HE]), rfl⟩
    · have HE : Hid (r = false) := by rw [← unhide hr]; exact decide_eq_false (by omega)
      go_enter Try.func55, Try.ntmps55
      go_wp2
      go_ret
      exact ⟨ret_bool (by rw [unhide HE]), rfl⟩
  · have HE : Hid (r = false) := by rw [← unhide hr]; exact decide_eq_false (by omega)
    go_enter Try.func55, Try.ntmps55
    go_wp2
    go_ret
    exact ⟨ret_bool (by rw [unhide HE]), rfl⟩

theorem formed_no1 {off : Int} {sh st : List Int} (h : shapeB sh = false) : formed off sh st = false := by unfold formed; rw [h]; rfl
theorem formed_no2 {off : Int} {sh st : List Int} (h : st.length ≠ sh.length) : formed off sh st = false := by unfold formed; rw [decide_eq_false h]; simp
theorem formed_no3 {off : Int} {sh st : List Int} (h : viewIn off = false) : formed off sh st = false := by unfold formed; rw [h]; simp
theorem formed_no4 {off : Int} {sh st : List Int} (h : st.all viewIn = false) : formed off sh st = false := by unfold formed; rw [h]; simp
theorem formed_yes {off : Int} {sh st : List Int} (h1 : shapeB sh = true) (h2 : st.length = sh.length) (h3 : viewIn off = true) (h4 : st.all viewIn = true) : formed off sh st = true := by unfold formed; rw [h1, decide_eq_true h2, h3, h4]; rfl

set_option maxHeartbeats 2000000 in
theorem l7Formed_eq (off : Int) (a1 a2 : Option Addr) (n1 n2 c1 c2 : Nat) (sh st : List Int) (w : World) (h1 : Row w a1 n1 sh) (h2 : Row w a2 n2 st) (r : Bool) (hr : Hid (formed off sh st = r)) :
    Calls Try.prog 36 #[.agg #[.int .i64 off, .slice a1 n1 c1, .slice a2 n2 c2]] w fun e w' => e = .returned (.bool r) ∧ Below w.heap.size w w' := by
  have hl1 := hide h1.len
  have hl2 := hide h2.len
  have hs1 := h1.small
  have hs2 := h2.small
  have H1 := hide h1
  have H2 := hide h2
  clear h1 h2
  have hW : ∀ o, Below w.heap.size w (w.alloc o) := fun o => (Below.refl _ _).alloc (Nat.le_refl _) _
  obtain ⟨r1, hr1⟩ : ∃ r, shapeB sh = r := ⟨_, rfl⟩
  obtain ⟨r3, hr3⟩ : ∃ r, viewIn off = r := ⟨_, rfl⟩
  have HR1 := hide hr1
  have HR3 := hide hr3
  clear hr1 hr3
  cases r1 with
  | false =>
    have HE : Hid (r = false) := by rw [← unhide hr]; exact formed_no1 (unhide HR1)
    go_enter Try.func36, Try.ntmps36
    go_wp2_with (go_at_call 30; refine (l3ShapeOk_eq _ _ _ sh _ ((unhide H1).alloc _) _ HR1).mono ?_; rintro e wq ⟨rfl, hw⟩; obtain rfl := hw.symm)
    go_ret
    exact ⟨ret_bool (by rw [unhide HE]), hW _⟩
  | true =>
    by_cases hn : n2 = n1
    · subst hn
      cases r3 with
      | false =>
        have HE : Hid (r = false) := by rw [← unhide hr]; exact formed_no3 (unhide HR3)
        go_enter Try.func36, Try.ntmps36
        go_wp2_with (first | (go_at_call 30; refine (l3ShapeOk_eq _ _ _ sh _ ((unhide H1).alloc _) _ HR1).mono ?_; rintro e wq ⟨rfl, hw⟩; obtain rfl := hw.symm) | (go_at_call 55; refine (l7In_eq off _ HR3 _).mono ?_; rintro e wq ⟨rfl, hw⟩; obtain rfl := hw.symm))
        go_ret
        exact ⟨ret_bool (by rw [unhide HE]), hW _⟩
      | true =>
        go_enter Try.func36, Try.ntmps36
        go_wp2_with (first | (go_at_call 30; refine (l3ShapeOk_eq _ _ _ sh _ ((unhide H1).alloc _) _ HR1).mono ?_; rintro e wq ⟨rfl, hw⟩; obtain rfl := hw.symm) | (go_at_call 55; refine (l7In_eq off _ HR3 _).mono ?_; rintro e wq ⟨rfl, hw⟩; obtain rfl := hw.symm))
        go_loop [3] (fun i => ∃ k : Nat, k ≤ n2 ∧ i = .int .i64 k ∧ Hid ((st.take k).all viewIn = true)) (fun i => n2 - (intOf i).toNat)
        case atStart => exact ⟨0, Nat.zero_le _, rfl, rfl⟩
        case round =>
          obtain ⟨k, hk, rfl, hall⟩ := hrel
          by_cases hlt : k < n2
          · obtain ⟨b, o, rfl, hb, hc⟩ := (unhide H2).get hlt
            have hc' := ((hW (.cells #[.int .i64 off, .slice a1 n2 c1, .slice (some ⟨b, o, none⟩) n2 c2] 24)).cell (p := ⟨b, o + k, none⟩) hb).trans hc
            have hks : Hid (k < st.length) := by show k < st.length; rw [unhide hl2]; exact hlt
            obtain ⟨x, hx⟩ : ∃ x, x = st.getD k 0 := ⟨_, rfl⟩
            rw [← hx] at hc'
            have HX := hide hx
            obtain ⟨rx, hrx⟩ : ∃ r, viewIn x = r := ⟨_, rfl⟩
            have HRX := hide hrx
            clear hx hc hrx
            cases rx with
            | false =>
              have HE : Hid (r = false) := by rw [← unhide hr]; exact formed_no4 (all_not st viewIn k (unhide hks) (by rw [← unhide HX]; exact unhide HRX))
              go_wp2_with (go_at_call 55; refine (l7In_eq x _ HRX _).mono ?_; rintro e wq ⟨rfl, hw⟩; obtain rfl := hw.symm)
              go_ret
              exact ⟨ret_bool (by rw [unhide HE]), hW _⟩
            | true =>
              have HA := hide (all_step st viewIn k (unhide hks) (unhide hall) (by rw [← unhide HX]; exact unhide HRX))
              go_wp2_with (go_at_call 55; refine (l7In_eq x _ HRX _).mono ?_; rintro e wq ⟨rfl, hw⟩; obtain rfl := hw.symm)
              go_round
              case rel => exact ⟨k + 1, by omega, by go_num, HA⟩
              case measure => simp [intOf]; omega
          · have HE : Hid (r = true) := by
              rw [← unhide hr]
              have := unhide hall
              rw [List.take_of_length_le (by rw [unhide hl2]; omega)] at this
              exact formed_yes (unhide HR1) (by rw [unhide hl1, unhide hl2]) (unhide HR3) this
            go_wp2
            go_ret
            exact ⟨ret_bool (by rw [unhide HE]), hW _⟩
    · have g0 : ((n2 : Int) != (n1 : Int)) = true := by simp; omega
      have HE : Hid (r = false) := by rw [← unhide hr]; exact formed_no2 (by rw [unhide hl1, unhide hl2]; exact hn)
      clear hn
      go_enter Try.func36, Try.ntmps36
      go_wp2_with (go_at_call 30; refine (l3ShapeOk_eq _ _ _ sh _ ((unhide H1).alloc _) _ HR1).mono ?_; rintro e wq ⟨rfl, hw⟩; obtain rfl := hw.symm)
      go_ret
      exact ⟨ret_bool (by rw [unhide HE]), hW _⟩

theorem placesOf_len (off : Int) (sh st : List Int) (N : Nat) (hN : countOf sh = (N : Int)) : (placesOf off sh st).length = N := by simp [placesOf, hN]
theorem placesOf_get (off : Int) (sh st : List Int) (N k : Nat) (hN : countOf sh = (N : Int)) (hk : k < N) : (placesOf off sh st).getD k 0 = placeOf off sh st k := by simp [placesOf, hN, hk]

set_option maxRecDepth 20000 in
set_option maxHeartbeats 4000000 in
theorem l7Places_any (off : Int) (a1 a2 : Option Addr) (n c1 c2 : Nat) (sh st : List Int) (w : World) (h1 : Row w a1 n sh) (h2 : Row w a2 n st) (hf : formed off sh st = true) (N : Nat) (hN : countOf sh = (N : Int)) :
    Calls Try.prog 37 #[.agg #[.int .i64 off, .slice a1 n c1, .slice a2 n c2]] w fun e w' => ∃ g k, e = .returned (.slice (some ⟨g, 0, none⟩) N k) ∧ Own w' w.heap.size (some ⟨g, 0, none⟩) N (placesOf off sh st) ∧ Below w.heap.size w w' := by
  have hl1 := hide h1.len
  have hl2 := hide h2.len
  have H1 := hide h1
  have H2 := hide h2
  have HF := hide hf
  have HN := hide hN
  obtain ⟨hsb, _, ho1, hst⟩ := formed_parts hf
  have HSB := hide hsb
  have HST := hide hst
  have hn5 : n ≤ 5 := by rw [← h1.len]; exact (shapeB_in hsb).2
  have hN4 : N ≤ 10000 := by have := (shapeB_count hsb).2; omega
  obtain ⟨ps, hps⟩ : ∃ ps, ps = placesOf off sh st := ⟨_, rfl⟩
  have HPL : Hid (ps.length = N) := by rw [hps]; exact placesOf_len off sh st N hN
  have HPG : Hid (∀ k, k < N → ps.getD k 0 = placeOf off sh st k) := fun k hk => by rw [hps]; exact placesOf_get off sh st N k hN hk
  rw [← hps]
  clear h1 h2 hf hN hsb hst hps
  obtain ⟨i0, hi, hz0, hz1, hz2⟩ := info_parts info_int
  go_enter Try.func37, Try.ntmps37
  go_upto_region 2 with fail
  have hO0 : (((w.alloc (.cells #[.int .i64 off, .slice a1 n c1, .slice a2 n c2] 24)).alloc (.cells #[] 3)).ownsRow (w.heap.size + 1) 3 1 (.slice (some ⟨w.heap.size + 1, 0, none⟩) 0 0) 0 ((ps.take 0).map (Value.int .i64))) := by
    have := owns_empty (w.alloc (.cells #[.int .i64 off, .slice a1 n c1, .slice a2 n c2] 24))
    simpa using this
  have HO0 := hide hO0
  clear hO0
  have HB0 : Hid (VBox ((w.alloc (.cells #[.int .i64 off, .slice a1 n c1, .slice a2 n c2] 24)).alloc (.cells #[] 3)) w.heap.size off (.slice a1 n c1) (.slice a2 n c2)) := (VBox.new w off _ _).alloc _
  have HW0 : Hid (Below w.heap.size w ((w.alloc (.cells #[.int .i64 off, .slice a1 n c1, .slice a2 n c2] 24)).alloc (.cells #[] 3))) := ((Below.refl _ _).alloc (Nat.le_refl _) _).alloc (by simp) _
  have hWz : w.heap.size + 1 ≤ ((w.alloc (.cells #[.int .i64 off, .slice a1 n c1, .slice a2 n c2] 24)).alloc (.cells #[] 3)).heap.size := by simp
  generalize (w.alloc (.cells #[.int .i64 off, .slice a1 n c1, .slice a2 n c2] 24)).alloc (.cells #[] 3) = W at *
  obtain ⟨x0, x1, x2, x3, x4, x5, x6⟩ := (unhide HB0).all
  go_wp2_with (go_at_call 51; refine (l3Count_eq _ _ _ sh _ ((unhide H1).below (Nat.le_refl _) (unhide HW0)) _ HN).mono ?_; rintro e wq ⟨rfl, hw⟩; obtain rfl := hw.symm)
  go_loopw [3, 5] (fun s v wr => ∃ P g cap, P ≤ N ∧ v = .int .i64 (P : Nat) ∧ s = .slice (some ⟨g, 0, none⟩) P cap ∧ Hid (wr.ownsRow (w.heap.size + 1) 3 1 (.slice (some ⟨g, 0, none⟩) P cap) P ((ps.take P).map (Value.int .i64))) ∧ Hid (Below (w.heap.size + 1) W wr)) (fun _ v _ => N - (intOf v).toNat)
  case atStart => exact ⟨0, _, 0, Nat.zero_le _, rfl, rfl, HO0, Below.refl _ _⟩
  case round =>
    obtain ⟨wo, hwo⟩ : ∃ x, x = wr := ⟨_, rfl⟩
    subst hwo
    obtain ⟨P, g, cap, hP, rfl, rfl, hown, hlow⟩ := hrel
    clear HO0 x0 x1 x2 x3 x4 x5 x6
    have HBo := hide ((unhide HB0).low (by omega) (unhide hlow))
    have HWo := hide ((unhide HW0).trans ((unhide hlow).mono (by omega)))
    have hwz := (unhide hlow).size
    obtain ⟨x0, x1, x2, x3, x4, x5, x6⟩ := (unhide HBo).all
    by_cases hlt : P < N
    · have HFU : Hid (Full sh) := full_of (shapeB_in (unhide HSB)).1 (by rw [prodAll_count sh (unhide HSB), unhide HN]; omega)
      obtain ⟨D, hD⟩ : ∃ D, D = digits sh (P : Nat) := ⟨_, rfl⟩
      have HDL : Hid (D.length = n) := by rw [hD, digits_len]; exact unhide hl1
      have HDI : Hid (IxIn sh D) := by rw [hD]; exact digits_in (unhide HFU) _
      have hci := l5Index_any a1 n c1 sh (P : Nat) wo ((unhide H1).below (Nat.le_refl _) (unhide HWo)) (by omega) (fun k => ((shapeB_in (unhide HSB)).1.cell k).2) (unhide HFU) (by omega) (by omega)
      rw [← hD] at hci
      have HPP : Hid (ps.getD P 0 = off + farN D st n) := by rw [unhide HPG P hlt, hD]; unfold placeOf; rw [unhide hl1]; exact rfl
      clear hD
      go_upto_region 7 with (go_at_call 56; refine hci.mono ?_; rintro e w2 ⟨rfl, hK2, hb2⟩; have HK2 := hide hK2; have HB2 := hide hb2; clear hK2 hb2)
      clear hci x0 x1 x2 x3 x4 x5 x6
      have HBp := hide ((unhide HBo).below (Nat.le_refl _) (unhide HB2))
      have HO2 := hide (owns_below (unhide hown) (Nat.le_refl _) (unhide HB2))
      have HL2 := hide ((unhide hlow).trans ((unhide HB2).mono (by omega)))
      have HRP := hide ((unhide HWo).trans ((unhide HB2).mono (unhide HWo).size))
      have hgt : wo.heap.size < w2.heap.size := (unhide HK2).lt
      obtain ⟨x0, x1, x2, x3, x4, x5, x6⟩ := (unhide HBp).all
      clear HBo HWo hown hlow HB2
      generalize wo.heap.size = gt at *
      go_wp2_with fail
      go_loopw [7, 8] (fun q v wx => ∃ i : Nat, i ≤ n ∧ v = .int .i64 (i : Nat) ∧ q = .int .i64 (off + farN D st i) ∧ Hid (Below w2.heap.size w2 wx)) (fun _ v _ => n - (intOf v).toNat)
      case atStart => exact ⟨0, Nat.zero_le _, rfl, by simp [farN], Below.refl _ _⟩
      case round =>
        obtain ⟨i, hi9, rfl, rfl, hbx⟩ := hrel
        clear x0 x1 x2 x3 x4 x5 x6
        have HBx := hide ((unhide HBp).below (Nat.le_refl _) (unhide hbx))
        obtain ⟨x0, x1, x2, x3, x4, x5, x6⟩ := (unhide HBx).all
        by_cases hli : i < n
        · have hcd := ((unhide hbx).cell (p := ⟨gt, i, none⟩) hgt).trans ((unhide HK2).cell (i := i) (by rw [unhide HDL]; exact hli))
          obtain ⟨bs, os, rfl, hbs, hcs⟩ := ((unhide H2).below (Nat.le_refl _) (unhide HRP)).get hli
          have hcs' := ((unhide hbx).cell (p := ⟨bs, os + i, none⟩) hbs).trans hcs
          have hfb := farN_bd (unhide HDI) (fun k => ((shapeB_in (unhide HSB)).1.cell k).2) (unhide HST) i (by rw [unhide hl1]; omega)
          have hfb2 := farN_bd (unhide HDI) (fun k => ((shapeB_in (unhide HSB)).1.cell k).2) (unhide HST) (i + 1) (by rw [unhide hl1]; omega)
          have HNX : Hid (farN D st (i + 1) = farN D st i + D.getD i 0 * st.getD i 0) := rfl
          rw [unhide HNX] at hfb2
          obtain ⟨q, hq⟩ : ∃ q, q = off + farN D st i := ⟨_, rfl⟩
          obtain ⟨x, hx⟩ : ∃ x, x = D.getD i 0 := ⟨_, rfl⟩
          obtain ⟨y, hy⟩ : ∃ y, y = st.getD i 0 := ⟨_, rfl⟩
          rw [← hx] at hcd hfb2
          rw [← hy] at hcs' hfb2
          have HNQ : Hid (off + farN D st (i + 1) = q + x * y) := by rw [unhide HNX, hq, hx, hy, Int.add_assoc]; exact rfl
          obtain ⟨z, hz⟩ : ∃ z, z = x * y := ⟨_, rfl⟩
          rw [← hz] at hfb2 HNQ
          have hw1 : IntKind.i64.wrap (x * y) = z := by rw [IntKind.wrap_i64, ← hz]; omega
          have hw2 : IntKind.i64.wrap (q + z) = q + z := by rw [IntKind.wrap_i64]; omega
          rw [← hq]
          clear hq hx hy hz hfb hfb2 hcs HNX
          go_wp2_with fail
          go_quiet (fail)
          go_wp2_with fail
          go_roundw
          case rel => exact ⟨i + 1, by omega, by go_num, by rw [unhide HNQ], Below.drewN (unhide hbx) nq⟩
          case measure => simp [intOf]; omega
        · have hin : i = n := by omega
          subst hin
          have HO3 := hide (owns_below (unhide HO2) (Nat.le_refl _) (unhide hbx))
          have HL3 := hide ((unhide HL2).trans ((unhide hbx).mono (by have := (unhide HL2).size; omega)))
          obtain ⟨r1, hr1⟩ : ∃ r, r = off + farN D st i := ⟨_, rfl⟩
          rw [← hr1]
          have HR : Hid (ps.getD P 0 = r1) := by rw [hr1]; exact unhide HPP
          have hz3 := (unhide HL3).size
          clear hr1 HO2 HL2 HK2 HBp HRP hbx
          go_wp2_with (at_builtin; refine wpList_append_lies _ rfl _ _ 22 rfl (w.heap.size + 1) 3 i0 (.int .i64 0) 1 8 Try.underlying22 hi hz0 hz1 hz2 rfl (by decide) _ _ _ rfl (owns_below (unhide HO3) (Nat.le_refl _) ((Below.refl _ _).alloc (Nat.le_refl _) _)) ⟨wr.heap.size, 0, none⟩ 1 1 [.int .i64 r1] rfl rfl (cells_new _ _) (one_one _) (by omega) (by unfold maxLen; omega) (by omega) (by simp; omega) (wr.heap.size + 1) (by simp) ?_; intro g' cap' w7 hown' hgrow hat hlt7; have hl7 := below_append _ (unhide HO3) (by omega) hgrow; clear hgrow hat hlt7)
          go_roundw
          case rel => exact ⟨P + 1, g', cap', by omega, by go_num, rfl, by show w7.ownsRow _ _ _ _ _ _; rw [take_snoc ps P (by rw [unhide HPL]; exact hlt), unhide HR]; simpa using hown', (unhide HL3).trans hl7⟩
          case measure => simp [intOf]; omega
    · have hPN : P = N := by omega
      subst hPN
      have HE : Hid (wo.ownsRow (w.heap.size + 1) 3 1 (.slice (some ⟨g, 0, none⟩) P cap) P (ps.map (Value.int .i64))) := by have := unhide hown; rwa [List.take_of_length_le (by rw [unhide HPL]; exact Nat.le_refl _)] at this
      obtain ⟨_, _, ev, hO⟩ := Own.of_owns (unhide HE) (by omega)
      cases ev
      have HO := hide hO
      clear hO hown
      go_wp2
      go_ret
      exact ⟨g, cap, rfl, (unhide HO).mono (by omega), unhide HWo⟩

end Go.Proofs.Ytadbhidpmihghaa
