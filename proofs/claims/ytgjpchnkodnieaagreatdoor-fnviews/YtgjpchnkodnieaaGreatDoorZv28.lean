import Derived.Test.YtgjpchnkodnieaaGreatDoorZv14
import Derived.Test.YtgjpchnkodnieaaGreatDoorZv11
import Derived.Deep.DeepCutAuto
namespace Go.Proofs.YtgjpchnkodnieaaGreatDoor
open Go.RowKit
abbrev pickIn (c : Int) (sh st : List Int) (ax step num : Int) : Prop := formed c sh st = true ∧ 0 ≤ ax ∧ ax < sh.length ∧ 0 ≤ num ∧ num ≤ 10000 ∧ viewIn step = true
abbrev pickAt (x fr step num : Int) : Prop := 0 ≤ fr ∧ fr < x ∧ 0 ≤ fr + (num - 1) * step ∧ fr + (num - 1) * step < x
def pick (c : Int) (sh st : List Int) (ax fr step num : Int) : VAns :=
  if pickIn c sh st ax step num then
    if 0 < num then
      if pickAt (sh.getD ax.toNat 0) fr step num then answerOf (c + fr * st.getD ax.toNat 0) (sh.set ax.toNat num) (st.set ax.toNat (st.getD ax.toNat 0 * step)) else noView
    else answerOf c (sh.set ax.toNat num) (st.set ax.toNat (st.getD ax.toNat 0 * step))
  else noView
theorem pick_no {c ax fr step num : Int} {sh st : List Int} (h : ¬ pickIn c sh st ax step num) : pick c sh st ax fr step num = noView := by unfold pick; rw [if_neg h]
theorem pick_off {c fr step num : Int} {sh st : List Int} {k : Nat} (h : pickIn c sh st (k : Int) step num) (hn : 0 < num) (h2 : ¬ pickAt (sh.getD k 0) fr step num) : pick c sh st (k : Int) fr step num = noView := by unfold pick; rw [if_pos h, if_pos hn, Int.toNat_natCast, if_neg h2]
theorem pick_some {c fr step num : Int} {sh st : List Int} {k : Nat} (h : pickIn c sh st (k : Int) step num) (hn : 0 < num) (h2 : pickAt (sh.getD k 0) fr step num) : pick c sh st (k : Int) fr step num = answerOf (c + fr * st.getD k 0) (sh.set k num) (st.set k (st.getD k 0 * step)) := by unfold pick; rw [if_pos h, if_pos hn, Int.toNat_natCast, if_pos h2]
theorem pick_none {c fr step num : Int} {sh st : List Int} {k : Nat} (h : pickIn c sh st (k : Int) step num) (hn : ¬ 0 < num) : pick c sh st (k : Int) fr step num = answerOf c (sh.set k num) (st.set k (st.getD k 0 * step)) := by unfold pick; rw [if_pos h, if_neg hn, Int.toNat_natCast]
set_option maxRecDepth 20000 in
set_option maxHeartbeats 8000000 in
theorem PickView_room (c : Int) (a1 a2 : Addr) (n1 n2 c1 c2 : Nat) (sh st : List Int) (ax fr step num : Int) (w : World) (h1 : Row w (some a1) n1 sh) (h2 : Row w (some a2) n2 st) :
    Calls Tryz.prog 99 #[.agg #[.int .i64 c, .slice (some a1) n1 c1, .slice (some a2) n2 c2], .int .i64 ax, .int .i64 fr, .int .i64 step, .int .i64 num] w (GivesVR w (pick c sh st ax fr step num)) := by
  have hl1 := hide h1.len
  have hl2 := hide h2.len
  have hs1 := h1.small
  have hs2 := h2.small
  have H1 := hide h1
  have H2 := hide h2
  clear h1 h2
  obtain ⟨r, hr⟩ : ∃ r, formed c sh st = r := ⟨_, rfl⟩
  have HR := hide hr
  clear hr
  have HCF := hide (l7Formed_eq c (some a1) (some a2) n1 n2 c1 c2 sh st ((w.alloc (.cells #[.int .i64 c, .slice (some a1) n1 c1, .slice (some a2) n2 c2] 46)).alloc (.cells #[.int .i64 0, .slice none 0 0, .slice none 0 0] 46)) (((unhide H1).alloc _).alloc _) (((unhide H2).alloc _).alloc _) r HR)
  obtain ⟨ri, hri⟩ : ∃ ri, viewIn step = ri := ⟨_, rfl⟩
  have HIN := hide hri
  clear hri
  go_enter Tryz.func99, Tryz.ntmps99
  go_wp2_with fail
  refine (unhide HCF).mono ?_
  rintro e w1 ⟨rfl, hb1⟩
  obtain ⟨B0, B1, hB⟩ := vboxes2 hb1
  obtain ⟨x0, x1, x2, x3, x4, x5, x6⟩ := B0.all
  obtain ⟨z0, z1, z2, z3, z4, z5, z6⟩ := B1.all
  have HV0 := hide B0
  have HV1 := hide B1
  have HB := hide hB
  clear hb1 B0 B1 hB HCF
  by_cases hgo : r = true ∧ 0 ≤ ax ∧ ax < (n1 : Int) ∧ 0 ≤ num ∧ num ≤ 10000 ∧ ri = true
  · obtain ⟨rfl, hax0, hax1, hnm0, hnm1, rfl⟩ := hgo
    obtain ⟨k, rfl⟩ : ∃ k : Nat, ax = (k : Int) := ⟨ax.toNat, by omega⟩
    have hk1 : k < n1 := by omega
    have HPI : Hid (pickIn c sh st (k : Int) step num) := ⟨unhide HR, hax0, by rw [unhide hl1]; exact hax1, hnm0, hnm1, unhide HIN⟩
    have hsb : -10000 ≤ step ∧ step ≤ 10000 := by have := unhide HIN; simpa [viewIn] using this
    have hnn : n2 = n1 := by rw [← unhide hl1, ← unhide hl2]; exact (formed_parts (unhide HR)).2.1
    subst hnn
    have hcall := l7Copy_room c a1 a2 n2 n2 c1 c2 sh st w1 ((unhide H1).below (Nat.le_refl _) (unhide HB)) ((unhide H2).below (Nat.le_refl _) (unhide HB))
    go_upto_region 4 with (first | (go_at_call 159; refine (l7In_eq _ _ HIN _).mono ?_; rintro e wq ⟨rfl, hw⟩; obtain rfl := hw.symm) | (go_at_call 88; refine hcall.mono ?_; rintro e w2 ⟨s1, f1, s2, f2, rfl, ho, hr2, hap, hrt, hb2⟩; have HRT0 := hide hrt; clear hrt; have HO := hide ho; have HS2 := hide hr2; have HAP := hide hap; have HB2 := hide hb2; clear ho hr2 hap hb2))
    clear hcall x0 x1 x2 x3 x4 x5 x6 z0 z1 z2 z3 z4 z5 z6
    obtain ⟨_, _, ev, hO1⟩ := Own.of_owns (unhide HO) hs1
    cases ev
    have hw12 := (unhide HB2).size
    have hww := (unhide HB).size
    have hz1 := (unhide HV1).lt
    have E0 := hide (((unhide HV0).below (Nat.le_refl _) (unhide HB2)).alloc (.cells #[.int .i64 c, .slice s1 n2 f1, .slice s2 n2 f2] 46))
    have E1 := hide (((unhide HV1).below (Nat.le_refl _) (unhide HB2)).alloc (.cells #[.int .i64 c, .slice s1 n2 f1, .slice s2 n2 f2] 46))
    have E6 := hide (VBox.new w2 c (.slice s1 n2 f1) (.slice s2 n2 f2))
    have HS1 : Hid (Own (w2.alloc (.cells #[.int .i64 c, .slice s1 n2 f1, .slice s2 n2 f2] 46)) (w.heap.size + 2) s1 n2 sh) := (hO1.mono (by omega)).alloc _
    have HS3 : Hid (Own (w2.alloc (.cells #[.int .i64 c, .slice s1 n2 f1, .slice s2 n2 f2] 46)) (w.heap.size + 2) s2 n2 st) := ((unhide HS2).mono (by omega)).alloc _
    have HU1 : Hid (∀ x, At s1 n2 x → x < w2.heap.size) := fun x hx => hO1.row.hi hx
    have HU2 : Hid (∀ x, At s2 n2 x → x < w2.heap.size) := fun x hx => (unhide HS2).row.hi hx
    have HAP' : Hid (∀ x, At s1 n2 x → ∀ y, At s2 n2 y → x ≠ y) := fun x hx y hy e => by
      obtain ⟨hne, pa, e1, e2⟩ := hx
      subst e1
      have h1 := unhide HAP y hy
      rcases (unhide HO).2 with ⟨hv, _⟩ | ⟨g, cap, cur, hv, _⟩
      · simp at hv
      · simp at hv
        apply h1
        obtain ⟨e3, _⟩ := hv
        rw [e3] at e2 ⊢
        simp [Value.ownBlock] at e2 ⊢
        omega
    have HW : Hid (Below w.heap.size w (w2.alloc (.cells #[.int .i64 c, .slice s1 n2 f1, .slice s2 n2 f2] 46))) := ((unhide HB).trans ((unhide HB2).mono hww)).alloc (by omega) _
    have HRT : Hid (RoomTwo (w2.alloc (.cells #[.int .i64 c, .slice s1 n2 f1, .slice s2 n2 f2] 46)) w.heap.size s1 n2 f1 s2 n2 f2) := ((unhide HRT0).mono hww).alloc _
    have hp2 : w.heap.size + 1 < w2.heap.size := by omega
    generalize w2.alloc (.cells #[.int .i64 c, .slice s1 n2 f1, .slice s2 n2 f2] 46) = W at *
    have hpl : w2.heap.size < W.heap.size := (unhide E6).lt
    generalize w2.heap.size = p at *
    clear HRT0 hO1 HO HS2 HAP HV0 HV1 HB HB2 hw12 hww hz1 w2 w1
    obtain ⟨b, o, hab, hb, hcx⟩ := (unhide H1).get hk1
    cases hab
    obtain ⟨b', o', hab, hb', hcy⟩ := (unhide H2).get hk1
    cases hab
    have hcxW := ((unhide HW).cell (p := ⟨b, o + k, none⟩) hb).trans hcx
    have hcyW := ((unhide HW).cell (p := ⟨b', o' + k, none⟩) hb').trans hcy
    obtain ⟨hsb2, _, hcb, hst⟩ := formed_parts (unhide HR)
    have hxb := (shapeB_in hsb2).1.cell k
    have hyb := hst k
    obtain ⟨x, hx⟩ : ∃ x, x = sh.getD k 0 := ⟨_, rfl⟩
    obtain ⟨y, hy⟩ : ∃ y, y = st.getD k 0 := ⟨_, rfl⟩
    rw [← hx] at hcxW hxb
    rw [← hy] at hcyW hyb
    have HX := hide hx
    have HY := hide hy
    have hbw := (unhide HW).size
    rcases (unhide HS1).at_ with h9 | ⟨g, og, rfl, hgB, hgl, hgc, hgf⟩
    · omega
    have hct := hgc k hk1
    have hft := hgf k hk1
    have hgp : g < p := unhide HU1 g (at_self (by omega))
    have HG1 := hide ((unhide HS1).set hk1 num)
    clear hgc hgf hx hy hcx hcy hst hsb2
    obtain ⟨v0, v1, v2, v3, v4, v5, v6⟩ := (unhide E6).all
    go_upto_if 49 with fail
    clear v0 v1 v2 v3 v4 v5 v6 hct hft
    obtain ⟨W5, hW5⟩ : ∃ W5, W5 = W.setCell ⟨g, og + k, none⟩ (.int .i64 num) := ⟨_, rfl⟩
    have E0' := hide ((unhide E0).other (q := ⟨g, og + k, none⟩) (by show w.heap.size ≠ g; omega) (.int .i64 num))
    have E1' := hide ((unhide E1).other (q := ⟨g, og + k, none⟩) (by show w.heap.size + 1 ≠ g; omega) (.int .i64 num))
    have E6' := hide ((unhide E6).other (q := ⟨g, og + k, none⟩) (by show p ≠ g; omega) (.int .i64 num))
    have HS3' := hide ((unhide HS3).other (q := ⟨g, og + k, none⟩) (fun q hq e => unhide HAP' g (at_self (by omega)) q hq (by exact e.symm)) (.int .i64 num))
    have HW5 := hide ((unhide HW).setCell (p := ⟨g, og + k, none⟩) (by show w.heap.size ≤ g; omega) (.int .i64 num))
    have hcx5 : (W.setCell ⟨g, og + k, none⟩ (.int .i64 num)).cell? ⟨b, o + k, none⟩ = some (.int .i64 x) := (World.cell?_setCell_other _ _ _ _ (by simp <;> omega)).trans hcxW
    have hcy5 : (W.setCell ⟨g, og + k, none⟩ (.int .i64 num)).cell? ⟨b', o' + k, none⟩ = some (.int .i64 y) := (World.cell?_setCell_other _ _ _ _ (by simp <;> omega)).trans hcyW
    have hz5 : W5.heap.size = W.heap.size := by rw [hW5]; simp
    have HRT5 := hide ((unhide HRT).set g (og + k) (.int .i64 num))
    clear HRT
    rw [← hW5] at E0' E1' E6' HS3' HW5 hcx5 hcy5 HG1 HRT5
    rw [← hW5]
    have hpl5 : p < W5.heap.size := by omega
    clear hz5 hW5 E0 E1 E6 HS1 HS3 HW hcxW hcyW hpl hbw hgl
    clear W
    obtain ⟨z, hz⟩ : ∃ z, z = (num - 1) * step := ⟨_, rfl⟩
    have HZ := hide hz
    clear hz
    go_cut [] (fun wx => ∃ cc, Hid (pick c sh st (k : Int) fr step num = answerOf cc (sh.set k num) (st.set k (y * step))) ∧ VBox wx p cc (.slice (some ⟨g, og, none⟩) n2 f1) (.slice s2 n2 f2) ∧ But (fun q => q = p) W5 wx)
    case first =>
      as_aux_lemma =>
        obtain ⟨x0, x1, x2, x3, x4, x5, x6⟩ := (unhide E0').all
        obtain ⟨z0, z1, z2, z3, z4, z5, z6⟩ := (unhide E1').all
        obtain ⟨v0, v1, v2, v3, v4, v5, v6⟩ := (unhide E6').all
        by_cases hnum : 0 < num
        · have hzb : -100000000 ≤ z ∧ z ≤ 100000000 := by
            rw [HZ.out]
            have q1 := Int.mul_le_mul_of_nonneg_left hsb.2 (by omega : 0 ≤ num - 1)
            have q2 := Int.mul_le_mul_of_nonneg_left hsb.1 (by omega : 0 ≤ num - 1)
            have q3 : (num - 1) * -10000 = -((num - 1) * 10000) := by rw [Int.mul_neg]
            omega
          have hw1 : IntKind.i64.wrap (num - 1) = num - 1 := by rw [IntKind.wrap_i64]; omega
          have hw2 : IntKind.i64.wrap ((num - 1) * step) = z := by rw [← HZ.out, IntKind.wrap_i64]; omega
          have hmz : (num - 1) * step = z := HZ.out.symm
          by_cases hf0 : fr < 0
          · have HF : Hid (pick c sh st (k : Int) fr step num = noView) := pick_off (unhide HPI) hnum (fun h => by have := h.1; omega)
            go_wp2_with fail
            refine bodyPost_ret (v := .tuple #[.agg #[.int .i64 0, .slice none 0 0, .slice none 0 0], .bool false]) (by simp [results, Tryz.results99, go_sem, z0, z1, z2]) rfl ?_
            rw [unhide HF]
            exact ⟨none, 0, 0, none, 0, 0, rfl, row_nil _ _, row_nil _ _, (((unhide HW5).setCell (by simp <;> omega) _).setCell (by simp <;> omega) _).setCell (by simp <;> omega) _, fun h => by cases h⟩
          by_cases hf1 : x ≤ fr
          · have HF : Hid (pick c sh st (k : Int) fr step num = noView) := pick_off (unhide HPI) hnum (fun h => by have h2 := h.2.1; rw [← HX.out] at h2; omega)
            go_wp2_with fail
            refine bodyPost_ret (v := .tuple #[.agg #[.int .i64 0, .slice none 0 0, .slice none 0 0], .bool false]) (by simp [results, Tryz.results99, go_sem, z0, z1, z2]) rfl ?_
            rw [unhide HF]
            exact ⟨none, 0, 0, none, 0, 0, rfl, row_nil _ _, row_nil _ _, (((unhide HW5).setCell (by simp <;> omega) _).setCell (by simp <;> omega) _).setCell (by simp <;> omega) _, fun h => by cases h⟩
          have hw3 : IntKind.i64.wrap (fr + z) = fr + z := by rw [IntKind.wrap_i64]; omega
          by_cases hf2 : fr + z < 0
          · have HF : Hid (pick c sh st (k : Int) fr step num = noView) := pick_off (unhide HPI) hnum (fun h => by have h2 := h.2.2.1; rw [← HZ.out] at h2; omega)
            go_wp2_with fail
            refine bodyPost_ret (v := .tuple #[.agg #[.int .i64 0, .slice none 0 0, .slice none 0 0], .bool false]) (by simp [results, Tryz.results99, go_sem, z0, z1, z2]) rfl ?_
            rw [unhide HF]
            exact ⟨none, 0, 0, none, 0, 0, rfl, row_nil _ _, row_nil _ _, (((unhide HW5).setCell (by simp <;> omega) _).setCell (by simp <;> omega) _).setCell (by simp <;> omega) _, fun h => by cases h⟩
          by_cases hf3 : x ≤ fr + z
          · have HF : Hid (pick c sh st (k : Int) fr step num = noView) := pick_off (unhide HPI) hnum (fun h => by have h2 := h.2.2.2; rw [← HZ.out, ← HX.out] at h2; omega)
            go_wp2_with fail
            refine bodyPost_ret (v := .tuple #[.agg #[.int .i64 0, .slice none 0 0, .slice none 0 0], .bool false]) (by simp [results, Tryz.results99, go_sem, z0, z1, z2]) rfl ?_
            rw [unhide HF]
            exact ⟨none, 0, 0, none, 0, 0, rfl, row_nil _ _, row_nil _ _, (((unhide HW5).setCell (by simp <;> omega) _).setCell (by simp <;> omega) _).setCell (by simp <;> omega) _, fun h => by cases h⟩
          have HF : Hid (pick c sh st (k : Int) fr step num = answerOf (c + fr * y) (sh.set k num) (st.set k (y * step))) := by
            rw [HY.out]
            exact pick_some (unhide HPI) hnum ⟨by omega, by rw [← HX.out]; omega, by rw [← HZ.out]; omega, by rw [← HZ.out, ← HX.out]; omega⟩
          obtain ⟨m, hm⟩ : ∃ m, m = fr * y := ⟨_, rfl⟩
          have hmb : -100000000 ≤ m ∧ m ≤ 100000000 := by
            rw [hm]
            have q1 := Int.mul_le_mul_of_nonneg_left hyb.2 (by omega : 0 ≤ fr)
            have q2 := Int.mul_le_mul_of_nonneg_left hyb.1 (by omega : 0 ≤ fr)
            have q3 : fr * -10000 = -(fr * 10000) := by rw [Int.mul_neg]
            omega
          rw [← hm] at HF
          have hw4 : IntKind.i64.wrap (fr * y) = m := by rw [← hm, IntKind.wrap_i64]; omega
          have hmm : fr * y = m := hm.symm
          have hw5 : IntKind.i64.wrap (c + m) = c + m := by rw [IntKind.wrap_i64]; omega
          clear hm
          go_wp2_with fail
          go_region
          all_goals go_wp2_with fail
          all_goals go_meet
          all_goals case rel => exact ⟨c + m, HF, VBox.set0 (unhide E6') _, ((But.refl (fun q => q = p) W5).setCell (p := ⟨p, 0, none⟩) rfl _).drew⟩
        · have HF : Hid (pick c sh st (k : Int) fr step num = answerOf c (sh.set k num) (st.set k (y * step))) := by rw [HY.out]; exact pick_none (unhide HPI) hnum
          go_wp2_with fail
          go_meet
          case rel => exact ⟨c, HF, unhide E6', But.refl _ _⟩
    case rest =>
      obtain ⟨w3, hw3⟩ : ∃ q, q = wc := ⟨_, rfl⟩
      subst hw3
      obtain ⟨cc, HF, hb6, hbut⟩ := hcut
      have F0 := hide ((unhide E0').but hbut (by show ¬ (w.heap.size = p); omega))
      have F1 := hide ((unhide E1').but hbut (by show ¬ (w.heap.size + 1 = p); omega))
      have F6 := hide hb6
      have HR3 := hide ((unhide HRT5).butV (unhide E6') hbut)
      clear HRT5
      have HT1 := hide (hbut.own (unhide HG1) (fun q hq hat => by have := at_eq hat; omega))
      have HT2 := hide (hbut.own (unhide HS3') (fun q hq hat => by have := unhide HU2 q hat; omega))
      have HW3 := hide ((unhide HW5).trans (hbut.below (B := w.heap.size) (unhide HW5).size (fun q hq => by omega)))
      have hcy3 := (hbut.cellAt (o := o' + k) (Nat.lt_of_lt_of_le hb' (unhide HW5).size) (by show ¬ (b' = p); omega)).trans hcy5
      have hpl3 := hb6.lt
      clear hb6 hbut E0' E1' E6' HG1 HS3' HW5 hcx5 hcy5 hpl5
      clear W5
      obtain ⟨m, hm⟩ : ∃ m, m = y * step := ⟨_, rfl⟩
      have hmb : -100000000 ≤ m ∧ m ≤ 100000000 := by
        rw [hm]
        rcases Int.le_total 0 y with h0 | h0
        · have q1 := Int.mul_le_mul_of_nonneg_left hsb.2 h0
          have q2 := Int.mul_le_mul_of_nonneg_left hsb.1 h0
          have q3 : y * -10000 = -(y * 10000) := by rw [Int.mul_neg]
          omega
        · have q1 := Int.mul_le_mul_of_nonpos_left h0 hsb.2
          have q2 := Int.mul_le_mul_of_nonpos_left h0 hsb.1
          have q3 : y * -10000 = -(y * 10000) := by rw [Int.mul_neg]
          omega
      rw [← hm] at HF
      have hwm : IntKind.i64.wrap (y * step) = m := by rw [← hm, IntKind.wrap_i64]; omega
      have hym : y * step = m := hm.symm
      clear hm
      rcases (unhide HT2).at_ with h9 | ⟨g2, og2, rfl, hgB2, hgl2, hgc2, hgf2⟩
      · omega
      have hct := hgc2 k hk1
      have hft := hgf2 k hk1
      have hgp2 : g2 < p := unhide HU2 g2 (at_self (by omega))
      have HG2 := hide ((unhide HT2).set hk1 m)
      clear hgc2 hgf2
      obtain ⟨x0, x1, x2, x3, x4, x5, x6⟩ := (unhide F0).all
      obtain ⟨v0, v1, v2, v3, v4, v5, v6⟩ := (unhide F6).all
      go_upto_region 9 with fail
      go_region
      all_goals
        have G6 := hide ((unhide F6).other (q := ⟨g2, og2 + k, none⟩) (by show p ≠ g2; omega) (.int .i64 m))
        have G1 := hide ((unhide F1).other (q := ⟨g2, og2 + k, none⟩) (by show w.heap.size + 1 ≠ g2; omega) (.int .i64 m))
        have HR4 := hide ((unhide HR3).set g2 (og2 + k) (.int .i64 m))
        have HGa := hide ((unhide HT1).other (q := ⟨g2, og2 + k, none⟩) (fun q hq e => unhide HAP' q hq g2 (at_self (by omega)) e) (.int .i64 m))
        have HWg := hide ((unhide HW3).setCell (p := ⟨g2, og2 + k, none⟩) (by show w.heap.size ≤ g2; omega) (.int .i64 m))
        clear x0 x1 x2 x3 x4 x5 x6 v0 v1 v2 v3 v4 v5 v6 F0 F1 F6 HT1 HT2 HW3 HR3 hct hft hcy3
        generalize w3.setCell ⟨g2, og2 + k, none⟩ (.int .i64 m) = w4 at *
        obtain ⟨v0, v1, v2, v3, v4, v5, v6⟩ := (unhide G6).drew.all
        have hca := l7Answer_same cc (some ⟨g, og, none⟩) (some ⟨g2, og2, none⟩) n2 n2 f1 f2 (sh.set k num) (st.set k m) w4.drew ((unhide HGa).below (Nat.le_refl _) (Below.refl _ _).drew).row ((unhide HG2).below (Nat.le_refl _) (Below.refl _ _).drew).row
        have HZ1 := hide (unhide G1).drew
        generalize answerOf cc (sh.set k num) (st.set k m) = r9 at *
        go_wp2_with (go_at_call 89; refine hca.mono ?_; rintro e w9 ⟨q1, m1, d1, q2, m2, d2, rfl, hq1, hq2, ha1, ha2, hsm, hb9⟩; have HSM := hide hsm; clear hsm; have HN1 := hide ha1; have HN2 := hide ha2; have HQ1 := hide hq1; have HQ2 := hide hq2; have HB9 := hide hb9; obtain ⟨z0, z1, z2, z3, z4, z5, z6⟩ := ((unhide HZ1).below (Nat.le_refl _) hb9).all; clear hq1 hq2 ha1 ha2 hb9)
        refine bodyPost_ret (v := .tuple #[.agg #[.int .i64 r9.c, .slice q1 m1 d1, .slice q2 m2 d2], .bool r9.code]) (by simp [results, Tryz.results99, go_sem, z0, z1, z2]) rfl ?_
        rw [unhide HF]
        exact ⟨q1, m1, d1, q2, m2, d2, rfl, (unhide HQ1).setsV (fun x hx => by have := (unhide HGa).low (unhide HN1 x hx); omega) _ _ _, (unhide HQ2).setsV (fun x hx => by have := (unhide HG2).low (unhide HN2 x hx); omega) _ _ _, (((((unhide HWg).drew).trans ((unhide HB9).mono (by have := ((unhide HWg).drew).size; exact this))).setCell (by simp <;> omega) _).setCell (by simp <;> omega) _).setCell (by simp <;> omega) _, same_room (unhide HSM) ((((unhide HR4).drew.below (Nat.le_refl _) (unhide HB9)).set _ 0 _).set _ 1 _ |>.set _ 2 _)⟩
  · have HF : Hid (pick c sh st ax fr step num = noView) := pick_no (fun h => hgo ⟨by rw [← unhide HR]; exact h.1, h.2.1, by rw [← unhide hl1]; exact h.2.2.1, h.2.2.2.1, h.2.2.2.2.1, by rw [← unhide HIN]; exact h.2.2.2.2.2⟩)
    cases r with
    | false =>
      clear hgo
      go_wp2_with (first | (go_at_call 159; refine (l7In_eq _ _ HIN _).mono ?_; rintro e wq ⟨rfl, hw⟩; obtain rfl := hw.symm))
      refine bodyPost_ret (v := .tuple #[.agg #[.int .i64 0, .slice none 0 0, .slice none 0 0], .bool false]) (by simp [results, Tryz.results99, go_sem, z0, z1, z2]) rfl ?_
      rw [unhide HF]
      exact ⟨none, 0, 0, none, 0, 0, rfl, row_nil _ _, row_nil _ _, (((unhide HB).setCell (by simp <;> omega) _).setCell (by simp <;> omega) _).setCell (by simp <;> omega) _, fun h => by cases h⟩
    | true =>
      by_cases q1 : ax < 0
      · clear hgo
        go_wp2_with (first | (go_at_call 159; refine (l7In_eq _ _ HIN _).mono ?_; rintro e wq ⟨rfl, hw⟩; obtain rfl := hw.symm))
        refine bodyPost_ret (v := .tuple #[.agg #[.int .i64 0, .slice none 0 0, .slice none 0 0], .bool false]) (by simp [results, Tryz.results99, go_sem, z0, z1, z2]) rfl ?_
        rw [unhide HF]
        exact ⟨none, 0, 0, none, 0, 0, rfl, row_nil _ _, row_nil _ _, (((unhide HB).setCell (by simp <;> omega) _).setCell (by simp <;> omega) _).setCell (by simp <;> omega) _, fun h => by cases h⟩
      by_cases q2 : (n1 : Int) ≤ ax
      · clear hgo
        go_wp2_with (first | (go_at_call 159; refine (l7In_eq _ _ HIN _).mono ?_; rintro e wq ⟨rfl, hw⟩; obtain rfl := hw.symm))
        refine bodyPost_ret (v := .tuple #[.agg #[.int .i64 0, .slice none 0 0, .slice none 0 0], .bool false]) (by simp [results, Tryz.results99, go_sem, z0, z1, z2]) rfl ?_
        rw [unhide HF]
        exact ⟨none, 0, 0, none, 0, 0, rfl, row_nil _ _, row_nil _ _, (((unhide HB).setCell (by simp <;> omega) _).setCell (by simp <;> omega) _).setCell (by simp <;> omega) _, fun h => by cases h⟩
      by_cases q3 : num < 0
      · clear hgo
        go_wp2_with (first | (go_at_call 159; refine (l7In_eq _ _ HIN _).mono ?_; rintro e wq ⟨rfl, hw⟩; obtain rfl := hw.symm))
        refine bodyPost_ret (v := .tuple #[.agg #[.int .i64 0, .slice none 0 0, .slice none 0 0], .bool false]) (by simp [results, Tryz.results99, go_sem, z0, z1, z2]) rfl ?_
        rw [unhide HF]
        exact ⟨none, 0, 0, none, 0, 0, rfl, row_nil _ _, row_nil _ _, (((unhide HB).setCell (by simp <;> omega) _).setCell (by simp <;> omega) _).setCell (by simp <;> omega) _, fun h => by cases h⟩
      by_cases q4 : 10000 < num
      · clear hgo
        go_wp2_with (first | (go_at_call 159; refine (l7In_eq _ _ HIN _).mono ?_; rintro e wq ⟨rfl, hw⟩; obtain rfl := hw.symm))
        refine bodyPost_ret (v := .tuple #[.agg #[.int .i64 0, .slice none 0 0, .slice none 0 0], .bool false]) (by simp [results, Tryz.results99, go_sem, z0, z1, z2]) rfl ?_
        rw [unhide HF]
        exact ⟨none, 0, 0, none, 0, 0, rfl, row_nil _ _, row_nil _ _, (((unhide HB).setCell (by simp <;> omega) _).setCell (by simp <;> omega) _).setCell (by simp <;> omega) _, fun h => by cases h⟩
      cases ri with
      | true => exact absurd ⟨rfl, by omega, by omega, by omega, by omega, rfl⟩ hgo
      | false =>
        clear hgo
        go_wp2_with (first | (go_at_call 159; refine (l7In_eq _ _ HIN _).mono ?_; rintro e wq ⟨rfl, hw⟩; obtain rfl := hw.symm))
        refine bodyPost_ret (v := .tuple #[.agg #[.int .i64 0, .slice none 0 0, .slice none 0 0], .bool false]) (by simp [results, Tryz.results99, go_sem, z0, z1, z2]) rfl ?_
        rw [unhide HF]
        exact ⟨none, 0, 0, none, 0, 0, rfl, row_nil _ _, row_nil _ _, (((unhide HB).setCell (by simp <;> omega) _).setCell (by simp <;> omega) _).setCell (by simp <;> omega) _, fun h => by cases h⟩
theorem PickView_any (c : Int) (a1 a2 : Addr) (n1 n2 c1 c2 : Nat) (sh st : List Int) (ax fr step num : Int) (w : World) (h1 : Row w (some a1) n1 sh) (h2 : Row w (some a2) n2 st) :
    Calls Tryz.prog 99 #[.agg #[.int .i64 c, .slice (some a1) n1 c1, .slice (some a2) n2 c2], .int .i64 ax, .int .i64 fr, .int .i64 step, .int .i64 num] w (GivesV w (pick c sh st ax fr step num)) :=
  (PickView_room c a1 a2 n1 n2 c1 c2 sh st ax fr step num w h1 h2).mono fun _ _ h => h.any
end Go.Proofs.YtgjpchnkodnieaaGreatDoor
