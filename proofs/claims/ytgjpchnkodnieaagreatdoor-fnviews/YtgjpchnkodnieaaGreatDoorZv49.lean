import Derived.Test.YtgjpchnkodnieaaGreatDoorZv14
import Derived.Test.YtgjpchnkodnieaaGreatDoorZv11
import Derived.Test.YtgjpchnkodnieaaGreatDoorZv04
import Derived.Deep.DeepCutAuto
import Derived.BigQuiet
namespace Go.Proofs.YtgjpchnkodnieaaGreatDoor
open Go.RowKit
theorem cut_no {c : Int} {sh st fr ns : List Int} (h : ¬ (formed c sh st = true ∧ fr.length = sh.length ∧ ns.length = sh.length ∧ cutB sh fr ns sh.length = true)) : cutV c sh st fr ns = noView := by unfold cutV; rw [if_neg h]; rfl
theorem cutV_go {c : Int} {sh st fr ns : List Int} (h : formed c sh st = true ∧ fr.length = sh.length ∧ ns.length = sh.length ∧ cutB sh fr ns sh.length = true) : cutV c sh st fr ns = answerOf (offN c fr st sh.length) ns st := by unfold cutV; rw [if_pos h]; rfl
theorem butDrewN (S : Nat → Prop) (w : World) (n : Nat) : But S w (w.drewN n) := ⟨rfl, rfl, rfl, Nat.le_refl _, fun _ _ _ => rfl⟩
set_option maxRecDepth 20000 in
set_option maxHeartbeats 8000000 in
theorem CutView_any (c : Int) (a1 a2 : Addr) (n1 n2 c1 c2 : Nat) (sh st : List Int) (t1 : Addr) (u1 e1 : Nat) (fr : List Int) (t2 : Addr) (u2 e2 : Nat) (ns : List Int) (w : World) (h1 : Row w (some a1) n1 sh) (h2 : Row w (some a2) n2 st) (k1 : Row w (some t1) u1 fr) (k2 : Row w (some t2) u2 ns) :
    Calls Tryz.prog 31 #[.agg #[.int .i64 c, .slice (some a1) n1 c1, .slice (some a2) n2 c2], .slice (some t1) u1 e1, .slice (some t2) u2 e2] w (GivesV w (cutV c sh st fr ns)) := by
  have hl3 := hide k1.len
  have hl4 := hide k2.len
  have K1 := hide k1
  have K2 := hide k2
  clear k1 k2
  have hl1 := hide h1.len
  have hl2 := hide h2.len
  have hs1 := h1.small
  have hs2 := h2.small
  have H1 := hide h1
  have H2 := hide h2
  clear h1 h2
  obtain ⟨r, hr⟩ : ∃ r, formed c sh st = r := ⟨_, rfl⟩
  have HR := hide hr
  clear hr
  have HCF := hide (l7Formed_eq c (some a1) (some a2) n1 n2 c1 c2 sh st ((w.alloc (.cells #[.int .i64 c, .slice (some a1) n1 c1, .slice (some a2) n2 c2] 46)).alloc (.cells #[.int .i64 0, .slice none 0 0, .slice none 0 0] 46)) (((unhide H1).alloc _).alloc _) (((unhide H2).alloc _).alloc _) r HR)
  go_enter Tryz.func31, Tryz.ntmps31
  go_wp2_with fail
  refine (unhide HCF).mono ?_
  rintro e w1 ⟨rfl, hb1⟩
  obtain ⟨B0, B1, hB⟩ := vboxes2 hb1
  obtain ⟨x0, x1, x2, x3, x4, x5, x6⟩ := B0.all
  obtain ⟨z0, z1, z2, z3, z4, z5, z6⟩ := B1.all
  have HV0 := hide B0
  have HV1 := hide B1
  have HB := hide hB
  clear hb1 B0 B1 hB HCF
  by_cases hgo : r = true ∧ u1 = n1 ∧ u2 = n1
  · obtain ⟨rfl, hu1, hu2⟩ := hgo
    have hnn : n2 = n1 := by rw [← unhide hl1, ← unhide hl2]; exact (formed_parts (unhide HR)).2.1
    subst hnn
    have q1 : n2 = u1 := hu1.symm
    have q2 : n2 = u2 := hu2.symm
    clear hu1 hu2
    subst q1
    subst q2
    have hcall := l7Copy_owns c a1 a2 n2 n2 c1 c2 sh st w1 ((unhide H1).below (Nat.le_refl _) (unhide HB)) ((unhide H2).below (Nat.le_refl _) (unhide HB))
    go_upto_region 4 with (go_at_call 88; refine hcall.mono ?_; rintro e w2 ⟨s1, f1, s2, f2, rfl, ho, hr2, hap, hb2⟩; have HO := hide ho; have HS2 := hide hr2; have HAP := hide hap; have HB2 := hide hb2; clear ho hr2 hap hb2)
    clear hcall x0 x1 x2 x3 x4 x5 x6 z0 z1 z2 z3 z4 z5 z6
    obtain ⟨_, _, ev, hO1⟩ := Own.of_owns (unhide HO) hs1
    cases ev
    have hw12 := (unhide HB2).size
    have hww := (unhide HB).size
    have hz1 := (unhide HV1).lt
    have E0 := hide (((unhide HV0).below (Nat.le_refl _) (unhide HB2)).alloc (.cells #[.int .i64 c, .slice s1 n2 f1, .slice s2 n2 f2] 46))
    have E1 := hide (((unhide HV1).below (Nat.le_refl _) (unhide HB2)).alloc (.cells #[.int .i64 c, .slice s1 n2 f1, .slice s2 n2 f2] 46))
    have E6 := hide (VBox.new w2 c (.slice s1 n2 f1) (.slice s2 n2 f2))
    have HS1 : Hid (Own (w2.alloc (.cells #[.int .i64 c, .slice s1 n2 f1, .slice s2 n2 f2] 46)) (w.heap.size + 2) s1 n2 sh) := (hO1.mono (by omega)).alloc _
    have HS3 : Hid (Own (w2.alloc (.cells #[.int .i64 c, .slice s1 n2 f1, .slice s2 n2 f2] 46)) (w.heap.size + 2) s2 n2 st) := ((unhide HS2).mono (by omega)).alloc _
    have HU1 : Hid (∀ x, At s1 n2 x → x < w2.heap.size) := fun x hx => hO1.row.hi hx
    have HU2 : Hid (∀ x, At s2 n2 x → x < w2.heap.size) := fun x hx => (unhide HS2).row.hi hx
    have HAP' : Hid (∀ x, At s1 n2 x → ∀ y, At s2 n2 y → x ≠ y) := fun x hx y hy e => by
      obtain ⟨hne, pa, e1, e2⟩ := hx
      subst e1
      have h1 := unhide HAP y hy
      rcases (unhide HO).2 with ⟨hv, _⟩ | ⟨g, cap, cur, hv, _⟩
      · simp at hv
      · simp at hv
        apply h1
        obtain ⟨e3, _⟩ := hv
        rw [e3] at e2 ⊢
        simp [Value.ownBlock] at e2 ⊢
        omega
    have HW : Hid (Below w.heap.size w (w2.alloc (.cells #[.int .i64 c, .slice s1 n2 f1, .slice s2 n2 f2] 46))) := ((unhide HB).trans ((unhide HB2).mono hww)).alloc (by omega) _
    have hp2 : w.heap.size + 1 < w2.heap.size := by omega
    generalize w2.alloc (.cells #[.int .i64 c, .slice s1 n2 f1, .slice s2 n2 f2] 46) = W at *
    have hpl : w2.heap.size < W.heap.size := (unhide E6).lt
    generalize w2.heap.size = p at *
    clear hO1 HO HS2 HAP HV0 HV1 HB HB2 hw12 hww hz1 w2 w1
    obtain ⟨hsb2, _, hcb, hst⟩ := formed_parts (unhide HR)
    have HXB : Hid (∀ q, 0 ≤ sh.getD q 0 ∧ sh.getD q 0 ≤ 10000) := fun q => (shapeB_in hsb2).1.cell q
    have HYB := hide hst
    have hn5 : n2 ≤ 5 := by rw [← unhide hl1]; exact (shapeB_in hsb2).2
    have HCB := hide hcb
    clear hst hsb2 hcb
    have KP1 : Hid (∀ q, At (some t1) n2 q → q < w.heap.size) := fun q h => (unhide K1).hi h
    have KP2 : Hid (∀ q, At (some t2) n2 q → q < w.heap.size) := fun q h => (unhide K2).hi h
    have HP1 : Hid (∀ q, At (some a1) n2 q → q < w.heap.size) := fun q h => (unhide H1).hi h
    have HP2 : Hid (∀ q, At (some a2) n2 q → q < w.heap.size) := fun q h => (unhide H2).hi h
    have K1W := hide ((unhide K1).below (Nat.le_refl _) (unhide HW))
    have K2W := hide ((unhide K2).below (Nat.le_refl _) (unhide HW))
    have H1W := hide ((unhide H1).below (Nat.le_refl _) (unhide HW))
    have H2W := hide ((unhide H2).below (Nat.le_refl _) (unhide HW))
    have hbw := (unhide HW).size
    have HS10 : Hid (Own W (w.heap.size + 2) s1 n2 (ns.take 0 ++ sh.drop 0)) := by show Own _ _ _ _ _; simpa using unhide HS1
    go_wp2_with fail
    go_loopw [9] (fun v wr => ∃ i : Nat, i ≤ n2 ∧ v = .int .i64 (i : Nat) ∧ Hid (cutB sh fr ns i = true) ∧ Hid (VBox wr p (offN c fr st i) (.slice s1 n2 f1) (.slice s2 n2 f2)) ∧ Hid (Own wr (w.heap.size + 2) s1 n2 (ns.take i ++ sh.drop i)) ∧ Hid (But (fun q => q = p ∨ At s1 n2 q) W wr)) (fun v _ => n2 - (intOf v).toNat)
    case atStart => exact ⟨0, Nat.zero_le _, rfl, rfl, E6, HS10, hide (But.refl _ _)⟩
    case round =>
      obtain ⟨i, hi, rfl, hcb', hbx, hown, hbut⟩ := hrel
      have hzr := hbut.out.size
      have hS : ∀ q, (q = p ∨ At s1 n2 q) → w.heap.size + 2 ≤ q ∧ q ≤ p := fun q hq => by
        rcases hq with rfl | hq
        · omega
        · have := hown.out.low hq; have := unhide HU1 q hq; omega
      have F0 := hide ((unhide E0).but hbut.out (fun h => by have := hS _ h; omega))
      have F1 := hide ((unhide E1).but hbut.out (fun h => by have := hS _ h; omega))
      have HWr : Hid (Below w.heap.size w wr) := (unhide HW).trans (hbut.out.below (B := w.heap.size) hbw (fun q hq => by have := hS q hq; omega))
      have HT2 : Hid (Own wr (w.heap.size + 2) s2 n2 st) := hbut.out.own (unhide HS3) (fun q hq hat => by
        rcases hq with rfl | hq
        · have := unhide HU2 _ hat; omega
        · exact unhide HAP' q hq q hat rfl)
      by_cases hin : i < n2
      · obtain ⟨b1, o1, hab, _, cf⟩ := (hbut.out.row K1W.out (fun q hq hat => by have := hS q hq; have := KP1.out q hat; omega)).get hin
        cases hab
        obtain ⟨b2, o2, hab, _, cs⟩ := (hbut.out.row K2W.out (fun q hq hat => by have := hS q hq; have := KP2.out q hat; omega)).get hin
        cases hab
        obtain ⟨b3, o3, hab, _, cx⟩ := (hbut.out.row H1W.out (fun q hq hat => by have := hS q hq; have := HP1.out q hat; omega)).get hin
        cases hab
        obtain ⟨b4, o4, hab, _, cy⟩ := (hbut.out.row H2W.out (fun q hq hat => by have := hS q hq; have := HP2.out q hat; omega)).get hin
        cases hab
        have l1 := KP1.out b1 ⟨by omega, _, rfl, rfl⟩
        have l2 := KP2.out b2 ⟨by omega, _, rfl, rfl⟩
        have l4 := HP2.out b4 ⟨by omega, _, rfl, rfl⟩
        obtain ⟨fv, hfv⟩ : ∃ fv, fv = fr.getD i 0 := ⟨_, rfl⟩
        obtain ⟨sv, hsv⟩ : ∃ sv, sv = ns.getD i 0 := ⟨_, rfl⟩
        obtain ⟨x, hx⟩ : ∃ x, x = sh.getD i 0 := ⟨_, rfl⟩
        obtain ⟨y, hy⟩ : ∃ y, y = st.getD i 0 := ⟨_, rfl⟩
        obtain ⟨ov, hov⟩ : ∃ ov, ov = offN c fr st i := ⟨_, rfl⟩
        have hxb := HXB.out i
        have hyb := HYB.out i
        have hob := offN_bd (unhide HCB) (fun q => (HXB.out q).2) HYB.out hcb'.out
        rw [← hfv] at cf
        rw [← hsv] at cs
        rw [← hx] at cx hxb
        rw [← hy] at cy hyb
        rw [← hov] at hbx hob
        have hobn : -600000000 ≤ ov ∧ ov ≤ 600000000 := by omega
        have HFv := hide hfv
        have HSv := hide hsv
        have HXv := hide hx
        have HYv := hide hy
        have HOv := hide hov
        have HNO : Hid (cutOne sh fr ns i = false → cutV c sh st fr ns = noView) := fun h => cut_no (fun hh => by have := cutB_no (m := sh.length) (by rw [unhide hl1]; exact hin) h; rw [this] at hh; exact absurd hh.2.2.2 (by simp))
        have hii : (i : Int) < (n2 : Int) := by omega
        clear hfv hsv hx hy hov hob
        obtain ⟨x0, x1, x2, x3, x4, x5, x6⟩ := (unhide F0).all
        obtain ⟨z0, z1, z2, z3, z4, z5, z6⟩ := (unhide F1).all
        obtain ⟨v0, v1, v2, v3, v4, v5, v6⟩ := (unhide hbx).all
        by_cases q1 : fv < 0
        · have HF : Hid (cutV c sh st fr ns = noView) := HNO.out (by unfold cutOne; rw [← HFv.out, ← HSv.out, ← HXv.out]; exact decide_eq_false (fun h => by omega))
          go_wp2_with fail
          have d1 : decide (fv < 0) = true := decide_eq_true (by omega)
          clear q1
          go_big_quiet (fail)
          go_wp2_with fail
          refine bodyPost_ret (v := .tuple #[.agg #[.int .i64 0, .slice none 0 0, .slice none 0 0], .bool false]) (by simp [results, Tryz.results31, go_sem, z0, z1, z2]) rfl ?_
          rw [unhide HF]
          exact ⟨none, 0, 0, none, 0, 0, rfl, row_nil _ _, row_nil _ _, (((Below.drewN (unhide HWr) _).setCell (by simp <;> omega) _).setCell (by simp <;> omega) _).setCell (by simp <;> omega) _⟩
        by_cases q2 : sv < 0
        · have HF : Hid (cutV c sh st fr ns = noView) := HNO.out (by unfold cutOne; rw [← HFv.out, ← HSv.out, ← HXv.out]; exact decide_eq_false (fun h => by omega))
          go_wp2_with fail
          have d1 : decide (fv < 0) = false := decide_eq_false (by omega)
          have d2 : decide (sv < 0) = true := decide_eq_true (by omega)
          clear q1 q2
          go_big_quiet (fail)
          go_wp2_with fail
          refine bodyPost_ret (v := .tuple #[.agg #[.int .i64 0, .slice none 0 0, .slice none 0 0], .bool false]) (by simp [results, Tryz.results31, go_sem, z0, z1, z2]) rfl ?_
          rw [unhide HF]
          exact ⟨none, 0, 0, none, 0, 0, rfl, row_nil _ _, row_nil _ _, (((Below.drewN (unhide HWr) _).setCell (by simp <;> omega) _).setCell (by simp <;> omega) _).setCell (by simp <;> omega) _⟩
        by_cases q3 : x < fv
        · have HF : Hid (cutV c sh st fr ns = noView) := HNO.out (by unfold cutOne; rw [← HFv.out, ← HSv.out, ← HXv.out]; exact decide_eq_false (fun h => by omega))
          go_wp2_with fail
          have d1 : decide (fv < 0) = false := decide_eq_false (by omega)
          have d2 : decide (sv < 0) = false := decide_eq_false (by omega)
          have d3 : decide (x < fv) = true := decide_eq_true (by omega)
          clear q1 q2 q3
          go_big_quiet (fail)
          go_wp2_with fail
          refine bodyPost_ret (v := .tuple #[.agg #[.int .i64 0, .slice none 0 0, .slice none 0 0], .bool false]) (by simp [results, Tryz.results31, go_sem, z0, z1, z2]) rfl ?_
          rw [unhide HF]
          exact ⟨none, 0, 0, none, 0, 0, rfl, row_nil _ _, row_nil _ _, (((Below.drewN (unhide HWr) _).setCell (by simp <;> omega) _).setCell (by simp <;> omega) _).setCell (by simp <;> omega) _⟩
        have hwx : IntKind.i64.wrap (x - fv) = x - fv := by rw [IntKind.wrap_i64]; omega
        by_cases q4 : x - fv < sv
        · have HF : Hid (cutV c sh st fr ns = noView) := HNO.out (by unfold cutOne; rw [← HFv.out, ← HSv.out, ← HXv.out]; exact decide_eq_false (fun h => by omega))
          go_wp2_with fail
          have d1 : decide (fv < 0) = false := decide_eq_false (by omega)
          have d2 : decide (sv < 0) = false := decide_eq_false (by omega)
          have d3 : decide (x < fv) = false := decide_eq_false (by omega)
          have d4 : decide (x - fv < sv) = true := decide_eq_true (by omega)
          clear q1 q2 q3 q4
          go_big_quiet (fail)
          go_wp2_with fail
          refine bodyPost_ret (v := .tuple #[.agg #[.int .i64 0, .slice none 0 0, .slice none 0 0], .bool false]) (by simp [results, Tryz.results31, go_sem, z0, z1, z2]) rfl ?_
          rw [unhide HF]
          exact ⟨none, 0, 0, none, 0, 0, rfl, row_nil _ _, row_nil _ _, (((Below.drewN (unhide HWr) _).setCell (by simp <;> omega) _).setCell (by simp <;> omega) _).setCell (by simp <;> omega) _⟩
        have HOK : Hid (cutB sh fr ns (i + 1) = true) := by
          show (cutB sh fr ns i && cutOne sh fr ns i) = true
          rw [hcb'.out]
          unfold cutOne
          rw [← HFv.out, ← HSv.out, ← HXv.out]
          exact decide_eq_true ⟨by omega, by omega, by omega, by omega⟩
        obtain ⟨m, hm⟩ : ∃ m, m = fv * y := ⟨_, rfl⟩
        have hmb := prod_bd (f := fv) (y := y) (by omega) hyb
        rw [← hm] at hmb
        have hw4 : IntKind.i64.wrap (fv * y) = m := by rw [← hm, IntKind.wrap_i64]; omega
        have hmm : fv * y = m := hm.symm
        have hw5 : IntKind.i64.wrap (ov + m) = ov + m := by rw [IntKind.wrap_i64]; omega
        have HON : Hid (offN c fr st (i + 1) = ov + m) := by show offN c fr st i + fr.getD i 0 * st.getD i 0 = _; rw [← HOv.out, ← HFv.out, ← HYv.out, hmm]
        clear hm
        have HMIX : Hid ((ns.take i ++ sh.drop i).set i sv = ns.take (i + 1) ++ sh.drop (i + 1)) := by rw [HSv.out]; exact mixN_set (by rw [unhide hl1]; exact hin) (by rw [unhide hl1, unhide hl4])
        go_wp2_with fail
        have d1 : decide (fv < 0) = false := decide_eq_false (by omega)
        have d2 : decide (sv < 0) = false := decide_eq_false (by omega)
        have d3 : decide (x < fv) = false := decide_eq_false (by omega)
        have d4 : decide (x - fv < sv) = false := decide_eq_false (by omega)
        clear q1 q2 q3 q4
        go_big_quiet (fail)
        clear d1 d2 d3 d4
        go_upto_region 9 with fail
        go_cut [] (fun wx => VBox wx p (ov + m) (.slice s1 n2 f1) (.slice s2 n2 f2) ∧ But (fun q => q = p) wr wx)
        case first =>
          as_aux_lemma =>
            go_region
            all_goals go_wp2_with fail
            all_goals go_meet
            all_goals case rel => exact ⟨VBox.set0 (unhide hbx) _, (butDrewN (fun q => q = p) wr _).setCell (p := ⟨p, 0, none⟩) rfl _⟩
        case rest =>
          obtain ⟨w3, hw3⟩ : ∃ q, q = wc := ⟨_, rfl⟩
          subst hw3
          obtain ⟨hb6, hb3⟩ := hcut
          have hz3 := hb3.size
          have cs3 := (hb3.cellAt (b := b2) (o := o2 + i) (by have := (unhide HWr).size; omega) (by omega)).trans cs
          have HO3 : Hid (Own w3 (w.heap.size + 2) s1 n2 (ns.take i ++ sh.drop i)) := hb3.own (unhide hown) (fun q hq hat => by have := unhide HU1 q hat; omega)
          have HBT : Hid (But (fun q => q = p ∨ At s1 n2 q) W w3) := (hbut.out.trans hb3).mono (fun q hq => by
            rcases hq with hq | hq
            · exact hq
            · exact .inl hq)
          have F6 := hide hb6
          clear hb6 hb3 x0 x1 x2 x3 x4 x5 x6 z0 z1 z2 z3 z4 z5 z6 v0 v1 v2 v3 v4 v5 v6 cf cs cx cy hbx hown hbut F0 F1 HWr HT2 hS
          rcases (unhide HO3).at_ with h9 | ⟨g, og, rfl, hgB, hgl, hgc, hgf⟩
          · omega
          have hct := hgc i hin
          have hft := hgf i hin
          have hgp : g < p := unhide HU1 g (at_self (by omega))
          have HG1 := hide ((unhide HO3).set hin sv)
          clear hgc hgf
          obtain ⟨v0, v1, v2, v3, v4, v5, v6⟩ := (unhide F6).all
          go_upto_region 10 with fail
          go_region
          all_goals go_wp2_with fail
          all_goals go_roundw
          all_goals first
            | (refine ⟨i + 1, by omega, by go_num, HOK, ?_, ?_, hide ((HBT.out.setCell (p := ⟨g, og + i, none⟩) (.inr (at_self (by omega))) _).drew)⟩
               · show VBox _ _ _ _ _
                 rw [HON.out]
                 exact ((unhide F6).other (q := ⟨g, og + i, none⟩) (by show p ≠ g; omega) _).drew
               · show Own _ _ _ _ _
                 rw [← HMIX.out]
                 exact (unhide HG1).below (Nat.le_refl _) (Below.refl _ _).drew)
            | (simp [intOf]; omega)
      · have hie : i = n2 := by omega
        subst hie
        have HF : Hid (cutV c sh st fr ns = answerOf (offN c fr st i) ns st) := by
          have := cutV_go (c := c) (sh := sh) (st := st) (fr := fr) (ns := ns) ⟨unhide HR, by rw [unhide hl1, unhide hl3], by rw [unhide hl1, unhide hl4], by rw [unhide hl1]; exact hcb'.out⟩
          rw [unhide hl1] at this
          exact this
        obtain ⟨ov, hov⟩ : ∃ ov, ov = offN c fr st i := ⟨_, rfl⟩
        rw [← hov] at HF hbx
        clear hov
        have HT1 : Hid (Own wr (w.heap.size + 2) s1 i ns) := by
          have e : ns.take i ++ sh.drop i = ns := by rw [List.take_of_length_le (by rw [unhide hl4]; omega), List.drop_of_length_le (by rw [unhide hl1]; omega), List.append_nil]
          rw [← e]
          exact hown.out
        obtain ⟨v0, v1, v2, v3, v4, v5, v6⟩ := (unhide hbx).all
        have hca := l7Answer_any ov s1 s2 i i f1 f2 ns st wr (unhide HT1).row (unhide HT2).row
        generalize answerOf ov ns st = r9 at *
        go_wp2_with (go_at_call 89; refine hca.mono ?_; rintro e w9 ⟨q1, m1, d1, q2, m2, d2, rfl, hq1, hq2, ha1, ha2, hb9⟩; have HN1 := hide ha1; have HN2 := hide ha2; have HQ1 := hide hq1; have HQ2 := hide hq2; have HB9 := hide hb9; obtain ⟨z0, z1, z2, z3, z4, z5, z6⟩ := ((unhide F1).below (Nat.le_refl _) hb9).all; clear hq1 hq2 ha1 ha2 hb9)
        refine bodyPost_ret (v := .tuple #[.agg #[.int .i64 r9.c, .slice q1 m1 d1, .slice q2 m2 d2], .bool r9.code]) (by simp [results, Tryz.results31, go_sem, z0, z1, z2]) rfl ?_
        rw [unhide HF]
        exact ⟨q1, m1, d1, q2, m2, d2, rfl, (unhide HQ1).setsV (fun x hx => by have := (unhide HT1).low (unhide HN1 x hx); omega) _ _ _, (unhide HQ2).setsV (fun x hx => by have := (unhide HT2).low (unhide HN2 x hx); omega) _ _ _, ((((unhide HWr).trans ((unhide HB9).mono (unhide HWr).size)).setCell (by simp <;> omega) _).setCell (by simp <;> omega) _).setCell (by simp <;> omega) _⟩
  · have HF : Hid (cutV c sh st fr ns = noView) := cut_no (fun h => hgo ⟨by rw [← unhide HR]; exact h.1, by rw [← unhide hl1, ← unhide hl3]; exact h.2.1, by rw [← unhide hl1, ← unhide hl4]; exact h.2.2.1⟩)
    cases r with
    | false =>
      clear hgo
      go_wp2_with fail
      refine bodyPost_ret (v := .tuple #[.agg #[.int .i64 0, .slice none 0 0, .slice none 0 0], .bool false]) (by simp [results, Tryz.results31, go_sem, z0, z1, z2]) rfl ?_
      rw [unhide HF]
      exact ⟨none, 0, 0, none, 0, 0, rfl, row_nil _ _, row_nil _ _, (((unhide HB).setCell (by simp <;> omega) _).setCell (by simp <;> omega) _).setCell (by simp <;> omega) _⟩
    | true =>
      by_cases q1 : u1 = n1
      · have q2 : u2 ≠ n1 := fun e => hgo ⟨rfl, q1, e⟩
        have b1 : ((u1 : Int) != (n1 : Int)) = false := by simp [q1]
        have b2 : ((u2 : Int) != (n1 : Int)) = true := by simp; omega
        clear hgo q1 q2
        go_wp2_with fail
        refine bodyPost_ret (v := .tuple #[.agg #[.int .i64 0, .slice none 0 0, .slice none 0 0], .bool false]) (by simp [results, Tryz.results31, go_sem, z0, z1, z2]) rfl ?_
        rw [unhide HF]
        exact ⟨none, 0, 0, none, 0, 0, rfl, row_nil _ _, row_nil _ _, (((unhide HB).setCell (by simp <;> omega) _).setCell (by simp <;> omega) _).setCell (by simp <;> omega) _⟩
      · have b1 : ((u1 : Int) != (n1 : Int)) = true := by simp; omega
        clear hgo q1
        go_wp2_with fail
        refine bodyPost_ret (v := .tuple #[.agg #[.int .i64 0, .slice none 0 0, .slice none 0 0], .bool false]) (by simp [results, Tryz.results31, go_sem, z0, z1, z2]) rfl ?_
        rw [unhide HF]
        exact ⟨none, 0, 0, none, 0, 0, rfl, row_nil _ _, row_nil _ _, (((unhide HB).setCell (by simp <;> omega) _).setCell (by simp <;> omega) _).setCell (by simp <;> omega) _⟩
end Go.Proofs.YtgjpchnkodnieaaGreatDoor
