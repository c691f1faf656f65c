import Derived.Test.YtadbhidpmihghaaSpecAnswer
import Derived.Test.YtadbhidpmihghaaSpecVCopy
import Derived.Test.YtadbhidpmihghaaTurnMath
import Derived.Test.YtadbhidpmihghaaBoolRow
import Derived.Deep.DeepCutAuto
namespace Go.Proofs.Ytadbhidpmihghaa
open Go.RowKit

theorem turn_no {c : Int} {sh st p : List Int} (h : ¬ (formed c sh st = true ∧ p.length = sh.length ∧ orderOk p sh.length sh.length = true)) : turnVw c sh st p = noView := by unfold turnVw; rw [if_neg h]; rfl
theorem turn_go {c : Int} {sh st p : List Int} (h : formed c sh st = true ∧ p.length = sh.length ∧ orderOk p sh.length sh.length = true) : turnVw c sh st p = ⟨c, turnV p sh sh.length, turnV p st sh.length, true⟩ := by unfold turnVw; rw [if_pos h]

set_option maxRecDepth 20000 in
set_option maxHeartbeats 8000000 in
theorem TurnView_any (c : Int) (a1 a2 : Addr) (n1 n2 c1 c2 : Nat) (sh st : List Int) (t1 : Addr) (u1 e1 : Nat) (ps : List Int) (w : World) (h1 : Row w (some a1) n1 sh) (h2 : Row w (some a2) n2 st) (k1 : Row w (some t1) u1 ps) (hps : ∀ k, -9223372036854775808 ≤ ps.getD k 0 ∧ ps.getD k 0 ≤ 9223372036854775807) :
    Calls Try.prog 23 #[.agg #[.int .i64 c, .slice (some a1) n1 c1, .slice (some a2) n2 c2], .slice (some t1) u1 e1] w (GivesV w (turnVw c sh st ps)) := by
  have hl3 := hide k1.len
  have K1 := hide k1
  have HPS := hide hps
  clear k1 hps
  have hl1 := hide h1.len
  have hl2 := hide h2.len
  have hs1 := h1.small
  have hs2 := h2.small
  have H1 := hide h1
  have H2 := hide h2
  clear h1 h2
  obtain ⟨r, hr⟩ : ∃ r, formed c sh st = r := ⟨_, rfl⟩
  have HR := hide hr
  clear hr
  have HCF := hide (l7Formed_eq c (some a1) (some a2) n1 n2 c1 c2 sh st ((w.alloc (.cells #[.int .i64 c, .slice (some a1) n1 c1, .slice (some a2) n2 c2] 24)).alloc (.cells #[.int .i64 0, .slice none 0 0, .slice none 0 0] 24)) (((unhide H1).alloc _).alloc _) (((unhide H2).alloc _).alloc _) r HR)
  go_enter Try.func23, Try.ntmps23
  go_wp2_with fail
  refine (unhide HCF).mono ?_
  rintro e w1 ⟨rfl, hb1⟩
  obtain ⟨B0, B1, hB⟩ := vboxes2 hb1
  obtain ⟨x0, x1, x2, x3, x4, x5, x6⟩ := B0.all
  obtain ⟨z0, z1, z2, z3, z4, z5, z6⟩ := B1.all
  have HV0 := hide B0
  have HV1 := hide B1
  have HB := hide hB
  clear hb1 B0 B1 hB HCF
  by_cases hgo : r = true ∧ u1 = n1
  · obtain ⟨rfl, hu1⟩ := hgo
    have hnn : n2 = n1 := by rw [← unhide hl1, ← unhide hl2]; exact (formed_parts (unhide HR)).2.1
    subst hnn
    have q1 : n2 = u1 := hu1.symm
    clear hu1
    subst q1
    have hcall := l7Copy_owns c a1 a2 n2 n2 c1 c2 sh st w1 ((unhide H1).below (Nat.le_refl _) (unhide HB)) ((unhide H2).below (Nat.le_refl _) (unhide HB))
    go_upto_region 5 with (go_at_call 44; refine hcall.mono ?_; rintro e w2 ⟨s1, f1, s2, f2, rfl, ho, hr2, hap, hb2⟩; have HO := hide ho; have HS2 := hide hr2; have HAP := hide hap; have HB2 := hide hb2; clear ho hr2 hap hb2)
    clear hcall x0 x1 x2 x3 x4 x5 x6 z0 z1 z2 z3 z4 z5 z6
    obtain ⟨_, _, ev, hO1⟩ := Own.of_owns (unhide HO) hs1
    cases ev
    have hw12 := (unhide HB2).size
    have hww := (unhide HB).size
    have hz1 := (unhide HV1).lt
    have E0 := hide (((unhide HV0).below (Nat.le_refl _) (unhide HB2)).alloc (.cells #[.int .i64 c, .slice s1 n2 f1, .slice s2 n2 f2] 24))
    have E1 := hide (((unhide HV1).below (Nat.le_refl _) (unhide HB2)).alloc (.cells #[.int .i64 c, .slice s1 n2 f1, .slice s2 n2 f2] 24))
    have E6 := hide (VBox.new w2 c (.slice s1 n2 f1) (.slice s2 n2 f2))
    have HS1 : Hid (Own (w2.alloc (.cells #[.int .i64 c, .slice s1 n2 f1, .slice s2 n2 f2] 24)) (w.heap.size + 2) s1 n2 sh) := (hO1.mono (by omega)).alloc _
    have HS3 : Hid (Own (w2.alloc (.cells #[.int .i64 c, .slice s1 n2 f1, .slice s2 n2 f2] 24)) (w.heap.size + 2) s2 n2 st) := ((unhide HS2).mono (by omega)).alloc _
    have HU1 : Hid (∀ x, At s1 n2 x → x < w2.heap.size) := fun x hx => hO1.row.hi hx
    have HU2 : Hid (∀ x, At s2 n2 x → x < w2.heap.size) := fun x hx => (unhide HS2).row.hi hx
    have HAP' : Hid (∀ x, At s1 n2 x → ∀ y, At s2 n2 y → x ≠ y) := fun x hx y hy e => by
      obtain ⟨hne, pa, e1, e2⟩ := hx
      subst e1
      have h1 := unhide HAP y hy
      rcases (unhide HO).2 with ⟨hv, _⟩ | ⟨g, cap, cur, hv, _⟩
      · simp at hv
      · simp at hv
        apply h1
        obtain ⟨e3, _⟩ := hv
        rw [e3] at e2 ⊢
        simp [Value.ownBlock] at e2 ⊢
        omega
    have HW : Hid (Below w.heap.size w (w2.alloc (.cells #[.int .i64 c, .slice s1 n2 f1, .slice s2 n2 f2] 24))) := ((unhide HB).trans ((unhide HB2).mono hww)).alloc (by omega) _
    have hp2 : w.heap.size + 1 < w2.heap.size := by omega
    generalize w2.alloc (.cells #[.int .i64 c, .slice s1 n2 f1, .slice s2 n2 f2] 24) = W at *
    have hpl : w2.heap.size < W.heap.size := (unhide E6).lt
    generalize w2.heap.size = p at *
    clear hO1 HO HS2 HAP HV0 HV1 HB HB2 hw12 hww hz1 w2 w1
    have hn5 : n2 ≤ 5 := by rw [← unhide hl1]; exact (shapeB_in (formed_parts (unhide HR)).1).2
    have hmk := run_make_row' (P := Try.prog) 61 4 (.bool false) 1 Try.underlying61 info_boolT rfl .i64 .i64 n2 (by omega) (by omega)
    go_wp2_with fail
    obtain ⟨gs, hgs⟩ : ∃ gs, gs = W.heap.size := ⟨_, rfl⟩
    obtain ⟨V, hV⟩ : ∃ V, V = W.alloc (.cells (madeCells #[.bool false] n2) 4) := ⟨_, rfl⟩
    have HBB : Hid (BBlk V gs (seenN ps n2 0)) := by rw [hV]; exact BBlk.made W n2 gs hgs
    have E0V : Hid (VBox V w.heap.size c (.slice (some a1) n2 c1) (.slice (some a2) n2 c2)) := by rw [hV]; exact (unhide E0).alloc _
    have E1V : Hid (VBox V (w.heap.size + 1) 0 (.slice none 0 0) (.slice none 0 0)) := by rw [hV]; exact (unhide E1).alloc _
    have E6V : Hid (VBox V p c (.slice s1 n2 f1) (.slice s2 n2 f2)) := by rw [hV]; exact (unhide E6).alloc _
    have O1V : Hid (Own V (w.heap.size + 2) s1 n2 (turnV ps sh 0)) := by rw [hV]; exact (unhide HS1).alloc _
    have O2V : Hid (Own V (w.heap.size + 2) s2 n2 (turnV ps st 0)) := by rw [hV]; exact (unhide HS3).alloc _
    have HWV : Hid (Below w.heap.size w V) := by rw [hV]; exact (unhide HW).alloc (unhide HW).size _
    have hzV : gs < V.heap.size := by rw [hV, hgs]; simp
    have hpg : p < gs := by rw [hgs]; exact hpl
    rw [← hV, ← hgs]
    clear hV hgs E0 E1 E6 HS1 HS3 HW hpl hmk
    clear W
    have KP1 : Hid (∀ q, At (some t1) n2 q → q < w.heap.size) := fun q h => (unhide K1).hi h
    have HP1 : Hid (∀ q, At (some a1) n2 q → q < w.heap.size) := fun q h => (unhide H1).hi h
    have HP2 : Hid (∀ q, At (some a2) n2 q → q < w.heap.size) := fun q h => (unhide H2).hi h
    have K1V := hide ((unhide K1).below (Nat.le_refl _) (unhide HWV))
    have H1V := hide ((unhide H1).below (Nat.le_refl _) (unhide HWV))
    have H2V := hide ((unhide H2).below (Nat.le_refl _) (unhide HWV))
    have hbw := (unhide HWV).size
    go_loopw [9] (fun v wr => ∃ i : Nat, i ≤ n2 ∧ v = .int .i64 (i : Nat) ∧ Hid (orderOk ps n2 i = true) ∧ Hid (BBlk wr gs (seenN ps n2 i)) ∧ Hid (Own wr (w.heap.size + 2) s1 n2 (turnV ps sh i)) ∧ Hid (Own wr (w.heap.size + 2) s2 n2 (turnV ps st i)) ∧ Hid (But (fun q => q = gs ∨ At s1 n2 q ∨ At s2 n2 q) V wr)) (fun v _ => n2 - (intOf v).toNat)
    case atStart => exact ⟨0, Nat.zero_le _, rfl, rfl, HBB, O1V, O2V, hide (But.refl _ _)⟩
    case round =>
      obtain ⟨i, hi, rfl, hord, hbb, ho1, ho2, hbut⟩ := hrel
      have hzr := hbut.out.size
      have hS : ∀ q, (q = gs ∨ At s1 n2 q ∨ At s2 n2 q) → w.heap.size + 2 ≤ q ∧ q ≠ p := fun q hq => by
        rcases hq with rfl | hq | hq
        · omega
        · have := ho1.out.low hq; have := unhide HU1 q hq; omega
        · have := ho2.out.low hq; have := unhide HU2 q hq; omega
      have F0 := hide ((unhide E0V).but hbut.out (fun h => by have := hS _ h; omega))
      have F1 := hide ((unhide E1V).but hbut.out (fun h => by have := hS _ h; omega))
      have F6 := hide ((unhide E6V).but hbut.out (fun h => (hS _ h).2 rfl))
      have HWr : Hid (Below w.heap.size w wr) := (unhide HWV).trans (hbut.out.below (B := w.heap.size) hbw (fun q hq => by have := hS q hq; omega))
      obtain ⟨z0, z1, z2, z3, z4, z5, z6⟩ := (unhide F1).all
      by_cases hin : i < n2
      · obtain ⟨b1, o1, hab, lw1, cp⟩ := (hbut.out.row K1V.out (fun q hq hat => by have := hS q hq; have := KP1.out q hat; omega)).get hin
        cases hab
        obtain ⟨b3, o3, hab, lw3, cx⟩ := (hbut.out.row H1V.out (fun q hq hat => by have := hS q hq; have := HP1.out q hat; omega)).get hin
        cases hab
        obtain ⟨b4, o4, hab, lw4, cy⟩ := (hbut.out.row H2V.out (fun q hq hat => by have := hS q hq; have := HP2.out q hat; omega)).get hin
        cases hab
        have l3 := HP1.out b3 ⟨by omega, _, rfl, rfl⟩
        have l4 := HP2.out b4 ⟨by omega, _, rfl, rfl⟩
        obtain ⟨zp, hzp⟩ : ∃ zp, zp = ps.getD i 0 := ⟨_, rfl⟩
        obtain ⟨x, hx⟩ : ∃ x, x = sh.getD i 0 := ⟨_, rfl⟩
        obtain ⟨y, hy⟩ : ∃ y, y = st.getD i 0 := ⟨_, rfl⟩
        have hpb := HPS.out i
        rw [← hzp] at cp hpb
        rw [← hx] at cx
        rw [← hy] at cy
        have HZP := hide hzp
        have HXv := hide hx
        have HYv := hide hy
        have HNO : Hid (stepOk ps n2 i = false → turnVw c sh st ps = noView) := fun h => turn_no (fun hh => by
          have := order_no (m := sh.length) (by rw [unhide hl1]; exact hin) h
          rw [unhide hl1] at this hh
          rw [this] at hh
          exact absurd hh.2.2 (by simp))
        have hii : (i : Int) < (n2 : Int) := by omega
        clear hzp hx hy
        by_cases q0 : 1 ≤ zp ∧ zp ≤ (n2 : Int)
        · obtain ⟨j, hj⟩ : ∃ j : Nat, zp - 1 = (j : Int) := ⟨(zp - 1).toNat, by omega⟩
          have hw1 : IntKind.i64.wrap (zp - 1) = (j : Int) := by rw [hj, IntKind.wrap_i64]; omega
          have hjn : j < n2 := by omega
          have hjl : (j : Int) < (n2 : Int) := by omega
          have HAX : Hid (axNo ps i = j) := by show _ = _; unfold axNo; rw [← HZP.out]; omega
          have cb := (unhide hbb).cell (i := j) (by rw [seenN_len]; exact hjn)
          have cbf := (unhide hbb).free j
          obtain ⟨sb, hsb⟩ : ∃ sb, sb = (seenN ps n2 i).getD j false := ⟨_, rfl⟩
          rw [← hsb] at cb
          have HSB := hide hsb
          clear hsb
          cases sb with
          | true =>
            have HF : Hid (turnVw c sh st ps = noView) := HNO.out (step_seen HAX.out HSB.out.symm)
            clear q0
            go_wp2_with fail
            refine bodyPost_ret (v := .tuple #[.agg #[.int .i64 0, .slice none 0 0, .slice none 0 0], .bool false]) (by simp [results, Try.results23, go_sem, z0, z1, z2]) rfl ?_
            rw [unhide HF]
            exact ⟨none, 0, 0, none, 0, 0, rfl, row_nil _ _, row_nil _ _, (((unhide HWr).setCell (by simp <;> omega) _).setCell (by simp <;> omega) _).setCell (by simp <;> omega) _⟩
          | false =>
            have HOK : Hid (orderOk ps n2 (i + 1) = true) := by
              show (orderOk ps n2 i && stepOk ps n2 i) = true
              rw [hord.out, step_in HAX.out (by rw [← HZP.out]; exact q0) HSB.out.symm]
              rfl
            have HSN : Hid (seenN ps n2 (i + 1) = (seenN ps n2 i).set j true) := by show (seenN ps n2 i).set (axNo ps i) true = _; rw [HAX.out]
            have HT1 : Hid (turnV ps sh (i + 1) = (turnV ps sh i).set j x) := by show (turnV ps sh i).set (axNo ps i) (sh.getD i 0) = _; rw [HAX.out, HXv.out]
            have HT2 : Hid (turnV ps st (i + 1) = (turnV ps st i).set j y) := by show (turnV ps st i).set (axNo ps i) (st.getD i 0) = _; rw [HAX.out, HYv.out]
            clear q0
            go_upto_region 13 with fail
            clear cb cbf z0 z1 z2 z3 z4 z5 z6 cp
            have B2 := hide ((unhide hbb).set j true)
            have G0 := hide ((unhide F0).other (q := ⟨gs, j, none⟩) (by show w.heap.size ≠ gs; omega) (.bool true))
            have G6 := hide ((unhide F6).other (q := ⟨gs, j, none⟩) (by show p ≠ gs; omega) (.bool true))
            have O1a := hide ((unhide ho1).other (q := ⟨gs, j, none⟩) (fun q hq e => by have := unhide HU1 q hq; simp at e; omega) (.bool true))
            have O2a := hide ((unhide ho2).other (q := ⟨gs, j, none⟩) (fun q hq e => by have := unhide HU2 q hq; simp at e; omega) (.bool true))
            have cx2 : (wr.setCell ⟨gs, j, none⟩ (.bool true)).cell? ⟨b3, o3 + i, none⟩ = some (.int .i64 x) := (World.cell?_setCell_other _ _ _ _ (by simp <;> omega)).trans cx
            have cy2 : (wr.setCell ⟨gs, j, none⟩ (.bool true)).cell? ⟨b4, o4 + i, none⟩ = some (.int .i64 y) := (World.cell?_setCell_other _ _ _ _ (by simp <;> omega)).trans cy
            have HB2 : Hid (But (fun q => q = gs ∨ At s1 n2 q ∨ At s2 n2 q) V (wr.setCell ⟨gs, j, none⟩ (.bool true))) := hbut.out.setCell (p := ⟨gs, j, none⟩) (.inl rfl) _
            generalize wr.setCell ⟨gs, j, none⟩ (.bool true) = w2 at *
            clear hbb F0 F1 F6 ho1 ho2 hbut HWr hS cx cy hzr lw1 lw3 lw4
            clear wr
            have hz2 := HB2.out.size
            go_cut [] (fun wx => Own wx (w.heap.size + 2) s1 n2 (turnV ps sh (i + 1)) ∧ But (At s1 n2) w2 wx)
            case first =>
              as_aux_lemma =>
                rcases (unhide O1a).at_ with h9 | ⟨g, og, rfl, hgB, hgl, hgc, hgf⟩
                · omega
                have hct := hgc j hjn
                have hft := hgf j hjn
                have HG1 := hide ((unhide O1a).set hjn x)
                clear hgc hgf
                obtain ⟨x0, x1, x2, x3, x4, x5, x6⟩ := (unhide G0).all
                obtain ⟨v0, v1, v2, v3, v4, v5, v6⟩ := (unhide G6).all
                go_region
                all_goals go_wp2_with fail
                all_goals go_meet
                all_goals case rel => exact ⟨by rw [HT1.out]; exact (unhide HG1).below (Nat.le_refl _) (Below.refl _ _).drew, ((But.refl (At (some ⟨g, og, none⟩) n2) w2).setCell (p := ⟨g, og + j, none⟩) (at_self (by omega)) _).drew⟩
            case rest =>
              obtain ⟨w3, hw3⟩ : ∃ q, q = wc := ⟨_, rfl⟩
              subst hw3
              obtain ⟨ho13, hb3⟩ := hcut
              have hz3 := hb3.size
              have B3 : Hid (BBlk w3 gs ((seenN ps n2 i).set j true)) := (hb3.block gs (by omega) (fun h => by have := unhide HU1 gs h; omega)).trans (unhide B2)
              have I0 := hide ((unhide G0).but hb3 (fun h => by have := (unhide O1a).low h; omega))
              have I6 := hide ((unhide G6).but hb3 (fun h => by have := unhide HU1 p h; omega))
              have O13 := hide ho13
              have O23 : Hid (Own w3 (w.heap.size + 2) s2 n2 (turnV ps st i)) := hb3.own (unhide O2a) (fun q hq hat => unhide HAP' q hq q hat rfl)
              have cy3 := (hb3.cellAt (b := b4) (o := o4 + i) (by omega) (fun h => by have := (unhide O1a).low h; omega)).trans cy2
              have HB3 : Hid (But (fun q => q = gs ∨ At s1 n2 q ∨ At s2 n2 q) V w3) := (HB2.out.trans hb3).mono (fun q hq => by
                rcases hq with hq | hq
                · exact hq
                · exact .inr (.inl hq))
              clear ho13 hb3 B2 G0 G6 O1a O2a cx2 cy2 HB2 hz2
              rcases (unhide O23).at_ with h9 | ⟨g, og, rfl, hgB, hgl, hgc, hgf⟩
              · omega
              have hct := hgc j hjn
              have hft := hgf j hjn
              have hgp : g < p := unhide HU2 g (at_self (by omega))
              have HG2 := hide ((unhide O23).set hjn y)
              clear hgc hgf
              obtain ⟨x0, x1, x2, x3, x4, x5, x6⟩ := (unhide I0).all
              obtain ⟨v0, v1, v2, v3, v4, v5, v6⟩ := (unhide I6).all
              go_upto_region 14 with fail
              go_region
              all_goals go_wp2_with fail
              all_goals go_roundw
              all_goals first
                | (refine ⟨i + 1, by omega, by go_num, HOK, ?_, ?_, ?_, hide ((HB3.out.setCell (p := ⟨g, og + j, none⟩) (.inr (.inr (at_self (by omega)))) _).drew)⟩
                   · show BBlk _ _ _
                     rw [HSN.out]
                     exact ((unhide B3).other (p := ⟨g, og + j, none⟩) (by show gs ≠ g; omega) _).drew
                   · show Own _ _ _ _ _
                     exact ((unhide O13).other (q := ⟨g, og + j, none⟩) (fun q hq e => unhide HAP' q hq g (at_self (by omega)) e) _).below (Nat.le_refl _) (Below.refl _ _).drew
                   · show Own _ _ _ _ _
                     rw [HT2.out]
                     exact (unhide HG2).below (Nat.le_refl _) (Below.refl _ _).drew)
                | (simp [intOf]; omega)
        · have HF : Hid (turnVw c sh st ps = noView) := HNO.out (step_out (by rw [← HZP.out]; exact q0))
          by_cases q1 : zp = -9223372036854775808
          · have hw1 : IntKind.i64.wrap (zp - 1) = 9223372036854775807 := by rw [q1]; decide
            have hw2 : (n2 : Int) ≤ 9223372036854775807 := by omega
            clear q0 hpb q1
            go_wp2_with fail
            refine bodyPost_ret (v := .tuple #[.agg #[.int .i64 0, .slice none 0 0, .slice none 0 0], .bool false]) (by simp [results, Try.results23, go_sem, z0, z1, z2]) rfl ?_
            rw [unhide HF]
            exact ⟨none, 0, 0, none, 0, 0, rfl, row_nil _ _, row_nil _ _, (((unhide HWr).setCell (by simp <;> omega) _).setCell (by simp <;> omega) _).setCell (by simp <;> omega) _⟩
          · have hw1 : IntKind.i64.wrap (zp - 1) = zp - 1 := by rw [IntKind.wrap_i64]; omega
            by_cases q2 : zp < 1
            · have q3 : zp - 1 < 0 := by omega
              clear q0 q1 q2
              go_wp2_with fail
              refine bodyPost_ret (v := .tuple #[.agg #[.int .i64 0, .slice none 0 0, .slice none 0 0], .bool false]) (by simp [results, Try.results23, go_sem, z0, z1, z2]) rfl ?_
              rw [unhide HF]
              exact ⟨none, 0, 0, none, 0, 0, rfl, row_nil _ _, row_nil _ _, (((unhide HWr).setCell (by simp <;> omega) _).setCell (by simp <;> omega) _).setCell (by simp <;> omega) _⟩
            · have q3 : ¬ zp - 1 < 0 := by omega
              have q4 : (n2 : Int) ≤ zp - 1 := by omega
              clear q0 q1 q2
              go_wp2_with fail
              refine bodyPost_ret (v := .tuple #[.agg #[.int .i64 0, .slice none 0 0, .slice none 0 0], .bool false]) (by simp [results, Try.results23, go_sem, z0, z1, z2]) rfl ?_
              rw [unhide HF]
              exact ⟨none, 0, 0, none, 0, 0, rfl, row_nil _ _, row_nil _ _, (((unhide HWr).setCell (by simp <;> omega) _).setCell (by simp <;> omega) _).setCell (by simp <;> omega) _⟩
      · have hie : i = n2 := by omega
        subst hie
        have HF : Hid (turnVw c sh st ps = ⟨c, turnV ps sh i, turnV ps st i, true⟩) := by
          have := turn_go (c := c) (sh := sh) (st := st) (p := ps) ⟨unhide HR, by rw [unhide hl1, unhide hl3], by rw [unhide hl1]; exact hord.out⟩
          rw [unhide hl1] at this
          exact this
        obtain ⟨v0, v1, v2, v3, v4, v5, v6⟩ := (unhide F6).all
        go_wp2_with fail
        obtain ⟨q0, q1, q2, q3, q4, q5, q6⟩ := ((unhide F1).sets (c' := c) (u1 := .slice s1 i f1) (u2 := .slice s2 i f2)).all
        refine bodyPost_ret (v := .tuple #[.agg #[.int .i64 c, .slice s1 i f1, .slice s2 i f2], .bool true]) (by simp [results, Try.results23, go_sem, q0, q1, q2]) rfl ?_
        rw [unhide HF]
        exact ⟨s1, i, f1, s2, i, f2, rfl, (unhide ho1).row.setsV (fun q hq => by have := (unhide ho1).low hq; omega) _ _ _, (unhide ho2).row.setsV (fun q hq => by have := (unhide ho2).low hq; omega) _ _ _, (((unhide HWr).setCell (by simp <;> omega) _).setCell (by simp <;> omega) _).setCell (by simp <;> omega) _⟩
  · have HF : Hid (turnVw c sh st ps = noView) := turn_no (fun h => hgo ⟨by rw [← unhide HR]; exact h.1, by rw [← unhide hl1, ← unhide hl3]; exact h.2.1⟩)
    cases r with
    | false =>
      clear hgo
      go_wp2_with fail
      refine bodyPost_ret (v := .tuple #[.agg #[.int .i64 0, .slice none 0 0, .slice none 0 0], .bool false]) (by simp [results, Try.results23, go_sem, z0, z1, z2]) rfl ?_
      rw [unhide HF]
      exact ⟨none, 0, 0, none, 0, 0, rfl, row_nil _ _, row_nil _ _, (((unhide HB).setCell (by simp <;> omega) _).setCell (by simp <;> omega) _).setCell (by simp <;> omega) _⟩
    | true =>
      have q1 : u1 ≠ n1 := fun e => hgo ⟨rfl, e⟩
      have b1 : ((u1 : Int) != (n1 : Int)) = true := by simp; omega
      clear hgo q1
      go_wp2_with fail
      refine bodyPost_ret (v := .tuple #[.agg #[.int .i64 0, .slice none 0 0, .slice none 0 0], .bool false]) (by simp [results, Try.results23, go_sem, z0, z1, z2]) rfl ?_
      rw [unhide HF]
      exact ⟨none, 0, 0, none, 0, 0, rfl, row_nil _ _, row_nil _ _, (((unhide HB).setCell (by simp <;> omega) _).setCell (by simp <;> omega) _).setCell (by simp <;> omega) _⟩

end Go.Proofs.Ytadbhidpmihghaa
