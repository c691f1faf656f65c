import Derived.Test.YtadbhidpmihghaaSpecAnswer
import Derived.Deep.DeepCutAuto
namespace Go.Proofs.Ytadbhidpmihghaa
open Go.RowKit

def flip (c : Int) (sh st : List Int) (ax : Int) : VAns :=
  if formed c sh st = true ∧ 0 ≤ ax ∧ ax < sh.length then
    if 1 < sh.getD ax.toNat 0 then answerOf (c + (sh.getD ax.toNat 0 - 1) * st.getD ax.toNat 0) sh (st.set ax.toNat (-st.getD ax.toNat 0)) else answerOf c sh st
  else noView

theorem flip_no {c ax : Int} {sh st : List Int} (h : ¬ (formed c sh st = true ∧ 0 ≤ ax ∧ ax < sh.length)) : flip c sh st ax = noView := by unfold flip; rw [if_neg h]
theorem flip_one {c : Int} {sh st : List Int} {k : Nat} (h : formed c sh st = true) (hk : k < sh.length) (h1 : ¬ 1 < sh.getD k 0) : flip c sh st (k : Int) = answerOf c sh st := by
  unfold flip; rw [if_pos ⟨h, by omega, by omega⟩, Int.toNat_natCast, if_neg h1]
theorem flip_two {c : Int} {sh st : List Int} {k : Nat} (h : formed c sh st = true) (hk : k < sh.length) (h1 : 1 < sh.getD k 0) : flip c sh st (k : Int) = answerOf (c + (sh.getD k 0 - 1) * st.getD k 0) sh (st.set k (-st.getD k 0)) := by
  unfold flip; rw [if_pos ⟨h, by omega, by omega⟩, Int.toNat_natCast, if_pos h1]

set_option maxRecDepth 20000 in
set_option maxHeartbeats 4000000 in
theorem FlipView_any (c : Int) (a1 a2 : Addr) (n1 n2 c1 c2 : Nat) (sh st : List Int) (ax : Int) (w : World) (h1 : Row w (some a1) n1 sh) (h2 : Row w (some a2) n2 st) :
    Calls Try.prog 28 #[.agg #[.int .i64 c, .slice (some a1) n1 c1, .slice (some a2) n2 c2], .int .i64 ax] w (GivesV w (flip c sh st ax)) := by
  have hl1 := hide h1.len
  have hl2 := hide h2.len
  have hs1 := h1.small
  have hs2 := h2.small
  have H1 := hide h1
  have H2 := hide h2
  clear h1 h2
  obtain ⟨r, hr⟩ : ∃ r, formed c sh st = r := ⟨_, rfl⟩
  have HR := hide hr
  clear hr
  have HCF := hide (l7Formed_eq c (some a1) (some a2) n1 n2 c1 c2 sh st ((w.alloc (.cells #[.int .i64 c, .slice (some a1) n1 c1, .slice (some a2) n2 c2] 24)).alloc (.cells #[.int .i64 0, .slice none 0 0, .slice none 0 0] 24)) (((unhide H1).alloc _).alloc _) (((unhide H2).alloc _).alloc _) r HR)
  go_enter Try.func28, Try.ntmps28
  go_wp2_with fail
  refine (unhide HCF).mono ?_
  rintro e w1 ⟨rfl, hb1⟩
  obtain ⟨B0, B1, hB⟩ := vboxes2 hb1
  obtain ⟨x0, x1, x2, x3, x4, x5, x6⟩ := B0.all
  obtain ⟨z0, z1, z2, z3, z4, z5, z6⟩ := B1.all
  have HV0 := hide B0
  have HV1 := hide B1
  have HB := hide hB
  clear hb1 B0 B1 hB HCF
  by_cases hgo : r = true ∧ 0 ≤ ax ∧ ax < (n1 : Int)
  · obtain ⟨rfl, hax0, hax1⟩ := hgo
    obtain ⟨k, rfl⟩ : ∃ k : Nat, ax = (k : Int) := ⟨ax.toNat, by omega⟩
    have hk1 : k < n1 := by omega
    have hnn : n2 = n1 := by rw [← unhide hl1, ← unhide hl2]; exact (formed_parts (unhide HR)).2.1
    subst hnn
    have hcall := l7Copy_owns c a1 a2 n2 n2 c1 c2 sh st w1 ((unhide H1).below (Nat.le_refl _) (unhide HB)) ((unhide H2).below (Nat.le_refl _) (unhide HB))
    go_upto_region 4 with (go_at_call 44; refine hcall.mono ?_; rintro e w2 ⟨s1, f1, s2, f2, rfl, ho, hr2, hap, hb2⟩; have HO := hide ho; have HS2 := hide hr2; have HAP := hide hap; have HB2 := hide hb2; clear ho hr2 hap hb2)
    clear hcall x0 x1 x2 x3 x4 x5 x6 z0 z1 z2 z3 z4 z5 z6
    obtain ⟨_, _, ev, hO1⟩ := Own.of_owns (unhide HO) hs1
    cases ev
    have hw12 := (unhide HB2).size
    have hww := (unhide HB).size
    have hz1 := (unhide HV1).lt
    have E0 := hide (((unhide HV0).below (Nat.le_refl _) (unhide HB2)).alloc (.cells #[.int .i64 c, .slice s1 n2 f1, .slice s2 n2 f2] 24))
    have E1 := hide (((unhide HV1).below (Nat.le_refl _) (unhide HB2)).alloc (.cells #[.int .i64 c, .slice s1 n2 f1, .slice s2 n2 f2] 24))
    have E6 := hide (VBox.new w2 c (.slice s1 n2 f1) (.slice s2 n2 f2))
    have HS1 : Hid (Own (w2.alloc (.cells #[.int .i64 c, .slice s1 n2 f1, .slice s2 n2 f2] 24)) (w.heap.size + 2) s1 n2 sh) := (hO1.mono (by omega)).alloc _
    have HS3 : Hid (Own (w2.alloc (.cells #[.int .i64 c, .slice s1 n2 f1, .slice s2 n2 f2] 24)) (w.heap.size + 2) s2 n2 st) := ((unhide HS2).mono (by omega)).alloc _
    have HU1 : Hid (∀ x, At s1 n2 x → x < w2.heap.size) := fun x hx => hO1.row.hi hx
    have HU2 : Hid (∀ x, At s2 n2 x → x < w2.heap.size) := fun x hx => (unhide HS2).row.hi hx
    have HAP' : Hid (∀ x, At s1 n2 x → ∀ y, At s2 n2 y → x ≠ y) := fun x hx y hy e => by
      obtain ⟨hne, pa, e1, e2⟩ := hx
      subst e1
      have h1 := unhide HAP y hy
      rcases (unhide HO).2 with ⟨hv, _⟩ | ⟨g, cap, cur, hv, _⟩
      · simp at hv
      · simp at hv
        apply h1
        obtain ⟨e3, _⟩ := hv
        rw [e3] at e2 ⊢
        simp [Value.ownBlock] at e2 ⊢
        omega
    have HW : Hid (Below w.heap.size w (w2.alloc (.cells #[.int .i64 c, .slice s1 n2 f1, .slice s2 n2 f2] 24))) := ((unhide HB).trans ((unhide HB2).mono hww)).alloc (by omega) _
    have hp2 : w.heap.size + 1 < w2.heap.size := by omega
    generalize w2.alloc (.cells #[.int .i64 c, .slice s1 n2 f1, .slice s2 n2 f2] 24) = W at *
    have hpl : w2.heap.size < W.heap.size := (unhide E6).lt
    generalize w2.heap.size = p at *
    clear hO1 HO HS2 HAP HV0 HV1 HB HB2 hw12 hww hz1 w2 w1
    obtain ⟨b, o, hab, hb, hcx⟩ := (unhide H1).get hk1
    cases hab
    obtain ⟨b', o', hab, hb', hcy⟩ := (unhide H2).get hk1
    cases hab
    have hcxW := ((unhide HW).cell (p := ⟨b, o + k, none⟩) hb).trans hcx
    have hcyW := ((unhide HW).cell (p := ⟨b', o' + k, none⟩) hb').trans hcy
    obtain ⟨hsb, _, hcb, hst⟩ := formed_parts (unhide HR)
    have hxb := (shapeB_in hsb).1.cell k
    have hyb := hst k
    obtain ⟨x, hx⟩ : ∃ x, x = sh.getD k 0 := ⟨_, rfl⟩
    obtain ⟨y, hy⟩ : ∃ y, y = st.getD k 0 := ⟨_, rfl⟩
    rw [← hx] at hcxW hxb
    rw [← hy] at hcyW hyb
    obtain ⟨x0, x1, x2, x3, x4, x5, x6⟩ := (unhide E0).all
    by_cases hx1 : 1 < x
    · have HF : Hid (flip c sh st (k : Int) = answerOf (c + (x - 1) * y) sh (st.set k (-y))) := by rw [hx, hy]; exact flip_two (unhide HR) (by rw [unhide hl1]; exact hk1) (by rw [← hx]; exact hx1)
      obtain ⟨z, hz⟩ : ∃ z, z = (x - 1) * y := ⟨_, rfl⟩
      have hzb : -100000000 ≤ z ∧ z ≤ 100000000 := by
        rw [hz]
        have q1 := Int.mul_le_mul_of_nonneg_left hyb.2 (by omega : 0 ≤ x - 1)
        have q2 := Int.mul_le_mul_of_nonneg_left hyb.1 (by omega : 0 ≤ x - 1)
        have q3 : (x - 1) * -10000 = -((x - 1) * 10000) := by rw [Int.mul_neg]
        omega
      rw [← hz] at HF
      have hw1 : IntKind.i64.wrap (x - 1) = x - 1 := by rw [IntKind.wrap_i64]; omega
      have hw2 : IntKind.i64.wrap ((x - 1) * y) = z := by rw [← hz, IntKind.wrap_i64]; omega
      have hw3 : IntKind.i64.wrap (c + z) = c + z := by rw [IntKind.wrap_i64]; omega
      have hw4 : IntKind.i64.wrap (-y) = -y := by rw [IntKind.wrap_i64]; omega
      obtain ⟨v0, v1, v2, v3, v4, v5, v6⟩ := (unhide E6).all
      clear hx hy hz hcx hcy hst
      go_upto_region 5 with fail
      go_cut [] (fun wx => VBox wx p (c + z) (.slice s1 n2 f1) (.slice s2 n2 f2) ∧ But (fun k => k = p) W wx)
      case first =>
        as_aux_lemma =>
          go_region
          all_goals go_wp2_with fail
          all_goals go_meet
          all_goals case rel => exact ⟨VBox.set0 (unhide E6) _, ((But.refl (fun k => k = p) W).setCell (p := ⟨p, 0, none⟩) rfl _).drew⟩
      case rest =>
        obtain ⟨w3, hw3⟩ : ∃ x, x = wc := ⟨_, rfl⟩
        subst hw3
        obtain ⟨hb6, hbut⟩ := hcut
        have F0 := hide ((unhide E0).but hbut (by show ¬ (w.heap.size = p); omega))
        have F1 := hide ((unhide E1).but hbut (by show ¬ (w.heap.size + 1 = p); omega))
        have F6 := hide hb6
        have HT1 := hide (hbut.own (unhide HS1) (fun k hk hat => by have := unhide HU1 k hat; omega))
        have HT2 := hide (hbut.own (unhide HS3) (fun k hk hat => by have := unhide HU2 k hat; omega))
        have HW3 := hide ((unhide HW).trans (hbut.below (B := w.heap.size) (unhide HW).size (fun k hk => by omega)))
        have hcy3 := (hbut.cellAt (o := o' + k) (Nat.lt_of_lt_of_le hb' (unhide HW).size) (by show ¬ (b' = p); omega)).trans hcyW
        have hpl3 := hb6.lt
        clear hb6 hbut x0 x1 x2 x3 x4 x5 x6 v0 v1 v2 v3 v4 v5 v6 E0 E1 E6 HS1 HS3 HW hcxW hcyW hpl W
        rcases (unhide HT2).at_ with h9 | ⟨g, og, rfl, hgB, hgl, hgc, hgf⟩
        · omega
        have hct := hgc k hk1
        have hft := hgf k hk1
        have hgp : g < p := unhide HU2 g (at_self (by omega))
        have HG2 := hide ((unhide HT2).set hk1 (-y))
        clear hgc hgf
        obtain ⟨x0, x1, x2, x3, x4, x5, x6⟩ := (unhide F0).all
        obtain ⟨v0, v1, v2, v3, v4, v5, v6⟩ := (unhide F6).all
        go_upto_region 6 with fail
        go_region
        all_goals
          have G6 := hide ((unhide F6).other (q := ⟨g, og + k, none⟩) (by show p ≠ g; omega) (.int .i64 (-y)))
          have G1 := hide ((unhide F1).other (q := ⟨g, og + k, none⟩) (by show w.heap.size + 1 ≠ g; omega) (.int .i64 (-y)))
          have HG1 := hide ((unhide HT1).other (q := ⟨g, og + k, none⟩) (fun x hx e => unhide HAP' x hx g (at_self (by omega)) e) (.int .i64 (-y)))
          have HWg := hide ((unhide HW3).setCell (p := ⟨g, og + k, none⟩) (by show w.heap.size ≤ g; omega) (.int .i64 (-y)))
          clear x0 x1 x2 x3 x4 x5 x6 v0 v1 v2 v3 v4 v5 v6 F0 F1 F6 HT1 HT2 HW3 hct hft hcy3
          generalize w3.setCell ⟨g, og + k, none⟩ (.int .i64 (-y)) = w4 at *
          obtain ⟨v0, v1, v2, v3, v4, v5, v6⟩ := (unhide G6).drew.all
          have hca := l7Answer_any (c + z) s1 (some ⟨g, og, none⟩) n2 n2 f1 f2 sh (st.set k (-y)) w4.drew ((unhide HG1).below (Nat.le_refl _) (Below.refl _ _).drew).row ((unhide HG2).below (Nat.le_refl _) (Below.refl _ _).drew).row
          have HZ := hide (unhide G1).drew
          generalize answerOf (c + z) sh (st.set k (-y)) = r9 at *
          go_wp2_with (go_at_call 48; refine hca.mono ?_; rintro e w9 ⟨q1, m1, d1, q2, m2, d2, rfl, hq1, hq2, ha1, ha2, hb9⟩; have HN1 := hide ha1; have HN2 := hide ha2; have HQ1 := hide hq1; have HQ2 := hide hq2; have HB9 := hide hb9; obtain ⟨z0, z1, z2, z3, z4, z5, z6⟩ := ((unhide HZ).below (Nat.le_refl _) hb9).all; clear hq1 hq2 ha1 ha2 hb9)
          refine bodyPost_ret (v := .tuple #[.agg #[.int .i64 r9.c, .slice q1 m1 d1, .slice q2 m2 d2], .bool r9.code]) (by simp [results, Try.results28, go_sem, z0, z1, z2]) rfl ?_
          rw [unhide HF]
          exact ⟨q1, m1, d1, q2, m2, d2, rfl, (unhide HQ1).setsV (fun x hx => by have := (unhide HG1).low (unhide HN1 x hx); omega) _ _ _, (unhide HQ2).setsV (fun x hx => by have := (unhide HG2).low (unhide HN2 x hx); omega) _ _ _, (((((unhide HWg).drew).trans ((unhide HB9).mono (by have := ((unhide HWg).drew).size; exact this))).setCell (by simp <;> omega) _).setCell (by simp <;> omega) _).setCell (by simp <;> omega) _⟩
    · have HF : Hid (flip c sh st (k : Int) = answerOf c sh st) := flip_one (unhide HR) (by rw [unhide hl1]; exact hk1) (by rw [← hx]; exact hx1)
      obtain ⟨v0, v1, v2, v3, v4, v5, v6⟩ := (unhide E6).all
      have hca := l7Answer_any c s1 s2 n2 n2 f1 f2 sh st W (unhide HS1).row (unhide HS3).row
      generalize answerOf c sh st = r9 at *
      clear hx hy hcx hcy hst
      go_wp2_with (go_at_call 48; refine hca.mono ?_; rintro e w9 ⟨q1, m1, d1, q2, m2, d2, rfl, hq1, hq2, ha1, ha2, hb9⟩; have HN1 := hide ha1; have HN2 := hide ha2; have HQ1 := hide hq1; have HQ2 := hide hq2; have HB9 := hide hb9; obtain ⟨z0, z1, z2, z3, z4, z5, z6⟩ := ((unhide E1).below (Nat.le_refl _) hb9).all; clear hq1 hq2 ha1 ha2 hb9)
      refine bodyPost_ret (v := .tuple #[.agg #[.int .i64 r9.c, .slice q1 m1 d1, .slice q2 m2 d2], .bool r9.code]) (by simp [results, Try.results28, go_sem, z0, z1, z2]) rfl ?_
      rw [unhide HF]
      exact ⟨q1, m1, d1, q2, m2, d2, rfl, (unhide HQ1).setsV (fun x hx => by have := (unhide HS1).low (unhide HN1 x hx); omega) _ _ _, (unhide HQ2).setsV (fun x hx => by have := (unhide HS3).low (unhide HN2 x hx); omega) _ _ _, ((((unhide HW).trans ((unhide HB9).mono (by have := (unhide HW).size; exact this))).setCell (by simp <;> omega) _).setCell (by simp <;> omega) _).setCell (by simp <;> omega) _⟩
  · have HF : Hid (flip c sh st ax = noView) := flip_no (by rw [unhide HR, unhide hl1]; exact hgo)
    cases r with
    | false =>
      clear hgo
      go_wp2
      refine bodyPost_ret (v := .tuple #[.agg #[.int .i64 0, .slice none 0 0, .slice none 0 0], .bool false]) (by simp [results, Try.results28, go_sem, z0, z1, z2]) rfl ?_
      rw [unhide HF]
      exact ⟨none, 0, 0, none, 0, 0, rfl, row_nil _ _, row_nil _ _, (((unhide HB).setCell (by simp <;> omega) _).setCell (by simp <;> omega) _).setCell (by simp <;> omega) _⟩
    | true =>
      by_cases hax : ax < 0
      · clear hgo
        go_wp2
        refine bodyPost_ret (v := .tuple #[.agg #[.int .i64 0, .slice none 0 0, .slice none 0 0], .bool false]) (by simp [results, Try.results28, go_sem, z0, z1, z2]) rfl ?_
        rw [unhide HF]
        exact ⟨none, 0, 0, none, 0, 0, rfl, row_nil _ _, row_nil _ _, (((unhide HB).setCell (by simp <;> omega) _).setCell (by simp <;> omega) _).setCell (by simp <;> omega) _⟩
      · have hax2 : (n1 : Int) ≤ ax := by
          have : ¬ (0 ≤ ax ∧ ax < (n1 : Int)) := fun h => hgo ⟨rfl, h⟩
          omega
        clear hgo
        go_wp2
        refine bodyPost_ret (v := .tuple #[.agg #[.int .i64 0, .slice none 0 0, .slice none 0 0], .bool false]) (by simp [results, Try.results28, go_sem, z0, z1, z2]) rfl ?_
        rw [unhide HF]
        exact ⟨none, 0, 0, none, 0, 0, rfl, row_nil _ _, row_nil _ _, (((unhide HB).setCell (by simp <;> omega) _).setCell (by simp <;> omega) _).setCell (by simp <;> omega) _⟩

end Go.Proofs.Ytadbhidpmihghaa
