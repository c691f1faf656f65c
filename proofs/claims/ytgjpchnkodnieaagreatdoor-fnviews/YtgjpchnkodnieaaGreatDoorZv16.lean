import Derived.Test.YtgjpchnkodnieaaGreatDoorZv14
import Derived.Test.YtgjpchnkodnieaaGreatDoorZv11
import Derived.Deep.AppendLies
import Derived.Test.YtgjpchnkodnieaaGreatDoorZv04
import Derived.Deep.DeepCutAuto
import Derived.Test.YtgjpchnkodnieaaGreatDoorZv12
import Derived.Test.YtgjpchnkodnieaaGreatDoorZv05
import Derived.Test.YtgjpchnkodnieaaGreatDoorZv07
namespace Go.Proofs.YtgjpchnkodnieaaGreatDoor
open Go.RowKit
theorem Blk.new (w : World) : Blk (w.alloc (.cells #[] 3)) w.heap.size [] := by
  show (w.heap.push _)[w.heap.size]? = _
  simp
theorem Blk.owns {w : World} {g base : Nat} (h : Blk w g []) (hb : base ≤ g) : w.ownsRow base 3 1 (.slice (some ⟨g, 0, none⟩) 0 0) 0 [] :=
  ⟨by simp, .inr ⟨g, 0, #[], rfl, hb, h, by simp, by unfold maxLen; omega, by simp, by simp⟩⟩
theorem Own.grown {w w1 : World} {B g n : Nat} {a : Option Addr} {zs : List Int} (h : Own w B a n zs) (o : Obj) (hg : (w.alloc o).grownBy w1 (some g)) (hne : ∀ x, At a n x → x ≠ g) : Own w1 B a n zs := by
  refine ⟨h.len, h.small, ?_⟩
  rcases h.at_ with h0 | ⟨b, off, rfl, hb, hlt, hc, hf⟩
  · exact .inl h0
  · by_cases hn : n = 0
    · exact .inl hn
    have hk : w1.heap[b]? = w.heap[b]? := (hg.block b (by simp; omega) (fun e => hne b (at_self hn) (by simpa using e))).trans (Below.heap_alloc w o b hlt)
    refine .inr ⟨b, off, rfl, hb, ?_, fun i hi => (World.cell?_of_block (w := w) (a := ⟨b, off + i, none⟩) hk).trans (hc i hi), fun i hi => (World.frozen?_of_block (w := w) (a := ⟨b, off + i, none⟩) hk).trans (hf i hi)⟩
    rcases Nat.lt_or_ge b w1.heap.size with h1 | h1
    · exact h1
    · rw [Array.getElem?_eq_none h1, Array.getElem?_eq_getElem hlt] at hk; cases hk
end Go.Proofs.YtgjpchnkodnieaaGreatDoor
namespace Go.Proofs.YtgjpchnkodnieaaGreatDoor
theorem cutA_no {c : Int} {sh st fr ns : List Int} (h : ¬ (formed c sh st = true ∧ fr.length = sh.length ∧ ns.length = sh.length ∧ cutB sh fr ns sh.length = true)) : cutV c sh st fr ns = noView := by unfold cutV; rw [if_neg h]; rfl
theorem cutA_go {c : Int} {sh st fr ns : List Int} (h : formed c sh st = true ∧ fr.length = sh.length ∧ ns.length = sh.length ∧ cutB sh fr ns sh.length = true) : cutV c sh st fr ns = answerOf (offN c fr st sh.length) ns st := by unfold cutV; rw [if_pos h]; rfl
end Go.Proofs.YtgjpchnkodnieaaGreatDoor
namespace Go.Proofs.YtgjpchnkodnieaaGreatDoor
open Go.RowKit
def flip (c : Int) (sh st : List Int) (ax : Int) : VAns :=
  if formed c sh st = true ∧ 0 ≤ ax ∧ ax < sh.length then
    if 1 < sh.getD ax.toNat 0 then answerOf (c + (sh.getD ax.toNat 0 - 1) * st.getD ax.toNat 0) sh (st.set ax.toNat (-st.getD ax.toNat 0)) else answerOf c sh st
  else noView
theorem flip_no {c ax : Int} {sh st : List Int} (h : ¬ (formed c sh st = true ∧ 0 ≤ ax ∧ ax < sh.length)) : flip c sh st ax = noView := by unfold flip; rw [if_neg h]
theorem flip_one {c : Int} {sh st : List Int} {k : Nat} (h : formed c sh st = true) (hk : k < sh.length) (h1 : ¬ 1 < sh.getD k 0) : flip c sh st (k : Int) = answerOf c sh st := by
  unfold flip; rw [if_pos ⟨h, by omega, by omega⟩, Int.toNat_natCast, if_neg h1]
theorem flip_two {c : Int} {sh st : List Int} {k : Nat} (h : formed c sh st = true) (hk : k < sh.length) (h1 : 1 < sh.getD k 0) : flip c sh st (k : Int) = answerOf (c + (sh.getD k 0 - 1) * st.getD k 0) sh (st.set k (-st.getD k 0)) := by
  unfold flip; rw [if_pos ⟨h, by omega, by omega⟩, Int.toNat_natCast, if_pos h1]
set_option maxRecDepth 20000 in
set_option maxHeartbeats 4000000 in
theorem FlipView_room (c : Int) (a1 a2 : Addr) (n1 n2 c1 c2 : Nat) (sh st : List Int) (ax : Int) (w : World) (h1 : Row w (some a1) n1 sh) (h2 : Row w (some a2) n2 st) :
    Calls Tryz.prog 36 #[.agg #[.int .i64 c, .slice (some a1) n1 c1, .slice (some a2) n2 c2], .int .i64 ax] w (GivesVR w (flip c sh st ax)) := by
  have hl1 := hide h1.len
  have hl2 := hide h2.len
  have hs1 := h1.small
  have hs2 := h2.small
  have H1 := hide h1
  have H2 := hide h2
  clear h1 h2
  obtain ⟨r, hr⟩ : ∃ r, formed c sh st = r := ⟨_, rfl⟩
  have HR := hide hr
  clear hr
  have HCF := hide (l7Formed_eq c (some a1) (some a2) n1 n2 c1 c2 sh st ((w.alloc (.cells #[.int .i64 c, .slice (some a1) n1 c1, .slice (some a2) n2 c2] 46)).alloc (.cells #[.int .i64 0, .slice none 0 0, .slice none 0 0] 46)) (((unhide H1).alloc _).alloc _) (((unhide H2).alloc _).alloc _) r HR)
  go_enter Tryz.func36, Tryz.ntmps36
  go_wp2_with fail
  refine (unhide HCF).mono ?_
  rintro e w1 ⟨rfl, hb1⟩
  obtain ⟨B0, B1, hB⟩ := vboxes2 hb1
  obtain ⟨x0, x1, x2, x3, x4, x5, x6⟩ := B0.all
  obtain ⟨z0, z1, z2, z3, z4, z5, z6⟩ := B1.all
  have HV0 := hide B0
  have HV1 := hide B1
  have HB := hide hB
  clear hb1 B0 B1 hB HCF
  by_cases hgo : r = true ∧ 0 ≤ ax ∧ ax < (n1 : Int)
  · obtain ⟨rfl, hax0, hax1⟩ := hgo
    obtain ⟨k, rfl⟩ : ∃ k : Nat, ax = (k : Int) := ⟨ax.toNat, by omega⟩
    have hk1 : k < n1 := by omega
    have hnn : n2 = n1 := by rw [← unhide hl1, ← unhide hl2]; exact (formed_parts (unhide HR)).2.1
    subst hnn
    have hcall := l7Copy_room c a1 a2 n2 n2 c1 c2 sh st w1 ((unhide H1).below (Nat.le_refl _) (unhide HB)) ((unhide H2).below (Nat.le_refl _) (unhide HB))
    go_upto_region 4 with (go_at_call 88; refine hcall.mono ?_; rintro e w2 ⟨s1, f1, s2, f2, rfl, ho, hr2, hap, hrt, hb2⟩; have HRT0 := hide hrt; clear hrt; have HO := hide ho; have HS2 := hide hr2; have HAP := hide hap; have HB2 := hide hb2; clear ho hr2 hap hb2)
    clear hcall x0 x1 x2 x3 x4 x5 x6 z0 z1 z2 z3 z4 z5 z6
    obtain ⟨_, _, ev, hO1⟩ := Own.of_owns (unhide HO) hs1
    cases ev
    have hw12 := (unhide HB2).size
    have hww := (unhide HB).size
    have hz1 := (unhide HV1).lt
    have E0 := hide (((unhide HV0).below (Nat.le_refl _) (unhide HB2)).alloc (.cells #[.int .i64 c, .slice s1 n2 f1, .slice s2 n2 f2] 46))
    have E1 := hide (((unhide HV1).below (Nat.le_refl _) (unhide HB2)).alloc (.cells #[.int .i64 c, .slice s1 n2 f1, .slice s2 n2 f2] 46))
    have E6 := hide (VBox.new w2 c (.slice s1 n2 f1) (.slice s2 n2 f2))
    have HS1 : Hid (Own (w2.alloc (.cells #[.int .i64 c, .slice s1 n2 f1, .slice s2 n2 f2] 46)) (w.heap.size + 2) s1 n2 sh) := (hO1.mono (by omega)).alloc _
    have HS3 : Hid (Own (w2.alloc (.cells #[.int .i64 c, .slice s1 n2 f1, .slice s2 n2 f2] 46)) (w.heap.size + 2) s2 n2 st) := ((unhide HS2).mono (by omega)).alloc _
    have HU1 : Hid (∀ x, At s1 n2 x → x < w2.heap.size) := fun x hx => hO1.row.hi hx
    have HU2 : Hid (∀ x, At s2 n2 x → x < w2.heap.size) := fun x hx => (unhide HS2).row.hi hx
    have HAP' : Hid (∀ x, At s1 n2 x → ∀ y, At s2 n2 y → x ≠ y) := fun x hx y hy e => by
      obtain ⟨hne, pa, e1, e2⟩ := hx
      subst e1
      have h1 := unhide HAP y hy
      rcases (unhide HO).2 with ⟨hv, _⟩ | ⟨g, cap, cur, hv, _⟩
      · simp at hv
      · simp at hv
        apply h1
        obtain ⟨e3, _⟩ := hv
        rw [e3] at e2 ⊢
        simp [Value.ownBlock] at e2 ⊢
        omega
    have HW : Hid (Below w.heap.size w (w2.alloc (.cells #[.int .i64 c, .slice s1 n2 f1, .slice s2 n2 f2] 46))) := ((unhide HB).trans ((unhide HB2).mono hww)).alloc (by omega) _
    have HRT : Hid (RoomTwo (w2.alloc (.cells #[.int .i64 c, .slice s1 n2 f1, .slice s2 n2 f2] 46)) w.heap.size s1 n2 f1 s2 n2 f2) := ((unhide HRT0).mono hww).alloc _
    have hp2 : w.heap.size + 1 < w2.heap.size := by omega
    generalize w2.alloc (.cells #[.int .i64 c, .slice s1 n2 f1, .slice s2 n2 f2] 46) = W at *
    have hpl : w2.heap.size < W.heap.size := (unhide E6).lt
    generalize w2.heap.size = p at *
    clear HRT0 hO1 HO HS2 HAP HV0 HV1 HB HB2 hw12 hww hz1 w2 w1
    obtain ⟨b, o, hab, hb, hcx⟩ := (unhide H1).get hk1
    cases hab
    obtain ⟨b', o', hab, hb', hcy⟩ := (unhide H2).get hk1
    cases hab
    have hcxW := ((unhide HW).cell (p := ⟨b, o + k, none⟩) hb).trans hcx
    have hcyW := ((unhide HW).cell (p := ⟨b', o' + k, none⟩) hb').trans hcy
    obtain ⟨hsb, _, hcb, hst⟩ := formed_parts (unhide HR)
    have hxb := (shapeB_in hsb).1.cell k
    have hyb := hst k
    obtain ⟨x, hx⟩ : ∃ x, x = sh.getD k 0 := ⟨_, rfl⟩
    obtain ⟨y, hy⟩ : ∃ y, y = st.getD k 0 := ⟨_, rfl⟩
    rw [← hx] at hcxW hxb
    rw [← hy] at hcyW hyb
    obtain ⟨x0, x1, x2, x3, x4, x5, x6⟩ := (unhide E0).all
    by_cases hx1 : 1 < x
    · have HF : Hid (flip c sh st (k : Int) = answerOf (c + (x - 1) * y) sh (st.set k (-y))) := by rw [hx, hy]; exact flip_two (unhide HR) (by rw [unhide hl1]; exact hk1) (by rw [← hx]; exact hx1)
      obtain ⟨z, hz⟩ : ∃ z, z = (x - 1) * y := ⟨_, rfl⟩
      have hzb : -100000000 ≤ z ∧ z ≤ 100000000 := by
        rw [hz]
        have q1 := Int.mul_le_mul_of_nonneg_left hyb.2 (by omega : 0 ≤ x - 1)
        have q2 := Int.mul_le_mul_of_nonneg_left hyb.1 (by omega : 0 ≤ x - 1)
        have q3 : (x - 1) * -10000 = -((x - 1) * 10000) := by rw [Int.mul_neg]
        omega
      rw [← hz] at HF
      have hw1 : IntKind.i64.wrap (x - 1) = x - 1 := by rw [IntKind.wrap_i64]; omega
      have hw2 : IntKind.i64.wrap ((x - 1) * y) = z := by rw [← hz, IntKind.wrap_i64]; omega
      have hw3 : IntKind.i64.wrap (c + z) = c + z := by rw [IntKind.wrap_i64]; omega
      have hw4 : IntKind.i64.wrap (-y) = -y := by rw [IntKind.wrap_i64]; omega
      obtain ⟨v0, v1, v2, v3, v4, v5, v6⟩ := (unhide E6).all
      clear hx hy hz hcx hcy hst
      go_upto_region 5 with fail
      go_cut [] (fun wx => VBox wx p (c + z) (.slice s1 n2 f1) (.slice s2 n2 f2) ∧ But (fun k => k = p) W wx)
      case first =>
        as_aux_lemma =>
          go_region
          all_goals go_wp2_with fail
          all_goals go_meet
          all_goals case rel => exact ⟨VBox.set0 (unhide E6) _, ((But.refl (fun k => k = p) W).setCell (p := ⟨p, 0, none⟩) rfl _).drew⟩
      case rest =>
        obtain ⟨w3, hw3⟩ : ∃ x, x = wc := ⟨_, rfl⟩
        subst hw3
        obtain ⟨hb6, hbut⟩ := hcut
        have F0 := hide ((unhide E0).but hbut (by show ¬ (w.heap.size = p); omega))
        have F1 := hide ((unhide E1).but hbut (by show ¬ (w.heap.size + 1 = p); omega))
        have F6 := hide hb6
        have HR3 := hide ((unhide HRT).butV (unhide E6) hbut)
        clear HRT
        have HT1 := hide (hbut.own (unhide HS1) (fun k hk hat => by have := unhide HU1 k hat; omega))
        have HT2 := hide (hbut.own (unhide HS3) (fun k hk hat => by have := unhide HU2 k hat; omega))
        have HW3 := hide ((unhide HW).trans (hbut.below (B := w.heap.size) (unhide HW).size (fun k hk => by omega)))
        have hcy3 := (hbut.cellAt (o := o' + k) (Nat.lt_of_lt_of_le hb' (unhide HW).size) (by show ¬ (b' = p); omega)).trans hcyW
        have hpl3 := hb6.lt
        clear hb6 hbut x0 x1 x2 x3 x4 x5 x6 v0 v1 v2 v3 v4 v5 v6 E0 E1 E6 HS1 HS3 HW hcxW hcyW hpl W
        rcases (unhide HT2).at_ with h9 | ⟨g, og, rfl, hgB, hgl, hgc, hgf⟩
        · omega
        have hct := hgc k hk1
        have hft := hgf k hk1
        have hgp : g < p := unhide HU2 g (at_self (by omega))
        have HG2 := hide ((unhide HT2).set hk1 (-y))
        clear hgc hgf
        obtain ⟨x0, x1, x2, x3, x4, x5, x6⟩ := (unhide F0).all
        obtain ⟨v0, v1, v2, v3, v4, v5, v6⟩ := (unhide F6).all
        go_upto_region 6 with fail
        go_region
        all_goals
          have G6 := hide ((unhide F6).other (q := ⟨g, og + k, none⟩) (by show p ≠ g; omega) (.int .i64 (-y)))
          have G1 := hide ((unhide F1).other (q := ⟨g, og + k, none⟩) (by show w.heap.size + 1 ≠ g; omega) (.int .i64 (-y)))
          have HR4 := hide ((unhide HR3).set g (og + k) (.int .i64 (-y)))
          have HG1 := hide ((unhide HT1).other (q := ⟨g, og + k, none⟩) (fun x hx e => unhide HAP' x hx g (at_self (by omega)) e) (.int .i64 (-y)))
          have HWg := hide ((unhide HW3).setCell (p := ⟨g, og + k, none⟩) (by show w.heap.size ≤ g; omega) (.int .i64 (-y)))
          clear x0 x1 x2 x3 x4 x5 x6 v0 v1 v2 v3 v4 v5 v6 F0 F1 F6 HT1 HT2 HW3 HR3 hct hft hcy3
          generalize w3.setCell ⟨g, og + k, none⟩ (.int .i64 (-y)) = w4 at *
          obtain ⟨v0, v1, v2, v3, v4, v5, v6⟩ := (unhide G6).drew.all
          have hca := l7Answer_same (c + z) s1 (some ⟨g, og, none⟩) n2 n2 f1 f2 sh (st.set k (-y)) w4.drew ((unhide HG1).below (Nat.le_refl _) (Below.refl _ _).drew).row ((unhide HG2).below (Nat.le_refl _) (Below.refl _ _).drew).row
          have HZ := hide (unhide G1).drew
          generalize answerOf (c + z) sh (st.set k (-y)) = r9 at *
          go_wp2_with (go_at_call 89; refine hca.mono ?_; rintro e w9 ⟨q1, m1, d1, q2, m2, d2, rfl, hq1, hq2, ha1, ha2, hsm, hb9⟩; have HSM := hide hsm; clear hsm; have HN1 := hide ha1; have HN2 := hide ha2; have HQ1 := hide hq1; have HQ2 := hide hq2; have HB9 := hide hb9; obtain ⟨z0, z1, z2, z3, z4, z5, z6⟩ := ((unhide HZ).below (Nat.le_refl _) hb9).all; clear hq1 hq2 ha1 ha2 hb9)
          refine bodyPost_ret (v := .tuple #[.agg #[.int .i64 r9.c, .slice q1 m1 d1, .slice q2 m2 d2], .bool r9.code]) (by simp [results, Tryz.results36, go_sem, z0, z1, z2]) rfl ?_
          rw [unhide HF]
          exact ⟨q1, m1, d1, q2, m2, d2, rfl, (unhide HQ1).setsV (fun x hx => by have := (unhide HG1).low (unhide HN1 x hx); omega) _ _ _, (unhide HQ2).setsV (fun x hx => by have := (unhide HG2).low (unhide HN2 x hx); omega) _ _ _, (((((unhide HWg).drew).trans ((unhide HB9).mono (by have := ((unhide HWg).drew).size; exact this))).setCell (by simp <;> omega) _).setCell (by simp <;> omega) _).setCell (by simp <;> omega) _, same_room (unhide HSM) ((((unhide HR4).drew.below (Nat.le_refl _) (unhide HB9)).set _ 0 _).set _ 1 _ |>.set _ 2 _)⟩
    · have HF : Hid (flip c sh st (k : Int) = answerOf c sh st) := flip_one (unhide HR) (by rw [unhide hl1]; exact hk1) (by rw [← hx]; exact hx1)
      obtain ⟨v0, v1, v2, v3, v4, v5, v6⟩ := (unhide E6).all
      have hca := l7Answer_same c s1 s2 n2 n2 f1 f2 sh st W (unhide HS1).row (unhide HS3).row
      generalize answerOf c sh st = r9 at *
      clear hx hy hcx hcy hst
      go_wp2_with (go_at_call 89; refine hca.mono ?_; rintro e w9 ⟨q1, m1, d1, q2, m2, d2, rfl, hq1, hq2, ha1, ha2, hsm, hb9⟩; have HSM := hide hsm; clear hsm; have HN1 := hide ha1; have HN2 := hide ha2; have HQ1 := hide hq1; have HQ2 := hide hq2; have HB9 := hide hb9; obtain ⟨z0, z1, z2, z3, z4, z5, z6⟩ := ((unhide E1).below (Nat.le_refl _) hb9).all; clear hq1 hq2 ha1 ha2 hb9)
      refine bodyPost_ret (v := .tuple #[.agg #[.int .i64 r9.c, .slice q1 m1 d1, .slice q2 m2 d2], .bool r9.code]) (by simp [results, Tryz.results36, go_sem, z0, z1, z2]) rfl ?_
      rw [unhide HF]
      exact ⟨q1, m1, d1, q2, m2, d2, rfl, (unhide HQ1).setsV (fun x hx => by have := (unhide HS1).low (unhide HN1 x hx); omega) _ _ _, (unhide HQ2).setsV (fun x hx => by have := (unhide HS3).low (unhide HN2 x hx); omega) _ _ _, ((((unhide HW).trans ((unhide HB9).mono (by have := (unhide HW).size; exact this))).setCell (by simp <;> omega) _).setCell (by simp <;> omega) _).setCell (by simp <;> omega) _, same_room (unhide HSM) ((((unhide HRT).below (Nat.le_refl _) (unhide HB9)).set _ 0 _).set _ 1 _ |>.set _ 2 _)⟩
  · have HF : Hid (flip c sh st ax = noView) := flip_no (by rw [unhide HR, unhide hl1]; exact hgo)
    cases r with
    | false =>
      clear hgo
      go_wp2
      refine bodyPost_ret (v := .tuple #[.agg #[.int .i64 0, .slice none 0 0, .slice none 0 0], .bool false]) (by simp [results, Tryz.results36, go_sem, z0, z1, z2]) rfl ?_
      rw [unhide HF]
      exact ⟨none, 0, 0, none, 0, 0, rfl, row_nil _ _, row_nil _ _, (((unhide HB).setCell (by simp <;> omega) _).setCell (by simp <;> omega) _).setCell (by simp <;> omega) _, fun h => by cases h⟩
    | true =>
      by_cases hax : ax < 0
      · clear hgo
        go_wp2
        refine bodyPost_ret (v := .tuple #[.agg #[.int .i64 0, .slice none 0 0, .slice none 0 0], .bool false]) (by simp [results, Tryz.results36, go_sem, z0, z1, z2]) rfl ?_
        rw [unhide HF]
        exact ⟨none, 0, 0, none, 0, 0, rfl, row_nil _ _, row_nil _ _, (((unhide HB).setCell (by simp <;> omega) _).setCell (by simp <;> omega) _).setCell (by simp <;> omega) _, fun h => by cases h⟩
      · have hax2 : (n1 : Int) ≤ ax := by
          have : ¬ (0 ≤ ax ∧ ax < (n1 : Int)) := fun h => hgo ⟨rfl, h⟩
          omega
        clear hgo
        go_wp2
        refine bodyPost_ret (v := .tuple #[.agg #[.int .i64 0, .slice none 0 0, .slice none 0 0], .bool false]) (by simp [results, Tryz.results36, go_sem, z0, z1, z2]) rfl ?_
        rw [unhide HF]
        exact ⟨none, 0, 0, none, 0, 0, rfl, row_nil _ _, row_nil _ _, (((unhide HB).setCell (by simp <;> omega) _).setCell (by simp <;> omega) _).setCell (by simp <;> omega) _, fun h => by cases h⟩
theorem FlipView_any (c : Int) (a1 a2 : Addr) (n1 n2 c1 c2 : Nat) (sh st : List Int) (ax : Int) (w : World) (h1 : Row w (some a1) n1 sh) (h2 : Row w (some a2) n2 st) :
    Calls Tryz.prog 36 #[.agg #[.int .i64 c, .slice (some a1) n1 c1, .slice (some a2) n2 c2], .int .i64 ax] w (GivesV w (flip c sh st ax)) :=
  (FlipView_room c a1 a2 n1 n2 c1 c2 sh st ax w h1 h2).mono fun _ _ h => h.any
end Go.Proofs.YtgjpchnkodnieaaGreatDoor
namespace Go.Proofs.YtgjpchnkodnieaaGreatDoor
open Go.RowKit
def whole (sh : List Int) : VAns := if shapeB sh = true then ⟨0, sh, wholeSt sh, true⟩ else noView
theorem whole_no {sh : List Int} (h : shapeB sh = false) : whole sh = noView := by unfold whole; rw [if_neg (by simp [h])]
theorem whole_go {sh : List Int} (h : shapeB sh = true) : whole sh = ⟨0, sh, wholeSt sh, true⟩ := by unfold whole; rw [if_pos h]
theorem vl_box1 (w : World) {wC : World} (h : Below (w.drew.alloc (boxV (.slice none 0 0) (.slice none 0 0))).heap.size (w.drew.alloc (boxV (.slice none 0 0) (.slice none 0 0))) wC) : VBox wC w.heap.size 0 (.slice none 0 0) (.slice none 0 0) := (VBox.new w.drew 0 _ _).below (Nat.le_refl _) h
theorem vl_box2 (w : World) (N : Nat) {wC : World} (h : Below ((w.drew.alloc (boxV (.slice none 0 0) (.slice none 0 0))).alloc (madeV N)).heap.size ((w.drew.alloc (boxV (.slice none 0 0) (.slice none 0 0))).alloc (madeV N)) wC) : VBox wC w.heap.size 0 (.slice none 0 0) (.slice none 0 0) := ((VBox.new w.drew 0 _ _).alloc _).below (Nat.le_refl _) h
theorem vl_box3 (w : World) (N : Nat) {wC : World} (h : Below ((w.drew.alloc (madeV N)).alloc (boxV (.slice none 0 0) (.slice none 0 0))).heap.size ((w.drew.alloc (madeV N)).alloc (boxV (.slice none 0 0) (.slice none 0 0))) wC) : VBox wC (w.heap.size + 1) 0 (.slice none 0 0) (.slice none 0 0) := by
  have := VBox.new (w.drew.alloc (madeV N)) 0 (.slice none 0 0) (.slice none 0 0)
  rw [World.size_alloc] at this
  exact this.below (Nat.le_refl _) h
theorem Row.drewV {w : World} {a : Option Addr} {n : Nat} {zs : List Int} (h : Row w a n zs) : Row w.drew a n zs := ⟨h.len, h.small, h.at_⟩
def GivesWh (w : World) (sh : List Int) (n : Nat) (e : Ending) (w' : World) : Prop :=
  (shapeB sh = false ∧ e = .returned (.tuple #[.agg #[.int .i64 0, .slice none 0 0, .slice none 0 0], .bool false]) ∧ Below w.heap.size w w') ∨
  (shapeB sh = true ∧ ∃ ash csh gd, e = .returned (.tuple #[.agg #[.int .i64 0, .slice ash n csh, .slice (some ⟨gd, 0, none⟩) n n], .bool true]) ∧ Own w' w.heap.size ash n sh ∧ w.heap.size ≤ gd ∧ Blk w' gd (wholeSt sh) ∧ ¬ At ash n gd ∧ Below w.heap.size w w')
def GivesWr (w : World) (sh : List Int) (n : Nat) (e : Ending) (w' : World) : Prop :=
  (shapeB sh = false ∧ e = .returned (.tuple #[.agg #[.int .i64 0, .slice none 0 0, .slice none 0 0], .bool false]) ∧ Below w.heap.size w w') ∨
  (shapeB sh = true ∧ ∃ ash csh gd, e = .returned (.tuple #[.agg #[.int .i64 0, .slice ash n csh, .slice (some ⟨gd, 0, none⟩) n n], .bool true]) ∧ OwnR w' w.heap.size ash n csh sh ∧ w.heap.size ≤ gd ∧ Blk w' gd (wholeSt sh) ∧ ¬ Bo ash gd ∧ Below w.heap.size w w')
set_option maxRecDepth 20000 in
set_option maxHeartbeats 4000000 in
theorem WholeView_room (a1 : Addr) (n1 c1 : Nat) (sh : List Int) (w : World) (h1 : Row w (some a1) n1 sh) : Calls Tryz.prog 157 #[.slice (some a1) n1 c1] w (GivesWr w sh n1) := by
  have hl1 := hide h1.len
  have hs1 := h1.small
  have H1 := hide h1
  clear h1
  obtain ⟨r, hr⟩ : ∃ r, shapeB sh = r := ⟨_, rfl⟩
  have HR := hide hr
  clear hr
  obtain ⟨W, hW⟩ : ∃ W, W = w.alloc (.cells #[.int .i64 0, .slice none 0 0, .slice none 0 0] 46) := ⟨_, rfl⟩
  obtain ⟨p, hp⟩ : ∃ p, p = w.heap.size := ⟨_, rfl⟩
  have HW := hide hW
  have HP := hide hp
  have HX : Hid (VBox W p 0 (.slice none 0 0) (.slice none 0 0)) := by rw [hW, hp]; exact VBox.new w _ _ _
  have HBW : Hid (Below p w W) := by rw [hW, hp]; exact (Below.refl _ w).alloc (Nat.le_refl _) _
  have hzW : p < W.heap.size := by rw [hW, hp]; simp
  have H1W := hide (H1.out.below (by omega) HBW.out)
  have HP1 : Hid (∀ q, At (some a1) n1 q → q < p) := fun q h => by rw [hp]; exact H1.out.hi h
  clear hW hp H1
  cases r with
  | false =>
    have HE := hide (whole_no HR.out)
    obtain ⟨z0, z1, z2, z3, z4, z5, z6⟩ := HX.out.all
    go_enter Tryz.func157, Tryz.ntmps157
    go_wp2_with (go_at_call 158; rw [← HW.out, ← HP.out]; refine (l3ShapeOk_eq _ _ _ sh _ H1W.out _ HR).mono ?_; rintro e wq ⟨rfl, hw⟩; obtain rfl := hw.symm)
    refine bodyPost_ret (v := .tuple #[.agg #[.int .i64 0, .slice none 0 0, .slice none 0 0], .bool false]) (by simp [results, Tryz.results157, go_sem, z0, z1, z2]) rfl ?_
    exact .inl ⟨HR.out, rfl, by rw [← HP.out]; exact ((HBW.out.setCell (p := ⟨p, 0, none⟩) (Nat.le_refl _) _).setCell (p := ⟨p, 1, none⟩) (Nat.le_refl _) _).setCell (p := ⟨p, 2, none⟩) (Nat.le_refl _) _⟩
  | true =>
    have HE := hide (whole_go HR.out)
    have hn5 : n1 ≤ 5 := by rw [← hl1.out]; exact (shapeB_in HR.out).2
    have HIN := hide (shapeB_in HR.out).1
    have hmk := run_make_row' (P := Tryz.prog) 23 3 (.int .i64 0) 8 Tryz.underlying23 info_int rfl .i64 .i64 n1 (by omega) (by omega)
    go_enter Tryz.func157, Tryz.ntmps157
    go_upto_region 3 with (go_at_call 158; rw [← HW.out, ← HP.out]; refine (l3ShapeOk_eq _ _ _ sh _ H1W.out _ HR).mono ?_; rintro e wq ⟨rfl, hw⟩; obtain rfl := hw.symm)
    go_cut [4] (fun v wx => GotW W sh n1 n1 v wx)
    case first =>
      go_region_held3 (fun _ => True) (first | exact trivial)
        (first
        | (go_at_call 71; go_loud (refine (l3Ints_room a1 n1 c1 sh _ (by first | exact H1W.out.drewV | exact H1W.out.drewV.alloc _ | exact (H1W.out.drewV.alloc _).alloc _)).mono ?_); rintro e wC ⟨ash, csh, rfl, _, hO, hbC⟩; have hKC : Below W.heap.size W wC := (by refine Below.trans ?_ (hbC.mono (by first | exact Nat.le_refl _ | (simp <;> omega))); repeat (first | exact Below.refl _ _ | refine Below.drew ?_ | refine Below.alloc ?_ (by first | exact Nat.le_refl _ | (simp <;> omega)) _)); have HO := hide hO; have HBC := hide hbC; (first | (have hPC := hide (vl_box1 W hbC)) | (have hPC := hide (vl_box2 W n1 hbC)) | (have hPC := hide (vl_box3 W n1 hbC)) | skip); (first | (obtain ⟨r0, r1, r2, r3, r4, r5, r6⟩ := hPC.out.all) | skip); clear hO hbC))
      all_goals go_wp2_with fail
      · go_meet
        case rel => exact vordCMA HO.out hKC
      · go_meet
        case rel => exact vordCAM HO.out hKC
      · go_meet
        case rel => exact vordMCA (wy := W) (HO.out.mono (by simp)) rfl (Below.refl _ _) (Below.undrewV HBC.out)
      · go_meet
        case rel => exact vordMAC (wy := W) (HO.out.mono (by simp)) rfl (Below.refl _ _) (Below.undrewV HBC.out)
      · go_meet
        case rel => exact vordACM (wy := W) (HO.out.mono (by simp)) rfl (Below.refl _ _) (Below.undrewV HBC.out)
      · go_meet
        case rel => exact vordAMC (wy := W) (HO.out.mono (by simp)) rfl (Below.refl _ _) (Below.undrewV HBC.out)
    case rest =>
      obtain ⟨w4, hw4⟩ : ∃ x, x = wc := ⟨_, rfl⟩
      subst hw4
      obtain ⟨pb, gd, ash, csh, rfl, hpb, hbx, hgz, hne, hBk, hO, hag, hap, hb4⟩ := hcut
      have hz4 := hb4.size
      have hpl := hbx.lt
      have hgl := hBk.lt
      have HBX := hide hbx
      have HBK : Hid (Blk w4 gd (wholeN sh 0)) := by show Blk _ _ _; rw [wholeN_zero, hl1.out]; exact hBk
      have HO := hide hO
      have HAG := hide hag
      have HAP := hide hap
      have HX4 : Hid (VBox w4 p 0 (.slice none 0 0) (.slice none 0 0)) := HX.out.below (Nat.le_refl _) hb4
      have H14 := hide (H1W.out.below (Nat.le_refl _) hb4)
      have HW4 : Hid (Below p w w4) := HBW.out.trans (hb4.mono (by omega))
      clear hbx hBk hO hag hap hb4 HX H1W HBW hmk
      have HT0 : Hid (tailProd (sh.drop (n1 - 0)) = 1) := by show _ = _; rw [Nat.sub_zero, ← hl1.out, List.drop_length]; rfl
      go_wp2_with fail
      go_loopw [5, 6] (fun v i wr => ∃ t : Nat, t ≤ n1 ∧ i = .int .i64 ((n1 : Int) - 1 - (t : Nat)) ∧ v = .int .i64 (tailProd (sh.drop (n1 - t))) ∧ Hid (Blk wr gd (wholeN sh t)) ∧ Hid (But (fun x => x = gd) w4 wr)) (fun _ i _ => (intOf i + 1).toNat)
      case atStart => exact ⟨0, Nat.zero_le _, by first | rfl | (go_num) | simp, by rw [HT0.out], HBK, hide (But.refl _ _)⟩
      case round =>
        obtain ⟨t, ht, rfl, rfl, hb, hbut⟩ := hrel
        have hzr := hbut.out.size
        by_cases htn : t < n1
        · obtain ⟨j, hj⟩ : ∃ j : Nat, j = n1 - 1 - t := ⟨_, rfl⟩
          have e1 : (n1 : Int) - 1 - (t : Nat) = (j : Nat) := by omega
          have hjn : j < n1 := by omega
          obtain ⟨bb, ob, hbb, _, cb⟩ := (hbut.out.row H14.out (by rintro x rfl h; have := HP1.out _ h; omega)).get hjn
          cases hbb
          obtain ⟨x, hx⟩ : ∃ x, sh.getD j 0 = x := ⟨_, rfl⟩
          rw [hx] at cb
          have hxb : 0 ≤ x ∧ x ≤ 10000 := by rw [← hx]; exact HIN.out.cell j
          obtain ⟨m, hm⟩ : ∃ m, tailProd (sh.drop (n1 - t)) = m := ⟨_, rfl⟩
          have hmb := tailProd_bd HIN.out (n1 - t)
          have hmb' := tailProd_bd HIN.out j
          rw [hm] at hmb
          have hst := tailProd_step sh (i := j) (by rw [hl1.out]; exact hjn)
          rw [hx, show j + 1 = n1 - t by omega, hm] at hst
          have HNX : Hid (tailProd (sh.drop (n1 - (t + 1))) = if 0 < x then m * x else m) := by show _ = _; rw [show n1 - (t + 1) = j by omega]; exact hst
          have HSET : Hid ((wholeN sh t).set j m = wholeN sh (t + 1)) := by
            have := wholeN_step sh (t := t) (by rw [hl1.out]; exact htn)
            rw [hl1.out, hm, ← hj] at this
            exact this
          obtain ⟨v0, v1, v2, v3, v4, v5, v6⟩ := (show VBox wr pb 0 (.slice ash n1 csh) (.slice (some ⟨gd, 0, none⟩) n1 n1) from (hbut.out.block _ (by omega) (by omega)).trans HBX.out).all
          have cg := hb.out.cell (i := j) (by rw [wholeN_len, hl1.out]; exact hjn)
          have cf := hb.out.free j
          have hjl : (j : Int) < (n1 : Int) := by omega
          have hbn : bb < p := HP1.out bb ⟨by omega, _, rfl, rfl⟩
          have cb' : (wr.setCell ⟨gd, j, none⟩ (.int .i64 m)).cell? ⟨bb, ob + j, none⟩ = some (.int .i64 x) := (World.cell?_setCell_other _ _ _ _ (by simp <;> omega)).trans cb
          rw [e1, hm]
          have HJ := hide hj
          by_cases hx0 : 0 < x
          · obtain ⟨y, hy⟩ : ∃ y, y = m * x := ⟨_, rfl⟩
            have hyb : 0 ≤ y ∧ y ≤ 100000000 := by
              rw [hy]
              have q1 := Int.mul_le_mul hmb.2 hxb.2 hxb.1 (by omega : (0 : Int) ≤ 10000)
              have q2 := Int.mul_nonneg (show 0 ≤ m by omega) hxb.1
              omega
            have hwy : IntKind.i64.wrap (m * x) = y := by rw [← hy, IntKind.wrap_i64]; omega
            have hmy : m * x = y := hy.symm
            have HNY : Hid (tailProd (sh.drop (n1 - (t + 1))) = y) := by show _ = _; rw [HNX.out, if_pos hx0, hmy]
            clear hx hm hj hy hst cb HNX
            go_wp2_with fail
            go_roundw
            case rel =>
              refine ⟨t + 1, by omega, by rw [HJ.out]; go_num, by rw [HNY.out], ?_, hide (hbut.out.setCell (p := ⟨gd, j, none⟩) rfl _)⟩
              show Blk _ _ _
              rw [← HSET.out]
              exact hb.out.set j m
            case measure => (simp [intOf] <;> omega)
          · have HNY : Hid (tailProd (sh.drop (n1 - (t + 1))) = m) := by show _ = _; rw [HNX.out, if_neg hx0]
            clear hx hm hj hst cb HNX
            go_wp2_with fail
            go_roundw
            case rel =>
              refine ⟨t + 1, by omega, by rw [HJ.out]; go_num, by rw [HNY.out], ?_, hide (hbut.out.setCell (p := ⟨gd, j, none⟩) rfl _)⟩
              show Blk _ _ _
              rw [← HSET.out]
              exact hb.out.set j m
            case measure => (simp [intOf] <;> omega)
        · have hte : t = n1 := by omega
          subst hte
          have e1 : (t : Int) - 1 - (t : Nat) = -1 := by omega
          rw [e1]
          have hZr : VBox wr pb 0 (.slice ash t csh) (.slice (some ⟨gd, 0, none⟩) t t) := (hbut.out.block _ (by omega) (by omega)).trans HBX.out
          obtain ⟨v0, v1, v2, v3, v4, v5, v6⟩ := hZr.all
          have hX2 : VBox wr p 0 (.slice none 0 0) (.slice none 0 0) := (hbut.out.block _ (by omega) (by omega)).trans HX4.out
          obtain ⟨z0, z1, z2, z3, z4, z5, z6⟩ := hX2.all
          have HX2 := hide hX2
          clear hX2 hZr e1
          go_wp2_with fail
          have hOr : OwnR wr W.heap.size ash t csh sh := HO.out.but hbut.out HAG.out
          have hall : wholeN sh t = wholeSt sh := by rw [← wholeN_all, hl1.out]
          have hrow : Row wr (some ⟨gd, 0, none⟩) t (wholeSt sh) := by rw [← hall]; exact hb.out.row (by rw [wholeN_len, hl1.out]) (by omega)
          obtain ⟨q0, q1, q2, q3, q4, q5, q6⟩ := (HX2.out.sets (c' := 0) (u1 := .slice ash t csh) (u2 := .slice (some ⟨gd, 0, none⟩) t t)).all
          refine bodyPost_ret (v := .tuple #[.agg #[.int .i64 0, .slice ash t csh, .slice (some ⟨gd, 0, none⟩) t t], .bool true]) (by simp [results, Tryz.results157, go_sem, q0, q1, q2]) rfl ?_
          have hne0 : gd ≠ p := by omega
          have hk2 : ∀ q, At ash t q → q ≠ p := fun q h e => by have := hOr.low h; omega
          have hB : Blk wr gd (wholeSt sh) := by rw [← hall]; exact hb.out
          refine .inr ⟨HR.out, ash, csh, gd, rfl, ((((hOr.mono (by rw [← HP.out]; omega)).other (p := p) (o := 0) hk2 _).other (p := p) (o := 1) hk2 _).other (p := p) (o := 2) hk2 _), by rw [← HP.out]; omega, ((hB.other (p := ⟨p, 0, none⟩) hne0 _).other (p := ⟨p, 1, none⟩) hne0 _).other (p := ⟨p, 2, none⟩) hne0 _, HAG.out, ?_⟩
          rw [← HP.out]
          exact (((HW4.out.trans (hbut.out.below (B := p) (by omega) (by rintro x rfl; omega))).setCell (p := ⟨p, 0, none⟩) (Nat.le_refl _) _).setCell (p := ⟨p, 1, none⟩) (Nat.le_refl _) _).setCell (p := ⟨p, 2, none⟩) (Nat.le_refl _) _
theorem WholeView_own (a1 : Addr) (n1 c1 : Nat) (sh : List Int) (w : World) (h1 : Row w (some a1) n1 sh) : Calls Tryz.prog 157 #[.slice (some a1) n1 c1] w (GivesWh w sh n1) := by
  refine (WholeView_room a1 n1 c1 sh w h1).mono ?_
  rintro e w' (h | ⟨hs, ash, csh, gd, rfl, hO, hg, hB, hag, hb⟩)
  · exact .inl h
  · exact .inr ⟨hs, ash, csh, gd, rfl, hO.own, hg, hB, fun h => hag (bo_at h), hb⟩
theorem wholeSt_len (sh : List Int) : (wholeSt sh).length = sh.length := by simp [wholeSt]
end Go.Proofs.YtgjpchnkodnieaaGreatDoor
