import Derived.Test.YtmgjicgojlkpcaaGreatDoorSpecRound
import Derived.Deep.QuietTactic
import Derived.BigQuiet
namespace Go.Proofs.YtmgjicgojlkpcaaGreatDoor
open Go.RowKit

theorem appl_yes {L : Looks} {ns : List NodeD} (G : Nat → List UInt8 × Bool → List UInt8 × Bool) {f b : Nat} (h : takesR ns f b = true) (st : List UInt8 × Bool) : applP L ns G f b st = operP L ns G b (G f st) := by
  have h9 : (node ns b).k = 9 := by
    unfold takesR at h
    rw [Bool.and_eq_true, Bool.and_eq_true, decide_eq_true_eq] at h
    exact h.2.1
  unfold applP operP
  rw [if_pos h, if_pos (.inl h9)]

theorem appl_no {L : Looks} {ns : List NodeD} (G : Nat → List UInt8 × Bool → List UInt8 × Bool) {f b : Nat} (h : takesR ns f b = false) (st : List UInt8 × Bool) : applP L ns G f b st = G b (G f st) := by
  unfold applP
  rw [if_neg (by rw [h]; decide)]

theorem oper_mono {L : Looks} {ns : List NodeD} (G : Nat → List UInt8 × Bool → List UInt8 × Bool) (i : Nat) (hm : ∀ st, lenP st ≤ lenP (G i st)) (st : List UInt8 × Bool) : lenP st ≤ lenP (operP L ns G i st) := by
  unfold operP
  split
  · have h1 := (say_len st (L.sg 40) false).1
    have h2 := hm (sayS L st 40)
    have h3 := (say_len (G i (sayS L st 40)) (L.sg 41) false).1
    unfold sayS at *
    omega
  · exact hm st

set_option maxRecDepth 20000 in
set_option maxHeartbeats 8000000 in
theorem says_apply (Z : World) (p : Nat) (a : Option Addr) (n cap : Nat) (L : Looks) (ns : List NodeD) (hr : NRow Z a n ns) (G : Nat → List UInt8 × Bool → List UInt8 × Bool) (f b : Nat) (hf : f < n) (hb : b < n)
    (hf1 : (node ns f).k = 11 → 1 ≤ (node ns f).n) (hb9 : (node ns b).k = 9 → 0 < (node ns b).kids.length ∧ (node ns b).kids.getD 0 0 = ((kidN (node ns b) 0 : Nat) : Int) ∧ kidN (node ns b) 0 < n)
    (hkf : SaysP Z p a n cap 34 #[.pointer (some ⟨p, 0, none⟩), .int .i64 (f : Nat)] (G f)) (hkb : SaysP Z p a n cap 34 #[.pointer (some ⟨p, 0, none⟩), .int .i64 (b : Nat)] (G b)) (hm : ∀ st, lenP st ≤ lenP (G b st))
    (hop : SaysP Z p a n cap 75 #[.pointer (some ⟨p, 0, none⟩), .int .i64 (b : Nat)] (operP L ns G b)) :
    SaysP Z p a n cap 77 #[.pointer (some ⟨p, 0, none⟩), .int .i64 (f : Nat), .int .i64 (b : Nat)] (applP L ns G f b) := by
  intro w g gc st h hq
  have hsm := hr.small
  obtain ⟨bl, off, rfl, hbl, t1, m1, k1, t2, m2, k2, x0, x1, _⟩ := hr.get hf
  obtain ⟨bl', off', e', _, s1, n1, c1, s2, n2, c2, y0, y1, y2, y3, y4, y5, r1, r2⟩ := hr.get hb
  cases e'
  have hl2 := r2.len
  obtain ⟨u1, hu1⟩ : ∃ u, G f st = u := ⟨_, rfl⟩
  -- what is asked
  have HT : Hid (∀ W, Below Z.heap.size Z W → W.cell? ⟨bl, off + f * 6, none⟩ = some (.int .i64 (node ns f).k) ∧ W.cell? ⟨bl, off + f * 6 + 1, none⟩ = some (.int .i64 (node ns f).n) ∧ W.cell? ⟨bl, off + b * 6, none⟩ = some (.int .i64 (node ns b).k) ∧ W.cell? ⟨bl, off + b * 6 + 1, none⟩ = some (.int .i64 (node ns b).n) ∧ W.cell? ⟨bl, off + b * 6 + 2, none⟩ = some (.int .i64 (node ns b).m) ∧ W.cell? ⟨bl, off + b * 6 + 3, none⟩ = some (.string (node ns b).s) ∧ W.cell? ⟨bl, off + b * 6 + 4, none⟩ = some (.slice s1 n1 c1) ∧ W.cell? ⟨bl, off + b * 6 + 5, none⟩ = some (.slice s2 n2 c2) ∧ bl < W.heap.size) := fun W hW =>
    ⟨(hW.cell (p := ⟨bl, off + f * 6, none⟩) hbl).trans x0, (hW.cell (p := ⟨bl, off + f * 6 + 1, none⟩) hbl).trans x1, (hW.cell (p := ⟨bl, off + b * 6, none⟩) hbl).trans y0, (hW.cell (p := ⟨bl, off + b * 6 + 1, none⟩) hbl).trans y1, (hW.cell (p := ⟨bl, off + b * 6 + 2, none⟩) hbl).trans y2, (hW.cell (p := ⟨bl, off + b * 6 + 3, none⟩) hbl).trans y3, (hW.cell (p := ⟨bl, off + b * 6 + 4, none⟩) hbl).trans y4, (hW.cell (p := ⟨bl, off + b * 6 + 5, none⟩) hbl).trans y5, Nat.lt_of_lt_of_le hbl hW.size⟩
  have H := hide h
  have HKF := hide hkf
  have HKB := hide hkb
  have HOP := hide hop
  have hmono : lenP u1 ≤ lenP (applP L ns G f b st) := by
    cases ht : takesR ns f b with
    | true => rw [appl_yes G ht, hu1]; exact oper_mono G b hm u1
    | false => rw [appl_no G ht, hu1]; exact hm u1
  have HQ1 : Hid (lenP (G f st) ≤ mostP) := by show _ ≤ _; rw [hu1]; omega
  obtain ⟨fk, hfk⟩ : ∃ x, (node ns f).k = x := ⟨_, rfl⟩
  obtain ⟨fn, hfn⟩ : ∃ x, (node ns f).n = x := ⟨_, rfl⟩
  obtain ⟨bk, hbk⟩ : ∃ x, (node ns b).k = x := ⟨_, rfl⟩
  obtain ⟨bn, hbn⟩ : ∃ x, (node ns b).n = x := ⟨_, rfl⟩
  obtain ⟨bm, hbm⟩ : ∃ x, (node ns b).m = x := ⟨_, rfl⟩
  obtain ⟨bs, hbs⟩ : ∃ x, (node ns b).s = x := ⟨_, rfl⟩
  rw [hfk, hfn, hbk, hbn, hbm, hbs] at HT
  rw [hfk, hfn] at hf1
  clear x0 x1 y0 y1 y2 y3 y4 y5 r1 hbn hbm hbs
  have hT : takesR ns f b = (decide (fk = 11 ∧ 1 ≤ fn ∧ fn ≤ 16) && (decide (bk = 9) && primB (node ns (kidN (node ns b) 0)) 29 30)) := by
    unfold takesR
    rw [hbk]
    unfold primB
    rw [hfk, hfn]
  by_cases hno : ¬ fk = 11 ∨ (fk = 11 ∧ ¬ fn ≤ 16) ∨ (fk = 11 ∧ fn ≤ 16 ∧ ¬ bk = 9)
  · have hTF : takesR ns f b = false := by
      rw [hT]
      rcases hno with h1 | ⟨_, h1⟩ | ⟨_, _, h1⟩
      · rw [decide_eq_false (fun hh => h1 hh.1)]; rfl
      · rw [decide_eq_false (fun hh => h1 hh.2.2)]; rfl
      · rw [decide_eq_false h1]; simp
    have hA := appl_no (L := L) G hTF st
    rw [hA] at hq ⊢
    have HQ := hide hq
    clear hq hA hTF hT h hkf hkb hop hmono hu1 hr r2 hb9 hf1 hm
    have hno2 : (fk == 11) = false ∨ (fk = 11 ∧ decide (fn ≤ 16) = false) ∨ (fk = 11 ∧ decide (fn ≤ 16) = true ∧ (bk == 9) = false) := by simpa using hno
    clear hno
    rcases hno2 with z1 | ⟨z1, z2⟩ | ⟨z1, z2, z3⟩ <;> (try subst z1) <;>
    · go_enter Tryz.func77, Tryz.ntmps77
      go_wp2_with (go_at_call 34; refine (unhide HKF _ g gc _ (unhide H) (unhide HQ1)).mono ?_; rintro e w5 ⟨⟨v5, rfl⟩, g5, gc5, hx5, hb5⟩; obtain ⟨a0, a1, a2, a3, a4, a5, a6, a7, a8⟩ := unhide HT w5 hx5.low; obtain ⟨d0, d1, d2, f0, f1, f2⟩ := hx5.sw.all; have HX5 := hide hx5; have HB5 := hide hb5; have hp5 := hx5.sw.lt.1; clear hx5 hb5 H)
      simp only [List.append_eq, List.cons_append, List.nil_append]
      go_big_quiet (fail)
      go_wp2_with (go_at_call 34; refine (unhide HKB _ g5 gc5 _ ((unhide HX5).below (Below.drewN ((Below.refl _ _).alloc (Nat.le_refl _) _) _)) (unhide HQ)).mono ?_; rintro e w6 ⟨⟨v6, rfl⟩, hw6⟩; have HW6 := hide (Went.trans (But.of_below (Below.drewN ((Below.refl _ _).alloc (Nat.le_refl _) _) _)) (.inl rfl) hw6); clear hw6)
      go_end0
      refine ⟨⟨_, rfl⟩, ?_⟩
      exact Went.trans (unhide HB5).1 (unhide HB5).2 (unhide HW6)
  · have z1 : fk = 11 := by
      by_cases hh : fk = 11
      · exact hh
      · exact absurd (.inl hh) hno
    have z2 : fn ≤ 16 := by
      by_cases hh : fn ≤ 16
      · exact hh
      · exact absurd (.inr (.inl ⟨z1, hh⟩)) hno
    have z3 : bk = 9 := by
      by_cases hh : bk = 9
      · exact hh
      · exact absurd (.inr (.inr ⟨z1, z2, hh⟩)) hno
    have z4 := hf1 z1
    obtain ⟨hk0, hkv, hkl⟩ := hb9 (hbk.trans z3)
    obtain ⟨kid, hkid⟩ : ∃ x, kidN (node ns b) 0 = x := ⟨_, rfl⟩
    obtain ⟨kb, ko, rfl, hkb2, q0⟩ := r2.get (k := 0) (by omega)
    rw [hkid] at hkl hkv hT
    rw [hkv, Nat.add_zero] at q0
    obtain ⟨bl2, off2, e2, _, _, _, _, _, _, _, q1, q2, _⟩ := hr.get hkl
    cases e2
    obtain ⟨kk, hkk⟩ : ∃ x, (node ns kid).k = x := ⟨_, rfl⟩
    obtain ⟨kn, hkn⟩ : ∃ x, (node ns kid).n = x := ⟨_, rfl⟩
    rw [hkk] at q1
    rw [hkn] at q2
    have HT2 : Hid (∀ W, Below Z.heap.size Z W → W.cell? ⟨kb, ko, none⟩ = some (.int .i64 (kid : Nat)) ∧ W.cell? ⟨bl, off + kid * 6, none⟩ = some (.int .i64 kk) ∧ W.cell? ⟨bl, off + kid * 6 + 1, none⟩ = some (.int .i64 kn) ∧ kb < W.heap.size) := fun W hW =>
      ⟨(hW.cell (p := ⟨kb, ko, none⟩) hkb2).trans q0, (hW.cell (p := ⟨bl, off + kid * 6, none⟩) hbl).trans q1, (hW.cell (p := ⟨bl, off + kid * 6 + 1, none⟩) hbl).trans q2, Nat.lt_of_lt_of_le hkb2 hW.size⟩
    have hT3 : takesR ns f b = decide (kk = 11 ∧ 29 ≤ kn ∧ kn ≤ 30) := by
      rw [hT, decide_eq_true ⟨z1, z4, z2⟩, decide_eq_true z3]
      unfold primB
      rw [hkk, hkn]
      rfl
    have hn20 : (0 : Int) < (n2 : Int) := by omega
    have hkli : (kid : Int) < (n : Int) := by omega
    have z2d : decide (fn ≤ 16) = true := decide_eq_true z2
    subst z1 z3
    clear hno z2 z4 hf1 hb9 hT hkk hkn q0 q1 q2 hkb2 hkv hkid hr r2 hk0 hfk hfn hbk
    by_cases hy : kk = 11 ∧ 29 ≤ kn ∧ kn ≤ 30
    · have hA := appl_yes (L := L) G (by rw [hT3]; exact decide_eq_true hy) st
      rw [hA] at hq ⊢
      have HQ := hide hq
      have hy2 : kk = 11 ∧ (kn = 29 ∨ ((kn == 29) = false ∧ kn = 30)) := by
        refine ⟨hy.1, ?_⟩
        by_cases h29 : kn = 29
        · exact .inl h29
        · exact .inr ⟨by simpa using h29, by omega⟩
      clear hq hA hT3 h hkf hkb hop hmono hu1 hm hy
      obtain ⟨rfl, hy3⟩ := hy2
      rcases hy3 with rfl | ⟨z29, rfl⟩ <;>
      · go_enter Tryz.func77, Tryz.ntmps77
        go_wp2_with (go_at_call 34; refine (unhide HKF _ g gc _ (unhide H) (unhide HQ1)).mono ?_; rintro e w5 ⟨⟨v5, rfl⟩, g5, gc5, hx5, hb5⟩; obtain ⟨a0, a1, a2, a3, a4, a5, a6, a7, a8⟩ := unhide HT w5 hx5.low; obtain ⟨b0, b1, b2, b3⟩ := unhide HT2 w5 hx5.low; obtain ⟨d0, d1, d2, f0, f1, f2⟩ := hx5.sw.all; have HX5 := hide hx5; have HB5 := hide hb5; have hp5 := hx5.sw.lt.1; clear hx5 hb5 H)
        simp only [List.append_eq, List.cons_append, List.nil_append]
        go_big_quiet (fail)
        go_wp2_with (go_at_call 75; refine (unhide HOP _ g5 gc5 _ ((unhide HX5).below (Below.drewN ((Below.refl _ _).alloc (Nat.le_refl _) _) _)) (unhide HQ)).mono ?_; rintro e w6 ⟨⟨v6, rfl⟩, hw6⟩; have HW6 := hide (Went.trans (But.of_below (Below.drewN ((Below.refl _ _).alloc (Nat.le_refl _) _) _)) (.inl rfl) hw6); clear hw6)
        (try simp only [Exit.inBlock, Exit.then])
        refine bodyPost_ret (results_none rfl _ _ _) rfl ?_
        refine ⟨⟨_, rfl⟩, ?_⟩
        exact Went.trans (unhide HB5).1 (unhide HB5).2 (unhide HW6)
    · have hA := appl_no (L := L) G (by rw [hT3]; exact decide_eq_false hy) st
      rw [hA] at hq ⊢
      have HQ := hide hq
      have hy2 : (kk == 11) = false ∨ (kk = 11 ∧ (kn == 29) = false ∧ (kn == 30) = false) := by
        by_cases h11 : kk = 11
        · exact .inr ⟨h11, by simp; omega, by simp; omega⟩
        · exact .inl (by simpa using h11)
      clear hq hA hT3 h hkf hkb hop hmono hu1 hm hy
      rcases hy2 with y1 | ⟨y1, y2, y3⟩ <;> (try subst y1) <;>
      · go_enter Tryz.func77, Tryz.ntmps77
        go_wp2_with (go_at_call 34; refine (unhide HKF _ g gc _ (unhide H) (unhide HQ1)).mono ?_; rintro e w5 ⟨⟨v5, rfl⟩, g5, gc5, hx5, hb5⟩; obtain ⟨a0, a1, a2, a3, a4, a5, a6, a7, a8⟩ := unhide HT w5 hx5.low; obtain ⟨b0, b1, b2, b3⟩ := unhide HT2 w5 hx5.low; obtain ⟨d0, d1, d2, f0, f1, f2⟩ := hx5.sw.all; have HX5 := hide hx5; have HB5 := hide hb5; have hp5 := hx5.sw.lt.1; clear hx5 hb5 H)
        simp only [List.append_eq, List.cons_append, List.nil_append]
        go_big_quiet (fail)
        go_wp2_with (go_at_call 34; refine (unhide HKB _ g5 gc5 _ ((unhide HX5).below (Below.drewN ((Below.refl _ _).alloc (Nat.le_refl _) _) _)) (unhide HQ)).mono ?_; rintro e w6 ⟨⟨v6, rfl⟩, hw6⟩; have HW6 := hide (Went.trans (But.of_below (Below.drewN ((Below.refl _ _).alloc (Nat.le_refl _) _) _)) (.inl rfl) hw6); clear hw6)
        go_end0
        refine ⟨⟨_, rfl⟩, ?_⟩
        exact Went.trans (unhide HB5).1 (unhide HB5).2 (unhide HW6)

end Go.Proofs.YtmgjicgojlkpcaaGreatDoor
