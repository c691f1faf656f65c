import Derived.Test.YtgjpchnkodnieaaGreatDoorZv16
import Derived.Test.YtgjpchnkodnieaaGreatDoorZv13
import Derived.Test.YtgjpchnkodnieaaGreatDoorZv14
import Derived.Deep.DeepCutAuto
import Derived.BigQuiet
import Derived.Test.YtgjpchnkodnieaaGreatDoorZv19
namespace Go.Proofs.YtgjpchnkodnieaaGreatDoor
open Go.RowKit
def foldV (c : Int) (sh st zs : List Int) : VAns :=
  if formed c sh st = true ∧ shapeB zs = true then
    if countOf sh = 1 then ⟨c, zs, List.replicate zs.length 0, true⟩
    else if (lineL (placesOf c sh st)).2 = true ∧ countOf zs ≤ countOf sh then answerOf c zs ((wholeSt zs).map fun x => x * (lineL (placesOf c sh st)).1) else noView
  else noView
theorem fold_no {c : Int} {sh st zs : List Int} (h : ¬ (formed c sh st = true ∧ shapeB zs = true)) : foldV c sh st zs = noView := by unfold foldV; rw [if_neg h]
theorem fold_one {c : Int} {sh st zs : List Int} (h : formed c sh st = true ∧ shapeB zs = true) (h1 : countOf sh = 1) : foldV c sh st zs = ⟨c, zs, List.replicate zs.length 0, true⟩ := by unfold foldV; rw [if_pos h, if_pos h1]
theorem fold_off {c : Int} {sh st zs : List Int} (h : formed c sh st = true ∧ shapeB zs = true) (h1 : ¬ countOf sh = 1) (h2 : ¬ ((lineL (placesOf c sh st)).2 = true ∧ countOf zs ≤ countOf sh)) : foldV c sh st zs = noView := by unfold foldV; rw [if_pos h, if_neg h1, if_neg h2]
theorem fold_go {c : Int} {sh st zs : List Int} (h : formed c sh st = true ∧ shapeB zs = true) (h1 : ¬ countOf sh = 1) (h2 : (lineL (placesOf c sh st)).2 = true ∧ countOf zs ≤ countOf sh) : foldV c sh st zs = answerOf c zs ((wholeSt zs).map fun x => x * (lineL (placesOf c sh st)).1) := by unfold foldV; rw [if_pos h, if_neg h1, if_pos h2]
def mulN (ws : List Int) (d : Int) (i : Nat) : List Int := (List.range ws.length).map fun k => if k < i then ws.getD k 0 * d else ws.getD k 0
theorem range_getD (ws : List Int) : (List.range ws.length).map (fun k => ws.getD k 0) = ws := by
  apply List.ext_getElem
  · simp
  · intro i h1 h2
    simp [List.getD, h2]
theorem mulN_zero (ws : List Int) (d : Int) : mulN ws d 0 = ws := by
  have : mulN ws d 0 = (List.range ws.length).map (fun k => ws.getD k 0) := range_eq fun q _ => by rw [if_neg (by omega)]
  rw [this, range_getD]
theorem mulN_len (ws : List Int) (d : Int) (i : Nat) : (mulN ws d i).length = ws.length := by simp [mulN]
theorem mulN_at (ws : List Int) (d : Int) {i : Nat} (hi : i < ws.length) : (mulN ws d i).getD i 0 = ws.getD i 0 := by simp [mulN, List.getD, hi]
theorem mulN_step (ws : List Int) (d : Int) (i : Nat) : (mulN ws d i).set i (ws.getD i 0 * d) = mulN ws d (i + 1) := by
  unfold mulN
  rw [range_set]
  refine range_eq fun q _ => ?_
  by_cases e : q = i
  · rw [if_pos e, if_pos (by omega), e]
  · rw [if_neg e]
    by_cases h : q < i
    · rw [if_pos h, if_pos (by omega)]
    · rw [if_neg h, if_neg (by omega)]
theorem mulN_all (ws : List Int) (d : Int) : mulN ws d ws.length = ws.map fun x => x * d := by
  apply List.ext_getElem
  · simp [mulN]
  · intro i h1 h2
    simp [mulN_len] at h1
    simp [mulN, List.getD, h1]
set_option maxRecDepth 20000 in
set_option maxHeartbeats 8000000 in
theorem FoldView_any (c : Int) (a1 a2 : Addr) (n1 n2 c1 c2 : Nat) (sh st : List Int) (t1 : Addr) (u1 e1 : Nat) (zs : List Int) (w : World) (h1 : Row w (some a1) n1 sh) (h2 : Row w (some a2) n2 st) (k1 : Row w (some t1) u1 zs) :
    Calls Tryz.prog 96 #[.agg #[.int .i64 c, .slice (some a1) n1 c1, .slice (some a2) n2 c2], .slice (some t1) u1 e1] w (GivesV w (foldV c sh st zs)) := by
  have hl1 := hide h1.len
  have hl2 := hide h2.len
  have hl3 := hide k1.len
  have hs3 := k1.small
  have H1 := hide h1
  have H2 := hide h2
  have K1 := hide k1
  clear h1 h2 k1
  obtain ⟨r, hr⟩ : ∃ r, formed c sh st = r := ⟨_, rfl⟩
  have HR := hide hr
  clear hr
  by_cases hsz : shapeB zs = true
  · have HSZ := hide hsz
    have hu5 : u1 ≤ 5 := by rw [← unhide hl3]; exact (shapeB_in hsz).2
    clear hsz
    cases r with
    | false =>
      have HF : Hid (foldV c sh st zs = noView) := fold_no (fun h => by rw [unhide HR] at h; exact absurd h.1 (by simp))
      go_enter Tryz.func96, Tryz.ntmps96
      go_wp2_with (first | (go_at_call 157; refine (WholeView_own t1 u1 e1 zs _ (((unhide K1).alloc _).alloc _)).mono ?_; rintro e w1 (⟨hs, _⟩ | ⟨_, ash, csh, gd, rfl, hO, hgd, hBk, hag, hb1⟩); (exact absurd (unhide HSZ) (by rw [hs]; simp)); obtain ⟨B0, B1, hB⟩ := vboxes2 hb1; have HV0 := hide B0; have HV1 := hide B1; have HB := hide hB; obtain ⟨x0, x1, x2, x3, x4, x5, x6⟩ := B0.all; clear hO hgd hBk hag hb1 B0 B1 hB) | (go_at_call 80; refine (l7Formed_eq c (some a1) (some a2) n1 n2 c1 c2 sh st _ (((unhide H1).below (Nat.le_refl _) (unhide HB)).alloc _) (((unhide H2).below (Nat.le_refl _) (unhide HB)).alloc _) _ HR).mono ?_; rintro e w2 ⟨rfl, hb2⟩; have HB2 := hide (((unhide HB).alloc (unhide HB).size _).trans (hb2.mono (by simp; have := (unhide HB).size; omega))); obtain ⟨x0, x1, x2, x3, x4, x5, x6⟩ := (((unhide HV0).alloc _).below (Nat.le_refl _) hb2).all; obtain ⟨z0, z1, z2, z3, z4, z5, z6⟩ := (((unhide HV1).alloc _).below (Nat.le_refl _) hb2).all; clear hb2))
      refine bodyPost_ret (v := .tuple #[.agg #[.int .i64 0, .slice none 0 0, .slice none 0 0], .bool false]) (by simp [results, Tryz.results96, go_sem, z0, z1, z2]) rfl ?_
      rw [unhide HF]
      exact ⟨none, 0, 0, none, 0, 0, rfl, row_nil _ _, row_nil _ _, (((unhide HB2).setCell (by simp <;> omega) _).setCell (by simp <;> omega) _).setCell (by simp <;> omega) _⟩
    | true =>
      have hcnt := shapeB_count (formed_parts (unhide HR)).1
      obtain ⟨N, hN⟩ : ∃ N : Nat, countOf sh = (N : Int) := ⟨(countOf sh).toNat, by omega⟩
      have HN := hide hN
      have hnn : n2 = n1 := by rw [← unhide hl1, ← unhide hl2]; exact (formed_parts (unhide HR)).2.1
      subst hnn
      clear hcnt hN
      have hmk := run_make_row' (P := Tryz.prog) 23 3 (.int .i64 0) 8 Tryz.underlying23 info_int rfl .i64 .i64 u1 (by omega) (by omega)
      go_enter Tryz.func96, Tryz.ntmps96
      go_upto_region 5 with (first | (go_at_call 157; refine (WholeView_own t1 u1 e1 zs _ (((unhide K1).alloc _).alloc _)).mono ?_; rintro e w1 (⟨hs, _⟩ | ⟨_, ash, csh, gd, rfl, hO, hgd, hBk, hag, hb1⟩); (exact absurd (unhide HSZ) (by rw [hs]; simp)); obtain ⟨B0, B1, hB⟩ := vboxes2 hb1; have HV0 := hide B0; have HV1 := hide B1; have HB := hide hB; have HO1 := hide (hO.mono (B' := w.heap.size + 2) (by simp)); have hgd1 : w.heap.size + 2 ≤ gd := (by simp at hgd; omega); have HBK := hide hBk; have HAG := hide hag; have hgl := hBk.lt; obtain ⟨x0, x1, x2, x3, x4, x5, x6⟩ := B0.all; clear hO hgd hBk hag hb1 B0 B1 hB) | (go_at_call 80; refine (l7Formed_eq c (some a1) (some a2) n2 n2 c1 c2 sh st _ (((unhide H1).below (Nat.le_refl _) (unhide HB)).alloc _) (((unhide H2).below (Nat.le_refl _) (unhide HB)).alloc _) _ HR).mono ?_; rintro e w2 ⟨rfl, hb2⟩; have HB2 := hide (((unhide HB).alloc (unhide HB).size _).trans (hb2.mono (by simp; have := (unhide HB).size; omega))); have E0 := hide (((unhide HV0).alloc _).below (Nat.le_refl _) hb2); have E1 := hide (((unhide HV1).alloc _).below (Nat.le_refl _) hb2); have E6 := hide ((VBox.new w1 0 (.slice ash u1 csh) (.slice (some ⟨gd, 0, none⟩) u1 u1)).below (Nat.le_refl _) hb2); have HO2 := hide (((unhide HO1).alloc _).below (Nat.le_refl _) hb2); have HK2 := hide (((unhide HBK).alloc _).below (Nat.le_refl _) hb2); have hz12 : w1.heap.size + 1 ≤ w2.heap.size := (by have := hb2.size; simpa using this); clear x0 x1 x2 x3 x4 x5 x6; obtain ⟨x0, x1, x2, x3, x4, x5, x6⟩ := (unhide E0).all; obtain ⟨v0, v1, v2, v3, v4, v5, v6⟩ := (unhide E6).all; clear hb2))
      clear x0 x1 x2 x3 x4 x5 x6 v0 v1 v2 v3 v4 v5 v6
      have HUA : Hid (∀ q, At ash u1 q → q < w1.heap.size) := fun q h => (unhide HO1).row.hi h
      obtain ⟨p, hp⟩ : ∃ p, p = w1.heap.size := ⟨_, rfl⟩
      have hp1 : w.heap.size + 1 < p := by have := (unhide HV1).lt; omega
      have hgp : gd < p := by omega
      have hpz : p < w2.heap.size := by omega
      rw [← hp] at E6 HUA
      rw [← hp]
      clear hp hz12 hgl HV0 HV1 HB HO1 HBK
      clear w1
      have E0' := hide ((unhide E0).other (q := ⟨p, 0, none⟩) (by show w.heap.size ≠ p; omega) (.int .i64 c))
      have E1' := hide ((unhide E1).other (q := ⟨p, 0, none⟩) (by show w.heap.size + 1 ≠ p; omega) (.int .i64 c))
      have E6' := hide (VBox.set0 (unhide E6) c)
      have HO' := hide ((unhide HO2).other (q := ⟨p, 0, none⟩) (fun q hq e => by have := unhide HUA q hq; simp at e; omega) (.int .i64 c))
      have HK' := hide ((unhide HK2).other (p := ⟨p, 0, none⟩) (by show gd ≠ p; omega) (.int .i64 c))
      have HW := hide ((unhide HB2).setCell (p := ⟨p, 0, none⟩) (by show w.heap.size ≤ p; omega) (.int .i64 c))
      have hpz' : p < (w2.setCell ⟨p, 0, none⟩ (.int .i64 c)).heap.size := by simp; exact hpz
      generalize w2.setCell ⟨p, 0, none⟩ (.int .i64 c) = W at *
      clear E0 E1 E6 HO2 HK2 HB2 hpz
      clear w2
      have H1W := hide ((unhide H1).below (Nat.le_refl _) (unhide HW))
      have H2W := hide ((unhide H2).below (Nat.le_refl _) (unhide HW))
      have K1W := hide ((unhide K1).below (Nat.le_refl _) (unhide HW))
      by_cases hN1 : N = 1
      · have HF : Hid (foldV c sh st zs = ⟨c, zs, List.replicate zs.length 0, true⟩) := fold_one ⟨unhide HR, unhide HSZ⟩ (by rw [unhide HN, hN1]; rfl)
        have hb1 : ((N : Int) == 1) = true := by simp [hN1]
        clear hN1
        obtain ⟨x0, x1, x2, x3, x4, x5, x6⟩ := (unhide E0').all
        have X6 := hide (((unhide E6').set2 (.slice (some ⟨W.heap.size, 0, none⟩) u1 u1)).alloc (.cells (madeCells #[.int .i64 0] u1) 3))
        obtain ⟨v0, v1, v2, v3, v4, v5, v6⟩ := ((unhide E6').alloc (.cells (madeCells #[.int .i64 0] u1) 3)).all
        obtain ⟨y0, y1, y2, y3, y4, y5, y6⟩ := (unhide X6).all
        have X1 := hide (((unhide E1').other (q := ⟨p, 2, none⟩) (by show w.heap.size + 1 ≠ p; omega) (.slice (some ⟨W.heap.size, 0, none⟩) u1 u1)).alloc (.cells (madeCells #[.int .i64 0] u1) 3))
        obtain ⟨z0, z1, z2, z3, z4, z5, z6⟩ := (unhide X1).all
        go_wp2_with (first | (go_at_call 48; refine (l3Count_eq _ _ _ sh _ H1W.out _ HN).mono ?_; rintro e wq ⟨rfl, hw⟩; obtain rfl := hw.symm))
        have hOX : Own ((W.setCell ⟨p, 2, none⟩ (.slice (some ⟨W.heap.size, 0, none⟩) u1 u1)).alloc (.cells (madeCells #[.int .i64 0] u1) 3)) (w.heap.size + 2) ash u1 zs := ((unhide HO').other (q := ⟨p, 2, none⟩) (fun q hq e => by have := unhide HUA q hq; simp at e; omega) _).alloc _
        have hBX : Blk ((W.setCell ⟨p, 2, none⟩ (.slice (some ⟨W.heap.size, 0, none⟩) u1 u1)).alloc (.cells (madeCells #[.int .i64 0] u1) 3)) W.heap.size (List.replicate u1 0) := Blk.made _ u1 _ (by simp)
        have hWX := ((unhide HW).setCell (p := ⟨p, 2, none⟩) (by show w.heap.size ≤ p; omega) (.slice (some ⟨W.heap.size, 0, none⟩) u1 u1)).alloc (by simp; exact (unhide HW).size) (.cells (madeCells #[.int .i64 0] u1) 3)
        obtain ⟨q0, q1, q2, q3, q4, q5, q6⟩ := ((unhide X1).sets (c' := c) (u1 := .slice ash u1 csh) (u2 := .slice (some ⟨W.heap.size, 0, none⟩) u1 u1)).all
        refine bodyPost_ret (v := .tuple #[.agg #[.int .i64 c, .slice ash u1 csh, .slice (some ⟨W.heap.size, 0, none⟩) u1 u1], .bool true]) (by simp [results, Tryz.results96, go_sem, q0, q1, q2]) rfl ?_
        rw [unhide HF, unhide hl3]
        exact ⟨ash, u1, csh, some ⟨W.heap.size, 0, none⟩, u1, u1, rfl, hOX.row.setsV (fun q hq => by have := hOX.low hq; omega) _ _ _, (hBX.row (by simp) (by omega)).setsV (fun q hq => by have := at_eq hq; omega) _ _ _, ((hWX.setCell (by simp <;> omega) _).setCell (by simp <;> omega) _).setCell (by simp <;> omega) _⟩
      · skip
        have hb1 : ((N : Int) == 1) = false := by simp; omega
        have HN1 : Hid (¬ countOf sh = 1) := by show ¬ _; rw [unhide HN]; omega
        clear hN1
        obtain ⟨M, hM⟩ : ∃ M : Nat, countOf zs = (M : Int) := ⟨(countOf zs).toNat, by have := shapeB_count (unhide HSZ); omega⟩
        have HM := hide hM
        clear hM
        have HPB : Hid (∀ k, k < N → -1000000000000 ≤ (placesOf c sh st).getD k 0 ∧ (placesOf c sh st).getD k 0 ≤ 1000000000000) := fun k hk => by rw [placesOf_get c sh st N k (unhide HN) hk]; exact placeOf_bd (unhide HR) N (unhide HN) k hk
        have HPL : Hid ((placesOf c sh st).length = N) := placesOf_len c sh st N (unhide HN)
        obtain ⟨ps, hps⟩ : ∃ ps, ps = placesOf c sh st := ⟨_, rfl⟩
        rw [← hps] at HPB HPL
        have HPS := hide hps
        obtain ⟨d, hd⟩ : ∃ d, d = (lineL ps).1 := ⟨_, rfl⟩
        obtain ⟨ln, hln⟩ : ∃ ln, ln = (lineL ps).2 := ⟨_, rfl⟩
        have hdb : -2000000000000 ≤ d ∧ d ≤ 2000000000000 := by
          rw [hd]
          unfold lineL
          split
          · simp
          · split
            · have q0 := HPB.out 0 (by rw [← HPL.out]; omega)
              have q1 := HPB.out 1 (by rw [← HPL.out]; omega)
              simp only
              omega
            · simp
        have HD := hide hd
        have HLN := hide hln
        clear hps hd hln
        obtain ⟨x0, x1, x2, x3, x4, x5, x6⟩ := (unhide E0').all
        go_upto_region 9 with (first | (go_at_call 48; refine (l3Count_eq _ _ _ sh _ H1W.out _ HN).mono ?_; rintro e wq ⟨rfl, hw⟩; obtain rfl := hw.symm) | (go_at_call 81; refine (l7Places_any c (some a1) (some a2) n2 c1 c2 sh st _ H1W.out H2W.out (unhide HR) N (unhide HN)).mono ?_; rintro e w3 ⟨g, k, rfl, ho, hb3⟩; rw [← HPS.out] at ho; have HQ := hide ho.row; have HB3 := hide hb3; clear ho hb3) | (go_at_call 167; refine (l7Line_any _ _ _ ps _ HQ.out HPB.out).mono ?_; rw [← HD.out, ← HLN.out]; rintro e w4 ⟨rfl, hb4⟩; have HB4 := hide (HB3.out.trans (hb4.mono HB3.out.size)); clear hb4))
        clear x0 x1 x2 x3 x4 x5 x6
        have F0 := hide ((unhide E0').below (Nat.le_refl _) (unhide HB4))
        have F1 := hide ((unhide E1').below (Nat.le_refl _) (unhide HB4))
        have F6 := hide ((unhide E6').below (Nat.le_refl _) (unhide HB4))
        have HO4 := hide ((unhide HO').below (Nat.le_refl _) (unhide HB4))
        have HK4 := hide ((unhide HK').below (Nat.le_refl _) (unhide HB4))
        have HW4 := hide ((unhide HW).trans ((unhide HB4).mono (unhide HW).size))
        have H14 := hide ((unhide H1W).below (Nat.le_refl _) (unhide HB4))
        have K14 := hide ((unhide K1W).below (Nat.le_refl _) (unhide HB4))
        have hp4 : p < w4.heap.size := by have := (unhide HB4).size; omega
        clear E0' E1' E6' HO' HK' HW H1W H2W K1W HB3 HB4 HQ hpz'
        clear w3 W
        obtain ⟨x0, x1, x2, x3, x4, x5, x6⟩ := (unhide F0).all
        obtain ⟨z0, z1, z2, z3, z4, z5, z6⟩ := (unhide F1).all
        cases ln with
        | false =>
          have HF : Hid (foldV c sh st zs = noView) := fold_off ⟨unhide HR, unhide HSZ⟩ (unhide HN1) (fun h => by rw [← HPS.out, ← HLN.out] at h; exact absurd h.1 (by simp))
          go_quiet (fail)
          go_wp2_with fail
          refine bodyPost_ret (v := .tuple #[.agg #[.int .i64 0, .slice none 0 0, .slice none 0 0], .bool false]) (by simp [results, Tryz.results96, go_sem, z0, z1, z2]) rfl ?_
          rw [unhide HF]
          exact ⟨none, 0, 0, none, 0, 0, rfl, row_nil _ _, row_nil _ _, (((Below.drewN (unhide HW4) _).setCell (by simp <;> omega) _).setCell (by simp <;> omega) _).setCell (by simp <;> omega) _⟩
        | true =>
          by_cases hMN : N < M
          · have HF : Hid (foldV c sh st zs = noView) := fold_off ⟨unhide HR, unhide HSZ⟩ (unhide HN1) (fun h => by have h2 := h.2; rw [unhide HN, unhide HM] at h2; omega)
            have hmi : (N : Int) < (M : Int) := by omega
            go_quiet (first | (go_at_call_of 48 (Value.slice (some t1) u1 e1); exact Calls.quiet_of_same (l3Count_eq (some t1) u1 e1 zs _ (K14.out.drewN _) _ HM)) | (go_at_call_of 48 (Value.slice (some a1) n2 c1); exact Calls.quiet_of_same (l3Count_eq (some a1) n2 c1 sh _ (H14.out.drewN _) _ HN)))
            go_wp2_with fail
            refine bodyPost_ret (v := .tuple #[.agg #[.int .i64 0, .slice none 0 0, .slice none 0 0], .bool false]) (by simp [results, Tryz.results96, go_sem, z0, z1, z2]) rfl ?_
            rw [unhide HF]
            exact ⟨none, 0, 0, none, 0, 0, rfl, row_nil _ _, row_nil _ _, (((Below.drewN (unhide HW4) _).setCell (by simp <;> omega) _).setCell (by simp <;> omega) _).setCell (by simp <;> omega) _⟩
          · have HF : Hid (foldV c sh st zs = answerOf c zs ((wholeSt zs).map fun x => x * d)) := by
              rw [HD.out, HPS.out]
              exact fold_go ⟨unhide HR, unhide HSZ⟩ (unhide HN1) ⟨by rw [← HPS.out, ← HLN.out], by rw [unhide HN, unhide HM]; omega⟩
            have hmi : ¬ (N : Int) < (M : Int) := by omega
            go_quiet (first | (go_at_call_of 48 (Value.slice (some t1) u1 e1); exact Calls.quiet_of_same (l3Count_eq (some t1) u1 e1 zs _ (K14.out.drewN _) _ HM)) | (go_at_call_of 48 (Value.slice (some a1) n2 c1); exact Calls.quiet_of_same (l3Count_eq (some a1) n2 c1 sh _ (H14.out.drewN _) _ HN)))
            obtain ⟨ws, hws⟩ : ∃ ws, ws = wholeSt zs := ⟨_, rfl⟩
            have hwl : ws.length = u1 := by rw [hws, wholeSt_len]; exact unhide hl3
            have HWB : Hid (∀ k, k < u1 → 1 ≤ ws.getD k 0 ∧ ws.getD k 0 ≤ 10000) := fun k hk => by
              rw [hws]
              have : (wholeSt zs).getD k 0 = tailProd (zs.drop (k + 1)) := by simp [wholeSt, List.getD, show k < zs.length by rw [unhide hl3]; exact hk]
              rw [this]
              exact tailProd_bd (shapeB_in (unhide HSZ)).1 (k + 1)
            rw [← hws] at HK4 HF
            have HWL := hide hwl
            clear hws hwl x0 x1 x2 x3 x4 x5 x6 z0 z1 z2 z3 z4 z5 z6
            obtain ⟨v0, v1, v2, v3, v4, v5, v6⟩ := (unhide F6).all
            have HK40 : Hid (Blk w4 gd (mulN ws d 0)) := by show Blk _ _ _; rw [mulN_zero]; exact unhide HK4
            go_wp2_with fail
            clear v0 v1 v2 v3 v4 v5 v6
            go_loopw [10] (fun v wr => ∃ i : Nat, i ≤ u1 ∧ v = .int .i64 (i : Nat) ∧ Hid (Blk wr gd (mulN ws d i)) ∧ Hid (But (fun x => x = gd) w4 wr)) (fun v _ => u1 - (intOf v).toNat)
            case atStart => exact ⟨0, Nat.zero_le _, by first | rfl | simp, HK40, hide ⟨rfl, rfl, rfl, Nat.le_refl _, fun _ _ _ => rfl⟩⟩
            case round =>
              obtain ⟨i, hi, rfl, hb, hbut⟩ := hrel
              have hzr := hbut.out.size
              by_cases hiu : i < u1
              · obtain ⟨x, hx⟩ : ∃ x, ws.getD i 0 = x := ⟨_, rfl⟩
                have hxb := HWB.out i hiu
                rw [hx] at hxb
                have cg := hb.out.cell (i := i) (by rw [mulN_len, HWL.out]; exact hiu)
                rw [mulN_at ws d (by rw [HWL.out]; exact hiu), hx] at cg
                have cf := hb.out.free i
                have HSET : Hid ((mulN ws d i).set i (x * d) = mulN ws d (i + 1)) := by rw [← hx]; exact mulN_step ws d i
                obtain ⟨y, hy⟩ : ∃ y, y = x * d := ⟨_, rfl⟩
                have hyb : -20000000000000000 ≤ y ∧ y ≤ 20000000000000000 := by
                  have q1 : x * d ≤ 10000 * 2000000000000 := Int.le_trans (Int.mul_le_mul_of_nonneg_left hdb.2 (by omega)) (Int.mul_le_mul_of_nonneg_right hxb.2 (by omega))
                  have q2 : x * (-d) ≤ 10000 * 2000000000000 := Int.le_trans (Int.mul_le_mul_of_nonneg_left (show -d ≤ 2000000000000 by omega) (by omega)) (Int.mul_le_mul_of_nonneg_right hxb.2 (by omega))
                  rw [Int.mul_neg] at q2
                  rw [← hy] at q1 q2
                  omega
                have hwy : IntKind.i64.wrap (x * d) = y := by rw [← hy, IntKind.wrap_i64]; omega
                have hxy : x * d = y := hy.symm
                rw [hxy] at HSET
                obtain ⟨v0, v1, v2, v3, v4, v5, v6⟩ := (show VBox wr p c (.slice ash u1 csh) (.slice (some ⟨gd, 0, none⟩) u1 u1) from (hbut.out.block _ (by omega) (by omega)).trans F6.out).all
                have hil : (i : Int) < (u1 : Int) := by omega
                clear hx hy
                go_upto_region 14 with fail
                go_region
                all_goals go_wp2_with fail
                all_goals go_roundw
                all_goals first
                  | (refine ⟨i + 1, by omega, by go_num, ?_, hide ((hbut.out.setCell (p := ⟨gd, i, none⟩) rfl _).drew)⟩
                     show Blk _ _ _
                     rw [← HSET.out]
                     exact (hb.out.set i y).drew)
                  | (simp [intOf]; omega)
              · have hie : i = u1 := by omega
                subst hie
                have hZr : VBox wr p c (.slice ash i csh) (.slice (some ⟨gd, 0, none⟩) i i) := (hbut.out.block _ (by omega) (by omega)).trans F6.out
                obtain ⟨v0, v1, v2, v3, v4, v5, v6⟩ := hZr.all
                have HX2 : Hid (VBox wr (w.heap.size + 1) 0 (.slice none 0 0) (.slice none 0 0)) := (hbut.out.block _ (by omega) (by omega)).trans F1.out
                have HOr : Hid (Own wr (w.heap.size + 2) ash i zs) := hbut.out.own HO4.out (by rintro q rfl h; exact HAG.out h)
                have hall : mulN ws d i = ws.map fun x => x * d := by rw [← mulN_all, HWL.out]
                have hca := l7Answer_any c ash (some ⟨gd, 0, none⟩) i i csh i zs (ws.map fun x => x * d) wr HOr.out.row (by rw [← hall]; exact hb.out.row (by rw [mulN_len, HWL.out]) (by omega))
                generalize answerOf c zs (ws.map fun x => x * d) = r9 at *
                have HWr : Hid (Below w.heap.size w wr) := HW4.out.trans (hbut.out.below (B := w.heap.size) (by omega) (by rintro x rfl; omega))
                clear hZr hall hb
                go_wp2_with (go_at_call 89; refine hca.mono ?_; rintro e w9 ⟨q1, m1, d1, q2, m2, d2, rfl, hq1, hq2, ha1, ha2, hb9⟩; have HN1 := hide ha1; have HN2 := hide ha2; have HQ1 := hide hq1; have HQ2 := hide hq2; have HB9 := hide hb9; obtain ⟨z0, z1, z2, z3, z4, z5, z6⟩ := ((unhide HX2).below (Nat.le_refl _) hb9).all; clear hq1 hq2 ha1 ha2 hb9)
                refine bodyPost_ret (v := .tuple #[.agg #[.int .i64 r9.c, .slice q1 m1 d1, .slice q2 m2 d2], .bool r9.code]) (by simp [results, Tryz.results96, go_sem, z0, z1, z2]) rfl ?_
                rw [unhide HF]
                exact ⟨q1, m1, d1, q2, m2, d2, rfl, (unhide HQ1).setsV (fun x hx => by have := (unhide HOr).low (unhide HN1 x hx); omega) _ _ _, (unhide HQ2).setsV (fun x hx => by have := at_eq (unhide HN2 x hx); omega) _ _ _, (((HWr.out.trans ((unhide HB9).mono HWr.out.size)).setCell (by simp <;> omega) _).setCell (by simp <;> omega) _).setCell (by simp <;> omega) _⟩
  · have HF : Hid (foldV c sh st zs = noView) := fold_no (fun h => hsz h.2)
    have HSZ := hide hsz
    clear hsz
    cases r
    all_goals
      go_enter Tryz.func96, Tryz.ntmps96
      go_wp2_with (first | (go_at_call 157; refine (WholeView_own t1 u1 e1 zs _ (((unhide K1).alloc _).alloc _)).mono ?_; rintro e w1 (⟨_, rfl, hb1⟩ | ⟨hs, _⟩); rotate_left; (exact absurd hs (unhide HSZ)); obtain ⟨B0, B1, hB⟩ := vboxes2 hb1; have HV0 := hide B0; have HV1 := hide B1; have HB := hide hB; obtain ⟨x0, x1, x2, x3, x4, x5, x6⟩ := B0.all; clear hb1 B0 B1 hB) | (go_at_call 80; refine (l7Formed_eq c (some a1) (some a2) n1 n2 c1 c2 sh st _ (((unhide H1).below (Nat.le_refl _) (unhide HB)).alloc _) (((unhide H2).below (Nat.le_refl _) (unhide HB)).alloc _) _ HR).mono ?_; rintro e w2 ⟨rfl, hb2⟩; have HB2 := hide (((unhide HB).alloc (unhide HB).size _).trans (hb2.mono (by simp; have := (unhide HB).size; omega))); obtain ⟨x0, x1, x2, x3, x4, x5, x6⟩ := (((unhide HV0).alloc _).below (Nat.le_refl _) hb2).all; obtain ⟨z0, z1, z2, z3, z4, z5, z6⟩ := (((unhide HV1).alloc _).below (Nat.le_refl _) hb2).all; clear hb2))
      refine bodyPost_ret (v := .tuple #[.agg #[.int .i64 0, .slice none 0 0, .slice none 0 0], .bool false]) (by simp [results, Tryz.results96, go_sem, z0, z1, z2]) rfl ?_
      rw [unhide HF]
      exact ⟨none, 0, 0, none, 0, 0, rfl, row_nil _ _, row_nil _ _, (((unhide HB2).setCell (by simp <;> omega) _).setCell (by simp <;> omega) _).setCell (by simp <;> omega) _⟩
end Go.Proofs.YtgjpchnkodnieaaGreatDoor
namespace Go.Proofs.YtgjpchnkodnieaaGreatDoor
open Go.RowKit
theorem lays2 (w : World) (f : Nat → Int) : LBox ((w.alloc (.cells #[.int .i64 (f 0), .int .i64 (f 1), .int .i64 (f 2), .int .i64 (f 3), .int .i64 (f 4), .int .i64 (f 5), .int .i64 (f 6), .int .i64 (f 7), .int .i64 (f 8), .int .i64 (f 9), .int .i64 (f 10), .int .i64 (f 11)] 101)).alloc (.cells #[.int .i64 0, .int .i64 0, .int .i64 0, .int .i64 0, .int .i64 0, .int .i64 0, .int .i64 0, .int .i64 0, .int .i64 0, .int .i64 0, .int .i64 0, .int .i64 0] 101)) w.heap.size f ∧ LBox ((w.alloc (.cells #[.int .i64 (f 0), .int .i64 (f 1), .int .i64 (f 2), .int .i64 (f 3), .int .i64 (f 4), .int .i64 (f 5), .int .i64 (f 6), .int .i64 (f 7), .int .i64 (f 8), .int .i64 (f 9), .int .i64 (f 10), .int .i64 (f 11)] 101)).alloc (.cells #[.int .i64 0, .int .i64 0, .int .i64 0, .int .i64 0, .int .i64 0, .int .i64 0, .int .i64 0, .int .i64 0, .int .i64 0, .int .i64 0, .int .i64 0, .int .i64 0] 101)) (w.heap.size + 1) (fun _ => 0) ∧ Below w.heap.size w ((w.alloc (.cells #[.int .i64 (f 0), .int .i64 (f 1), .int .i64 (f 2), .int .i64 (f 3), .int .i64 (f 4), .int .i64 (f 5), .int .i64 (f 6), .int .i64 (f 7), .int .i64 (f 8), .int .i64 (f 9), .int .i64 (f 10), .int .i64 (f 11)] 101)).alloc (.cells #[.int .i64 0, .int .i64 0, .int .i64 0, .int .i64 0, .int .i64 0, .int .i64 0, .int .i64 0, .int .i64 0, .int .i64 0, .int .i64 0, .int .i64 0, .int .i64 0] 101)) := by
  refine ⟨(LBox.new w f).alloc _, ?_, ((Below.refl _ _).alloc (Nat.le_refl _) _).alloc (by simp) _⟩
  have := LBox.new (w.alloc (.cells #[.int .i64 (f 0), .int .i64 (f 1), .int .i64 (f 2), .int .i64 (f 3), .int .i64 (f 4), .int .i64 (f 5), .int .i64 (f 6), .int .i64 (f 7), .int .i64 (f 8), .int .i64 (f 9), .int .i64 (f 10), .int .i64 (f 11)] 101)) (fun _ => 0)
  rwa [World.size_alloc] at this
abbrev objZ : Obj := .cells #[.int .i64 0, .int .i64 0, .int .i64 0, .int .i64 0, .int .i64 0, .int .i64 0, .int .i64 0, .int .i64 0, .int .i64 0, .int .i64 0, .int .i64 0, .int .i64 0] 101
abbrev objL (f : Nat → Int) : Obj := .cells #[.int .i64 (f 0), .int .i64 (f 1), .int .i64 (f 2), .int .i64 (f 3), .int .i64 (f 4), .int .i64 (f 5), .int .i64 (f 6), .int .i64 (f 7), .int .i64 (f 8), .int .i64 (f 9), .int .i64 (f 10), .int .i64 (f 11)] 101
end Go.Proofs.YtgjpchnkodnieaaGreatDoor
