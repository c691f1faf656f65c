import Derived.Test.YtkgcmpmgaghdhaaGreatDoorImplFoldW
namespace Go.Proofs.YtkgcmpmgaghdhaaGreatDoor
open Go.RowKit Go.Shelf

set_option maxRecDepth 20000 in
set_option maxHeartbeats 4000000 in
theorem implFold_good0 (op : Int) (c fl : Bool) (a1 a2 : Addr) (n1 n2 c1 c2 : Nat) (sh dt : List Int) (w : World) (h1 : Row w (some a1) n1 sh) (h2 : Row w (some a2) n2 dt) (ga gb : Addr) (hG : GlF w ga gb) (hop : opIn op = true) (hok : arrOk c sh dt = true) (B L A : Nat) (others : List Int) (hax : ∀ W, Below w.heap.size w W → Calls Tryz.prog 94 #[.slice (some a1) n1 c1, .bool fl] W (AxisOk W B L A others)) (hc : c = false) (hL : L ≠ 1) (hBb : B ≤ 10000) (hLb : L ≤ 10000) (hAb : A ≤ 10000) (hprod : B * L * A = n2) (hn1 : shapeB others = true) (hn2 : countOf others = ((B * A : Nat) : Int)) (hfc : firstCode (foldAt op dt L A) (B * A) = 0) :
    Calls Tryz.prog 34 #[.int .i64 op, .agg #[.bool c, .slice (some a1) n1 c1, .slice (some a2) n2 c2], .bool fl] w (GivesOwn w (gatherAns false others (foldAt op dt L A) (B * A))) := by
  have HR := hide hok
  have HOP := hide hop
  have hs2 := h2.small
  have H1 := hide h1
  have H2 := hide h2
  clear h1 h2 hok hop
  have HAX := hide hax
  have HG := hide hG
  have ql : ((L : Int) == 1) = false := by simp; omega
  have HS : Hid (shapeB others = true ∧ countOf others = ((B * A : Nat) : Int)) := ⟨hn1, hn2⟩
  have hn16 : B * A ≤ 100000000 := Nat.le_trans (Nat.mul_le_mul hBb hAb) (by omega)
  have HXB : Hid (∀ k, k < n2 → -1000000000000000 ≤ dt.getD k 0 ∧ dt.getD k 0 ≤ 1000000000000000) := fun k hk => dataOk_bd (unhide HR) (by rw [(unhide H2).len]; exact hk)
  obtain ⟨n, hn⟩ : ∃ n, n = B * A := ⟨_, rfl⟩
  rw [← hn] at hfc HS hn16 ⊢
  have HFC := hide hfc
  have HEL : ∀ (p9 p8 : Nat) (v v1 : Value) (oa : Option Addr) (ol oc : Nat) (W : World), FoldIs ga gb op v W → W.cell? ⟨p9, 0, none⟩ = some v → ABox W p8 B L A (.slice oa ol oc) → Box W w.heap.size c v1 (.slice (some a2) n2 c2) → Row W (some a2) n2 dt → ElemOk ga gb 102 #[.pointer (some ⟨p9, 0, none⟩), .pointer (some ⟨p8, 0, none⟩), .pointer (some ⟨w.heap.size, 0, none⟩)] (foldAt op dt L A) n W := by
    intro p9 p8 v v1 oa ol oc W hv hc hX hB h2 k hk W' hW
    have hA0 : 0 < A := by
      rcases Nat.eq_zero_or_pos A with h | h
      · subst h; simp at hn; omega
      · exact h
    exact foldClo op ga gb a2 v v1 _ p9 p8 w.heap.size B L A n2 c2 k c dt W' (hv.below hW) ((hW.cell (p := ⟨p9, 0, none⟩) (World.block_lt_of_cell? _ _ hc)).trans hc) (hX.below (Nat.le_refl _) hW) ⟨oa, ol, oc, rfl⟩ (hB.below (Nat.le_refl _) hW) (h2.below (Nat.le_refl _) hW) hA0 (by omega) (by omega) (by omega) (fun i hi => strip_in hprod (by rw [← hn]; exact hk) hA0 hi) (unhide HXB)
  have HELL := hide HEL
  clear hax hL hG hn1 hn2 hfc HEL hn hprod
  subst hc
  go_enter Tryz.func34, Tryz.ntmps34
  go_wp2_with (first | (go_at_call 48; refine (isScalarFn_any op _ _ HOP).mono ?_; rintro e w0 ⟨rfl, rfl⟩) | (go_at_call 43; refine (implArrayOk_eq _ _ _ _ _ _ _ sh dt _ (((unhide H1).alloc _).alloc _) (((unhide H2).alloc _).alloc _) _ HR).mono ?_; rintro e w1 ⟨rfl, hb1⟩; obtain ⟨B0, B2, hB1⟩ := boxes2 hb1; have HB0 := hide B0; have HB2 := hide B2; have HB := hide hB1; obtain ⟨x0, x1, x2, x3, x4, x5, x6⟩ := B0.all; obtain ⟨q0, q1, q2, q3, q4, q5, q6⟩ := B2.all; clear hb1 hB1 B0 B2) | (go_at_call 94; refine (unhide HAX _ (unhide HB)).mono ?_; rintro e w2 ⟨oa, ol, oc, rfl, hO, hb2⟩; have hs12 := hb2.size; have hw1b := q6; have HO := hide (hO.mono (B' := w.heap.size + 2) (by omega)); have HB0' := hide ((unhide HB0).below (Nat.le_refl _) hb2); have HB2' := hide ((unhide HB2).below (Nat.le_refl _) hb2); have HC := hide ((unhide HB).trans (hb2.mono (by omega))); clear hb2 hO x0 x1 x2 x3 x4 x5 x6 q0 q1 q2 q3 q4 q5 q6 HB0 HB2 HB; obtain ⟨x0, x1, x2, x3, x4, x5, x6⟩ := (unhide HB0').all; obtain ⟨q0, q1, q2, q3, q4, q5, q6⟩ := (unhide HB2').all) | (go_at_call 95; refine (foldingBy_any op ga gb _ ((unhide HG).below (unhide HC) |>.alloc _) (unhide HOP)).mono ?_; rintro e w3 ⟨v, rfl, hv, hb3⟩; have hs23 : w2.heap.size + 1 ≤ w3.heap.size := (by have := hb3.size; simpa using this); have hK3 : Below w2.heap.size w2 w3 := ((Below.refl _ _).alloc (Nat.le_refl _) _).trans (hb3.mono (by simp)); have AX : Hid (ABox w3 w2.heap.size B L A (.slice oa ol oc)) := ABox.below (by exact heap_alloc_last w2 _) (Nat.le_refl _) hb3; have HV := hide hv; have HB0t := hide ((unhide HB0').below (Nat.le_refl _) hK3); have HB2t := hide ((unhide HB2').below (Nat.le_refl _) hK3); have HE := hide ((unhide HC).trans (hK3.mono (by omega))); have HOt := hide ((unhide HO).below (Nat.le_refl _) hK3); clear hb3 hK3 x0 x1 x2 x3 x4 x5 x6 q0 q1 q2 q3 q4 q5 q6 HB0' HB2'; obtain ⟨x0, x1, x2, x3, x4, x5, x6⟩ := (unhide HB0t).all; obtain ⟨q0, q1, q2, q3, q4, q5, q6⟩ := (unhide HB2t).all; obtain ⟨z0, z1, z2, z3⟩ := (unhide AX).cells; have zl := (unhide AX).lt; obtain ⟨g, lb, rfl, eg, _⟩ := hv) | (go_at_call 52; have hG4 := ((unhide HG).below (unhide HE)).gl.alloc (.cells #[.func (.func g) #[] lb] 107); have hc9 := cell_of_row _ _ 0 _ _ (0, 0) (heap_alloc_last w3 (.cells #[.func (.func g) #[] lb] 107)); refine (reckoned_any ga gb 102 _ (enters_of Tryz.func102 (by kernel_rfl) rfl) (foldAt op dt L A) n _ _ _ others _ ((unhide HOt).alloc _).row (unhide HS).1 (unhide HS).2 hG4 (fun k _ => foldR_codeIn _ _) (unhide HELL _ _ _ _ _ _ _ _ ((unhide HV).below ((Below.refl _ _).alloc (Nat.le_refl _) _)) hc9 ((unhide AX).alloc _) ((unhide HB0t).alloc _) (((unhide H2).below (Nat.le_refl _) (unhide HE)).alloc _))).mono ?_; rintro e w5 ⟨hr, hb5⟩; obtain ⟨_, p, hpl, rfl, hblk⟩ | ⟨hne, _⟩ := hr; rotate_left; exact absurd (unhide HFC) hne; have HBK := hide hblk; have hpl' : w3.heap.size + 1 ≤ p := (by simpa using hpl); clear hblk hpl; have hKD : Below w3.heap.size w3 w5 := ((Below.refl _ _).alloc (Nat.le_refl _) _).trans (hb5.mono (by simp)); have HKD := hide hKD; obtain ⟨r0, r1, r2, r3, r4, r5, r6⟩ := ((unhide HB2t).below (Nat.le_refl _) hKD).all; clear hb5 hKD))
  refine bodyPost_ret (v := .tuple #[.agg #[.bool false, .slice oa ol oc, .slice (some ⟨p, 0, none⟩) n n], .int .i64 0]) (by simp [results, Tryz.results34, go_sem, r0, r1, r2]) rfl ?_
  have hO := (unhide HOt).below (Nat.le_refl _) (unhide HKD)
  have hk : ∀ k, At oa ol k → k ≠ w.heap.size + 1 := fun k hk => by have := (unhide HOt).low hk; omega
  have hD : Own w5 w.heap.size (some ⟨p, 0, none⟩) n (vals (foldAt op dt L A) n) := (unhide HBK).own (vals_len _ _) (by omega) (by omega)
  have hk2 : ∀ k, At (some ⟨p, 0, none⟩) n k → k ≠ w.heap.size + 1 := fun k hk => by have := at_eq hk; omega
  rw [gather_good (unhide HFC)]
  refine ⟨oa, ol, oc, some ⟨p, 0, none⟩, n, n, rfl, (((hO.mono (by omega)).other hk _).other hk _).other hk _, ((hD.other hk2 _).other hk2 _).other hk2 _, fun k h1 h2 => ?_, ((((unhide HE).trans ((unhide HKD).mono (by omega))).setCell (by simp) _).setCell (by simp) _).setCell (by simp) _⟩
  have := (unhide HOt).row.hi h1
  have := at_eq h2
  omega

set_option maxRecDepth 20000 in
set_option maxHeartbeats 4000000 in
theorem implFold_good1 (op : Int) (c fl : Bool) (a1 a2 : Addr) (n1 n2 c1 c2 : Nat) (sh dt : List Int) (w : World) (h1 : Row w (some a1) n1 sh) (h2 : Row w (some a2) n2 dt) (ga gb : Addr) (hG : GlF w ga gb) (hop : opIn op = true) (hok : arrOk c sh dt = true) (B L A : Nat) (others : List Int) (hax : ∀ W, Below w.heap.size w W → Calls Tryz.prog 94 #[.slice (some a1) n1 c1, .bool fl] W (AxisOk W B L A others)) (hc : c = false) (hL : L ≠ 1) (hBb : B ≤ 10000) (hLb : L ≤ 10000) (hAb : A ≤ 10000) (hprod : B * L * A = n2) (hn1 : shapeB others = true) (hn2 : countOf others = ((B * A : Nat) : Int)) (ccc : Int) (hfc : ccc = firstCode (foldAt op dt L A) (B * A)) (hc0 : ccc ≠ 0) :
    Calls Tryz.prog 34 #[.int .i64 op, .agg #[.bool c, .slice (some a1) n1 c1, .slice (some a2) n2 c2], .bool fl] w (GivesOwn w (gatherAns false others (foldAt op dt L A) (B * A))) := by
  have HR := hide hok
  have HOP := hide hop
  have hs2 := h2.small
  have H1 := hide h1
  have H2 := hide h2
  clear h1 h2 hok hop
  have HAX := hide hax
  have HG := hide hG
  have ql : ((L : Int) == 1) = false := by simp; omega
  have HS : Hid (shapeB others = true ∧ countOf others = ((B * A : Nat) : Int)) := ⟨hn1, hn2⟩
  have hn16 : B * A ≤ 100000000 := Nat.le_trans (Nat.mul_le_mul hBb hAb) (by omega)
  have HXB : Hid (∀ k, k < n2 → -1000000000000000 ≤ dt.getD k 0 ∧ dt.getD k 0 ≤ 1000000000000000) := fun k hk => dataOk_bd (unhide HR) (by rw [(unhide H2).len]; exact hk)
  obtain ⟨n, hn⟩ : ∃ n, n = B * A := ⟨_, rfl⟩
  rw [← hn] at hfc HS hn16 ⊢
  have HFC := hide hfc
  have HC0 := hide hc0
  have HEL : ∀ (p9 p8 : Nat) (v v1 : Value) (oa : Option Addr) (ol oc : Nat) (W : World), FoldIs ga gb op v W → W.cell? ⟨p9, 0, none⟩ = some v → ABox W p8 B L A (.slice oa ol oc) → Box W w.heap.size c v1 (.slice (some a2) n2 c2) → Row W (some a2) n2 dt → ElemOk ga gb 102 #[.pointer (some ⟨p9, 0, none⟩), .pointer (some ⟨p8, 0, none⟩), .pointer (some ⟨w.heap.size, 0, none⟩)] (foldAt op dt L A) n W := by
    intro p9 p8 v v1 oa ol oc W hv hc hX hB h2 k hk W' hW
    have hA0 : 0 < A := by
      rcases Nat.eq_zero_or_pos A with h | h
      · subst h; simp at hn; omega
      · exact h
    exact foldClo op ga gb a2 v v1 _ p9 p8 w.heap.size B L A n2 c2 k c dt W' (hv.below hW) ((hW.cell (p := ⟨p9, 0, none⟩) (World.block_lt_of_cell? _ _ hc)).trans hc) (hX.below (Nat.le_refl _) hW) ⟨oa, ol, oc, rfl⟩ (hB.below (Nat.le_refl _) hW) (h2.below (Nat.le_refl _) hW) hA0 (by omega) (by omega) (by omega) (fun i hi => strip_in hprod (by rw [← hn]; exact hk) hA0 hi) (unhide HXB)
  have HELL := hide HEL
  clear hax hL hG hn1 hn2 hfc HEL hn hprod hc0
  subst hc
  go_enter Tryz.func34, Tryz.ntmps34
  go_wp2_with (first | (go_at_call 48; refine (isScalarFn_any op _ _ HOP).mono ?_; rintro e w0 ⟨rfl, rfl⟩) | (go_at_call 43; refine (implArrayOk_eq _ _ _ _ _ _ _ sh dt _ (((unhide H1).alloc _).alloc _) (((unhide H2).alloc _).alloc _) _ HR).mono ?_; rintro e w1 ⟨rfl, hb1⟩; obtain ⟨B0, B2, hB1⟩ := boxes2 hb1; have HB0 := hide B0; have HB2 := hide B2; have HB := hide hB1; obtain ⟨x0, x1, x2, x3, x4, x5, x6⟩ := B0.all; obtain ⟨q0, q1, q2, q3, q4, q5, q6⟩ := B2.all; clear hb1 hB1 B0 B2) | (go_at_call 94; refine (unhide HAX _ (unhide HB)).mono ?_; rintro e w2 ⟨oa, ol, oc, rfl, hO, hb2⟩; have hs12 := hb2.size; have hw1b := q6; have HO := hide (hO.mono (B' := w.heap.size + 2) (by omega)); have HB0' := hide ((unhide HB0).below (Nat.le_refl _) hb2); have HB2' := hide ((unhide HB2).below (Nat.le_refl _) hb2); have HC := hide ((unhide HB).trans (hb2.mono (by omega))); clear hb2 hO x0 x1 x2 x3 x4 x5 x6 q0 q1 q2 q3 q4 q5 q6 HB0 HB2 HB; obtain ⟨x0, x1, x2, x3, x4, x5, x6⟩ := (unhide HB0').all; obtain ⟨q0, q1, q2, q3, q4, q5, q6⟩ := (unhide HB2').all) | (go_at_call 95; refine (foldingBy_any op ga gb _ ((unhide HG).below (unhide HC) |>.alloc _) (unhide HOP)).mono ?_; rintro e w3 ⟨v, rfl, hv, hb3⟩; have hs23 : w2.heap.size + 1 ≤ w3.heap.size := (by have := hb3.size; simpa using this); have hK3 : Below w2.heap.size w2 w3 := ((Below.refl _ _).alloc (Nat.le_refl _) _).trans (hb3.mono (by simp)); have AX : Hid (ABox w3 w2.heap.size B L A (.slice oa ol oc)) := ABox.below (by exact heap_alloc_last w2 _) (Nat.le_refl _) hb3; have HV := hide hv; have HB0t := hide ((unhide HB0').below (Nat.le_refl _) hK3); have HB2t := hide ((unhide HB2').below (Nat.le_refl _) hK3); have HE := hide ((unhide HC).trans (hK3.mono (by omega))); have HOt := hide ((unhide HO).below (Nat.le_refl _) hK3); clear hb3 hK3 x0 x1 x2 x3 x4 x5 x6 q0 q1 q2 q3 q4 q5 q6 HB0' HB2'; obtain ⟨x0, x1, x2, x3, x4, x5, x6⟩ := (unhide HB0t).all; obtain ⟨q0, q1, q2, q3, q4, q5, q6⟩ := (unhide HB2t).all; obtain ⟨z0, z1, z2, z3⟩ := (unhide AX).cells; have zl := (unhide AX).lt; obtain ⟨g, lb, rfl, eg, _⟩ := hv) | (go_at_call 52; have hG4 := ((unhide HG).below (unhide HE)).gl.alloc (.cells #[.func (.func g) #[] lb] 107); have hc9 := cell_of_row _ _ 0 _ _ (0, 0) (heap_alloc_last w3 (.cells #[.func (.func g) #[] lb] 107)); refine (reckoned_any ga gb 102 _ (enters_of Tryz.func102 (by kernel_rfl) rfl) (foldAt op dt L A) n _ _ _ others _ ((unhide HOt).alloc _).row (unhide HS).1 (unhide HS).2 hG4 (fun k _ => foldR_codeIn _ _) (unhide HELL _ _ _ _ _ _ _ _ ((unhide HV).below ((Below.refl _ _).alloc (Nat.le_refl _) _)) hc9 ((unhide AX).alloc _) ((unhide HB0t).alloc _) (((unhide H2).below (Nat.le_refl _) (unhide HE)).alloc _))).mono ?_; rintro e w5 ⟨hr, hb5⟩; obtain ⟨hne, _⟩ | ⟨_, he⟩ := hr; exact absurd hne (by rw [← unhide HFC]; exact unhide HC0); rw [← unhide HFC] at he; subst he; have hKD : Below w3.heap.size w3 w5 := ((Below.refl _ _).alloc (Nat.le_refl _) _).trans (hb5.mono (by simp)); have HKD := hide hKD; obtain ⟨r0, r1, r2, r3, r4, r5, r6⟩ := ((unhide HB2t).below (Nat.le_refl _) hKD).all; clear hb5 hKD))
  refine bodyPost_ret (v := .tuple #[.agg #[.bool false, .slice none 0 0, .slice none 0 0], .int .i64 ccc]) (by simp [results, Tryz.results34, go_sem, r0, r1, r2]) rfl ?_
  have hga : gatherAns false others (foldAt op dt L A) n = noAns ccc := by unfold gatherAns; rw [← unhide HFC, if_neg (unhide HC0)]
  rw [hga]
  exact gives_none (((((unhide HE).trans ((unhide HKD).mono (by omega))).setCell (by simp) _).setCell (by simp) _).setCell (by simp) _)

end Go.Proofs.YtkgcmpmgaghdhaaGreatDoor
