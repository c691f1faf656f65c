import Derived.Test.YtkgcmpmgaghdhaaGreatDoorImplScanW
namespace Go.Proofs.YtkgcmpmgaghdhaaGreatDoor
open Go.RowKit Go.Shelf

theorem scan_in {k A L n2 i : Nat} (hk : k < n2) (hi : i < k / A % L + 1) : k - k / A % L * A + i * A < n2 := by
  have h1 : k / A % L * A ≤ k := Nat.le_trans (Nat.mul_le_mul_right A (Nat.mod_le _ _)) (Nat.div_mul_le_self k A)
  have h2 : i * A ≤ k / A % L * A := Nat.mul_le_mul_right A (by omega)
  omega

set_option maxRecDepth 20000 in
set_option maxHeartbeats 4000000 in
theorem implScan_good0 (op : Int) (c fl : Bool) (a1 a2 : Addr) (n1 n2 c1 c2 : Nat) (sh dt : List Int) (w : World) (h1 : Row w (some a1) n1 sh) (h2 : Row w (some a2) n2 dt) (ga gb : Addr) (hG : GlF w ga gb) (hop : opIn op = true) (hok : arrOk c sh dt = true) (B L A : Nat) (others : List Int) (hax : ∀ W, Below w.heap.size w W → Calls Tryz.prog 94 #[.slice (some a1) n1 c1, .bool fl] W (AxisOk W B L A others)) (hc : c = false) (hL : 1 < L) (hLb : L ≤ 10000) (hAb : A ≤ 10000) (hprod : B * L * A = n2) (hfc : firstCode (scanAt op dt L A) n2 = 0) :
    Calls Tryz.prog 37 #[.int .i64 op, .agg #[.bool c, .slice (some a1) n1 c1, .slice (some a2) n2 c2], .bool fl] w (GivesOwn w (gatherAns false sh (scanAt op dt L A) n2)) := by
  have HR := hide hok
  have HOP := hide hop
  have hs2 := h2.small
  have H1 := hide h1
  have H2 := hide h2
  clear h1 h2 hok hop
  have HAX := hide hax
  have HG := hide hG
  have ql : ¬ ((L : Int) ≤ 1) := by omega
  have HS : Hid (shapeB sh = true ∧ countOf sh = (n2 : Int)) := by have := arr_parts (unhide HR); rw [(unhide H2).len] at this; exact this
  have hn16 : n2 ≤ 100000000 := by
    have := (prodAll_bd sh (unhide HS).1 sh.length).2
    rw [List.take_length, prodAll_count sh (unhide HS).1, (unhide HS).2] at this
    omega
  have HXB : Hid (∀ k, k < n2 → -1000000000000000 ≤ dt.getD k 0 ∧ dt.getD k 0 ≤ 1000000000000000) := fun k hk => dataOk_bd (unhide HR) (by rw [(unhide H2).len]; exact hk)
  have HFC := hide hfc
  have HEL : ∀ (p9 p8 : Nat) (v v1 : Value) (oa : Option Addr) (ol oc : Nat) (W : World), FoldIs ga gb op v W → W.cell? ⟨p9, 0, none⟩ = some v → ABox W p8 B L A (.slice oa ol oc) → Box W w.heap.size c v1 (.slice (some a2) n2 c2) → Row W (some a2) n2 dt → ElemOk ga gb 109 #[.pointer (some ⟨p9, 0, none⟩), .pointer (some ⟨p8, 0, none⟩), .pointer (some ⟨w.heap.size, 0, none⟩)] (scanAt op dt L A) n2 W := by
    intro p9 p8 v v1 oa ol oc W hv hc hX hB h2 k hk W' hW
    have hA0 : 0 < A := by
      rcases Nat.eq_zero_or_pos A with h | h
      · subst h; simp at hprod; omega
      · exact h
    exact scanClo op ga gb a2 v v1 _ p9 p8 w.heap.size B L A n2 c2 k c dt W' (hv.below hW) ((hW.cell (p := ⟨p9, 0, none⟩) (World.block_lt_of_cell? _ _ hc)).trans hc) (hX.below (Nat.le_refl _) hW) ⟨oa, ol, oc, rfl⟩ (hB.below (Nat.le_refl _) hW) (h2.below (Nat.le_refl _) hW) (by omega) hA0 (by omega) (by omega) (by omega) (fun i hi => scan_in hk hi) (unhide HXB)
  have HELL := hide HEL
  clear hax hL hG hfc HEL hprod
  subst hc
  go_enter Tryz.func37, Tryz.ntmps37
  go_wp2_with (first | (go_at_call 48; refine (isScalarFn_any op _ _ HOP).mono ?_; rintro e w0 ⟨rfl, rfl⟩) | (go_at_call 43; refine (implArrayOk_eq _ _ _ _ _ _ _ sh dt _ (((unhide H1).alloc _).alloc _) (((unhide H2).alloc _).alloc _) _ HR).mono ?_; rintro e w1 ⟨rfl, hb1⟩; obtain ⟨B0, B2, hB1⟩ := boxes2 hb1; have HB0 := hide B0; have HB2 := hide B2; have HB := hide hB1; obtain ⟨x0, x1, x2, x3, x4, x5, x6⟩ := B0.all; obtain ⟨q0, q1, q2, q3, q4, q5, q6⟩ := B2.all; clear hb1 hB1 B0 B2) | (go_at_call 94; refine (unhide HAX _ (unhide HB)).mono ?_; rintro e w2 ⟨oa, ol, oc, rfl, hO, hb2⟩; have hs12 := hb2.size; have hw1b := q6; have HO := hide (hO.mono (B' := w.heap.size + 2) (by omega)); have HB0' := hide ((unhide HB0).below (Nat.le_refl _) hb2); have HB2' := hide ((unhide HB2).below (Nat.le_refl _) hb2); have HC := hide ((unhide HB).trans (hb2.mono (by omega))); clear hb2 hO x0 x1 x2 x3 x4 x5 x6 q0 q1 q2 q3 q4 q5 q6 HB0 HB2 HB; obtain ⟨x0, x1, x2, x3, x4, x5, x6⟩ := (unhide HB0').all; obtain ⟨q0, q1, q2, q3, q4, q5, q6⟩ := (unhide HB2').all) | (go_at_call 95; refine (foldingBy_any op ga gb _ ((unhide HG).below (unhide HC) |>.alloc _) (unhide HOP)).mono ?_; rintro e w3 ⟨v, rfl, hv, hb3⟩; have hs23 : w2.heap.size + 1 ≤ w3.heap.size := (by have := hb3.size; simpa using this); have hK3 : Below w2.heap.size w2 w3 := ((Below.refl _ _).alloc (Nat.le_refl _) _).trans (hb3.mono (by simp)); have AX : Hid (ABox w3 w2.heap.size B L A (.slice oa ol oc)) := ABox.below (by exact heap_alloc_last w2 _) (Nat.le_refl _) hb3; have HV := hide hv; have HB0t := hide ((unhide HB0').below (Nat.le_refl _) hK3); have HB2t := hide ((unhide HB2').below (Nat.le_refl _) hK3); have HE := hide ((unhide HC).trans (hK3.mono (by omega))); have HOt := hide ((unhide HO).below (Nat.le_refl _) hK3); clear hb3 hK3 x0 x1 x2 x3 x4 x5 x6 q0 q1 q2 q3 q4 q5 q6 HB0' HB2'; obtain ⟨x0, x1, x2, x3, x4, x5, x6⟩ := (unhide HB0t).all; obtain ⟨q0, q1, q2, q3, q4, q5, q6⟩ := (unhide HB2t).all; obtain ⟨z0, z1, z2, z3⟩ := (unhide AX).cells; have zl := (unhide AX).lt; obtain ⟨g, lb, rfl, eg, _⟩ := hv) | (go_at_call 65; have hW4 : Below w.heap.size w (w3.alloc (.cells #[.func (.func g) #[] lb] 107)) := (unhide HE).alloc (by omega) _; refine (Clone_any a1 n1 c1 sh _ ((unhide H1).below (Nat.le_refl _) hW4)).mono ?_; rintro e w4 ⟨ash, csh, rfl, hcsh, hOS, hb4⟩; have hs34 : w3.heap.size + 1 ≤ w4.heap.size := (by have := hb4.size; simpa using this); have hK4 : Below w3.heap.size w3 w4 := ((Below.refl _ _).alloc (Nat.le_refl _) _).trans (hb4.mono (by simp)); have hc9 : w4.cell? ⟨w3.heap.size, 0, none⟩ = some (.func (.func g) #[] lb) := (hb4.cell (p := ⟨w3.heap.size, 0, none⟩) (by simp)).trans (cell_of_row _ _ 0 _ _ (0, 0) (heap_alloc_last w3 _)); have HC9 := hide hc9; have HOS : Hid (Own w4 (w3.heap.size + 1) ash n1 sh) := hOS.mono (by simp); have AX4 := hide ((unhide AX).below (Nat.le_refl _) hK4); have HV4 := hide ((unhide HV).below hK4); have HB04 := hide ((unhide HB0t).below (Nat.le_refl _) hK4); have HB24 := hide ((unhide HB2t).below (Nat.le_refl _) hK4); have HE4 := hide ((unhide HE).trans (hK4.mono (by omega))); clear hb4 hOS hK4 hc9 hW4 x0 x1 x2 x3 x4 x5 x6 q0 q1 q2 q3 q4 q5 z0 z1 z2 z3; obtain ⟨x0, x1, x2, x3, x4, x5, x6⟩ := (unhide HB04).all; obtain ⟨q0, q1, q2, q3, q4, q5, q7⟩ := (unhide HB24).all) | (go_at_call 52; refine (reckoned_any ga gb 109 _ (enters_of Tryz.func109 (by kernel_rfl) rfl) (scanAt op dt L A) n2 _ _ _ sh _ (unhide HOS).row (unhide HS).1 (unhide HS).2 ((unhide HG).below (unhide HE4)).gl (fun k _ => foldR_codeIn _ _) (unhide HELL _ _ _ _ _ _ _ _ (unhide HV4) (unhide HC9) (unhide AX4) (unhide HB04) ((unhide H2).below (Nat.le_refl _) (unhide HE4)))).mono ?_; rintro e w5 ⟨hr, hb5⟩; obtain ⟨_, p, hpl, rfl, hblk⟩ | ⟨hne, _⟩ := hr; rotate_left; exact absurd (unhide HFC) hne; have HBK := hide hblk; clear hblk; have HKD := hide hb5; obtain ⟨r0, r1, r2, r3, r4, r5, r6⟩ := ((unhide HB24).below (Nat.le_refl _) hb5).all; clear hb5))
  refine bodyPost_ret (v := .tuple #[.agg #[.bool false, .slice ash n1 csh, .slice (some ⟨p, 0, none⟩) n2 n2], .int .i64 0]) (by simp [results, Tryz.results37, go_sem, r0, r1, r2]) rfl ?_
  have hO := (unhide HOS).below (Nat.le_refl _) (unhide HKD)
  have hk : ∀ k, At ash n1 k → k ≠ w.heap.size + 1 := fun k hk => by have := (unhide HOS).low hk; omega
  have hD : Own w5 w.heap.size (some ⟨p, 0, none⟩) n2 (vals (scanAt op dt L A) n2) := (unhide HBK).own (vals_len _ _) (by omega) (by omega)
  have hk2 : ∀ k, At (some ⟨p, 0, none⟩) n2 k → k ≠ w.heap.size + 1 := fun k hk => by have := at_eq hk; omega
  rw [gather_good (unhide HFC)]
  refine ⟨ash, n1, csh, some ⟨p, 0, none⟩, n2, n2, rfl, (((hO.mono (by omega)).other hk _).other hk _).other hk _, ((hD.other hk2 _).other hk2 _).other hk2 _, fun k h1 h2 => ?_, ((((unhide HE4).trans ((unhide HKD).mono (by omega))).setCell (by simp) _).setCell (by simp) _).setCell (by simp) _⟩
  have := (unhide HOS).row.hi h1
  have := at_eq h2
  omega

set_option maxRecDepth 20000 in
set_option maxHeartbeats 4000000 in
theorem implScan_good1 (op : Int) (c fl : Bool) (a1 a2 : Addr) (n1 n2 c1 c2 : Nat) (sh dt : List Int) (w : World) (h1 : Row w (some a1) n1 sh) (h2 : Row w (some a2) n2 dt) (ga gb : Addr) (hG : GlF w ga gb) (hop : opIn op = true) (hok : arrOk c sh dt = true) (B L A : Nat) (others : List Int) (hax : ∀ W, Below w.heap.size w W → Calls Tryz.prog 94 #[.slice (some a1) n1 c1, .bool fl] W (AxisOk W B L A others)) (hc : c = false) (hL : 1 < L) (hLb : L ≤ 10000) (hAb : A ≤ 10000) (hprod : B * L * A = n2) (ccc : Int) (hfc : ccc = firstCode (scanAt op dt L A) n2) (hc0 : ccc ≠ 0) :
    Calls Tryz.prog 37 #[.int .i64 op, .agg #[.bool c, .slice (some a1) n1 c1, .slice (some a2) n2 c2], .bool fl] w (GivesOwn w (gatherAns false sh (scanAt op dt L A) n2)) := by
  have HR := hide hok
  have HOP := hide hop
  have hs2 := h2.small
  have H1 := hide h1
  have H2 := hide h2
  clear h1 h2 hok hop
  have HAX := hide hax
  have HG := hide hG
  have ql : ¬ ((L : Int) ≤ 1) := by omega
  have HS : Hid (shapeB sh = true ∧ countOf sh = (n2 : Int)) := by have := arr_parts (unhide HR); rw [(unhide H2).len] at this; exact this
  have hn16 : n2 ≤ 100000000 := by
    have := (prodAll_bd sh (unhide HS).1 sh.length).2
    rw [List.take_length, prodAll_count sh (unhide HS).1, (unhide HS).2] at this
    omega
  have HXB : Hid (∀ k, k < n2 → -1000000000000000 ≤ dt.getD k 0 ∧ dt.getD k 0 ≤ 1000000000000000) := fun k hk => dataOk_bd (unhide HR) (by rw [(unhide H2).len]; exact hk)
  have HFC := hide hfc
  have HC0 := hide hc0
  have HEL : ∀ (p9 p8 : Nat) (v v1 : Value) (oa : Option Addr) (ol oc : Nat) (W : World), FoldIs ga gb op v W → W.cell? ⟨p9, 0, none⟩ = some v → ABox W p8 B L A (.slice oa ol oc) → Box W w.heap.size c v1 (.slice (some a2) n2 c2) → Row W (some a2) n2 dt → ElemOk ga gb 109 #[.pointer (some ⟨p9, 0, none⟩), .pointer (some ⟨p8, 0, none⟩), .pointer (some ⟨w.heap.size, 0, none⟩)] (scanAt op dt L A) n2 W := by
    intro p9 p8 v v1 oa ol oc W hv hc hX hB h2 k hk W' hW
    have hA0 : 0 < A := by
      rcases Nat.eq_zero_or_pos A with h | h
      · subst h; simp at hprod; omega
      · exact h
    exact scanClo op ga gb a2 v v1 _ p9 p8 w.heap.size B L A n2 c2 k c dt W' (hv.below hW) ((hW.cell (p := ⟨p9, 0, none⟩) (World.block_lt_of_cell? _ _ hc)).trans hc) (hX.below (Nat.le_refl _) hW) ⟨oa, ol, oc, rfl⟩ (hB.below (Nat.le_refl _) hW) (h2.below (Nat.le_refl _) hW) (by omega) hA0 (by omega) (by omega) (by omega) (fun i hi => scan_in hk hi) (unhide HXB)
  have HELL := hide HEL
  clear hax hL hG hfc HEL hprod hc0
  subst hc
  go_enter Tryz.func37, Tryz.ntmps37
  go_wp2_with (first | (go_at_call 48; refine (isScalarFn_any op _ _ HOP).mono ?_; rintro e w0 ⟨rfl, rfl⟩) | (go_at_call 43; refine (implArrayOk_eq _ _ _ _ _ _ _ sh dt _ (((unhide H1).alloc _).alloc _) (((unhide H2).alloc _).alloc _) _ HR).mono ?_; rintro e w1 ⟨rfl, hb1⟩; obtain ⟨B0, B2, hB1⟩ := boxes2 hb1; have HB0 := hide B0; have HB2 := hide B2; have HB := hide hB1; obtain ⟨x0, x1, x2, x3, x4, x5, x6⟩ := B0.all; obtain ⟨q0, q1, q2, q3, q4, q5, q6⟩ := B2.all; clear hb1 hB1 B0 B2) | (go_at_call 94; refine (unhide HAX _ (unhide HB)).mono ?_; rintro e w2 ⟨oa, ol, oc, rfl, hO, hb2⟩; have hs12 := hb2.size; have hw1b := q6; have HO := hide (hO.mono (B' := w.heap.size + 2) (by omega)); have HB0' := hide ((unhide HB0).below (Nat.le_refl _) hb2); have HB2' := hide ((unhide HB2).below (Nat.le_refl _) hb2); have HC := hide ((unhide HB).trans (hb2.mono (by omega))); clear hb2 hO x0 x1 x2 x3 x4 x5 x6 q0 q1 q2 q3 q4 q5 q6 HB0 HB2 HB; obtain ⟨x0, x1, x2, x3, x4, x5, x6⟩ := (unhide HB0').all; obtain ⟨q0, q1, q2, q3, q4, q5, q6⟩ := (unhide HB2').all) | (go_at_call 95; refine (foldingBy_any op ga gb _ ((unhide HG).below (unhide HC) |>.alloc _) (unhide HOP)).mono ?_; rintro e w3 ⟨v, rfl, hv, hb3⟩; have hs23 : w2.heap.size + 1 ≤ w3.heap.size := (by have := hb3.size; simpa using this); have hK3 : Below w2.heap.size w2 w3 := ((Below.refl _ _).alloc (Nat.le_refl _) _).trans (hb3.mono (by simp)); have AX : Hid (ABox w3 w2.heap.size B L A (.slice oa ol oc)) := ABox.below (by exact heap_alloc_last w2 _) (Nat.le_refl _) hb3; have HV := hide hv; have HB0t := hide ((unhide HB0').below (Nat.le_refl _) hK3); have HB2t := hide ((unhide HB2').below (Nat.le_refl _) hK3); have HE := hide ((unhide HC).trans (hK3.mono (by omega))); have HOt := hide ((unhide HO).below (Nat.le_refl _) hK3); clear hb3 hK3 x0 x1 x2 x3 x4 x5 x6 q0 q1 q2 q3 q4 q5 q6 HB0' HB2'; obtain ⟨x0, x1, x2, x3, x4, x5, x6⟩ := (unhide HB0t).all; obtain ⟨q0, q1, q2, q3, q4, q5, q6⟩ := (unhide HB2t).all; obtain ⟨z0, z1, z2, z3⟩ := (unhide AX).cells; have zl := (unhide AX).lt; obtain ⟨g, lb, rfl, eg, _⟩ := hv) | (go_at_call 65; have hW4 : Below w.heap.size w (w3.alloc (.cells #[.func (.func g) #[] lb] 107)) := (unhide HE).alloc (by omega) _; refine (Clone_any a1 n1 c1 sh _ ((unhide H1).below (Nat.le_refl _) hW4)).mono ?_; rintro e w4 ⟨ash, csh, rfl, hcsh, hOS, hb4⟩; have hs34 : w3.heap.size + 1 ≤ w4.heap.size := (by have := hb4.size; simpa using this); have hK4 : Below w3.heap.size w3 w4 := ((Below.refl _ _).alloc (Nat.le_refl _) _).trans (hb4.mono (by simp)); have hc9 : w4.cell? ⟨w3.heap.size, 0, none⟩ = some (.func (.func g) #[] lb) := (hb4.cell (p := ⟨w3.heap.size, 0, none⟩) (by simp)).trans (cell_of_row _ _ 0 _ _ (0, 0) (heap_alloc_last w3 _)); have HC9 := hide hc9; have HOS : Hid (Own w4 (w3.heap.size + 1) ash n1 sh) := hOS.mono (by simp); have AX4 := hide ((unhide AX).below (Nat.le_refl _) hK4); have HV4 := hide ((unhide HV).below hK4); have HB04 := hide ((unhide HB0t).below (Nat.le_refl _) hK4); have HB24 := hide ((unhide HB2t).below (Nat.le_refl _) hK4); have HE4 := hide ((unhide HE).trans (hK4.mono (by omega))); clear hb4 hOS hK4 hc9 hW4 x0 x1 x2 x3 x4 x5 x6 q0 q1 q2 q3 q4 q5 z0 z1 z2 z3; obtain ⟨x0, x1, x2, x3, x4, x5, x6⟩ := (unhide HB04).all; obtain ⟨q0, q1, q2, q3, q4, q5, q7⟩ := (unhide HB24).all) | (go_at_call 52; refine (reckoned_any ga gb 109 _ (enters_of Tryz.func109 (by kernel_rfl) rfl) (scanAt op dt L A) n2 _ _ _ sh _ (unhide HOS).row (unhide HS).1 (unhide HS).2 ((unhide HG).below (unhide HE4)).gl (fun k _ => foldR_codeIn _ _) (unhide HELL _ _ _ _ _ _ _ _ (unhide HV4) (unhide HC9) (unhide AX4) (unhide HB04) ((unhide H2).below (Nat.le_refl _) (unhide HE4)))).mono ?_; rintro e w5 ⟨hr, hb5⟩; obtain ⟨hne, _⟩ | ⟨_, he⟩ := hr; exact absurd hne (by rw [← unhide HFC]; exact unhide HC0); rw [← unhide HFC] at he; subst he; have HKD := hide hb5; obtain ⟨r0, r1, r2, r3, r4, r5, r6⟩ := ((unhide HB24).below (Nat.le_refl _) hb5).all; clear hb5))
  refine bodyPost_ret (v := .tuple #[.agg #[.bool false, .slice none 0 0, .slice none 0 0], .int .i64 ccc]) (by simp [results, Tryz.results37, go_sem, r0, r1, r2]) rfl ?_
  have hga : gatherAns false sh (scanAt op dt L A) n2 = noAns ccc := by unfold gatherAns; rw [← unhide HFC, if_neg (unhide HC0)]
  rw [hga]
  exact gives_none (((((unhide HE4).trans ((unhide HKD).mono (by omega))).setCell (by simp) _).setCell (by simp) _).setCell (by simp) _)

end Go.Proofs.YtkgcmpmgaghdhaaGreatDoor
