import Derived.Test.YtpondlabofeohaaDoorImplOuter
namespace Go.Proofs.YtpondlabofeohaaDoor
open Go.RowKit Go.Shelf

set_option maxRecDepth 20000 in
set_option maxHeartbeats 4000000 in
theorem implOuter_good0 (op : Int) (c d : Bool) (a1 a2 b1 b2 : Addr) (n1 n2 m1 m2 c1 c2 d1 d2 : Nat) (sh dt sh' dt' : List Int) (w : World) (h1 : Row w (some a1) n1 sh) (h2 : Row w (some a2) n2 dt) (k1 : Row w (some b1) m1 sh') (k2 : Row w (some b2) m2 dt') (ga gb : Addr) (hG : Gl w ga gb) (hop : opIn op = true) (hok : arrOk c sh dt = true) (hok' : arrOk d sh' dt' = true) (hsb : shapeB (sh ++ sh') = true) (hno : ¬ ((c || d) = true ∧ opEq op = false)) (hfc : firstCode (outf op c d dt dt' m2) (n2 * m2) = 0) :
    Calls Tryd.prog 18 #[.int .i64 op, .agg #[.bool c, .slice (some a1) n1 c1, .slice (some a2) n2 c2], .agg #[.bool d, .slice (some b1) m1 d1, .slice (some b2) m2 d2]] w (GivesOwn w (gatherAns false (sh ++ sh') (outf op c d dt dt' m2) (n2 * m2))) := by
  have hn1 := (out_count h2.len k2.len hok hok' hsb)
  have hn16 : n2 * m2 ≤ 17592186044416 := by
    have := (prodAll_bd _ hsb (sh ++ sh').length).2
    rw [List.take_length, prodAll_count _ hsb, hn1] at this
    omega
  have hz1 : n1 ≤ 1000000 := by have := (outer_size hok hok').2.2.1; rw [h1.len] at this; omega
  have hz3 : m1 ≤ 1000000 := by have := (outer_size hok hok').2.2.2; rw [k1.len] at this; omega
  have HR := hide hok
  have HR' := hide hok'
  have HOP := hide hop
  have hs2 := h2.small
  have hs4 := k2.small
  have H1 := hide h1
  have H2 := hide h2
  have K1 := hide k1
  have K2 := hide k2
  clear h1 h2 k1 k2 hok hok' hop
  have HSB := hide hsb
  have HCN := hide hn1
  have HNO := hide hno
  have HG := hide hG
  obtain ⟨n, hn⟩ : ∃ n, n = n2 * m2 := ⟨_, rfl⟩
  rw [← hn] at hfc HCN hn16 ⊢
  have HN := hide hn
  have HXB : Hid (∀ k, k < n2 → -1000000000000000 ≤ dt.getD k 0 ∧ dt.getD k 0 ≤ 1000000000000000) := fun k hk => dataOk_bd (unhide HR) (by rw [(unhide H2).len]; exact hk)
  have HYB : Hid (∀ k, k < m2 → -1000000000000000 ≤ dt'.getD k 0 ∧ dt'.getD k 0 ≤ 1000000000000000) := fun k hk => dataOk_bd (unhide HR') (by rw [(unhide K2).len]; exact hk)
  have HFC := hide hfc
  have e1 := eql_op_nil
  clear hsb hno hG hn1 hfc hn
  have HEL : ∀ (p9 p10 : Nat) (v v1 u1 : Value) (W : World), OpIs ga gb (elemFn op c d) v W → W.cell? ⟨p9, 0, none⟩ = some v → W.cell? ⟨p10, 0, none⟩ = some (.int .i64 (m2 : Nat)) → Box W w.heap.size c v1 (.slice (some a2) n2 c2) → Box W (w.heap.size + 1) d u1 (.slice (some b2) m2 d2) → Row W (some a2) n2 dt → Row W (some b2) m2 dt' → ElemOk ga gb 50 #[.pointer (some ⟨p9, 0, none⟩), .pointer (some ⟨w.heap.size, 0, none⟩), .pointer (some ⟨p10, 0, none⟩), .pointer (some ⟨w.heap.size + 1, 0, none⟩)] (outf op c d dt dt' m2) n W := by
    intro p9 p10 v v1 u1 W hv hc hm hA hB hx hy k hk W' hW
    exact outClo op c d ga gb a2 b2 v v1 u1 p9 p10 w.heap.size (w.heap.size + 1) n2 c2 m2 d2 k dt dt' W' (hv.below hW) ((hW.cell (p := ⟨p9, 0, none⟩) (World.block_lt_of_cell? _ _ hc)).trans hc) ((hW.cell (p := ⟨p10, 0, none⟩) (World.block_lt_of_cell? _ _ hm)).trans hm) (hA.below (Nat.le_refl _) hW) (hB.below (Nat.le_refl _) hW) (hx.below (Nat.le_refl _) hW) (hy.below (Nat.le_refl _) hW) (by rw [← unhide HN]; exact hk) (by omega) (unhide HXB) (unhide HYB)
  have HELL := hide HEL
  clear HEL
  go_enter Tryd.func18, Tryd.ntmps18
  go_wp2_with (first | (go_at_call 41; refine (isScalarFn_any op _ _ HOP).mono ?_; rintro e w0 ⟨rfl, rfl⟩) | (go_at_call_of 30 (Value.slice (some a1) n1 c1); refine (implArrayOk_eq _ _ _ _ _ _ _ sh dt _ ((((unhide H1).alloc _).alloc _).alloc _) ((((unhide H2).alloc _).alloc _).alloc _) _ HR).mono ?_; rintro e w1 ⟨rfl, hb1⟩; obtain ⟨B0, B1, B2, hB1⟩ := boxes3 hb1; have HB0 := hide B0; have HB1 := hide B1; have HB2 := hide B2; have HB := hide hB1; obtain ⟨x0, x1, x2, x3, x4, x5, x6⟩ := B0.all; obtain ⟨y0, y1, y2, y3, y4, y5, y6⟩ := B1.all; obtain ⟨q0, q1, q2, q3, q4, q5, q6⟩ := B2.all; clear hb1 hB1 B0 B1 B2) | (go_at_call_of 30 (Value.slice (some b1) m1 d1); refine (implArrayOk_eq _ _ _ _ _ _ _ sh' dt' _ ((unhide K1).below (Nat.le_refl _) (unhide HB)) ((unhide K2).below (Nat.le_refl _) (unhide HB)) _ HR').mono ?_; rintro e w2 ⟨rfl, hb2⟩; have HB0' := hide ((unhide HB0).below (Nat.le_refl _) hb2); have HB1' := hide ((unhide HB1).below (Nat.le_refl _) hb2); have HB2' := hide ((unhide HB2).below (Nat.le_refl _) hb2); have HC := hide ((unhide HB).trans (hb2.mono (by omega))); clear hb2 x0 x1 x2 x3 x4 x5 x6 y0 y1 y2 y3 y4 y5 y6 q0 q1 q2 q3 q4 q5 q6 HB0 HB1 HB2 HB; obtain ⟨x0, x1, x2, x3, x4, x5, x6⟩ := (unhide HB0').all; obtain ⟨y0, y1, y2, y3, y4, y5, y6⟩ := (unhide HB1').all; obtain ⟨q0, q1, q2, q3, q4, q5, q6⟩ := (unhide HB2').all) | (go_at_call 48; refine (Concat2_any _ a1 b1 n1 m1 c1 d1 sh sh' _ (by simp) (by simp) (((unhide H1).below (Nat.le_refl _) (unhide HC)).alloc _) (((unhide K1).below (Nat.le_refl _) (unhide HC)).alloc _) hz1 hz3).mono ?_; rintro e w3 ⟨ash, csh, rfl, hO, hb3⟩; have hw2b := q6; have hs23 : w2.heap.size + 1 ≤ w3.heap.size := (by have := hb3.size; simpa using this); have HO : Hid (Own w3 (w.heap.size + 3) ash (n1 + m1) (sh ++ sh')) := hO.mono (by simp; omega); have HB0'' := hide (((unhide HB0').alloc _).below (Nat.le_refl _) hb3); have HB1'' := hide (((unhide HB1').alloc _).below (Nat.le_refl _) hb3); have HB2'' := hide (((unhide HB2').alloc _).below (Nat.le_refl _) hb3); have HD := hide (((unhide HC).alloc (by omega) _).trans (hb3.mono (by simp; omega))); clear hO hb3 x0 x1 x2 x3 x4 x5 x6 y0 y1 y2 y3 y4 y5 y6 q0 q1 q2 q3 q4 q5 q6 HB0' HB1' HB2' HC; obtain ⟨x0, x1, x2, x3, x4, x5, x6⟩ := (unhide HB0'').all; obtain ⟨y0, y1, y2, y3, y4, y5, y6⟩ := (unhide HB1'').all; obtain ⟨q0, q1, q2, q3, q4, q5, q6⟩ := (unhide HB2'').all) | (go_at_call 49; refine (shapeOk_eq _ _ _ (sh ++ sh') _ (unhide HO).row _ HSB).mono ?_; rintro e w3 ⟨rfl, rfl⟩) | (go_at_call 43; refine (operationOn_any op c d a1 a2 b1 b2 n1 n2 m1 m2 c1 c2 d1 d2 ga gb _ ((unhide HG).below (unhide HD)) (unhide HOP)).mono ?_; rintro e w4 ⟨v, rfl, hv, hb4⟩; obtain ⟨hy1, hy2, _⟩ | ⟨_, hv⟩ := hv; exact absurd ⟨hy1, hy2⟩ (unhide HNO); have HV := hide hv; obtain ⟨g, lb, rfl, eg, _⟩ := hv; have hs34 := hb4.size; have HB0t := hide ((unhide HB0'').below (Nat.le_refl _) hb4); have HB1t := hide ((unhide HB1'').below (Nat.le_refl _) hb4); have HB2t := hide ((unhide HB2'').below (Nat.le_refl _) hb4); have HE := hide ((unhide HD).trans (hb4.mono (by omega))); have HOt := hide ((unhide HO).below (Nat.le_refl _) hb4); clear hb4 x0 x1 x2 x3 x4 x5 x6 y0 y1 y2 y3 y4 y5 y6 q0 q1 q2 q3 q4 q5 q6 HB0'' HB1'' HB2'' HD; obtain ⟨x0, x1, x2, x3, x4, x5, x6⟩ := (unhide HB0t).all; obtain ⟨y0, y1, y2, y3, y4, y5, y6⟩ := (unhide HB1t).all; obtain ⟨q0, q1, q2, q3, q4, q5, q6⟩ := (unhide HB2t).all) | (go_at_call 31; have hG4 := (((unhide HG).below (unhide HE)).alloc (.cells #[.func (.func g) #[] lb] 57)).alloc (.cells #[.int .i64 (m2 : Nat)] 3); have hc9 := (((Below.refl (w4.heap.size + 1) (w4.alloc (.cells #[.func (.func g) #[] lb] 57))).alloc (by simp) (.cells #[.int .i64 (m2 : Nat)] 3)).cell (p := ⟨w4.heap.size, 0, none⟩) (by simp)).trans (cell_of_row _ _ 0 _ _ (0, 0) (heap_alloc_last w4 _)); have hc10 := cell_of_row _ _ 0 _ _ (0, 0) (heap_alloc_last (w4.alloc (.cells #[.func (.func g) #[] lb] 57)) (.cells #[.int .i64 (m2 : Nat)] 3)); rw [show (w4.alloc (.cells #[.func (.func g) #[] lb] 57)).heap.size = w4.heap.size + 1 by simp] at hc10; refine (reckoned_any ga gb 50 _ eg_out (outf op c d dt dt' m2) n _ _ _ (sh ++ sh') _ (((unhide HOt).alloc _).alloc _).row (unhide HSB) (unhide HCN) hG4 (fun k _ => elemFn_code _ _ _ _ _) (unhide HELL _ _ _ _ _ _ (((unhide HV).alloc _).alloc _) hc9 hc10 (((unhide HB0t).alloc _).alloc _) (((unhide HB1t).alloc _).alloc _) ((((unhide H2).below (Nat.le_refl _) (unhide HE)).alloc _).alloc _) ((((unhide K2).below (Nat.le_refl _) (unhide HE)).alloc _).alloc _))).mono ?_; rintro e w5 ⟨hr, hb5⟩; obtain ⟨_, p, hpl, rfl, hblk⟩ | ⟨hne, _⟩ := hr; rotate_left; exact absurd (unhide HFC) hne; have HBK := hide hblk; have hpl' : w4.heap.size + 2 ≤ p := (by simpa using hpl); clear hblk hpl; have hKD : Below w4.heap.size w4 w5 := (((Below.refl _ _).alloc (Nat.le_refl _) _).alloc (by simp) _).trans (hb5.mono (by simp; omega)); have HKD := hide hKD; obtain ⟨r0, r1, r2, r3, r4, r5, r6⟩ := ((unhide HB2t).below (Nat.le_refl _) hKD).all; clear hb5 hKD))
  refine bodyPost_ret (v := .tuple #[.agg #[.bool false, .slice ash (n1 + m1) csh, .slice (some ⟨p, 0, none⟩) n n], .int .i64 0]) (by simp [results, Tryd.results18, go_sem, r0, r1, r2]) rfl ?_
  have hO := (unhide HOt).below (Nat.le_refl _) (unhide HKD)
  have hk : ∀ k, At ash (n1 + m1) k → k ≠ w.heap.size + 1 + 1 := fun k hk => by have := (unhide HOt).low hk; omega
  have hD : Own w5 w.heap.size (some ⟨p, 0, none⟩) n (vals (outf op c d dt dt' m2) n) := (unhide HBK).own (vals_len _ _) hn16 (by omega)
  have hk2 : ∀ k, At (some ⟨p, 0, none⟩) n k → k ≠ w.heap.size + 1 + 1 := fun k hk => by have := at_eq hk; omega
  rw [gather_good (unhide HFC)]
  refine ⟨ash, n1 + m1, csh, some ⟨p, 0, none⟩, n, n, rfl, (((hO.mono (by omega)).other hk _).other hk _).other hk _, ((hD.other hk2 _).other hk2 _).other hk2 _, fun k h1 h2 => ?_, ((((unhide HE).trans ((unhide HKD).mono (by omega))).setCell (by simp <;> omega) _).setCell (by simp <;> omega) _).setCell (by simp <;> omega) _⟩
  have := (unhide HOt).row.hi h1
  have := at_eq h2
  omega

set_option maxRecDepth 20000 in
set_option maxHeartbeats 4000000 in
theorem implOuter_good1 (op : Int) (c d : Bool) (a1 a2 b1 b2 : Addr) (n1 n2 m1 m2 c1 c2 d1 d2 : Nat) (sh dt sh' dt' : List Int) (w : World) (h1 : Row w (some a1) n1 sh) (h2 : Row w (some a2) n2 dt) (k1 : Row w (some b1) m1 sh') (k2 : Row w (some b2) m2 dt') (ga gb : Addr) (hG : Gl w ga gb) (hop : opIn op = true) (hok : arrOk c sh dt = true) (hok' : arrOk d sh' dt' = true) (hsb : shapeB (sh ++ sh') = true) (hno : ¬ ((c || d) = true ∧ opEq op = false)) (ccc : Int) (hfc : ccc = firstCode (outf op c d dt dt' m2) (n2 * m2)) (hc0 : ccc ≠ 0) :
    Calls Tryd.prog 18 #[.int .i64 op, .agg #[.bool c, .slice (some a1) n1 c1, .slice (some a2) n2 c2], .agg #[.bool d, .slice (some b1) m1 d1, .slice (some b2) m2 d2]] w (GivesOwn w (gatherAns false (sh ++ sh') (outf op c d dt dt' m2) (n2 * m2))) := by
  have hn1 := (out_count h2.len k2.len hok hok' hsb)
  have hn16 : n2 * m2 ≤ 17592186044416 := by
    have := (prodAll_bd _ hsb (sh ++ sh').length).2
    rw [List.take_length, prodAll_count _ hsb, hn1] at this
    omega
  have hz1 : n1 ≤ 1000000 := by have := (outer_size hok hok').2.2.1; rw [h1.len] at this; omega
  have hz3 : m1 ≤ 1000000 := by have := (outer_size hok hok').2.2.2; rw [k1.len] at this; omega
  have HR := hide hok
  have HR' := hide hok'
  have HOP := hide hop
  have hs2 := h2.small
  have hs4 := k2.small
  have H1 := hide h1
  have H2 := hide h2
  have K1 := hide k1
  have K2 := hide k2
  clear h1 h2 k1 k2 hok hok' hop
  have HSB := hide hsb
  have HCN := hide hn1
  have HNO := hide hno
  have HG := hide hG
  obtain ⟨n, hn⟩ : ∃ n, n = n2 * m2 := ⟨_, rfl⟩
  rw [← hn] at hfc HCN hn16 ⊢
  have HN := hide hn
  have HXB : Hid (∀ k, k < n2 → -1000000000000000 ≤ dt.getD k 0 ∧ dt.getD k 0 ≤ 1000000000000000) := fun k hk => dataOk_bd (unhide HR) (by rw [(unhide H2).len]; exact hk)
  have HYB : Hid (∀ k, k < m2 → -1000000000000000 ≤ dt'.getD k 0 ∧ dt'.getD k 0 ≤ 1000000000000000) := fun k hk => dataOk_bd (unhide HR') (by rw [(unhide K2).len]; exact hk)
  have HFC := hide hfc
  have HC0 := hide hc0
  have e1 := eql_op_nil
  clear hsb hno hG hn1 hfc hn hc0
  have HEL : ∀ (p9 p10 : Nat) (v v1 u1 : Value) (W : World), OpIs ga gb (elemFn op c d) v W → W.cell? ⟨p9, 0, none⟩ = some v → W.cell? ⟨p10, 0, none⟩ = some (.int .i64 (m2 : Nat)) → Box W w.heap.size c v1 (.slice (some a2) n2 c2) → Box W (w.heap.size + 1) d u1 (.slice (some b2) m2 d2) → Row W (some a2) n2 dt → Row W (some b2) m2 dt' → ElemOk ga gb 50 #[.pointer (some ⟨p9, 0, none⟩), .pointer (some ⟨w.heap.size, 0, none⟩), .pointer (some ⟨p10, 0, none⟩), .pointer (some ⟨w.heap.size + 1, 0, none⟩)] (outf op c d dt dt' m2) n W := by
    intro p9 p10 v v1 u1 W hv hc hm hA hB hx hy k hk W' hW
    exact outClo op c d ga gb a2 b2 v v1 u1 p9 p10 w.heap.size (w.heap.size + 1) n2 c2 m2 d2 k dt dt' W' (hv.below hW) ((hW.cell (p := ⟨p9, 0, none⟩) (World.block_lt_of_cell? _ _ hc)).trans hc) ((hW.cell (p := ⟨p10, 0, none⟩) (World.block_lt_of_cell? _ _ hm)).trans hm) (hA.below (Nat.le_refl _) hW) (hB.below (Nat.le_refl _) hW) (hx.below (Nat.le_refl _) hW) (hy.below (Nat.le_refl _) hW) (by rw [← unhide HN]; exact hk) (by omega) (unhide HXB) (unhide HYB)
  have HELL := hide HEL
  clear HEL
  go_enter Tryd.func18, Tryd.ntmps18
  go_wp2_with (first | (go_at_call 41; refine (isScalarFn_any op _ _ HOP).mono ?_; rintro e w0 ⟨rfl, rfl⟩) | (go_at_call_of 30 (Value.slice (some a1) n1 c1); refine (implArrayOk_eq _ _ _ _ _ _ _ sh dt _ ((((unhide H1).alloc _).alloc _).alloc _) ((((unhide H2).alloc _).alloc _).alloc _) _ HR).mono ?_; rintro e w1 ⟨rfl, hb1⟩; obtain ⟨B0, B1, B2, hB1⟩ := boxes3 hb1; have HB0 := hide B0; have HB1 := hide B1; have HB2 := hide B2; have HB := hide hB1; obtain ⟨x0, x1, x2, x3, x4, x5, x6⟩ := B0.all; obtain ⟨y0, y1, y2, y3, y4, y5, y6⟩ := B1.all; obtain ⟨q0, q1, q2, q3, q4, q5, q6⟩ := B2.all; clear hb1 hB1 B0 B1 B2) | (go_at_call_of 30 (Value.slice (some b1) m1 d1); refine (implArrayOk_eq _ _ _ _ _ _ _ sh' dt' _ ((unhide K1).below (Nat.le_refl _) (unhide HB)) ((unhide K2).below (Nat.le_refl _) (unhide HB)) _ HR').mono ?_; rintro e w2 ⟨rfl, hb2⟩; have HB0' := hide ((unhide HB0).below (Nat.le_refl _) hb2); have HB1' := hide ((unhide HB1).below (Nat.le_refl _) hb2); have HB2' := hide ((unhide HB2).below (Nat.le_refl _) hb2); have HC := hide ((unhide HB).trans (hb2.mono (by omega))); clear hb2 x0 x1 x2 x3 x4 x5 x6 y0 y1 y2 y3 y4 y5 y6 q0 q1 q2 q3 q4 q5 q6 HB0 HB1 HB2 HB; obtain ⟨x0, x1, x2, x3, x4, x5, x6⟩ := (unhide HB0').all; obtain ⟨y0, y1, y2, y3, y4, y5, y6⟩ := (unhide HB1').all; obtain ⟨q0, q1, q2, q3, q4, q5, q6⟩ := (unhide HB2').all) | (go_at_call 48; refine (Concat2_any _ a1 b1 n1 m1 c1 d1 sh sh' _ (by simp) (by simp) (((unhide H1).below (Nat.le_refl _) (unhide HC)).alloc _) (((unhide K1).below (Nat.le_refl _) (unhide HC)).alloc _) hz1 hz3).mono ?_; rintro e w3 ⟨ash, csh, rfl, hO, hb3⟩; have hw2b := q6; have hs23 : w2.heap.size + 1 ≤ w3.heap.size := (by have := hb3.size; simpa using this); have HO : Hid (Own w3 (w.heap.size + 3) ash (n1 + m1) (sh ++ sh')) := hO.mono (by simp; omega); have HB0'' := hide (((unhide HB0').alloc _).below (Nat.le_refl _) hb3); have HB1'' := hide (((unhide HB1').alloc _).below (Nat.le_refl _) hb3); have HB2'' := hide (((unhide HB2').alloc _).below (Nat.le_refl _) hb3); have HD := hide (((unhide HC).alloc (by omega) _).trans (hb3.mono (by simp; omega))); clear hO hb3 x0 x1 x2 x3 x4 x5 x6 y0 y1 y2 y3 y4 y5 y6 q0 q1 q2 q3 q4 q5 q6 HB0' HB1' HB2' HC; obtain ⟨x0, x1, x2, x3, x4, x5, x6⟩ := (unhide HB0'').all; obtain ⟨y0, y1, y2, y3, y4, y5, y6⟩ := (unhide HB1'').all; obtain ⟨q0, q1, q2, q3, q4, q5, q6⟩ := (unhide HB2'').all) | (go_at_call 49; refine (shapeOk_eq _ _ _ (sh ++ sh') _ (unhide HO).row _ HSB).mono ?_; rintro e w3 ⟨rfl, rfl⟩) | (go_at_call 43; refine (operationOn_any op c d a1 a2 b1 b2 n1 n2 m1 m2 c1 c2 d1 d2 ga gb _ ((unhide HG).below (unhide HD)) (unhide HOP)).mono ?_; rintro e w4 ⟨v, rfl, hv, hb4⟩; obtain ⟨hy1, hy2, _⟩ | ⟨_, hv⟩ := hv; exact absurd ⟨hy1, hy2⟩ (unhide HNO); have HV := hide hv; obtain ⟨g, lb, rfl, eg, _⟩ := hv; have hs34 := hb4.size; have HB0t := hide ((unhide HB0'').below (Nat.le_refl _) hb4); have HB1t := hide ((unhide HB1'').below (Nat.le_refl _) hb4); have HB2t := hide ((unhide HB2'').below (Nat.le_refl _) hb4); have HE := hide ((unhide HD).trans (hb4.mono (by omega))); have HOt := hide ((unhide HO).below (Nat.le_refl _) hb4); clear hb4 x0 x1 x2 x3 x4 x5 x6 y0 y1 y2 y3 y4 y5 y6 q0 q1 q2 q3 q4 q5 q6 HB0'' HB1'' HB2'' HD; obtain ⟨x0, x1, x2, x3, x4, x5, x6⟩ := (unhide HB0t).all; obtain ⟨y0, y1, y2, y3, y4, y5, y6⟩ := (unhide HB1t).all; obtain ⟨q0, q1, q2, q3, q4, q5, q6⟩ := (unhide HB2t).all) | (go_at_call 31; have hG4 := (((unhide HG).below (unhide HE)).alloc (.cells #[.func (.func g) #[] lb] 57)).alloc (.cells #[.int .i64 (m2 : Nat)] 3); have hc9 := (((Below.refl (w4.heap.size + 1) (w4.alloc (.cells #[.func (.func g) #[] lb] 57))).alloc (by simp) (.cells #[.int .i64 (m2 : Nat)] 3)).cell (p := ⟨w4.heap.size, 0, none⟩) (by simp)).trans (cell_of_row _ _ 0 _ _ (0, 0) (heap_alloc_last w4 _)); have hc10 := cell_of_row _ _ 0 _ _ (0, 0) (heap_alloc_last (w4.alloc (.cells #[.func (.func g) #[] lb] 57)) (.cells #[.int .i64 (m2 : Nat)] 3)); rw [show (w4.alloc (.cells #[.func (.func g) #[] lb] 57)).heap.size = w4.heap.size + 1 by simp] at hc10; refine (reckoned_any ga gb 50 _ eg_out (outf op c d dt dt' m2) n _ _ _ (sh ++ sh') _ (((unhide HOt).alloc _).alloc _).row (unhide HSB) (unhide HCN) hG4 (fun k _ => elemFn_code _ _ _ _ _) (unhide HELL _ _ _ _ _ _ (((unhide HV).alloc _).alloc _) hc9 hc10 (((unhide HB0t).alloc _).alloc _) (((unhide HB1t).alloc _).alloc _) ((((unhide H2).below (Nat.le_refl _) (unhide HE)).alloc _).alloc _) ((((unhide K2).below (Nat.le_refl _) (unhide HE)).alloc _).alloc _))).mono ?_; rintro e w5 ⟨hr, hb5⟩; obtain ⟨hne, _⟩ | ⟨_, he⟩ := hr; exact absurd hne (by rw [← unhide HFC]; exact unhide HC0); rw [← unhide HFC] at he; subst he; have hKD : Below w4.heap.size w4 w5 := (((Below.refl _ _).alloc (Nat.le_refl _) _).alloc (by simp) _).trans (hb5.mono (by simp; omega)); have HKD := hide hKD; obtain ⟨r0, r1, r2, r3, r4, r5, r6⟩ := ((unhide HB2t).below (Nat.le_refl _) hKD).all; clear hb5 hKD))
  refine bodyPost_ret (v := .tuple #[.agg #[.bool false, .slice none 0 0, .slice none 0 0], .int .i64 ccc]) (by simp [results, Tryd.results18, go_sem, r0, r1, r2]) rfl ?_
  have hga : gatherAns false (sh ++ sh') (outf op c d dt dt' m2) n = noAns ccc := by unfold gatherAns; rw [← unhide HFC, if_neg (unhide HC0)]
  rw [hga]
  exact gives_none (((((unhide HE).trans ((unhide HKD).mono (by omega))).setCell (by simp <;> omega) _).setCell (by simp <;> omega) _).setCell (by simp <;> omega) _)

theorem implOuter_any (op : Int) (c d : Bool) (a1 a2 b1 b2 : Addr) (n1 n2 m1 m2 c1 c2 d1 d2 : Nat) (sh dt sh' dt' : List Int) (w : World) (h1 : Row w (some a1) n1 sh) (h2 : Row w (some a2) n2 dt) (k1 : Row w (some b1) m1 sh') (k2 : Row w (some b2) m2 dt') (ga gb : Addr) (hG : Gl w ga gb) :
    Calls Tryd.prog 18 #[.int .i64 op, .agg #[.bool c, .slice (some a1) n1 c1, .slice (some a2) n2 c2], .agg #[.bool d, .slice (some b1) m1 d1, .slice (some b2) m2 d2]] w (GivesOwn w (outer op c d sh dt sh' dt')) := by
  cases hop : opIn op with
  | false =>
    have e : outer op c d sh dt sh' dt' = noAns 3 := by unfold outer; rw [if_neg (by rw [hop]; simp)]
    rw [e]
    exact implOuter_bad1 op c d a1 a2 b1 b2 n1 n2 m1 m2 c1 c2 d1 d2 w hop
  | true =>
    have hop' := of_decide_eq_true hop
    cases hok : arrOk c sh dt with
    | false =>
      rw [outer_bad1 hok]
      exact implOuter_bad2 op c d a1 a2 b1 b2 n1 n2 m1 m2 c1 c2 d1 d2 sh dt w h1 h2 hop hok
    | true =>
      cases hok' : arrOk d sh' dt' with
      | false =>
        rw [outer_bad2 hok']
        exact implOuter_bad3 op c d a1 a2 b1 b2 n1 n2 m1 m2 c1 c2 d1 d2 sh dt sh' dt' w h1 h2 k1 k2 hop hok hok'
      | true =>
        cases hsb : shapeB (sh ++ sh') with
        | false =>
          rw [outer_big hok hok' hop' hsb]
          exact implOuter_bad4 op c d a1 a2 b1 b2 n1 n2 m1 m2 c1 c2 d1 d2 sh dt sh' dt' w h1 h2 k1 k2 hop hok hok' hsb
        | true =>
          by_cases hno : (c || d) = true ∧ opEq op = false
          · rw [outer_char hok hok' hop' hsb (by simp [hno.1, hno.2])]
            exact implOuter_bad5 op c d a1 a2 b1 b2 n1 n2 m1 m2 c1 c2 d1 d2 sh dt sh' dt' w h1 h2 k1 k2 ga gb hG hop hok hok' hsb hno
          · have hno' : ((c || d) && !opEq op) = false := by
              cases h : ((c || d) && !opEq op) with
              | false => rfl
              | true => exact absurd (by simpa using h) hno
            rw [outer_go hok hok' hop' hsb hno' n2 m2 h2.len k2.len]
            have e : (fun k => elemOf op c dt (k / m2) d dt' (k % m2)) = outf op c d dt dt' m2 := rfl
            rw [e]
            by_cases hfc : firstCode (outf op c d dt dt' m2) (n2 * m2) = 0
            · exact implOuter_good0 op c d a1 a2 b1 b2 n1 n2 m1 m2 c1 c2 d1 d2 sh dt sh' dt' w h1 h2 k1 k2 ga gb hG hop hok hok' hsb hno hfc
            · exact implOuter_good1 op c d a1 a2 b1 b2 n1 n2 m1 m2 c1 c2 d1 d2 sh dt sh' dt' w h1 h2 k1 k2 ga gb hG hop hok hok' hsb hno _ rfl hfc

end Go.Proofs.YtpondlabofeohaaDoor
