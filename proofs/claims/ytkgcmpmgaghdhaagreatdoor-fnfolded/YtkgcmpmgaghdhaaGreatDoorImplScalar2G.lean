import Derived.Test.YtkgcmpmgaghdhaaGreatDoorMFit2
import Derived.Test.YtkgcmpmgaghdhaaGreatDoorImplScalar2
namespace Go.Proofs.YtkgcmpmgaghdhaaGreatDoor
open Go.RowKit Go.Shelf

theorem extended_eq (c : Bool) (a1 a2 : Option Addr) (n1 n2 c1 c2 cnt : Nat) (hn : n2 ≤ 17592186044416) (z t : Nat) (hz : Hid (z = 0)) (ht : Hid (stepOf n2 = t)) (w : World) :
    Calls Tryz.prog 54 #[.agg #[.bool c, .slice a1 n1 c1, .slice a2 n2 c2], .int .i64 (cnt : Nat)] w fun e w' => e = .returned (.agg #[.slice a2 n2 c2, .int .i64 (z : Nat), .int .i64 (t : Nat), .int .i64 (cnt : Nat)]) ∧ Below w.heap.size w w' := by
  rw [unhide hz, ← unhide ht]
  exact extended_any c a1 a2 n1 n2 c1 c2 cnt hn w

set_option maxRecDepth 20000 in
set_option maxHeartbeats 4000000 in
theorem implScalar2_good0 (op : Int) (c d : Bool) (a1 a2 b1 b2 : Option Addr) (n1 n2 m1 m2 c1 c2 d1 d2 : Nat) (sh dt sh' dt' : List Int) (w : World) (h1 : Row w a1 n1 sh) (h2 : Row w a2 n2 dt) (k1 : Row w b1 m1 sh') (k2 : Row w b2 m2 dt') (ga gb : Addr) (hG : Gl w ga gb) (hop : opIn op = true) (hok : arrOk c sh dt = true) (hok' : arrOk d sh' dt' = true) (hj : jointCode n1 n2 m1 m2 sh sh' = 0) (hno : ¬ ((c || d) = true ∧ opEq op = false)) (n : Nat) (hn1 : shapeB (jointSh n1 n2 m1 m2 sh sh') = true) (hn2 : countOf (jointSh n1 n2 m1 m2 sh sh') = (n : Int)) (hpure : (n2 = 1 ∨ n2 = n) ∧ (m2 = 1 ∨ m2 = n)) (hfc : firstCode (s2f op c d dt dt' n2 m2) n = 0) :
    Calls Tryz.prog 13 #[.int .i64 op, .agg #[.bool c, .slice a1 n1 c1, .slice a2 n2 c2], .agg #[.bool d, .slice b1 m1 d1, .slice b2 m2 d2]] w (GivesOwn w (gatherAns false (jointSh n1 n2 m1 m2 sh sh') (s2f op c d dt dt' n2 m2) n)) := by
  have HR := hide hok
  have HR' := hide hok'
  have HOP := hide hop
  have hs1 := h1.small
  have hs2 := h2.small
  have hs3 := k1.small
  have hs4 := k2.small
  have H1 := hide h1
  have H2 := hide h2
  have K1 := hide k1
  have K2 := hide k2
  clear h1 h2 k1 k2 hok hok' hop
  have HJ := hide hj
  have HNO := hide hno
  have HG := hide hG
  have HS : Hid (shapeB (jointSh n1 n2 m1 m2 sh sh') = true ∧ countOf (jointSh n1 n2 m1 m2 sh sh') = (n : Int)) := ⟨hn1, hn2⟩
  have hn16 : n ≤ 17592186044416 := by
    have := (prodAll_bd _ hn1 (jointSh n1 n2 m1 m2 sh sh').length).2
    rw [List.take_length, prodAll_count _ hn1, hn2] at this
    omega
  obtain ⟨z, hz⟩ : ∃ z : Nat, z = 0 := ⟨_, rfl⟩
  obtain ⟨t1, ht1⟩ : ∃ t : Nat, stepOf n2 = t := ⟨_, rfl⟩
  obtain ⟨t2, ht2⟩ : ∃ t : Nat, stepOf m2 = t := ⟨_, rfl⟩
  have HF : Hid ((fun k => elemFn op c d (dt.getD (z + k * t1) 0) (dt'.getD (z + k * t2) 0)) = s2f op c d dt dt' n2 m2) := by
    show _ = _
    funext k
    unfold s2f
    rw [hz, ht1, ht2]
  have HK1 : Hid (∀ k, k < n → z + k * t1 < n2) := fun k hk => by rw [hz, ← ht1]; exact stepS_lt hpure.1 hk
  have HK2 : Hid (∀ k, k < n → z + k * t2 < m2) := fun k hk => by rw [hz, ← ht2]; exact stepS_lt hpure.2 hk
  have HXB : Hid (∀ k, k < n2 → -1000000000000000 ≤ dt.getD k 0 ∧ dt.getD k 0 ≤ 1000000000000000) := fun k hk => dataOk_bd (unhide HR) (by rw [(unhide H2).len]; exact hk)
  have HYB : Hid (∀ k, k < m2 → -1000000000000000 ≤ dt'.getD k 0 ∧ dt'.getD k 0 ≤ 1000000000000000) := fun k hk => dataOk_bd (unhide HR') (by rw [(unhide K2).len]; exact hk)
  have HZ := hide hz
  have HT1 := hide ht1
  have HT2 := hide ht2
  have HFC := hide hfc
  clear hj hno hG hn1 hn2 hpure hz ht1 ht2 hfc
  have e1 := eql_op_nil
  go_enter Tryz.func13, Tryz.ntmps13
  go_wp2_with (first | (go_at_call 48; refine (isScalarFn_any op _ _ HOP).mono ?_; rintro e w0 ⟨rfl, rfl⟩) | (go_at_call_of 43 (Value.slice a1 n1 c1); refine (implArrayOk_eq _ _ _ _ _ _ _ sh dt _ ((((unhide H1).alloc _).alloc _).alloc _) ((((unhide H2).alloc _).alloc _).alloc _) _ HR).mono ?_; rintro e w1 ⟨rfl, hb1⟩; obtain ⟨B0, B1, B2, hB1⟩ := boxes3 hb1; have HB0 := hide B0; have HB1 := hide B1; have HB2 := hide B2; have HB := hide hB1; obtain ⟨x0, x1, x2, x3, x4, x5, x6⟩ := B0.all; obtain ⟨y0, y1, y2, y3, y4, y5, y6⟩ := B1.all; obtain ⟨q0, q1, q2, q3, q4, q5, q6⟩ := B2.all; clear hb1 hB1 B0 B1 B2) | (go_at_call_of 43 (Value.slice b1 m1 d1); refine (implArrayOk_eq _ _ _ _ _ _ _ sh' dt' _ ((unhide K1).below (Nat.le_refl _) (unhide HB)) ((unhide K2).below (Nat.le_refl _) (unhide HB)) _ HR').mono ?_; rintro e w2 ⟨rfl, hb2⟩; have HB0' := hide ((unhide HB0).below (Nat.le_refl _) hb2); have HB1' := hide ((unhide HB1).below (Nat.le_refl _) hb2); have HB2' := hide ((unhide HB2).below (Nat.le_refl _) hb2); have HC := hide ((unhide HB).trans (hb2.mono (by omega))); clear hb2 x0 x1 x2 x3 x4 x5 x6 y0 y1 y2 y3 y4 y5 y6 q0 q1 q2 q3 q4 q5 q6 HB0 HB1 HB2 HB; obtain ⟨x0, x1, x2, x3, x4, x5, x6⟩ := (unhide HB0').all; obtain ⟨y0, y1, y2, y3, y4, y5, y6⟩ := (unhide HB1').all; obtain ⟨q0, q1, q2, q3, q4, q5, q6⟩ := (unhide HB2').all) | (go_at_call 49; refine (jointShape_any c d a1 a2 b1 b2 n1 n2 m1 m2 c1 c2 d1 d2 sh sh' _ ((unhide H1).below (Nat.le_refl _) (unhide HC)) ((unhide K1).below (Nat.le_refl _) (unhide HC)) hs2 hs4).mono ?_; rintro e w3 ⟨hj, hb3⟩; obtain ⟨_, ash, ksh, csh, rfl, hO⟩ | ⟨h0, _⟩ := hj; rotate_left; exact absurd (unhide HJ) h0; have HO := hide hO; have hkl := hide hO.len; clear hO; have hs23 := hb3.size; have hw2b := q6; have HB0'' := hide ((unhide HB0').below (Nat.le_refl _) hb3); have HB1'' := hide ((unhide HB1').below (Nat.le_refl _) hb3); have HB2'' := hide ((unhide HB2').below (Nat.le_refl _) hb3); have HD := hide ((unhide HC).trans (hb3.mono (by omega))); clear hb3 x0 x1 x2 x3 x4 x5 x6 y0 y1 y2 y3 y4 y5 y6 q0 q1 q2 q3 q4 q5 q6 HB0' HB1' HB2' HC; obtain ⟨x0, x1, x2, x3, x4, x5, x6⟩ := (unhide HB0'').all; obtain ⟨y0, y1, y2, y3, y4, y5, y6⟩ := (unhide HB1'').all; obtain ⟨q0, q1, q2, q3, q4, q5, q6⟩ := (unhide HB2'').all) | (go_at_call 50; refine (operationOn_any op c d a1 a2 b1 b2 n1 n2 m1 m2 c1 c2 d1 d2 ga gb _ ((unhide HG).below (unhide HD)) (unhide HOP)).mono ?_; rintro e w4 ⟨v, rfl, hv, hb4⟩; obtain ⟨hy1, hy2, _⟩ | ⟨_, hv⟩ := hv; exact absurd ⟨hy1, hy2⟩ (unhide HNO); have HV := hide hv; obtain ⟨g, lb, rfl, eg, _⟩ := hv; have hs34 := hb4.size; have HB0t := hide ((unhide HB0'').below (Nat.le_refl _) hb4); have HB1t := hide ((unhide HB1'').below (Nat.le_refl _) hb4); have HB2t := hide ((unhide HB2'').below (Nat.le_refl _) hb4); have HE := hide ((unhide HD).trans (hb4.mono (by omega))); have HOt := hide ((unhide HO).below (Nat.le_refl _) hb4); clear hb4 x0 x1 x2 x3 x4 x5 x6 y0 y1 y2 y3 y4 y5 y6 q0 q1 q2 q3 q4 q5 q6 HB0'' HB1'' HB2'' HD; obtain ⟨x0, x1, x2, x3, x4, x5, x6⟩ := (unhide HB0t).all; obtain ⟨y0, y1, y2, y3, y4, y5, y6⟩ := (unhide HB1t).all; obtain ⟨q0, q1, q2, q3, q4, q5, q6⟩ := (unhide HB2t).all) | (go_at_call 51; refine (cellsOf_count _ _ _ (jointSh n1 n2 m1 m2 sh sh') _ (unhide HOt).row (unhide HS).1 _ (hide (unhide HS).2)).mono ?_; rintro e w4' ⟨rfl, rfl⟩))
  have HKEEP : ∀ wx, Below (w.heap.size + 2) w4' wx → Below (w.heap.size + 2) w4' wx ∧ (wx.cell? ⟨w.heap.size, 0, none⟩ = some (.bool c) ∧ wx.cell? ⟨w.heap.size, 1, none⟩ = some (.slice a1 n1 c1) ∧ wx.cell? ⟨w.heap.size, 2, none⟩ = some (.slice a2 n2 c2)) ∧ (wx.cell? ⟨w.heap.size + 1, 0, none⟩ = some (.bool d) ∧ wx.cell? ⟨w.heap.size + 1, 1, none⟩ = some (.slice b1 m1 d1) ∧ wx.cell? ⟨w.heap.size + 1, 2, none⟩ = some (.slice b2 m2 d2)) := fun wx hwx => ⟨hwx, ((unhide HB0t).low (by omega) hwx).cells, ((unhide HB1t).low (by omega) hwx).cells⟩
  have hW2 : w.heap.size + 2 ≤ w4'.heap.size := by omega
  clear x3 x4 x5 y3 y4 y5
  go_region_held (fun wx => Below (w.heap.size + 2) w4' wx ∧ (wx.cell? ⟨w.heap.size, 0, none⟩ = some (.bool c) ∧ wx.cell? ⟨w.heap.size, 1, none⟩ = some (.slice a1 n1 c1) ∧ wx.cell? ⟨w.heap.size, 2, none⟩ = some (.slice a2 n2 c2)) ∧ (wx.cell? ⟨w.heap.size + 1, 0, none⟩ = some (.bool d) ∧ wx.cell? ⟨w.heap.size + 1, 1, none⟩ = some (.slice b1 m1 d1) ∧ wx.cell? ⟨w.heap.size + 1, 2, none⟩ = some (.slice b2 m2 d2))) (first | (refine HKEEP _ ?_; repeat (first | exact hKD.mono hW2 | exact hKC.mono hW2 | exact hKB.mono hW2 | exact hKA.mono hW2 | exact Below.refl _ _ | refine Below.drew ?_ | refine Below.setCell ?_ (by first | omega | (simp <;> omega)) _)))
    (first
    | (go_at_call_of 54 (Value.slice a2 n2 c2); refine (extended_eq c a1 a2 n1 n2 c1 c2 n hs2 z t1 HZ HT1 _).mono ?_; rintro e wA ⟨rfl, hbA⟩; have hKA : Below w4'.heap.size w4' wA := (Below.refl _ _).drew.trans (hbA.mono (by simp)); obtain ⟨_, ⟨x0, x1, x2⟩, ⟨y0, y1, y2⟩⟩ := HKEEP _ (hKA.mono hW2))
    | (go_at_call_of 54 (Value.slice b2 m2 d2); refine (extended_eq d b1 b2 m1 m2 d1 d2 n hs4 z t2 HZ HT2 _).mono ?_; rintro e wB ⟨rfl, hbB⟩; have hKB : Below w4'.heap.size w4' wB := hKA.trans (hbB.mono hKA.size); obtain ⟨_, ⟨x0, x1, x2⟩, ⟨y0, y1, y2⟩⟩ := HKEEP _ (hKB.mono hW2))
    | (go_at_call 53; refine (pairwise_any g lb a2 b2 n2 c2 z t1 n m2 d2 z t2 n _).mono ?_; rintro e wC ⟨p3, p4, p5, rfl, hSa, hSb, hcell, hbC⟩; have hKC : Below w4'.heap.size w4' wC := hKB.trans (hbC.mono hKB.size); have HSa := hide hSa; have HSb := hide hSb; have HCl := hide hcell; clear hSa hSb hcell)
    | (go_at_call 52; refine (reckoned_any ga gb 120 _ eg_pair (fun k => elemFn op c d (dt.getD (z + k * t1) 0) (dt'.getD (z + k * t2) 0)) n _ _ _ (jointSh n1 n2 m1 m2 sh sh') _ ((unhide HOt).below (Nat.le_refl _) hKC).row (unhide HS).1 (unhide HS).2 ((unhide HG).below ((unhide HE).trans (hKC.mono (by omega)))) (fun k _ => elemFn_code _ _ _ _ _) (pair_elem (elemFn op c d) ga gb a2 b2 _ p5 p3 p4 n2 c2 z t1 n m2 d2 z t2 n n dt dt' _ ((unhide HV).below hKC) (unhide HCl) (unhide HSa) (unhide HSb) ((unhide H2).below (Nat.le_refl _) ((unhide HE).trans (hKC.mono (by omega)))) ((unhide K2).below (Nat.le_refl _) ((unhide HE).trans (hKC.mono (by omega)))) (unhide HK1) (unhide HK2) (unhide HXB) (unhide HYB))).mono ?_; rintro e wD ⟨hr, hbD⟩; rw [unhide HF] at hr; obtain ⟨_, p, hpl, rfl, hblk⟩ | ⟨hne, _⟩ := hr; rotate_left; exact absurd (unhide HFC) hne; have HBK := hide hblk; clear hblk; have hCs := hKC.size; have hKD : Below w4'.heap.size w4' wD := hKC.trans (hbD.mono hKC.size); have HBD := hide hbD; obtain ⟨r0, r1, r2, r3, r4, r5, r6⟩ := ((unhide HB2t).below (Nat.le_refl _) hKD).all; clear hbD))
  go_wp2
  refine bodyPost_ret (v := .tuple #[.agg #[.bool false, .slice ash ksh csh, .slice (some ⟨p, 0, none⟩) n n], .int .i64 0]) (by simp [results, Tryz.results13, go_sem, r0, r1, r2]) rfl ?_
  have hO := (unhide HOt).below (Nat.le_refl _) hKD
  have hk : ∀ k, At ash ksh k → k ≠ w.heap.size + 1 + 1 := fun k hk => by have := (unhide HOt).low hk; omega
  have hD : Own wD w.heap.size (some ⟨p, 0, none⟩) n (vals (s2f op c d dt dt' n2 m2) n) := (unhide HBK).own (vals_len _ _) hn16 (by omega)
  have hk2 : ∀ k, At (some ⟨p, 0, none⟩) n k → k ≠ w.heap.size + 1 + 1 := fun k hk => by have := at_eq hk; omega
  rw [gather_good (unhide HFC)]
  refine ⟨ash, ksh, csh, some ⟨p, 0, none⟩, n, n, rfl, (((hO.mono (by omega)).other hk _).other hk _).other hk _, ((hD.other hk2 _).other hk2 _).other hk2 _, fun k h1 h2 => ?_, ((((unhide HE).trans (hKD.mono (by omega))).setCell (by simp <;> omega) _).setCell (by simp <;> omega) _).setCell (by simp <;> omega) _⟩
  have := (unhide HOt).row.hi h1
  have := at_eq h2
  omega

set_option maxRecDepth 20000 in
set_option maxHeartbeats 4000000 in
theorem implScalar2_good1 (op : Int) (c d : Bool) (a1 a2 b1 b2 : Option Addr) (n1 n2 m1 m2 c1 c2 d1 d2 : Nat) (sh dt sh' dt' : List Int) (w : World) (h1 : Row w a1 n1 sh) (h2 : Row w a2 n2 dt) (k1 : Row w b1 m1 sh') (k2 : Row w b2 m2 dt') (ga gb : Addr) (hG : Gl w ga gb) (hop : opIn op = true) (hok : arrOk c sh dt = true) (hok' : arrOk d sh' dt' = true) (hj : jointCode n1 n2 m1 m2 sh sh' = 0) (hno : ¬ ((c || d) = true ∧ opEq op = false)) (n : Nat) (hn1 : shapeB (jointSh n1 n2 m1 m2 sh sh') = true) (hn2 : countOf (jointSh n1 n2 m1 m2 sh sh') = (n : Int)) (hpure : (n2 = 1 ∨ n2 = n) ∧ (m2 = 1 ∨ m2 = n)) (cc : Int) (hfc : cc = firstCode (s2f op c d dt dt' n2 m2) n) (hc0 : cc ≠ 0) :
    Calls Tryz.prog 13 #[.int .i64 op, .agg #[.bool c, .slice a1 n1 c1, .slice a2 n2 c2], .agg #[.bool d, .slice b1 m1 d1, .slice b2 m2 d2]] w (GivesOwn w (gatherAns false (jointSh n1 n2 m1 m2 sh sh') (s2f op c d dt dt' n2 m2) n)) := by
  have HR := hide hok
  have HR' := hide hok'
  have HOP := hide hop
  have hs1 := h1.small
  have hs2 := h2.small
  have hs3 := k1.small
  have hs4 := k2.small
  have H1 := hide h1
  have H2 := hide h2
  have K1 := hide k1
  have K2 := hide k2
  clear h1 h2 k1 k2 hok hok' hop
  have HJ := hide hj
  have HNO := hide hno
  have HG := hide hG
  have HS : Hid (shapeB (jointSh n1 n2 m1 m2 sh sh') = true ∧ countOf (jointSh n1 n2 m1 m2 sh sh') = (n : Int)) := ⟨hn1, hn2⟩
  have hn16 : n ≤ 17592186044416 := by
    have := (prodAll_bd _ hn1 (jointSh n1 n2 m1 m2 sh sh').length).2
    rw [List.take_length, prodAll_count _ hn1, hn2] at this
    omega
  obtain ⟨z, hz⟩ : ∃ z : Nat, z = 0 := ⟨_, rfl⟩
  obtain ⟨t1, ht1⟩ : ∃ t : Nat, stepOf n2 = t := ⟨_, rfl⟩
  obtain ⟨t2, ht2⟩ : ∃ t : Nat, stepOf m2 = t := ⟨_, rfl⟩
  have HF : Hid ((fun k => elemFn op c d (dt.getD (z + k * t1) 0) (dt'.getD (z + k * t2) 0)) = s2f op c d dt dt' n2 m2) := by
    show _ = _
    funext k
    unfold s2f
    rw [hz, ht1, ht2]
  have HK1 : Hid (∀ k, k < n → z + k * t1 < n2) := fun k hk => by rw [hz, ← ht1]; exact stepS_lt hpure.1 hk
  have HK2 : Hid (∀ k, k < n → z + k * t2 < m2) := fun k hk => by rw [hz, ← ht2]; exact stepS_lt hpure.2 hk
  have HXB : Hid (∀ k, k < n2 → -1000000000000000 ≤ dt.getD k 0 ∧ dt.getD k 0 ≤ 1000000000000000) := fun k hk => dataOk_bd (unhide HR) (by rw [(unhide H2).len]; exact hk)
  have HYB : Hid (∀ k, k < m2 → -1000000000000000 ≤ dt'.getD k 0 ∧ dt'.getD k 0 ≤ 1000000000000000) := fun k hk => dataOk_bd (unhide HR') (by rw [(unhide K2).len]; exact hk)
  have HZ := hide hz
  have HT1 := hide ht1
  have HT2 := hide ht2
  have HFC := hide hfc
  have HC0 := hide hc0
  clear hj hno hG hn1 hn2 hpure hz ht1 ht2 hfc hc0
  have e1 := eql_op_nil
  go_enter Tryz.func13, Tryz.ntmps13
  go_wp2_with (first | (go_at_call 48; refine (isScalarFn_any op _ _ HOP).mono ?_; rintro e w0 ⟨rfl, rfl⟩) | (go_at_call_of 43 (Value.slice a1 n1 c1); refine (implArrayOk_eq _ _ _ _ _ _ _ sh dt _ ((((unhide H1).alloc _).alloc _).alloc _) ((((unhide H2).alloc _).alloc _).alloc _) _ HR).mono ?_; rintro e w1 ⟨rfl, hb1⟩; obtain ⟨B0, B1, B2, hB1⟩ := boxes3 hb1; have HB0 := hide B0; have HB1 := hide B1; have HB2 := hide B2; have HB := hide hB1; obtain ⟨x0, x1, x2, x3, x4, x5, x6⟩ := B0.all; obtain ⟨y0, y1, y2, y3, y4, y5, y6⟩ := B1.all; obtain ⟨q0, q1, q2, q3, q4, q5, q6⟩ := B2.all; clear hb1 hB1 B0 B1 B2) | (go_at_call_of 43 (Value.slice b1 m1 d1); refine (implArrayOk_eq _ _ _ _ _ _ _ sh' dt' _ ((unhide K1).below (Nat.le_refl _) (unhide HB)) ((unhide K2).below (Nat.le_refl _) (unhide HB)) _ HR').mono ?_; rintro e w2 ⟨rfl, hb2⟩; have HB0' := hide ((unhide HB0).below (Nat.le_refl _) hb2); have HB1' := hide ((unhide HB1).below (Nat.le_refl _) hb2); have HB2' := hide ((unhide HB2).below (Nat.le_refl _) hb2); have HC := hide ((unhide HB).trans (hb2.mono (by omega))); clear hb2 x0 x1 x2 x3 x4 x5 x6 y0 y1 y2 y3 y4 y5 y6 q0 q1 q2 q3 q4 q5 q6 HB0 HB1 HB2 HB; obtain ⟨x0, x1, x2, x3, x4, x5, x6⟩ := (unhide HB0').all; obtain ⟨y0, y1, y2, y3, y4, y5, y6⟩ := (unhide HB1').all; obtain ⟨q0, q1, q2, q3, q4, q5, q6⟩ := (unhide HB2').all) | (go_at_call 49; refine (jointShape_any c d a1 a2 b1 b2 n1 n2 m1 m2 c1 c2 d1 d2 sh sh' _ ((unhide H1).below (Nat.le_refl _) (unhide HC)) ((unhide K1).below (Nat.le_refl _) (unhide HC)) hs2 hs4).mono ?_; rintro e w3 ⟨hj, hb3⟩; obtain ⟨_, ash, ksh, csh, rfl, hO⟩ | ⟨h0, _⟩ := hj; rotate_left; exact absurd (unhide HJ) h0; have HO := hide hO; have hkl := hide hO.len; clear hO; have hs23 := hb3.size; have hw2b := q6; have HB0'' := hide ((unhide HB0').below (Nat.le_refl _) hb3); have HB1'' := hide ((unhide HB1').below (Nat.le_refl _) hb3); have HB2'' := hide ((unhide HB2').below (Nat.le_refl _) hb3); have HD := hide ((unhide HC).trans (hb3.mono (by omega))); clear hb3 x0 x1 x2 x3 x4 x5 x6 y0 y1 y2 y3 y4 y5 y6 q0 q1 q2 q3 q4 q5 q6 HB0' HB1' HB2' HC; obtain ⟨x0, x1, x2, x3, x4, x5, x6⟩ := (unhide HB0'').all; obtain ⟨y0, y1, y2, y3, y4, y5, y6⟩ := (unhide HB1'').all; obtain ⟨q0, q1, q2, q3, q4, q5, q6⟩ := (unhide HB2'').all) | (go_at_call 50; refine (operationOn_any op c d a1 a2 b1 b2 n1 n2 m1 m2 c1 c2 d1 d2 ga gb _ ((unhide HG).below (unhide HD)) (unhide HOP)).mono ?_; rintro e w4 ⟨v, rfl, hv, hb4⟩; obtain ⟨hy1, hy2, _⟩ | ⟨_, hv⟩ := hv; exact absurd ⟨hy1, hy2⟩ (unhide HNO); have HV := hide hv; obtain ⟨g, lb, rfl, eg, _⟩ := hv; have hs34 := hb4.size; have HB0t := hide ((unhide HB0'').below (Nat.le_refl _) hb4); have HB1t := hide ((unhide HB1'').below (Nat.le_refl _) hb4); have HB2t := hide ((unhide HB2'').below (Nat.le_refl _) hb4); have HE := hide ((unhide HD).trans (hb4.mono (by omega))); have HOt := hide ((unhide HO).below (Nat.le_refl _) hb4); clear hb4 x0 x1 x2 x3 x4 x5 x6 y0 y1 y2 y3 y4 y5 y6 q0 q1 q2 q3 q4 q5 q6 HB0'' HB1'' HB2'' HD; obtain ⟨x0, x1, x2, x3, x4, x5, x6⟩ := (unhide HB0t).all; obtain ⟨y0, y1, y2, y3, y4, y5, y6⟩ := (unhide HB1t).all; obtain ⟨q0, q1, q2, q3, q4, q5, q6⟩ := (unhide HB2t).all) | (go_at_call 51; refine (cellsOf_count _ _ _ (jointSh n1 n2 m1 m2 sh sh') _ (unhide HOt).row (unhide HS).1 _ (hide (unhide HS).2)).mono ?_; rintro e w4' ⟨rfl, rfl⟩))
  have HKEEP : ∀ wx, Below (w.heap.size + 2) w4' wx → Below (w.heap.size + 2) w4' wx ∧ (wx.cell? ⟨w.heap.size, 0, none⟩ = some (.bool c) ∧ wx.cell? ⟨w.heap.size, 1, none⟩ = some (.slice a1 n1 c1) ∧ wx.cell? ⟨w.heap.size, 2, none⟩ = some (.slice a2 n2 c2)) ∧ (wx.cell? ⟨w.heap.size + 1, 0, none⟩ = some (.bool d) ∧ wx.cell? ⟨w.heap.size + 1, 1, none⟩ = some (.slice b1 m1 d1) ∧ wx.cell? ⟨w.heap.size + 1, 2, none⟩ = some (.slice b2 m2 d2)) := fun wx hwx => ⟨hwx, ((unhide HB0t).low (by omega) hwx).cells, ((unhide HB1t).low (by omega) hwx).cells⟩
  have hW2 : w.heap.size + 2 ≤ w4'.heap.size := by omega
  clear x3 x4 x5 y3 y4 y5
  go_region_held (fun wx => Below (w.heap.size + 2) w4' wx ∧ (wx.cell? ⟨w.heap.size, 0, none⟩ = some (.bool c) ∧ wx.cell? ⟨w.heap.size, 1, none⟩ = some (.slice a1 n1 c1) ∧ wx.cell? ⟨w.heap.size, 2, none⟩ = some (.slice a2 n2 c2)) ∧ (wx.cell? ⟨w.heap.size + 1, 0, none⟩ = some (.bool d) ∧ wx.cell? ⟨w.heap.size + 1, 1, none⟩ = some (.slice b1 m1 d1) ∧ wx.cell? ⟨w.heap.size + 1, 2, none⟩ = some (.slice b2 m2 d2))) (first | (refine HKEEP _ ?_; repeat (first | exact hKD.mono hW2 | exact hKC.mono hW2 | exact hKB.mono hW2 | exact hKA.mono hW2 | exact Below.refl _ _ | refine Below.drew ?_ | refine Below.setCell ?_ (by first | omega | (simp <;> omega)) _)))
    (first
    | (go_at_call_of 54 (Value.slice a2 n2 c2); refine (extended_eq c a1 a2 n1 n2 c1 c2 n hs2 z t1 HZ HT1 _).mono ?_; rintro e wA ⟨rfl, hbA⟩; have hKA : Below w4'.heap.size w4' wA := (Below.refl _ _).drew.trans (hbA.mono (by simp)); obtain ⟨_, ⟨x0, x1, x2⟩, ⟨y0, y1, y2⟩⟩ := HKEEP _ (hKA.mono hW2))
    | (go_at_call_of 54 (Value.slice b2 m2 d2); refine (extended_eq d b1 b2 m1 m2 d1 d2 n hs4 z t2 HZ HT2 _).mono ?_; rintro e wB ⟨rfl, hbB⟩; have hKB : Below w4'.heap.size w4' wB := hKA.trans (hbB.mono hKA.size); obtain ⟨_, ⟨x0, x1, x2⟩, ⟨y0, y1, y2⟩⟩ := HKEEP _ (hKB.mono hW2))
    | (go_at_call 53; refine (pairwise_any g lb a2 b2 n2 c2 z t1 n m2 d2 z t2 n _).mono ?_; rintro e wC ⟨p3, p4, p5, rfl, hSa, hSb, hcell, hbC⟩; have hKC : Below w4'.heap.size w4' wC := hKB.trans (hbC.mono hKB.size); have HSa := hide hSa; have HSb := hide hSb; have HCl := hide hcell; clear hSa hSb hcell)
    | (go_at_call 52; refine (reckoned_any ga gb 120 _ eg_pair (fun k => elemFn op c d (dt.getD (z + k * t1) 0) (dt'.getD (z + k * t2) 0)) n _ _ _ (jointSh n1 n2 m1 m2 sh sh') _ ((unhide HOt).below (Nat.le_refl _) hKC).row (unhide HS).1 (unhide HS).2 ((unhide HG).below ((unhide HE).trans (hKC.mono (by omega)))) (fun k _ => elemFn_code _ _ _ _ _) (pair_elem (elemFn op c d) ga gb a2 b2 _ p5 p3 p4 n2 c2 z t1 n m2 d2 z t2 n n dt dt' _ ((unhide HV).below hKC) (unhide HCl) (unhide HSa) (unhide HSb) ((unhide H2).below (Nat.le_refl _) ((unhide HE).trans (hKC.mono (by omega)))) ((unhide K2).below (Nat.le_refl _) ((unhide HE).trans (hKC.mono (by omega)))) (unhide HK1) (unhide HK2) (unhide HXB) (unhide HYB))).mono ?_; rintro e wD ⟨hr, hbD⟩; rw [unhide HF] at hr; obtain ⟨hne, _⟩ | ⟨_, he⟩ := hr; exact absurd hne (by rw [← unhide HFC]; exact unhide HC0); rw [← unhide HFC] at he; subst he; have hCs := hKC.size; have hKD : Below w4'.heap.size w4' wD := hKC.trans (hbD.mono hKC.size); have HBD := hide hbD; obtain ⟨r0, r1, r2, r3, r4, r5, r6⟩ := ((unhide HB2t).below (Nat.le_refl _) hKD).all; clear hbD))
  go_wp2
  refine bodyPost_ret (v := .tuple #[.agg #[.bool false, .slice none 0 0, .slice none 0 0], .int .i64 cc]) (by simp [results, Tryz.results13, go_sem, r0, r1, r2]) rfl ?_
  have hga : gatherAns false (jointSh n1 n2 m1 m2 sh sh') (s2f op c d dt dt' n2 m2) n = noAns cc := by unfold gatherAns; rw [← unhide HFC, if_neg (unhide HC0)]
  rw [hga]
  exact gives_none (((((unhide HE).trans (hKD.mono (by omega))).setCell (by simp <;> omega) _).setCell (by simp <;> omega) _).setCell (by simp <;> omega) _)

end Go.Proofs.YtkgcmpmgaghdhaaGreatDoor
