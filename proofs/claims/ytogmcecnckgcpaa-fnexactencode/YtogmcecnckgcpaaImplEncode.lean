import Derived.Test.YtogmcecnckgcpaaImplDigits
import Derived.Test.YtogmcecnckgcpaaEncFwd
import Derived.Test.YtogmcecnckgcpaaImplBelow0
import Derived.Test.YtogmcecnckgcpaaImplList5
import Derived.Test.YtogmcecnckgcpaaImplConcat
import Derived.Test.YtogmcecnckgcpaaImplEnd5
import Derived.Test.YtogmcecnckgcpaaSpecGrow
import Derived.Deep.DeepCutAuto
namespace Go.Proofs.Ytogmcecnckgcpaa
open Go.RowKit Go.Shelf

set_option maxRecDepth 20000 in
set_option maxHeartbeats 4000000 in
theorem implEncode_code (c d : Bool) (a1 a2 b1 b2 : Addr) (n1 n2 m1 m2 c1 c2 d1 d2 : Nat) (sh dt sh' dt' : List Int) (w : World) (h1 : Row w (some a1) n1 sh) (h2 : Row w (some a2) n2 dt) (k1 : Row w (some b1) m1 sh') (k2 : Row w (some b2) m2 dt') (r : Int) (hrc : codeList c d sh dt sh' dt' = r) (hr : r ≠ 0) :
    Calls Try.prog 23 #[.agg #[.bool c, .slice (some a1) n1 c1, .slice (some a2) n2 c2], .agg #[.bool d, .slice (some b1) m1 d1, .slice (some b2) m2 d2]] w (GivesOwn w (noAns r)) := by
  have HRC := hide hrc
  have hs2 := h2.small
  have hs4 := k2.small
  have H1 := hide h1
  have H2 := hide h2
  have K1 := hide k1
  have K2 := hide k2
  have q : (r != 0) = true := by simp [hr]
  clear h1 h2 k1 k2 hrc hr
  go_enter Try.func23, Try.ntmps23
  go_wp2_with (first | (go_at_call 49; refine (implListCode_any c d (some a1) (some a2) (some b1) (some b2) n1 n2 m1 m2 c1 c2 d1 d2 sh dt sh' dt' _ ((((unhide H1).alloc _).alloc _).alloc _) ((((unhide H2).alloc _).alloc _).alloc _) ((((unhide K1).alloc _).alloc _).alloc _) ((((unhide K2).alloc _).alloc _).alloc _) _ HRC).mono ?_; rintro e w1 ⟨rfl, hb1⟩; obtain ⟨B0, B1, B2, hB1⟩ := boxes3 hb1; have HB0 := hide B0; have HB1 := hide B1; have HB2 := hide B2; have HB := hide hB1; obtain ⟨x0, x1, x2, x3, x4, x5, x6⟩ := B0.all; obtain ⟨y0, y1, y2, y3, y4, y5, y6⟩ := B1.all; obtain ⟨q0, q1, q2, q3, q4, q5, q6⟩ := B2.all; clear hb1 hB1 B0 B1 B2))
  refine bodyPost_ret (v := .tuple #[.agg #[.bool false, .slice none 0 0, .slice none 0 0], .int .i64 r]) (by simp [results, Try.results23, go_sem, q0, q1, q2]) rfl ?_
  exact gives_none ((((unhide HB).setCell (by simp <;> omega) _).setCell (by simp <;> omega) _).setCell (by simp <;> omega) _)

set_option maxRecDepth 20000 in
set_option maxHeartbeats 4000000 in
theorem implEncode_neg (c d : Bool) (a1 a2 b1 b2 : Addr) (n1 n2 m1 m2 c1 c2 d1 d2 : Nat) (sh dt sh' dt' : List Int) (w : World) (h1 : Row w (some a1) n1 sh) (h2 : Row w (some a2) n2 dt) (k1 : Row w (some b1) m1 sh') (k2 : Row w (some b2) m2 dt') (hrc : codeList c d sh dt sh' dt' = 0) (hn : dt.all nonNeg = false) :
    Calls Try.prog 23 #[.agg #[.bool c, .slice (some a1) n1 c1, .slice (some a2) n2 c2], .agg #[.bool d, .slice (some b1) m1 d1, .slice (some b2) m2 d2]] w (GivesOwn w (noAns 3)) := by
  have HRC := hide hrc
  have HNG : Hid ((!dt.all nonNeg) = true) := by rw [hn]; exact hide rfl
  have hs2 := h2.small
  have hs4 := k2.small
  have H1 := hide h1
  have H2 := hide h2
  have K1 := hide k1
  have K2 := hide k2
  clear h1 h2 k1 k2 hrc hn
  go_enter Try.func23, Try.ntmps23
  go_wp2_with (first | (go_at_call 49; refine (implListCode_any c d (some a1) (some a2) (some b1) (some b2) n1 n2 m1 m2 c1 c2 d1 d2 sh dt sh' dt' _ ((((unhide H1).alloc _).alloc _).alloc _) ((((unhide H2).alloc _).alloc _).alloc _) ((((unhide K1).alloc _).alloc _).alloc _) ((((unhide K2).alloc _).alloc _).alloc _) _ HRC).mono ?_; rintro e w1 ⟨rfl, hb1⟩; obtain ⟨B0, B1, B2, hB1⟩ := boxes3 hb1; have HB0 := hide B0; have HB1 := hide B1; have HB2 := hide B2; have HB := hide hB1; obtain ⟨x0, x1, x2, x3, x4, x5, x6⟩ := B0.all; obtain ⟨y0, y1, y2, y3, y4, y5, y6⟩ := B1.all; obtain ⟨q0, q1, q2, q3, q4, q5, q6⟩ := B2.all; clear hb1 hB1 B0 B1 B2) | (go_at_call 50; refine (hasBelow0_eq _ _ _ dt _ ((unhide H2).below (Nat.le_refl _) (unhide HB)) _ HNG).mono ?_; rintro e w2 ⟨rfl, hw⟩; obtain rfl := hw.symm))
  refine bodyPost_ret (v := .tuple #[.agg #[.bool false, .slice none 0 0, .slice none 0 0], .int .i64 3]) (by simp [results, Try.results23, go_sem, q0, q1, q2]) rfl ?_
  exact gives_none ((((unhide HB).setCell (by simp <;> omega) _).setCell (by simp <;> omega) _).setCell (by simp <;> omega) _)

set_option maxRecDepth 20000 in
set_option maxHeartbeats 4000000 in
theorem implEncode_char (c : Bool) (a1 a2 b1 b2 : Addr) (n1 n2 m1 m2 c1 c2 d1 d2 : Nat) (sh dt sh' dt' : List Int) (w : World) (h1 : Row w (some a1) n1 sh) (h2 : Row w (some a2) n2 dt) (k1 : Row w (some b1) m1 sh') (k2 : Row w (some b2) m2 dt') (hrc : codeList c true sh dt sh' dt' = 0) (hn : dt.all nonNeg = true) :
    Calls Try.prog 23 #[.agg #[.bool c, .slice (some a1) n1 c1, .slice (some a2) n2 c2], .agg #[.bool true, .slice (some b1) m1 d1, .slice (some b2) m2 d2]] w (GivesOwn w (noAns 3)) := by
  have HRC := hide hrc
  have HNG : Hid ((!dt.all nonNeg) = false) := by rw [hn]; exact hide rfl
  have hs2 := h2.small
  have hs4 := k2.small
  have H1 := hide h1
  have H2 := hide h2
  have K1 := hide k1
  have K2 := hide k2
  clear h1 h2 k1 k2 hrc hn
  go_enter Try.func23, Try.ntmps23
  go_wp2_with (first | (go_at_call 49; refine (implListCode_any c true (some a1) (some a2) (some b1) (some b2) n1 n2 m1 m2 c1 c2 d1 d2 sh dt sh' dt' _ ((((unhide H1).alloc _).alloc _).alloc _) ((((unhide H2).alloc _).alloc _).alloc _) ((((unhide K1).alloc _).alloc _).alloc _) ((((unhide K2).alloc _).alloc _).alloc _) _ HRC).mono ?_; rintro e w1 ⟨rfl, hb1⟩; obtain ⟨B0, B1, B2, hB1⟩ := boxes3 hb1; have HB0 := hide B0; have HB1 := hide B1; have HB2 := hide B2; have HB := hide hB1; obtain ⟨x0, x1, x2, x3, x4, x5, x6⟩ := B0.all; obtain ⟨y0, y1, y2, y3, y4, y5, y6⟩ := B1.all; obtain ⟨q0, q1, q2, q3, q4, q5, q6⟩ := B2.all; clear hb1 hB1 B0 B1 B2) | (go_at_call 50; refine (hasBelow0_eq _ _ _ dt _ ((unhide H2).below (Nat.le_refl _) (unhide HB)) _ HNG).mono ?_; rintro e w2 ⟨rfl, hw⟩; obtain rfl := hw.symm))
  refine bodyPost_ret (v := .tuple #[.agg #[.bool false, .slice none 0 0, .slice none 0 0], .int .i64 3]) (by simp [results, Try.results23, go_sem, q0, q1, q2]) rfl ?_
  exact gives_none ((((unhide HB).setCell (by simp <;> omega) _).setCell (by simp <;> omega) _).setCell (by simp <;> omega) _)

set_option maxRecDepth 20000 in
set_option maxHeartbeats 4000000 in
theorem implEncode_big (c : Bool) (a1 a2 b1 b2 : Addr) (n1 n2 m1 m2 c1 c2 d1 d2 : Nat) (sh dt sh' dt' : List Int) (w : World) (h1 : Row w (some a1) n1 sh) (h2 : Row w (some a2) n2 dt) (k1 : Row w (some b1) m1 sh') (k2 : Row w (some b2) m2 dt') (hrc : codeList c false sh dt sh' dt' = 0) (hn : dt.all nonNeg = true) (hl1 : sh.length ≤ 5) (hl3 : sh'.length ≤ 5) (hs : shapeB (sh ++ sh') = false) :
    Calls Try.prog 23 #[.agg #[.bool c, .slice (some a1) n1 c1, .slice (some a2) n2 c2], .agg #[.bool false, .slice (some b1) m1 d1, .slice (some b2) m2 d2]] w (GivesOwn w (noAns 7)) := by
  have HRC := hide hrc
  have HNG : Hid ((!dt.all nonNeg) = false) := by rw [hn]; exact hide rfl
  have HSB := hide hs
  have hz1 : n1 ≤ 1000000 := by have := h1.len; omega
  have hz3 : m1 ≤ 1000000 := by have := k1.len; omega
  have hs2 := h2.small
  have hs4 := k2.small
  have H1 := hide h1
  have H2 := hide h2
  have K1 := hide k1
  have K2 := hide k2
  clear h1 h2 k1 k2 hrc hn hs hl1 hl3
  go_enter Try.func23, Try.ntmps23
  go_wp2_with (first | (go_at_call 49; refine (implListCode_any c false (some a1) (some a2) (some b1) (some b2) n1 n2 m1 m2 c1 c2 d1 d2 sh dt sh' dt' _ ((((unhide H1).alloc _).alloc _).alloc _) ((((unhide H2).alloc _).alloc _).alloc _) ((((unhide K1).alloc _).alloc _).alloc _) ((((unhide K2).alloc _).alloc _).alloc _) _ HRC).mono ?_; rintro e w1 ⟨rfl, hb1⟩; obtain ⟨B0, B1, B2, hB1⟩ := boxes3 hb1; have HB0 := hide B0; have HB1 := hide B1; have HB2 := hide B2; have HB := hide hB1; obtain ⟨x0, x1, x2, x3, x4, x5, x6⟩ := B0.all; obtain ⟨y0, y1, y2, y3, y4, y5, y6⟩ := B1.all; obtain ⟨q0, q1, q2, q3, q4, q5, q6⟩ := B2.all; clear hb1 hB1 B0 B1 B2) | (go_at_call 50; refine (hasBelow0_eq _ _ _ dt _ ((unhide H2).below (Nat.le_refl _) (unhide HB)) _ HNG).mono ?_; rintro e w2 ⟨rfl, hw⟩; obtain rfl := hw.symm) | (go_at_call 51; refine (Concat2_any _ a1 b1 n1 m1 c1 d1 sh sh' _ (by simp) (by simp) (((unhide H1).below (Nat.le_refl _) (unhide HB)).alloc _) (((unhide K1).below (Nat.le_refl _) (unhide HB)).alloc _) hz1 hz3).mono ?_; rintro e w3 ⟨ash, csh, rfl, hO, hb3⟩; have hs23 : w1.heap.size + 1 ≤ w3.heap.size := (by have := hb3.size; simpa using this); have HO : Hid (Own w3 (w.heap.size + 3) ash (n1 + m1) (sh ++ sh')) := hO.mono (by simp; omega); have HC0 := hide (((unhide HB0).alloc _).below (Nat.le_refl _) hb3); have HC1 := hide (((unhide HB1).alloc _).below (Nat.le_refl _) hb3); have HC2 := hide (((unhide HB2).alloc _).below (Nat.le_refl _) hb3); have HC := hide (((unhide HB).alloc (by omega) _).trans (hb3.mono (by simp; omega))); clear hO hb3 x0 x1 x2 x3 x4 x5 x6 y0 y1 y2 y3 y4 y5 y6 q0 q1 q2 q3 q4 q5 q6 HB0 HB1 HB2; obtain ⟨x0, x1, x2, x3, x4, x5, x6⟩ := (unhide HC0).all; obtain ⟨y0, y1, y2, y3, y4, y5, y6⟩ := (unhide HC1).all; obtain ⟨q0, q1, q2, q3, q4, q5, q6⟩ := (unhide HC2).all) | (go_at_call 30; refine (shapeOk_eq _ _ _ (sh ++ sh') _ (unhide HO).row _ HSB).mono ?_; rintro e w4 ⟨rfl, hw⟩; obtain rfl := hw.symm))
  refine bodyPost_ret (v := .tuple #[.agg #[.bool false, .slice none 0 0, .slice none 0 0], .int .i64 7]) (by simp [results, Try.results23, go_sem, q0, q1, q2]) rfl ?_
  exact gives_none ((((unhide HC).setCell (by simp <;> omega) _).setCell (by simp <;> omega) _).setCell (by simp <;> omega) _)

set_option maxRecDepth 20000 in
set_option maxHeartbeats 4000000 in
theorem implEncode_good (c : Bool) (a1 a2 b1 b2 : Addr) (n1 n2 m1 m2 c1 c2 d1 d2 : Nat) (sh dt sh' dt' : List Int) (w : World) (h1 : Row w (some a1) n1 sh) (h2 : Row w (some a2) n2 dt) (k1 : Row w (some b1) m1 sh') (k2 : Row w (some b2) m2 dt') (hrc : codeList c false sh dt sh' dt' = 0) (hok : arrOk c sh dt = true) (hok' : arrOk false sh' dt' = true) (hn : dt.all nonNeg = true) (hl1 : sh.length ≤ 5) (hl3 : sh'.length ≤ 5) (hs : shapeB (sh ++ sh') = true) :
    Calls Try.prog 23 #[.agg #[.bool c, .slice (some a1) n1 c1, .slice (some a2) n2 c2], .agg #[.bool false, .slice (some b1) m1 d1, .slice (some b2) m2 d2]] w (GivesOwn w ⟨false, sh ++ sh', encAll dt dt' m2, 0⟩) := by
  have HRC := hide hrc
  have HNG : Hid ((!dt.all nonNeg) = false) := by rw [hn]; exact hide rfl
  have HSB := hide hs
  have hl2 := hide h2.len
  have hl4 := hide k2.len
  obtain ⟨hT, hTb⟩ := enc_total h2.len k2.len hok hok' hs
  obtain ⟨T, hTT⟩ : ∃ T, T = n2 * m2 := ⟨_, rfl⟩
  rw [← hTT] at hT hTb
  have HN := hide hT
  have HT := hide hTT
  have HDB : Hid (∀ q, q < dt.length → 0 ≤ dt.getD q 0 ∧ dt.getD q 0 ≤ 1000000000000000) := fun q hq => ⟨nonNeg_at hn hq, (dataOk_bd hok hq).2⟩
  have HBB : Hid (∀ q, q < m2 → -1000000000000000 ≤ dt'.getD q 0 ∧ dt'.getD q 0 ≤ 1000000000000000) := fun q hq => dataOk_bd hok' (by rw [k2.len]; exact hq)
  have hz1 : n1 ≤ 1000000 := by have := h1.len; omega
  have hz3 : m1 ≤ 1000000 := by have := k1.len; omega
  have hs2 := h2.small
  have hs4 := k2.small
  have H1 := hide h1
  have H2 := hide h2
  have K1 := hide k1
  have K2 := hide k2
  clear h1 h2 k1 k2 hrc hn hs hl1 hl3 hok hok' hT hTT
  have hmk := run_make_row' (P := Try.prog) 22 3 (.int .i64 0) 8 Try.underlying22 info_int rfl .i64 .i64 T (by omega) (by omega)
  go_enter Try.func23, Try.ntmps23
  go_upto_region 10 with (first | (go_at_call 49; refine (implListCode_any c false (some a1) (some a2) (some b1) (some b2) n1 n2 m1 m2 c1 c2 d1 d2 sh dt sh' dt' _ ((((unhide H1).alloc _).alloc _).alloc _) ((((unhide H2).alloc _).alloc _).alloc _) ((((unhide K1).alloc _).alloc _).alloc _) ((((unhide K2).alloc _).alloc _).alloc _) _ HRC).mono ?_; rintro e w1 ⟨rfl, hb1⟩; obtain ⟨B0, B1, B2, hB1⟩ := boxes3 hb1; have HB0 := hide B0; have HB1 := hide B1; have HB2 := hide B2; have HB := hide hB1; obtain ⟨x0, x1, x2, x3, x4, x5, x6⟩ := B0.all; obtain ⟨y0, y1, y2, y3, y4, y5, y6⟩ := B1.all; obtain ⟨q0, q1, q2, q3, q4, q5, q6⟩ := B2.all; clear hb1 hB1 B0 B1 B2) | (go_at_call 50; refine (hasBelow0_eq _ _ _ dt _ ((unhide H2).below (Nat.le_refl _) (unhide HB)) _ HNG).mono ?_; rintro e w2 ⟨rfl, hw⟩; obtain rfl := hw.symm) | (go_at_call 51; refine (Concat2_any _ a1 b1 n1 m1 c1 d1 sh sh' _ (by simp) (by simp) (((unhide H1).below (Nat.le_refl _) (unhide HB)).alloc _) (((unhide K1).below (Nat.le_refl _) (unhide HB)).alloc _) hz1 hz3).mono ?_; rintro e w3 ⟨ash, csh, rfl, hO, hb3⟩; have hs23 : w1.heap.size + 1 ≤ w3.heap.size := (by have := hb3.size; simpa using this); have HO : Hid (Own w3 (w.heap.size + 3) ash (n1 + m1) (sh ++ sh')) := hO.mono (by simp; omega); have HC0 := hide (((unhide HB0).alloc _).below (Nat.le_refl _) hb3); have HC1 := hide (((unhide HB1).alloc _).below (Nat.le_refl _) hb3); have HC2 := hide (((unhide HB2).alloc _).below (Nat.le_refl _) hb3); have HC := hide (((unhide HB).alloc (by omega) _).trans (hb3.mono (by simp; omega))); clear hO hb3 x0 x1 x2 x3 x4 x5 x6 y0 y1 y2 y3 y4 y5 y6 q0 q1 q2 q3 q4 q5 q6 HB0 HB1 HB2; obtain ⟨x0, x1, x2, x3, x4, x5, x6⟩ := (unhide HC0).all; obtain ⟨y0, y1, y2, y3, y4, y5, y6⟩ := (unhide HC1).all; obtain ⟨q0, q1, q2, q3, q4, q5, q6⟩ := (unhide HC2).all) | (go_at_call 30; refine (shapeOk_eq _ _ _ (sh ++ sh') _ (unhide HO).row _ HSB).mono ?_; rintro e w4 ⟨rfl, hw⟩; obtain rfl := hw.symm) | (go_at_call 31; refine (cellsOf_count _ _ _ (sh ++ sh') _ (unhide HO).row (unhide HSB) _ HN).mono ?_; rintro e w5 ⟨rfl, hw⟩; obtain rfl := hw.symm))
  obtain ⟨p0, hp0⟩ : ∃ p0, p0 = w.heap.size := ⟨_, rfl⟩
  obtain ⟨gd, hgd⟩ : ∃ gd, gd = w3.heap.size := ⟨_, rfl⟩
  obtain ⟨W, hW⟩ : ∃ W, W = (w3.alloc (.cells (madeCells #[.int .i64 0] T) 3)).alloc (.cells #[.bool false, .slice ash (n1 + m1) csh, .slice (some ⟨w3.heap.size, 0, none⟩) T T] 27) := ⟨_, rfl⟩
  have hzW : gd + 1 < W.heap.size := by rw [hW, hgd]; simp
  have hpg : p0 + 2 < gd := by rw [hgd, hp0]; exact q6
  have HZ0 : Hid (Box W p0 c (.slice (some a1) n1 c1) (.slice (some a2) n2 c2)) := by rw [hW, hp0]; exact ((unhide HC0).alloc _).alloc _
  have HZ1 : Hid (Box W (p0 + 1) false (.slice (some b1) m1 d1) (.slice (some b2) m2 d2)) := by rw [hW, hp0]; exact ((unhide HC1).alloc _).alloc _
  have HZ2 : Hid (Box W (p0 + 2) false (.slice none 0 0) (.slice none 0 0)) := by rw [hW, hp0]; exact ((unhide HC2).alloc _).alloc _
  have HZR : Hid (Box W (gd + 1) false (.slice ash (n1 + m1) csh) (.slice (some ⟨gd, 0, none⟩) T T)) := by
    rw [hW, hgd]
    have := Box.new (w3.alloc (.cells (madeCells #[.int .i64 0] T) 3)) false (.slice ash (n1 + m1) csh) (.slice (some ⟨w3.heap.size, 0, none⟩) T T)
    rw [World.size_alloc] at this
    exact this
  have HZO : Hid (Own W (p0 + 3) ash (n1 + m1) (sh ++ sh')) := by rw [hW, hp0]; exact ((unhide HO).alloc _).alloc _
  have HZL : Hid (∀ x, At ash (n1 + m1) x → x < gd) := fun x h => by rw [hgd]; exact (unhide HO).row.hi h
  have HZG : Hid (Blk W gd (encFwd dt dt' m2 0 0)) := by show Blk W gd _; rw [encFwd_zero, hl2.out, ← HT.out, hW]; exact (Blk.made _ _ _ hgd).alloc _
  have HZB : Hid (Below p0 w W) := by rw [hW, hp0]; exact ((unhide HC).alloc (unhide HC).size _).alloc (by have := (unhide HC).size; simp; omega) _
  have H2Z := hide ((unhide H2).below (by omega) HZB.out)
  have K2Z := hide ((unhide K2).below (by omega) HZB.out)
  have HP2 : Hid (∀ q, At (some a2) n2 q → q < p0) := fun q h => by rw [hp0]; exact (unhide H2).hi h
  have HP4 : Hid (∀ q, At (some b2) m2 q → q < p0) := fun q h => by rw [hp0]; exact (unhide K2).hi h
  rw [← hW, ← hgd, ← hp0]
  have HP := hide hp0
  clear hW hgd hp0 HC0 HC1 HC2 HC HO HB H1 H2 K1 K2 hmk HRC HNG HN x0 x1 x2 x3 x4 x5 x6 y0 y1 y2 y3 y4 y5 y6 q0 q1 q2 q3 q4 q5 q6 hs23 w3 hz1 hz3
  obtain ⟨y0, y1, y2, y3, y4, y5, y6⟩ := HZ1.out.all
  go_wp2_with fail
  clear y0 y1 y2 y3 y4 y5 y6
  go_loopw [46] (fun i wr => ∃ j : Nat, j ≤ m2 ∧ i = .int .i64 (j : Nat) ∧ Hid (Blk wr gd (encFwd dt dt' m2 j 0)) ∧ Hid (But (fun x => x = gd) W wr)) (fun i _ => m2 - (intOf i).toNat)
  case atStart => exact ⟨0, Nat.zero_le _, rfl, HZG, hide (But.refl _ _)⟩
  case round =>
    obtain ⟨j, hj, rfl, hb, hbut⟩ := hrel
    have hzr := hbut.out.size
    obtain ⟨x0, x1, x2, x3, x4, x5, x6⟩ := (show Box wr p0 c (.slice (some a1) n1 c1) (.slice (some a2) n2 c2) from (hbut.out.block _ (by omega) (by omega)).trans HZ0.out).all
    by_cases hjm : j < m2
    · obtain ⟨bb, ob, hbb, _, cb⟩ := (hbut.out.row K2Z.out (by rintro x rfl h; have := HP4.out _ h; omega)).get hjm
      cases hbb
      obtain ⟨b, hbv⟩ : ∃ b, dt'.getD j 0 = b := ⟨_, rfl⟩
      rw [hbv] at cb
      have hbd : -1000000000000000 ≤ b ∧ b ≤ 1000000000000000 := by rw [← hbv]; exact HBB.out j hjm
      have HBV := hide hbv
      clear hbv
      have HDG := hide (digitsOf_any b (some a2) n2 c2 dt wr (hbut.out.row H2Z.out (by rintro x rfl h; have := HP2.out _ h; omega)) HDB.out hbd)
      go_wp2_with (go_at_call 52; refine HDG.out.mono ?_; rintro e wd ⟨gg, rfl, hgg, hBg, hbD⟩; have HGB := hide hBg; have HBD2 := hide hbD; clear hBg hbD)
      clear HDG
      have HBW : Hid (But (fun x => x = gd) W wd) := (hbut.out.trans (But.of_below (S := fun x => x = gd) HBD2.out)).mono (by rintro q (h | h) <;> exact h)
      have HB2 : Hid (Blk wd gd (encFwd dt dt' m2 j 0)) := hb.out.below (Nat.le_refl _) HBD2.out
      have hzd := HBW.out.size
      have hgw : gg < wd.heap.size := HGB.out.lt
      have hglen : ((List.range dt.length).map (encDigit dt b)).length = n2 := by rw [List.length_map, List.length_range]; exact hl2.out
      have HGL := hide hglen
      clear hglen hb hbut HBD2 x0 x1 x2 x3 x4 x5 x6 cb
      have hggd : gd + 1 < gg := by omega
      clear hzr hgg
      go_loopw [56] (fun i wr => ∃ s : Nat, s ≤ n2 ∧ i = .int .i64 (s : Nat) ∧ Hid (Blk wr gd (encFwd dt dt' m2 j s)) ∧ Hid (But (fun x => x = gd) wd wr)) (fun i _ => n2 - (intOf i).toNat)
      case atStart => exact ⟨0, Nat.zero_le _, rfl, HB2, hide (But.refl _ _)⟩
      case round =>
        obtain ⟨s, hs, rfl, hb, hbut⟩ := hrel
        have hzr := hbut.out.size
        have hbw : But (fun x => x = gd) W wr := (HBW.out.trans hbut.out).mono (by rintro q (h | h) <;> exact h)
        by_cases hsn : s < n2
        · obtain ⟨y0, y1, y2, y3, y4, y5, y6⟩ := (show Box wr (p0 + 1) false (.slice (some b1) m1 d1) (.slice (some ⟨bb, ob, none⟩) m2 d2) from (hbw.block _ (by omega) (by omega)).trans HZ1.out).all
          obtain ⟨z0, z1, z2, z3, z4, z5, z6⟩ := (show Box wr (gd + 1) false (.slice ash (n1 + m1) csh) (.slice (some ⟨gd, 0, none⟩) T T) from (hbw.block _ (by omega) (by omega)).trans HZR.out).all
          have hGr : Blk wr gg ((List.range dt.length).map (encDigit dt b)) := (hbut.out.block gg hgw (by omega)).trans HGB.out
          have cgg := hGr.cell (i := s) (by rw [HGL.out]; exact hsn)
          obtain ⟨dg, hdg⟩ : ∃ dg, ((List.range dt.length).map (encDigit dt b)).getD s 0 = dg := ⟨_, rfl⟩
          rw [hdg] at cgg
          have hdv : encDigit dt (dt'.getD j 0) s = dg := by rw [HBV.out, ← hdg]; simp [List.getD, show s < dt.length from by rw [hl2.out]; exact hsn]
          obtain ⟨P, hP⟩ : ∃ P, P = s * m2 := ⟨_, rfl⟩
          obtain ⟨Qp, hQ⟩ : ∃ Qp, Qp = P + j := ⟨_, rfl⟩
          have hPl : Qp < T := by rw [HT.out, hQ, hP]; exact place_lt hsn hjm
          have hPi : (s : Int) * (m2 : Int) = (P : Int) := by rw [hP, Int.natCast_mul]
          have hwP : IntKind.i64.wrap ((s : Int) * (m2 : Int)) = (P : Int) := by rw [hPi, IntKind.wrap_i64]; omega
          have hwQ : IntKind.i64.wrap ((P : Int) + (j : Int)) = (Qp : Int) := by rw [IntKind.wrap_i64]; omega
          have hQi : (P : Int) + (j : Int) = (Qp : Int) := by omega
          have cg := hb.out.cell (i := Qp) (by rw [encFwd_len, hl2.out, ← HT.out]; exact hPl)
          have cf := hb.out.free Qp
          have HST : Hid (encFwd dt dt' m2 j (s + 1) = (encFwd dt dt' m2 j s).set Qp dg) := by
            have h := encFwd_step dt dt' (t := s) hjm
            rw [hdv, ← hP, ← hQ] at h
            exact h.symm
          have HBUT2 := hide hbut.out
          clear hdg hdv hP hQ hGr hbw
          go_wp2_with fail
          go_roundw
          case rel =>
            refine ⟨s + 1, by omega, by go_num, ?_, hide (HBUT2.out.setCell (p := ⟨gd, Qp, none⟩) rfl _)⟩
            show Blk _ _ _
            rw [HST.out]
            exact hb.out.set Qp dg
          case measure => simp [intOf]; omega
        · have hse : s = n2 := by omega
          subst hse
          have HBR := hide hbw
          clear hbw
          go_wp2_with fail
          go_roundw
          case rel =>
            refine ⟨j + 1, by omega, by go_num, ?_, HBR⟩
            show Blk _ _ _
            rw [← encFwd_col, hl2.out]
            exact hb.out
          case measure => simp [intOf]; omega
    · have hje : j = m2 := by omega
      subst hje
      obtain ⟨z0, z1, z2, z3, z4, z5, z6⟩ := (show Box wr (gd + 1) false (.slice ash (n1 + m1) csh) (.slice (some ⟨gd, 0, none⟩) T T) from (hbut.out.block _ (by omega) (by omega)).trans HZR.out).all
      have hB2 : Box wr (p0 + 2) false (.slice none 0 0) (.slice none 0 0) := (hbut.out.block _ (by omega) (by omega)).trans HZ2.out
      obtain ⟨q0, q1, q2, q3, q4, q5, q6⟩ := hB2.all
      have HB2 := hide hB2
      clear hB2 x0 x1 x2 x3 x4 x5 x6
      go_wp2_with fail
      have hOr : Own wr (p0 + 3) ash (n1 + m1) (sh ++ sh') := hbut.out.own HZO.out (by rintro k rfl h; have := HZL.out _ h; omega)
      have hres := Res5.set (w := w) (W := wr) (d := false) (zs := sh ++ sh') (ys := encAll dt dt' j) (n := n1 + m1) (N := T) (box := p0 + 2) (gd := gd) (csh := csh) (ash := ash) HB2.out (hOr.mono (by rw [← HP.out]; omega)) (by rw [← HP.out]; omega) (by rw [← encFwd_all]; exact hb.out) (fun h => by have := HZL.out _ h; omega) (by rw [← HP.out]; exact HZB.out.trans (hbut.out.below (B := p0) (by omega) (by rintro x rfl; omega))) (fun h => by have := hOr.low h; omega) (by omega) (by rw [← HP.out]; omega)
      obtain ⟨ash', csh', gd', hbx, hO', hgd', hB', hne', hbl'⟩ := hres
      obtain ⟨q0, q1, q2, q3, q4, q5, q6⟩ := hbx.all
      refine bodyPost_ret (v := .tuple #[.agg #[.bool false, .slice ash' (n1 + m1) csh', .slice (some ⟨gd', 0, none⟩) T T], .int .i64 0]) (by simp [results, Try.results23, go_sem, q0, q1, q2]) rfl ?_
      exact gives_res (by simp [encAll]; rw [hl2.out, ← HT.out]) (by omega) hO' hgd' hB' hne' hbl'

end Go.Proofs.Ytogmcecnckgcpaa
