import Derived.Test.YtkgcmpmgaghdhaaGreatDoorImplDrawB
import Derived.Test.YtkgcmpmgaghdhaaGreatDoorCatFinal
import Derived.Test.YtkgcmpmgaghdhaaGreatDoorImplExt
import Derived.Test.YtkgcmpmgaghdhaaGreatDoorMFit3
import Derived.Test.YtkgcmpmgaghdhaaGreatDoorImplEnd5
import Derived.Test.YtkgcmpmgaghdhaaGreatDoorImplClone
import Derived.Test.YtkgcmpmgaghdhaaGreatDoorMFit0
import Derived.Test.YtkgcmpmgaghdhaaGreatDoorMFit1
import Derived.Deep.DeepCutAuto
namespace Go.Proofs.YtkgcmpmgaghdhaaGreatDoor
open Go.RowKit Go.Shelf

theorem cat_code {c d : Bool} {sh dt sh' dt' : List Int} {J : Int} (h1 : arrOk c sh dt = true) (h2 : arrOk d sh' dt' = true) (hJ : joinN c d (sideSh sh sh') (sideDt sh dt sh') (sideSh sh' sh) (sideDt sh' dt' sh) = J) (h0 : J ≠ 0) : catenate c d sh dt sh' dt' = noAns J := by
  unfold joinN at hJ
  by_cases hl : (sideSh sh sh').length = (sideSh sh' sh).length
  · rw [if_neg (by simp [hl])] at hJ
    by_cases hf : front (sideSh sh sh') = front (sideSh sh' sh)
    · rw [if_neg (by simp [hf])] at hJ
      by_cases hd : c ≠ d ∧ sideDt sh dt sh' ≠ [] ∧ sideDt sh' dt' sh ≠ []
      · rw [if_pos hd] at hJ; rw [← hJ]; exact cat_dom h1 h2 rfl rfl rfl rfl hl hf hd
      · rw [if_neg hd] at hJ; exact absurd hJ.symm h0
    · rw [if_pos hf] at hJ; rw [← hJ]; exact cat_len h1 h2 rfl rfl hl hf
  · rw [if_pos hl] at hJ; rw [← hJ]; exact cat_rank h1 h2 hl

theorem join_zero {c d : Bool} {L X R Y : List Int} (h : joinN c d L X R Y = 0) : L.length = R.length ∧ front L = front R ∧ ¬ (c ≠ d ∧ X ≠ [] ∧ Y ≠ []) := by
  unfold joinN at h
  by_cases hl : L.length = R.length
  · rw [if_neg (by simp [hl])] at h
    by_cases hf : front L = front R
    · rw [if_neg (by simp [hf])] at h
      by_cases hd : c ≠ d ∧ X ≠ [] ∧ Y ≠ []
      · rw [if_pos hd] at h; omega
      · exact ⟨hl, hf, hd⟩
    · rw [if_pos hf] at h; omega
  · rw [if_pos hl] at h; omega

theorem set_last {L : List Int} {p : Nat} (h : L.length = p + 1) (v : Int) : L.set p v = front L ++ [v] := by
  have hne : L ≠ [] := by intro e; rw [e] at h; simp at h
  have hf : (front L).length = p := by simp [front]; omega
  conv => lhs; rw [front_last hne]
  rw [List.set_append_right _ _ (by omega), hf]
  simp

set_option maxRecDepth 20000 in
set_option maxHeartbeats 8000000 in
theorem implCat_bad1 (c d : Bool) (a1 a2 b1 b2 : Addr) (n1 n2 m1 m2 c1 c2 d1 d2 : Nat) (sh dt sh' dt' : List Int) (w : World) (h1 : Row w (some a1) n1 sh) (h2 : Row w (some a2) n2 dt) (k1 : Row w (some b1) m1 sh') (k2 : Row w (some b2) m2 dt') (hr1 : arrOk c sh dt = false) :
    Calls Tryz.prog 35 #[.agg #[.bool c, .slice (some a1) n1 c1, .slice (some a2) n2 c2], .agg #[.bool d, .slice (some b1) m1 d1, .slice (some b2) m2 d2]] w (GivesOwn w (noAns 3)) := by
  have HR1 := hide hr1
  have H1 := hide h1
  have H2 := hide h2
  have K1 := hide k1
  have K2 := hide k2
  clear h1 h2 k1 k2 hr1
  go_enter Tryz.func35, Tryz.ntmps35
  go_wp2_with (first | (go_at_call_of 43 (Value.agg #[Value.bool c, Value.slice (some a1) n1 c1, Value.slice (some a2) n2 c2]); refine (implArrayOk_eq c (some a1) (some a2) n1 n2 c1 c2 sh dt _ ((((unhide H1).alloc _).alloc _).alloc _) ((((unhide H2).alloc _).alloc _).alloc _) _ HR1).mono ?_; rintro e w1 ⟨rfl, hb1⟩; obtain ⟨B0, B1, B2, hB1⟩ := boxes3 hb1; have HB0 := hide B0; have HB1 := hide B1; have HB2 := hide B2; have HB := hide hB1; obtain ⟨x0, x1, x2, x3, x4, x5, x6⟩ := B0.all; obtain ⟨y0, y1, y2, y3, y4, y5, y6⟩ := B1.all; obtain ⟨q0, q1, q2, q3, q4, q5, q6⟩ := B2.all; clear hb1 hB1 B0 B1 B2))
  refine bodyPost_ret (v := .tuple #[.agg #[.bool false, .slice none 0 0, .slice none 0 0], .int .i64 3]) (by simp [results, Tryz.results35, go_sem, q0, q1, q2]) rfl ?_
  exact gives_none ((((unhide HB).setCell (by simp <;> omega) _).setCell (by simp <;> omega) _).setCell (by simp <;> omega) _)

set_option maxRecDepth 20000 in
set_option maxHeartbeats 8000000 in
theorem implCat_bad2 (c d : Bool) (a1 a2 b1 b2 : Addr) (n1 n2 m1 m2 c1 c2 d1 d2 : Nat) (sh dt sh' dt' : List Int) (w : World) (h1 : Row w (some a1) n1 sh) (h2 : Row w (some a2) n2 dt) (k1 : Row w (some b1) m1 sh') (k2 : Row w (some b2) m2 dt') (hr1 : arrOk c sh dt = true) (hr2 : arrOk d sh' dt' = false) :
    Calls Tryz.prog 35 #[.agg #[.bool c, .slice (some a1) n1 c1, .slice (some a2) n2 c2], .agg #[.bool d, .slice (some b1) m1 d1, .slice (some b2) m2 d2]] w (GivesOwn w (noAns 3)) := by
  have HR1 := hide hr1
  have HR2 := hide hr2
  have H1 := hide h1
  have H2 := hide h2
  have K1 := hide k1
  have K2 := hide k2
  clear h1 h2 k1 k2 hr1 hr2
  go_enter Tryz.func35, Tryz.ntmps35
  go_wp2_with (first | (go_at_call_of 43 (Value.agg #[Value.bool c, Value.slice (some a1) n1 c1, Value.slice (some a2) n2 c2]); refine (implArrayOk_eq c (some a1) (some a2) n1 n2 c1 c2 sh dt _ ((((unhide H1).alloc _).alloc _).alloc _) ((((unhide H2).alloc _).alloc _).alloc _) _ HR1).mono ?_; rintro e w1 ⟨rfl, hb1⟩; obtain ⟨B0, B1, B2, hB1⟩ := boxes3 hb1; have HB0 := hide B0; have HB1 := hide B1; have HB2 := hide B2; have HB := hide hB1; obtain ⟨x0, x1, x2, x3, x4, x5, x6⟩ := B0.all; obtain ⟨y0, y1, y2, y3, y4, y5, y6⟩ := B1.all; obtain ⟨q0, q1, q2, q3, q4, q5, q6⟩ := B2.all; clear hb1 hB1 B0 B1 B2) | (go_at_call_of 43 (Value.agg #[Value.bool d, Value.slice (some b1) m1 d1, Value.slice (some b2) m2 d2]); refine (implArrayOk_eq d (some b1) (some b2) m1 m2 d1 d2 sh' dt' _ ((unhide K1).below (Nat.le_refl _) (unhide HB)) ((unhide K2).below (Nat.le_refl _) (unhide HB)) _ HR2).mono ?_; rintro e w2 ⟨rfl, hb2⟩; have HC0 := hide ((unhide HB0).below (Nat.le_refl _) hb2); have HC1 := hide ((unhide HB1).below (Nat.le_refl _) hb2); have HC2 := hide ((unhide HB2).below (Nat.le_refl _) hb2); have HC := hide ((unhide HB).trans (hb2.mono (unhide HB).size)); clear hb2 x0 x1 x2 x3 x4 x5 x6 y0 y1 y2 y3 y4 y5 y6 q0 q1 q2 q3 q4 q5 q6 HB0 HB1 HB2 HB; obtain ⟨x0, x1, x2, x3, x4, x5, x6⟩ := (unhide HC0).all; obtain ⟨y0, y1, y2, y3, y4, y5, y6⟩ := (unhide HC1).all; obtain ⟨q0, q1, q2, q3, q4, q5, q6⟩ := (unhide HC2).all))
  refine bodyPost_ret (v := .tuple #[.agg #[.bool false, .slice none 0 0, .slice none 0 0], .int .i64 3]) (by simp [results, Tryz.results35, go_sem, q0, q1, q2]) rfl ?_
  exact gives_none ((((unhide HC).setCell (by simp <;> omega) _).setCell (by simp <;> omega) _).setCell (by simp <;> omega) _)

set_option maxRecDepth 20000 in
set_option maxHeartbeats 8000000 in
theorem implCat_go (c d : Bool) (a1 a2 b1 b2 : Addr) (n1 n2 m1 m2 c1 c2 d1 d2 : Nat) (sh dt sh' dt' : List Int) (w : World) (h1 : Row w (some a1) n1 sh) (h2 : Row w (some a2) n2 dt) (k1 : Row w (some b1) m1 sh') (k2 : Row w (some b2) m2 dt') (hc1 : n1 ≤ c1) (hc2 : n2 ≤ c2) (hd1 : m1 ≤ d1) (hd2 : m2 ≤ d2) (hr1 : arrOk c sh dt = true) (hr2 : arrOk d sh' dt' = true) :
    Calls Tryz.prog 35 #[.agg #[.bool c, .slice (some a1) n1 c1, .slice (some a2) n2 c2], .agg #[.bool d, .slice (some b1) m1 d1, .slice (some b2) m2 d2]] w (GivesOwn w (catenate c d sh dt sh' dt')) := by
  obtain ⟨Z, hZ⟩ : ∃ Z, catenate c d sh dt sh' dt' = Z := ⟨_, rfl⟩
  rw [hZ]
  have HZ := hide hZ
  clear hZ
  have HR1 := hide hr1
  have HR2 := hide hr2
  have H1 := hide h1
  have H2 := hide h2
  have K1 := hide k1
  have K2 := hide k2
  clear h1 h2 k1 k2 hr1 hr2
  go_enter Tryz.func35, Tryz.ntmps35
  go_upto_region 3 with (first | (go_at_call_of 43 (Value.agg #[Value.bool c, Value.slice (some a1) n1 c1, Value.slice (some a2) n2 c2]); refine (implArrayOk_eq c (some a1) (some a2) n1 n2 c1 c2 sh dt _ ((((unhide H1).alloc _).alloc _).alloc _) ((((unhide H2).alloc _).alloc _).alloc _) _ HR1).mono ?_; rintro e w1 ⟨rfl, hb1⟩; obtain ⟨B0, B1, B2, hB1⟩ := boxes3 hb1; have HB0 := hide B0; have HB1 := hide B1; have HB2 := hide B2; have HB := hide hB1; obtain ⟨x0, x1, x2, x3, x4, x5, x6⟩ := B0.all; obtain ⟨y0, y1, y2, y3, y4, y5, y6⟩ := B1.all; obtain ⟨q0, q1, q2, q3, q4, q5, q6⟩ := B2.all; clear hb1 hB1 B0 B1 B2) | (go_at_call_of 43 (Value.agg #[Value.bool d, Value.slice (some b1) m1 d1, Value.slice (some b2) m2 d2]); refine (implArrayOk_eq d (some b1) (some b2) m1 m2 d1 d2 sh' dt' _ ((unhide K1).below (Nat.le_refl _) (unhide HB)) ((unhide K2).below (Nat.le_refl _) (unhide HB)) _ HR2).mono ?_; rintro e w2 ⟨rfl, hb2⟩; have HC0 := hide ((unhide HB0).below (Nat.le_refl _) hb2); have HC1 := hide ((unhide HB1).below (Nat.le_refl _) hb2); have HC2 := hide ((unhide HB2).below (Nat.le_refl _) hb2); have HC := hide ((unhide HB).trans (hb2.mono (unhide HB).size)); clear hb2 x0 x1 x2 x3 x4 x5 x6 y0 y1 y2 y3 y4 y5 y6 q0 q1 q2 q3 q4 q5 q6 HB0 HB1 HB2 HB; obtain ⟨x0, x1, x2, x3, x4, x5, x6⟩ := (unhide HC0).all; obtain ⟨y0, y1, y2, y3, y4, y5, y6⟩ := (unhide HC1).all; obtain ⟨q0, q1, q2, q3, q4, q5, q6⟩ := (unhide HC2).all))
  clear x0 x1 x2 x3 x4 x5 x6 y0 y1 y2 y3 y4 y5 y6 q0 q1 q2 q3 q4 q5 q6
  have hzw2 : w.heap.size + 2 < w2.heap.size := (unhide HC2).lt
  go_cut [6, 7] (fun v6 v7 wx => ∃ P Q, v6 = .pointer (some ⟨P, 0, none⟩) ∧ v7 = .pointer (some ⟨Q, 0, none⟩) ∧ ∃ s u : Side, Box wx P c s.v1 s.v2 ∧ Box wx Q d u.v1 u.v2 ∧ SideIn s (sideSh sh sh') (sideDt sh dt sh') wx ∧ SideIn u (sideSh sh' sh) (sideDt sh' dt' sh) wx ∧ w2.heap.size ≤ P ∧ w2.heap.size ≤ Q ∧ P ≠ Q ∧ Below w2.heap.size w2 wx)
  case first =>
    as_aux_lemma =>
    have hHC := (unhide HC)
    refine regionB _ w2 (by simp) w.heap.size (w.heap.size + 1) rfl rfl c d (some a1) (some a2) (some b1) (some b2) n1 c1 n2 c2 m1 d1 m2 d2 (sideSh sh sh') (sideDt sh dt sh') (sideSh sh' sh) (sideDt sh' dt' sh)
      (fun wx hwx => ⟨(unhide HC0).below (Nat.le_refl _) hwx, (unhide HC1).below (Nat.le_refl _) hwx⟩)
      (fun wx hwx => beside_side c d a1 a2 n1 n2 c1 c2 b1 m1 d1 sh dt sh' dt' wx (((unhide H1).below (Nat.le_refl _) hHC).below (Nat.le_refl _) hwx) (((unhide H2).below (Nat.le_refl _) hHC).below (Nat.le_refl _) hwx) (((unhide K1).below (Nat.le_refl _) hHC).below (Nat.le_refl _) hwx) (unhide HR1) (unhide HR2) hc1 hc2 hd1)
      (fun wx hwx => beside_side d c b1 b2 m1 m2 d1 d2 a1 n1 c1 sh' dt' sh dt wx (((unhide K1).below (Nat.le_refl _) hHC).below (Nat.le_refl _) hwx) (((unhide K2).below (Nat.le_refl _) hHC).below (Nat.le_refl _) hwx) (((unhide H1).below (Nat.le_refl _) hHC).below (Nat.le_refl _) hwx) (unhide HR2) (unhide HR1) hd1 hd2 hc1)
      (fun _ _ _ _ _ h => h) ?_
    intro P Q s u wx hP hQ hs hu lP lQ hPQ hb
    simp only [outB, frB, ptB, if_true, Act.put, List.setIfInBounds_toArray, List.set_cons_zero, List.set_cons_succ]
    go_wp2_with fail
    go_meet
    case rel => exact ⟨P, Q, rfl, rfl, s, u, hP, hQ, hs, hu, lP, lQ, hPQ, hb⟩
  case rest =>
    obtain ⟨w3, hw3⟩ : ∃ x, x = wc := ⟨_, rfl⟩
    subst hw3
    obtain ⟨P, Q, rfl, rfl, ⟨ba, oa, p1, e1, A2, p2, e2⟩, ⟨bb, ob, q1, f1, B2, q2, f2⟩, hP, hQ, ⟨r1, r2, le1, le3⟩, ⟨r3, r4, le2, le4⟩, lP, lQ, hPQ, hb3⟩ := hcut
    simp only [Side.v1, Side.v2] at hP hQ
    simp only at r1 r2 r3 r4 le1 le2 le3 le4
    have hs1 := side_in (unhide HR1) (unhide HR2)
    have hs2 := side_in (unhide HR2) (unhide HR1)
    have hcg : ∀ J, joinN c d (sideSh sh sh') (sideDt sh dt sh') (sideSh sh' sh) (sideDt sh' dt' sh) = J → J ≠ 0 → catenate c d sh dt sh' dt' = noAns J := fun J h h0 => cat_code (unhide HR1) (unhide HR2) h h0
    have hcb : (sideSh sh sh').length = (sideSh sh' sh).length → front (sideSh sh sh') = front (sideSh sh' sh) → ¬ (c ≠ d ∧ sideDt sh dt sh' ≠ [] ∧ sideDt sh' dt' sh ≠ []) → shapeB (front (sideSh sh sh') ++ [last (sideSh sh sh') + last (sideSh sh' sh)]) = false → catenate c d sh dt sh' dt' = noAns 7 := fun h1 h2 h3 h4 => cat_big (unhide HR1) (unhide HR2) rfl rfl rfl rfl h1 h2 h3 h4
    have hcc : (sideSh sh sh').length = (sideSh sh' sh).length → front (sideSh sh sh') = front (sideSh sh' sh) → ¬ (c ≠ d ∧ sideDt sh dt sh' ≠ [] ∧ sideDt sh' dt' sh ≠ []) → shapeB (front (sideSh sh sh') ++ [last (sideSh sh sh') + last (sideSh sh' sh)]) = true → catenate c d sh dt sh' dt' = ⟨if sideDt sh dt sh' = [] ∧ sideDt sh' dt' sh ≠ [] then d else c, front (sideSh sh sh') ++ [last (sideSh sh sh') + last (sideSh sh' sh)], catN (sideDt sh dt sh') (sideDt sh' dt' sh) (last (sideSh sh sh')).toNat (last (sideSh sh' sh)).toNat (prodAll (front (sideSh sh sh'))).toNat, 0⟩ := fun h1 h2 h3 h4 => cat_go (unhide HR1) (unhide HR2) rfl rfl rfl rfl h1 h2 h3 h4
    rw [unhide HZ] at hcg hcb hcc
    obtain ⟨L, hL⟩ : ∃ L, sideSh sh sh' = L := ⟨_, rfl⟩
    obtain ⟨R, hR⟩ : ∃ R, sideSh sh' sh = R := ⟨_, rfl⟩
    obtain ⟨X, hX⟩ : ∃ X, sideDt sh dt sh' = X := ⟨_, rfl⟩
    obtain ⟨Y, hY⟩ : ∃ Y, sideDt sh' dt' sh = Y := ⟨_, rfl⟩
    rw [hL, hX] at hs1
    rw [hR, hY] at hs2
    rw [hL] at r1
    rw [hX] at r2
    rw [hR] at r3
    rw [hY] at r4
    rw [hL, hR, hX, hY] at hcg hcb hcc
    obtain ⟨hLi, hL5, _, hLp⟩ := hs1
    obtain ⟨hRi, hR5, _, hRp⟩ := hs2
    have lL := r1.len
    have lX := r2.len
    have lR := r3.len
    have lY := r4.len
    rw [lL] at hL5
    rw [lR] at hR5
    rw [lX] at hLp
    rw [lY] at hRp
    have hp2 : p2 ≤ 10000 := by have := hLi.bd.2; omega
    have hq2 : q2 ≤ 10000 := by have := hRi.bd.2; omega
    have HLI := hide hLi
    have HRI := hide hRi
    have HLP := hide hLp
    have HRP := hide hRp
    have HCG := hide hcg
    have HCB := hide hcb
    have HCC := hide hcc
    have HP := hide hP
    have HQ := hide hQ
    have SL := hide r1
    have SX := hide r2
    have SR := hide r3
    have SY := hide r4
    have HLL := hide lL
    have HLX := hide lX
    have HLR := hide lR
    have HLY := hide lY
    have HB3 := hide ((unhide HC).trans (hb3.mono (unhide HC).size))
    have HD2 := hide ((unhide HC2).below (Nat.le_refl _) hb3)
    have hz3 := hb3.size
    clear hcg hcb hcc HZ hL hR hX hY hP hQ r1 r2 r3 r4 lL lX lR lY hLi hRi hLp hRp hb3 HC0 HC1 HC2 HC H1 H2 K1 K2 HR1 HR2
    obtain ⟨J, hJ⟩ : ∃ J, joinN c d L X R Y = J := ⟨_, rfl⟩
    have HJ := hide hJ
    clear hJ
    obtain ⟨x0, x1, x2, x3, x4, x5, x6⟩ := (unhide HP).all
    obtain ⟨y0, y1, y2, y3, y4, y5, y6⟩ := (unhide HQ).all
    go_upto_region 5 with (go_at_call 104; refine (joinCode_any c d ba oa bb ob A2 B2 p1 p2 q1 q2 e1 e2 f1 f2 L X R Y _ (unhide SL) (unhide HLX) (unhide SR) (unhide HLY) (unhide HLI) (unhide HRI) le1 le2 hL5 hR5 hp2 hq2).mono ?_; rw [unhide HJ]; rintro e w4 ⟨rfl, hb4⟩; have HB4 := hide hb4; clear hb4)
    have HP4 := hide ((unhide HP).below (Nat.le_refl _) (unhide HB4))
    have HQ4 := hide ((unhide HQ).below (Nat.le_refl _) (unhide HB4))
    have HD4 := hide ((unhide HD2).below (Nat.le_refl _) (unhide HB4))
    have HW4 := hide ((unhide HB3).trans ((unhide HB4).mono (unhide HB3).size))
    have SL4 := hide ((unhide SL).below (Nat.le_refl _) (unhide HB4))
    have SX4 := hide ((unhide SX).below (Nat.le_refl _) (unhide HB4))
    have SR4 := hide ((unhide SR).below (Nat.le_refl _) (unhide HB4))
    have SY4 := hide ((unhide SY).below (Nat.le_refl _) (unhide HB4))
    have hzP := (unhide HP4).lt
    have hzQ := (unhide HQ4).lt
    clear x0 x1 x2 x3 x4 x5 x6 y0 y1 y2 y3 y4 y5 y6 HP HQ HD2 HB3 SL SX SR SY HB4
    by_cases hJ0 : J = 0
    · subst hJ0
      obtain ⟨hlen, hfr, hnd⟩ := join_zero (unhide HJ)
      obtain rfl : q1 = p1 := by have := unhide HLL; have := unhide HLR; omega
      obtain ⟨xn, hxn⟩ : ∃ n : Nat, L.getD q1 0 = (n : Int) := ⟨(L.getD q1 0).toNat, by have := (unhide HLI).cell q1; omega⟩
      obtain ⟨yn, hyn⟩ : ∃ n : Nat, R.getD q1 0 = (n : Int) := ⟨(R.getD q1 0).toNat, by have := (unhide HRI).cell q1; omega⟩
      have hxb : xn ≤ 10000 := by have := (unhide HLI).cell q1; omega
      have hyb : yn ≤ 10000 := by have := (unhide HRI).cell q1; omega
      obtain ⟨_, _, ea, _, cl⟩ := (unhide SL4).get (show q1 < q1 + 1 by omega)
      cases ea
      obtain ⟨_, _, ea, _, cr⟩ := (unhide SR4).get (show q1 < q1 + 1 by omega)
      cases ea
      rw [hxn] at cl
      rw [hyn] at cr
      have HXN : Hid (last L = (xn : Int)) := by show _ = _; rw [← hxn]; unfold last; rw [unhide HLL]; rfl
      have HYN : Hid (last R = (yn : Int)) := by show _ = _; rw [← hyn]; unfold last; rw [unhide HLR]; rfl
      have HXG := hide hxn
      have HFR := hide hfr
      have HLE := hide hlen
      have HND := hide hnd
      have hq5 : q1 ≤ 4 := by omega
      have hyg := hyn
      clear hxn hyn hfr hlen hnd HCG HJ
      obtain ⟨x0, x1, x2, x3, x4, x5, x6⟩ := (unhide HP4).all
      go_upto_region 10 with (go_at_call 65; refine (Clone_any ⟨ba, oa, none⟩ (q1 + 1) e1 L _ ((unhide SL4).alloc _)).mono ?_; rintro e w5 ⟨ash, csh, rfl, hcs, hO, hb5⟩; have HO5 := hide hO; have HB5 := hide hb5; clear hO hb5)
      obtain ⟨W4, hW4⟩ : ∃ x, x = w4.alloc (.cells #[.int .i64 (xn : Int)] 3) := ⟨_, rfl⟩
      rw [← hW4] at HB5 HO5
      have hz44 : W4.heap.size = w4.heap.size + 1 := by rw [hW4]; simp
      have HA4 : Hid (Below w4.heap.size w4 W4) := by rw [hW4]; exact (Below.refl _ _).alloc (Nat.le_refl _) _
      have HGW : Hid (W4.cell? ⟨w4.heap.size, 0, none⟩ = some (.int .i64 (xn : Int))) := by rw [hW4]; exact cell_of_row _ _ 0 _ _ (0, 0) (heap_alloc_last w4 _)
      obtain ⟨gw, hgw⟩ : ∃ gw, gw = w4.heap.size := ⟨_, rfl⟩
      rw [← hgw] at HGW hz44
      have hz5 := (unhide HB5).size
      obtain h0 | ⟨gs, os, rfl, hgl, hglt, hcs5, hfs5⟩ := (unhide HO5).at_
      · omega
      have cs := hcs5 q1 (by omega)
      have fs := hfs5 q1 (by omega)
      rw [unhide HXG] at cs
      obtain ⟨y0, y1, y2, y3, y4, y5, y6⟩ := (((unhide HQ4).below (Nat.le_refl _) (unhide HA4)).below (Nat.le_refl _) (unhide HB5)).all
      obtain ⟨_, _, ea, _, cr5⟩ := (((unhide SR4).below (Nat.le_refl _) (unhide HA4)).below (Nat.le_refl _) (unhide HB5)).get (show q1 < q1 + 1 by omega)
      cases ea
      have hadd : IntKind.i64.wrap ((xn : Int) + (yn : Int)) = (xn : Int) + (yn : Int) := by rw [IntKind.wrap_i64]; omega
      rw [hyg] at cr5
      obtain ⟨ZS, hZS⟩ : ∃ Z, front L ++ [(xn : Int) + (yn : Int)] = Z := ⟨_, rfl⟩
      have HZS := hide hZS
      clear hcs5 hfs5 cl cr hyg x0 x1 x2 x3 x4 x5 x6 hW4
      rw [← hgw]
      have HG := hide hgw
      have HZ4 := hide hz44
      clear hgw hz44 hZS
      go_cut [] (fun wx => Own wx W4.heap.size (some ⟨gs, os, none⟩) (q1 + 1) ZS ∧ Below W4.heap.size W4 wx)
      case first =>
        as_aux_lemma =>
        go_region_with (fail)
        all_goals go_wp2_with fail
        all_goals go_meet
        all_goals case rel =>
          rw [← unhide HZS, ← set_last (unhide HLL)]
          first
            | exact ⟨(Own.set (unhide HO5) (by omega) _).below (Nat.le_refl _) (Below.refl _ _).drew, ((unhide HB5).setCell (p := ⟨gs, os + q1, none⟩) hgl _).drew⟩
            | exact ⟨Own.set ((unhide HO5).below (Nat.le_refl _) (Below.refl _ _).drew) (by omega) _, ((unhide HB5).drew).setCell (p := ⟨gs, os + q1, none⟩) hgl _⟩
      case rest =>
        obtain ⟨w6, hw6⟩ : ∃ x, x = wc := ⟨_, rfl⟩
        subst hw6
        obtain ⟨hO6, hb6⟩ := hcut
        have HO6 := hide hO6
        have HA6 : Hid (Below w4.heap.size w4 w6) := (unhide HA4).trans (hb6.mono (unhide HA4).size)
        have HP6 := hide ((unhide HP4).below (Nat.le_refl _) (unhide HA6))
        have HQ6 := hide ((unhide HQ4).below (Nat.le_refl _) (unhide HA6))
        have HD6 := hide ((unhide HD4).below (Nat.le_refl _) (unhide HA6))
        have SL6 := hide ((unhide SL4).below (Nat.le_refl _) (unhide HA6))
        have SX6 := hide ((unhide SX4).below (Nat.le_refl _) (unhide HA6))
        have SR6 := hide ((unhide SR4).below (Nat.le_refl _) (unhide HA6))
        have SY6 := hide ((unhide SY4).below (Nat.le_refl _) (unhide HA6))
        have HW6 := hide ((unhide HW4).trans ((unhide HA6).mono (unhide HW4).size))
        have HG6 : Hid (w6.cell? ⟨gw, 0, none⟩ = some (.int .i64 (xn : Int))) := (hb6.cell (p := ⟨gw, 0, none⟩) (by have := unhide HZ4; show gw < W4.heap.size; omega)).trans (unhide HGW)
        have hgw6 : gw < w6.heap.size := by have := hb6.size; have := unhide HZ4; omega
        have hgwP : P < gw ∧ Q < gw := by have := unhide HG; omega
        have hgwS : gw < gs := by have := unhide HZ4; omega
        have hgs6 : gs < w6.heap.size := (unhide HO6).row.hi (at_self (by omega))
        have hw2g : w2.heap.size ≤ gw := by have := unhide HG; omega
        clear hO6 hb6 HP4 HQ4 HD4 SL4 SX4 SR4 SY4 HW4 HA4 HB5 HO5 HGW HA6 cs fs y0 y1 y2 y3 y4 y5 y6 cr5 hz5 hgl hglt
        obtain ⟨sb, hsb⟩ : ∃ r, shapeB ZS = r := ⟨_, rfl⟩
        have HSB := hide hsb
        clear hsb
        cases sb with
        | false =>
          have HZ7 : Hid (Z = noAns 7) := (unhide HCB) (unhide HLE) (unhide HFR) (unhide HND) (by rw [unhide HXN, unhide HYN, unhide HZS]; exact unhide HSB)
          obtain ⟨z0, z1, z2, z3, z4, z5, z6⟩ := (unhide HD6).all
          clear HCB HCC
          go_wp2_with (go_at_call 67; refine (shapeOk_eq _ _ _ ZS _ (unhide HO6).row _ HSB).mono ?_; rintro e wq ⟨rfl, hw⟩; obtain rfl := hw.symm)
          refine bodyPost_ret (v := .tuple #[.agg #[.bool false, .slice none 0 0, .slice none 0 0], .int .i64 7]) (by simp [results, Tryz.results35, go_sem, z0, z1, z2]) rfl ?_
          rw [unhide HZ7]
          exact gives_none ((((unhide HW6).setCell (by simp <;> omega) _).setCell (by simp <;> omega) _).setCell (by simp <;> omega) _)
        | true =>
          have hfl : (front L).length = q1 := by have := unhide HLL; simp [front]; omega
          have eL : L = front L ++ [(xn : Int)] := by
            have := front_last (l := L) (by intro e; have := unhide HLL; rw [e] at this; simp at this)
            rwa [unhide HXN] at this
          have eR : R = front L ++ [(yn : Int)] := by
            have := front_last (l := R) (by intro e; have := unhide HLR; rw [e] at this; simp at this)
            rwa [unhide HYN, ← unhide HFR] at this
          have hFi : ShapeIn (front L) := (unhide HLI).take _
          obtain ⟨Bn, hBn⟩ : ∃ n : Nat, prodAll (front L) = (n : Int) := ⟨(prodAll (front L)).toNat, by have := hFi.bd.1; omega⟩
          obtain ⟨M, hM⟩ : ∃ M, M = Bn * (xn + yn) := ⟨_, rfl⟩
          have hMZ : prodAll ZS = (M : Int) := by rw [← unhide HZS, prodAll_append, hBn, hM]; simp [prodAll]
          have hMb : M ≤ 10000 := by have := shapeB_count (unhide HSB); rw [← prodAll_count _ (unhide HSB), hMZ] at this; omega
          have HMZ := hide hMZ
          have hSZ : ShapeIn ZS := (shapeB_in (unhide HSB)).1
          have HSZ := hide hSZ
          obtain ⟨chr, hchr⟩ : ∃ r, (if p2 = 0 ∧ 0 < q2 then d else c) = r := ⟨_, rfl⟩
          obtain ⟨tx, htx⟩ : ∃ t : Nat, t = if p2 = 1 then 0 else 1 := ⟨_, rfl⟩
          obtain ⟨ty, hty⟩ : ∃ t : Nat, t = if q2 = 1 then 0 else 1 := ⟨_, rfl⟩
          have HFIN := hide (cat_final (X := X) (Y := Y) eL eR (show ZS = front L ++ [((xn + yn : Nat) : Int)] by rw [← unhide HZS]; simp) hfl (unhide HLI) (unhide HRI) (unhide HLP) (unhide HRP) (unhide HLX) (unhide HLY) hBn hM htx hty)
          have HZG : Hid (Z = ⟨chr, ZS, catN X Y xn yn Bn, 0⟩) := by
            show _ = _
            rw [(unhide HCC) (unhide HLE) (unhide HFR) (unhide HND) (by rw [unhide HXN, unhide HYN, unhide HZS]; exact unhide HSB), unhide HXN, unhide HYN, unhide HZS, hBn, ← hchr]
            have e1 : (X = [] ∧ Y ≠ []) ↔ (p2 = 0 ∧ 0 < q2) := by rw [← unhide HLX, ← unhide HLY, List.length_eq_zero_iff, List.length_pos_iff]
            by_cases hh : p2 = 0 ∧ 0 < q2
            · rw [if_pos hh, if_pos (e1.2 hh)]; simp
            · rw [if_neg hh, if_neg (fun h => hh (e1.1 h))]; simp
          have HJC : Hid (∀ w, Calls Tryz.prog 105 #[.agg #[.bool c, .slice (some ⟨ba, oa, none⟩) (q1 + 1) e1, .slice (some A2) p2 e2], .agg #[.bool d, .slice (some ⟨bb, ob, none⟩) (q1 + 1) f1, .slice (some B2) q2 f2]] w fun e w' => e = .returned (.bool chr) ∧ Below w.heap.size w w') := fun w => by rw [← hchr]; exact jointChar_any c d _ _ (some A2) (some B2) p2 q2 e2 f2 w hp2 hq2
          have HEX : Hid (∀ w, Calls Tryz.prog 54 #[.agg #[.bool c, .slice (some ⟨ba, oa, none⟩) (q1 + 1) e1, .slice (some A2) p2 e2], .int .i64 (p2 : Nat)] w fun e w' => e = .returned (.agg #[.slice (some A2) p2 e2, .int .i64 0, .int .i64 (tx : Nat), .int .i64 (p2 : Nat)]) ∧ Below w.heap.size w w') := fun w => by rw [htx]; exact extended_any c (some ⟨ba, oa, none⟩) A2 (q1 + 1) p2 e1 e2 p2 (by omega) w
          have HEY : Hid (∀ w, Calls Tryz.prog 54 #[.agg #[.bool d, .slice (some ⟨bb, ob, none⟩) (q1 + 1) f1, .slice (some B2) q2 f2], .int .i64 (q2 : Nat)] w fun e w' => e = .returned (.agg #[.slice (some B2) q2 f2, .int .i64 0, .int .i64 (ty : Nat), .int .i64 (q2 : Nat)]) ∧ Below w.heap.size w w') := fun w => by rw [hty]; exact extended_any d (some ⟨bb, ob, none⟩) B2 (q1 + 1) q2 f1 f2 q2 (by omega) w
          have HTX := hide (fun k hk => step_lt htx k hk)
          have HTY := hide (fun k hk => step_lt hty k hk)
          clear hfl eL eR hFi hBn hM hMZ hSZ hchr htx hty HCB HCC
          have hmk := run_make_row' (P := Tryz.prog) 23 3 (.int .i64 0) 8 Tryz.underlying23 info_int rfl .i64 .i64 M (by omega) (by omega)
          obtain ⟨x0, x1, x2, x3, x4, x5, x6⟩ := (unhide HP6).all
          obtain ⟨y0, y1, y2, y3, y4, y5, y6⟩ := (unhide HQ6).all
          go_upto_region 14 with (first
            | (go_at_call 67; refine (shapeOk_eq _ _ _ ZS _ (unhide HO6).row _ HSB).mono ?_; rintro e wq ⟨rfl, hw⟩; obtain rfl := hw.symm)
            | (go_at_call 105; refine ((unhide HJC) _).mono ?_; rintro e w7 ⟨rfl, hb7⟩; have HB7 := hide hb7; clear hb7)
            | (go_at_call 51; refine (cellsOf_n _ _ _ ZS _ ((unhide HO6).row.below (Nat.le_refl _) (unhide HB7)) (unhide HSZ) M HMZ).mono ?_; rintro e wq ⟨rfl, hw⟩; obtain rfl := hw.symm))
          obtain ⟨gd, hgd⟩ : ∃ g, g = w7.heap.size := ⟨_, rfl⟩
          obtain ⟨W8, hW8⟩ : ∃ W8, W8 = (w7.alloc (.cells (madeCells #[.int .i64 0] M) 3)).alloc (.cells #[.bool chr, .slice (some ⟨gs, os, none⟩) (q1 + 1) csh, .slice (some ⟨w7.heap.size, 0, none⟩) M M] 25) := ⟨_, rfl⟩
          have hz67 := (unhide HB7).size
          have hz8 : gd + 1 < W8.heap.size := by rw [hW8, hgd]; simp
          have HA8 : Hid (Below w6.heap.size w6 W8) := by rw [hW8]; exact ((unhide HB7).alloc hz67 _).alloc (by simp; omega) _
          have HR8 : Hid (Box W8 (gd + 1) chr (.slice (some ⟨gs, os, none⟩) (q1 + 1) csh) (.slice (some ⟨gd, 0, none⟩) M M)) := by
            rw [hW8, hgd]
            have := Box.new (w7.alloc (.cells (madeCells #[.int .i64 0] M) 3)) chr (.slice (some ⟨gs, os, none⟩) (q1 + 1) csh) (.slice (some ⟨w7.heap.size, 0, none⟩) M M)
            rwa [World.size_alloc] at this
          have HN8 : Hid (Blk W8 gd (List.replicate M 0)) := by rw [hW8]; exact (Blk.made _ _ _ hgd).alloc _
          have HP8 := hide ((unhide HP6).below (Nat.le_refl _) (unhide HA8))
          have HQ8 := hide ((unhide HQ6).below (Nat.le_refl _) (unhide HA8))
          have HD8 := hide ((unhide HD6).below (Nat.le_refl _) (unhide HA8))
          have SL8 := hide ((unhide SL6).below (Nat.le_refl _) (unhide HA8))
          have SX8 := hide ((unhide SX6).below (Nat.le_refl _) (unhide HA8))
          have SR8 := hide ((unhide SR6).below (Nat.le_refl _) (unhide HA8))
          have SY8 := hide ((unhide SY6).below (Nat.le_refl _) (unhide HA8))
          have HO8 := hide ((unhide HO6).below (Nat.le_refl _) (unhide HA8))
          have HG8 : Hid (W8.cell? ⟨gw, 0, none⟩ = some (.int .i64 (xn : Int))) := ((unhide HA8).cell (p := ⟨gw, 0, none⟩) hgw6).trans (unhide HG6)
          have HW8 := hide ((unhide HW6).trans ((unhide HA8).mono (unhide HW6).size))
          have hgd6 : w6.heap.size ≤ gd := by omega
          have APL : Hid (¬ At (some ⟨ba, oa, none⟩) (q1 + 1) gd) := fun h => by have := (unhide SL6).hi h; omega
          have APX : Hid (¬ At (some A2) p2 gd) := fun h => by have := (unhide SX6).hi h; omega
          have APR : Hid (¬ At (some ⟨bb, ob, none⟩) (q1 + 1) gd) := fun h => by have := (unhide SR6).hi h; omega
          have APY : Hid (¬ At (some B2) q2 gd) := fun h => by have := (unhide SY6).hi h; omega
          have APZ : Hid (¬ At (some ⟨gs, os, none⟩) (q1 + 1) gd) := fun h => by have := (unhide HO6).row.hi h; omega
          have hPg : P < gd ∧ Q < gd ∧ gw < gd ∧ gs < gd ∧ w.heap.size + 2 < gd := by omega
          rw [← hW8, ← hgd]
          clear hW8 hgd hz67 HB7 HP6 HQ6 HD6 SL6 SX6 SR6 SY6 HO6 HG6 HW6 HA8 hmk x0 x1 x2 x3 x4 x5 x6 y0 y1 y2 y3 y4 y5 y6 HJC hgd6
          have HPUT : Hid (∀ wx, Below W8.heap.size W8 wx → Calls Tryz.prog 106 #[.agg #[.bool chr, .slice (some ⟨gs, os, none⟩) (q1 + 1) csh, .slice (some ⟨gd, 0, none⟩) M M], .slice (some ⟨ba, oa, none⟩) (q1 + 1) e1, .agg #[.slice (some A2) p2 e2, .int .i64 0, .int .i64 (tx : Nat), .int .i64 (p2 : Nat)], .func (.func 107) #[] #[]] wx fun e w' => (∃ v, e = .returned v) ∧ Blk w' gd (putN ZS sameF L (fun k => X.getD (k * tx) 0) (List.replicate M 0) p2) ∧ But (fun b => b = gd) wx w') := fun wx hwx =>
            put_any chr (some ⟨gs, os, none⟩) (some A2) (some ⟨ba, oa, none⟩) (q1 + 1) p2 csh e2 (q1 + 1) e1 M gd tx p2 ZS X L (List.replicate M 0) 107 #[] eg_cat1 sameF wx p2 ((unhide HO8).row.below (Nat.le_refl _) hwx) ((unhide SX8).below (Nat.le_refl _) hwx) ((unhide SL8).below (Nat.le_refl _) hwx) ((unhide HN8).below (Nat.le_refl _) hwx) (by simp) (unhide HSZ) (unhide HLI) (by omega) (unhide HLP) (unhide HMZ) (unhide HTX) (catClo1 L (q1 + 1) gd (by rw [unhide HLL]; exact Nat.le_refl _) wx) (unhide APZ) (unhide APX) (unhide APL)
          go_cut [] (fun wx => Blk wx gd (putN ZS sameF L (fun k => X.getD (k * tx) 0) (List.replicate M 0) p2) ∧ But (fun b => b = gd) W8 wx)
          case first =>
            as_aux_lemma =>
            have HKEEP : ∀ wx, But (fun b => b = gd) W8 wx → wx.cell? ⟨gd + 1, 0, none⟩ = some (.bool chr) ∧ wx.cell? ⟨gd + 1, 1, none⟩ = some (.slice (some ⟨gs, os, none⟩) (q1 + 1) csh) ∧ wx.cell? ⟨gd + 1, 2, none⟩ = some (.slice (some ⟨gd, 0, none⟩) M M) ∧ wx.cell? ⟨P, 0, none⟩ = some (.bool c) ∧ wx.cell? ⟨P, 1, none⟩ = some (.slice (some ⟨ba, oa, none⟩) (q1 + 1) e1) ∧ wx.cell? ⟨P, 2, none⟩ = some (.slice (some A2) p2 e2) := fun wx hwx => by
              obtain ⟨s0, s1, s2⟩ := (unhide HR8).cells
              obtain ⟨t0, t1, t2⟩ := (unhide HP8).cells
              exact ⟨(hwx.cellAt (by omega) (by omega)).trans s0, (hwx.cellAt (by omega) (by omega)).trans s1, (hwx.cellAt (by omega) (by omega)).trans s2, (hwx.cellAt (by omega) (by omega)).trans t0, (hwx.cellAt (by omega) (by omega)).trans t1, (hwx.cellAt (by omega) (by omega)).trans t2⟩
            go_region_held3 (fun wx => wx.cell? ⟨gd + 1, 0, none⟩ = some (.bool chr) ∧ wx.cell? ⟨gd + 1, 1, none⟩ = some (.slice (some ⟨gs, os, none⟩) (q1 + 1) csh) ∧ wx.cell? ⟨gd + 1, 2, none⟩ = some (.slice (some ⟨gd, 0, none⟩) M M) ∧ wx.cell? ⟨P, 0, none⟩ = some (.bool c) ∧ wx.cell? ⟨P, 1, none⟩ = some (.slice (some ⟨ba, oa, none⟩) (q1 + 1) e1) ∧ wx.cell? ⟨P, 2, none⟩ = some (.slice (some A2) p2 e2)) (first | exact HKEEP _ hK2 | exact HKEEP _ (But.of_below hKE) | exact HKEEP _ (But.refl _ _).drew)
              (first
              | (go_at_call 54; refine ((unhide HEX) _).mono ?_; rintro e wE ⟨rfl, hbE⟩; have hKE : Below W8.heap.size W8 wE := (Below.refl _ W8).drew.trans hbE)
              | (go_at_call 106; refine ((unhide HPUT) _ hKE).mono ?_; rintro e wP ⟨⟨v, rfl⟩, hB, hbut⟩; have hK2 : But (fun b => b = gd) W8 wP := ((But.of_below (S := fun b => b = gd) hKE).trans hbut).mono (by rintro x (h | h) <;> exact h)))
            all_goals go_wp2_with fail
            all_goals go_meet
            all_goals case rel => exact ⟨hB, hK2⟩
          case rest =>
            obtain ⟨W9, hW9⟩ : ∃ x, x = wc := ⟨_, rfl⟩
            subst hW9
            obtain ⟨hB9, hbut9⟩ := hcut
            have hz9 := hbut9.size
            have HN9 := hide hB9
            have HBT9 := hide hbut9
            have HR9 : Hid (Box W9 (gd + 1) chr (.slice (some ⟨gs, os, none⟩) (q1 + 1) csh) (.slice (some ⟨gd, 0, none⟩) M M)) := (hbut9.block _ (by omega) (by omega)).trans (unhide HR8)
            have HQ9 : Hid (Box W9 Q d (.slice (some ⟨bb, ob, none⟩) (q1 + 1) f1) (.slice (some B2) q2 f2)) := (hbut9.block _ (by omega) (by omega)).trans (unhide HQ8)
            have HD9 : Hid (Box W9 (w.heap.size + 2) false (.slice none 0 0) (.slice none 0 0)) := (hbut9.block _ (by omega) (by omega)).trans (unhide HD8)
            have SR9 := hide (hbut9.row (unhide SR8) (by rintro x rfl h; exact (unhide APR) h))
            have SY9 := hide (hbut9.row (unhide SY8) (by rintro x rfl h; exact (unhide APY) h))
            have HO9 := hide (hbut9.own (unhide HO8) (by rintro x rfl h; exact (unhide APZ) h))
            have HG9 : Hid (W9.cell? ⟨gw, 0, none⟩ = some (.int .i64 (xn : Int))) := (hbut9.cellAt (by omega) (by omega)).trans (unhide HG8)
            clear hB9 hbut9 HPUT HP8 HQ8 HD8 HR8 SL8 SX8 SR8 SY8 HO8 HG8 HN8 HEX
            have HPUT : Hid (∀ wx pa pf, Below W9.heap.size W9 wx → W9.heap.size ≤ pa → W9.heap.size ≤ pf → wx.cell? ⟨pa, 0, none⟩ = some (.int .i64 (q1 : Nat)) → wx.cell? ⟨pf, 0, none⟩ = some (.func (.func 108) #[] #[.pointer (some ⟨gw, 0, none⟩)]) → Calls Tryz.prog 106 #[.agg #[.bool chr, .slice (some ⟨gs, os, none⟩) (q1 + 1) csh, .slice (some ⟨gd, 0, none⟩) M M], .slice (some ⟨bb, ob, none⟩) (q1 + 1) f1, .agg #[.slice (some B2) q2 f2, .int .i64 0, .int .i64 (ty : Nat), .int .i64 (q2 : Nat)], .func (.func 128) #[] #[.pointer (some ⟨pa, 0, none⟩), .pointer (some ⟨pf, 0, none⟩)]] wx fun e w' => (∃ v, e = .returned v) ∧ Blk w' gd (putN ZS (moveF q1 xn) R (fun k => Y.getD (k * ty) 0) (putN ZS sameF L (fun k => X.getD (k * tx) 0) (List.replicate M 0) p2) q2) ∧ But (fun b => b = gd) wx w') := fun wx pa pf hwx hpa hpf c1 c2 =>
              put_any chr (some ⟨gs, os, none⟩) (some B2) (some ⟨bb, ob, none⟩) (q1 + 1) q2 csh f2 (q1 + 1) f1 M gd ty q2 ZS Y R _ 128 #[.pointer (some ⟨pa, 0, none⟩), .pointer (some ⟨pf, 0, none⟩)] eg_axis1 (moveF q1 xn) wx q2 ((unhide HO9).row.below (Nat.le_refl _) hwx) ((unhide SY9).below (Nat.le_refl _) hwx) ((unhide SR9).below (Nat.le_refl _) hwx) ((unhide HN9).below (Nat.le_refl _) hwx) (by rw [put_len]; simp) (unhide HSZ) (unhide HRI) (by omega) (unhide HRP) (unhide HMZ) (unhide HTY) (catClo2 R (q1 + 1) gd pa pf gw q1 (xn : Int) (by rw [unhide HLR]; exact Nat.le_refl _) wx (unhide HRI) (by omega) c1 c2 ((hwx.cell (p := ⟨gw, 0, none⟩) (by show gw < W9.heap.size; omega)).trans (unhide HG9)) (by omega) (by omega) (by omega)) (unhide APZ) (unhide APY) (unhide APR)
            go_upto_region 15 with fail
            go_cut [] (fun wx => Blk wx gd (putN ZS (moveF q1 xn) R (fun k => Y.getD (k * ty) 0) (putN ZS sameF L (fun k => X.getD (k * tx) 0) (List.replicate M 0) p2) q2) ∧ But (fun b => b = gd) W9 wx)
            case first =>
              as_aux_lemma =>
              have HKEEP : ∀ wx, But (fun b => b = gd) W9 wx → wx.cell? ⟨gd + 1, 0, none⟩ = some (.bool chr) ∧ wx.cell? ⟨gd + 1, 1, none⟩ = some (.slice (some ⟨gs, os, none⟩) (q1 + 1) csh) ∧ wx.cell? ⟨gd + 1, 2, none⟩ = some (.slice (some ⟨gd, 0, none⟩) M M) ∧ wx.cell? ⟨Q, 0, none⟩ = some (.bool d) ∧ wx.cell? ⟨Q, 1, none⟩ = some (.slice (some ⟨bb, ob, none⟩) (q1 + 1) f1) ∧ wx.cell? ⟨Q, 2, none⟩ = some (.slice (some B2) q2 f2) := fun wx hwx => by
                obtain ⟨s0, s1, s2⟩ := (unhide HR9).cells
                obtain ⟨t0, t1, t2⟩ := (unhide HQ9).cells
                exact ⟨(hwx.cellAt (by omega) (by omega)).trans s0, (hwx.cellAt (by omega) (by omega)).trans s1, (hwx.cellAt (by omega) (by omega)).trans s2, (hwx.cellAt (by omega) (by omega)).trans t0, (hwx.cellAt (by omega) (by omega)).trans t1, (hwx.cellAt (by omega) (by omega)).trans t2⟩
              go_region_held3 (fun wx => wx.cell? ⟨gd + 1, 0, none⟩ = some (.bool chr) ∧ wx.cell? ⟨gd + 1, 1, none⟩ = some (.slice (some ⟨gs, os, none⟩) (q1 + 1) csh) ∧ wx.cell? ⟨gd + 1, 2, none⟩ = some (.slice (some ⟨gd, 0, none⟩) M M) ∧ wx.cell? ⟨Q, 0, none⟩ = some (.bool d) ∧ wx.cell? ⟨Q, 1, none⟩ = some (.slice (some ⟨bb, ob, none⟩) (q1 + 1) f1) ∧ wx.cell? ⟨Q, 2, none⟩ = some (.slice (some B2) q2 f2)) (first | exact HKEEP _ hK2 | exact HKEEP _ (But.of_below hKO) | exact HKEEP _ (But.of_below hKE) | exact HKEEP _ (But.refl _ _).drew)
                (first
                | (go_at_call 54; refine ((unhide HEY) _).mono ?_; rintro e wE ⟨rfl, hbE⟩; have hKE : Below W9.heap.size W9 wE := (Below.refl _ W9).drew.trans hbE; have hzE := hKE.size)
                | (go_at_call 70; refine (onAxis_any q1 _ _ 108 #[.pointer (some ⟨gw, 0, none⟩)] rfl).mono ?_; rintro e wO ⟨rfl, hwO⟩; have hKO : Below W9.heap.size W9 wO := (by rw [hwO]; exact (hKE.alloc hzE _).alloc (by simp; omega) _); have hpa : wO.cell? ⟨wE.heap.size, 0, none⟩ = some (.int .i64 (q1 : Nat)) := (by rw [hwO]; exact cell_of_row _ _ 0 _ _ (0, 0) ((Below.heap_alloc _ _ _ (by simp)).trans (heap_alloc_last wE _))); have hpf : wO.cell? ⟨wE.heap.size + 1, 0, none⟩ = some (.func (.func 108) #[] #[.pointer (some ⟨gw, 0, none⟩)]) := (by rw [hwO]; have h := heap_alloc_last (wE.alloc (.cells #[.int .i64 (q1 : Nat)] 3)) (.cells #[.func (.func 108) #[] #[.pointer (some ⟨gw, 0, none⟩)]] 58); rw [World.size_alloc] at h; exact cell_of_row _ _ 0 _ _ (0, 0) h); clear hwO)
                | (go_at_call 106; refine ((unhide HPUT) _ _ _ hKO hzE (by omega) hpa hpf).mono ?_; rintro e wP ⟨⟨v, rfl⟩, hB, hbut⟩; have hK2 : But (fun b => b = gd) W9 wP := ((But.of_below (S := fun b => b = gd) hKO).trans hbut).mono (by rintro x (h | h) <;> exact h)))
              all_goals go_wp2_with fail
              all_goals go_meet
              all_goals case rel => exact ⟨hB, hK2⟩
            case rest =>
              obtain ⟨WA, hWA⟩ : ∃ x, x = wc := ⟨_, rfl⟩
              subst hWA
              obtain ⟨hBA, hbutA⟩ := hcut
              rw [unhide HFIN] at hBA
              have hzA := hbutA.size
              have hRA : Box WA (gd + 1) chr (.slice (some ⟨gs, os, none⟩) (q1 + 1) csh) (.slice (some ⟨gd, 0, none⟩) M M) := (hbutA.block _ (by omega) (by omega)).trans (unhide HR9)
              have hDA : Box WA (w.heap.size + 2) false (.slice none 0 0) (.slice none 0 0) := (hbutA.block _ (by omega) (by omega)).trans (unhide HD9)
              have hOA := hbutA.own (unhide HO9) (by rintro x rfl h; exact (unhide APZ) h)
              have hWA : Below w.heap.size w WA := ((unhide HW8).trans ((unhide HBT9).below (B := w.heap.size) (by omega) (by rintro x rfl; omega))).trans (hbutA.below (B := w.heap.size) (by omega) (by rintro x rfl; omega))
              obtain ⟨x0, x1, x2, x3, x4, x5, x6⟩ := hRA.all
              obtain ⟨z0, z1, z2, z3, z4, z5, z6⟩ := hDA.all
              have HDA := hide hDA
              have HPG := hide hPg
              have HWG := hide (show w.heap.size ≤ W4.heap.size by have := unhide HZ4; omega)
              have HOA := hide hOA
              have HNA := hide hBA
              have HWA := hide hWA
              clear hBA hbutA hRA hDA hOA hWA
              go_wp2_with fail
              have hx := (unhide HDA).sets (c' := chr) (u1 := .slice (some ⟨gs, os, none⟩) (q1 + 1) csh) (u2 := .slice (some ⟨gd, 0, none⟩) M M)
              obtain ⟨r0, r1, r2, _, _, _⟩ := hx.all
              refine bodyPost_ret (v := .tuple #[.agg #[.bool chr, .slice (some ⟨gs, os, none⟩) (q1 + 1) csh, .slice (some ⟨gd, 0, none⟩) M M], .int .i64 0]) (by simp [results, Tryz.results35, go_sem, r0, r1, r2]) rfl ?_
              rw [unhide HZG]
              have hPg := unhide HPG
              have hWg := unhide HWG
              have hns : ∀ k, At (some ⟨gs, os, none⟩) (q1 + 1) k → k ≠ w.heap.size + 2 := fun k hk => by have := at_eq hk; omega
              have hlenM : (catN X Y xn yn Bn).length = M := by
                have := congrArg List.length (unhide HFIN)
                rw [put_len, put_len, List.length_replicate] at this
                exact this.symm
              have hgdn : gd ≠ w.heap.size + 2 := by omega
              have hwz : w.heap.size ≤ w.heap.size + 2 := by omega
              exact gives_res hlenM (by omega) (((((unhide HOA).mono (by omega)).other (q := ⟨w.heap.size + 2, 0, none⟩) hns _).other (q := ⟨w.heap.size + 2, 1, none⟩) hns _).other (q := ⟨w.heap.size + 2, 2, none⟩) hns _) (by omega) ((((unhide HNA).other (p := ⟨w.heap.size + 2, 0, none⟩) hgdn _).other (p := ⟨w.heap.size + 2, 1, none⟩) hgdn _).other (p := ⟨w.heap.size + 2, 2, none⟩) hgdn _) (unhide APZ) ((((unhide HWA).setCell (p := ⟨w.heap.size + 2, 0, none⟩) hwz _).setCell (p := ⟨w.heap.size + 2, 1, none⟩) hwz _).setCell (p := ⟨w.heap.size + 2, 2, none⟩) hwz _)
    · have g0 : (J != 0) = true := by simp [hJ0]
      have HZ := hide ((unhide HCG) J (unhide HJ) hJ0)
      obtain ⟨z0, z1, z2, z3, z4, z5, z6⟩ := (unhide HD4).all
      clear hJ0 HCG HCB HCC
      go_wp2_with fail
      refine bodyPost_ret (v := .tuple #[.agg #[.bool false, .slice none 0 0, .slice none 0 0], .int .i64 J]) (by simp [results, Tryz.results35, go_sem, z0, z1, z2]) rfl ?_
      rw [unhide HZ]
      exact gives_none ((((unhide HW4).setCell (by simp <;> omega) _).setCell (by simp <;> omega) _).setCell (by simp <;> omega) _)

end Go.Proofs.YtkgcmpmgaghdhaaGreatDoor
