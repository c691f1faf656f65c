import Derived.Test.YtngbmcljhcckmaaSpecList
import Derived.Test.YtngbmcljhcckmaaSpecNone
import Derived.Test.YtngbmcljhcckmaaSpecShapeOk
import Derived.Test.YtngbmcljhcckmaaSpecBoxes
import Derived.Test.YtngbmcljhcckmaaSpecStage
import Derived.Deep.DeepCutAuto
import Derived.Deep.RegionHeld
import Derived.Deep.RegionLaw
namespace Go.Proofs.Ytngbmcljhcckmaa
open Go.RowKit

set_option maxRecDepth 20000 in
set_option maxHeartbeats 8000000 in
theorem Reshape_any (c d : Bool) (a1 a2 b1 b2 : Addr) (n1 n2 m1 m2 c1 c2 d1 d2 : Nat) (sh dt sh' dt' : List Int) (w : World) (h1 : Row w (some a1) n1 sh) (h2 : Row w (some a2) n2 dt) (k1 : Row w (some b1) m1 sh') (k2 : Row w (some b2) m2 dt') :
    Calls Try.prog 10 #[.agg #[.bool c, .slice (some a1) n1 c1, .slice (some a2) n2 c2], .agg #[.bool d, .slice (some b1) m1 d1, .slice (some b2) m2 d2]] w (GivesRow w (reshape c d sh dt sh' dt')) := by
  have hl1 := hide h1.len
  have hl2 := hide h2.len
  have hl3 := hide k1.len
  have hl4 := hide k2.len
  have hs1 := h1.small
  have hs2 := h2.small
  have hs3 := k1.small
  have hs4 := k2.small
  have H1 := hide h1
  have H2 := hide h2
  have K1 := hide k1
  have K2 := hide k2
  clear h1 h2 k1 k2
  obtain ⟨r1, hr1⟩ : ∃ r, arrOk c sh dt = r := ⟨_, rfl⟩
  obtain ⟨r2, hr2⟩ : ∃ r, arrOk d sh' dt' = r := ⟨_, rfl⟩
  have HR1 := hide hr1
  have HR2 := hide hr2
  clear hr1 hr2
  go_enter Try.func10, Try.ntmps10
  go_wp2_with fail
  refine (ArrayOk_eq _ _ _ _ _ _ _ sh dt _ ((((unhide H1).alloc _).alloc _).alloc _) ((((unhide H2).alloc _).alloc _).alloc _) _ HR1).mono ?_
  rintro e w1 ⟨rfl, hb1⟩
  obtain ⟨B4, B5, B6, hB1⟩ := boxes3 hb1
  have hz1 := B6.lt
  clear hb1
  obtain ⟨x0, x1, x2, x3, x4, x5, x6⟩ := B4.all
  obtain ⟨y0, y1, y2, y3, y4, y5, y6⟩ := B5.all
  cases r1 with
  | false =>
    have HS := hide (reshape_bad1 (d := d) (sh' := sh') (dt' := dt') (unhide HR1))
    go_wp2_with fail
    refine (l4None_any _).mono ?_
    rintro e w9 ⟨rfl, hb9⟩
    obtain ⟨q0, q1, q2, q3, q4, q5, q6⟩ := (B6.below (Nat.le_refl _) hb9).all
    have hB9 := hide ((hB1).trans (hb9.mono (hB1).size))
    clear hb9 hB1 B4 B5 B6 hz1 x0 x1 x2 x3 x4 x5 x6 y0 y1 y2 y3 y4 y5 y6
    go_wp2
    refine bodyPost_ret (v := .tuple #[.agg #[.bool false, .slice none 0 0, .slice none 0 0], .int .i64 3]) (by simp [results, Try.results10, go_sem, q0, q1, q2]) rfl ?_
    rw [unhide HS]
    exact ⟨none, 0, 0, none, 0, 0, rfl, row_nil _ _, row_nil _ _, (((unhide hB9).setCell (by simp <;> omega) _).setCell (by simp <;> omega) _).setCell (by simp <;> omega) _⟩
  | true =>
    go_wp2_with fail
    refine (ArrayOk_eq _ _ _ _ _ _ _ sh' dt' _ ((unhide K1).below (Nat.le_refl _) hB1) ((unhide K2).below (Nat.le_refl _) hB1) _ HR2).mono ?_
    rintro e w2 ⟨rfl, hb2⟩
    have C4 := hide (B4.below (Nat.le_refl _) hb2)
    have C5 := hide (B5.below (Nat.le_refl _) hb2)
    have C6 := hide (B6.below (Nat.le_refl _) hb2)
    have hB2 := hide (hB1.trans (hb2.mono hB1.size))
    clear hb2 hB1 B4 B5 B6 hz1 x0 x1 x2 x3 x4 x5 x6 y0 y1 y2 y3 y4 y5 y6 w1
    cases r2 with
    | false =>
      have HS := hide (reshape_bad2 (c := c) (sh := sh) (dt := dt) (unhide HR2))
      go_wp2_with fail
      refine (l4None_any _).mono ?_
      rintro e w9 ⟨rfl, hb9⟩
      obtain ⟨q0, q1, q2, q3, q4, q5, q6⟩ := ((unhide C6).below (Nat.le_refl _) hb9).all
      have hB9 := hide (((unhide hB2)).trans (hb9.mono ((unhide hB2)).size))
      clear hb9 C4 C5 C6 hB2
      go_wp2
      refine bodyPost_ret (v := .tuple #[.agg #[.bool false, .slice none 0 0, .slice none 0 0], .int .i64 3]) (by simp [results, Try.results10, go_sem, q0, q1, q2]) rfl ?_
      rw [unhide HS]
      exact ⟨none, 0, 0, none, 0, 0, rfl, row_nil _ _, row_nil _ _, (((unhide hB9).setCell (by simp <;> omega) _).setCell (by simp <;> omega) _).setCell (by simp <;> omega) _⟩
    | true =>
      obtain ⟨x0, x1, x2, x3, x4, x5, x6⟩ := (unhide C4).all
      obtain ⟨r, hr⟩ : ∃ r, listCode c n1 = r := ⟨_, rfl⟩
      have HLC := hide hr
      clear hr
      go_wp2_with fail
      refine (l5List_any c _ _ _ _ _ hs1 r HLC).mono ?_
      rintro e w3 ⟨rfl, hb3⟩
      have D4 := hide ((unhide C4).below (Nat.le_refl _) hb3)
      have D5 := hide ((unhide C5).below (Nat.le_refl _) hb3)
      have D6 := hide ((unhide C6).below (Nat.le_refl _) hb3)
      have hB3 := hide ((unhide hB2).trans (hb3.mono (unhide hB2).size))
      clear hb3 hB2 C4 C5 C6 x0 x1 x2 x3 x4 x5 x6 w2
      by_cases hcode : r = 0
      · subst hcode
        have HL0 : Hid (listCode c sh.length = 0) := by show _ = _; rw [unhide hl1]; exact unhide HLC
        obtain ⟨x0, x1, x2, x3, x4, x5, x6⟩ := (unhide D4).all
        have HW3 := hide (unhide hB3)
        go_wp2_with fail
        go_loop [7] (fun i => ∃ k : Nat, k ≤ n2 ∧ i = .int .i64 k ∧ Hid ((dt.take k).all nonNeg = true)) (fun i => n2 - (intOf i).toNat)
        case atStart => exact ⟨0, Nat.zero_le _, rfl, rfl⟩
        case round =>
          obtain ⟨k, hk, rfl, hall⟩ := hrel
          by_cases hlt : k < n2
          · obtain ⟨ba, oa, hab, hblt, hc⟩ := (unhide H2).get hlt
            cases hab
            have hc' := ((unhide HW3).cell (p := ⟨ba, oa + k, none⟩) hblt).trans hc
            have hks : Hid (k < dt.length) := by show k < dt.length; rw [unhide hl2]; exact hlt
            obtain ⟨x, hx⟩ : ∃ x, x = dt.getD k 0 := ⟨_, rfl⟩
            rw [← hx] at hc'
            have HX := hide hx
            clear hx hc
            by_cases hneg : x < 0
            · have HS := hide (reshape_neg (unhide HR1) (unhide HR2) (unhide HL0) (all_not dt nonNeg k (unhide hks) (by rw [← unhide HX]; exact decide_eq_false (by omega))))
              go_wp2_with fail
              refine (l4None_any _).mono ?_
              rintro e w9 ⟨rfl, hb9⟩
              obtain ⟨q0, q1, q2, q3, q4, q5, q6⟩ := ((unhide D6).below (Nat.le_refl _) hb9).all
              have hB9 := hide (((unhide hB3)).trans (hb9.mono ((unhide hB3)).size))
              clear hb9 D4 D5 D6 hB3 HW3 x0 x1 x2 x3 x4 x5 x6 hc'
              go_wp2
              refine bodyPost_ret (v := .tuple #[.agg #[.bool false, .slice none 0 0, .slice none 0 0], .int .i64 3]) (by simp [results, Try.results10, go_sem, q0, q1, q2]) rfl ?_
              rw [unhide HS]
              exact ⟨none, 0, 0, none, 0, 0, rfl, row_nil _ _, row_nil _ _, (((unhide hB9).setCell (by simp <;> omega) _).setCell (by simp <;> omega) _).setCell (by simp <;> omega) _⟩
            · have HA := hide (all_step dt nonNeg k (unhide hks) (unhide hall) (by rw [← unhide HX]; exact decide_eq_true (by omega)))
              go_wp2
              go_round
              case rel => exact ⟨k + 1, by omega, by go_num, HA⟩
              case measure => simp [intOf]; omega
          · have HA : Hid (dt.all nonNeg = true) := by
              have := unhide hall
              rwa [List.take_of_length_le (by rw [unhide hl2]; omega)] at this
            clear hall
            obtain ⟨sb, hsb⟩ : ∃ r, shapeB dt = r := ⟨_, rfl⟩
            have HSB := hide hsb
            clear hsb
            go_wp2_with fail
            refine (l3ShapeOk_eq _ _ _ dt _ ((unhide H2).below (Nat.le_refl _) (unhide hB3)) sb HSB).mono ?_
            rintro e w3 ⟨rfl, rfl⟩
            cases sb with
            | false =>
              have HS := hide (reshape_big (unhide HR1) (unhide HR2) (unhide HL0) (unhide HA) (unhide HSB))
              go_wp2_with fail
              refine (l4None_any _).mono ?_
              rintro e w9 ⟨rfl, hb9⟩
              obtain ⟨q0, q1, q2, q3, q4, q5, q6⟩ := ((unhide D6).below (Nat.le_refl _) hb9).all
              have hB9 := hide (((unhide hB3)).trans (hb9.mono ((unhide hB3)).size))
              clear hb9 D4 D5 D6 hB3 HW3 x0 x1 x2 x3 x4 x5 x6
              go_wp2
              refine bodyPost_ret (v := .tuple #[.agg #[.bool false, .slice none 0 0, .slice none 0 0], .int .i64 7]) (by simp [results, Try.results10, go_sem, q0, q1, q2]) rfl ?_
              rw [unhide HS]
              exact ⟨none, 0, 0, none, 0, 0, rfl, row_nil _ _, row_nil _ _, (((unhide hB9).setCell (by simp <;> omega) _).setCell (by simp <;> omega) _).setCell (by simp <;> omega) _⟩
            | true =>
              have hcb := shapeB_count (unhide HSB)
              obtain ⟨N, hN⟩ : ∃ N : Nat, countOf dt = (N : Int) := ⟨(countOf dt).toNat, by omega⟩
              rw [hN] at hcb
              obtain ⟨_, hNs⟩ := hcb
              have HN := hide hN
              obtain ⟨f, hf⟩ : ∃ f : Nat → Int × Int, f = reshapeAt d dt' m2 := ⟨_, rfl⟩
              have HGO : Hid (reshape c d sh dt sh' dt' = gatherAns d dt f N) := by
                show _ = _
                rw [reshape_go (unhide HR1) (unhide HR2) (unhide HL0) (unhide HA) (unhide HSB) m2 N (unhide hl4) hN, hf]
              have HFK : Hid (∀ k, f k = reshapeAt d dt' m2 k) := by intro k; rw [hf]
              clear hf hN
              obtain ⟨y0, y1, y2, y3, y4, y5, y6⟩ := (unhide D5).all
              obtain ⟨i0, hi, hz0, hz1, hz2⟩ := info_parts info_int
              have hB3z := (unhide hB3).size
              have hz4 := (unhide D4).lt
              have hz5 := (unhide D5).lt
              have hz6 := (unhide D6).lt
              go_upto_region 13 with fail
              go_cut [8] (fun r wx => Laid w3 d n2 dt r wx)
              case first =>
                have HKEEP : ∀ wx, Below w3.heap.size w3 wx → Below w3.heap.size w3 wx ∧ wx.cell? ⟨w.heap.size + 1, 0, none⟩ = some (.bool d) ∧ wx.cell? ⟨w.heap.size, 2, none⟩ = some (.slice (some a2) n2 c2) := fun wx hwx => ⟨hwx, ((unhide D5).below (Nat.le_refl _) hwx).cells.1, ((unhide D4).below (Nat.le_refl _) hwx).cells.2.2⟩
                go_region_held (fun wx => Below w3.heap.size w3 wx ∧ wx.cell? ⟨w.heap.size + 1, 0, none⟩ = some (.bool d) ∧ wx.cell? ⟨w.heap.size, 2, none⟩ = some (.slice (some a2) n2 c2)) (first | (refine HKEEP _ ?_; repeat (first | exact hKA | exact Below.refl _ _ | refine Below.drew ?_ | refine Below.alloc ?_ (by first | omega | (simp <;> omega)) _ | refine Below.setCell ?_ (by first | omega | (simp <;> omega)) _)))
                  (first
                  | (go_at_call 40; refine (l3Ints_any _ _ _ dt _ ((unhide H2).below (Nat.le_refl _) (by repeat (first | exact unhide hB3 | refine Below.drew ?_ | refine Below.alloc ?_ (by have := (unhide hB3).size; simp <;> omega) _)))).mono ?_; rintro e wA ⟨ash, csh, rfl, hOA, hbA⟩; (have hKA : Below w3.heap.size w3 wA := (by refine Below.trans ?_ (hbA.mono (by first | omega | (simp <;> omega))); repeat (first | exact Below.refl _ _ | refine Below.drew ?_ | refine Below.alloc ?_ (by first | omega | (simp <;> omega)) _))); have hsA := hKA.size; (first | (have hP5 := (Box.new _ _ _ _).drew.below (Nat.le_refl _) hbA; obtain ⟨t0, t1, t2, t3, t4, t5, t6⟩ := hP5.free'; (try simp at t0 t1 t2 t3 t4 t5 t6)) | (have hP5 := ((Box.new _ _ _ _).alloc _).drew.below (Nat.le_refl _) hbA; obtain ⟨t0, t1, t2, t3, t4, t5, t6⟩ := hP5.free'; (try simp at t0 t1 t2 t3 t4 t5 t6)) | skip); (first | have hQ5 := (Blk.new _).drew.below (Nat.le_refl _) hbA | have hQ5 := ((Blk.new _).alloc _).drew.below (Nat.le_refl _) hbA | skip)))
                all_goals go_wp2_with fail
                all_goals have HOW : Own wA w3.heap.size ash n2 dt := hOA.mono (by first | exact Nat.le_refl _ | (simp <;> omega))
                all_goals (go_meet; case rel => first
                  | with_reducible exact laid_cbz HOW hKA
                  | with_reducible exact laid_czb HOW hKA
                  | with_reducible exact laid_bcz HOW hKA hQ5 (Nat.le_refl _) (fun x hx => by have := hOA.low hx; simp at this; omega)
                  | with_reducible exact laid_zc HOW hKA (by simpa using hP5) (by first | exact Nat.le_refl _ | omega) (by simpa using hQ5) (by first | exact Nat.le_refl _ | omega) (fun x hx => by have := hOA.low hx; simp at this; omega)
                  | with_reducible exact laid_zcb HOW hKA (by simpa using hP5) (by first | exact Nat.le_refl _ | omega))
              case rest =>
                obtain ⟨w4, hw4⟩ : ∃ x, x = wc := ⟨_, rfl⟩
                subst hw4
                obtain ⟨p, g0, ash, csh, rfl, hbx, hblk, hO, hb4, hp, hg, hne⟩ := hcut
                have hst0 := hide (Stage.start f hbx hblk hO hb4 hp hg hne)
                have HW4 := hide ((unhide hB3).trans (hb4.mono hB3z))
                obtain ⟨v0, v1, v2, v3, v4, v5, v6⟩ := ((unhide D4).low hz4 hb4).all
                clear hbx hblk hO hb4 hg hne x0 x1 x2 x3 x4 x5 x6 y0 y1 y2 y3 y4 y5 y6
                go_wp2_with (go_at_call 41; refine (l3Count_eq _ _ _ dt _ ((unhide H2).below (Nat.le_refl _) (unhide HW4)) _ HN).mono ?_; rintro e wq ⟨rfl, rfl⟩)
                go_loopw [10] (fun i wr => ∃ P g cap, P ≤ N ∧ i = .int .i64 (P : Nat) ∧ Hid (Stage w3 p d ash n2 csh dt f P wr g cap)) (fun i _ => N - (intOf i).toNat)
                case atStart => exact ⟨0, g0, 0, Nat.zero_le _, rfl, hst0⟩
                case round =>
                  obtain ⟨P, g, cap, hP, rfl, hst⟩ := hrel
                  clear hst0 v0 v1 v2 v3 v4 v5 v6
                  obtain ⟨y0, y1, y2, y3, y4, y5, y6⟩ := ((unhide D5).low hz5 (unhide hst).low).all
                  obtain ⟨z0, z1, z2, z3, z4, z5, z6⟩ := (unhide hst).box.all
                  have hst' := unhide hst
                  by_cases hlt : P < N
                  · by_cases hm0 : m2 = 0
                    · have g0' : ((m2 : Int) == 0) = true := by simp [hm0]
                      have HFP : Hid (f P = (fillOf d, 0)) := by show _ = _; rw [unhide HFK P]; simp [reshapeAt, hm0]
                      clear hm0
                      go_wp2_with fail
                      go_region_law
                        (first
                          | (refine step_append_lies _ (by rfl) _ _ _ (by rfl) w3.heap.size 3 i0 _ 1 8 Try.underlying22 hi hz0 hz1 hz2 rfl (by omega) (.slice (some ⟨g, 0, none⟩) P cap) P ((vals f P).map (Value.int .i64)) (by rfl) (by first | exact (hst'.owns.alloc _).drew | exact hst'.drew.owns.alloc _) ⟨wr.heap.size, 0, none⟩ 1 1 [.int .i64 (fillOf d)] (by rfl) (by rfl) (by exact cells_new wr _) (one_one _) (by omega) (by unfold maxLen; omega) (by omega) (by have := hst'.low.size; simp; omega) (wr.heap.size + 1) (by simp) ?_; intro g' cap' w7 hown' hgrow hat hlt7; obtain ⟨hb7, hst7⟩ := hst'.drew.push _ (unhide HFP) hown' (by exact hgrow) hat; obtain ⟨t0, t1, t2, t3, t4, t5, t6⟩ := hb7.all)
                          | (go_simp; go_at_call 42; refine (l3Fill_any _ _).mono ?_; rintro e wq ⟨rfl, rfl⟩))
                      all_goals
                        go_wp2_with fail
                        go_roundw
                        case rel => exact ⟨P + 1, g', cap', by omega, by go_num, hst7⟩
                        case measure => simp [intOf]; omega
                    · obtain ⟨j, hj⟩ : ∃ j, j = P % m2 := ⟨_, rfl⟩
                      have hjl : j < m2 := by rw [hj]; exact Nat.mod_lt _ (by omega)
                      have hq1 : (P : Int).tmod (m2 : Int) = (j : Int) := by rw [Int.tmod_eq_emod_of_nonneg (by omega), hj]; rfl
                      have hq2 : (P : Int) % (m2 : Int) = (j : Int) := by rw [hj]; rfl
                      have hj0 : (0 : Int) ≤ (j : Int) := by omega
                      have hj1 : (j : Int) < (m2 : Int) := by omega
                      have g0' : ((m2 : Int) == 0) = false := by simp; omega
                      obtain ⟨bb, ob, hab, hblt, hc⟩ := (unhide K2).get hjl
                      cases hab
                      have hc' := (((unhide hB3).trans (hst'.low.mono hB3z)).cell (p := ⟨bb, ob + j, none⟩) hblt).trans hc
                      obtain ⟨x, hx⟩ : ∃ x, x = dt'.getD j 0 := ⟨_, rfl⟩
                      rw [← hx] at hc'
                      have HFP : Hid (f P = (x, 0)) := by show _ = _; rw [unhide HFK P, hx, hj]; simp [reshapeAt, hm0]
                      have hm1 : ¬ m2 = 0 := hm0
                      clear hj hx hc
                      go_wp2_with fail
                      go_region_law
                        (first
                          | (refine step_append_lies _ (by rfl) _ _ _ (by rfl) w3.heap.size 3 i0 _ 1 8 Try.underlying22 hi hz0 hz1 hz2 rfl (by omega) (.slice (some ⟨g, 0, none⟩) P cap) P ((vals f P).map (Value.int .i64)) (by rfl) (by first | exact (hst'.owns.alloc _).drew | exact hst'.drew.owns.alloc _) ⟨wr.heap.size, 0, none⟩ 1 1 [.int .i64 x] (by rfl) (by rfl) (by exact cells_new wr _) (one_one _) (by omega) (by unfold maxLen; omega) (by omega) (by have := hst'.low.size; simp; omega) (wr.heap.size + 1) (by simp) ?_; intro g' cap' w7 hown' hgrow hat hlt7; obtain ⟨hb7, hst7⟩ := hst'.drew.push _ (unhide HFP) hown' (by exact hgrow) hat; obtain ⟨t0, t1, t2, t3, t4, t5, t6⟩ := hb7.all))
                      all_goals
                        go_wp2_with fail
                        go_roundw
                        case rel => exact ⟨P + 1, g', cap', by omega, by go_num, hst7⟩
                        case measure => simp [intOf]; omega
                  · have hPB : P = N := by omega
                    subst hPB
                    have HS : Hid (reshape c d sh dt sh' dt' = ⟨d, dt, vals f P, 0⟩) := (unhide HGO).trans (gather_good hst'.code)
                    obtain ⟨ad', cd, hv, hD⟩ := Own.of_owns hst'.owns (by omega)
                    cases hv
                    have G6 := hide ((unhide D6).low hz6 hst'.low)
                    obtain ⟨q0, q1, q2, q3, q4, q5, q6⟩ := (unhide G6).all
                    have HW6 := hide ((unhide hB3).trans (hst'.low.mono hB3z))
                    have HO6 := hide hst'.own
                    have HD := hide hD
                    clear hst hst' hD HGO HFK
                    go_wp2
                    refine bodyPost_ret (v := .tuple #[.agg #[.bool d, .slice ash n2 csh, .slice (some ⟨g, 0, none⟩) P cap], .int .i64 0]) (by simp [results, Try.results10, go_sem, q0, q1, q2]) rfl ?_
                    rw [unhide HS]
                    refine ⟨ash, n2, csh, some ⟨g, 0, none⟩, P, cap, rfl, ?_, ?_, (((unhide HW6).setCell (by simp <;> omega) _).setCell (by simp <;> omega) _).setCell (by simp <;> omega) _⟩
                    · exact (unhide HO6).row.sets (unhide G6) _ _ _
                    · exact (unhide HD).row.sets (unhide G6) _ _ _
      · have HS := hide (reshape_list (unhide HR1) (unhide HR2) r (by rw [unhide hl1]; exact unhide HLC) hcode)
        have hcb : (r != 0) = true := by simp [hcode]
        clear hcode
        go_wp2_with fail
        refine (l4None_any _).mono ?_
        rintro e w9 ⟨rfl, hb9⟩
        obtain ⟨q0, q1, q2, q3, q4, q5, q6⟩ := ((unhide D6).below (Nat.le_refl _) hb9).all
        have hB9 := hide (((unhide hB3)).trans (hb9.mono ((unhide hB3)).size))
        clear hb9 D4 D5 D6 hB3
        go_wp2
        refine bodyPost_ret (v := .tuple #[.agg #[.bool false, .slice none 0 0, .slice none 0 0], .int .i64 r]) (by simp [results, Try.results10, go_sem, q0, q1, q2]) rfl ?_
        rw [unhide HS]
        exact ⟨none, 0, 0, none, 0, 0, rfl, row_nil _ _, row_nil _ _, (((unhide hB9).setCell (by simp <;> omega) _).setCell (by simp <;> omega) _).setCell (by simp <;> omega) _⟩

end Go.Proofs.Ytngbmcljhcckmaa
