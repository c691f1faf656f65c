import Derived.Test.YtpondlabofeohaaDoorOuterMath
import Derived.Test.YtpondlabofeohaaDoorSpecElem
import Derived.Test.YtpondlabofeohaaDoorSpecJoin
import Derived.Test.YtpondlabofeohaaDoorSpecStage
import Derived.Test.YtpondlabofeohaaDoorSpecNone
import Derived.Deep.DeepCutAuto
namespace Go.Proofs.YtpondlabofeohaaDoor
open Go.RowKit

set_option maxRecDepth 20000 in
set_option maxHeartbeats 8000000 in
theorem Outer_any (op : Int) (c d : Bool) (a1 a2 b1 b2 : Addr) (n1 n2 m1 m2 c1 c2 d1 d2 : Nat) (sh dt sh' dt' : List Int) (w : World) (h1 : Row w (some a1) n1 sh) (h2 : Row w (some a2) n2 dt) (k1 : Row w (some b1) m1 sh') (k2 : Row w (some b2) m2 dt') :
    Calls Tryd.prog 17 #[.int .i64 op, .agg #[.bool c, .slice (some a1) n1 c1, .slice (some a2) n2 c2], .agg #[.bool d, .slice (some b1) m1 d1, .slice (some b2) m2 d2]] w (GivesRow w (outer op c d sh dt sh' dt')) := by
  have hl1 := hide h1.len
  have hl2 := hide h2.len
  have hl3 := hide k1.len
  have hl4 := hide k2.len
  have hs1 := h1.small
  have hs2 := h2.small
  have hs3 := k1.small
  have hs4 := k2.small
  have H1 := hide h1
  have H2 := hide h2
  have K1 := hide k1
  have K2 := hide k2
  clear h1 h2 k1 k2
  obtain ⟨r1, hr1⟩ : ∃ r, arrOk c sh dt = r := ⟨_, rfl⟩
  obtain ⟨r2, hr2⟩ : ∃ r, arrOk d sh' dt' = r := ⟨_, rfl⟩
  have HR1 := hide hr1
  have HR2 := hide hr2
  clear hr1 hr2
  go_enter Tryd.func17, Tryd.ntmps17
  go_wp2_with fail
  refine (ArrayOk_eq _ _ _ _ _ _ _ sh dt _ ((((unhide H1).alloc _).alloc _).alloc _) ((((unhide H2).alloc _).alloc _).alloc _) _ HR1).mono ?_
  rintro e w1 ⟨rfl, hb1⟩
  obtain ⟨B4, B5, B6, hB1⟩ := boxes3 hb1
  have hz1 := B6.lt
  clear hb1
  obtain ⟨x0, x1, x2, x3, x4, x5, x6⟩ := B4.all
  obtain ⟨y0, y1, y2, y3, y4, y5, y6⟩ := B5.all
  cases r1 with
  | false =>
    have HS := hide (outer_bad1 (op := op) (d := d) (sh' := sh') (dt' := dt') (unhide HR1))
    go_wp2_with fail
    refine (l4None_any _).mono ?_
    rintro e w9 ⟨rfl, hb9⟩
    obtain ⟨q0, q1, q2, q3, q4, q5, q6⟩ := (B6.below (Nat.le_refl _) hb9).all
    have hB9 := hide ((hB1).trans (hb9.mono (hB1).size))
    clear hb9 hB1 B4 B5 B6 hz1 x0 x1 x2 x3 x4 x5 x6 y0 y1 y2 y3 y4 y5 y6
    go_wp2
    refine bodyPost_ret (v := .tuple #[.agg #[.bool false, .slice none 0 0, .slice none 0 0], .int .i64 3]) (by simp [results, Tryd.results17, go_sem, q0, q1, q2]) rfl ?_
    rw [unhide HS]
    exact ⟨none, 0, 0, none, 0, 0, rfl, row_nil _ _, row_nil _ _, (((unhide hB9).setCell (by simp <;> omega) _).setCell (by simp <;> omega) _).setCell (by simp <;> omega) _⟩
  | true =>
    go_wp2_with fail
    refine (ArrayOk_eq _ _ _ _ _ _ _ sh' dt' _ ((unhide K1).below (Nat.le_refl _) hB1) ((unhide K2).below (Nat.le_refl _) hB1) _ HR2).mono ?_
    rintro e w2 ⟨rfl, hb2⟩
    have C4 := hide (B4.below (Nat.le_refl _) hb2)
    have C5 := hide (B5.below (Nat.le_refl _) hb2)
    have C6 := hide (B6.below (Nat.le_refl _) hb2)
    have hB2 := hide (hB1.trans (hb2.mono hB1.size))
    clear hb2 hB1 B4 B5 B6 hz1 x0 x1 x2 x3 x4 x5 x6 y0 y1 y2 y3 y4 y5 y6 w1
    cases r2 with
    | false =>
      have HS := hide (outer_bad2 (op := op) (c := c) (sh := sh) (dt := dt) (unhide HR2))
      go_wp2_with fail
      refine (l4None_any _).mono ?_
      rintro e w9 ⟨rfl, hb9⟩
      obtain ⟨q0, q1, q2, q3, q4, q5, q6⟩ := ((unhide C6).below (Nat.le_refl _) hb9).all
      have hB9 := hide (((unhide hB2)).trans (hb9.mono ((unhide hB2)).size))
      clear hb9 C4 C5 C6 hB2
      go_wp2
      refine bodyPost_ret (v := .tuple #[.agg #[.bool false, .slice none 0 0, .slice none 0 0], .int .i64 3]) (by simp [results, Tryd.results17, go_sem, q0, q1, q2]) rfl ?_
      rw [unhide HS]
      exact ⟨none, 0, 0, none, 0, 0, rfl, row_nil _ _, row_nil _ _, (((unhide hB9).setCell (by simp <;> omega) _).setCell (by simp <;> omega) _).setCell (by simp <;> omega) _⟩
    | true =>
      by_cases hop1 : op < 1
      · have HS := hide (outer_bad3 (op := op) (c := c) (d := d) (sh := sh) (dt := dt) (sh' := sh') (dt' := dt') (by omega))
        go_wp2_with fail
        refine (l4None_any _).mono ?_
        rintro e w9 ⟨rfl, hb9⟩
        obtain ⟨q0, q1, q2, q3, q4, q5, q6⟩ := ((unhide C6).below (Nat.le_refl _) hb9).all
        have hB9 := hide (((unhide hB2)).trans (hb9.mono ((unhide hB2)).size))
        clear hb9 C4 C5 C6 hB2
        go_wp2
        refine bodyPost_ret (v := .tuple #[.agg #[.bool false, .slice none 0 0, .slice none 0 0], .int .i64 3]) (by simp [results, Tryd.results17, go_sem, q0, q1, q2]) rfl ?_
        rw [unhide HS]
        exact ⟨none, 0, 0, none, 0, 0, rfl, row_nil _ _, row_nil _ _, (((unhide hB9).setCell (by simp <;> omega) _).setCell (by simp <;> omega) _).setCell (by simp <;> omega) _⟩
      by_cases hop2 : 16 < op
      · have HS := hide (outer_bad3 (op := op) (c := c) (d := d) (sh := sh) (dt := dt) (sh' := sh') (dt' := dt') (by omega))
        go_wp2_with fail
        refine (l4None_any _).mono ?_
        rintro e w9 ⟨rfl, hb9⟩
        obtain ⟨q0, q1, q2, q3, q4, q5, q6⟩ := ((unhide C6).below (Nat.le_refl _) hb9).all
        have hB9 := hide (((unhide hB2)).trans (hb9.mono ((unhide hB2)).size))
        clear hb9 C4 C5 C6 hB2
        go_wp2
        refine bodyPost_ret (v := .tuple #[.agg #[.bool false, .slice none 0 0, .slice none 0 0], .int .i64 3]) (by simp [results, Tryd.results17, go_sem, q0, q1, q2]) rfl ?_
        rw [unhide HS]
        exact ⟨none, 0, 0, none, 0, 0, rfl, row_nil _ _, row_nil _ _, (((unhide hB9).setCell (by simp <;> omega) _).setCell (by simp <;> omega) _).setCell (by simp <;> omega) _⟩
      have HOP : Hid (1 ≤ op ∧ op ≤ 16) := (by omega : 1 ≤ op ∧ op ≤ 16)
      have HIN : Hid (opIn op = true) := decide_eq_true (unhide HOP)
      obtain ⟨hzz1, hzz2, hzz3, hzz4⟩ := outer_size (unhide HR1) (unhide HR2)
      rw [unhide hl2] at hzz1
      rw [unhide hl4] at hzz2
      rw [unhide hl1] at hzz3
      rw [unhide hl3] at hzz4
      obtain ⟨x0, x1, x2, x3, x4, x5, x6⟩ := (unhide C4).all
      obtain ⟨y0, y1, y2, y3, y4, y5, y6⟩ := (unhide C5).all
      obtain ⟨sb, hsb⟩ : ∃ r, shapeB (sh ++ sh') = r := ⟨_, rfl⟩
      have HSB := hide hsb
      clear hsb
      go_wp2_with fail
      refine (l4Joined_any _ _ _ _ _ _ sh sh' _ ((unhide H1).below (Nat.le_refl _) (unhide hB2)) ((unhide K1).below (Nat.le_refl _) (unhide hB2)) (by omega) (by omega) sb HSB).mono ?_
      rintro e w3 ⟨ash, csh, rfl, hOJ, hb3⟩
      have D4 := hide ((unhide C4).below (Nat.le_refl _) hb3)
      have D5 := hide ((unhide C5).below (Nat.le_refl _) hb3)
      have D6 := hide ((unhide C6).below (Nat.le_refl _) hb3)
      have hB3 := hide ((unhide hB2).trans (hb3.mono (unhide hB2).size))
      have HOJ := hide hOJ
      have hB2z := (unhide hB2).size
      have hz6 := (unhide D6).lt
      have HB3 := hide hb3
      clear hb3 hOJ x0 x1 x2 x3 x4 x5 x6 y0 y1 y2 y3 y4 y5 y6
      cases sb with
      | false =>
        have HS := hide (outer_big (unhide HR1) (unhide HR2) (unhide HOP) (unhide HSB))
        go_wp2_with fail
        refine (l4None_any _).mono ?_
        rintro e w9 ⟨rfl, hb9⟩
        obtain ⟨q0, q1, q2, q3, q4, q5, q6⟩ := ((unhide D6).below (Nat.le_refl _) hb9).all
        have hB9 := hide (((unhide hB3)).trans (hb9.mono ((unhide hB3)).size))
        clear hb9 C4 C5 C6 D4 D5 D6 hB3 HB3 HOJ hB2
        go_wp2
        refine bodyPost_ret (v := .tuple #[.agg #[.bool false, .slice none 0 0, .slice none 0 0], .int .i64 7]) (by simp [results, Tryd.results17, go_sem, q0, q1, q2]) rfl ?_
        rw [unhide HS]
        exact ⟨none, 0, 0, none, 0, 0, rfl, row_nil _ _, row_nil _ _, (((unhide hB9).setCell (by simp <;> omega) _).setCell (by simp <;> omega) _).setCell (by simp <;> omega) _⟩
      | true =>
        obtain ⟨x0, x1, x2, x3, x4, x5, x6⟩ := (unhide D4).all
        obtain ⟨y0, y1, y2, y3, y4, y5, y6⟩ := (unhide D5).all
        go_upto_region 6 with fail
        go_cut [53] (fun b wx => w3 = wx ∧ b = .bool ((c || d) && !opEq op))
        case first =>
          cases c <;> cases d
          all_goals
            go_wp2_with (go_at_call 38; refine (l4Equal_any _ _).mono ?_; rintro e wq ⟨rfl, rfl⟩)
            go_meet
            case rel => exact ⟨rfl, rfl⟩
        case rest =>
          obtain ⟨rfl, rfl⟩ := hcut
          obtain ⟨bad, hbad⟩ : ∃ r, ((c || d) && !opEq op) = r := ⟨_, rfl⟩
          rw [hbad]
          have HBD := hide hbad
          clear hbad
          cases bad with
          | true =>
            have HS := hide (outer_char (unhide HR1) (unhide HR2) (unhide HOP) (unhide HSB) (unhide HBD))
            go_wp2_with fail
            refine (l4None_any _).mono ?_
            rintro e w9 ⟨rfl, hb9⟩
            obtain ⟨q0, q1, q2, q3, q4, q5, q6⟩ := ((unhide D6).below (Nat.le_refl _) hb9).all
            have hB9 := hide (((unhide hB3)).trans (hb9.mono ((unhide hB3)).size))
            clear hb9 C4 C5 C6 D4 D5 D6 hB3 HB3 HOJ hB2 x0 x1 x2 x3 x4 x5 x6 y0 y1 y2 y3 y4 y5 y6
            go_wp2
            refine bodyPost_ret (v := .tuple #[.agg #[.bool false, .slice none 0 0, .slice none 0 0], .int .i64 3]) (by simp [results, Tryd.results17, go_sem, q0, q1, q2]) rfl ?_
            rw [unhide HS]
            exact ⟨none, 0, 0, none, 0, 0, rfl, row_nil _ _, row_nil _ _, (((unhide hB9).setCell (by simp <;> omega) _).setCell (by simp <;> omega) _).setCell (by simp <;> omega) _⟩
          | false =>
            obtain ⟨f, hf⟩ : ∃ f : Nat → Int × Int, f = fun k => elemOf op c dt (k / m2) d dt' (k % m2) := ⟨_, rfl⟩
            have HGO : Hid (outer op c d sh dt sh' dt' = gatherAns false (sh ++ sh') f (n2 * m2)) := by
              show _ = _
              rw [outer_go (unhide HR1) (unhide HR2) (unhide HOP) (unhide HSB) (unhide HBD) n2 m2 (unhide hl2) (unhide hl4), hf]
            have HFK : Hid (∀ P Q, Q < m2 → f (P * m2 + Q) = elemOf op c dt P d dt' Q) := by
              intro P Q hQ
              rw [hf]
              have e1 : (P * m2 + Q) / m2 = P := by rw [Nat.mul_comm, Nat.mul_add_div (by omega), Nat.div_eq_of_lt hQ, Nat.add_zero]
              have e2 : (P * m2 + Q) % m2 = Q := by rw [Nat.mul_comm, Nat.mul_add_mod, Nat.mod_eq_of_lt hQ]
              simp only [e1, e2]
            have HV1 := hide (arr_bd (unhide HR1))
            have HV2 := hide (arr_bd (unhide HR2))
            have hbig : n2 * m2 ≤ 100000000 := Nat.mul_le_mul hzz1 hzz2
            clear hf HBD
            have hlaid := laid_cbz (c := false) (csh := csh) (unhide HOJ) (unhide HB3)
            obtain ⟨p, g0, ash', csh', e1, hbx, hblk, hO, hb4, hp, hg, hne⟩ := hlaid
            have hpe : p = w3.heap.size + 1 := by simpa using e1.symm
            subst hpe
            have hst0 := hide (Stage.start f hbx hblk hO hb4 hp hg hne)
            have hz4 := (unhide C4).lt
            have hz5 := (unhide C5).lt
            have hz6' := (unhide C6).lt
            clear e1 hbx hblk hO hb4 hg hne D4 D5 D6 hB3 HB3 HOJ
            obtain ⟨i0, hi, hz0, hz1, hz2⟩ := info_parts info_int
            go_wp2_with fail
            go_loopw [11] (fun i wr => ∃ P g cap, P ≤ n2 ∧ i = .int .i64 (P : Nat) ∧ Hid (Stage w2 (w3.heap.size + 1) false ash' (n1 + m1) csh' (sh ++ sh') f (P * m2) wr g cap)) (fun i _ => n2 - (intOf i).toNat)
            case atStart =>
              refine ⟨0, g0, 0, Nat.zero_le _, rfl, ?_⟩
              rw [Nat.zero_mul]
              exact hst0
            case round =>
              obtain ⟨P, g, cap, hP, rfl, hst⟩ := hrel
              clear hst0
              obtain ⟨x0, x1, x2, x3, x4, x5, x6⟩ := ((unhide C4).low hz4 (unhide hst).low).all
              by_cases hlt : P < n2
              · go_wp2_with fail
                go_loopw [12] (fun i wx => ∃ Q g cap, Q ≤ m2 ∧ i = .int .i64 (Q : Nat) ∧ Hid (Stage w2 (w3.heap.size + 1) false ash' (n1 + m1) csh' (sh ++ sh') f (P * m2 + Q) wx g cap)) (fun i _ => m2 - (intOf i).toNat)
                case atStart => exact ⟨0, g, cap, Nat.zero_le _, rfl, hst⟩
                case round =>
                  clear hst x0 x1 x2 x3 x4 x5 x6
                  obtain ⟨Q, g, cap, hQ, rfl, hst⟩ := hrel
                  obtain ⟨y0, y1, y2, y3, y4, y5, y6⟩ := ((unhide C5).low hz5 (unhide hst).low).all
                  by_cases hqlt : Q < m2
                  · obtain ⟨wy, hwy⟩ : ∃ x, x = wr := ⟨_, rfl⟩
                    subst hwy
                    have HWy := hide ((unhide hB2).trans ((unhide hst).low.mono hB2z))
                    obtain ⟨x0, x1, x2, x3, x4, x5, x6⟩ := ((unhide C4).low hz4 (unhide hst).low).all
                    have hfk0 := unhide HFK P Q hqlt
                    obtain ⟨r, hr⟩ : ∃ r, elemOf op c dt P d dt' Q = r := ⟨_, rfl⟩
                    obtain ⟨r1, r2⟩ := r
                    rw [hr] at hfk0
                    have HFQ := hide hfk0
                    have HRR := hide hr
                    clear hr hfk0
                    go_wp2_with fail
                    refine (l4Elements_any op c d _ _ _ _ n2 m2 _ _ dt dt' P Q _ ((unhide H2).below (Nat.le_refl _) (unhide HWy)) ((unhide K2).below (Nat.le_refl _) (unhide HWy)) hlt hqlt (unhide HIN) (unhide HV1) (unhide HV2) r1 r2 HRR).mono ?_
                    rintro e w6 ⟨rfl, hb6⟩
                    have hst6 := (unhide hst).below hb6
                    clear hb6 hst HWy x0 x1 x2 x3 x4 x5 x6 y0 y1 y2 y3 y4 y5 y6
                    have G6 := hide ((unhide C6).low hz6' hst6.low)
                    have HW6 := hide ((unhide hB2).trans (hst6.low.mono hB2z))
                    have hkk : P * m2 + Q < n2 * m2 := by
                      have : (P + 1) * m2 ≤ n2 * m2 := Nat.mul_le_mul_right m2 hlt
                      rw [Nat.add_mul] at this; omega
                    by_cases hcode : r2 = 0
                    · subst hcode
                      have hfk := unhide HFQ
                      obtain ⟨z0, z1, z2, z3, z4, z5, z6⟩ := hst6.box.all
                      have hown := hst6.owns
                      have hlow := hst6.low.size
                      go_wp2_with (at_builtin; refine wpList_append_lies _ rfl _ _ 22 rfl w2.heap.size 3 i0 (.int .i64 0) 1 8 Tryd.underlying22 hi hz0 hz1 hz2 rfl (by decide) _ _ _ rfl (hown.alloc _) ⟨w6.heap.size, 0, none⟩ 1 1 [.int .i64 r1] rfl rfl (cells_new _ _) (one_one _) (by omega) (by unfold maxLen; omega) (by omega) (by have := hlow; simp; omega) (w6.heap.size + 1) (by simp) ?_; intro g' cap' w7 hown' hgrow hat hlt7; obtain ⟨hb7, hst7⟩ := hst6.push _ hfk hown' hgrow hat; obtain ⟨z0', z1', z2', z3', z4', z5', z6'⟩ := hb7.all; clear hgrow hat hown')
                      go_roundw
                      case rel => exact ⟨Q + 1, g', cap', by omega, by go_num, hst7⟩
                      case measure => simp [intOf]; omega
                    · have HS : Hid (outer op c d sh dt sh' dt' = noAns r2) := by
                        show _ = _
                        have := gather_bad (c := false) (sh := sh ++ sh') hst6.code hkk (by rw [unhide HFQ]; exact hcode)
                        rw [unhide HGO, this, unhide HFQ]
                      have hcb : (r2 != 0) = true := by simp [hcode]
                      clear hcode hst6
                      go_wp2_with fail
                      refine (l4None_any _).mono ?_
                      rintro e w9 ⟨rfl, hb9⟩
                      obtain ⟨q0, q1, q2, q3, q4, q5, q6⟩ := ((unhide G6).below (Nat.le_refl _) hb9).all
                      have hB9 := hide (((unhide HW6)).trans (hb9.mono ((unhide HW6)).size))
                      clear hb9 G6 HW6
                      go_wp2
                      refine bodyPost_ret (v := .tuple #[.agg #[.bool false, .slice none 0 0, .slice none 0 0], .int .i64 r2]) (by simp [results, Tryd.results17, go_sem, q0, q1, q2]) rfl ?_
                      rw [unhide HS]
                      exact ⟨none, 0, 0, none, 0, 0, rfl, row_nil _ _, row_nil _ _, (((unhide hB9).setCell (by simp <;> omega) _).setCell (by simp <;> omega) _).setCell (by simp <;> omega) _⟩
                  · have hQA : Q = m2 := by omega
                    subst hQA
                    go_wp2_with fail
                    go_roundw
                    case rel => exact ⟨P + 1, g, cap, by omega, by go_num, by rw [Nat.add_mul, Nat.one_mul]; exact hst⟩
                    case measure => simp [intOf]; omega
              · have hPB : P = n2 := by omega
                subst hPB
                have HS : Hid (outer op c d sh dt sh' dt' = ⟨false, sh ++ sh', vals f (P * m2), 0⟩) := (unhide HGO).trans (gather_good (unhide hst).code)
                obtain ⟨ad', cd, hv, hD⟩ := Own.of_owns (unhide hst).owns (by omega)
                cases hv
                obtain ⟨z0, z1, z2, z3, z4, z5, z6⟩ := (unhide hst).box.all
                have G6 := hide ((unhide C6).low hz6' (unhide hst).low)
                obtain ⟨q0, q1, q2, q3, q4, q5, q6⟩ := (unhide G6).all
                have HW6 := hide ((unhide hB2).trans ((unhide hst).low.mono hB2z))
                have HO6 := hide (unhide hst).own
                have HD := hide hD
                clear hst hD HGO HFK
                go_wp2
                refine bodyPost_ret (v := .tuple #[.agg #[.bool false, .slice ash' (n1 + m1) csh', .slice (some ⟨g, 0, none⟩) (P * m2) cap], .int .i64 0]) (by simp [results, Tryd.results17, go_sem, q0, q1, q2]) rfl ?_
                rw [unhide HS]
                refine ⟨ash', n1 + m1, csh', some ⟨g, 0, none⟩, P * m2, cap, rfl, ?_, ?_, (((unhide HW6).setCell (by simp <;> omega) _).setCell (by simp <;> omega) _).setCell (by simp <;> omega) _⟩
                · exact (unhide HO6).row.sets (unhide G6) _ _ _
                · exact (unhide HD).row.sets (unhide G6) _ _ _

end Go.Proofs.YtpondlabofeohaaDoor
