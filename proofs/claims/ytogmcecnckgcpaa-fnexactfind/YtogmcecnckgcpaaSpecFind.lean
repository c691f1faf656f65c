import Derived.Test.YtogmcecnckgcpaaSpecFirst
import Derived.Test.YtogmcecnckgcpaaSpecNone
import Derived.Test.YtogmcecnckgcpaaSpecStage
import Derived.Deep.DeepCutAuto
import Derived.Deep.RegionLaw
namespace Go.Proofs.Ytogmcecnckgcpaa
open Go.RowKit

theorem find_bad1 {c d : Bool} {sh dt sh' dt' : List Int} (h : arrOk c sh dt = false) : find c d sh dt sh' dt' = noAns 3 := by unfold find; rw [if_neg (by simp [h])]
theorem find_bad2 {c d : Bool} {sh dt sh' dt' : List Int} (h : arrOk d sh' dt' = false) : find c d sh dt sh' dt' = noAns 3 := by unfold find; rw [if_neg (by simp [h])]
theorem find_rank {c d : Bool} {sh dt sh' dt' : List Int} (h1 : arrOk c sh dt = true) (h2 : arrOk d sh' dt' = true) (h : sh.length ≠ 1) : find c d sh dt sh' dt' = noAns 4 := by unfold find; rw [if_pos ⟨h1, h2⟩, if_pos h]
theorem find_go {c d : Bool} {sh dt sh' dt' : List Int} (h1 : arrOk c sh dt = true) (h2 : arrOk d sh' dt' = true) (h : sh.length = 1) (m2 : Nat) (l4 : dt'.length = m2) : find c d sh dt sh' dt' = gatherAns false sh' (fun k => ((firstOf c dt (dt'.getD k 0) d : Int) + 1, 0)) m2 := by
  unfold find; rw [if_pos ⟨h1, h2⟩, if_neg (by omega), l4]

set_option maxRecDepth 20000 in
set_option maxHeartbeats 8000000 in
theorem Find_any (c d : Bool) (a1 a2 b1 b2 : Addr) (n1 n2 m1 m2 c1 c2 d1 d2 : Nat) (sh dt sh' dt' : List Int) (w : World) (h1 : Row w (some a1) n1 sh) (h2 : Row w (some a2) n2 dt) (k1 : Row w (some b1) m1 sh') (k2 : Row w (some b2) m2 dt') :
    Calls Try.prog 16 #[.agg #[.bool c, .slice (some a1) n1 c1, .slice (some a2) n2 c2], .agg #[.bool d, .slice (some b1) m1 d1, .slice (some b2) m2 d2]] w (GivesRow w (find c d sh dt sh' dt')) := by
  have hl1 := hide h1.len
  have hl2 := hide h2.len
  have hl3 := hide k1.len
  have hl4 := hide k2.len
  have hs1 := h1.small
  have hs2 := h2.small
  have hs3 := k1.small
  have hs4 := k2.small
  have H1 := hide h1
  have H2 := hide h2
  have K1 := hide k1
  have K2 := hide k2
  clear h1 h2 k1 k2
  obtain ⟨r1, hr1⟩ : ∃ r, arrOk c sh dt = r := ⟨_, rfl⟩
  obtain ⟨r2, hr2⟩ : ∃ r, arrOk d sh' dt' = r := ⟨_, rfl⟩
  have HR1 := hide hr1
  have HR2 := hide hr2
  clear hr1 hr2
  go_enter Try.func16, Try.ntmps16
  go_wp2_with fail
  refine (ArrayOk_eq _ _ _ _ _ _ _ sh dt _ ((((unhide H1).alloc _).alloc _).alloc _) ((((unhide H2).alloc _).alloc _).alloc _) _ HR1).mono ?_
  rintro e w1 ⟨rfl, hb1⟩
  obtain ⟨B4, B5, B6, hB1⟩ := boxes3 hb1
  have hz1 := B6.lt
  clear hb1
  obtain ⟨x0, x1, x2, x3, x4, x5, x6⟩ := B4.all
  obtain ⟨y0, y1, y2, y3, y4, y5, y6⟩ := B5.all
  cases r1 with
  | false =>
    have HS := hide (find_bad1 (d := d) (sh' := sh') (dt' := dt') (unhide HR1))
    go_wp2_with fail
    refine (l4None_any _).mono ?_
    rintro e w9 ⟨rfl, hb9⟩
    obtain ⟨q0, q1, q2, q3, q4, q5, q6⟩ := (B6.below (Nat.le_refl _) hb9).all
    have hB9 := hide ((hB1).trans (hb9.mono (hB1).size))
    clear hb9 hB1 B4 B5 B6 hz1 x0 x1 x2 x3 x4 x5 x6 y0 y1 y2 y3 y4 y5 y6
    go_wp2
    refine bodyPost_ret (v := .tuple #[.agg #[.bool false, .slice none 0 0, .slice none 0 0], .int .i64 3]) (by simp [results, Try.results16, go_sem, q0, q1, q2]) rfl ?_
    rw [unhide HS]
    exact ⟨none, 0, 0, none, 0, 0, rfl, row_nil _ _, row_nil _ _, (((unhide hB9).setCell (by simp <;> omega) _).setCell (by simp <;> omega) _).setCell (by simp <;> omega) _⟩
  | true =>
    go_wp2_with fail
    refine (ArrayOk_eq _ _ _ _ _ _ _ sh' dt' _ ((unhide K1).below (Nat.le_refl _) hB1) ((unhide K2).below (Nat.le_refl _) hB1) _ HR2).mono ?_
    rintro e w2 ⟨rfl, hb2⟩
    have C4 := hide (B4.below (Nat.le_refl _) hb2)
    have C5 := hide (B5.below (Nat.le_refl _) hb2)
    have C6 := hide (B6.below (Nat.le_refl _) hb2)
    have hB2 := hide (hB1.trans (hb2.mono hB1.size))
    clear hb2 hB1 B4 B5 B6 hz1 x0 x1 x2 x3 x4 x5 x6 y0 y1 y2 y3 y4 y5 y6 w1
    cases r2 with
    | false =>
      have HS := hide (find_bad2 (c := c) (sh := sh) (dt := dt) (unhide HR2))
      go_wp2_with fail
      refine (l4None_any _).mono ?_
      rintro e w9 ⟨rfl, hb9⟩
      obtain ⟨q0, q1, q2, q3, q4, q5, q6⟩ := ((unhide C6).below (Nat.le_refl _) hb9).all
      have hB9 := hide (((unhide hB2)).trans (hb9.mono ((unhide hB2)).size))
      clear hb9 C4 C5 C6 hB2
      go_wp2
      refine bodyPost_ret (v := .tuple #[.agg #[.bool false, .slice none 0 0, .slice none 0 0], .int .i64 3]) (by simp [results, Try.results16, go_sem, q0, q1, q2]) rfl ?_
      rw [unhide HS]
      exact ⟨none, 0, 0, none, 0, 0, rfl, row_nil _ _, row_nil _ _, (((unhide hB9).setCell (by simp <;> omega) _).setCell (by simp <;> omega) _).setCell (by simp <;> omega) _⟩
    | true =>
      obtain ⟨x0, x1, x2, x3, x4, x5, x6⟩ := (unhide C4).all
      obtain ⟨y0, y1, y2, y3, y4, y5, y6⟩ := (unhide C5).all
      by_cases hn1 : n1 = 1
      · have g1 : ((n1 : Int) != 1) = false := by simp [hn1]
        obtain ⟨f, hf⟩ : ∃ f : Nat → Int × Int, f = fun k => ((firstOf c dt (dt'.getD k 0) d : Int) + 1, 0) := ⟨_, rfl⟩
        have HGO : Hid (find c d sh dt sh' dt' = gatherAns false sh' f m2) := by
          show _ = _
          rw [find_go (unhide HR1) (unhide HR2) ((unhide hl1).trans hn1) m2 (unhide hl4), hf]
        have HFK : Hid (∀ k, f k = ((firstOf c dt (dt'.getD k 0) d : Int) + 1, 0)) := by intro k; rw [hf]
        clear hf hn1
        obtain ⟨i0, hi, hz0, hz1, hz2⟩ := info_parts info_int
        go_wp2_with fail
        refine (l3Ints_any _ _ _ sh' _ ((unhide K1).below (Nat.le_refl _) (unhide hB2))).mono ?_
        rintro e w3 ⟨ash, csh, rfl, hOJ, hb3⟩
        have hlaid := laid_cbz (c := false) (csh := csh) hOJ hb3
        obtain ⟨p, g0, ash', csh', e1, hbx, hblk, hO, hb4, hp, hg, hne⟩ := hlaid
        have hpe : p = w3.heap.size + 1 := by simpa using e1.symm
        subst hpe
        have hst0 := hide (Stage.start f hbx hblk hO hb4 hp hg hne)
        have hB2z := (unhide hB2).size
        have hz4 := (unhide C4).lt
        have hz5 := (unhide C5).lt
        have hz6' := (unhide C6).lt
        clear e1 hbx hblk hO hb4 hg hne hOJ hb3 x0 x1 x2 x3 x4 x5 x6 y0 y1 y2 y3 y4 y5 y6
        go_wp2_with fail
        go_loopw [7] (fun i wr => ∃ P g cap, P ≤ m2 ∧ i = .int .i64 (P : Nat) ∧ Hid (Stage w2 (w3.heap.size + 1) false ash' m1 csh' sh' f P wr g cap)) (fun i _ => m2 - (intOf i).toNat)
        case atStart => exact ⟨0, g0, 0, Nat.zero_le _, rfl, hst0⟩
        case round =>
          obtain ⟨P, g, cap, hP, rfl, hst⟩ := hrel
          clear hst0
          obtain ⟨y0, y1, y2, y3, y4, y5, y6⟩ := ((unhide C5).low hz5 (unhide hst).low).all
          have HWy := hide ((unhide hB2).trans ((unhide hst).low.mono hB2z))
          by_cases hlt : P < m2
          · obtain ⟨bb, ob, hab, hblt, hc⟩ := (unhide K2).get hlt
            cases hab
            have hc' := ((unhide HWy).cell (p := ⟨bb, ob + P, none⟩) hblt).trans hc
            obtain ⟨x, hx⟩ : ∃ x, x = dt'.getD P 0 := ⟨_, rfl⟩
            rw [← hx] at hc'
            obtain ⟨r1, hr1⟩ : ∃ r1 : Int, r1 = (firstOf c dt x d : Int) + 1 := ⟨_, rfl⟩
            have hfk : f P = (r1, 0) := by rw [unhide HFK P, ← hx, hr1]
            have HFQ := hide hfk
            have HR1' := hide hr1
            have hfl := first_le c dt x d
            rw [unhide hl2] at hfl
            clear hfk hr1 hc hx
            obtain ⟨q, hq⟩ : ∃ q : Nat, firstOf c dt x d = q := ⟨_, rfl⟩
            have HQ := hide hq
            rw [hq] at hfl HR1'
            have HFP : Hid (f P = ((q : Int) + 1, 0)) := by show _ = _; rw [unhide HFQ, unhide HR1']
            clear hq HFQ HR1'
            have hPs : P < 17592186044416 := by omega
            obtain ⟨z0, z1, z2, z3, z4, z5, z6⟩ := (unhide hst).box.all
            have hst' := unhide hst
            have hwq : IntKind.i64.wrap ((q : Int) + 1) = (q : Int) + 1 := by rw [IntKind.wrap_i64]; omega
            obtain ⟨x0, x1, x2, x3, x4, x5, x6⟩ := ((unhide C4).low hz4 hst'.low).all
            go_wp2_with fail
            go_region_law
              (first
                | (refine step_append_lies _ (by rfl) _ _ _ (by rfl) w2.heap.size 3 i0 _ 1 8 Try.underlying22 hi hz0 hz1 hz2 rfl (by omega) (.slice (some ⟨g, 0, none⟩) P cap) P ((vals f P).map (Value.int .i64)) (by rfl) (hst5.owns.alloc _) ⟨w5.heap.size, 0, none⟩ 1 1 [.int .i64 ((q : Int) + 1)] (by rfl) (by rfl) (cells_new _ _) (one_one _) (by omega) (by unfold maxLen; omega) (by omega) (by have := hst5.low.size; simp; omega) (w5.heap.size + 1) (by simp) ?_; intro g' cap' w7 hown' hgrow hat hlt7; have hlow7 : Below w2.heap.size w2 w7 := hst5.low.trans (below_append _ hst5.owns hst5.low.size hgrow); obtain ⟨hb7, hst7⟩ := hst5.push _ (unhide HFP) hown' hgrow hat; obtain ⟨t0, t1, t2, t3, t4, t5, t6⟩ := hb7.all)
                | (go_simp; go_at_call 38; refine (l6First_any c d _ _ n2 _ dt x _ ((unhide H2).below (Nat.le_refl _) (unhide HWy).drew)).mono ?_; rw [unhide HQ]; rintro e w5 ⟨rfl, hb5⟩; have hst5 := hst'.drew.below hb5; obtain ⟨u0, u1, u2, u3, u4, u5, u6⟩ := hst5.box.all))
            all_goals
              go_wp2_with fail
              go_roundw
              case rel => exact ⟨P + 1, g', cap', by omega, by go_num, hst7⟩
              case measure => simp [intOf]; omega
          · have hPB : P = m2 := by omega
            subst hPB
            have HS : Hid (find c d sh dt sh' dt' = ⟨false, sh', vals f P, 0⟩) := (unhide HGO).trans (gather_good (unhide hst).code)
            obtain ⟨ad', cd, hv, hD⟩ := Own.of_owns (unhide hst).owns (by omega)
            cases hv
            obtain ⟨z0, z1, z2, z3, z4, z5, z6⟩ := (unhide hst).box.all
            have G6 := hide ((unhide C6).low hz6' (unhide hst).low)
            obtain ⟨q0, q1, q2, q3, q4, q5, q6⟩ := (unhide G6).all
            have HW6 := hide ((unhide hB2).trans ((unhide hst).low.mono hB2z))
            have HO6 := hide (unhide hst).own
            have HD := hide hD
            clear hst hD HGO HFK HWy
            go_wp2
            refine bodyPost_ret (v := .tuple #[.agg #[.bool false, .slice ash' m1 csh', .slice (some ⟨g, 0, none⟩) P cap], .int .i64 0]) (by simp [results, Try.results16, go_sem, q0, q1, q2]) rfl ?_
            rw [unhide HS]
            refine ⟨ash', m1, csh', some ⟨g, 0, none⟩, P, cap, rfl, ?_, ?_, (((unhide HW6).setCell (by simp <;> omega) _).setCell (by simp <;> omega) _).setCell (by simp <;> omega) _⟩
            · exact (unhide HO6).row.sets (unhide G6) _ _ _
            · exact (unhide HD).row.sets (unhide G6) _ _ _
      · have g1 : ((n1 : Int) != 1) = true := by simp; omega
        have HS := hide (find_rank (unhide HR1) (unhide HR2) (by rw [unhide hl1]; exact hn1))
        clear hn1
        go_wp2_with fail
        refine (l4None_any _).mono ?_
        rintro e w9 ⟨rfl, hb9⟩
        obtain ⟨q0, q1, q2, q3, q4, q5, q6⟩ := ((unhide C6).below (Nat.le_refl _) hb9).all
        have hB9 := hide (((unhide hB2)).trans (hb9.mono ((unhide hB2)).size))
        clear hb9 C4 C5 C6 hB2 x0 x1 x2 x3 x4 x5 x6 y0 y1 y2 y3 y4 y5 y6
        go_wp2
        refine bodyPost_ret (v := .tuple #[.agg #[.bool false, .slice none 0 0, .slice none 0 0], .int .i64 4]) (by simp [results, Try.results16, go_sem, q0, q1, q2]) rfl ?_
        rw [unhide HS]
        exact ⟨none, 0, 0, none, 0, 0, rfl, row_nil _ _, row_nil _ _, (((unhide hB9).setCell (by simp <;> omega) _).setCell (by simp <;> omega) _).setCell (by simp <;> omega) _⟩

end Go.Proofs.Ytogmcecnckgcpaa
