import Derived.Test.YtogmcecnckgcpaaEncodeMath
import Derived.Test.YtogmcecnckgcpaaOuterMath
import Derived.Test.YtogmcecnckgcpaaSpecListN
import Derived.Test.YtogmcecnckgcpaaSpecNone
import Derived.Test.YtogmcecnckgcpaaSpecJoin
import Derived.Test.YtogmcecnckgcpaaSpecMod
import Derived.Test.YtogmcecnckgcpaaSpecBoxes
import Derived.Test.YtogmcecnckgcpaaMadeRow
import Derived.Test.YtogmcecnckgcpaaArrSpec
import Derived.Deep.DeepCutAuto
namespace Go.Proofs.Ytogmcecnckgcpaa
open Go.RowKit

theorem enc_count {c d : Bool} {sh dt sh' dt' : List Int} {n2 m2 : Nat} (l2 : dt.length = n2) (l4 : dt'.length = m2) (h1 : arrOk c sh dt = true) (h2 : arrOk d sh' dt' = true) (h : shapeB (sh ++ sh') = true) : n2 * m2 ≤ 10000 := by
  obtain ⟨_, p1, _⟩ := shapeIn_of h1
  obtain ⟨_, p2, _⟩ := shapeIn_of h2
  have hb := (prodAll_bd _ h (sh ++ sh').length).2
  rw [List.take_length, prodAll_append, p1, p2, l2, l4] at hb
  have e : ((n2 * m2 : Nat) : Int) ≤ 10000 := by rw [Int.natCast_mul]; exact hb
  omega

theorem modOf_range {a : Int} (ha : 0 < a) (x : Int) : 0 ≤ modOf a x ∧ modOf a x < a := by
  unfold modOf
  rw [if_neg (by omega)]
  have h1 := Int.tmod_lt_of_pos x ha
  have h2 : -a < x.tmod a := Int.lt_tmod_of_pos x ha
  split
  · rename_i h
    have h4 : x.tmod a < 0 := by
      by_cases h4 : x.tmod a < 0
      · exact h4
      · exfalso; apply h.2; rw [decide_eq_false h4, decide_eq_false (by omega)]
    omega
  · rename_i h
    have h4 : ¬ x.tmod a < 0 := by
      intro h4
      apply h
      refine ⟨by omega, ?_⟩
      rw [decide_eq_true h4, decide_eq_false (by omega)]; simp
    omega

set_option maxRecDepth 20000 in
set_option maxHeartbeats 8000000 in
theorem Encode_any (c d : Bool) (a1 a2 b1 b2 : Addr) (n1 n2 m1 m2 c1 c2 d1 d2 : Nat) (sh dt sh' dt' : List Int) (w : World) (h1 : Row w (some a1) n1 sh) (h2 : Row w (some a2) n2 dt) (k1 : Row w (some b1) m1 sh') (k2 : Row w (some b2) m2 dt') :
    Calls Try.prog 22 #[.agg #[.bool c, .slice (some a1) n1 c1, .slice (some a2) n2 c2], .agg #[.bool d, .slice (some b1) m1 d1, .slice (some b2) m2 d2]] w (GivesRow w (encode c d sh dt sh' dt')) := by
  have hl1 := hide h1.len
  have hl2 := hide h2.len
  have hl3 := hide k1.len
  have hl4 := hide k2.len
  have hs1 := h1.small
  have hs2 := h2.small
  have hs3 := k1.small
  have hs4 := k2.small
  have H1 := hide h1
  have H2 := hide h2
  have K1 := hide k1
  have K2 := hide k2
  clear h1 h2 k1 k2
  obtain ⟨r1, hr1⟩ : ∃ r, arrOk c sh dt = r := ⟨_, rfl⟩
  obtain ⟨r2, hr2⟩ : ∃ r, arrOk d sh' dt' = r := ⟨_, rfl⟩
  have HR1 := hide hr1
  have HR2 := hide hr2
  clear hr1 hr2
  go_enter Try.func22, Try.ntmps22
  go_wp2_with fail
  refine (ArrayOk_eq _ _ _ _ _ _ _ sh dt _ ((((unhide H1).alloc _).alloc _).alloc _) ((((unhide H2).alloc _).alloc _).alloc _) _ HR1).mono ?_
  rintro e w1 ⟨rfl, hb1⟩
  obtain ⟨B4, B5, B6, hB1⟩ := boxes3 hb1
  have hz1 := B6.lt
  clear hb1
  obtain ⟨x0, x1, x2, x3, x4, x5, x6⟩ := B4.all
  obtain ⟨y0, y1, y2, y3, y4, y5, y6⟩ := B5.all
  cases r1 with
  | false =>
    have HS : Hid (encode c d sh dt sh' dt' = noAns 3) := encode_bad1 (unhide HR1)
    go_wp2_with fail
    refine (l4None_any _).mono ?_
    rintro e w9 ⟨rfl, hb9⟩
    obtain ⟨q0, q1, q2, q3, q4, q5, q6⟩ := ((B6).below (Nat.le_refl _) hb9).all
    have hB9 := hide ((hB1).trans (hb9.mono (hB1).size))
    clear hb9 hB1 B4 B5 B6 hz1 x0 x1 x2 x3 x4 x5 x6 y0 y1 y2 y3 y4 y5 y6
    go_wp2
    refine bodyPost_ret (v := .tuple #[.agg #[.bool false, .slice none 0 0, .slice none 0 0], .int .i64 3]) (by simp [results, Try.results22, go_sem, q0, q1, q2]) rfl ?_
    rw [unhide HS]
    exact ⟨none, 0, 0, none, 0, 0, rfl, row_nil _ _, row_nil _ _, (((unhide hB9).setCell (by simp <;> omega) _).setCell (by simp <;> omega) _).setCell (by simp <;> omega) _⟩
  | true =>
    go_wp2_with fail
    refine (ArrayOk_eq _ _ _ _ _ _ _ sh' dt' _ ((unhide K1).below (Nat.le_refl _) hB1) ((unhide K2).below (Nat.le_refl _) hB1) _ HR2).mono ?_
    rintro e w2 ⟨rfl, hb2⟩
    have C4 := hide (B4.below (Nat.le_refl _) hb2)
    have C5 := hide (B5.below (Nat.le_refl _) hb2)
    have C6 := hide (B6.below (Nat.le_refl _) hb2)
    have hB2 := hide (hB1.trans (hb2.mono hB1.size))
    clear hb2 hB1 B4 B5 B6 hz1 x0 x1 x2 x3 x4 x5 x6 y0 y1 y2 y3 y4 y5 y6 w1
    cases r2 with
    | false =>
      have HS : Hid (encode c d sh dt sh' dt' = noAns 3) := encode_bad2 (unhide HR2)
      go_wp2_with fail
      refine (l4None_any _).mono ?_
      rintro e w9 ⟨rfl, hb9⟩
      obtain ⟨q0, q1, q2, q3, q4, q5, q6⟩ := ((unhide C6).below (Nat.le_refl _) hb9).all
      have hB9 := hide ((unhide hB2).trans (hb9.mono (unhide hB2).size))
      clear hb9 C4 C5 C6 hB2
      go_wp2
      refine bodyPost_ret (v := .tuple #[.agg #[.bool false, .slice none 0 0, .slice none 0 0], .int .i64 3]) (by simp [results, Try.results22, go_sem, q0, q1, q2]) rfl ?_
      rw [unhide HS]
      exact ⟨none, 0, 0, none, 0, 0, rfl, row_nil _ _, row_nil _ _, (((unhide hB9).setCell (by simp <;> omega) _).setCell (by simp <;> omega) _).setCell (by simp <;> omega) _⟩
    | true =>
      obtain ⟨x0, x1, x2, x3, x4, x5, x6⟩ := (unhide C4).all
      obtain ⟨r, hr⟩ : ∃ r, listCode c n1 = r := ⟨_, rfl⟩
      have HLC := hide hr
      clear hr
      go_wp2_with fail
      refine (l5List_any c _ _ _ _ _ hs1 r HLC).mono ?_
      rintro e w3 ⟨rfl, hb3⟩
      have D4 := hide ((unhide C4).below (Nat.le_refl _) hb3)
      have D5 := hide ((unhide C5).below (Nat.le_refl _) hb3)
      have D6 := hide ((unhide C6).below (Nat.le_refl _) hb3)
      have hB3 := hide ((unhide hB2).trans (hb3.mono (unhide hB2).size))
      clear hb3 hB2 C4 C5 C6 x0 x1 x2 x3 x4 x5 x6 w2
      by_cases hcode : r = 0
      · subst hcode
        have HL0 : Hid (listCode c sh.length = 0) := by show _ = _; rw [unhide hl1]; exact unhide HLC
        obtain ⟨x0, x1, x2, x3, x4, x5, x6⟩ := (unhide D4).all
        have HW3 := hide (unhide hB3)
        go_wp2_with fail
        go_loop [7] (fun i => ∃ k : Nat, k ≤ n2 ∧ i = .int .i64 k ∧ Hid ((dt.take k).all nonNeg = true)) (fun i => n2 - (intOf i).toNat)
        case atStart => exact ⟨0, Nat.zero_le _, rfl, rfl⟩
        case round =>
          obtain ⟨k, hk, rfl, hall⟩ := hrel
          by_cases hlt : k < n2
          · obtain ⟨ba, oa, hab, hblt, hc⟩ := (unhide H2).get hlt
            cases hab
            have hc' := ((unhide HW3).cell (p := ⟨ba, oa + k, none⟩) hblt).trans hc
            have hks : Hid (k < dt.length) := by show k < dt.length; rw [unhide hl2]; exact hlt
            obtain ⟨x, hx⟩ : ∃ x, x = dt.getD k 0 := ⟨_, rfl⟩
            rw [← hx] at hc'
            have HX := hide hx
            clear hx hc
            by_cases hneg : x < 0
            · have HS : Hid (encode c d sh dt sh' dt' = noAns 3) := encode_neg (unhide HR1) (unhide HR2) (unhide HL0) (all_not dt nonNeg k (unhide hks) (by rw [← unhide HX]; exact decide_eq_false (by omega)))
              go_wp2_with fail
              refine (l4None_any _).mono ?_
              rintro e w9 ⟨rfl, hb9⟩
              obtain ⟨q0, q1, q2, q3, q4, q5, q6⟩ := ((unhide D6).below (Nat.le_refl _) hb9).all
              have hB9 := hide ((unhide hB3).trans (hb9.mono (unhide hB3).size))
              clear hb9 D4 D5 D6 hB3 HW3 x0 x1 x2 x3 x4 x5 x6 hc'
              go_wp2
              refine bodyPost_ret (v := .tuple #[.agg #[.bool false, .slice none 0 0, .slice none 0 0], .int .i64 3]) (by simp [results, Try.results22, go_sem, q0, q1, q2]) rfl ?_
              rw [unhide HS]
              exact ⟨none, 0, 0, none, 0, 0, rfl, row_nil _ _, row_nil _ _, (((unhide hB9).setCell (by simp <;> omega) _).setCell (by simp <;> omega) _).setCell (by simp <;> omega) _⟩
            · have HA := hide (all_step dt nonNeg k (unhide hks) (unhide hall) (by rw [← unhide HX]; exact decide_eq_true (by omega)))
              go_wp2
              go_round
              case rel => exact ⟨k + 1, by omega, by go_num, HA⟩
              case measure => simp [intOf]; omega
          · have HA : Hid (dt.all nonNeg = true) := by
              have := unhide hall
              rwa [List.take_of_length_le (by rw [unhide hl2]; omega)] at this
            clear hall x0 x1 x2 x3 x4 x5 x6 HW3
            obtain ⟨x0, x1, x2, x3, x4, x5, x6⟩ := (unhide D4).all
            obtain ⟨y0, y1, y2, y3, y4, y5, y6⟩ := (unhide D5).all
            cases d with
            | true =>
              have HS : Hid (encode c true sh dt sh' dt' = noAns 3) := encode_char (unhide HR1) (unhide HR2) (unhide HL0) (unhide HA)
              go_wp2_with fail
              refine (l4None_any _).mono ?_
              rintro e w9 ⟨rfl, hb9⟩
              obtain ⟨q0, q1, q2, q3, q4, q5, q6⟩ := ((unhide D6).below (Nat.le_refl _) hb9).all
              have hB9 := hide ((unhide hB3).trans (hb9.mono (unhide hB3).size))
              clear hb9 D4 D5 D6 hB3 x0 x1 x2 x3 x4 x5 x6 y0 y1 y2 y3 y4 y5 y6
              go_wp2
              refine bodyPost_ret (v := .tuple #[.agg #[.bool false, .slice none 0 0, .slice none 0 0], .int .i64 3]) (by simp [results, Try.results22, go_sem, q0, q1, q2]) rfl ?_
              rw [unhide HS]
              exact ⟨none, 0, 0, none, 0, 0, rfl, row_nil _ _, row_nil _ _, (((unhide hB9).setCell (by simp <;> omega) _).setCell (by simp <;> omega) _).setCell (by simp <;> omega) _⟩
            | false =>
              have hz1 : n1 ≤ 10000 := by have := (shapeIn_of (unhide HR1)).2.2; rw [unhide hl1] at this; omega
              have hz3 : m1 ≤ 10000 := by have := (shapeIn_of (unhide HR2)).2.2; rw [unhide hl3] at this; omega
              obtain ⟨sb, hsb⟩ : ∃ r, shapeB (sh ++ sh') = r := ⟨_, rfl⟩
              have HSB := hide hsb
              clear hsb
              go_wp2_with fail
              refine (l4Joined_any a1 b1 n1 m1 c1 d1 sh sh' _ ((unhide H1).below (Nat.le_refl _) (unhide hB3)) ((unhide K1).below (Nat.le_refl _) (unhide hB3)) hz1 hz3 sb HSB).mono ?_
              rintro e w4 ⟨ash, csh, rfl, hO, hb4⟩
              have HO := hide hO
              have E4 := hide ((unhide D4).below (Nat.le_refl _) hb4)
              have E5 := hide ((unhide D5).below (Nat.le_refl _) hb4)
              have E6 := hide ((unhide D6).below (Nat.le_refl _) hb4)
              have hB4 := hide ((unhide hB3).trans (hb4.mono (unhide hB3).size))
              have hz4 := (unhide hB3).size
              have hz3b : w.heap.size + 2 < w3.heap.size := (unhide D6).lt
              clear hO hb4 hB3 D4 D5 D6 x0 x1 x2 x3 x4 x5 x6 y0 y1 y2 y3 y4 y5 y6
              cases sb with
              | false =>
                have HS : Hid (encode c false sh dt sh' dt' = noAns 7) := encode_big (unhide HR1) (unhide HR2) (unhide HL0) (unhide HA) (unhide HSB)
                go_wp2_with fail
                refine (l4None_any _).mono ?_
                rintro e w9 ⟨rfl, hb9⟩
                obtain ⟨q0, q1, q2, q3, q4, q5, q6⟩ := ((unhide E6).below (Nat.le_refl _) hb9).all
                have hB9 := hide ((unhide hB4).trans (hb9.mono (unhide hB4).size))
                clear hb9 E4 E5 E6 hB4 HO
                go_wp2
                refine bodyPost_ret (v := .tuple #[.agg #[.bool false, .slice none 0 0, .slice none 0 0], .int .i64 7]) (by simp [results, Try.results22, go_sem, q0, q1, q2]) rfl ?_
                rw [unhide HS]
                exact ⟨none, 0, 0, none, 0, 0, rfl, row_nil _ _, row_nil _ _, (((unhide hB9).setCell (by simp <;> omega) _).setCell (by simp <;> omega) _).setCell (by simp <;> omega) _⟩
              | true =>
                have HS : Hid (encode c false sh dt sh' dt' = ⟨false, sh ++ sh', encAll dt dt' m2, 0⟩) := by rw [← unhide hl4]; exact encode_go (unhide HR1) (unhide HR2) (unhide HL0) (unhide HA) (unhide HSB)
                have hcnt := enc_count (unhide hl2) (unhide hl4) (unhide HR1) (unhide HR2) (unhide HSB)
                obtain ⟨T, hT⟩ : ∃ T, T = n2 * m2 := ⟨_, rfl⟩
                rw [← hT] at hcnt
                have hTI : IntKind.i64.wrap ((n2 : Int) * (m2 : Int)) = (T : Int) := by rw [← Int.natCast_mul, ← hT, IntKind.wrap_i64]; omega
                have hTM : (n2 : Int) * (m2 : Int) = (T : Int) := by rw [← Int.natCast_mul, ← hT]
                have HT := hide hT
                clear hT
                have hmk := run_make_row' (P := Try.prog) 22 3 (.int .i64 0) 8 Try.underlying22 info_int rfl .i64 .i64 T (by omega) (by omega)
                obtain ⟨x0, x1, x2, x3, x4, x5, x6⟩ := (unhide E4).all
                obtain ⟨y0, y1, y2, y3, y4, y5, y6⟩ := (unhide E5).all
                go_wp2_with fail
                obtain ⟨gs, hgs⟩ : ∃ gs, gs = w4.heap.size := ⟨_, rfl⟩
                obtain ⟨pb, hpb⟩ : ∃ pb, pb = w4.heap.size + 1 := ⟨_, rfl⟩
                obtain ⟨wz, hwz⟩ : ∃ wz, wz = (w4.alloc (.cells (madeCells #[.int .i64 0] T) 3)).alloc (.cells #[.bool false, .slice ash (n1 + m1) csh, .slice (some ⟨w4.heap.size, 0, none⟩) T T] 27) := ⟨_, rfl⟩
                have HZ4 : Hid (Box wz w.heap.size c (.slice (some a1) n1 c1) (.slice (some a2) n2 c2)) := by rw [hwz]; exact ((unhide E4).alloc _).alloc _
                have HZ5 : Hid (Box wz (w.heap.size + 1) false (.slice (some b1) m1 d1) (.slice (some b2) m2 d2)) := by rw [hwz]; exact ((unhide E5).alloc _).alloc _
                have HZ6 : Hid (Box wz (w.heap.size + 2) false (.slice none 0 0) (.slice none 0 0)) := by rw [hwz]; exact ((unhide E6).alloc _).alloc _
                have HZP : Hid (Box wz pb false (.slice ash (n1 + m1) csh) (.slice (some ⟨gs, 0, none⟩) T T)) := by
                  rw [hwz, hpb, hgs]
                  have := Box.new (w4.alloc (.cells (madeCells #[.int .i64 0] T) 3)) false (.slice ash (n1 + m1) csh) (.slice (some ⟨w4.heap.size, 0, none⟩) T T)
                  rw [World.size_alloc] at this
                  exact this
                have HZO := hide (show Own wz w3.heap.size ash (n1 + m1) (sh ++ sh') by rw [hwz]; exact ((unhide HO).alloc _).alloc _)
                have HZG : Hid (Blk wz gs (encMid dt dt' m2 0 0)) := by show Blk wz gs _; rw [encMid_zero, unhide hl2, ← unhide HT, hwz]; exact (Blk.made _ _ _ hgs).alloc _
                have HZB : Hid (Below w.heap.size w wz) := by rw [hwz]; exact ((unhide hB4).alloc (unhide hB4).size _).alloc (by have := (unhide hB4).size; simp; omega) _
                have hzp : pb < wz.heap.size := HZP.out.lt
                have hgp : gs < pb := by omega
                have HW3Z : Hid (w.heap.size + 2 < w3.heap.size) := hz3b
                have hwg : w.heap.size + 2 < gs := by have := (unhide E6).lt; omega
                have HOL : Hid (∀ x, At ash (n1 + m1) x → x < gs) := fun x h => by rw [hgs]; exact (unhide HO).row.hi h
                rw [← hwz, ← hpb]
                rw [← hgs] at *
                clear hwz hpb hgs hmk E4 E5 E6 hB4 HO x0 x1 x2 x3 x4 x5 x6 y0 y1 y2 y3 y4 y5 y6 hz4
                have HDB : Hid (∀ q, q < n2 → 0 ≤ dt.getD q 0 ∧ dt.getD q 0 ≤ 1000000000000000) := fun q hq => ⟨nonNeg_at (unhide HA) (by rw [unhide hl2]; exact hq), (dataOk_bd (unhide HR1) (by rw [unhide hl2]; exact hq)).2⟩
                have HBB : Hid (∀ q, q < m2 → -1000000000000000 ≤ dt'.getD q 0 ∧ dt'.getD q 0 ≤ 1000000000000000) := fun q hq => dataOk_bd (unhide HR2) (by rw [unhide hl4]; exact hq)
                have HP2 : Hid (∀ q, At (some a2) n2 q → q < w.heap.size) := fun q h => (unhide H2).hi h
                have HP4 : Hid (∀ q, At (some b2) m2 q → q < w.heap.size) := fun q h => (unhide K2).hi h
                have H2Z := hide ((unhide H2).below (Nat.le_refl _) (unhide HZB))
                have K2Z := hide ((unhide K2).below (Nat.le_refl _) (unhide HZB))
                go_loopw [12] (fun i wr => ∃ j : Nat, j ≤ m2 ∧ i = .int .i64 (j : Nat) ∧ Hid (Blk wr gs (encMid dt dt' m2 j 0)) ∧ Hid (But (fun x => x = gs) wz wr)) (fun i _ => m2 - (intOf i).toNat)
                case atStart => exact ⟨0, Nat.zero_le _, rfl, HZG, hide (But.refl _ _)⟩
                case round =>
                  obtain ⟨j, hj, rfl, hb, hbut⟩ := hrel
                  have hzr := hbut.out.size
                  obtain ⟨x0, x1, x2, x3, x4, x5, x6⟩ := (show Box wr w.heap.size c (.slice (some a1) n1 c1) (.slice (some a2) n2 c2) from (hbut.out.block _ (by omega) (by omega)).trans HZ4.out).all
                  obtain ⟨y0, y1, y2, y3, y4, y5, y6⟩ := (show Box wr (w.heap.size + 1) false (.slice (some b1) m1 d1) (.slice (some b2) m2 d2) from (hbut.out.block _ (by omega) (by omega)).trans HZ5.out).all
                  obtain ⟨z0, z1, z2, z3, z4, z5, z6⟩ := (show Box wr pb false (.slice ash (n1 + m1) csh) (.slice (some ⟨gs, 0, none⟩) T T) from (hbut.out.block _ (by omega) (by omega)).trans HZP.out).all
                  by_cases hjm : j < m2
                  · obtain ⟨bb, ob, hbb, _, cb⟩ := (hbut.out.row K2Z.out (by rintro x rfl h; have := HP4.out _ h; omega)).get hjm
                    cases hbb
                    obtain ⟨b, hbv⟩ : ∃ b, dt'.getD j 0 = b := ⟨_, rfl⟩
                    rw [hbv] at cb
                    have hbd : -1000000000000000 ≤ b ∧ b ≤ 1000000000000000 := by rw [← hbv]; exact HBB.out j hjm
                    have HBV := hide hbv
                    clear hbv
                    obtain ⟨wo, hwo⟩ : ∃ x, x = wr := ⟨_, rfl⟩
                    subst hwo
                    go_wp2_with fail
                    go_loopw [13, 14] (fun x i wr => ∃ t : Nat, t ≤ n2 ∧ i = .int .i64 ((n2 : Int) - 1 - (t : Nat)) ∧ x = .int .i64 (encLeft dt b t) ∧ Hid (Blk wr gs (encMid dt dt' m2 j t)) ∧ Hid (But (fun x => x = gs) wo wr)) (fun _ i _ => (intOf i + 1).toNat)
                    case atStart => exact ⟨0, Nat.zero_le _, by simp, rfl, hb, hide (But.refl _ _)⟩
                    case round =>
                      obtain ⟨t, ht, rfl, rfl, hb2, hbut2⟩ := hrel
                      have hzr2 := hbut2.out.size
                      have x2' := (hbut2.out.cellAt (b := w.heap.size) (o := 2) (by omega) (by omega)).trans x2
                      have z2' := (hbut2.out.cellAt (b := pb) (o := 2) (by omega) (by omega)).trans z2
                      have hbw : But (fun x => x = gs) wz wr := (hbut.out.trans hbut2.out).mono (by rintro q (h | h) <;> exact h)
                      have HBW := hide hbw
                      by_cases htn : t < n2
                      · obtain ⟨i0, hi0⟩ : ∃ i0 : Nat, i0 = n2 - 1 - t := ⟨_, rfl⟩
                        have e1 : (n2 : Int) - 1 - (t : Nat) = (i0 : Nat) := by omega
                        have hil : i0 < n2 := by omega
                        obtain ⟨ba, oa, hba, _, ca⟩ := (hbw.row H2Z.out (by rintro q rfl h; have := HP2.out _ h; omega)).get hil
                        cases hba
                        have hev : dt.length - 1 - t = i0 := by rw [unhide hl2]; omega
                        have hev2 : dt.length - 1 - i0 = t := by rw [unhide hl2]; omega
                        obtain ⟨a, hav⟩ : ∃ a, dt.getD i0 0 = a := ⟨_, rfl⟩
                        obtain ⟨x, hxv⟩ : ∃ x, encLeft dt b t = x := ⟨_, rfl⟩
                        obtain ⟨dg, hdv⟩ : ∃ dg, modOf a x = dg := ⟨_, rfl⟩
                        have hxb : -1000000000000000 ≤ x ∧ x ≤ 1000000000000000 := by rw [← hxv]; exact encLeft_bd (fun q hq => (HDB.out q (by rw [← unhide hl2]; exact hq)).1) hbd t (by rw [unhide hl2]; exact ht)
                        have hab : 0 ≤ a ∧ a ≤ 1000000000000000 := by rw [← hav]; exact HDB.out i0 hil
                        have HDG : Hid (encDigit dt (dt'.getD j 0) (dt.length - 1 - t) = dg) := by show _ = _; rw [hev]; unfold encDigit; rw [hev2, hav, HBV.out, hxv]; exact hdv
                        have hmod := l4Mod_any a x
                        rw [hdv] at hmod
                        obtain ⟨P, hP⟩ : ∃ P, P = i0 * m2 := ⟨_, rfl⟩
                        obtain ⟨Qp, hQ⟩ : ∃ Qp, Qp = P + j := ⟨_, rfl⟩
                        have hPl : Qp < T := by rw [unhide HT, hQ, hP]; exact place_lt hil hjm
                        have hPi : (i0 : Int) * (m2 : Int) = (P : Int) := by rw [hP, Int.natCast_mul]
                        have hwP : IntKind.i64.wrap ((i0 : Int) * (m2 : Int)) = (P : Int) := by rw [hPi, IntKind.wrap_i64]; omega
                        have hwQ : IntKind.i64.wrap ((P : Int) + (j : Int)) = (Qp : Int) := by rw [IntKind.wrap_i64]; omega
                        have hQi : (P : Int) + (j : Int) = (Qp : Int) := by omega
                        have cg := hb2.out.cell (i := Qp) (by rw [encMid_len, unhide hl2, ← unhide HT]; exact hPl)
                        have cf := hb2.out.free Qp
                        have HST : Hid (encMid dt dt' m2 j (t + 1) = (encMid dt dt' m2 j t).set Qp dg) := by
                          have h := encMid_step dt dt' hjm (show t < dt.length by rw [unhide hl2]; exact htn)
                          rw [HDG.out, hev, ← hP, ← hQ] at h
                          exact h.symm
                        rw [hav] at ca
                        rw [e1, hxv]
                        have HI := hide hi0
                        have HXV := hide hxv
                        have HAV := hide hav
                        have HEV := hide hev
                        have HDV := hide hdv
                        have HBUT2 := hide hbut2.out
                        clear hi0 hev hev2 hav hxv hdv hP hQ e1 hbw cb x0 x1 x2 x3 x4 x5 x6 y0 y1 y2 y3 y4 y5 y6 z0 z1 z2 z3 z4 z5 z6
                        have ca2 : (wr.setCell ⟨gs, Qp, none⟩ (.int .i64 dg)).cell? ⟨ba, oa + i0, none⟩ = some (.int .i64 a) := (World.cell?_setCell_other _ _ _ _ (by have : ba < w.heap.size := HP2.out ba ⟨by omega, _, rfl, rfl⟩; simp <;> omega)).trans ca
                        have x22 : (wr.setCell ⟨gs, Qp, none⟩ (.int .i64 dg)).cell? ⟨w.heap.size, 2, none⟩ = some (.slice (some ⟨ba, oa, none⟩) n2 c2) := (World.cell?_setCell_other _ _ _ _ (by simp <;> omega)).trans x2'
                        by_cases ha0 : a = 0
                        · have HNL : Hid (encLeft dt b (t + 1) = 0) := by show (if dt.getD (dt.length - 1 - t) 0 = 0 then 0 else _) = _; rw [HEV.out, HAV.out, if_pos ha0]
                          subst ha0
                          clear hab
                          go_wp2_with (go_at_call 48; refine (hmod _ (by omega) (by omega)).mono ?_; rintro e w8 ⟨rfl, hw8⟩; obtain rfl := hw8.symm)
                          go_roundw
                          case rel =>
                            refine ⟨t + 1, by omega, by rw [HI.out]; go_num, by rw [HNL.out], ?_, hide (HBUT2.out.setCell (p := ⟨gs, Qp, none⟩) rfl _)⟩
                            show Blk _ _ _
                            rw [HST.out]
                            exact hb2.out.set Qp dg
                          case measure => simp [intOf]
                        · have hpos : 0 < a := by omega
                          have hdl := div_left (x := x) hpos
                          rw [HDV.out] at hdl
                          have HNL : Hid (encLeft dt b (t + 1) = x / a) := by show (if dt.getD (dt.length - 1 - t) 0 = 0 then 0 else encLeft dt b t / dt.getD (dt.length - 1 - t) 0) = _; rw [HEV.out, HAV.out, if_neg ha0, HXV.out]
                          have hnb : -1000000000000000 ≤ x / a ∧ x / a ≤ 1000000000000000 := by rw [← HNL.out]; exact encLeft_bd (fun q hq => (HDB.out q (by rw [← unhide hl2]; exact hq)).1) hbd (t + 1) (by rw [unhide hl2]; exact htn)
                          obtain ⟨y, hy⟩ : ∃ y, x / a = y := ⟨_, rfl⟩
                          rw [hy] at hdl hnb HNL
                          have hdgb : 0 ≤ dg ∧ dg < a := by
                            have h := HDV.out
                            have hm := modOf_range hpos x
                            rw [h] at hm
                            exact hm
                          have hws : IntKind.i64.wrap (x - dg) = x - dg := by rw [IntKind.wrap_i64]; omega
                          have hwy : IntKind.i64.wrap y = y := by rw [IntKind.wrap_i64]; omega
                          have hq : (a == 0) = false := by simp [ha0]
                          clear hy
                          go_wp2_with (go_at_call 48; refine (hmod _ (by omega) (by omega)).mono ?_; rintro e w8 ⟨rfl, hw8⟩; obtain rfl := hw8.symm)
                          go_roundw
                          case rel =>
                            refine ⟨t + 1, by omega, by rw [HI.out]; go_num, by rw [HNL.out], ?_, hide (HBUT2.out.setCell (p := ⟨gs, Qp, none⟩) rfl _)⟩
                            show Blk _ _ _
                            rw [HST.out]
                            exact hb2.out.set Qp dg
                          case measure => simp [intOf]
                      · obtain rfl : t = n2 := by omega
                        have e1 : (t : Int) - 1 - (t : Nat) = -1 := by omega
                        rw [e1]
                        have HCOL : Hid (Blk wr gs (encMid dt dt' m2 (j + 1) 0)) := by
                          have h := hb2.out
                          rw [← unhide hl2, encMid_col] at h
                          exact h
                        obtain ⟨xl, hxl⟩ : ∃ xl, encLeft dt b t = xl := ⟨_, rfl⟩
                        rw [hxl]
                        clear hxl e1
                        go_wp2_with fail
                        go_roundw
                        case rel => exact ⟨j + 1, by omega, by go_num, HCOL, HBW⟩
                        case measure => simp [intOf]; omega
                  · obtain rfl : j = m2 := by omega
                    have HROW : Hid (Row wr ash (n1 + m1) (sh ++ sh')) := hbut.out.row HZO.out.row (by rintro q rfl h; have := HOL.out _ h; omega)
                    have HB6 : Hid (Box wr (w.heap.size + 2) false (.slice none 0 0) (.slice none 0 0)) := (hbut.out.block _ (by omega) (by omega)).trans HZ6.out
                    have HBL : Hid (Below w.heap.size w wr) := HZB.out.trans (hbut.out.below (by omega) (by rintro q rfl; omega))
                    obtain ⟨q0, q1, q2, q3, q4, q5, q6⟩ := HB6.out.all
                    have HDT : Hid (Blk wr gs (encAll dt dt' j)) := by have h := hb.out; rw [encMid_all] at h; exact h
                    go_wp2_with fail
                    have hx := HB6.out.sets (c' := false) (u1 := .slice ash (n1 + m1) csh) (u2 := .slice (some ⟨gs, 0, none⟩) T T)
                    obtain ⟨r0, r1, r2, _, _, _⟩ := hx.all
                    refine bodyPost_ret (v := .tuple #[.agg #[.bool false, .slice ash (n1 + m1) csh, .slice (some ⟨gs, 0, none⟩) T T], .int .i64 0]) (by simp [results, Try.results22, go_sem, r0, r1, r2]) rfl ?_
                    rw [unhide HS]
                    have hbx : But (fun q => q = w.heap.size + 2) wr (((wr.setCell ⟨w.heap.size + 2, 0, none⟩ (.bool false)).setCell ⟨w.heap.size + 2, 1, none⟩ (.slice ash (n1 + m1) csh)).setCell ⟨w.heap.size + 2, 2, none⟩ (.slice (some ⟨gs, 0, none⟩) T T)) := (((But.refl (fun q => q = w.heap.size + 2) wr).setCell (p := ⟨w.heap.size + 2, 0, none⟩) rfl _).setCell (p := ⟨w.heap.size + 2, 1, none⟩) rfl _).setCell (p := ⟨w.heap.size + 2, 2, none⟩) rfl _
                    refine ⟨ash, n1 + m1, csh, some ⟨gs, 0, none⟩, T, T, rfl, hbx.row HROW.out ?_, hbx.row (HDT.out.row ?_ (by omega)) ?_, HBL.out.trans (hbx.below (by omega) (by rintro q rfl; omega))⟩
                    · rintro q rfl h
                      have := HZO.out.low h
                      have := HW3Z.out
                      omega
                    · simp [encAll, unhide hl2, ← unhide HT]
                    · rintro q rfl h
                      have := at_eq h
                      omega
      · have HS : Hid (encode c d sh dt sh' dt' = noAns r) := encode_list (unhide HR1) (unhide HR2) r (by rw [unhide hl1]; exact unhide HLC) hcode
        have hq : (r != 0) = true := by simp [hcode]
        clear hcode
        go_wp2_with fail
        refine (l4None_any _).mono ?_
        rintro e w9 ⟨rfl, hb9⟩
        obtain ⟨q0, q1, q2, q3, q4, q5, q6⟩ := ((unhide D6).below (Nat.le_refl _) hb9).all
        have hB9 := hide ((unhide hB3).trans (hb9.mono (unhide hB3).size))
        clear hb9 D4 D5 D6 hB3
        go_wp2
        refine bodyPost_ret (v := .tuple #[.agg #[.bool false, .slice none 0 0, .slice none 0 0], .int .i64 r]) (by simp [results, Try.results22, go_sem, q0, q1, q2]) rfl ?_
        rw [unhide HS]
        exact ⟨none, 0, 0, none, 0, 0, rfl, row_nil _ _, row_nil _ _, (((unhide hB9).setCell (by simp <;> omega) _).setCell (by simp <;> omega) _).setCell (by simp <;> omega) _⟩

end Go.Proofs.Ytogmcecnckgcpaa
