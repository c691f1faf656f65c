import Derived.Test.YtgjpchnkodnieaaGreatDoorMFit3
import Derived.Test.YtgjpchnkodnieaaGreatDoorRotTo
import Derived.Test.YtgjpchnkodnieaaGreatDoorMFit0
import Derived.Test.YtgjpchnkodnieaaGreatDoorSpecAxisN
import Derived.Test.YtgjpchnkodnieaaGreatDoorSpecMod
import Derived.Test.YtgjpchnkodnieaaGreatDoorSpecCopyO
import Derived.Test.YtgjpchnkodnieaaGreatDoorMFit1
import Derived.Test.YtgjpchnkodnieaaGreatDoorMFit0
import Derived.Test.YtgjpchnkodnieaaGreatDoorMFit0
import Derived.Deep.DeepCutAuto
import Derived.Deep.RegionHeld3
namespace Go.Proofs.YtgjpchnkodnieaaGreatDoor
open Go.RowKit

set_option maxRecDepth 20000 in
set_option maxHeartbeats 8000000 in
theorem Rotate_any (c d : Bool) (a1 a2 b1 b2 : Addr) (n1 n2 m1 m2 c1 c2 d1 d2 : Nat) (sh dt sh' dt' : List Int) (fl : Bool) (w : World) (h1 : Row w (some a1) n1 sh) (h2 : Row w (some a2) n2 dt) (k1 : Row w (some b1) m1 sh') (k2 : Row w (some b2) m2 dt') :
    Calls Tryz.prog 126 #[.agg #[.bool c, .slice (some a1) n1 c1, .slice (some a2) n2 c2], .agg #[.bool d, .slice (some b1) m1 d1, .slice (some b2) m2 d2], .bool fl] w (GivesRow w (rotate c d sh dt sh' dt' fl)) := by
  have hl1 := hide h1.len
  have hl2 := hide h2.len
  have hl3 := hide k1.len
  have hl4 := hide k2.len
  have hs1 := h1.small
  have hs2 := h2.small
  have hs3 := k1.small
  have hs4 := k2.small
  have H1 := hide h1
  have H2 := hide h2
  have K1 := hide k1
  have K2 := hide k2
  clear h1 h2 k1 k2
  obtain ⟨r1, hr1⟩ : ∃ r, arrOk c sh dt = r := ⟨_, rfl⟩
  obtain ⟨r2, hr2⟩ : ∃ r, arrOk d sh' dt' = r := ⟨_, rfl⟩
  have HR1 := hide hr1
  have HR2 := hide hr2
  clear hr1 hr2
  go_enter Tryz.func126, Tryz.ntmps126
  go_wp2_with fail
  refine (ArrayOk_eq _ _ _ _ _ _ _ sh dt _ ((((unhide H1).alloc _).alloc _).alloc _) ((((unhide H2).alloc _).alloc _).alloc _) _ HR1).mono ?_
  rintro e w1 ⟨rfl, hb1⟩
  obtain ⟨B4, B5, B6, hB1⟩ := boxes3 hb1
  have hz1 := B6.lt
  clear hb1
  obtain ⟨x0, x1, x2, x3, x4, x5, x6⟩ := B4.all
  obtain ⟨y0, y1, y2, y3, y4, y5, y6⟩ := B5.all
  cases r1 with
  | false =>
    have HS : Hid (rotate c d sh dt sh' dt' fl = noAns 3) := rotate_bad1 (unhide HR1)
    go_wp2_with fail
    refine (l4None_any _).mono ?_
    rintro e w9 ⟨rfl, hb9⟩
    obtain ⟨q0, q1, q2, q3, q4, q5, q6⟩ := ((B6).below (Nat.le_refl _) hb9).all
    have hB9 := hide ((hB1).trans (hb9.mono (hB1).size))
    clear hb9 hB1 B4 B5 B6 hz1 x0 x1 x2 x3 x4 x5 x6 y0 y1 y2 y3 y4 y5 y6
    go_wp2
    refine bodyPost_ret (v := .tuple #[.agg #[.bool false, .slice none 0 0, .slice none 0 0], .int .i64 3]) (by simp [results, Tryz.results126, go_sem, q0, q1, q2]) rfl ?_
    rw [unhide HS]
    exact ⟨none, 0, 0, none, 0, 0, rfl, row_nil _ _, row_nil _ _, (((unhide hB9).setCell (by simp <;> omega) _).setCell (by simp <;> omega) _).setCell (by simp <;> omega) _⟩
  | true =>
    go_wp2_with fail
    refine (ArrayOk_eq _ _ _ _ _ _ _ sh' dt' _ ((unhide K1).below (Nat.le_refl _) hB1) ((unhide K2).below (Nat.le_refl _) hB1) _ HR2).mono ?_
    rintro e w2 ⟨rfl, hb2⟩
    have C4 := hide (B4.below (Nat.le_refl _) hb2)
    have C5 := hide (B5.below (Nat.le_refl _) hb2)
    have C6 := hide (B6.below (Nat.le_refl _) hb2)
    have hB2 := hide (hB1.trans (hb2.mono hB1.size))
    clear hb2 hB1 B4 B5 B6 hz1 x0 x1 x2 x3 x4 x5 x6 y0 y1 y2 y3 y4 y5 y6 w1
    cases r2 with
    | false =>
      have HS : Hid (rotate c d sh dt sh' dt' fl = noAns 3) := rotate_bad2 (unhide HR2)
      go_wp2_with fail
      refine (l4None_any _).mono ?_
      rintro e w9 ⟨rfl, hb9⟩
      obtain ⟨q0, q1, q2, q3, q4, q5, q6⟩ := ((unhide C6).below (Nat.le_refl _) hb9).all
      have hB9 := hide ((unhide hB2).trans (hb9.mono (unhide hB2).size))
      clear hb9 C4 C5 C6 hB2
      go_wp2
      refine bodyPost_ret (v := .tuple #[.agg #[.bool false, .slice none 0 0, .slice none 0 0], .int .i64 3]) (by simp [results, Tryz.results126, go_sem, q0, q1, q2]) rfl ?_
      rw [unhide HS]
      exact ⟨none, 0, 0, none, 0, 0, rfl, row_nil _ _, row_nil _ _, (((unhide hB9).setCell (by simp <;> omega) _).setCell (by simp <;> omega) _).setCell (by simp <;> omega) _⟩
    | true =>
      obtain ⟨x0, x1, x2, x3, x4, x5, x6⟩ := (unhide C4).all
      obtain ⟨y0, y1, y2, y3, y4, y5, y6⟩ := (unhide C5).all
      obtain ⟨r, hr⟩ : ∃ r, singleCode c n2 = r := ⟨_, rfl⟩
      have HSC := hide hr
      have HCC : Hid (singleCode c dt.length = r) := by rw [unhide hl2]; exact hr
      clear hr
      go_upto_region 4 with (go_at_call 154; refine (l5Single_any c _ _ _ _ _ hs2 r HSC).mono ?_; rintro e w3 ⟨rfl, hb3⟩; have HB3 := hide hb3; clear hb3)
      have D4 := hide ((unhide C4).below (Nat.le_refl _) (unhide HB3))
      have D5 := hide ((unhide C5).below (Nat.le_refl _) (unhide HB3))
      have D6 := hide ((unhide C6).below (Nat.le_refl _) (unhide HB3))
      have hB3 := hide ((unhide hB2).trans ((unhide HB3).mono (unhide hB2).size))
      clear C4 C5 C6 hB2 HB3 x0 x1 x2 x3 x4 x5 x6 y0 y1 y2 y3 y4 y5 y6 w2
      by_cases h0 : r = 0
      · subst h0
        obtain ⟨y0, y1, y2, y3, y4, y5, y6⟩ := (unhide D5).all
        have hcall := l3Copy_owns d b1 b2 m1 m2 d1 d2 sh' dt' w3 ((unhide K1).below (Nat.le_refl _) (unhide hB3)) ((unhide K2).below (Nat.le_refl _) (unhide hB3))
        go_upto_region 7 with (go_at_call 155; refine hcall.mono ?_; rintro e w4 ⟨s1, f1, s2, f2, rfl, ho, hr2, hap, hb4⟩; have HO := hide ho; have HR := hide hr2; have HAP := hide hap; have HB4 := hide hb4; clear ho hr2 hap hb4)
        clear hcall y0 y1 y2 y3 y4 y5 y6
        obtain ⟨_, _, ev, hO1⟩ := Own.of_owns (unhide HO) hs3
        cases ev
        have hz6 := (unhide D6).lt
        have hz4 := (unhide HB4).size
        have hz3 := (unhide hB3).size
        have E4 := hide (((unhide D4).below (Nat.le_refl _) (unhide HB4)).alloc (.cells #[.bool d, .slice s1 m1 f1, .slice s2 m2 f2] 25))
        have E5 := hide (((unhide D5).below (Nat.le_refl _) (unhide HB4)).alloc (.cells #[.bool d, .slice s1 m1 f1, .slice s2 m2 f2] 25))
        have E6 := hide (((unhide D6).below (Nat.le_refl _) (unhide HB4)).alloc (.cells #[.bool d, .slice s1 m1 f1, .slice s2 m2 f2] 25))
        have E7 := hide (Box.new w4 d (.slice s1 m1 f1) (.slice s2 m2 f2))
        have HS1 : Hid (Own (w4.alloc (.cells #[.bool d, .slice s1 m1 f1, .slice s2 m2 f2] 25)) (w.heap.size + 3) s1 m1 sh') := (hO1.mono (by omega)).alloc _
        have HS2 : Hid (Own (w4.alloc (.cells #[.bool d, .slice s1 m1 f1, .slice s2 m2 f2] 25)) (w.heap.size + 3) s2 m2 dt') := ((unhide HR).mono (by omega)).alloc _
        have HAP' : Hid (∀ x, At s1 m1 x → ∀ y, At s2 m2 y → x ≠ y) := fun x hx y hy e => by
          obtain ⟨hne, pa, e1, e2⟩ := hx
          subst e1
          have h1 := unhide HAP y hy
          rcases (unhide HO).2 with ⟨hv, _⟩ | ⟨g, cap, cur, hv, _⟩
          · simp at hv
          · simp at hv
            apply h1
            obtain ⟨e3, _⟩ := hv
            rw [e3] at e2 ⊢
            simp [Value.ownBlock] at e2 ⊢
            omega
        have HW : Hid (Below w.heap.size w (w4.alloc (.cells #[.bool d, .slice s1 m1 f1, .slice s2 m2 f2] 25))) := ((unhide hB3).trans ((unhide HB4).mono hz3)).alloc (by omega) _
        have hp2 : w.heap.size + 2 < w4.heap.size := by omega
        generalize w4.alloc (.cells #[.bool d, .slice s1 m1 f1, .slice s2 m2 f2] 25) = W at *
        have hpl : w4.heap.size < W.heap.size := (unhide E7).lt
        generalize w4.heap.size = p at *
        clear hO1 HO HR HAP D4 D5 D6 hB3 HB4 hz6 hz4 hz3 w4 w3
        obtain ⟨y0, y1, y2, y3, y4, y5, y6⟩ := (unhide E5).all
        obtain ⟨v0, v1, v2, v3, v4, v5, v6⟩ := (unhide E7).all
        obtain ⟨z0, z1, z2, z3, z4, z5, z6⟩ := (unhide E6).all
        by_cases hm1 : m1 = 0
        · have HS : Hid (rotate c d sh dt sh' dt' fl = ⟨d, sh', dt', 0⟩) := rotate_none (unhide HR1) (unhide HR2) (unhide HCC) (.inl (List.length_eq_zero_iff.mp (by rw [unhide hl3]; exact hm1)))
          have g0 : ((m1 : Int) == 0) = true := by simp; omega
          clear hm1
          go_wp2
          refine bodyPost_ret (v := .tuple #[.agg #[.bool d, .slice s1 m1 f1, .slice s2 m2 f2], .int .i64 0]) (by simp [results, Tryz.results126, go_sem, z0, z1, z2]) rfl ?_
          rw [unhide HS]
          exact ⟨_, _, _, _, _, _, rfl, (unhide HS1).row.sets (unhide E6) _ _ _, (unhide HS2).row.sets (unhide E6) _ _ _, (((unhide HW).setCell (by simp <;> omega) _).setCell (by simp <;> omega) _).setCell (by simp <;> omega) _⟩

        · have g0 : ((m1 : Int) == 0) = false := by simp; omega
          by_cases hm2 : m2 = 0
          · have HS : Hid (rotate c d sh dt sh' dt' fl = ⟨d, sh', dt', 0⟩) := rotate_none (unhide HR1) (unhide HR2) (unhide HCC) (.inr (List.length_eq_zero_iff.mp (by rw [unhide hl4]; exact hm2)))
            have g1 : ((m2 : Int) == 0) = true := by simp; omega
            clear hm1 hm2
            go_wp2
            refine bodyPost_ret (v := .tuple #[.agg #[.bool d, .slice s1 m1 f1, .slice s2 m2 f2], .int .i64 0]) (by simp [results, Tryz.results126, go_sem, z0, z1, z2]) rfl ?_
            rw [unhide HS]
            exact ⟨_, _, _, _, _, _, rfl, (unhide HS1).row.sets (unhide E6) _ _ _, (unhide HS2).row.sets (unhide E6) _ _ _, (((unhide HW).setCell (by simp <;> omega) _).setCell (by simp <;> omega) _).setCell (by simp <;> omega) _⟩

          · have g1 : ((m2 : Int) == 0) = false := by simp; omega
            have hne : sh' ≠ [] := fun e => hm1 (by rw [← unhide hl3, e]; rfl)
            have hne2 : dt' ≠ [] := fun e => hm2 (by rw [← unhide hl4, e]; rfl)
            obtain ⟨B, n, A, hax, hprod, hBb, hnb, hAb⟩ := axis_is fl (unhide HR2) hne
            rw [unhide hl4] at hprod
            have hn0 : 0 < n := by rcases Nat.eq_zero_or_pos n with h | h; (· subst h; simp at hprod; omega); exact h
            have hk0 := dataOk_bd (unhide HR1) (k := 0) (by rw [unhide hl2]; have := unhide HCC; unfold singleCode at this; rw [unhide hl2] at this; split at this; (· cases this); rename_i h; simp at h; omega)
            have hn2 : n2 = 1 := by have := unhide HCC; unfold singleCode at this; rw [unhide hl2] at this; split at this; (· cases this); rename_i h; simpa using h
            obtain ⟨hm0, hm3⟩ := modOf_pos hn0 (dt.getD 0 0)
            obtain ⟨e, he⟩ : ∃ e : Nat, modOf (n : Int) (dt.getD 0 0) = (e : Int) := ⟨(modOf (n : Int) (dt.getD 0 0)).toNat, by omega⟩
            have hen : e < n := by omega
            have HS : Hid (rotate c d sh dt sh' dt' fl = ⟨d, sh', vals (rotAt n A e dt') m2, 0⟩) := by rw [← unhide hl4]; exact rotate_go (unhide HR1) (unhide HR2) (unhide HCC) hne hne2 n A e hax.l hax.a he
            subst hn2
            obtain ⟨bk, ok, hab, hbk, hck⟩ := (unhide H2).get (by omega : 0 < 1)
            cases hab
            have hckW := ((unhide HW).cell (p := ⟨bk, ok + 0, none⟩) hbk).trans hck
            obtain ⟨kk, hkk⟩ : ∃ k, k = dt.getD 0 0 := ⟨_, rfl⟩
            rw [← hkk] at hckW hk0 he
            have hca := l4Axis_any (some b1) m1 d1 sh' fl W ((unhide K1).below (Nat.le_refl _) (unhide HW)) (shapeIn_of (unhide HR2)).1 (by omega)
            rw [hax.b, hax.l, hax.a] at hca
            have HCM : Hid (∀ wx, Calls Tryz.prog 196 #[.int .i64 (n : Nat), .int .i64 kk] wx fun e' w' => e' = .returned (.int .i64 (e : Nat)) ∧ w' = wx) := fun wx => by
              have := l4Mod_any (n : Nat) kk wx ⟨by omega, by omega⟩ hk0
              rwa [he] at this
            have HPR := hide hprod
            have hm2' := hm2
            clear hne hne2 hax hprod hm0 hm3 he hkk hk0 hck hm1 hm2
            obtain ⟨x0, x1, x2, x3, x4, x5, x6⟩ := (unhide E4).all
            go_upto_region 10 with (go_at_call 106; refine hca.mono ?_; rintro e' w5 ⟨rfl, hb5⟩; have HB5 := hide hb5; clear hb5)
            clear hca x0 x1 x2 x3 x4 x5 x6
            obtain ⟨x0, x1, x2, x3, x4, x5, x6⟩ := ((unhide E4).below (Nat.le_refl _) (unhide HB5)).all
            have hckr : w5.cell? ⟨bk, ok, none⟩ = some (.int .i64 kk) := ((unhide HB5).cell (p := ⟨bk, ok + 0, none⟩) (Nat.lt_of_lt_of_le hbk (unhide HW).size)).trans hckW
            go_upto_region 11 with (go_at_call 196; refine (unhide HCM _).mono ?_; rintro e' wq ⟨rfl, hw⟩; obtain rfl := hw.symm)
            have F5 := hide ((unhide E5).below (Nat.le_refl _) (unhide HB5))
            have F6 := hide ((unhide E6).below (Nat.le_refl _) (unhide HB5))
            have F7 := hide ((unhide E7).below (Nat.le_refl _) (unhide HB5))
            have HT1 := hide ((unhide HS1).below (Nat.le_refl _) (unhide HB5))
            have HT2 := hide ((unhide HS2).below (Nat.le_refl _) (unhide HB5))
            have HW5 := hide ((unhide HW).trans ((unhide HB5).mono (unhide HW).size))
            clear x0 x1 x2 x3 x4 x5 x6 y0 y1 y2 y3 y4 y5 y6 z0 z1 z2 z3 z4 z5 z6 v0 v1 v2 v3 v4 v5 v6 E4 E5 E6 E7 HS1 HS2 HW HB5 hckW hckr HCM hbk g0 g1 hpl W
            have hm2 : 0 < m2 := by
              have := unhide HPR
              rcases Nat.eq_zero_or_pos m2 with h | h
              · exact absurd h hm2'
              · exact h
            rcases (unhide HT2).at_ with h | ⟨g, off, rfl, hg, hgl, _, _⟩
            · omega
            have hgp : g ≠ p := (unhide HT2).row.notBox (unhide F7) (at_self (by omega))
            obtain ⟨R, hR⟩ : ∃ R, R = vals (rotAt n A e dt') m2 := ⟨_, rfl⟩
            have HRL : Hid (R.length = m2) := by rw [hR, vals_len]; exact rfl
            have HRG : Hid (∀ P i q, P < B → i < n → q < A → R.getD ((P * n + i) * A + q) 0 = dt'.getD ((P * n + (i + e) % n) * A + q) 0) := by
              intro P i q hP hi hq
              have h1 := three_lt hP hi hq
              rw [unhide HPR] at h1
              rw [hR, vals_get _ _ _ h1]
              show dt'.getD (rotFrom n A e _) 0 = _
              rw [rotFrom_at hi hq]
            rw [← hR] at HS
            clear hR
            have HT0 : Hid (RotTo w5 (w.heap.size + 3) g off m2 R dt' 0 w5) := ⟨by simpa using unhide HT2, But.refl _ _⟩
            have HBX : Hid (∀ wx, But (fun k => k = g) w5 wx → Box wx p d (.slice s1 m1 f1) (.slice (some ⟨g, off, none⟩) m2 f2) ∧ Box wx (w.heap.size + 1) d (.slice (some b1) m1 d1) (.slice (some b2) m2 d2)) := fun wx hwx => ⟨(unhide F7).but hwx (fun e => hgp e.symm), (unhide F5).but hwx (by show ¬ (w.heap.size + 1 = g); omega)⟩
            go_wp2_with fail
            go_loopw [14] (fun v wr => ∃ P : Nat, P ≤ B ∧ v = .int .i64 (P : Nat) ∧ Hid (RotTo w5 (w.heap.size + 3) g off m2 R dt' (P * n * A) wr)) (fun v _ => B - (intOf v).toNat)
            case atStart => exact ⟨0, Nat.zero_le _, rfl, by simpa using HT0⟩
            case round =>
              obtain ⟨P, hP, rfl, ht⟩ := hrel
              clear HT0
              by_cases hlt : P < B
              · obtain ⟨wo, hwo⟩ : ∃ x, x = wr := ⟨_, rfl⟩
                subst hwo
                go_wp2_with fail
                go_loopw [15] (fun v wr => ∃ i : Nat, i ≤ n ∧ v = .int .i64 (i : Nat) ∧ Hid (RotTo w5 (w.heap.size + 3) g off m2 R dt' ((P * n + i) * A) wr)) (fun v _ => n - (intOf v).toNat)
                case atStart => exact ⟨0, Nat.zero_le _, rfl, by simpa using ht⟩
                case round =>
                  obtain ⟨i, hi, rfl, ht2⟩ := hrel
                  clear ht wo
                  by_cases hli : i < n
                  · obtain ⟨wo, hwo⟩ : ∃ x, x = wr := ⟨_, rfl⟩
                    subst hwo
                    go_wp2_with fail
                    go_loopw [16] (fun v wr => ∃ q : Nat, q ≤ A ∧ v = .int .i64 (q : Nat) ∧ Hid (RotTo w5 (w.heap.size + 3) g off m2 R dt' ((P * n + i) * A + q) wr)) (fun v _ => A - (intOf v).toNat)
                    case atStart => exact ⟨0, Nat.zero_le _, rfl, by simpa using ht2⟩
                    case round =>
                      obtain ⟨q, hq, rfl, ht3⟩ := hrel
                      clear ht2 wo
                      by_cases hlq : q < A
                      · have hj0 : (i + e) % n < n := Nat.mod_lt _ hn0
                        obtain ⟨v1, hv1⟩ : ∃ v, v = i + e := ⟨_, rfl⟩
                        obtain ⟨v2, hv2⟩ : ∃ v, v = v1 % n := ⟨_, rfl⟩
                        obtain ⟨u1, hu1⟩ : ∃ v, v = P * n := ⟨_, rfl⟩
                        obtain ⟨u2, hu2⟩ : ∃ v, v = u1 + i := ⟨_, rfl⟩
                        obtain ⟨v3, hv3⟩ : ∃ v, v = u1 + v2 := ⟨_, rfl⟩
                        obtain ⟨u3, hu3⟩ : ∃ v, v = u2 * A := ⟨_, rfl⟩
                        obtain ⟨v4, hv4⟩ : ∃ v, v = v3 * A := ⟨_, rfl⟩
                        obtain ⟨T, hT⟩ : ∃ v, v = u3 + q := ⟨_, rfl⟩
                        obtain ⟨J, hJ⟩ : ∃ v, v = v4 + q := ⟨_, rfl⟩
                        have hTe : T = (P * n + i) * A + q := by rw [hT, hu3, hu2, hu1]
                        have hJe : J = (P * n + (i + e) % n) * A + q := by rw [hJ, hv4, hv3, hu1, hv2, hv1]
                        have ht1 : T < m2 := by rw [hTe, ← unhide HPR]; exact three_lt hlt hli hlq
                        have hj1 : J < m2 := by rw [hJe, ← unhide HPR]; exact three_lt hlt hj0 hlq
                        rw [← hTe] at ht3
                        have hu1b : u1 ≤ 100000000 := by rw [hu1]; exact Nat.mul_le_mul (by omega : P ≤ 10000) hnb
                        have hm4 : m2 ≤ 10000 := by have h9 := (shapeIn_of (unhide HR2)).2.1; rw [unhide hl4] at h9; have := (shapeIn_of (unhide HR2)).1.bd; omega
                        have hv2n : v2 < n := by rw [hv2]; exact Nat.mod_lt _ hn0
                        have hw1 : IntKind.i64.wrap ((P : Int) * (n : Int)) = (u1 : Nat) := wrapN (by rw [hu1]; push_cast; rfl) (by omega)
                        have hw2 : IntKind.i64.wrap ((u1 : Int) + (i : Int)) = (u2 : Nat) := wrapN (by rw [hu2]; push_cast; rfl) (by omega)
                        have hw3 : IntKind.i64.wrap ((u2 : Int) * (A : Int)) = (u3 : Nat) := wrapN (by rw [hu3]; push_cast; rfl) (by omega)
                        have hw4 : IntKind.i64.wrap ((u3 : Int) + (q : Int)) = (T : Nat) := wrapN (by rw [hT]; push_cast; rfl) (by omega)
                        have hw5 : IntKind.i64.wrap ((i : Int) + (e : Int)) = (v1 : Nat) := wrapN (by rw [hv1]; push_cast; rfl) (by omega)
                        have hm9 : v1 % n = v2 := hv2.symm
                        have hm10 : ((v1 : Int) % (n : Int)) = (v2 : Int) := by rw [hv2]; rfl
                        have hm11 : Int.tmod (v1 : Int) (n : Int) = (v2 : Int) := by rw [hv2]; rfl
                        have hn1 : ¬ n = 0 := by omega
                        have hw6 : IntKind.i64.wrap ((u1 : Int) + (v2 : Int)) = (v3 : Nat) := wrapN (by rw [hv3]; push_cast; rfl) (by omega)
                        have hw7 : IntKind.i64.wrap ((v3 : Int) * (A : Int)) = (v4 : Nat) := wrapN (by rw [hv4]; push_cast; rfl) (by omega)
                        have hw8 : IntKind.i64.wrap ((v4 : Int) + (q : Int)) = (J : Nat) := wrapN (by rw [hJ]; push_cast; rfl) (by omega)
                        obtain ⟨bb, ob, hab, hbb, hcb⟩ := (unhide K2).get hj1
                        cases hab
                        have hbw : bb < w5.heap.size := Nat.lt_of_lt_of_le hbb (unhide HW5).size
                        have hcb5 := ((unhide HW5).cell (p := ⟨bb, ob + J, none⟩) hbb).trans hcb
                        have hbg : ¬ bb = g := by omega
                        obtain ⟨x, hx⟩ : ∃ x, x = dt'.getD J 0 := ⟨_, rfl⟩
                        rw [← hx] at hcb5
                        have HX : Hid (R.getD T 0 = x) := by
                          show _ = _
                          rw [hx, hTe, hJe]
                          exact unhide HRG P i q hlt hli hlq
                        have HST : Hid (RotTo w5 (w.heap.size + 3) g off m2 R dt' ((P * n + i) * A + (q + 1)) (wr.setCell ⟨g, off + T, none⟩ (.int .i64 x))) := by
                          have := (unhide ht3).step (unhide HRL) (unhide hl4) ht1 (unhide HX)
                          rwa [show T + 1 = (P * n + i) * A + (q + 1) from by rw [hTe, Nat.add_assoc]] at this
                        have hbut := (unhide ht3).but
                        rcases (unhide ht3).own.at_ with h9 | ⟨g9, off9, e9, _, _, hcc, hff⟩
                        · omega
                        cases e9
                        have hct := hcc T ht1
                        have hft := hff T ht1
                        have hlJ : (J : Int) < (m2 : Int) := by omega
                        have hlT : (T : Int) < (m2 : Int) := by omega
                        clear hcc hff hcb hv2 hu1 hu3 hv4 hx hj0 hv1 hu2 hv3 hT hJ hTe hJe hv2n hu1b
                        obtain ⟨hbp, hb4⟩ := unhide HBX _ hbut
                        obtain ⟨x0, x1, x2, x3, x4, x5, x6⟩ := hbp.all
                        obtain ⟨y0, y1, y2, y3, y4, y5, y6⟩ := hb4.all
                        clear hbp hb4
                        go_upto_region 20 with fail
                        have HKEEP : ∀ wx, But (fun k => k = g) w5 wx → But (fun k => k = g) w5 wx ∧ wx.cell? ⟨p, 2, none⟩ = some (.slice (some ⟨g, off, none⟩) m2 f2) ∧ wx.cell? ⟨w.heap.size + 1, 2, none⟩ = some (.slice (some ⟨bb, ob, none⟩) m2 d2) ∧ wx.cell? ⟨bb, ob + J, none⟩ = some (.int .i64 x) := fun wx hwx => ⟨hwx, (unhide HBX _ hwx).1.cells.2.2, (unhide HBX _ hwx).2.cells.2.2, (hwx.cellAt hbw hbg).trans hcb5⟩
                        go_region_held3 (fun wx => But (fun k => k = g) w5 wx ∧ wx.cell? ⟨p, 2, none⟩ = some (.slice (some ⟨g, off, none⟩) m2 f2) ∧ wx.cell? ⟨w.heap.size + 1, 2, none⟩ = some (.slice (some ⟨bb, ob, none⟩) m2 d2) ∧ wx.cell? ⟨bb, ob + J, none⟩ = some (.int .i64 x)) (first | exact HKEEP _ (hbut.drew.setCell rfl _) | exact HKEEP _ hbut.drew | exact HKEEP _ hbut) (first | fail)
                        all_goals
                          go_wp2_with fail
                          go_roundw
                          case rel => exact ⟨q + 1, by omega, by go_num, by have := unhide HST; exact RotTo.drew this⟩
                          case measure => simp [intOf]; omega
                      · have hqA : q = A := by omega
                        subst hqA
                        go_wp2
                        go_roundw
                        case rel => exact ⟨i + 1, by omega, by go_num, by have := unhide ht3; rwa [show (P * n + (i + 1)) * q = (P * n + i) * q + q from by rw [← Nat.add_assoc, Nat.add_mul, Nat.one_mul]]⟩
                        case measure => simp [intOf]; omega
                  · have hin : i = n := by omega
                    subst hin
                    go_wp2
                    go_roundw
                    case rel => exact ⟨P + 1, by omega, by go_num, by have := unhide ht2; rwa [show (P + 1) * i * A = (P * i + i) * A from by rw [Nat.add_mul, Nat.one_mul]]⟩
                    case measure => simp [intOf]; omega
              · have hPB : P = B := by omega
                subst hPB
                have HE : Hid (R.take (P * n * A) ++ dt'.drop (P * n * A) = R) := by
                  show _ = _
                  rw [unhide HPR, List.take_of_length_le (by rw [unhide HRL]; exact Nat.le_refl _), List.drop_of_length_le (by rw [unhide hl4]; exact Nat.le_refl _), List.append_nil]
                have hbut := (unhide ht).but
                have HO := hide (unhide ht).own
                have HB6 := hide ((unhide F6).but hbut (by show ¬ (w.heap.size + 2 = g); omega))
                have HB7 := hide (unhide HBX _ hbut).1
                have HO1 := hide (hbut.own (unhide HT1) (fun k hk hat => unhide HAP' k hat g (at_self (by omega)) hk))
                have HWr := hide ((unhide HW5).trans (hbut.below (B := w.heap.size) (unhide HW5).size (fun k hk => by omega)))
                obtain ⟨z0, z1, z2, z3, z4, z5, z6⟩ := (unhide HB6).all
                obtain ⟨v0, v1, v2, v3, v4, v5, v6⟩ := (unhide HB7).all
                rw [unhide HE] at HO
                clear ht hbut
                go_wp2
                refine bodyPost_ret (v := .tuple #[.agg #[.bool d, .slice s1 m1 f1, .slice (some ⟨g, off, none⟩) m2 f2], .int .i64 0]) (by simp [results, Tryz.results126, go_sem, z0, z1, z2]) rfl ?_
                rw [unhide HS]
                exact ⟨_, _, _, _, _, _, rfl, (unhide HO1).row.sets (unhide HB6) _ _ _, (unhide HO).row.sets (unhide HB6) _ _ _, (((unhide HWr).setCell (by simp <;> omega) _).setCell (by simp <;> omega) _).setCell (by simp <;> omega) _⟩
      · have HS : Hid (rotate c d sh dt sh' dt' fl = noAns r) := rotate_code (unhide HR1) (unhide HR2) r (unhide HCC) h0
        have hcb : (r != 0) = true := by simp [h0]
        clear h0
        go_wp2_with fail
        refine (l4None_any _).mono ?_
        rintro e w9 ⟨rfl, hb9⟩
        obtain ⟨q0, q1, q2, q3, q4, q5, q6⟩ := ((unhide D6).below (Nat.le_refl _) hb9).all
        have hB9 := hide ((unhide hB3).trans (hb9.mono (unhide hB3).size))
        clear hb9 D4 D5 D6 hB3
        go_wp2
        refine bodyPost_ret (v := .tuple #[.agg #[.bool false, .slice none 0 0, .slice none 0 0], .int .i64 r]) (by simp [results, Tryz.results126, go_sem, q0, q1, q2]) rfl ?_
        rw [unhide HS]
        exact ⟨none, 0, 0, none, 0, 0, rfl, row_nil _ _, row_nil _ _, (((unhide hB9).setCell (by simp <;> omega) _).setCell (by simp <;> omega) _).setCell (by simp <;> omega) _⟩

end Go.Proofs.YtgjpchnkodnieaaGreatDoor
