import Derived.Test.YtgjpchnkodnieaaGreatDoorMFit0
import Derived.Test.YtgjpchnkodnieaaGreatDoorRotTo
import Derived.Test.YtgjpchnkodnieaaGreatDoorSpecAxisN
import Derived.Test.YtgjpchnkodnieaaGreatDoorSpecCopyO
import Derived.Test.YtgjpchnkodnieaaGreatDoorMFit0
import Derived.Test.YtgjpchnkodnieaaGreatDoorMFit1
import Derived.Deep.DeepCutAuto
import Derived.Deep.RegionHeld3
namespace Go.Proofs.YtgjpchnkodnieaaGreatDoor
open Go.RowKit

set_option maxRecDepth 20000 in
set_option maxHeartbeats 8000000 in
theorem l6Reversed_any (c : Bool) (a1 a2 : Addr) (n1 n2 c1 c2 : Nat) (sh dt : List Int) (fl : Bool) (w : World) (h1 : Row w (some a1) n1 sh) (h2 : Row w (some a2) n2 dt) (hok : arrOk c sh dt = true) :
    Calls Tryz.prog 72 #[.agg #[.bool c, .slice (some a1) n1 c1, .slice (some a2) n2 c2], .bool fl] w fun e w' => ∃ b1 m1 d1 b2 m2 d2, e = .returned (.agg #[.bool (revA c sh dt fl).c, .slice b1 m1 d1, .slice b2 m2 d2]) ∧ Row w' b1 m1 (revA c sh dt fl).sh ∧ Row w' b2 m2 (revA c sh dt fl).dt ∧ Below w.heap.size w w' := by
  have hl1 := hide h1.len
  have hl2 := hide h2.len
  have hs1 := h1.small
  have hs2 := h2.small
  have H1 := hide h1
  have H2 := hide h2
  have HR := hide hok
  clear h1 h2 hok
  obtain ⟨W0, hW0⟩ : ∃ W0, W0 = (w.alloc (.cells #[.bool c, .slice (some a1) n1 c1, .slice (some a2) n2 c2] 25)).alloc (.cells #[.bool false, .slice none 0 0, .slice none 0 0] 25) := ⟨_, rfl⟩
  obtain ⟨B4, B5, hB0⟩ := boxes2 (w := w) (c := c) (v1 := .slice (some a1) n1 c1) (v2 := .slice (some a2) n2 c2) (Below.refl _ _)
  rw [← hW0] at B4 B5 hB0
  have D4 := hide B4
  have D6 := hide B5
  have HB0 := hide hB0
  have hcall := l3Copy_owns c a1 a2 n1 n2 c1 c2 sh dt W0 ((unhide H1).below (Nat.le_refl _) hB0) ((unhide H2).below (Nat.le_refl _) hB0)
  obtain ⟨y0, y1, y2, y3, y4, y5, y6⟩ := B4.all
  have hz6 := (unhide D6).lt
  rw [hW0] at hcall y0 y1 y2 y3 y4 y5 y6
  clear B4 B5 hB0
  go_enter Tryz.func72, Tryz.ntmps72
  go_upto_region 2 with (go_at_call 155; refine hcall.mono ?_; rintro e w4 ⟨s1, f1, s2, f2, rfl, ho, hr2, hap, hb4⟩; rw [← hW0] at ho hr2 hb4; have HO := hide ho; have HRR := hide hr2; have HAP := hide hap; have HB4 := hide hb4; clear ho hr2 hap hb4)
  clear hcall y0 y1 y2 y3 y4 y5 y6 hW0
  obtain ⟨_, _, ev, hO1⟩ := Own.of_owns (unhide HO) hs1
  cases ev
  have hz4 := (unhide HB4).size
  have hz3 := (unhide HB0).size
  have E4 := hide (((unhide D4).below (Nat.le_refl _) (unhide HB4)).alloc (.cells #[.bool c, .slice s1 n1 f1, .slice s2 n2 f2] 25))
  have E6 := hide (((unhide D6).below (Nat.le_refl _) (unhide HB4)).alloc (.cells #[.bool c, .slice s1 n1 f1, .slice s2 n2 f2] 25))
  have E7 := hide (Box.new w4 c (.slice s1 n1 f1) (.slice s2 n2 f2))
  have HS1 : Hid (Own (w4.alloc (.cells #[.bool c, .slice s1 n1 f1, .slice s2 n2 f2] 25)) (w.heap.size + 2) s1 n1 sh) := (hO1.mono (by omega)).alloc _
  have HS2 : Hid (Own (w4.alloc (.cells #[.bool c, .slice s1 n1 f1, .slice s2 n2 f2] 25)) (w.heap.size + 2) s2 n2 dt) := ((unhide HRR).mono (by omega)).alloc _
  have HAP' : Hid (∀ x, At s1 n1 x → ∀ y, At s2 n2 y → x ≠ y) := fun x hx y hy e => by
    obtain ⟨hne, pa, e1, e2⟩ := hx
    subst e1
    have h1 := unhide HAP y hy
    rcases (unhide HO).2 with ⟨hv, _⟩ | ⟨g, cap, cur, hv, _⟩
    · simp at hv
    · simp at hv
      apply h1
      obtain ⟨e3, _⟩ := hv
      rw [e3] at e2 ⊢
      simp [Value.ownBlock] at e2 ⊢
      omega
  have HW : Hid (Below w.heap.size w (w4.alloc (.cells #[.bool c, .slice s1 n1 f1, .slice s2 n2 f2] 25))) := ((unhide HB0).trans ((unhide HB4).mono hz3)).alloc (by omega) _
  have hp2 : w.heap.size + 1 < w4.heap.size := by omega
  generalize w4.alloc (.cells #[.bool c, .slice s1 n1 f1, .slice s2 n2 f2] 25) = W at *
  have hpl : w4.heap.size < W.heap.size := (unhide E7).lt
  generalize w4.heap.size = p at *
  clear hO1 HO HRR HAP D4 D6 HB0 HB4 hz6 hz4 hz3 w4 W0
  obtain ⟨y0, y1, y2, y3, y4, y5, y6⟩ := (unhide E4).all
  obtain ⟨v0, v1, v2, v3, v4, v5, v6⟩ := (unhide E7).all
  obtain ⟨z0, z1, z2, z3, z4, z5, z6⟩ := (unhide E6).all
  by_cases hm1 : n1 = 0
  · have HS : Hid (revA c sh dt fl = ⟨c, sh, dt, 0⟩) := revA_none (.inl (List.length_eq_zero_iff.mp (by rw [unhide hl1]; exact hm1)))
    have g0 : ((n1 : Int) == 0) = true := by simp; omega
    clear hm1
    go_wp2
    refine bodyPost_ret (v := .agg #[.bool c, .slice s1 n1 f1, .slice s2 n2 f2]) (by simp [results, Tryz.results72, go_sem, z0, z1, z2]) rfl ?_
    rw [unhide HS]
    exact ⟨_, _, _, _, _, _, rfl, (unhide HS1).row.sets (unhide E6) _ _ _, (unhide HS2).row.sets (unhide E6) _ _ _, (((unhide HW).setCell (by simp <;> omega) _).setCell (by simp <;> omega) _).setCell (by simp <;> omega) _⟩
  · have g0 : ((n1 : Int) == 0) = false := by simp; omega
    by_cases hm2 : n2 = 0
    · have HS : Hid (revA c sh dt fl = ⟨c, sh, dt, 0⟩) := revA_none (.inr (List.length_eq_zero_iff.mp (by rw [unhide hl2]; exact hm2)))
      have g1 : ((n2 : Int) == 0) = true := by simp; omega
      clear hm1 hm2
      go_wp2
      refine bodyPost_ret (v := .agg #[.bool c, .slice s1 n1 f1, .slice s2 n2 f2]) (by simp [results, Tryz.results72, go_sem, z0, z1, z2]) rfl ?_
      rw [unhide HS]
      exact ⟨_, _, _, _, _, _, rfl, (unhide HS1).row.sets (unhide E6) _ _ _, (unhide HS2).row.sets (unhide E6) _ _ _, (((unhide HW).setCell (by simp <;> omega) _).setCell (by simp <;> omega) _).setCell (by simp <;> omega) _⟩
    · have g1 : ((n2 : Int) == 0) = false := by simp; omega
      have hne : sh ≠ [] := fun e => hm1 (by rw [← unhide hl1, e]; rfl)
      have hne2 : dt ≠ [] := fun e => hm2 (by rw [← unhide hl2, e]; rfl)
      obtain ⟨B, n, A, hax, hprod, hBb, hnb, hAb⟩ := axis_is fl (unhide HR) hne
      rw [unhide hl2] at hprod
      have hn0 : 0 < n := by rcases Nat.eq_zero_or_pos n with h | h; (· subst h; simp at hprod; omega); exact h
      have HS : Hid (revA c sh dt fl = ⟨c, sh, vals (revAt n A dt) n2, 0⟩) := by rw [← unhide hl2]; exact revA_go hne hne2 n A hax.l hax.a
      have hca := l4Axis_any (some a1) n1 c1 sh fl W ((unhide H1).below (Nat.le_refl _) (unhide HW)) (shapeIn_of (unhide HR)).1 (by omega)
      rw [hax.b, hax.l, hax.a] at hca
      have HPR := hide hprod
      have hm2' := hm2
      clear hne hne2 hax hprod hm1 hm2
      go_upto_region 5 with (go_at_call 106; refine hca.mono ?_; rintro e' w5 ⟨rfl, hb5⟩; have HB5 := hide hb5; clear hb5)
      have F5 := hide ((unhide E4).below (Nat.le_refl _) (unhide HB5))
      have F6 := hide ((unhide E6).below (Nat.le_refl _) (unhide HB5))
      have F7 := hide ((unhide E7).below (Nat.le_refl _) (unhide HB5))
      have HT1 := hide ((unhide HS1).below (Nat.le_refl _) (unhide HB5))
      have HT2 := hide ((unhide HS2).below (Nat.le_refl _) (unhide HB5))
      have HW5 := hide ((unhide HW).trans ((unhide HB5).mono (unhide HW).size))
      clear hca y0 y1 y2 y3 y4 y5 y6 z0 z1 z2 z3 z4 z5 z6 v0 v1 v2 v3 v4 v5 v6 E4 E6 E7 HS1 HS2 HW HB5 g0 g1 hpl W
      have hm2 : 0 < n2 := by
        have := unhide HPR
        rcases Nat.eq_zero_or_pos n2 with h | h
        · exact absurd h hm2'
        · exact h
      rcases (unhide HT2).at_ with h | ⟨g, off, rfl, hg, hgl, _, _⟩
      · omega
      have hgp : g ≠ p := (unhide HT2).row.notBox (unhide F7) (at_self (by omega))
      obtain ⟨R, hR⟩ : ∃ R, R = vals (revAt n A dt) n2 := ⟨_, rfl⟩
      have HRL : Hid (R.length = n2) := by rw [hR, vals_len]; exact rfl
      have HRG : Hid (∀ P i q, P < B → i < n → q < A → R.getD ((P * n + i) * A + q) 0 = dt.getD ((P * n + (n - 1 - i)) * A + q) 0) := by
        intro P i q hP hi hq
        have h1 := three_lt hP hi hq
        rw [unhide HPR] at h1
        rw [hR, vals_get _ _ _ h1]
        show dt.getD (revFrom n A _) 0 = _
        rw [revFrom_at hi hq]
      rw [← hR] at HS
      clear hR
      have HT0 : Hid (RotTo w5 (w.heap.size + 2) g off n2 R dt 0 w5) := ⟨by simpa using unhide HT2, But.refl _ _⟩
      have HBX : Hid (∀ wx, But (fun k => k = g) w5 wx → Box wx p c (.slice s1 n1 f1) (.slice (some ⟨g, off, none⟩) n2 f2) ∧ Box wx (w.heap.size) c (.slice (some a1) n1 c1) (.slice (some a2) n2 c2)) := fun wx hwx => ⟨(unhide F7).but hwx (fun e => hgp e.symm), (unhide F5).but hwx (by show ¬ (w.heap.size = g); omega)⟩
      go_wp2_with fail
      go_loopw [9] (fun v wr => ∃ P : Nat, P ≤ B ∧ v = .int .i64 (P : Nat) ∧ Hid (RotTo w5 (w.heap.size + 2) g off n2 R dt (P * n * A) wr)) (fun v _ => B - (intOf v).toNat)
      case atStart => exact ⟨0, Nat.zero_le _, rfl, by simpa using HT0⟩
      case round =>
        obtain ⟨P, hP, rfl, ht⟩ := hrel
        clear HT0
        by_cases hlt : P < B
        · obtain ⟨wo, hwo⟩ : ∃ x, x = wr := ⟨_, rfl⟩
          subst hwo
          go_wp2_with fail
          go_loopw [10] (fun v wr => ∃ i : Nat, i ≤ n ∧ v = .int .i64 (i : Nat) ∧ Hid (RotTo w5 (w.heap.size + 2) g off n2 R dt ((P * n + i) * A) wr)) (fun v _ => n - (intOf v).toNat)
          case atStart => exact ⟨0, Nat.zero_le _, rfl, by simpa using ht⟩
          case round =>
            obtain ⟨i, hi, rfl, ht2⟩ := hrel
            clear ht wo
            by_cases hli : i < n
            · obtain ⟨wo, hwo⟩ : ∃ x, x = wr := ⟨_, rfl⟩
              subst hwo
              go_wp2_with fail
              go_loopw [11] (fun v wr => ∃ q : Nat, q ≤ A ∧ v = .int .i64 (q : Nat) ∧ Hid (RotTo w5 (w.heap.size + 2) g off n2 R dt ((P * n + i) * A + q) wr)) (fun v _ => A - (intOf v).toNat)
              case atStart => exact ⟨0, Nat.zero_le _, rfl, by simpa using ht2⟩
              case round =>
                obtain ⟨q, hq, rfl, ht3⟩ := hrel
                clear ht2 wo
                by_cases hlq : q < A
                · have hj0 : n - 1 - i < n := by omega
                  obtain ⟨v2, hv2⟩ : ∃ v, v = n - 1 - i := ⟨_, rfl⟩
                  obtain ⟨u1, hu1⟩ : ∃ v, v = P * n := ⟨_, rfl⟩
                  obtain ⟨u2, hu2⟩ : ∃ v, v = u1 + i := ⟨_, rfl⟩
                  obtain ⟨v1, hv1⟩ : ∃ v, v = u1 + n := ⟨_, rfl⟩
                  obtain ⟨v5, hv5⟩ : ∃ v, v + 1 = v1 := ⟨v1 - 1, by omega⟩
                  obtain ⟨v3, hv3⟩ : ∃ v, v = u1 + v2 := ⟨_, rfl⟩
                  have hv35 : v3 + i = v5 := by omega
                  obtain ⟨u3, hu3⟩ : ∃ v, v = u2 * A := ⟨_, rfl⟩
                  obtain ⟨v4, hv4⟩ : ∃ v, v = v3 * A := ⟨_, rfl⟩
                  obtain ⟨T, hT⟩ : ∃ v, v = u3 + q := ⟨_, rfl⟩
                  obtain ⟨J, hJ⟩ : ∃ v, v = v4 + q := ⟨_, rfl⟩
                  have hTe : T = (P * n + i) * A + q := by rw [hT, hu3, hu2, hu1]
                  have hJe : J = (P * n + (n - 1 - i)) * A + q := by rw [hJ, hv4, hv3, hu1, hv2]
                  have ht1 : T < n2 := by rw [hTe, ← unhide HPR]; exact three_lt hlt hli hlq
                  have hj1 : J < n2 := by rw [hJe, ← unhide HPR]; exact three_lt hlt hj0 hlq
                  rw [← hTe] at ht3
                  have hu1b : u1 ≤ 100000000 := by rw [hu1]; exact Nat.mul_le_mul (by omega : P ≤ 10000) hnb
                  have hm4 : n2 ≤ 10000 := by have h9 := (shapeIn_of (unhide HR)).2.1; rw [unhide hl2] at h9; have := (shapeIn_of (unhide HR)).1.bd; omega
                  have hw1 : IntKind.i64.wrap ((P : Int) * (n : Int)) = (u1 : Nat) := wrapN (by rw [hu1]; push_cast; rfl) (by omega)
                  have hw2 : IntKind.i64.wrap ((u1 : Int) + (i : Int)) = (u2 : Nat) := wrapN (by rw [hu2]; push_cast; rfl) (by omega)
                  have hw3 : IntKind.i64.wrap ((u2 : Int) * (A : Int)) = (u3 : Nat) := wrapN (by rw [hu3]; push_cast; rfl) (by omega)
                  have hw4 : IntKind.i64.wrap ((u3 : Int) + (q : Int)) = (T : Nat) := wrapN (by rw [hT]; push_cast; rfl) (by omega)
                  have hw5 : IntKind.i64.wrap ((u1 : Int) + (n : Int)) = (v1 : Nat) := wrapN (by rw [hv1]; push_cast; rfl) (by omega)
                  have hw9 : IntKind.i64.wrap ((v1 : Int) - 1) = (v5 : Nat) := wrapN (by omega) (by omega)
                  have hw6 : IntKind.i64.wrap ((v5 : Int) - (i : Int)) = (v3 : Nat) := wrapN (by omega) (by omega)
                  have hw7 : IntKind.i64.wrap ((v3 : Int) * (A : Int)) = (v4 : Nat) := wrapN (by rw [hv4]; push_cast; rfl) (by omega)
                  have hw8 : IntKind.i64.wrap ((v4 : Int) + (q : Int)) = (J : Nat) := wrapN (by rw [hJ]; push_cast; rfl) (by omega)
                  obtain ⟨bb, ob, hab, hbb, hcb⟩ := (unhide H2).get hj1
                  cases hab
                  have hbw : bb < w5.heap.size := Nat.lt_of_lt_of_le hbb (unhide HW5).size
                  have hcb5 := ((unhide HW5).cell (p := ⟨bb, ob + J, none⟩) hbb).trans hcb
                  have hbg : ¬ bb = g := by omega
                  obtain ⟨x, hx⟩ : ∃ x, x = dt.getD J 0 := ⟨_, rfl⟩
                  rw [← hx] at hcb5
                  have HX : Hid (R.getD T 0 = x) := by
                    show _ = _
                    rw [hx, hTe, hJe]
                    exact unhide HRG P i q hlt hli hlq
                  have HST : Hid (RotTo w5 (w.heap.size + 2) g off n2 R dt ((P * n + i) * A + (q + 1)) (wr.setCell ⟨g, off + T, none⟩ (.int .i64 x))) := by
                    have := (unhide ht3).step (unhide HRL) (unhide hl2) ht1 (unhide HX)
                    rwa [show T + 1 = (P * n + i) * A + (q + 1) from by rw [hTe, Nat.add_assoc]] at this
                  have hbut := (unhide ht3).but
                  rcases (unhide ht3).own.at_ with h9 | ⟨g9, off9, e9, _, _, hcc, hff⟩
                  · omega
                  cases e9
                  have hct := hcc T ht1
                  have hft := hff T ht1
                  have hlJ : (J : Int) < (n2 : Int) := by omega
                  have hlT : (T : Int) < (n2 : Int) := by omega
                  clear hcc hff hcb hv2 hu1 hu3 hv4 hx hj0 hv1 hu2 hv3 hT hJ hTe hJe hv5 hv35 hu1b
                  obtain ⟨hbp, hb4⟩ := unhide HBX _ hbut
                  obtain ⟨x0, x1, x2, x3, x4, x5, x6⟩ := hbp.all
                  obtain ⟨y0, y1, y2, y3, y4, y5, y6⟩ := hb4.all
                  clear hbp hb4
                  go_upto_region 14 with fail
                  have HKEEP : ∀ wx, But (fun k => k = g) w5 wx → But (fun k => k = g) w5 wx ∧ wx.cell? ⟨p, 2, none⟩ = some (.slice (some ⟨g, off, none⟩) n2 f2) ∧ wx.cell? ⟨w.heap.size, 2, none⟩ = some (.slice (some ⟨bb, ob, none⟩) n2 c2) ∧ wx.cell? ⟨bb, ob + J, none⟩ = some (.int .i64 x) := fun wx hwx => ⟨hwx, (unhide HBX _ hwx).1.cells.2.2, (unhide HBX _ hwx).2.cells.2.2, (hwx.cellAt hbw hbg).trans hcb5⟩
                  go_region_held3 (fun wx => But (fun k => k = g) w5 wx ∧ wx.cell? ⟨p, 2, none⟩ = some (.slice (some ⟨g, off, none⟩) n2 f2) ∧ wx.cell? ⟨w.heap.size, 2, none⟩ = some (.slice (some ⟨bb, ob, none⟩) n2 c2) ∧ wx.cell? ⟨bb, ob + J, none⟩ = some (.int .i64 x)) (first | exact HKEEP _ (hbut.drew.setCell rfl _) | exact HKEEP _ hbut.drew | exact HKEEP _ hbut) (first | fail)
                  all_goals
                    go_wp2_with fail
                    go_roundw
                    case rel => exact ⟨q + 1, by omega, by go_num, by have := unhide HST; exact RotTo.drew this⟩
                    case measure => simp [intOf]; omega
                · have hqA : q = A := by omega
                  subst hqA
                  go_wp2
                  go_roundw
                  case rel => exact ⟨i + 1, by omega, by go_num, by have := unhide ht3; rwa [show (P * n + (i + 1)) * q = (P * n + i) * q + q from by rw [← Nat.add_assoc, Nat.add_mul, Nat.one_mul]]⟩
                  case measure => simp [intOf]; omega
            · have hin : i = n := by omega
              subst hin
              go_wp2
              go_roundw
              case rel => exact ⟨P + 1, by omega, by go_num, by have := unhide ht2; rwa [show (P + 1) * i * A = (P * i + i) * A from by rw [Nat.add_mul, Nat.one_mul]]⟩
              case measure => simp [intOf]; omega
        · have hPB : P = B := by omega
          subst hPB
          have HE : Hid (R.take (P * n * A) ++ dt.drop (P * n * A) = R) := by
            show _ = _
            rw [unhide HPR, List.take_of_length_le (by rw [unhide HRL]; exact Nat.le_refl _), List.drop_of_length_le (by rw [unhide hl2]; exact Nat.le_refl _), List.append_nil]
          have hbut := (unhide ht).but
          have HO := hide (unhide ht).own
          have HB6 := hide ((unhide F6).but hbut (by show ¬ (w.heap.size + 1 = g); omega))
          have HB7 := hide (unhide HBX _ hbut).1
          have HO1 := hide (hbut.own (unhide HT1) (fun k hk hat => unhide HAP' k hat g (at_self (by omega)) hk))
          have HWr := hide ((unhide HW5).trans (hbut.below (B := w.heap.size) (unhide HW5).size (fun k hk => by omega)))
          obtain ⟨z0, z1, z2, z3, z4, z5, z6⟩ := (unhide HB6).all
          obtain ⟨v0, v1, v2, v3, v4, v5, v6⟩ := (unhide HB7).all
          rw [unhide HE] at HO
          clear ht hbut
          go_wp2
          refine bodyPost_ret (v := .agg #[.bool c, .slice s1 n1 f1, .slice (some ⟨g, off, none⟩) n2 f2]) (by simp [results, Tryz.results72, go_sem, z0, z1, z2]) rfl ?_
          rw [unhide HS]
          exact ⟨_, _, _, _, _, _, rfl, (unhide HO1).row.sets (unhide HB6) _ _ _, (unhide HO).row.sets (unhide HB6) _ _ _, (((unhide HWr).setCell (by simp <;> omega) _).setCell (by simp <;> omega) _).setCell (by simp <;> omega) _⟩

end Go.Proofs.YtgjpchnkodnieaaGreatDoor
