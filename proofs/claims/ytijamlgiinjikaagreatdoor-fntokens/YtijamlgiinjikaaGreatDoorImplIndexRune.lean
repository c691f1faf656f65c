import Derived.Deep.DeepCutAuto
import Derived.Shelf.Abstract
import Derived.BigQuiet
import Derived.WalkMore
import Derived.ScopeJumps
import Derived.Test.YtijamlgiinjikaaGreatDoorImplReader
import Derived.Test.YtijamlgiinjikaaGreatDoorShelfContains
import Derived.Test.YtijamlgiinjikaaGreatDoorIdxMath
import Derived.Test.YtijamlgiinjikaaGreatDoorMFit0
namespace Go.Proofs.YtijamlgiinjikaaGreatDoor
open Go.RowKit

theorem validRune_any (z : Int) (hv : Lib.validRune z = true) (w : World) : Calls Tryz.prog 78 #[.int .i32 z] w fun e w' => e = .returned (.bool true) ∧ w' = w := by
  have h : (0 ≤ z ∧ z < 55296) ∨ (57343 < z ∧ z ≤ 1114111) := by unfold Lib.validRune at hv; exact of_decide_eq_true hv
  clear hv
  go_enter Tryz.func78, Tryz.ntmps78
  go_wp2
  all_goals first | (exfalso; omega) | (go_ret; exact ⟨rfl, rfl⟩)

theorem run_subT {s : ByteArray} {q : Nat} (h2 : q ≤ s.size) (W : World) : (Instr.slice 9 (.string s) (some (.int .i64 (q : Nat))) none none).run Tryz.prog W = .ok (.string (s.extract q s.size)) W := by
  have h3 : (q : Int) ≤ (s.size : Int) := by omega
  go_simp

theorem idxByte_any (s : ByteArray) (c : Int) (w : World) : Calls Tryz.prog 77 #[.string s, .int .u8 c] w fun e w' => e = .returned (.int .i64 (Lib.indexByte s.data.toList c.toNat.toUInt8)) ∧ w' = w :=
  Any.strings_IndexByte (P := Tryz.prog) (ρ := Tryz.containsS_ren) { Tryz.containsS with } s c w

theorem cutover_any (k : Int) (h0 : 0 ≤ k) (hk : k ≤ 1000000) (w : World) : Calls Tryz.prog 79 #[.int .i64 k] w fun e w' => e = .returned (.int .i64 ((k + 16) / 8)) ∧ w' = w :=
  Any.bytealg_Cutover (P := Tryz.prog) (ρ := Tryz.containsS_ren) { Tryz.containsS with } k h0 (by omega) w

/-- A scope with jumps ahead to one label. -/
theorem wp_scope_ahead {P : Program} {Q : Exit → Act → World → Prop} {a : Act} {w : World} {c rest : Code} (l : Nat) (hf : findLabel c l = some rest) (first : c.wp P (Exit.jump l (fun a w => rest.wp P (Exit.noGoto Q) a w) Q) a w) : (Code.scope c).wp P Q a w :=
  wp_scope_jumps l (fun a w => rest.wp P (Exit.noGoto Q) a w) (fun _ _ => 0) hf first fun _ _ h => Code.wp_mono (fun e _ _ hq => by cases e <;> first | exact hq | exact hq.elim) h

section
variable {J : Act → World → Prop} {Q : Exit → Act → World → Prop} {a : Act} {w : World} {l : Nat}
theorem jump_normal : Exit.jump l J Q .normal a w = Q .normal a w := rfl
theorem jump_exit (id : Nat) : Exit.jump l J Q (.exit id) a w = Q (.exit id) a w := rfl
theorem jump_ret : Exit.jump l J Q .ret a w = Q .ret a w := rfl
theorem inBlock_normal (id : Nat) : Exit.inBlock id Q .normal a w = Q .normal a w := rfl
theorem inBlock_ret (id : Nat) : Exit.inBlock id Q .ret a w = Q .ret a w := rfl
theorem then_ret {K : Act → World → Prop} : Exit.then K Q .ret a w = Q .ret a w := rfl
theorem jump_goto (h : J a w) : Exit.jump l J Q (.goto l) a w := ⟨rfl, h⟩
end
attribute [local go_sem] jump_normal jump_exit jump_ret

set_option maxRecDepth 100000 in
set_option maxHeartbeats 4000000 in
theorem indexRune_wide (s rs : ByteArray) (L c : Nat) (z : Int) (w : World) (hv : 128 ≤ z) (hv2 : z ≠ 65533) (hval : Lib.validRune z = true) (hrs : Utf8.encode z = rs) (hL : rs.size = L + 1) (hL1 : 1 ≤ L) (hL3 : L ≤ 3)
    (hc : bt rs L = c) (hs : s.size ≤ 100000) (hcut : ∀ i, i < s.size → cnt s c i ≤ (i + 16) / 8) :
    Calls Tryz.prog 65 #[.string s, .int .i32 z] w fun e w' => ∃ n : Int, e = .returned (.int .i64 n) ∧ (0 ≤ n ↔ ∃ k, Mt s rs L k) ∧ Below w.heap.size w w' := by
  have HL := hide hL
  have HRS := hide hrs
  have HC := hide hc
  have HCUT := hide hcut
  have HV := hide (validRune_any z hval)
  have a0 : 0 ≤ z := by omega
  have a1 : ¬ z < 128 := by omega
  have a2 : ¬ z = 65533 := by omega
  clear hL hrs hc hcut hval hv hv2
  go_enter Tryz.func65, Tryz.ntmps65
  go_wp2_with (go_at_call 78; refine (unhide HV _).mono ?_; rintro e w5 ⟨rfl, hw5⟩; rw [hw5]; clear hw5)
  go_step3
  go_wp2_with fail
  rw [unhide HRS]
  have hl8 : wrap64 (((rs.size : Nat) : Int) - 1) = (L : Nat) := by
    have := unhide HL
    unfold wrap64
    omega
  rw [hl8]
  clear hl8
  go_loopw [9, 10] (fun i f wr => ∃ (k fl q : Nat), i = .int .i64 (k : Nat) ∧ f = .int .i64 (fl : Nat) ∧ wr = w.drewN q ∧ L ≤ k ∧ k ≤ s.size + 4 ∧ fl ≤ k ∧ Hid (fl ≤ cnt s c k ∧ ∀ m, m < k → ¬ Mt s rs L m)) (fun i _ _ => (s.size + 4 - (intOf i)).toNat)
  case atStart =>
    exact ⟨L, 0, 0, rfl, rfl, rfl, Nat.le_refl _, by omega, by omega, hide ⟨Nat.zero_le _, fun m hm h => by have := h.1; omega⟩⟩
  case round =>
    obtain ⟨k, fl, q, rfl, rfl, rfl, hLk, hkz, hfk, HI⟩ := hrel
    by_cases hk : k < s.size
    case neg =>
      have hki : ¬ (k : Int) < (s.size : Int) := by omega
      go_wp2_with fail
      go_ret
      exact ⟨-1, rfl, ⟨fun h => absurd h (by decide), fun ⟨m, hm⟩ => absurd hm ((unhide HI).2 m (by have := hm.2.1; omega))⟩, Below.drewN (Below.refl _ _) _⟩
    have hki : (k : Int) < (s.size : Int) := by omega
    have hi2 : ∀ W, (Instr.index 9 (.string rs) (.int .i64 (L : Nat))).run Tryz.prog W = .ok (.int .u8 (c : Nat)) W := fun W => (unhide HC) ▸ run_idx (by have := unhide HL; omega) W
    have hc8 : c < 256 := by rw [← unhide HC]; exact bt_lt _ _
    by_cases hbc : bt s k = c
    case pos =>
      have hi1 : ∀ W, (Instr.index 9 (.string s) (.int .i64 (k : Nat))).run Tryz.prog W = .ok (.int .u8 (c : Nat)) W := fun W => hbc ▸ run_idx hk W
      have HBC := hide hbc
      clear hbc
      go_wp2_with fail
      refine wp_scope_ahead 0 rfl ?_
      go_wp2_with fail
      go_quiet (fail)
      go_wp2_with fail
      clear hi1 hi2
      obtain ⟨K, hK⟩ : ∃ K, K = k := ⟨_, rfl⟩
      have HIK : Hid (fl ≤ cnt s c K ∧ bt s K = c ∧ ∀ m, m < K → ¬ Mt s rs L m) := by rw [hK]; exact hide ⟨(unhide HI).1, unhide HBC, (unhide HI).2⟩
      have hol : K < s.size := by rw [hK]; exact hk
      have hKL : L ≤ K := by rw [hK]; exact hLk
      have hfK : fl ≤ K := by rw [hK]; exact hfk
      have hkK : k ≤ K := by omega
      rw [← hK]
      clear hK
      go_loopw [12] (fun u wr => ∃ (j : Nat), u = .int .i64 (j : Nat) ∧ (∃ q1, wr = w.drewN q1) ∧ 1 ≤ j ∧ j ≤ L + 1 ∧ Hid (∀ t, t < j → bt s (K - t) = bt rs (L - t))) (fun u _ => (L + 1 - (intOf u)).toNat)
      case atStart =>
        refine ⟨1, rfl, ?_, Nat.le_refl _, by omega, hide fun t ht => ?_⟩
        · first | exact ⟨_, rfl⟩ | (simp only [World.drewN_drewN]; exact ⟨_, rfl⟩)
        · obtain rfl : t = 0 := by omega
          rw [Nat.sub_zero, Nat.sub_zero, unhide HC]
          exact (unhide HIK).2.1
      case round =>
        obtain ⟨j, rfl, ⟨q1, rfl⟩, hj1, hjL, HJ⟩ := hrel
        by_cases hj : j < L + 1
        case neg =>
          have hji : ¬ (j : Int) < (rs.size : Int) := by have := unhide HL; omega
          go_wp2_with fail
          rw [Exit.noGoto_ret]
          go_ret
          refine ⟨(K : Int) - L, by go_num, ⟨fun _ => ⟨K, hKL, hol, fun t ht => unhide HJ t (by omega)⟩, fun _ => by omega⟩, Below.drewN (Below.refl _ _) _⟩
        have hji : (j : Int) < (rs.size : Int) := by have := unhide HL; omega
        obtain ⟨x, hx⟩ : ∃ x, K - j = x := ⟨_, rfl⟩
        obtain ⟨y, hy⟩ : ∃ y, L - j = y := ⟨_, rfl⟩
        have ex : (K : Int) - (j : Int) = (x : Int) := by omega
        have ey : (L : Int) - (j : Int) = (y : Int) := by omega
        have hwx : IntKind.i64.wrap (x : Int) = (x : Int) := by rw [IntKind.wrap_i64]; omega
        have hwy : IntKind.i64.wrap (y : Int) = (y : Int) := by rw [IntKind.wrap_i64]; omega
        have HX := hide hx
        have HY := hide hy
        have hiy : ∀ W, (Instr.index 9 (.string rs) (.int .i64 (y : Nat))).run Tryz.prog W = .ok (.int .u8 (bt rs y : Nat)) W := fun W => run_idx (by have := unhide HL; omega) W
        have hix : ∀ W, (Instr.index 9 (.string s) (.int .i64 (x : Nat))).run Tryz.prog W = .ok (.int .u8 (bt s x : Nat)) W := fun W => run_idx (by omega) W
        clear hx hy
        by_cases hxy : bt s x = bt rs y
        case pos =>
          have HXY := hide hxy
          rw [hxy] at hix
          clear hxy
          obtain ⟨b, hb⟩ : ∃ b, bt rs y = b := ⟨_, rfl⟩
          simp only [hb] at hix hiy
          clear hb
          go_wp2_with fail
          go_quiet (fail)
          go_wp2_with fail
          clear ex ey hwx hwy hix hiy
          go_roundw
          case rel =>
            refine ⟨j + 1, by go_num, ?_, by omega, by omega, hide fun t ht => ?_⟩
            · first | exact ⟨_, rfl⟩ | (simp only [World.drewN_drewN]; exact ⟨_, rfl⟩)
            · by_cases e : t = j
              · rw [e, unhide HX, unhide HY]; exact unhide HXY
              · exact unhide HJ t (by omega)
          case measure => simp [intOf]; omega
        have hxyi : ¬ ((bt s x : Nat) : Int) = ((bt rs y : Nat) : Int) := by omega
        obtain ⟨b, hb⟩ : ∃ b, bt rs y = b := ⟨_, rfl⟩
        obtain ⟨b2, hb2⟩ : ∃ b, bt s x = b := ⟨_, rfl⟩
        have HNO : Hid (¬ Mt s rs L K) := hide fun h => hxy (by rw [← unhide HX, ← unhide HY]; exact h.2.2 j (by omega))
        rw [hb, hb2] at hxyi
        simp only [hb, hb2] at hix hiy
        clear hb hb2 hxy
        have HCV := hide (fun W => cutover_any ((K : Int) + 1) (by omega) (by omega) W)
        have HNX : Hid (fl + 1 ≤ cnt s c (K + 1) ∧ ∀ m, m < K + 1 → ¬ Mt s rs L m) := by
          refine hide ⟨cnt_hit (Nat.le_refl _) (unhide HIK).2.1 (unhide HIK).1, fun m hm => ?_⟩
          by_cases e : m = K
          · rw [e]; exact unhide HNO
          · exact (unhide HIK).2.2 m (by omega)
        by_cases hend : K + 1 < s.size
        · have hei : (K : Int) + 1 < (s.size : Int) := by omega
          have hcv : ¬ ((K : Int) + 1 + 16) / 8 < (fl : Int) + 1 := by
            have h1 := unhide HCUT (K + 1) hend
            have h2 := (unhide HNX).1
            omega
          go_wp2_with fail
          go_quiet (fail)
          go_wp2_with fail
          refine wp_goto (And.intro rfl ?_)
          go_wp2_with (go_at_call 79; refine (unhide HCV _).mono ?_; rintro e w5 ⟨rfl, hw5⟩; rw [hw5]; clear hw5)
          all_goals first
            | exact ⟨⟨K + 1, fl + 1, _, by go_num, by go_num, rfl, by omega, by omega, by omega, HNX⟩, by simp [intOf]; omega⟩
            | (rw [Exit.noGoto_normal, inBlock_normal]; go_roundw; (case rel => exact ⟨K + 1, fl + 1, _, by go_num, by go_num, rfl, by omega, by omega, by omega, HNX⟩); (case measure => simp [intOf]; omega))
        · have hei : ¬ (K : Int) + 1 < (s.size : Int) := by omega
          by_cases hcv : ((K : Int) + 1 + 16) / 8 < (fl : Int) + 1
          · go_wp2_with fail
            go_quiet (fail)
            go_wp2_with fail
            refine wp_goto (And.intro rfl ?_)
            go_wp2_with (go_at_call 79; refine (unhide HCV _).mono ?_; rintro e w5 ⟨rfl, hw5⟩; rw [hw5]; clear hw5)
            rw [Exit.noGoto_normal, inBlock_normal]
            change _ ∧ _
            go_big_round
            all_goals exact ⟨⟨K + 1, fl + 1, _, by go_num, by go_num, rfl, by omega, by omega, by omega, HNX⟩, by simp [intOf]; omega⟩
          · go_wp2_with fail
            go_quiet (fail)
            go_wp2_with fail
            refine wp_goto (And.intro rfl ?_)
            go_wp2_with (go_at_call 79; refine (unhide HCV _).mono ?_; rintro e w5 ⟨rfl, hw5⟩; rw [hw5]; clear hw5)
            all_goals exact ⟨⟨K + 1, fl + 1, _, by go_num, by go_num, rfl, by omega, by omega, by omega, HNX⟩, by simp [intOf]; omega⟩
    have hi1 : ∀ W, (Instr.index 9 (.string s) (.int .i64 (k : Nat))).run Tryz.prog W = .ok (.int .u8 (bt s k : Nat)) W := fun W => run_idx hk W
    have hne : ¬ ((bt s k : Nat) : Int) = ((c : Nat) : Int) := by omega
    obtain ⟨b1, hb1⟩ : ∃ b, bt s k = b := ⟨_, rfl⟩
    have HB1 := hide hb1
    have HNE := hide hbc
    rw [hb1] at hne
    simp only [hb1] at hi1
    clear hb1 hbc
    obtain ⟨m, hm⟩ : ∃ m, k + 1 = m := ⟨_, rfl⟩
    have HM := hide hm
    have em : (k : Int) + 1 = (m : Int) := by omega
    have hms : m ≤ s.size := by omega
    have hwm : IntKind.i64.wrap (m : Int) = (m : Int) := by rw [IntKind.wrap_i64]; omega
    have hsl : ∀ W, (Instr.slice 9 (.string s) (some (.int .i64 (m : Nat))) none none).run Tryz.prog W = .ok (.string (s.extract (k + 1) s.size)) W := fun W => hm ▸ run_subT (by omega) W
    clear hm
    have HIB : Hid (∀ W, Calls Tryz.prog 77 #[.string (s.extract (k + 1) s.size), .int .u8 (c : Nat)] W fun e w' => e = .returned (.int .i64 (Lib.indexByte (s.extract (k + 1) s.size).data.toList (((c : Nat) : Int).toNat.toUInt8))) ∧ w' = W) := hide fun W => idxByte_any _ _ W
    rcases Lib.indexByte_piece s (k + 1) s.size (((c : Nat) : Int).toNat.toUInt8) with hib | ⟨o, hib, hol⟩
    · have HN := hide (idx_none hib)
      rw [hib] at HIB
      clear hib
      obtain ⟨x, hx⟩ : ∃ x, s.extract (k + 1) s.size = x := ⟨_, rfl⟩
      rw [hx] at HIB
      simp only [hx] at hsl
      clear hx
      go_wp2_with fail
      refine wp_scope_ahead 0 rfl ?_
      go_wp2_with fail
      go_quiet (fail)
      go_wp2_with fail
      go_quiet (first | (go_at_call 77; exact (unhide HIB _).mono (fun e w' ⟨he, hw⟩ => ⟨he, _, hw⟩)))
      go_wp2_with fail
      simp (config := { zetaDelta := true }) only [jump_ret, inBlock_ret, then_ret, Exit.noGoto_ret]
      go_ret
      refine ⟨-1, rfl, ⟨fun h => absurd h (by decide), fun ⟨m, hm⟩ => ?_⟩, by first | exact Below.drewN (Below.refl _ _) _ | exact Below.drewN (Below.drewN (Below.drewN (Below.refl _ _) _) _) _⟩
      by_cases hmk : m < k
      · exact absurd hm ((unhide HI).2 m hmk)
      · have hlast := hm.2.2 0 (Nat.zero_le _)
        rw [Nat.sub_zero, Nat.sub_zero, unhide HC] at hlast
        by_cases e : m = k
        · rw [e] at hlast; exact absurd hlast (unhide HNE)
        · exact absurd hlast (unhide HN m (by omega) hm.2.1)
    · have HN := hide (idx_some hc8 hol hib)
      rw [hib] at HIB
      clear hib
      obtain ⟨x, hx⟩ : ∃ x, s.extract (k + 1) s.size = x := ⟨_, rfl⟩
      rw [hx] at HIB
      simp only [hx] at hsl
      clear hx
      go_wp2_with fail
      refine wp_scope_ahead 0 rfl ?_
      go_wp2_with fail
      go_quiet (fail)
      go_wp2_with fail
      obtain ⟨K, hK⟩ : ∃ K, k + 1 + o = K := ⟨_, rfl⟩
      rw [hK] at hol HN
      have eK : (k : Int) + ((o : Int) + 1) = (K : Int) := by omega
      have hwK : IntKind.i64.wrap (K : Int) = (K : Int) := by rw [IntKind.wrap_i64]; omega
      have hkK : k < K := by omega
      have HIK : Hid (fl ≤ cnt s c K ∧ bt s K = c ∧ ∀ m, m < K → ¬ Mt s rs L m) := by
        refine hide ⟨?_, (unhide HN).1, fun m hm hM => ?_⟩
        · have h1 := cnt_mono s c k (K - k)
          rw [show k + (K - k) = K by omega] at h1
          have h2 := (unhide HI).1
          omega
        · by_cases hmk : m < k
          · exact (unhide HI).2 m hmk hM
          · have hlast := hM.2.2 0 (Nat.zero_le _)
            rw [Nat.sub_zero, Nat.sub_zero, unhide HC] at hlast
            by_cases e : m = k
            · rw [e] at hlast; exact absurd hlast (unhide HNE)
            · exact absurd hlast ((unhide HN).2 m (by omega) hm)
      clear hK
      go_quiet (first | (go_at_call 77; exact (unhide HIB _).mono (fun e w' ⟨he, hw⟩ => ⟨he, _, hw⟩)))
      go_wp2_with fail
      clear hi1 hi2 hsl em hne eK hwm
      have hKL : L ≤ K := by omega
      have hfK : fl ≤ K := by omega
      go_loopw [12] (fun u wr => ∃ (j : Nat), u = .int .i64 (j : Nat) ∧ (∃ q1, wr = w.drewN q1) ∧ 1 ≤ j ∧ j ≤ L + 1 ∧ Hid (∀ t, t < j → bt s (K - t) = bt rs (L - t))) (fun u _ => (L + 1 - (intOf u)).toNat)
      case atStart =>
        refine ⟨1, rfl, ?_, Nat.le_refl _, by omega, hide fun t ht => ?_⟩
        · first | exact ⟨_, rfl⟩ | (simp only [World.drewN_drewN]; exact ⟨_, rfl⟩)
        · obtain rfl : t = 0 := by omega
          rw [Nat.sub_zero, Nat.sub_zero, unhide HC]
          exact (unhide HIK).2.1
      case round =>
        obtain ⟨j, rfl, ⟨q1, rfl⟩, hj1, hjL, HJ⟩ := hrel
        by_cases hj : j < L + 1
        case neg =>
          have hji : ¬ (j : Int) < (rs.size : Int) := by have := unhide HL; omega
          go_wp2_with fail
          rw [Exit.noGoto_ret]
          go_ret
          refine ⟨(K : Int) - L, by go_num, ⟨fun _ => ⟨K, hKL, hol, fun t ht => unhide HJ t (by omega)⟩, fun _ => by omega⟩, Below.drewN (Below.refl _ _) _⟩
        have hji : (j : Int) < (rs.size : Int) := by have := unhide HL; omega
        obtain ⟨x, hx⟩ : ∃ x, K - j = x := ⟨_, rfl⟩
        obtain ⟨y, hy⟩ : ∃ y, L - j = y := ⟨_, rfl⟩
        have ex : (K : Int) - (j : Int) = (x : Int) := by omega
        have ey : (L : Int) - (j : Int) = (y : Int) := by omega
        have hwx : IntKind.i64.wrap (x : Int) = (x : Int) := by rw [IntKind.wrap_i64]; omega
        have hwy : IntKind.i64.wrap (y : Int) = (y : Int) := by rw [IntKind.wrap_i64]; omega
        have HX := hide hx
        have HY := hide hy
        have hiy : ∀ W, (Instr.index 9 (.string rs) (.int .i64 (y : Nat))).run Tryz.prog W = .ok (.int .u8 (bt rs y : Nat)) W := fun W => run_idx (by have := unhide HL; omega) W
        have hix : ∀ W, (Instr.index 9 (.string s) (.int .i64 (x : Nat))).run Tryz.prog W = .ok (.int .u8 (bt s x : Nat)) W := fun W => run_idx (by omega) W
        clear hx hy
        by_cases hxy : bt s x = bt rs y
        case pos =>
          have HXY := hide hxy
          rw [hxy] at hix
          clear hxy
          obtain ⟨b, hb⟩ : ∃ b, bt rs y = b := ⟨_, rfl⟩
          simp only [hb] at hix hiy
          clear hb
          go_wp2_with fail
          go_quiet (fail)
          go_wp2_with fail
          clear ex ey hwx hwy hix hiy
          go_roundw
          case rel =>
            refine ⟨j + 1, by go_num, ?_, by omega, by omega, hide fun t ht => ?_⟩
            · first | exact ⟨_, rfl⟩ | (simp only [World.drewN_drewN]; exact ⟨_, rfl⟩)
            · by_cases e : t = j
              · rw [e, unhide HX, unhide HY]; exact unhide HXY
              · exact unhide HJ t (by omega)
          case measure => simp [intOf]; omega
        have hxyi : ¬ ((bt s x : Nat) : Int) = ((bt rs y : Nat) : Int) := by omega
        obtain ⟨b, hb⟩ : ∃ b, bt rs y = b := ⟨_, rfl⟩
        obtain ⟨b2, hb2⟩ : ∃ b, bt s x = b := ⟨_, rfl⟩
        have HNO : Hid (¬ Mt s rs L K) := hide fun h => hxy (by rw [← unhide HX, ← unhide HY]; exact h.2.2 j (by omega))
        rw [hb, hb2] at hxyi
        simp only [hb, hb2] at hix hiy
        clear hb hb2 hxy
        have HCV := hide (fun W => cutover_any ((K : Int) + 1) (by omega) (by omega) W)
        have HNX : Hid (fl + 1 ≤ cnt s c (K + 1) ∧ ∀ m, m < K + 1 → ¬ Mt s rs L m) := by
          refine hide ⟨cnt_hit (Nat.le_refl _) (unhide HIK).2.1 (unhide HIK).1, fun m hm => ?_⟩
          by_cases e : m = K
          · rw [e]; exact unhide HNO
          · exact (unhide HIK).2.2 m (by omega)
        by_cases hend : K + 1 < s.size
        · have hei : (K : Int) + 1 < (s.size : Int) := by omega
          have hcv : ¬ ((K : Int) + 1 + 16) / 8 < (fl : Int) + 1 := by
            have h1 := unhide HCUT (K + 1) hend
            have h2 := (unhide HNX).1
            omega
          go_wp2_with fail
          go_quiet (fail)
          go_wp2_with fail
          refine wp_goto (And.intro rfl ?_)
          go_wp2_with (go_at_call 79; refine (unhide HCV _).mono ?_; rintro e w5 ⟨rfl, hw5⟩; rw [hw5]; clear hw5)
          all_goals first
            | exact ⟨⟨K + 1, fl + 1, _, by go_num, by go_num, rfl, by omega, by omega, by omega, HNX⟩, by simp [intOf]; omega⟩
            | (rw [Exit.noGoto_normal, inBlock_normal]; go_roundw; (case rel => exact ⟨K + 1, fl + 1, _, by go_num, by go_num, rfl, by omega, by omega, by omega, HNX⟩); (case measure => simp [intOf]; omega))
        · have hei : ¬ (K : Int) + 1 < (s.size : Int) := by omega
          by_cases hcv : ((K : Int) + 1 + 16) / 8 < (fl : Int) + 1
          · go_wp2_with fail
            go_quiet (fail)
            go_wp2_with fail
            refine wp_goto (And.intro rfl ?_)
            go_wp2_with (go_at_call 79; refine (unhide HCV _).mono ?_; rintro e w5 ⟨rfl, hw5⟩; rw [hw5]; clear hw5)
            rw [Exit.noGoto_normal, inBlock_normal]
            change _ ∧ _
            go_big_round
            all_goals exact ⟨⟨K + 1, fl + 1, _, by go_num, by go_num, rfl, by omega, by omega, by omega, HNX⟩, by simp [intOf]; omega⟩
          · go_wp2_with fail
            go_quiet (fail)
            go_wp2_with fail
            refine wp_goto (And.intro rfl ?_)
            go_wp2_with (go_at_call 79; refine (unhide HCV _).mono ?_; rintro e w5 ⟨rfl, hw5⟩; rw [hw5]; clear hw5)
            all_goals exact ⟨⟨K + 1, fl + 1, _, by go_num, by go_num, rfl, by omega, by omega, by omega, HNX⟩, by simp [intOf]; omega⟩

end Go.Proofs.YtijamlgiinjikaaGreatDoor
