import Derived.Deep.DeepCutAuto
import Derived.Shelf.Abstract
import Derived.BigQuiet
import Derived.WalkMore
import Derived.ScopeJumps
import Derived.Test.YtinndpnilmmmjaaGreatDoorMNumA
import Derived.Test.YtinndpnilmmmjaaGreatDoorMShelf
import Derived.Test.YtinndpnilmmmjaaGreatDoorMTxt
import Derived.Test.YtinndpnilmmmjaaGreatDoorMRune
import Derived.Shelf.Strings.BuilderF
namespace Go.Proofs.YtinndpnilmmmjaaGreatDoor
open Go.RowKit

theorem validRune_any (z : Int) (hv : Lib.validRune z = true) (w : World) : Calls Tryz.prog 239 #[.int .i32 z] w fun e w' => e = .returned (.bool true) ∧ w' = w := by
  have h : (0 ≤ z ∧ z < 55296) ∨ (57343 < z ∧ z ≤ 1114111) := by unfold Lib.validRune at hv; exact of_decide_eq_true hv
  clear hv
  go_enter Tryz.func239, Tryz.ntmps239
  go_wp2
  all_goals first | (exfalso; omega) | (go_ret; exact ⟨rfl, rfl⟩)

theorem run_subT {s : ByteArray} {q : Nat} (h2 : q ≤ s.size) (W : World) : (Instr.slice 9 (.string s) (some (.int .i64 (q : Nat))) none none).run Tryz.prog W = .ok (.string (s.extract q s.size)) W := by
  have h3 : (q : Int) ≤ (s.size : Int) := by omega
  go_simp

theorem idxByte_any (s : ByteArray) (c : Int) (w : World) : Calls Tryz.prog 238 #[.string s, .int .u8 c] w fun e w' => e = .returned (.int .i64 (Lib.indexByte s.data.toList c.toNat.toUInt8)) ∧ w' = w :=
  Any.strings_IndexByte (P := Tryz.prog) (ρ := Tryz.containsS_ren) { Tryz.containsS with } s c w

theorem cutover_any (k : Int) (h0 : 0 ≤ k) (hk : k ≤ 1000000) (w : World) : Calls Tryz.prog 227 #[.int .i64 k] w fun e w' => e = .returned (.int .i64 ((k + 16) / 8)) ∧ w' = w :=
  Any.bytealg_Cutover (P := Tryz.prog) (ρ := Tryz.containsS_ren) { Tryz.containsS with } k h0 (by omega) w

/-- A scope with jumps ahead to one label. -/
theorem wp_scope_ahead {P : Program} {Q : Exit → Act → World → Prop} {a : Act} {w : World} {c rest : Code} (l : Nat) (hf : findLabel c l = some rest) (first : c.wp P (Exit.jump l (fun a w => rest.wp P (Exit.noGoto Q) a w) Q) a w) : (Code.scope c).wp P Q a w :=
  wp_scope_jumps l (fun a w => rest.wp P (Exit.noGoto Q) a w) (fun _ _ => 0) hf first fun _ _ h => Code.wp_mono (fun e _ _ hq => by cases e <;> first | exact hq | exact hq.elim) h

section
variable {J : Act → World → Prop} {Q : Exit → Act → World → Prop} {a : Act} {w : World} {l : Nat}
theorem jump_normal : Exit.jump l J Q .normal a w = Q .normal a w := rfl
theorem jump_exit (id : Nat) : Exit.jump l J Q (.exit id) a w = Q (.exit id) a w := rfl
theorem jump_ret : Exit.jump l J Q .ret a w = Q .ret a w := rfl
theorem inBlock_normal (id : Nat) : Exit.inBlock id Q .normal a w = Q .normal a w := rfl
theorem inBlock_ret (id : Nat) : Exit.inBlock id Q .ret a w = Q .ret a w := rfl
theorem then_ret {K : Act → World → Prop} : Exit.then K Q .ret a w = Q .ret a w := rfl
theorem jump_goto (h : J a w) : Exit.jump l J Q (.goto l) a w := ⟨rfl, h⟩
end
attribute [local go_sem] jump_normal jump_exit jump_ret

set_option maxRecDepth 100000 in
set_option maxHeartbeats 4000000 in
theorem indexRune_wide (s rs : ByteArray) (L c : Nat) (z : Int) (w : World) (hv : 128 ≤ z) (hv2 : z ≠ 65533) (hval : Lib.validRune z = true) (hrs : Utf8.encode z = rs) (hL : rs.size = L + 1) (hL1 : 1 ≤ L) (hL3 : L ≤ 3)
    (hc : bt rs L = c) (hs : s.size ≤ 100000) (hcut : ∀ i, i < s.size → cnt s c i ≤ (i + 16) / 8) :
    Calls Tryz.prog 214 #[.string s, .int .i32 z] w fun e w' => ∃ n : Int, e = .returned (.int .i64 n) ∧ (0 ≤ n ↔ ∃ k, Mt s rs L k) ∧ Below w.heap.size w w' := by
  have HL := hide hL
  have HRS := hide hrs
  have HC := hide hc
  have HCUT := hide hcut
  have HV := hide (validRune_any z hval)
  have a0 : 0 ≤ z := by omega
  have a1 : ¬ z < 128 := by omega
  have a2 : ¬ z = 65533 := by omega
  clear hL hrs hc hcut hval hv hv2
  go_enter Tryz.func214, Tryz.ntmps214
  go_wp2_with (go_at_call 239; refine (unhide HV _).mono ?_; rintro e w5 ⟨rfl, hw5⟩; rw [hw5]; clear hw5)
  go_step3
  go_wp2_with fail
  rw [unhide HRS]
  have hl8 : wrap64 (((rs.size : Nat) : Int) - 1) = (L : Nat) := by
    have := unhide HL
    unfold wrap64
    omega
  rw [hl8]
  clear hl8
  go_loopw [9, 10] (fun i f wr => ∃ (k fl q : Nat), i = .int .i64 (k : Nat) ∧ f = .int .i64 (fl : Nat) ∧ wr = w.drewN q ∧ L ≤ k ∧ k ≤ s.size + 4 ∧ fl ≤ k ∧ Hid (fl ≤ cnt s c k ∧ ∀ m, m < k → ¬ Mt s rs L m)) (fun i _ _ => (s.size + 4 - (intOf i)).toNat)
  case atStart =>
    exact ⟨L, 0, 0, rfl, rfl, rfl, Nat.le_refl _, by omega, by omega, hide ⟨Nat.zero_le _, fun m hm h => by have := h.1; omega⟩⟩
  case round =>
    obtain ⟨k, fl, q, rfl, rfl, rfl, hLk, hkz, hfk, HI⟩ := hrel
    by_cases hk : k < s.size
    case neg =>
      have hki : ¬ (k : Int) < (s.size : Int) := by omega
      go_wp2_with fail
      go_ret
      exact ⟨-1, rfl, ⟨fun h => absurd h (by decide), fun ⟨m, hm⟩ => absurd hm ((unhide HI).2 m (by have := hm.2.1; omega))⟩, Below.drewN (Below.refl _ _) _⟩
    have hki : (k : Int) < (s.size : Int) := by omega
    have hi2 : ∀ W, (Instr.index 9 (.string rs) (.int .i64 (L : Nat))).run Tryz.prog W = .ok (.int .u8 (c : Nat)) W := fun W => (unhide HC) ▸ run_idx (by have := unhide HL; omega) W
    have hc8 : c < 256 := by rw [← unhide HC]; exact bt_lt _ _
    by_cases hbc : bt s k = c
    case pos =>
      have hi1 : ∀ W, (Instr.index 9 (.string s) (.int .i64 (k : Nat))).run Tryz.prog W = .ok (.int .u8 (c : Nat)) W := fun W => hbc ▸ run_idx hk W
      have HBC := hide hbc
      clear hbc
      go_wp2_with fail
      refine wp_scope_ahead 0 rfl ?_
      go_wp2_with fail
      go_quiet (fail)
      go_wp2_with fail
      clear hi1 hi2
      obtain ⟨K, hK⟩ : ∃ K, K = k := ⟨_, rfl⟩
      have HIK : Hid (fl ≤ cnt s c K ∧ bt s K = c ∧ ∀ m, m < K → ¬ Mt s rs L m) := by rw [hK]; exact hide ⟨(unhide HI).1, unhide HBC, (unhide HI).2⟩
      have hol : K < s.size := by rw [hK]; exact hk
      have hKL : L ≤ K := by rw [hK]; exact hLk
      have hfK : fl ≤ K := by rw [hK]; exact hfk
      have hkK : k ≤ K := by omega
      rw [← hK]
      clear hK
      go_loopw [12] (fun u wr => ∃ (j : Nat), u = .int .i64 (j : Nat) ∧ (∃ q1, wr = w.drewN q1) ∧ 1 ≤ j ∧ j ≤ L + 1 ∧ Hid (∀ t, t < j → bt s (K - t) = bt rs (L - t))) (fun u _ => (L + 1 - (intOf u)).toNat)
      case atStart =>
        refine ⟨1, rfl, ?_, Nat.le_refl _, by omega, hide fun t ht => ?_⟩
        · first | exact ⟨_, rfl⟩ | (simp only [World.drewN_drewN]; exact ⟨_, rfl⟩)
        · obtain rfl : t = 0 := by omega
          rw [Nat.sub_zero, Nat.sub_zero, unhide HC]
          exact (unhide HIK).2.1
      case round =>
        obtain ⟨j, rfl, ⟨q1, rfl⟩, hj1, hjL, HJ⟩ := hrel
        by_cases hj : j < L + 1
        case neg =>
          have hji : ¬ (j : Int) < (rs.size : Int) := by have := unhide HL; omega
          go_wp2_with fail
          rw [Exit.noGoto_ret]
          go_ret
          refine ⟨(K : Int) - L, by go_num, ⟨fun _ => ⟨K, hKL, hol, fun t ht => unhide HJ t (by omega)⟩, fun _ => by omega⟩, Below.drewN (Below.refl _ _) _⟩
        have hji : (j : Int) < (rs.size : Int) := by have := unhide HL; omega
        obtain ⟨x, hx⟩ : ∃ x, K - j = x := ⟨_, rfl⟩
        obtain ⟨y, hy⟩ : ∃ y, L - j = y := ⟨_, rfl⟩
        have ex : (K : Int) - (j : Int) = (x : Int) := by omega
        have ey : (L : Int) - (j : Int) = (y : Int) := by omega
        have hwx : IntKind.i64.wrap (x : Int) = (x : Int) := by rw [IntKind.wrap_i64]; omega
        have hwy : IntKind.i64.wrap (y : Int) = (y : Int) := by rw [IntKind.wrap_i64]; omega
        have HX := hide hx
        have HY := hide hy
        have hiy : ∀ W, (Instr.index 9 (.string rs) (.int .i64 (y : Nat))).run Tryz.prog W = .ok (.int .u8 (bt rs y : Nat)) W := fun W => run_idx (by have := unhide HL; omega) W
        have hix : ∀ W, (Instr.index 9 (.string s) (.int .i64 (x : Nat))).run Tryz.prog W = .ok (.int .u8 (bt s x : Nat)) W := fun W => run_idx (by omega) W
        clear hx hy
        by_cases hxy : bt s x = bt rs y
        case pos =>
          have HXY := hide hxy
          rw [hxy] at hix
          clear hxy
          obtain ⟨b, hb⟩ : ∃ b, bt rs y = b := ⟨_, rfl⟩
          simp only [hb] at hix hiy
          clear hb
          go_wp2_with fail
          go_quiet (fail)
          go_wp2_with fail
          clear ex ey hwx hwy hix hiy
          go_roundw
          case rel =>
            refine ⟨j + 1, by go_num, ?_, by omega, by omega, hide fun t ht => ?_⟩
            · first | exact ⟨_, rfl⟩ | (simp only [World.drewN_drewN]; exact ⟨_, rfl⟩)
            · by_cases e : t = j
              · rw [e, unhide HX, unhide HY]; exact unhide HXY
              · exact unhide HJ t (by omega)
          case measure => simp [intOf]; omega
        have hxyi : ¬ ((bt s x : Nat) : Int) = ((bt rs y : Nat) : Int) := by omega
        obtain ⟨b, hb⟩ : ∃ b, bt rs y = b := ⟨_, rfl⟩
        obtain ⟨b2, hb2⟩ : ∃ b, bt s x = b := ⟨_, rfl⟩
        have HNO : Hid (¬ Mt s rs L K) := hide fun h => hxy (by rw [← unhide HX, ← unhide HY]; exact h.2.2 j (by omega))
        rw [hb, hb2] at hxyi
        simp only [hb, hb2] at hix hiy
        clear hb hb2 hxy
        have HCV := hide (fun W => cutover_any ((K : Int) + 1) (by omega) (by omega) W)
        have HNX : Hid (fl + 1 ≤ cnt s c (K + 1) ∧ ∀ m, m < K + 1 → ¬ Mt s rs L m) := by
          refine hide ⟨cnt_hit (Nat.le_refl _) (unhide HIK).2.1 (unhide HIK).1, fun m hm => ?_⟩
          by_cases e : m = K
          · rw [e]; exact unhide HNO
          · exact (unhide HIK).2.2 m (by omega)
        by_cases hend : K + 1 < s.size
        · have hei : (K : Int) + 1 < (s.size : Int) := by omega
          have hcv : ¬ ((K : Int) + 1 + 16) / 8 < (fl : Int) + 1 := by
            have h1 := unhide HCUT (K + 1) hend
            have h2 := (unhide HNX).1
            omega
          go_wp2_with fail
          go_quiet (fail)
          go_wp2_with fail
          refine wp_goto (And.intro rfl ?_)
          go_wp2_with (go_at_call 227; refine (unhide HCV _).mono ?_; rintro e w5 ⟨rfl, hw5⟩; rw [hw5]; clear hw5)
          all_goals first
            | exact ⟨⟨K + 1, fl + 1, _, by go_num, by go_num, rfl, by omega, by omega, by omega, HNX⟩, by simp [intOf]; omega⟩
            | (rw [Exit.noGoto_normal, inBlock_normal]; go_roundw; (case rel => exact ⟨K + 1, fl + 1, _, by go_num, by go_num, rfl, by omega, by omega, by omega, HNX⟩); (case measure => simp [intOf]; omega))
        · have hei : ¬ (K : Int) + 1 < (s.size : Int) := by omega
          by_cases hcv : ((K : Int) + 1 + 16) / 8 < (fl : Int) + 1
          · go_wp2_with fail
            go_quiet (fail)
            go_wp2_with fail
            refine wp_goto (And.intro rfl ?_)
            go_wp2_with (go_at_call 227; refine (unhide HCV _).mono ?_; rintro e w5 ⟨rfl, hw5⟩; rw [hw5]; clear hw5)
            rw [Exit.noGoto_normal, inBlock_normal]
            change _ ∧ _
            go_big_round
            all_goals exact ⟨⟨K + 1, fl + 1, _, by go_num, by go_num, rfl, by omega, by omega, by omega, HNX⟩, by simp [intOf]; omega⟩
          · go_wp2_with fail
            go_quiet (fail)
            go_wp2_with fail
            refine wp_goto (And.intro rfl ?_)
            go_wp2_with (go_at_call 227; refine (unhide HCV _).mono ?_; rintro e w5 ⟨rfl, hw5⟩; rw [hw5]; clear hw5)
            all_goals exact ⟨⟨K + 1, fl + 1, _, by go_num, by go_num, rfl, by omega, by omega, by omega, HNX⟩, by simp [intOf]; omega⟩
    have hi1 : ∀ W, (Instr.index 9 (.string s) (.int .i64 (k : Nat))).run Tryz.prog W = .ok (.int .u8 (bt s k : Nat)) W := fun W => run_idx hk W
    have hne : ¬ ((bt s k : Nat) : Int) = ((c : Nat) : Int) := by omega
    obtain ⟨b1, hb1⟩ : ∃ b, bt s k = b := ⟨_, rfl⟩
    have HB1 := hide hb1
    have HNE := hide hbc
    rw [hb1] at hne
    simp only [hb1] at hi1
    clear hb1 hbc
    obtain ⟨m, hm⟩ : ∃ m, k + 1 = m := ⟨_, rfl⟩
    have HM := hide hm
    have em : (k : Int) + 1 = (m : Int) := by omega
    have hms : m ≤ s.size := by omega
    have hwm : IntKind.i64.wrap (m : Int) = (m : Int) := by rw [IntKind.wrap_i64]; omega
    have hsl : ∀ W, (Instr.slice 9 (.string s) (some (.int .i64 (m : Nat))) none none).run Tryz.prog W = .ok (.string (s.extract (k + 1) s.size)) W := fun W => hm ▸ run_subT (by omega) W
    clear hm
    have HIB : Hid (∀ W, Calls Tryz.prog 238 #[.string (s.extract (k + 1) s.size), .int .u8 (c : Nat)] W fun e w' => e = .returned (.int .i64 (Lib.indexByte (s.extract (k + 1) s.size).data.toList (((c : Nat) : Int).toNat.toUInt8))) ∧ w' = W) := hide fun W => idxByte_any _ _ W
    rcases Lib.indexByte_piece s (k + 1) s.size (((c : Nat) : Int).toNat.toUInt8) with hib | ⟨o, hib, hol⟩
    · have HN := hide (idx_none hib)
      rw [hib] at HIB
      clear hib
      obtain ⟨x, hx⟩ : ∃ x, s.extract (k + 1) s.size = x := ⟨_, rfl⟩
      rw [hx] at HIB
      simp only [hx] at hsl
      clear hx
      go_wp2_with fail
      refine wp_scope_ahead 0 rfl ?_
      go_wp2_with fail
      go_quiet (fail)
      go_wp2_with fail
      go_quiet (first | (go_at_call 238; exact (unhide HIB _).mono (fun e w' ⟨he, hw⟩ => ⟨he, _, hw⟩)))
      go_wp2_with fail
      simp (config := { zetaDelta := true }) only [jump_ret, inBlock_ret, then_ret, Exit.noGoto_ret]
      go_ret
      refine ⟨-1, rfl, ⟨fun h => absurd h (by decide), fun ⟨m, hm⟩ => ?_⟩, by first | exact Below.drewN (Below.refl _ _) _ | exact Below.drewN (Below.drewN (Below.drewN (Below.refl _ _) _) _) _⟩
      by_cases hmk : m < k
      · exact absurd hm ((unhide HI).2 m hmk)
      · have hlast := hm.2.2 0 (Nat.zero_le _)
        rw [Nat.sub_zero, Nat.sub_zero, unhide HC] at hlast
        by_cases e : m = k
        · rw [e] at hlast; exact absurd hlast (unhide HNE)
        · exact absurd hlast (unhide HN m (by omega) hm.2.1)
    · have HN := hide (idx_some hc8 hol hib)
      rw [hib] at HIB
      clear hib
      obtain ⟨x, hx⟩ : ∃ x, s.extract (k + 1) s.size = x := ⟨_, rfl⟩
      rw [hx] at HIB
      simp only [hx] at hsl
      clear hx
      go_wp2_with fail
      refine wp_scope_ahead 0 rfl ?_
      go_wp2_with fail
      go_quiet (fail)
      go_wp2_with fail
      obtain ⟨K, hK⟩ : ∃ K, k + 1 + o = K := ⟨_, rfl⟩
      rw [hK] at hol HN
      have eK : (k : Int) + ((o : Int) + 1) = (K : Int) := by omega
      have hwK : IntKind.i64.wrap (K : Int) = (K : Int) := by rw [IntKind.wrap_i64]; omega
      have hkK : k < K := by omega
      have HIK : Hid (fl ≤ cnt s c K ∧ bt s K = c ∧ ∀ m, m < K → ¬ Mt s rs L m) := by
        refine hide ⟨?_, (unhide HN).1, fun m hm hM => ?_⟩
        · have h1 := cnt_mono s c k (K - k)
          rw [show k + (K - k) = K by omega] at h1
          have h2 := (unhide HI).1
          omega
        · by_cases hmk : m < k
          · exact (unhide HI).2 m hmk hM
          · have hlast := hM.2.2 0 (Nat.zero_le _)
            rw [Nat.sub_zero, Nat.sub_zero, unhide HC] at hlast
            by_cases e : m = k
            · rw [e] at hlast; exact absurd hlast (unhide HNE)
            · exact absurd hlast ((unhide HN).2 m (by omega) hm)
      clear hK
      go_quiet (first | (go_at_call 238; exact (unhide HIB _).mono (fun e w' ⟨he, hw⟩ => ⟨he, _, hw⟩)))
      go_wp2_with fail
      clear hi1 hi2 hsl em hne eK hwm
      have hKL : L ≤ K := by omega
      have hfK : fl ≤ K := by omega
      go_loopw [12] (fun u wr => ∃ (j : Nat), u = .int .i64 (j : Nat) ∧ (∃ q1, wr = w.drewN q1) ∧ 1 ≤ j ∧ j ≤ L + 1 ∧ Hid (∀ t, t < j → bt s (K - t) = bt rs (L - t))) (fun u _ => (L + 1 - (intOf u)).toNat)
      case atStart =>
        refine ⟨1, rfl, ?_, Nat.le_refl _, by omega, hide fun t ht => ?_⟩
        · first | exact ⟨_, rfl⟩ | (simp only [World.drewN_drewN]; exact ⟨_, rfl⟩)
        · obtain rfl : t = 0 := by omega
          rw [Nat.sub_zero, Nat.sub_zero, unhide HC]
          exact (unhide HIK).2.1
      case round =>
        obtain ⟨j, rfl, ⟨q1, rfl⟩, hj1, hjL, HJ⟩ := hrel
        by_cases hj : j < L + 1
        case neg =>
          have hji : ¬ (j : Int) < (rs.size : Int) := by have := unhide HL; omega
          go_wp2_with fail
          rw [Exit.noGoto_ret]
          go_ret
          refine ⟨(K : Int) - L, by go_num, ⟨fun _ => ⟨K, hKL, hol, fun t ht => unhide HJ t (by omega)⟩, fun _ => by omega⟩, Below.drewN (Below.refl _ _) _⟩
        have hji : (j : Int) < (rs.size : Int) := by have := unhide HL; omega
        obtain ⟨x, hx⟩ : ∃ x, K - j = x := ⟨_, rfl⟩
        obtain ⟨y, hy⟩ : ∃ y, L - j = y := ⟨_, rfl⟩
        have ex : (K : Int) - (j : Int) = (x : Int) := by omega
        have ey : (L : Int) - (j : Int) = (y : Int) := by omega
        have hwx : IntKind.i64.wrap (x : Int) = (x : Int) := by rw [IntKind.wrap_i64]; omega
        have hwy : IntKind.i64.wrap (y : Int) = (y : Int) := by rw [IntKind.wrap_i64]; omega
        have HX := hide hx
        have HY := hide hy
        have hiy : ∀ W, (Instr.index 9 (.string rs) (.int .i64 (y : Nat))).run Tryz.prog W = .ok (.int .u8 (bt rs y : Nat)) W := fun W => run_idx (by have := unhide HL; omega) W
        have hix : ∀ W, (Instr.index 9 (.string s) (.int .i64 (x : Nat))).run Tryz.prog W = .ok (.int .u8 (bt s x : Nat)) W := fun W => run_idx (by omega) W
        clear hx hy
        by_cases hxy : bt s x = bt rs y
        case pos =>
          have HXY := hide hxy
          rw [hxy] at hix
          clear hxy
          obtain ⟨b, hb⟩ : ∃ b, bt rs y = b := ⟨_, rfl⟩
          simp only [hb] at hix hiy
          clear hb
          go_wp2_with fail
          go_quiet (fail)
          go_wp2_with fail
          clear ex ey hwx hwy hix hiy
          go_roundw
          case rel =>
            refine ⟨j + 1, by go_num, ?_, by omega, by omega, hide fun t ht => ?_⟩
            · first | exact ⟨_, rfl⟩ | (simp only [World.drewN_drewN]; exact ⟨_, rfl⟩)
            · by_cases e : t = j
              · rw [e, unhide HX, unhide HY]; exact unhide HXY
              · exact unhide HJ t (by omega)
          case measure => simp [intOf]; omega
        have hxyi : ¬ ((bt s x : Nat) : Int) = ((bt rs y : Nat) : Int) := by omega
        obtain ⟨b, hb⟩ : ∃ b, bt rs y = b := ⟨_, rfl⟩
        obtain ⟨b2, hb2⟩ : ∃ b, bt s x = b := ⟨_, rfl⟩
        have HNO : Hid (¬ Mt s rs L K) := hide fun h => hxy (by rw [← unhide HX, ← unhide HY]; exact h.2.2 j (by omega))
        rw [hb, hb2] at hxyi
        simp only [hb, hb2] at hix hiy
        clear hb hb2 hxy
        have HCV := hide (fun W => cutover_any ((K : Int) + 1) (by omega) (by omega) W)
        have HNX : Hid (fl + 1 ≤ cnt s c (K + 1) ∧ ∀ m, m < K + 1 → ¬ Mt s rs L m) := by
          refine hide ⟨cnt_hit (Nat.le_refl _) (unhide HIK).2.1 (unhide HIK).1, fun m hm => ?_⟩
          by_cases e : m = K
          · rw [e]; exact unhide HNO
          · exact (unhide HIK).2.2 m (by omega)
        by_cases hend : K + 1 < s.size
        · have hei : (K : Int) + 1 < (s.size : Int) := by omega
          have hcv : ¬ ((K : Int) + 1 + 16) / 8 < (fl : Int) + 1 := by
            have h1 := unhide HCUT (K + 1) hend
            have h2 := (unhide HNX).1
            omega
          go_wp2_with fail
          go_quiet (fail)
          go_wp2_with fail
          refine wp_goto (And.intro rfl ?_)
          go_wp2_with (go_at_call 227; refine (unhide HCV _).mono ?_; rintro e w5 ⟨rfl, hw5⟩; rw [hw5]; clear hw5)
          all_goals first
            | exact ⟨⟨K + 1, fl + 1, _, by go_num, by go_num, rfl, by omega, by omega, by omega, HNX⟩, by simp [intOf]; omega⟩
            | (rw [Exit.noGoto_normal, inBlock_normal]; go_roundw; (case rel => exact ⟨K + 1, fl + 1, _, by go_num, by go_num, rfl, by omega, by omega, by omega, HNX⟩); (case measure => simp [intOf]; omega))
        · have hei : ¬ (K : Int) + 1 < (s.size : Int) := by omega
          by_cases hcv : ((K : Int) + 1 + 16) / 8 < (fl : Int) + 1
          · go_wp2_with fail
            go_quiet (fail)
            go_wp2_with fail
            refine wp_goto (And.intro rfl ?_)
            go_wp2_with (go_at_call 227; refine (unhide HCV _).mono ?_; rintro e w5 ⟨rfl, hw5⟩; rw [hw5]; clear hw5)
            rw [Exit.noGoto_normal, inBlock_normal]
            change _ ∧ _
            go_big_round
            all_goals exact ⟨⟨K + 1, fl + 1, _, by go_num, by go_num, rfl, by omega, by omega, by omega, HNX⟩, by simp [intOf]; omega⟩
          · go_wp2_with fail
            go_quiet (fail)
            go_wp2_with fail
            refine wp_goto (And.intro rfl ?_)
            go_wp2_with (go_at_call 227; refine (unhide HCV _).mono ?_; rintro e w5 ⟨rfl, hw5⟩; rw [hw5]; clear hw5)
            all_goals exact ⟨⟨K + 1, fl + 1, _, by go_num, by go_num, rfl, by omega, by omega, by omega, HNX⟩, by simp [intOf]; omega⟩

end Go.Proofs.YtinndpnilmmmjaaGreatDoor
namespace Go.Proofs.YtinndpnilmmmjaaGreatDoor
open Go.RowKit

theorem extra_builder : Builder.Extra Tryz.prog Tryz.replaceS_ren where
  sizeBuilder := by kernel_rfl
  liesBuilder := by kernel_rfl
  t5 := Tryz.underlying5
  a5 := Tryz.isAgg5
  z5 := Tryz.sizeOf5
  v5 := Tryz.zeroValue5
  infoByte := by kernel_rfl
  cellsByte := by kernel_rfl
  sizeByte := by kernel_rfl
  neB5 := by decide

/-- Block b, from B on, holds a Builder with these bytes. -/
def IsB (w : World) (B b : Nat) (l : List UInt8) : Prop := Lib.IsBuilderF (Tryz.replaceS_ren.t 72) (Tryz.replaceS_ren.t 5) B b (Lib.byteCells l) w

theorem bwrite_any (B b : Nat) (l : List UInt8) (s : ByteArray) (w : World) (h : IsB w B b l) (hlen : l.length + s.size ≤ 17592186044416) (hBw : B ≤ w.heap.size) :
    Calls Tryz.prog 37 #[.pointer (some ⟨b, 0, none⟩), .string s] w fun e w' => e = .returned (.tuple #[.int .i64 s.size, .nilIface]) ∧ IsB w' B b (l ++ s.data.toList) ∧ Below B w w' := by
  refine (Any.Builder_WriteString_f { Tryz.replaceS with } extra_builder B b (Lib.byteCells l) s w h (by simp [Lib.byteCells]; omega) hBw).mono ?_
  rintro e w' ⟨rfl, h1, h2⟩
  refine ⟨rfl, Or.inr ?_, h2⟩
  have e : Lib.byteCells l ++ Lib.strCells s = Lib.byteCells (l ++ s.data.toList) := by simp [Lib.byteCells, Lib.strCells]
  rw [← e]
  exact h1

theorem bstring_any (B b : Nat) (l : List UInt8) (w : World) (h : IsB w B b l) (hBw : B ≤ w.heap.size) :
    Calls Tryz.prog 40 #[.pointer (some ⟨b, 0, none⟩)] w fun e w' => e = .returned (.string ⟨l.toArray⟩) ∧ IsB w' B b l ∧ Below B w w' :=
  Any.Builder_String_any_f { Tryz.replaceS with } extra_builder B b l w h hBw

end Go.Proofs.YtinndpnilmmmjaaGreatDoor
namespace Go.Proofs.YtinndpnilmmmjaaGreatDoor
open Go.RowKit

theorem IsB.below {w w' : World} {B b : Nat} {l : List UInt8} (h : IsB w B b l) (hb : Below w.heap.size w w') : IsB w' B b l := by
  have one : ∀ {p : Value}, Lib.BuilderAtF (Tryz.replaceS_ren.t 72) (Tryz.replaceS_ren.t 5) B b p (Lib.byteCells l) w → Lib.BuilderAtF (Tryz.replaceS_ren.t 72) (Tryz.replaceS_ren.t 5) B b p (Lib.byteCells l) w' := by
    rintro p ⟨h1, v, h2, ⟨h3, h4⟩, h5⟩
    refine ⟨h1, v, (hb.block b (lt_of_block h2)).trans h2, ⟨h3, ?_⟩, h5⟩
    rcases h4 with h4 | ⟨g, cap, cur, fz, e1, e2, e3, e4⟩
    · exact Or.inl h4
    · exact Or.inr ⟨g, cap, cur, fz, e1, e2, (hb.block g (lt_of_block e3)).trans e3, e4⟩
  rcases h with h | h
  · exact Or.inl (one h)
  · exact Or.inr (one h)

theorem TBox.under {w w' : World} {p B : Nat} {v0 v1 v2 v3 : Value} (h : TBox w p v0 v1 v2 v3) (hp : p < B) (hb : Below B w w') : TBox w' p v0 v1 v2 v3 := (hb.block p hp).trans h

/-- What readText gives, of how a text is read. -/
def textV : Option (Nat × List UInt8) → Value
  | none => readV 0 0 ⟨#[]⟩ 0 1
  | some (e, out) => if Lib.validD out = true then readV 2 0 ⟨out.toArray⟩ e 0 else readV 0 0 ⟨#[]⟩ 0 1

def strSize : Value → Nat
  | .string x => x.size
  | _ => 0

theorem inEnd_le {s : ByteArray} {p : Nat} (h : p ≤ s.size) : p ≤ inEnd s p ∧ inEnd s p ≤ s.size := by
  have h1 : stretchN isIn (s.extract p s.size) ≤ (s.extract p s.size).size := strTo_le _ _
  rw [tail_size] at h1
  unfold inEnd
  omega

theorem head_tail {s : ByteArray} {p c : Nat} : (s.extract p s.size).extract 0 c = s.extract p (p + c) := by
  refine ByteArray.ext (Array.toList_inj.1 ?_)
  rw [take_data, tail_list, sub_list, Nat.add_sub_cancel_left]

set_option maxRecDepth 20000 in
set_option maxHeartbeats 4000000 in
theorem readText_any (t : ByteArray) (w : World) (h1 : 1 ≤ t.size) (hs : t.size ≤ 1000000000000) (hT : TabsAt w) :
    Calls Tryz.prog 153 #[.string t] w fun e w' => e = .returned (textV (textR t (t.size + 1) 1 [])) ∧ Below w.heap.size w w' := by
  obtain ⟨R, hR⟩ : ∃ R, textR t (t.size + 1) 1 [] = R := ⟨_, rfl⟩
  rw [hR]
  have HR := hide hR
  clear hR
  obtain ⟨Q, hQ⟩ : ∃ Q, Q = (w.alloc (.cells #[.int .i64 0, .int .i64 0, .string ⟨#[]⟩, .int .i64 0] 64)).alloc (.cells #[.pointer none, .slice none 0 0] 62) := ⟨_, rfl⟩
  have HQ := hide hQ
  have HX0 : Hid (TBox Q w.heap.size (.int .i64 0) (.int .i64 0) (.string ⟨#[]⟩) (.int .i64 0)) := by rw [hQ]; exact (TBox.new w _ _ _ _).below (Nat.le_refl _) ((Below.refl _ _).alloc (Nat.le_refl _) _)
  have HB0 : Hid (Below w.heap.size w Q) := by rw [hQ]; exact ((Below.refl _ _).alloc (Nat.le_refl _) _).alloc (by simp) _
  have HI0 : Hid (IsB Q (w.heap.size + 1) (w.heap.size + 1) []) := by
    rw [hQ]
    have := Lib.IsBuilderF.of (Lib.fresh_isBuilder (Tryz.replaceS_ren.t 72) (Tryz.replaceS_ren.t 5) (w.alloc (.cells #[.int .i64 0, .int .i64 0, .string ⟨#[]⟩, .int .i64 0] 64)))
    rw [show (w.alloc (.cells #[.int .i64 0, .int .i64 0, .string ⟨#[]⟩, .int .i64 0] 64)).heap.size = w.heap.size + 1 by simp] at this
    exact this
  have HS0 : Hid (w.heap.size + 1 ≤ Q.heap.size) := by rw [hQ]; show _ ≤ _; simp
  clear hQ
  have HTB := hide hT
  clear hT
  have hs1 : ∀ W, (Instr.slice 9 (.string t) (some (.int .i64 1)) none none).run Tryz.prog W = .ok (.string (t.extract 1 t.size)) W := fun W => run_sub1 (s := t) (q := 1) h1 W
  go_enter Tryz.func153, Tryz.ntmps153
  go_wp2_with fail
  rw [← unhide HQ]
  go_loopw [6] (fun a w' => ∃ (p F : Nat) (out : List UInt8), a = .string (t.extract p t.size) ∧ p ≤ t.size ∧ t.size - p < F ∧ out.length ≤ p ∧ Hid (textR t F p out = R) ∧ Hid (TBox w' w.heap.size (.int .i64 0) (.int .i64 0) (.string ⟨#[]⟩) (.int .i64 0)) ∧ Hid (Below w.heap.size w w') ∧ Hid (IsB w' (w.heap.size + 1) (w.heap.size + 1) out) ∧ w.heap.size + 1 ≤ w'.heap.size) (fun a _ => strSize a)
  case atStart => exact ⟨1, t.size + 1, [], rfl, h1, by omega, by simp, HR, HX0, HB0, HI0, unhide HS0⟩
  case round =>
    obtain ⟨p, F, out, rfl, hp, hF, ho, HK, HX, HB, HI, hsz⟩ := hrel
    obtain ⟨F', rfl⟩ : ∃ f, F = f + 1 := ⟨F - 1, by omega⟩
    obtain ⟨q, hq⟩ : ∃ q, inEnd t p = q := ⟨_, rfl⟩
    obtain ⟨hpq, hqs⟩ := inEnd_le hp
    rw [hq] at hpq hqs
    have hc : stretchN isIn (t.extract p t.size) = q - p := by rw [← hq]; unfold inEnd; omega
    have HST := hide (fun W => stretch_any 186 eg_in isIn (fun v W => implWithin_any v W) (t.extract p t.size) W (by rw [tail_size]; omega))
    rw [hc] at HST
    have hts : (t.extract p t.size).size = t.size - p := tail_size t p
    have hsl := fun W => run_sub0 (s := t.extract p t.size) (q := q - p) (by omega) W
    have hsr := fun W => run_sub1 (s := t.extract p t.size) (q := q - p) (by omega) W
    rw [head_tail, show p + (q - p) = q by omega] at hsl
    rw [tail_tail, show p + (q - p) = q by omega] at hsr
    have HK2 : Hid ((if quote1 t q = true then (if quote1 t (q + 1) = true then textR t F' (q + 2) (out ++ (t.extract p q).data.toList ++ [39]) else some (q + 1, out ++ (t.extract p q).data.toList)) else none) = R) := by
      have := unhide HK
      rw [textR, hq] at this
      exact this
    have hxs : (t.extract p q).size = q - p := by rw [Lib.size_eq, sub_list, List.length_take, List.length_drop, ← Lib.size_eq]; omega
    have HC1 := hide (fun W => cutPre_at t q hqs W)
    obtain ⟨c, hcc⟩ : ∃ c, q - p = c := ⟨_, rfl⟩
    rw [hcc] at HST hsl hsr hxs
    obtain ⟨x, hx⟩ : ∃ x, t.extract p q = x := ⟨_, rfl⟩
    rw [hx] at hsl HK2 hxs
    clear HK hq hc hx
    cases h1q : quote1 t q with
    | false =>
      rw [h1q] at HC1 HK2
      rw [if_neg (by decide)] at HK2 HC1
      go_wp2_with (first | (go_at_call 183; refine (unhide HST _).mono ?_; rintro e w5 ⟨rfl, hb5⟩; have HB5 := hide ((unhide HB).trans (hb5.mono (unhide HB).size)); have HX5 := hide ((unhide HX).below (Nat.le_refl _) hb5); have HI5 := hide ((unhide HI).below hb5); have hz5 := Nat.le_trans hsz hb5.size; clear hb5) | (go_at_call 37; refine (bwrite_any _ _ out x _ (unhide HI5) (by omega) hz5).mono ?_; rintro e w6 ⟨rfl, hi6, hb6⟩; have HI6 := hide hi6; have HB6 := hide ((unhide HB5).trans (hb6.mono (Nat.le_succ _))); have HX6 := hide ((unhide HX5).under (Nat.lt_succ_self _) hb6); have hz6 := Nat.le_trans hz5 hb6.size; obtain ⟨q0, q1, q2, q3, f0, f1, f2, f3⟩ := (unhide HX6).all; clear hb6 hi6) | (go_at_call 187; refine (unhide HC1 _).mono ?_; rintro e w1 ⟨rfl, hw⟩; obtain rfl := hw.symm; have HM := hide True.intro))
      refine bodyPost_ret (v := readV 0 0 ⟨#[]⟩ 0 1) (by simp [results, Tryz.results153, go_sem, q0, q1, q2, q3, readV]) rfl ?_
      refine ⟨?_, (((((unhide HB6).setCell (Nat.le_refl _) _).setCell (Nat.le_refl _) _).setCell (Nat.le_refl _) _).setCell (Nat.le_refl _) _)⟩
      rw [← unhide HK2]; rfl
    | true =>
      rw [h1q] at HC1 HK2
      rw [if_pos rfl] at HK2 HC1
      have hq1 : q + 1 ≤ t.size := (of_decide_eq_true h1q).1
      have HC2 := hide (fun W => cutPre_at t (q + 1) hq1 W)
      cases h2q : quote1 t (q + 1) with
      | true =>
        rw [h2q] at HC2 HK2
        rw [if_pos rfl] at HK2 HC2
        have hq2 : q + 1 + 1 ≤ t.size := (of_decide_eq_true h2q).1
        go_wp2_with (first | (go_at_call 183; refine (unhide HST _).mono ?_; rintro e w5 ⟨rfl, hb5⟩; have HB5 := hide ((unhide HB).trans (hb5.mono (unhide HB).size)); have HX5 := hide ((unhide HX).below (Nat.le_refl _) hb5); have HI5 := hide ((unhide HI).below hb5); have hz5 := Nat.le_trans hsz hb5.size; clear hb5) | (have hm := HM; clear hm; go_at_call 37; refine (bwrite_any _ _ (out ++ x.data.toList) ⟨#[39]⟩ _ (unhide HI6) (by rw [List.length_append, ← Lib.size_eq]; show _ + 1 ≤ _; omega) hz6).mono ?_; rintro e w7 ⟨rfl, hi7, hb7⟩; have HI7 := hide hi7; have HB7 := hide ((unhide HB6).trans (hb7.mono (Nat.le_succ _))); have HX7 := hide ((unhide HX6).under (Nat.lt_succ_self _) hb7); have hz7 := Nat.le_trans hz6 hb7.size; clear hb7 hi7) | (go_at_call 37; refine (bwrite_any _ _ out x _ (unhide HI5) (by omega) hz5).mono ?_; rintro e w6 ⟨rfl, hi6, hb6⟩; have HI6 := hide hi6; have HB6 := hide ((unhide HB5).trans (hb6.mono (Nat.le_succ _))); have HX6 := hide ((unhide HX5).under (Nat.lt_succ_self _) hb6); have hz6 := Nat.le_trans hz5 hb6.size; clear hb6 hi6) | (have hm := HM; clear hm; go_at_call 187; refine (unhide HC2 _).mono ?_; rintro e w1 ⟨rfl, hw⟩; obtain rfl := hw.symm) | (go_at_call 187; refine (unhide HC1 _).mono ?_; rintro e w1 ⟨rfl, hw⟩; obtain rfl := hw.symm; have HM := hide True.intro))
        go_roundw
        case rel => exact ⟨q + 2, F', _, rfl, by omega, by omega, by rw [List.length_append, List.length_append, ← Lib.size_eq]; show _ + 1 ≤ _; omega, HK2, HX7, HB7, HI7, hz7⟩
        case measure => show (t.extract (q + 1 + 1) t.size).size < (t.extract p t.size).size; rw [tail_size, tail_size]; omega
      | false =>
        rw [h2q] at HC2 HK2
        rw [if_neg (by decide)] at HK2 HC2
        have hrs : (t.extract (q + 1) t.size).size = t.size - (q + 1) := tail_size t (q + 1)
        have HV := hide (fun W (hb : Below w.heap.size w W) => valid_any ⟨(out ++ x.data.toList).toArray⟩ (by rw [Lib.size_eq]; simp only [List.length_append, ← Lib.size_eq]; omega) W ((unhide HTB).below hb))
        have HE : Hid (textV R = if Lib.validD (out ++ x.data.toList) = true then readV 2 0 ⟨(out ++ x.data.toList).toArray⟩ (q + 1) 0 else readV 0 0 ⟨#[]⟩ 0 1) := by rw [← unhide HK2]; exact hide rfl
        cases hv : Lib.validD (out ++ x.data.toList) with
        | true =>
          have HV2 : Hid (∀ W, Below w.heap.size w W → Calls Tryz.prog 188 #[.string ⟨(out ++ x.data.toList).toArray⟩] W fun e w' => e = .returned (.bool true) ∧ Below W.heap.size W w') := by rw [← hv]; exact HV
          rw [hv, if_pos rfl] at HE
          clear hv HV
          go_wp2_with (first | (go_at_call 183; refine (unhide HST _).mono ?_; rintro e w5 ⟨rfl, hb5⟩; have HB5 := hide ((unhide HB).trans (hb5.mono (unhide HB).size)); have HX5 := hide ((unhide HX).below (Nat.le_refl _) hb5); have HI5 := hide ((unhide HI).below hb5); have hz5 := Nat.le_trans hsz hb5.size; clear hb5) | (go_at_call 37; refine (bwrite_any _ _ out x _ (unhide HI5) (by omega) hz5).mono ?_; rintro e w6 ⟨rfl, hi6, hb6⟩; have HI6 := hide hi6; have HB6 := hide ((unhide HB5).trans (hb6.mono (Nat.le_succ _))); have HX6 := hide ((unhide HX5).under (Nat.lt_succ_self _) hb6); have hz6 := Nat.le_trans hz5 hb6.size; clear hb6 hi6) | (have hm := HM; clear hm; go_at_call 187; refine (unhide HC2 _).mono ?_; rintro e w1 ⟨rfl, hw⟩; obtain rfl := hw.symm) | (go_at_call 187; refine (unhide HC1 _).mono ?_; rintro e w1 ⟨rfl, hw⟩; obtain rfl := hw.symm; have HM := hide True.intro) | (have hm := HI8; clear hm; go_at_call 40; refine (bstring_any _ _ (out ++ x.data.toList) _ (unhide HI8) hz8).mono ?_; rintro e w9 ⟨rfl, hi9, hb9⟩; have HB9 := hide ((unhide HB8).trans (hb9.mono (Nat.le_succ _))); obtain ⟨q0, q1, q2, q3, f0, f1, f2, f3⟩ := ((unhide HX8).under (Nat.lt_succ_self _) hb9).all; clear hb9 hi9) | (go_at_call 40; refine (bstring_any _ _ (out ++ x.data.toList) _ (unhide HI6) hz6).mono ?_; rintro e w7 ⟨rfl, hi7, hb7⟩; have HI7 := hide hi7; have HB7 := hide ((unhide HB6).trans (hb7.mono (Nat.le_succ _))); have HX7 := hide ((unhide HX6).under (Nat.lt_succ_self _) hb7); have hz7 := Nat.le_trans hz6 hb7.size; clear hb7 hi7) | (go_at_call 188; refine (unhide HV2 _ (unhide HB7)).mono ?_; rintro e w8 ⟨rfl, hb8⟩; have HB8 := hide ((unhide HB7).trans (hb8.mono (unhide HB7).size)); have HX8 := hide ((unhide HX7).below (Nat.le_refl _) hb8); have HI8 := hide ((unhide HI7).below hb8); have hz8 := Nat.le_trans hz7 hb8.size; clear hb8))
          refine bodyPost_ret (v := readV 2 0 ⟨(out ++ x.data.toList).toArray⟩ (q + 1) 0) (by simp [results, Tryz.results153, go_sem, q0, q1, q2, q3, readV]; omega) rfl ?_
          refine ⟨?_, (((((unhide HB9).setCell (Nat.le_refl _) _).setCell (Nat.le_refl _) _).setCell (Nat.le_refl _) _).setCell (Nat.le_refl _) _)⟩
          exact congrArg Ending.returned (unhide HE).symm
        | false =>
          have HV2 : Hid (∀ W, Below w.heap.size w W → Calls Tryz.prog 188 #[.string ⟨(out ++ x.data.toList).toArray⟩] W fun e w' => e = .returned (.bool false) ∧ Below W.heap.size W w') := by rw [← hv]; exact HV
          rw [hv, if_neg (by decide)] at HE
          clear hv HV
          go_wp2_with (first | (go_at_call 183; refine (unhide HST _).mono ?_; rintro e w5 ⟨rfl, hb5⟩; have HB5 := hide ((unhide HB).trans (hb5.mono (unhide HB).size)); have HX5 := hide ((unhide HX).below (Nat.le_refl _) hb5); have HI5 := hide ((unhide HI).below hb5); have hz5 := Nat.le_trans hsz hb5.size; clear hb5) | (go_at_call 37; refine (bwrite_any _ _ out x _ (unhide HI5) (by omega) hz5).mono ?_; rintro e w6 ⟨rfl, hi6, hb6⟩; have HI6 := hide hi6; have HB6 := hide ((unhide HB5).trans (hb6.mono (Nat.le_succ _))); have HX6 := hide ((unhide HX5).under (Nat.lt_succ_self _) hb6); have hz6 := Nat.le_trans hz5 hb6.size; clear hb6 hi6) | (have hm := HM; clear hm; go_at_call 187; refine (unhide HC2 _).mono ?_; rintro e w1 ⟨rfl, hw⟩; obtain rfl := hw.symm) | (go_at_call 187; refine (unhide HC1 _).mono ?_; rintro e w1 ⟨rfl, hw⟩; obtain rfl := hw.symm; have HM := hide True.intro) | (go_at_call 40; refine (bstring_any _ _ (out ++ x.data.toList) _ (unhide HI6) hz6).mono ?_; rintro e w7 ⟨rfl, hi7, hb7⟩; have HI7 := hide hi7; have HB7 := hide ((unhide HB6).trans (hb7.mono (Nat.le_succ _))); have HX7 := hide ((unhide HX6).under (Nat.lt_succ_self _) hb7); have hz7 := Nat.le_trans hz6 hb7.size; clear hb7 hi7) | (go_at_call 188; refine (unhide HV2 _ (unhide HB7)).mono ?_; rintro e w8 ⟨rfl, hb8⟩; have HB8 := hide ((unhide HB7).trans (hb8.mono (unhide HB7).size)); have HX8 := hide ((unhide HX7).below (Nat.le_refl _) hb8); have HI8 := hide ((unhide HI7).below hb8); have hz8 := Nat.le_trans hz7 hb8.size; clear hb8; obtain ⟨q0, q1, q2, q3, f0, f1, f2, f3⟩ := (unhide HX8).all))
          refine bodyPost_ret (v := readV 0 0 ⟨#[]⟩ 0 1) (by simp [results, Tryz.results153, go_sem, q0, q1, q2, q3, readV]) rfl ?_
          refine ⟨?_, (((((unhide HB8).setCell (Nat.le_refl _) _).setCell (Nat.le_refl _) _).setCell (Nat.le_refl _) _).setCell (Nat.le_refl _) _)⟩
          exact congrArg Ending.returned (unhide HE).symm

end Go.Proofs.YtinndpnilmmmjaaGreatDoor
