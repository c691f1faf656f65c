import Derived.Test.YtgjpchnkodnieaaGreatDoorImplTwoC
namespace Go.Proofs.YtgjpchnkodnieaaGreatDoor
open Go.RowKit Go.Shelf

set_option maxHeartbeats 2000000 in
theorem power_loop (a b : Int) (n : Nat) (ga gb : Addr) (w : World) (hG : Gl w ga gb) (ha : -1000000000000000 ≤ a ∧ a ≤ 1000000000000000) (hb0 : 0 ≤ b) (hb : b ≤ 1000000000000000) (hP : PowLoop a b n)
    (hcase : (¬ (withinB a (-1) 1 = true ∧ 2 < b) ∧ b = (n : Int)) ∨ (withinB a (-1) 1 = true ∧ 2 < b ∧ 2 - b.tmod 2 = (n : Int))) :
    Calls Tryz.prog 247 #[.int .i64 a, .int .i64 b] w (GivesEl ga gb (twoOf 8 a b) w) := by
  have HG := hide hG
  have HA := hide ha
  have HP := hide hP
  have HB0 := hide hb0
  have hnn := neq_nil_nil
  clear hG hP
  obtain ⟨wi, hwi⟩ : ∃ wi, withinB a (-1) 1 = wi := ⟨_, rfl⟩
  rw [hwi] at hcase
  have HW := hide hwi
  clear hwi
  have hmb : 0 ≤ b.tmod 2 ∧ b.tmod 2 ≤ 1 := by rw [Int.tmod_eq_emod_of_nonneg (by omega)]; omega
  obtain ⟨m, hm⟩ : ∃ m, b.tmod 2 = m := ⟨_, rfl⟩
  rw [hm] at hcase hmb
  obtain ⟨hm1, hm2⟩ := hmb
  have hn16 : (n : Int) ≤ 1000000000000000 := by rcases hcase with h | h <;> omega
  rcases hcase with ⟨h1, h2⟩ | ⟨h1, h2, h3⟩
  · subst h2
    cases wi with
    | false =>
      go_enter Tryz.func247, Tryz.ntmps247
      go_wp2_with (go_at_call 50; refine (isWithin_eq _ _ _ _ _ HW).mono ?_; rintro e w ⟨rfl, rfl⟩)
      go_loopw [6, 7, 21] (fun v _ i wr => ∃ (k : Nat) (x : Int) (q : Nat), k ≤ n ∧ i = .int .i64 k ∧ v = .int .i64 x ∧ Hid (a ^ k = x) ∧ Hid (inM x = true) ∧ wr = w.drewN q) (fun _ _ i _ => n - (intOf i).toNat)
      case atStart => exact ⟨0, 1, 0, Nat.zero_le _, rfl, rfl, hide (by simp), hide rfl, rfl⟩
      case round =>
        obtain ⟨k, x, q, hk, rfl, rfl, hx, hin, rfl⟩ := hrel
        have hxb := inM_bd (unhide hin)
        by_cases hlt : k < n
        · have hps : a ^ (k + 1) = x * a := by rw [Int.pow_succ, unhide hx]
          by_cases hbig : inM (x * a) = true
          · obtain ⟨y, hy⟩ : ∃ y, x * a = y := ⟨_, rfl⟩
            have HT := hide (times3_ok hy (by rw [← hy]; exact hbig))
            rw [hy] at hps hbig
            have HPS := hide hps
            have HIN := hide hbig
            clear hy hbig hps
            go_wp2_with (go_at_call 241; refine (opMul_eq _ _ ga gb _ ((unhide HG).drewN _) hxb (unhide HA) _ _ HT).mono ?_; rintro e w1 ⟨rfl, q', rfl⟩; simp only [errV_0])
            go_roundw
            case rel => exact ⟨k + 1, y, _, by omega, by go_num, rfl, HPS, HIN, rfl⟩
            case measure => simp [intOf]; omega
          · have hb' : inM (x * a) = false := by simpa using hbig
            have HT := hide (times3_big hb')
            have HE := hide (pow8_big (unhide HB0) (pow_stays (unhide HP) hlt (by rw [hps]; exact hb')))
            clear hbig hb' hps
            go_wp2_with (go_at_call 241; refine (opMul_eq _ _ ga gb _ ((unhide HG).drewN _) hxb (unhide HA) _ _ HT).mono ?_; rintro e w1 ⟨rfl, q', rfl⟩; simp only [errV_7])
            go_ret2
            exact gives_el (c := 7) HE.out rfl
        · have hkn : k = n := by omega
          subst hkn
          have HE := hide (pow8_ok (unhide HB0) (unhide HP) (unhide hx) (unhide hin))
          go_wp2
          go_ret2
          exact gives_el (c := 0) HE.out rfl
    | true =>
      have h3 : ¬ 2 < (n : Int) := fun h => h1 ⟨rfl, h⟩
      clear h1
      go_enter Tryz.func247, Tryz.ntmps247
      go_wp2_with (go_at_call 50; refine (isWithin_eq _ _ _ _ _ HW).mono ?_; rintro e w ⟨rfl, rfl⟩)
      go_loopw [6, 7, 21] (fun v _ i wr => ∃ (k : Nat) (x : Int) (q : Nat), k ≤ n ∧ i = .int .i64 k ∧ v = .int .i64 x ∧ Hid (a ^ k = x) ∧ Hid (inM x = true) ∧ wr = w.drewN q) (fun _ _ i _ => n - (intOf i).toNat)
      case atStart => exact ⟨0, 1, 0, Nat.zero_le _, rfl, rfl, hide (by simp), hide rfl, rfl⟩
      case round =>
        obtain ⟨k, x, q, hk, rfl, rfl, hx, hin, rfl⟩ := hrel
        have hxb := inM_bd (unhide hin)
        by_cases hlt : k < n
        · have hps : a ^ (k + 1) = x * a := by rw [Int.pow_succ, unhide hx]
          by_cases hbig : inM (x * a) = true
          · obtain ⟨y, hy⟩ : ∃ y, x * a = y := ⟨_, rfl⟩
            have HT := hide (times3_ok hy (by rw [← hy]; exact hbig))
            rw [hy] at hps hbig
            have HPS := hide hps
            have HIN := hide hbig
            clear hy hbig hps
            go_wp2_with (go_at_call 241; refine (opMul_eq _ _ ga gb _ ((unhide HG).drewN _) hxb (unhide HA) _ _ HT).mono ?_; rintro e w1 ⟨rfl, q', rfl⟩; simp only [errV_0])
            go_roundw
            case rel => exact ⟨k + 1, y, _, by omega, by go_num, rfl, HPS, HIN, rfl⟩
            case measure => simp [intOf]; omega
          · have hb' : inM (x * a) = false := by simpa using hbig
            have HT := hide (times3_big hb')
            have HE := hide (pow8_big (unhide HB0) (pow_stays (unhide HP) hlt (by rw [hps]; exact hb')))
            clear hbig hb' hps
            go_wp2_with (go_at_call 241; refine (opMul_eq _ _ ga gb _ ((unhide HG).drewN _) hxb (unhide HA) _ _ HT).mono ?_; rintro e w1 ⟨rfl, q', rfl⟩; simp only [errV_7])
            go_ret2
            exact gives_el (c := 7) HE.out rfl
        · have hkn : k = n := by omega
          subst hkn
          have HE := hide (pow8_ok (unhide HB0) (unhide HP) (unhide hx) (unhide hin))
          go_wp2
          go_ret2
          exact gives_el (c := 0) HE.out rfl
  · subst h1
    go_enter Tryz.func247, Tryz.ntmps247
    go_wp2_with (go_at_call 50; refine (isWithin_eq _ _ _ _ _ HW).mono ?_; rintro e w ⟨rfl, rfl⟩)
    go_loopw [6, 7, 21] (fun v _ i wr => ∃ (k : Nat) (x : Int) (q : Nat), k ≤ n ∧ i = .int .i64 k ∧ v = .int .i64 x ∧ Hid (a ^ k = x) ∧ Hid (inM x = true) ∧ wr = w.drewN q) (fun _ _ i _ => n - (intOf i).toNat)
    case atStart => exact ⟨0, 1, 0, Nat.zero_le _, rfl, rfl, hide (by simp), hide rfl, rfl⟩
    case round =>
      obtain ⟨k, x, q, hk, rfl, rfl, hx, hin, rfl⟩ := hrel
      have hxb := inM_bd (unhide hin)
      by_cases hlt : k < n
      · have hps : a ^ (k + 1) = x * a := by rw [Int.pow_succ, unhide hx]
        by_cases hbig : inM (x * a) = true
        · obtain ⟨y, hy⟩ : ∃ y, x * a = y := ⟨_, rfl⟩
          have HT := hide (times3_ok hy (by rw [← hy]; exact hbig))
          rw [hy] at hps hbig
          have HPS := hide hps
          have HIN := hide hbig
          clear hy hbig hps
          go_wp2_with (go_at_call 241; refine (opMul_eq _ _ ga gb _ ((unhide HG).drewN _) hxb (unhide HA) _ _ HT).mono ?_; rintro e w1 ⟨rfl, q', rfl⟩; simp only [errV_0])
          go_roundw
          case rel => exact ⟨k + 1, y, _, by omega, by go_num, rfl, HPS, HIN, rfl⟩
          case measure => simp [intOf]; omega
        · have hb' : inM (x * a) = false := by simpa using hbig
          have HT := hide (times3_big hb')
          have HE := hide (pow8_big (unhide HB0) (pow_stays (unhide HP) hlt (by rw [hps]; exact hb')))
          clear hbig hb' hps
          go_wp2_with (go_at_call 241; refine (opMul_eq _ _ ga gb _ ((unhide HG).drewN _) hxb (unhide HA) _ _ HT).mono ?_; rintro e w1 ⟨rfl, q', rfl⟩; simp only [errV_7])
          go_ret2
          exact gives_el (c := 7) HE.out rfl
      · have hkn : k = n := by omega
        subst hkn
        have HE := hide (pow8_ok (unhide HB0) (unhide HP) (unhide hx) (unhide hin))
        go_wp2
        go_ret2
        exact gives_el (c := 0) HE.out rfl

set_option maxHeartbeats 400000 in
theorem opPow (a b : Int) (ga gb : Addr) (w : World) (hG : Gl w ga gb) (ha : -1000000000000000 ≤ a ∧ a ≤ 1000000000000000) (hb : -1000000000000000 ≤ b ∧ b ≤ 1000000000000000) : Calls Tryz.prog 247 #[.int .i64 a, .int .i64 b] w (GivesEl ga gb (twoOf 8 a b) w) := by
  by_cases h0 : b < 0
  · have hc := hG.no
    have HE : Hid (twoOf 8 a b = (0, 3)) := by
      show _ = _
      have e : twoOf 8 a b = (if b < 0 then (0, 3) else limited (powOf a b)) := rfl
      rw [e, if_pos h0]
    clear hG ha hb
    go_enter Tryz.func247, Tryz.ntmps247
    go_wp2
    go_quiet (fail)
    go_wp2
    go_ret2
    exact gives_el (c := 3) HE.out rfl
  · by_cases hs : withinB a (-1) 1 = true ∧ 2 < b
    · have hm : 0 ≤ b.tmod 2 ∧ b.tmod 2 ≤ 1 := by rw [Int.tmod_eq_emod_of_nonneg (by omega)]; omega
      have hn : 2 - b.tmod 2 = ((2 - b.tmod 2).toNat : Int) := by omega
      have ha' := of_decide_eq_true hs.1
      exact power_loop a b _ ga gb w hG ha (by omega) hb.2 (powLoop_small (by omega) hs.2 hn) (.inr ⟨hs.1, hs.2, hn⟩)
    · have hn : b = (b.toNat : Int) := by omega
      exact power_loop a b _ ga gb w hG ha (by omega) hb.2 (powLoop_plain hn) (.inl ⟨hs, hn⟩)

end Go.Proofs.YtgjpchnkodnieaaGreatDoor
