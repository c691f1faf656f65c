import Derived.Test.YtkgcmpmgaghdhaaGreatDoorImplElD
import Derived.Test.YtkgcmpmgaghdhaaGreatDoorGlobD
namespace Go.Proofs.YtkgcmpmgaghdhaaGreatDoor
open Go.RowKit Go.Shelf

set_option maxHeartbeats 400000 in
theorem limitedD_any (v : Int) (ga gb : Addr) (w : World) (hG : GlD w ga gb) : Calls Tryz.prog 135 #[.int .i64 v] w (GivesElD ga gb (limited (v, true)) w) := by
  have hc := hG.big
  clear hG
  by_cases h : inM v = true
  · have HE := hide (limD_ok h)
    have HT := hide h
    clear h
    go_enter Tryz.func135, Tryz.ntmps135
    go_wp2_with (go_at_call 142; refine (isNumber_eqD _ _ _ HT).mono ?_; rintro e w' ⟨rfl, rfl⟩)
    go_ret2
    exact gives_elD (c := 0) (q := 0) HE.out rfl
  · have h' : inM v = false := by simpa using h
    have HE := hide (limD_no h')
    have HT := hide h'
    clear h h'
    go_enter Tryz.func135, Tryz.ntmps135
    go_wp2_with (go_at_call 142; refine (isNumber_eqD _ _ _ HT).mono ?_; rintro e w' ⟨rfl, rfl⟩)
    go_quiet (fail)
    go_wp2
    go_ret2
    exact gives_elD (c := 7) HE.out rfl

set_option maxHeartbeats 1000000 in
theorem opMulD (a b : Int) (ga gb : Addr) (w : World) (hG : GlD w ga gb) (ha : -1000000000000000 ≤ a ∧ a ≤ 1000000000000000) (hb : -1000000000000000 ≤ b ∧ b ≤ 1000000000000000) : Calls Tryz.prog 134 #[.int .i64 a, .int .i64 b] w (GivesElD ga gb (twoOf 3 a b) w) := by
  have hc := hG.big
  clear hG
  have HA := hide ha
  have HB := hide hb
  obtain ⟨ha1, ha2⟩ := ha
  obtain ⟨hb1, hb2⟩ := hb
  by_cases h0 : a = 0
  · subst h0
    have HE : Hid (twoOf 3 0 b = (0, 0)) := by show _ = _; simp [twoOf, timesOf, inM, limited]
    go_enter Tryz.func134, Tryz.ntmps134
    go_wp2
    go_ret2
    exact gives_elD (c := 0) (q := 0) HE.out rfl
  have q0 : (a != 0) = true := by simp [h0]
  obtain ⟨x, hx⟩ : ∃ x, (if b < 0 then -b else b) = x := ⟨_, rfl⟩
  obtain ⟨y, hy⟩ : ∃ y, (if a < 0 then -a else a) = y := ⟨_, rfl⟩
  have HX := hide hx
  have HY := hide hy
  have hy0 : 0 < y := by rw [← hy]; split <;> omega
  have hyn : ¬ y = 0 := by omega
  have hyb : y ≤ 1000000000000000 := by rw [← hy]; split <;> omega
  have hx0 : 0 ≤ x := by rw [← hx]; split <;> omega
  have hxb : x ≤ 1000000000000000 := by rw [← hx]; split <;> omega
  have hxy : x * y = b * a ∨ x * y = -(b * a) := prod_signD (by rw [← hx]; split <;> simp) (by rw [← hy]; split <;> simp)
  rw [Int.mul_comm b a] at hxy
  have hp0 : 0 ≤ x * y := Int.mul_nonneg (by omega) (by omega)
  have hq : (1000000000000000 : Int).tdiv y < x ↔ 1000000000000000 < x * y := tdiv_lt hy0
  obtain ⟨t, ht⟩ : ∃ t, (1000000000000000 : Int).tdiv y = t := ⟨_, rfl⟩
  have htb : 0 ≤ t ∧ t ≤ 1000000000000000 := by
    rw [← ht, Int.tdiv_eq_ediv_of_nonneg (by omega)]
    exact ⟨Int.ediv_nonneg (by omega) (by omega), Int.ediv_le_self _ (by omega)⟩
  obtain ⟨ht1, ht2⟩ := htb
  rw [ht] at hq
  obtain ⟨pr, hpr⟩ : ∃ pr, a * b = pr := ⟨_, rfl⟩
  rw [hpr] at hxy
  have HT : Hid (twoOf 3 a b = limited (timesOf a b)) := rfl
  by_cases hbig : t < x
  · rw [times_big (by rw [hpr]; exact inM_not (by have := hq.mp hbig; omega)), limD_bad] at HT
    clear hq hxy hp0 h0 hx hy hpr
    go_enter Tryz.func134, Tryz.ntmps134
    go_wp2_with (first
      | (go_at_call_of 171 (Value.int .i64 b); refine (magnitude_eqD _ _ (unhide HB) _ HX).mono ?_; rintro e w1 ⟨rfl, rfl⟩)
      | (go_at_call_of 171 (Value.int .i64 a); refine (magnitude_eqD _ _ (unhide HA) _ HY).mono ?_; rintro e w1 ⟨rfl, rfl⟩))
    go_quiet (fail)
    go_wp2
    go_ret2
    exact gives_elD (c := 7) HT.out rfl
  · have hle : x * y ≤ 1000000000000000 := by
      by_cases h' : 1000000000000000 < x * y
      · exact absurd (hq.mpr h') hbig
      · omega
    have hpb1 : -1000000000000000 ≤ pr := by omega
    have hpb2 : pr ≤ 1000000000000000 := by omega
    rw [times_ok (by rw [hpr]; exact inM_of hpb1 hpb2), hpr, limD_ok (inM_of hpb1 hpb2)] at HT
    clear hq hxy hp0 hle h0 hx hy
    go_enter Tryz.func134, Tryz.ntmps134
    go_wp2_with (first
      | (go_at_call_of 171 (Value.int .i64 b); refine (magnitude_eqD _ _ (unhide HB) _ HX).mono ?_; rintro e w1 ⟨rfl, rfl⟩)
      | (go_at_call_of 171 (Value.int .i64 a); refine (magnitude_eqD _ _ (unhide HA) _ HY).mono ?_; rintro e w1 ⟨rfl, rfl⟩))
    go_ret2
    exact gives_elD (c := 0) (q := 0) HT.out rfl

set_option maxHeartbeats 400000 in
theorem codeOfD (a b : Addr) (w : World) (hG : GlD w a b) : Calls Tryz.prog 119 #[errV a b 7] w fun e w' => e = .returned (.int .i64 7) ∧ w' = w := by
  have hc := hG.big
  rw [errV_7]
  go_enter Tryz.func119, Tryz.ntmps119
  go_wp2_with (go_at_call 160; refine (is_same b _).mono ?_; rintro e w' ⟨rfl, rfl⟩)
  go_ret
  exact ⟨rfl, rfl⟩

end Go.Proofs.YtkgcmpmgaghdhaaGreatDoor
