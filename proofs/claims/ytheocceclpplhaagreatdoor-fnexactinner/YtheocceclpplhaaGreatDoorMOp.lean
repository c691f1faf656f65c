import Derived.Test.YtheocceclpplhaaGreatDoorImplOneB
import Derived.Test.YtheocceclpplhaaGreatDoorMTwo
import Derived.Laws.EntriesVeiled
import Derived.Deep.WholeRow
import Derived.Test.YtheocceclpplhaaGreatDoorMBox
namespace Go.Proofs.YtheocceclpplhaaGreatDoor
open Go.RowKit Go.Shelf

/-- A number and an error as an element's function gives them; only draws. -/
def GivesEl (ga gb : Addr) (r : Int × Int) (w : World) (e : Ending) (w' : World) : Prop := e = .returned (.tuple #[.int .i64 r.1, errV ga gb r.2]) ∧ ∃ q, w' = w.drewN q

theorem gives_el {ga gb : Addr} {r : Int × Int} {x c : Int} {w w' : World} {q : Nat} (h : r = (x, c)) (hw : w' = w.drewN q) : GivesEl ga gb r w (.returned (.tuple #[.int .i64 x, errV ga gb c])) w' := ⟨ret_el h, q, hw⟩

theorem isNumber_eq (v : Int) (w : World) (r : Bool) (h : Hid (inM v = r)) : Calls Tryz.prog 65 #[.int .i64 v] w fun e w' => e = .returned (.bool r) ∧ w' = w := by
  have e : dataOk false v = r := by rw [← unhide h]; simp [dataOk, inM]
  rw [← e]; exact isNumber_any v w

set_option maxHeartbeats 400000 in
theorem limited_any (v : Int) (ga gb : Addr) (w : World) (hG : Gl w ga gb) : Calls Tryz.prog 69 #[.int .i64 v] w (GivesEl ga gb (limited (v, true)) w) := by
  have hc := hG.big
  clear hG
  by_cases h : inM v = true
  · have HE := hide (lim_ok h)
    have HT := hide h
    clear h
    go_enter Tryz.func69, Tryz.ntmps69
    go_wp2_with (go_at_call 65; refine (isNumber_eq _ _ _ HT).mono ?_; rintro e w' ⟨rfl, rfl⟩)
    go_ret2
    exact gives_el (c := 0) (q := 0) HE.out rfl
  · have h' : inM v = false := by simpa using h
    have HE := hide (lim_no h')
    have HT := hide h'
    clear h h'
    go_enter Tryz.func69, Tryz.ntmps69
    go_wp2_with (go_at_call 65; refine (isNumber_eq _ _ _ HT).mono ?_; rintro e w' ⟨rfl, rfl⟩)
    go_quiet (fail)
    go_wp2
    go_ret2
    exact gives_el (c := 7) HE.out rfl

set_option maxHeartbeats 400000 in
theorem opAdd (a b : Int) (ga gb : Addr) (w : World) (hG : Gl w ga gb) (ha : -1000000000000000 ≤ a ∧ a ≤ 1000000000000000) (hb : -1000000000000000 ≤ b ∧ b ≤ 1000000000000000) : Calls Tryz.prog 68 #[.int .i64 a, .int .i64 b] w (GivesEl ga gb (twoOf 1 a b) w) := by
  obtain ⟨ha1, ha2⟩ := ha
  obtain ⟨hb1, hb2⟩ := hb
  have hl := limited_any (a + b) ga gb w hG
  clear hG
  have HE : Hid (twoOf 1 a b = limited (a + b, true)) := rfl
  obtain ⟨r, hr⟩ : ∃ r, limited (a + b, true) = r := ⟨_, rfl⟩
  rw [hr] at hl HE
  obtain ⟨r1, r2⟩ := r
  clear hr
  have HL := hide hl
  clear hl
  obtain ⟨s, hs⟩ : ∃ s, a + b = s := ⟨_, rfl⟩
  rw [hs] at HL
  obtain ⟨ev, hev⟩ : ∃ ev, ev = errV ga gb r2 := ⟨_, rfl⟩
  go_enter Tryz.func68, Tryz.ntmps68
  go_wp2_with (go_at_call 69; refine (unhide HL).mono ?_; rintro e w1 ⟨rfl, q, rfl⟩; simp only [← hev])
  go_ret2
  rw [hev]
  exact gives_el HE.out rfl

set_option maxHeartbeats 400000 in
theorem opSub (a b : Int) (ga gb : Addr) (w : World) (hG : Gl w ga gb) (ha : -1000000000000000 ≤ a ∧ a ≤ 1000000000000000) (hb : -1000000000000000 ≤ b ∧ b ≤ 1000000000000000) : Calls Tryz.prog 70 #[.int .i64 a, .int .i64 b] w (GivesEl ga gb (twoOf 2 a b) w) := by
  obtain ⟨ha1, ha2⟩ := ha
  obtain ⟨hb1, hb2⟩ := hb
  have hl := limited_any (a - b) ga gb w hG
  clear hG
  have HE : Hid (twoOf 2 a b = limited (a - b, true)) := rfl
  obtain ⟨r, hr⟩ : ∃ r, limited (a - b, true) = r := ⟨_, rfl⟩
  rw [hr] at hl HE
  obtain ⟨r1, r2⟩ := r
  clear hr
  have HL := hide hl
  clear hl
  obtain ⟨s, hs⟩ : ∃ s, a - b = s := ⟨_, rfl⟩
  rw [hs] at HL
  obtain ⟨ev, hev⟩ : ∃ ev, ev = errV ga gb r2 := ⟨_, rfl⟩
  go_enter Tryz.func70, Tryz.ntmps70
  go_wp2_with (go_at_call 69; refine (unhide HL).mono ?_; rintro e w1 ⟨rfl, q, rfl⟩; simp only [← hev])
  go_ret2
  rw [hev]
  exact gives_el HE.out rfl


theorem magnitude_eq (v : Int) (w : World) (hv : -1000000000000000 ≤ v ∧ v ≤ 1000000000000000) (m : Int) (h : Hid ((if v < 0 then -v else v) = m)) : Calls Tryz.prog 90 #[.int .i64 v] w fun e w' => e = .returned (.int .i64 m) ∧ w' = w := by
  rw [← unhide h]; exact magnitude_any v w hv

set_option maxHeartbeats 1000000 in
theorem opMul (a b : Int) (ga gb : Addr) (w : World) (hG : Gl w ga gb) (ha : -1000000000000000 ≤ a ∧ a ≤ 1000000000000000) (hb : -1000000000000000 ≤ b ∧ b ≤ 1000000000000000) : Calls Tryz.prog 71 #[.int .i64 a, .int .i64 b] w (GivesEl ga gb (twoOf 3 a b) w) := by
  have hc := hG.big
  clear hG
  have HA := hide ha
  have HB := hide hb
  obtain ⟨ha1, ha2⟩ := ha
  obtain ⟨hb1, hb2⟩ := hb
  by_cases h0 : a = 0
  · subst h0
    have HE : Hid (twoOf 3 0 b = (0, 0)) := by show _ = _; simp [twoOf, timesOf, inM, limited]
    go_enter Tryz.func71, Tryz.ntmps71
    go_wp2
    go_ret2
    exact gives_el (c := 0) (q := 0) HE.out rfl
  have q0 : (a != 0) = true := by simp [h0]
  obtain ⟨x, hx⟩ : ∃ x, (if b < 0 then -b else b) = x := ⟨_, rfl⟩
  obtain ⟨y, hy⟩ : ∃ y, (if a < 0 then -a else a) = y := ⟨_, rfl⟩
  have HX := hide hx
  have HY := hide hy
  have hy0 : 0 < y := by rw [← hy]; split <;> omega
  have hyn : ¬ y = 0 := by omega
  have hyb : y ≤ 1000000000000000 := by rw [← hy]; split <;> omega
  have hx0 : 0 ≤ x := by rw [← hx]; split <;> omega
  have hxb : x ≤ 1000000000000000 := by rw [← hx]; split <;> omega
  have hxy : x * y = b * a ∨ x * y = -(b * a) := prod_sign (by rw [← hx]; split <;> simp) (by rw [← hy]; split <;> simp)
  rw [Int.mul_comm b a] at hxy
  have hp0 : 0 ≤ x * y := Int.mul_nonneg (by omega) (by omega)
  have hq : (1000000000000000 : Int).tdiv y < x ↔ 1000000000000000 < x * y := tdiv_lt hy0
  obtain ⟨t, ht⟩ : ∃ t, (1000000000000000 : Int).tdiv y = t := ⟨_, rfl⟩
  have htb : 0 ≤ t ∧ t ≤ 1000000000000000 := by
    rw [← ht, Int.tdiv_eq_ediv_of_nonneg (by omega)]
    exact ⟨Int.ediv_nonneg (by omega) (by omega), Int.ediv_le_self _ (by omega)⟩
  obtain ⟨ht1, ht2⟩ := htb
  rw [ht] at hq
  obtain ⟨pr, hpr⟩ : ∃ pr, a * b = pr := ⟨_, rfl⟩
  rw [hpr] at hxy
  have HT : Hid (twoOf 3 a b = limited (timesOf a b)) := rfl
  by_cases hbig : t < x
  · rw [times_big (by rw [hpr]; exact inM_not (by have := hq.mp hbig; omega)), lim_bad] at HT
    clear hq hxy hp0 h0 hx hy hpr
    go_enter Tryz.func71, Tryz.ntmps71
    go_wp2_with (first
      | (go_at_call_of 90 (Value.int .i64 b); refine (magnitude_eq _ _ (unhide HB) _ HX).mono ?_; rintro e w1 ⟨rfl, rfl⟩)
      | (go_at_call_of 90 (Value.int .i64 a); refine (magnitude_eq _ _ (unhide HA) _ HY).mono ?_; rintro e w1 ⟨rfl, rfl⟩))
    go_quiet (fail)
    go_wp2
    go_ret2
    exact gives_el (c := 7) HT.out rfl
  · have hle : x * y ≤ 1000000000000000 := by
      by_cases h' : 1000000000000000 < x * y
      · exact absurd (hq.mpr h') hbig
      · omega
    have hpb1 : -1000000000000000 ≤ pr := by omega
    have hpb2 : pr ≤ 1000000000000000 := by omega
    rw [times_ok (by rw [hpr]; exact inM_of hpb1 hpb2), hpr, lim_ok (inM_of hpb1 hpb2)] at HT
    clear hq hxy hp0 hle h0 hx hy
    go_enter Tryz.func71, Tryz.ntmps71
    go_wp2_with (first
      | (go_at_call_of 90 (Value.int .i64 b); refine (magnitude_eq _ _ (unhide HB) _ HX).mono ?_; rintro e w1 ⟨rfl, rfl⟩)
      | (go_at_call_of 90 (Value.int .i64 a); refine (magnitude_eq _ _ (unhide HA) _ HY).mono ?_; rintro e w1 ⟨rfl, rfl⟩))
    go_ret2
    exact gives_el (c := 0) (q := 0) HT.out rfl

set_option maxHeartbeats 1000000 in
theorem opDiv (a b : Int) (ga gb : Addr) (w : World) (hG : Gl w ga gb) (ha : -1000000000000000 ≤ a ∧ a ≤ 1000000000000000) (hb : -1000000000000000 ≤ b ∧ b ≤ 1000000000000000) : Calls Tryz.prog 72 #[.int .i64 a, .int .i64 b] w (GivesEl ga gb (twoOf 4 a b) w) := by
  have hc := hG.no
  clear hG
  obtain ⟨ha1, ha2⟩ := ha
  obtain ⟨hb1, hb2⟩ := hb
  have HE : Hid (twoOf 4 a b = (if a = 0 ∧ b = 0 then (1, 0) else if b = 0 ∨ a.tmod b ≠ 0 then (0, 3) else limited (a.tdiv b, true))) := rfl
  by_cases hz : b = 0
  · subst hz
    by_cases h0 : a = 0
    · subst h0
      rw [if_pos ⟨rfl, rfl⟩] at HE
      go_enter Tryz.func72, Tryz.ntmps72
      go_wp2
      go_ret2
      exact gives_el (c := 0) (q := 0) HE.out rfl
    · rw [if_neg (fun h => h0 h.1), if_pos (.inl rfl)] at HE
      have q0 : (a == 0) = false := by simp [h0]
      go_enter Tryz.func72, Tryz.ntmps72
      go_wp2
      go_quiet (fail)
      go_wp2
      go_ret2
      exact gives_el (c := 3) HE.out rfl
  have qz : (b == 0) = false := by simp [hz]
  rw [if_neg (fun h => hz h.2)] at HE
  obtain ⟨m, hm⟩ : ∃ m, a.tmod b = m := ⟨_, rfl⟩
  rw [hm] at HE
  by_cases hm0 : m = 0
  · subst hm0
    rw [if_neg (by simp [hz])] at HE
    have hd : -1000000000000000 ≤ a.tdiv b ∧ a.tdiv b ≤ 1000000000000000 := by
      have h1 := Int.natAbs_tdiv_le_natAbs a b
      omega
    obtain ⟨v, hv⟩ : ∃ v, a.tdiv b = v := ⟨_, rfl⟩
    rw [hv] at HE hd
    rw [lim_ok (inM_of hd.1 hd.2)] at HE
    obtain ⟨hd1, hd2⟩ := hd
    by_cases h0 : a = 0
    · subst h0
      have hv0 : v = 0 := by rw [← hv]; simp
      subst hv0
      clear hv hm
      go_enter Tryz.func72, Tryz.ntmps72
      go_wp2
      go_ret2
      exact gives_el (c := 0) (q := 0) HE.out rfl
    · have q0 : (a == 0) = false := by simp [h0]
      go_enter Tryz.func72, Tryz.ntmps72
      go_wp2
      go_ret2
      exact gives_el (c := 0) (q := 0) HE.out rfl
  · rw [if_pos (.inr hm0)] at HE
    have qm : (m != 0) = true := by simp [hm0]
    have h0 : ¬ a = 0 := by rintro rfl; simp at hm; exact hm0 hm.symm
    have q0 : (a == 0) = false := by simp [h0]
    go_enter Tryz.func72, Tryz.ntmps72
    go_wp2
    go_quiet (fail)
    go_wp2
    go_ret2
    exact gives_el (c := 3) HE.out rfl

end Go.Proofs.YtheocceclpplhaaGreatDoor
namespace Go.Proofs.YtheocceclpplhaaGreatDoor
open Go.RowKit Go.Shelf

set_option maxHeartbeats 400000 in
theorem implTruth_any (b : Bool) (w : World) (r : Int) (hr : Hid (truth b = r)) : Calls Tryz.prog 78 #[.bool b] w fun e w' => e = .returned (.int .i64 r) ∧ w' = w := by
  rw [← unhide hr]
  cases b
  all_goals
    go_enter Tryz.func78, Tryz.ntmps78
    go_wp2
    go_ret
    exact ⟨rfl, rfl⟩

set_option maxHeartbeats 400000 in
theorem opMin (a b : Int) (ga gb : Addr) (w : World) (ha : -1000000000000000 ≤ a ∧ a ≤ 1000000000000000) (hb : -1000000000000000 ≤ b ∧ b ≤ 1000000000000000) : Calls Tryz.prog 73 #[.int .i64 a, .int .i64 b] w (GivesEl ga gb (twoOf 5 a b) w) := by
  have HE := hide (two_order_eq ha hb 5 (by omega))
  clear ha hb
  by_cases h : a < b
  · have HO : Hid (orderOf 5 a b = a) := by show _ = _; simp [orderOf, h]
    rw [unhide HO] at HE
    go_enter Tryz.func73, Tryz.ntmps73
    go_wp2
    go_ret2
    exact gives_el (c := 0) (q := 0) HE.out rfl
  · have HO : Hid (orderOf 5 a b = b) := by show _ = _; simp [orderOf, h]
    rw [unhide HO] at HE
    by_cases h2 : a = b
    · subst h2
      go_enter Tryz.func73, Tryz.ntmps73
      go_wp2
      go_ret2
      exact gives_el (c := 0) (q := 0) HE.out rfl
    · have h3 : b < a := by omega
      clear h2
      go_enter Tryz.func73, Tryz.ntmps73
      go_wp2
      go_ret2
      exact gives_el (c := 0) (q := 0) HE.out rfl

set_option maxHeartbeats 400000 in
theorem opMax (a b : Int) (ga gb : Addr) (w : World) (ha : -1000000000000000 ≤ a ∧ a ≤ 1000000000000000) (hb : -1000000000000000 ≤ b ∧ b ≤ 1000000000000000) : Calls Tryz.prog 74 #[.int .i64 a, .int .i64 b] w (GivesEl ga gb (twoOf 6 a b) w) := by
  have HE := hide (two_order_eq ha hb 6 (by omega))
  clear ha hb
  by_cases h : a < b
  · have HO : Hid (orderOf 6 a b = b) := by show _ = _; simp [orderOf, h]
    rw [unhide HO] at HE
    go_enter Tryz.func74, Tryz.ntmps74
    go_wp2
    go_ret2
    exact gives_el (c := 0) (q := 0) HE.out rfl
  · have HO : Hid (orderOf 6 a b = a) := by show _ = _; simp [orderOf, h]
    rw [unhide HO] at HE
    by_cases h2 : a = b
    · subst h2
      go_enter Tryz.func74, Tryz.ntmps74
      go_wp2
      go_ret2
      exact gives_el (c := 0) (q := 0) HE.out rfl
    · have h3 : b < a := by omega
      clear h2
      go_enter Tryz.func74, Tryz.ntmps74
      go_wp2
      go_ret2
      exact gives_el (c := 0) (q := 0) HE.out rfl

set_option maxHeartbeats 400000 in
theorem opEqual (a b : Int) (ga gb : Addr) (w : World) (ha : -1000000000000000 ≤ a ∧ a ≤ 1000000000000000) (hb : -1000000000000000 ≤ b ∧ b ≤ 1000000000000000) : Calls Tryz.prog 77 #[.int .i64 a, .int .i64 b] w (GivesEl ga gb (twoOf 9 a b) w) := by
  have HE := hide (two_order_eq ha hb 9 (by omega))
  have HO : Hid (orderOf 9 a b = truth (decide (a = b))) := rfl
  rw [unhide HO] at HE
  clear ha hb
  by_cases h : a = b
  · have HD : Hid (truth true = 1) := rfl
    rw [decide_eq_true h] at HE
    have qe : (a == b) = true := by simp [h]
    clear h
    go_enter Tryz.func77, Tryz.ntmps77
    go_wp2_with (go_at_call 78; refine (implTruth_any _ _ _ HD).mono ?_; rintro e w1 ⟨rfl, rfl⟩)
    go_ret2
    exact gives_el (c := 0) (q := 0) HE.out rfl
  · have HD : Hid (truth false = 0) := rfl
    rw [decide_eq_false h] at HE
    have qe : (a == b) = false := by simp [h]
    clear h
    go_enter Tryz.func77, Tryz.ntmps77
    go_wp2_with (go_at_call 78; refine (implTruth_any _ _ _ HD).mono ?_; rintro e w1 ⟨rfl, rfl⟩)
    go_ret2
    exact gives_el (c := 0) (q := 0) HE.out rfl

set_option maxHeartbeats 400000 in
theorem opNe (a b : Int) (ga gb : Addr) (w : World) (ha : -1000000000000000 ≤ a ∧ a ≤ 1000000000000000) (hb : -1000000000000000 ≤ b ∧ b ≤ 1000000000000000) : Calls Tryz.prog 79 #[.int .i64 a, .int .i64 b] w (GivesEl ga gb (twoOf 10 a b) w) := by
  have HE := hide (two_order_eq ha hb 10 (by omega))
  have HO : Hid (orderOf 10 a b = truth (decide (a ≠ b))) := rfl
  rw [unhide HO] at HE
  clear ha hb
  by_cases h : a ≠ b
  · have HD : Hid (truth true = 1) := rfl
    rw [decide_eq_true h] at HE
    have qe : (a != b) = true := by simpa using h
    clear h
    go_enter Tryz.func79, Tryz.ntmps79
    go_wp2_with (go_at_call 78; refine (implTruth_any _ _ _ HD).mono ?_; rintro e w1 ⟨rfl, rfl⟩)
    go_ret2
    exact gives_el (c := 0) (q := 0) HE.out rfl
  · have HD : Hid (truth false = 0) := rfl
    rw [decide_eq_false h] at HE
    have qe : (a != b) = false := by simpa using h
    clear h
    go_enter Tryz.func79, Tryz.ntmps79
    go_wp2_with (go_at_call 78; refine (implTruth_any _ _ _ HD).mono ?_; rintro e w1 ⟨rfl, rfl⟩)
    go_ret2
    exact gives_el (c := 0) (q := 0) HE.out rfl

set_option maxHeartbeats 400000 in
theorem opLt (a b : Int) (ga gb : Addr) (w : World) (ha : -1000000000000000 ≤ a ∧ a ≤ 1000000000000000) (hb : -1000000000000000 ≤ b ∧ b ≤ 1000000000000000) : Calls Tryz.prog 80 #[.int .i64 a, .int .i64 b] w (GivesEl ga gb (twoOf 11 a b) w) := by
  have HE := hide (two_order_eq ha hb 11 (by omega))
  have HO : Hid (orderOf 11 a b = truth (decide (a < b))) := rfl
  rw [unhide HO] at HE
  clear ha hb
  by_cases h : a < b
  · have HD : Hid (truth true = 1) := rfl
    rw [decide_eq_true h] at HE
    go_enter Tryz.func80, Tryz.ntmps80
    go_wp2_with (go_at_call 78; refine (implTruth_any _ _ _ HD).mono ?_; rintro e w1 ⟨rfl, rfl⟩)
    go_ret2
    exact gives_el (c := 0) (q := 0) HE.out rfl
  · have HD : Hid (truth false = 0) := rfl
    rw [decide_eq_false h] at HE
    go_enter Tryz.func80, Tryz.ntmps80
    go_wp2_with (go_at_call 78; refine (implTruth_any _ _ _ HD).mono ?_; rintro e w1 ⟨rfl, rfl⟩)
    go_ret2
    exact gives_el (c := 0) (q := 0) HE.out rfl

set_option maxHeartbeats 400000 in
theorem opLe (a b : Int) (ga gb : Addr) (w : World) (ha : -1000000000000000 ≤ a ∧ a ≤ 1000000000000000) (hb : -1000000000000000 ≤ b ∧ b ≤ 1000000000000000) : Calls Tryz.prog 81 #[.int .i64 a, .int .i64 b] w (GivesEl ga gb (twoOf 12 a b) w) := by
  have HE := hide (two_order_eq ha hb 12 (by omega))
  have HO : Hid (orderOf 12 a b = truth (decide (a ≤ b))) := rfl
  rw [unhide HO] at HE
  clear ha hb
  by_cases h : a ≤ b
  · have HD : Hid (truth true = 1) := rfl
    rw [decide_eq_true h] at HE
    go_enter Tryz.func81, Tryz.ntmps81
    go_wp2_with (go_at_call 78; refine (implTruth_any _ _ _ HD).mono ?_; rintro e w1 ⟨rfl, rfl⟩)
    go_ret2
    exact gives_el (c := 0) (q := 0) HE.out rfl
  · have HD : Hid (truth false = 0) := rfl
    rw [decide_eq_false h] at HE
    go_enter Tryz.func81, Tryz.ntmps81
    go_wp2_with (go_at_call 78; refine (implTruth_any _ _ _ HD).mono ?_; rintro e w1 ⟨rfl, rfl⟩)
    go_ret2
    exact gives_el (c := 0) (q := 0) HE.out rfl

set_option maxHeartbeats 400000 in
theorem opGe (a b : Int) (ga gb : Addr) (w : World) (ha : -1000000000000000 ≤ a ∧ a ≤ 1000000000000000) (hb : -1000000000000000 ≤ b ∧ b ≤ 1000000000000000) : Calls Tryz.prog 82 #[.int .i64 a, .int .i64 b] w (GivesEl ga gb (twoOf 13 a b) w) := by
  have HE := hide (two_order_eq ha hb 13 (by omega))
  have HO : Hid (orderOf 13 a b = truth (decide (b ≤ a))) := rfl
  rw [unhide HO] at HE
  clear ha hb
  by_cases h : b ≤ a
  · have HD : Hid (truth true = 1) := rfl
    rw [decide_eq_true h] at HE
    go_enter Tryz.func82, Tryz.ntmps82
    go_wp2_with (go_at_call 78; refine (implTruth_any _ _ _ HD).mono ?_; rintro e w1 ⟨rfl, rfl⟩)
    go_ret2
    exact gives_el (c := 0) (q := 0) HE.out rfl
  · have HD : Hid (truth false = 0) := rfl
    rw [decide_eq_false h] at HE
    go_enter Tryz.func82, Tryz.ntmps82
    go_wp2_with (go_at_call 78; refine (implTruth_any _ _ _ HD).mono ?_; rintro e w1 ⟨rfl, rfl⟩)
    go_ret2
    exact gives_el (c := 0) (q := 0) HE.out rfl

set_option maxHeartbeats 400000 in
theorem opGt (a b : Int) (ga gb : Addr) (w : World) (ha : -1000000000000000 ≤ a ∧ a ≤ 1000000000000000) (hb : -1000000000000000 ≤ b ∧ b ≤ 1000000000000000) : Calls Tryz.prog 83 #[.int .i64 a, .int .i64 b] w (GivesEl ga gb (twoOf 14 a b) w) := by
  have HE := hide (two_order_eq ha hb 14 (by omega))
  have HO : Hid (orderOf 14 a b = truth (decide (b < a))) := rfl
  rw [unhide HO] at HE
  clear ha hb
  by_cases h : b < a
  · have HD : Hid (truth true = 1) := rfl
    rw [decide_eq_true h] at HE
    go_enter Tryz.func83, Tryz.ntmps83
    go_wp2_with (go_at_call 78; refine (implTruth_any _ _ _ HD).mono ?_; rintro e w1 ⟨rfl, rfl⟩)
    go_ret2
    exact gives_el (c := 0) (q := 0) HE.out rfl
  · have HD : Hid (truth false = 0) := rfl
    rw [decide_eq_false h] at HE
    go_enter Tryz.func83, Tryz.ntmps83
    go_wp2_with (go_at_call 78; refine (implTruth_any _ _ _ HD).mono ?_; rintro e w1 ⟨rfl, rfl⟩)
    go_ret2
    exact gives_el (c := 0) (q := 0) HE.out rfl

end Go.Proofs.YtheocceclpplhaaGreatDoor
namespace Go.Proofs.YtheocceclpplhaaGreatDoor
open Go.RowKit Go.Shelf

theorem mod_lim {a b : Int} (ha : -1000000000000000 ≤ a ∧ a ≤ 1000000000000000) (hb : -1000000000000000 ≤ b ∧ b ≤ 1000000000000000) : twoOf 7 a b = (modOf a b, 0) := by
  have h : twoOf 7 a b = limited (modOf a b, true) := rfl
  have hm : -1000000000000000 ≤ b.tmod a ∧ b.tmod a ≤ 1000000000000000 := by
    have := Int.natAbs_tmod b a
    have h3 : b.natAbs % a.natAbs ≤ b.natAbs := Nat.mod_le _ _
    omega
  rw [h, lim_ok]
  unfold modOf
  by_cases h0 : a = 0
  · rw [if_pos h0]; exact inM_of hb.1 hb.2
  · rw [if_neg h0]
    split
    · rename_i hs
      obtain ⟨hs1, hs2⟩ := hs
      by_cases h1 : b.tmod a < 0 <;> by_cases h2 : a < 0
      all_goals simp only [h1, h2, decide_true, decide_false, ne_eq, not_true_eq_false] at hs2
      all_goals exact inM_of (by omega) (by omega)
    · exact inM_of hm.1 hm.2

set_option maxHeartbeats 1000000 in
theorem opMod (a b : Int) (ga gb : Addr) (w : World) (ha : -1000000000000000 ≤ a ∧ a ≤ 1000000000000000) (hb : -1000000000000000 ≤ b ∧ b ≤ 1000000000000000) : Calls Tryz.prog 75 #[.int .i64 a, .int .i64 b] w (GivesEl ga gb (twoOf 7 a b) w) := by
  have HT := hide (mod_lim ha hb)
  obtain ⟨ha1, ha2⟩ := ha
  obtain ⟨hb1, hb2⟩ := hb
  by_cases h0 : a = 0
  · subst h0
    have HE : Hid (modOf 0 b = b) := rfl
    rw [unhide HE] at HT
    go_enter Tryz.func75, Tryz.ntmps75
    go_wp2
    go_ret2
    exact gives_el (c := 0) (q := 0) HT.out rfl
  have q0 : (a == 0) = false := by simp [h0]
  have hm : -1000000000000000 ≤ b.tmod a ∧ b.tmod a ≤ 1000000000000000 := by
    have := Int.natAbs_tmod b a
    have h3 : b.natAbs % a.natAbs ≤ b.natAbs := Nat.mod_le _ _
    omega
  obtain ⟨m, hm0⟩ : ∃ m, b.tmod a = m := ⟨_, rfl⟩
  rw [hm0] at hm
  obtain ⟨hm1, hm2⟩ := hm
  by_cases hz : m = 0
  · subst hz
    have HE : Hid (modOf a b = 0) := by show _ = _; unfold modOf; rw [if_neg h0, hm0]; simp
    rw [unhide HE] at HT
    go_enter Tryz.func75, Tryz.ntmps75
    go_wp2
    go_ret2
    exact gives_el (c := 0) (q := 0) HT.out rfl
  have q1 : (m != 0) = true := by simp [hz]
  by_cases hs : m < 0
  · by_cases ht : a < 0
    · have HE : Hid (modOf a b = m) := by show _ = _; unfold modOf; rw [if_neg h0, hm0]; simp [hs, ht]
      rw [unhide HE] at HT
      clear hz
      go_enter Tryz.func75, Tryz.ntmps75
      go_wp2
      go_ret2
      exact gives_el (c := 0) (q := 0) HT.out rfl
    · have HE : Hid (modOf a b = m + a) := by show _ = _; unfold modOf; rw [if_neg h0, hm0]; simp [hs, ht, hz]
      rw [unhide HE] at HT
      clear hz
      go_enter Tryz.func75, Tryz.ntmps75
      go_wp2
      go_ret2
      exact gives_el (c := 0) (q := 0) HT.out rfl
  · by_cases ht : a < 0
    · have HE : Hid (modOf a b = m + a) := by show _ = _; unfold modOf; rw [if_neg h0, hm0]; simp [hs, ht, hz]
      rw [unhide HE] at HT
      clear hz
      go_enter Tryz.func75, Tryz.ntmps75
      go_wp2
      go_ret2
      exact gives_el (c := 0) (q := 0) HT.out rfl
    · have HE : Hid (modOf a b = m) := by show _ = _; unfold modOf; rw [if_neg h0, hm0]; simp [hs, ht]
      rw [unhide HE] at HT
      clear hz
      go_enter Tryz.func75, Tryz.ntmps75
      go_wp2
      go_ret2
      exact gives_el (c := 0) (q := 0) HT.out rfl

theorem opMul_eq (a b : Int) (ga gb : Addr) (w : World) (hG : Gl w ga gb) (ha : -1000000000000000 ≤ a ∧ a ≤ 1000000000000000) (hb : -1000000000000000 ≤ b ∧ b ≤ 1000000000000000) (r1 r2 : Int) (hr : Hid (twoOf 3 a b = (r1, r2))) : Calls Tryz.prog 71 #[.int .i64 a, .int .i64 b] w fun e w' => e = .returned (.tuple #[.int .i64 r1, errV ga gb r2]) ∧ ∃ q, w' = w.drewN q := by
  have := opMul a b ga gb w hG ha hb
  rw [unhide hr] at this
  exact this

theorem times3_ok {x a y : Int} (h : x * a = y) (hy : inM y = true) : twoOf 3 x a = (y, 0) := by
  have e : twoOf 3 x a = limited (timesOf x a) := rfl
  rw [e, times_ok (by rw [h]; exact hy), h, lim_ok hy]
theorem times3_big {x a : Int} (hy : inM (x * a) = false) : twoOf 3 x a = (0, 7) := by
  have e : twoOf 3 x a = limited (timesOf x a) := rfl
  rw [e, times_big hy, lim_bad]

/-- The powers up to n reckoned by a loop are those of b. -/
structure PowLoop (a b : Int) (n : Nat) : Prop where
  same : a ^ n = a ^ b.toNat
  big : 2 ≤ a.natAbs ∨ (a = 0 ∨ a = 1 ∨ a = -1)

theorem pow_small {a : Int} (h : a = 0 ∨ a = 1 ∨ a = -1) (k : Nat) : a ^ k = 0 ∨ a ^ k = 1 ∨ a ^ k = -1 := by
  induction k with
  | zero => simp
  | succ k ih =>
    rw [Int.pow_succ]
    rcases ih with e | e | e <;> rw [e] <;> rcases h with rfl | rfl | rfl <;> simp

theorem small_in {x : Int} (h : x = 0 ∨ x = 1 ∨ x = -1) : inM x = true := by rcases h with rfl | rfl | rfl <;> rfl

theorem pow_stays {a b : Int} {n k : Nat} (h : PowLoop a b n) (hk : k ≤ n) (hb : inM (a ^ k) = false) : powOf a b = (0, false) := by
  rcases h.big with h2 | h2
  · exact pow_big (by rw [← h.same]; exact pow_step_big h2 k n hk hb)
  · rw [small_in (pow_small h2 k)] at hb; cases hb

theorem pow8_big {a b : Int} (hb : 0 ≤ b) (h : powOf a b = (0, false)) : twoOf 8 a b = (0, 7) := by
  have e : twoOf 8 a b = (if b < 0 then (0, 3) else limited (powOf a b)) := rfl
  rw [e, if_neg (by omega), h, lim_bad]
theorem pow8_ok {a b x : Int} {n : Nat} (hb : 0 ≤ b) (h : PowLoop a b n) (hx : a ^ n = x) (hi : inM x = true) : twoOf 8 a b = (x, 0) := by
  have e : twoOf 8 a b = (if b < 0 then (0, 3) else limited (powOf a b)) := rfl
  have hx' : a ^ b.toNat = x := by rw [← h.same]; exact hx
  rw [e, if_neg (by omega), pow_ok (by rw [hx']; exact hi), hx', lim_ok hi]

theorem abs_cases (a : Int) : 2 ≤ a.natAbs ∨ (a = 0 ∨ a = 1 ∨ a = -1) := by omega

theorem powLoop_plain {a b : Int} {n : Nat} (hn : b = n) : PowLoop a b n := ⟨by rw [hn]; rfl, abs_cases a⟩

theorem powLoop_small {a b : Int} (ha : a = 0 ∨ a = 1 ∨ a = -1) (hb : 2 < b) {n : Nat} (hn : 2 - b.tmod 2 = (n : Int)) : PowLoop a b n := by
  refine ⟨?_, .inr ha⟩
  have e : b.tmod 2 = ((b.toNat % 2 : Nat) : Int) := by rw [Int.tmod_eq_emod_of_nonneg (by omega)]; omega
  rcases ha with rfl | rfl | rfl
  · rw [Int.zero_pow (by omega), Int.zero_pow (by omega)]
  · rw [Int.one_pow, Int.one_pow]
  · rw [neg_one_pow, neg_one_pow]
    have : n % 2 = b.toNat % 2 := by omega
    rw [this]

end Go.Proofs.YtheocceclpplhaaGreatDoor
namespace Go.Proofs.YtheocceclpplhaaGreatDoor
open Go.RowKit Go.Shelf

set_option maxHeartbeats 2000000 in
theorem power_loop (a b : Int) (n : Nat) (ga gb : Addr) (w : World) (hG : Gl w ga gb) (ha : -1000000000000000 ≤ a ∧ a ≤ 1000000000000000) (hb0 : 0 ≤ b) (hb : b ≤ 1000000000000000) (hP : PowLoop a b n)
    (hcase : (¬ (withinB a (-1) 1 = true ∧ 2 < b) ∧ b = (n : Int)) ∨ (withinB a (-1) 1 = true ∧ 2 < b ∧ 2 - b.tmod 2 = (n : Int))) :
    Calls Tryz.prog 76 #[.int .i64 a, .int .i64 b] w (GivesEl ga gb (twoOf 8 a b) w) := by
  have HG := hide hG
  have HA := hide ha
  have HP := hide hP
  have HB0 := hide hb0
  have hnn := neq_nil_nil
  clear hG hP
  obtain ⟨wi, hwi⟩ : ∃ wi, withinB a (-1) 1 = wi := ⟨_, rfl⟩
  rw [hwi] at hcase
  have HW := hide hwi
  clear hwi
  have hmb : 0 ≤ b.tmod 2 ∧ b.tmod 2 ≤ 1 := by rw [Int.tmod_eq_emod_of_nonneg (by omega)]; omega
  obtain ⟨m, hm⟩ : ∃ m, b.tmod 2 = m := ⟨_, rfl⟩
  rw [hm] at hcase hmb
  obtain ⟨hm1, hm2⟩ := hmb
  have hn16 : (n : Int) ≤ 1000000000000000 := by rcases hcase with h | h <;> omega
  rcases hcase with ⟨h1, h2⟩ | ⟨h1, h2, h3⟩
  · subst h2
    cases wi with
    | false =>
      go_enter Tryz.func76, Tryz.ntmps76
      go_wp2_with (go_at_call 48; refine (isWithin_eq _ _ _ _ _ HW).mono ?_; rintro e w ⟨rfl, rfl⟩)
      go_loopw [6, 7, 21] (fun v _ i wr => ∃ (k : Nat) (x : Int) (q : Nat), k ≤ n ∧ i = .int .i64 k ∧ v = .int .i64 x ∧ Hid (a ^ k = x) ∧ Hid (inM x = true) ∧ wr = w.drewN q) (fun _ _ i _ => n - (intOf i).toNat)
      case atStart => exact ⟨0, 1, 0, Nat.zero_le _, rfl, rfl, hide (by simp), hide rfl, rfl⟩
      case round =>
        obtain ⟨k, x, q, hk, rfl, rfl, hx, hin, rfl⟩ := hrel
        have hxb := inM_bd (unhide hin)
        by_cases hlt : k < n
        · have hps : a ^ (k + 1) = x * a := by rw [Int.pow_succ, unhide hx]
          by_cases hbig : inM (x * a) = true
          · obtain ⟨y, hy⟩ : ∃ y, x * a = y := ⟨_, rfl⟩
            have HT := hide (times3_ok hy (by rw [← hy]; exact hbig))
            rw [hy] at hps hbig
            have HPS := hide hps
            have HIN := hide hbig
            clear hy hbig hps
            go_wp2_with (go_at_call 71; refine (opMul_eq _ _ ga gb _ ((unhide HG).drewN _) hxb (unhide HA) _ _ HT).mono ?_; rintro e w1 ⟨rfl, q', rfl⟩; simp only [errV_0])
            go_roundw
            case rel => exact ⟨k + 1, y, _, by omega, by go_num, rfl, HPS, HIN, rfl⟩
            case measure => simp [intOf]; omega
          · have hb' : inM (x * a) = false := by simpa using hbig
            have HT := hide (times3_big hb')
            have HE := hide (pow8_big (unhide HB0) (pow_stays (unhide HP) hlt (by rw [hps]; exact hb')))
            clear hbig hb' hps
            go_wp2_with (go_at_call 71; refine (opMul_eq _ _ ga gb _ ((unhide HG).drewN _) hxb (unhide HA) _ _ HT).mono ?_; rintro e w1 ⟨rfl, q', rfl⟩; simp only [errV_7])
            go_ret2
            exact gives_el (c := 7) HE.out rfl
        · have hkn : k = n := by omega
          subst hkn
          have HE := hide (pow8_ok (unhide HB0) (unhide HP) (unhide hx) (unhide hin))
          go_wp2
          go_ret2
          exact gives_el (c := 0) HE.out rfl
    | true =>
      have h3 : ¬ 2 < (n : Int) := fun h => h1 ⟨rfl, h⟩
      clear h1
      go_enter Tryz.func76, Tryz.ntmps76
      go_wp2_with (go_at_call 48; refine (isWithin_eq _ _ _ _ _ HW).mono ?_; rintro e w ⟨rfl, rfl⟩)
      go_loopw [6, 7, 21] (fun v _ i wr => ∃ (k : Nat) (x : Int) (q : Nat), k ≤ n ∧ i = .int .i64 k ∧ v = .int .i64 x ∧ Hid (a ^ k = x) ∧ Hid (inM x = true) ∧ wr = w.drewN q) (fun _ _ i _ => n - (intOf i).toNat)
      case atStart => exact ⟨0, 1, 0, Nat.zero_le _, rfl, rfl, hide (by simp), hide rfl, rfl⟩
      case round =>
        obtain ⟨k, x, q, hk, rfl, rfl, hx, hin, rfl⟩ := hrel
        have hxb := inM_bd (unhide hin)
        by_cases hlt : k < n
        · have hps : a ^ (k + 1) = x * a := by rw [Int.pow_succ, unhide hx]
          by_cases hbig : inM (x * a) = true
          · obtain ⟨y, hy⟩ : ∃ y, x * a = y := ⟨_, rfl⟩
            have HT := hide (times3_ok hy (by rw [← hy]; exact hbig))
            rw [hy] at hps hbig
            have HPS := hide hps
            have HIN := hide hbig
            clear hy hbig hps
            go_wp2_with (go_at_call 71; refine (opMul_eq _ _ ga gb _ ((unhide HG).drewN _) hxb (unhide HA) _ _ HT).mono ?_; rintro e w1 ⟨rfl, q', rfl⟩; simp only [errV_0])
            go_roundw
            case rel => exact ⟨k + 1, y, _, by omega, by go_num, rfl, HPS, HIN, rfl⟩
            case measure => simp [intOf]; omega
          · have hb' : inM (x * a) = false := by simpa using hbig
            have HT := hide (times3_big hb')
            have HE := hide (pow8_big (unhide HB0) (pow_stays (unhide HP) hlt (by rw [hps]; exact hb')))
            clear hbig hb' hps
            go_wp2_with (go_at_call 71; refine (opMul_eq _ _ ga gb _ ((unhide HG).drewN _) hxb (unhide HA) _ _ HT).mono ?_; rintro e w1 ⟨rfl, q', rfl⟩; simp only [errV_7])
            go_ret2
            exact gives_el (c := 7) HE.out rfl
        · have hkn : k = n := by omega
          subst hkn
          have HE := hide (pow8_ok (unhide HB0) (unhide HP) (unhide hx) (unhide hin))
          go_wp2
          go_ret2
          exact gives_el (c := 0) HE.out rfl
  · subst h1
    go_enter Tryz.func76, Tryz.ntmps76
    go_wp2_with (go_at_call 48; refine (isWithin_eq _ _ _ _ _ HW).mono ?_; rintro e w ⟨rfl, rfl⟩)
    go_loopw [6, 7, 21] (fun v _ i wr => ∃ (k : Nat) (x : Int) (q : Nat), k ≤ n ∧ i = .int .i64 k ∧ v = .int .i64 x ∧ Hid (a ^ k = x) ∧ Hid (inM x = true) ∧ wr = w.drewN q) (fun _ _ i _ => n - (intOf i).toNat)
    case atStart => exact ⟨0, 1, 0, Nat.zero_le _, rfl, rfl, hide (by simp), hide rfl, rfl⟩
    case round =>
      obtain ⟨k, x, q, hk, rfl, rfl, hx, hin, rfl⟩ := hrel
      have hxb := inM_bd (unhide hin)
      by_cases hlt : k < n
      · have hps : a ^ (k + 1) = x * a := by rw [Int.pow_succ, unhide hx]
        by_cases hbig : inM (x * a) = true
        · obtain ⟨y, hy⟩ : ∃ y, x * a = y := ⟨_, rfl⟩
          have HT := hide (times3_ok hy (by rw [← hy]; exact hbig))
          rw [hy] at hps hbig
          have HPS := hide hps
          have HIN := hide hbig
          clear hy hbig hps
          go_wp2_with (go_at_call 71; refine (opMul_eq _ _ ga gb _ ((unhide HG).drewN _) hxb (unhide HA) _ _ HT).mono ?_; rintro e w1 ⟨rfl, q', rfl⟩; simp only [errV_0])
          go_roundw
          case rel => exact ⟨k + 1, y, _, by omega, by go_num, rfl, HPS, HIN, rfl⟩
          case measure => simp [intOf]; omega
        · have hb' : inM (x * a) = false := by simpa using hbig
          have HT := hide (times3_big hb')
          have HE := hide (pow8_big (unhide HB0) (pow_stays (unhide HP) hlt (by rw [hps]; exact hb')))
          clear hbig hb' hps
          go_wp2_with (go_at_call 71; refine (opMul_eq _ _ ga gb _ ((unhide HG).drewN _) hxb (unhide HA) _ _ HT).mono ?_; rintro e w1 ⟨rfl, q', rfl⟩; simp only [errV_7])
          go_ret2
          exact gives_el (c := 7) HE.out rfl
      · have hkn : k = n := by omega
        subst hkn
        have HE := hide (pow8_ok (unhide HB0) (unhide HP) (unhide hx) (unhide hin))
        go_wp2
        go_ret2
        exact gives_el (c := 0) HE.out rfl

set_option maxHeartbeats 400000 in
theorem opPow (a b : Int) (ga gb : Addr) (w : World) (hG : Gl w ga gb) (ha : -1000000000000000 ≤ a ∧ a ≤ 1000000000000000) (hb : -1000000000000000 ≤ b ∧ b ≤ 1000000000000000) : Calls Tryz.prog 76 #[.int .i64 a, .int .i64 b] w (GivesEl ga gb (twoOf 8 a b) w) := by
  by_cases h0 : b < 0
  · have hc := hG.no
    have HE : Hid (twoOf 8 a b = (0, 3)) := by
      show _ = _
      have e : twoOf 8 a b = (if b < 0 then (0, 3) else limited (powOf a b)) := rfl
      rw [e, if_pos h0]
    clear hG ha hb
    go_enter Tryz.func76, Tryz.ntmps76
    go_wp2
    go_quiet (fail)
    go_wp2
    go_ret2
    exact gives_el (c := 3) HE.out rfl
  · by_cases hs : withinB a (-1) 1 = true ∧ 2 < b
    · have hm : 0 ≤ b.tmod 2 ∧ b.tmod 2 ≤ 1 := by rw [Int.tmod_eq_emod_of_nonneg (by omega)]; omega
      have hn : 2 - b.tmod 2 = ((2 - b.tmod 2).toNat : Int) := by omega
      have ha' := of_decide_eq_true hs.1
      exact power_loop a b _ ga gb w hG ha (by omega) hb.2 (powLoop_small (by omega) hs.2 hn) (.inr ⟨hs.1, hs.2, hn⟩)
    · have hn : b = (b.toNat : Int) := by omega
      exact power_loop a b _ ga gb w hG ha (by omega) hb.2 (powLoop_plain hn) (.inl ⟨hs, hn⟩)

end Go.Proofs.YtheocceclpplhaaGreatDoor
namespace Go.Proofs.YtheocceclpplhaaGreatDoor
open Go.RowKit Go.Shelf

set_option maxHeartbeats 400000 in
theorem opMinT (a b : Int) (w : World) (r : Int) (hr : Hid ((if a < b then a else b) = r)) : Calls Tryz.prog 85 #[.int .i64 a, .int .i64 b] w fun e w' => e = .returned (.int .i64 r) ∧ w' = w := by
  rw [← unhide hr]
  clear hr
  by_cases h : a < b
  · rw [if_pos h]
    go_enter Tryz.func85, Tryz.ntmps85
    go_wp2
    go_ret
    exact ⟨rfl, rfl⟩
  · rw [if_neg h]
    by_cases h2 : a = b
    · subst h2
      go_enter Tryz.func85, Tryz.ntmps85
      go_wp2
      go_ret
      exact ⟨rfl, rfl⟩
    · have h3 : b < a := by omega
      clear h2
      go_enter Tryz.func85, Tryz.ntmps85
      go_wp2
      go_ret
      exact ⟨rfl, rfl⟩

set_option maxHeartbeats 400000 in
theorem opMaxT (a b : Int) (w : World) (r : Int) (hr : Hid ((if a < b then b else a) = r)) : Calls Tryz.prog 86 #[.int .i64 a, .int .i64 b] w fun e w' => e = .returned (.int .i64 r) ∧ w' = w := by
  rw [← unhide hr]
  clear hr
  by_cases h : a < b
  · rw [if_pos h]
    go_enter Tryz.func86, Tryz.ntmps86
    go_wp2
    go_ret
    exact ⟨rfl, rfl⟩
  · rw [if_neg h]
    by_cases h2 : a = b
    · subst h2
      go_enter Tryz.func86, Tryz.ntmps86
      go_wp2
      go_ret
      exact ⟨rfl, rfl⟩
    · have h3 : b < a := by omega
      clear h2
      go_enter Tryz.func86, Tryz.ntmps86
      go_wp2
      go_ret
      exact ⟨rfl, rfl⟩

theorem logic_no {a b op : Int} (h : ¬ ((a = 0 ∨ a = 1) ∧ (b = 0 ∨ b = 1))) (hop : op = 15 ∨ op = 16) : twoOf op a b = (0, 3) := by
  rcases hop with rfl | rfl <;> simp [twoOf] <;> omega
theorem logic_and {a b : Int} (ha : a = 0 ∨ a = 1) (hb : b = 0 ∨ b = 1) : twoOf 15 a b = (if a < b then a else b, 0) := by
  rcases ha with rfl | rfl <;> rcases hb with rfl | rfl <;> decide
theorem logic_or {a b : Int} (ha : a = 0 ∨ a = 1) (hb : b = 0 ∨ b = 1) : twoOf 16 a b = (if a < b then b else a, 0) := by
  rcases ha with rfl | rfl <;> rcases hb with rfl | rfl <;> decide
theorem within01 {a : Int} (h : a = 0 ∨ a = 1) : withinB a 0 1 = true := decide_eq_true (by omega)
theorem within01_no {a : Int} (h : ¬ (a = 0 ∨ a = 1)) : withinB a 0 1 = false := decide_eq_false (by omega)

set_option maxHeartbeats 1000000 in
theorem opLogic (op a b : Int) (ga gb : Addr) (p : Nat) (w : World) (hG : Gl w ga gb) (hop : (op = 15 ∧ w.cell? ⟨p, 0, none⟩ = some (.func (.func 85) #[] #[])) ∨ (op = 16 ∧ w.cell? ⟨p, 0, none⟩ = some (.func (.func 86) #[] #[]))) :
    Calls Tryz.prog 91 #[.int .i64 a, .int .i64 b, .pointer (some ⟨p, 0, none⟩)] w (GivesEl ga gb (twoOf op a b) w) := by
  have hc := hG.no
  clear hG
  by_cases hA : a = 0 ∨ a = 1
  · have HWA := hide (within01 hA)
    by_cases hB : b = 0 ∨ b = 1
    · have HWB := hide (within01 hB)
      rcases hop with ⟨rfl, hf⟩ | ⟨rfl, hf⟩
      · have HE := hide (logic_and hA hB)
        obtain ⟨r, hr⟩ : ∃ r, (if a < b then a else b) = r := ⟨_, rfl⟩
        rw [hr] at HE
        have HR := hide hr
        clear hr hA hB
        go_enter Tryz.func91, Tryz.ntmps91
        go_wp2_with (first
          | (go_at_call_of 92 (Value.int .i64 a); refine (isTruth_eq _ _ _ HWA).mono ?_; rintro e w ⟨rfl, rfl⟩)
          | (go_at_call_of 92 (Value.int .i64 b); refine (isTruth_eq _ _ _ HWB).mono ?_; rintro e w ⟨rfl, rfl⟩)
          | (go_at_call 85; refine (opMinT _ _ _ _ HR).mono ?_; rintro e w ⟨rfl, rfl⟩))
        go_ret2
        exact gives_el (c := 0) (q := 0) HE.out rfl
      · have HE := hide (logic_or hA hB)
        obtain ⟨r, hr⟩ : ∃ r, (if a < b then b else a) = r := ⟨_, rfl⟩
        rw [hr] at HE
        have HR := hide hr
        clear hr hA hB
        go_enter Tryz.func91, Tryz.ntmps91
        go_wp2_with (first
          | (go_at_call_of 92 (Value.int .i64 a); refine (isTruth_eq _ _ _ HWA).mono ?_; rintro e w ⟨rfl, rfl⟩)
          | (go_at_call_of 92 (Value.int .i64 b); refine (isTruth_eq _ _ _ HWB).mono ?_; rintro e w ⟨rfl, rfl⟩)
          | (go_at_call 86; refine (opMaxT _ _ _ _ HR).mono ?_; rintro e w ⟨rfl, rfl⟩))
        go_ret2
        exact gives_el (c := 0) (q := 0) HE.out rfl
    · have HWB := hide (within01_no hB)
      have HE := hide (logic_no (op := op) (a := a) (b := b) (fun h => hB h.2) (by rcases hop with h | h; exact .inl h.1; exact .inr h.1))
      clear hop hA hB
      go_enter Tryz.func91, Tryz.ntmps91
      go_wp2_with (first
        | (go_at_call_of 92 (Value.int .i64 a); refine (isTruth_eq _ _ _ HWA).mono ?_; rintro e w ⟨rfl, rfl⟩)
        | (go_at_call_of 92 (Value.int .i64 b); refine (isTruth_eq _ _ _ HWB).mono ?_; rintro e w ⟨rfl, rfl⟩))
      go_quiet (fail)
      go_wp2
      go_ret2
      exact gives_el (c := 3) HE.out rfl
  · have HWA := hide (within01_no hA)
    have HE := hide (logic_no (op := op) (a := a) (b := b) (fun h => hA h.1) (by rcases hop with h | h; exact .inl h.1; exact .inr h.1))
    clear hop hA
    go_enter Tryz.func91, Tryz.ntmps91
    go_wp2_with (go_at_call 92; refine (isTruth_eq _ _ _ HWA).mono ?_; rintro e w ⟨rfl, rfl⟩)
    go_quiet (fail)
    go_wp2
    go_ret2
    exact gives_el (c := 3) HE.out rfl

/-- The value is a function that gives f of two numbers within bounds, in whatever world holds what lies in w. -/
def OpIs (ga gb : Addr) (f : Int → Int → Int × Int) (v : Value) (w : World) : Prop :=
  ∃ g lb, v = .func (.func g) #[] lb ∧ (∀ args w, (callFunc g args).run Tryz.prog w = .ok (.enter g args) w) ∧ ∀ (W : World) (a b : Int), Below w.heap.size w W → (-1000000000000000 ≤ a ∧ a ≤ 1000000000000000) → (-1000000000000000 ≤ b ∧ b ≤ 1000000000000000) → Calls Tryz.prog g (#[.int .i64 a, .int .i64 b] ++ lb) W (GivesEl ga gb (f a b) W)

theorem OpIs.below {ga gb : Addr} {f : Int → Int → Int × Int} {v : Value} {w w' : World} (h : OpIs ga gb f v w) (hb : Below w.heap.size w w') : OpIs ga gb f v w' := by
  obtain ⟨g, lb, hv, eg, hc⟩ := h
  exact ⟨g, lb, hv, eg, fun W a b hW ha hbb => hc W a b (hb.trans (hW.mono hb.size)) ha hbb⟩

theorem OpIs.alloc {ga gb : Addr} {f : Int → Int → Int × Int} {v : Value} {w : World} (h : OpIs ga gb f v w) (o : Obj) : OpIs ga gb f v (w.alloc o) := h.below ((Below.refl _ _).alloc (Nat.le_refl _) _)

/-- The table of operations; those for truths keep their function in the blocks p and q. -/
def opTab (p q : Nat) : Array Value := #[.nilFunc, .func (.func 68) #[] #[], .func (.func 70) #[] #[], .func (.func 71) #[] #[], .func (.func 72) #[] #[], .func (.func 73) #[] #[], .func (.func 74) #[] #[], .func (.func 75) #[] #[], .func (.func 76) #[] #[], .func (.func 77) #[] #[], .func (.func 79) #[] #[], .func (.func 80) #[] #[], .func (.func 81) #[] #[], .func (.func 82) #[] #[], .func (.func 83) #[] #[], .func (.func 91) #[] #[.pointer (some ⟨p, 0, none⟩)], .func (.func 91) #[] #[.pointer (some ⟨q, 0, none⟩)]]

theorem opTab_is (ga gb : Addr) (p q k : Nat) (v : Value) (w : World) (hG : Gl w ga gb) (hk : 1 ≤ k ∧ k ≤ 16) (hv : (opTab p q)[k]? = some v) (hp : w.cell? ⟨p, 0, none⟩ = some (.func (.func 85) #[] #[])) (hq : w.cell? ⟨q, 0, none⟩ = some (.func (.func 86) #[] #[])) : OpIs ga gb (twoOf k) v w := by
  have hpl := World.block_lt_of_cell? _ _ hp
  have hql := World.block_lt_of_cell? _ _ hq
  rcases (show k = 1 ∨ k = 2 ∨ k = 3 ∨ k = 4 ∨ k = 5 ∨ k = 6 ∨ k = 7 ∨ k = 8 ∨ k = 9 ∨ k = 10 ∨ k = 11 ∨ k = 12 ∨ k = 13 ∨ k = 14 ∨ k = 15 ∨ k = 16 by omega) with rfl | rfl | rfl | rfl | rfl | rfl | rfl | rfl | rfl | rfl | rfl | rfl | rfl | rfl | rfl | rfl
  all_goals (obtain rfl := Option.some.inj hv)
  · exact ⟨_, _, rfl, enters_of Tryz.func68 (by kernel_rfl) rfl, fun W a b hW ha hb => opAdd a b ga gb W (hG.below hW) ha hb⟩
  · exact ⟨_, _, rfl, enters_of Tryz.func70 (by kernel_rfl) rfl, fun W a b hW ha hb => opSub a b ga gb W (hG.below hW) ha hb⟩
  · exact ⟨_, _, rfl, enters_of Tryz.func71 (by kernel_rfl) rfl, fun W a b hW ha hb => opMul a b ga gb W (hG.below hW) ha hb⟩
  · exact ⟨_, _, rfl, enters_of Tryz.func72 (by kernel_rfl) rfl, fun W a b hW ha hb => opDiv a b ga gb W (hG.below hW) ha hb⟩
  · exact ⟨_, _, rfl, enters_of Tryz.func73 (by kernel_rfl) rfl, fun W a b _ ha hb => opMin a b ga gb W ha hb⟩
  · exact ⟨_, _, rfl, enters_of Tryz.func74 (by kernel_rfl) rfl, fun W a b _ ha hb => opMax a b ga gb W ha hb⟩
  · exact ⟨_, _, rfl, enters_of Tryz.func75 (by kernel_rfl) rfl, fun W a b _ ha hb => opMod a b ga gb W ha hb⟩
  · exact ⟨_, _, rfl, enters_of Tryz.func76 (by kernel_rfl) rfl, fun W a b hW ha hb => opPow a b ga gb W (hG.below hW) ha hb⟩
  · exact ⟨_, _, rfl, enters_of Tryz.func77 (by kernel_rfl) rfl, fun W a b _ ha hb => opEqual a b ga gb W ha hb⟩
  · exact ⟨_, _, rfl, enters_of Tryz.func79 (by kernel_rfl) rfl, fun W a b _ ha hb => opNe a b ga gb W ha hb⟩
  · exact ⟨_, _, rfl, enters_of Tryz.func80 (by kernel_rfl) rfl, fun W a b _ ha hb => opLt a b ga gb W ha hb⟩
  · exact ⟨_, _, rfl, enters_of Tryz.func81 (by kernel_rfl) rfl, fun W a b _ ha hb => opLe a b ga gb W ha hb⟩
  · exact ⟨_, _, rfl, enters_of Tryz.func82 (by kernel_rfl) rfl, fun W a b _ ha hb => opGe a b ga gb W ha hb⟩
  · exact ⟨_, _, rfl, enters_of Tryz.func83 (by kernel_rfl) rfl, fun W a b _ ha hb => opGt a b ga gb W ha hb⟩
  · exact ⟨_, _, rfl, enters_of Tryz.func91 (by kernel_rfl) rfl, fun W a b hW _ _ => opLogic 15 a b ga gb p W (hG.below hW) (.inl ⟨rfl, (hW.cell (p := ⟨p, 0, none⟩) hpl).trans hp⟩)⟩
  · exact ⟨_, _, rfl, enters_of Tryz.func91 (by kernel_rfl) rfl, fun W a b hW _ _ => opLogic 16 a b ga gb q W (hG.below hW) (.inr ⟨rfl, (hW.cell (p := ⟨q, 0, none⟩) hql).trans hq⟩)⟩

set_option maxHeartbeats 400000 in
theorem ofTruths_any (v : Value) (hv : v = .func (.func 85) #[] #[] ∨ v = .func (.func 86) #[] #[]) (w : World) : Calls Tryz.prog 84 #[v] w fun e w' => e = .returned (.func (.func 91) #[] #[.pointer (some ⟨w.heap.size, 0, none⟩)]) ∧ w' = w.alloc (.cells #[v] 86) := by
  rcases hv with rfl | rfl
  all_goals
    go_enter Tryz.func84, Tryz.ntmps84
    go_wp2
    go_ret
    exact ⟨rfl, rfl⟩

end Go.Proofs.YtheocceclpplhaaGreatDoor
namespace Go.Proofs.YtheocceclpplhaaGreatDoor
open Go.RowKit Go.Shelf

set_option maxHeartbeats 4000000 in
theorem operationOf_any (k : Nat) (ga gb : Addr) (w : World) (hG : Gl w ga gb) (hk : 1 ≤ k ∧ k ≤ 16) : Calls Tryz.prog 52 #[.int .i64 (k : Nat)] w fun e w' => ∃ v, e = .returned v ∧ OpIs ga gb (twoOf k) v w' ∧ Below w.heap.size w w' := by
  obtain ⟨v, hv⟩ : ∃ v, (opTab w.heap.size (w.heap.size + 1))[k]? = some v := ⟨_, Array.getElem?_eq_getElem (by show k < 17; omega)⟩
  have HV := hide hv
  have HG := hide hG
  have HK := hide hk
  obtain ⟨hk1, hk2⟩ := hk
  have hc : (((w.alloc (.cells #[.func (.func 85) #[] #[]] 86)).alloc (.cells #[.func (.func 86) #[] #[]] 86)).alloc (.cells (opTab w.heap.size (w.heap.size + 1)) 89)).cell? ⟨w.heap.size + 1 + 1, k, none⟩ = some v := by
    rw [cell_of_row _ _ k (opTab w.heap.size (w.heap.size + 1)) 89 (0, 0) (by simpa using heap_alloc_last ((w.alloc (.cells #[.func (.func 85) #[] #[]] 86)).alloc (.cells #[.func (.func 86) #[] #[]] 86)) (.cells (opTab w.heap.size (w.heap.size + 1)) 89))]
    exact hv
  unfold opTab at hc
  clear hv hG
  go_enter Tryz.func52, Tryz.ntmps52
  go_wp2_with fail
  refine (ofTruths_any _ (.inl rfl) _).mono ?_
  rintro e w1 ⟨rfl, rfl⟩
  go_wp2_with fail
  refine (ofTruths_any _ (.inr rfl) _).mono ?_
  rintro e w1 ⟨rfl, rfl⟩
  go_wp2
  go_ret
  refine ⟨v, rfl, ?_, (((Below.refl _ _).alloc (Nat.le_refl _) _).alloc (by simp) _).alloc (by simp; omega) _⟩
  have hA := Below.refl (w.heap.size + 1) (w.alloc (.cells #[.func (.func 85) #[] #[]] 86))
  have hA2 := (hA.alloc (by simp) (.cells #[.func (.func 86) #[] #[]] 86)).alloc (by simp) (.cells (opTab w.heap.size (w.heap.size + 1)) 89)
  have hB2 := (Below.refl (w.heap.size + 2) ((w.alloc (.cells #[.func (.func 85) #[] #[]] 86)).alloc (.cells #[.func (.func 86) #[] #[]] 86))).alloc (by simp) (.cells (opTab w.heap.size (w.heap.size + 1)) 89)
  have hp := (hA2.cell (p := ⟨w.heap.size, 0, none⟩) (by simp)).trans (cell_of_row _ _ 0 _ _ (0, 0) (heap_alloc_last w _))
  have hq := (hB2.cell (p := ⟨w.heap.size + 1, 0, none⟩) (by simp)).trans (cell_of_row _ _ 0 _ _ (0, 0) (by simpa using heap_alloc_last (w.alloc (.cells #[.func (.func 85) #[] #[]] 86)) (.cells #[.func (.func 86) #[] #[]] 86)))
  exact opTab_is ga gb w.heap.size (w.heap.size + 1) k v _ ((((unhide HG).alloc _).alloc _).alloc _) (unhide HK) (unhide HV) hp hq

theorem opIn_nat {op : Int} (h : opIn op = true) : ∃ k : Nat, op = k ∧ 1 ≤ k ∧ k ≤ 16 := by
  have := of_decide_eq_true h
  exact ⟨op.toNat, by omega, by omega, by omega⟩

theorem operationOf_eq (op : Int) (ga gb : Addr) (w : World) (hG : Gl w ga gb) (h : opIn op = true) : Calls Tryz.prog 52 #[.int .i64 op] w fun e w' => ∃ v, e = .returned v ∧ OpIs ga gb (twoOf op) v w' ∧ Below w.heap.size w w' := by
  obtain ⟨k, rfl, hk⟩ := opIn_nat h
  exact operationOf_any k ga gb w hG hk

/-- What operationOn's answer gives of two elements. -/
def elemFn (op : Int) (c d : Bool) (x y : Int) : Int × Int := if c ≠ d then (truth (decide (op = 10)), 0) else twoOf op x y

set_option maxHeartbeats 400000 in
theorem clo77 (op : Int) (ga gb : Addr) (p : Nat) (v : Value) (x y : Int) (W : World) (hv : OpIs ga gb (twoOf op) v W) (hop : opEq op = true) (hc : W.cell? ⟨p, 0, none⟩ = some v) : Calls Tryz.prog 53 #[.int .i64 x, .int .i64 y, .pointer (some ⟨p, 0, none⟩)] W (GivesEl ga gb (truth (decide (op = 10)), 0) W) := by
  obtain ⟨g, lb, rfl, eg, hcall⟩ := hv
  have h01 := hcall W 0 1 (Below.refl _ _) (by omega) (by omega)
  have he : twoOf op 0 1 = (truth (decide (op = 10)), 0) := by
    have := of_decide_eq_true hop
    rcases this with rfl | rfl <;> rfl
  rw [he] at h01
  have HC := hide h01
  clear h01 hcall he hop
  obtain ⟨t, ht⟩ : ∃ t, truth (decide (op = 10)) = t := ⟨_, rfl⟩
  rw [ht] at HC ⊢
  clear ht
  go_enter Tryz.func53, Tryz.ntmps53
  go_wp2_with (go_at_fn g; refine (unhide HC).mono ?_; rintro e w1 ⟨rfl, q, rfl⟩; simp only [errV_0])
  go_ret2
  exact gives_el (c := 0) rfl rfl

/-- What operationOn answers. -/
def OnIs (ga gb : Addr) (op : Int) (c d : Bool) (v : Value) (w : World) : Prop := ((c || d) = true ∧ opEq op = false ∧ v = .nilFunc) ∨ (¬ ((c || d) = true ∧ opEq op = false) ∧ OpIs ga gb (elemFn op c d) v w)

end Go.Proofs.YtheocceclpplhaaGreatDoor
namespace Go.Proofs.YtheocceclpplhaaGreatDoor
open Go.RowKit Go.Shelf

theorem elemFn_same {op : Int} {c : Bool} : elemFn op c c = twoOf op := by funext x y; simp [elemFn]
theorem elemFn_diff {op : Int} {c d : Bool} (h : c ≠ d) : elemFn op c d = fun _ _ => (truth (decide (op = 10)), 0) := by funext x y; simp [elemFn, h]

/-- The boxes of two arrays behind a call. -/
theorem twoBoxes {w w1 : World} {c d : Bool} {v1 v2 u1 u2 : Value} (hb : Below ((w.alloc (.cells #[.bool c, v1, v2] 26)).alloc (.cells #[.bool d, u1, u2] 26)).heap.size ((w.alloc (.cells #[.bool c, v1, v2] 26)).alloc (.cells #[.bool d, u1, u2] 26)) w1) :
    Box w1 w.heap.size c v1 v2 ∧ Box w1 (w.heap.size + 1) d u1 u2 ∧ Below w.heap.size w w1 := by
  refine ⟨((Box.new w c v1 v2).alloc _).below (Nat.le_refl _) hb, ?_, (((Below.refl _ _).alloc (Nat.le_refl _) _).alloc (by simp) _).trans (hb.mono (by simp; omega))⟩
  have := (Box.new (w.alloc (.cells #[.bool c, v1, v2] 26)) d u1 u2).below (Nat.le_refl _) hb
  simpa using this

theorem opIs77 {ga gb : Addr} {op : Int} {c d : Bool} {v : Value} {w1 : World} (hv : OpIs ga gb (twoOf op) v w1) (hop : opEq op = true) (hne : c ≠ d) : OpIs ga gb (elemFn op c d) (.func (.func 53) #[] #[.pointer (some ⟨w1.heap.size, 0, none⟩)]) (w1.alloc (.cells #[v] 56)) := by
  refine ⟨_, _, rfl, enters_of Tryz.func53 (by kernel_rfl) rfl, fun W a b hW _ _ => ?_⟩
  rw [elemFn_diff hne]
  exact clo77 op ga gb _ v a b W ((hv.alloc _).below hW) hop ((hW.cell (p := ⟨w1.heap.size, 0, none⟩) (by simp)).trans (cell_of_row _ _ 0 _ _ (0, 0) (heap_alloc_last w1 _)))

set_option maxHeartbeats 4000000 in
theorem operationOn_any (op : Int) (c d : Bool) (a1 a2 b1 b2 : Addr) (n1 n2 m1 m2 c1 c2 d1 d2 : Nat) (ga gb : Addr) (w : World) (hG : Gl w ga gb) (hop : opIn op = true) :
    Calls Tryz.prog 28 #[.int .i64 op, .agg #[.bool c, .slice (some a1) n1 c1, .slice (some a2) n2 c2], .agg #[.bool d, .slice (some b1) m1 d1, .slice (some b2) m2 d2]] w fun e w' => ∃ v, e = .returned v ∧ OnIs ga gb op c d v w' ∧ Below w.heap.size w w' := by
  have HG := hide hG
  have HOP := hide hop
  clear hG hop
  by_cases he : opEq op = true
  · have he' := of_decide_eq_true he
    have HE := hide he
    clear he
    cases c <;> cases d
    all_goals rcases he' with rfl | rfl
    all_goals
      go_enter Tryz.func28, Tryz.ntmps28
      go_wp2_with (go_at_call 52; refine (operationOf_eq _ ga gb _ (((unhide HG).alloc _).alloc _) (unhide HOP)).mono ?_; rintro e w1 ⟨v, rfl, hv, hb1⟩; obtain ⟨B3, B4, hB1⟩ := twoBoxes hb1; obtain ⟨x0, x1, x2, x3, x4, x5, x6⟩ := B3.all; obtain ⟨y0, y1, y2, y3, y4, y5, y6⟩ := B4.all; have HV := hide hv; have HB := hide hB1; obtain ⟨g, lb, rfl, eg, _⟩ := hv; clear hb1 hB1 B3 B4)
      go_ret
      refine ⟨_, rfl, .inr ⟨fun h => (by have := unhide HE; rw [this] at h; cases h.2), ?_⟩, (unhide HB).alloc (by omega) _⟩
      first | (rw [elemFn_same]; exact (unhide HV).alloc _) | exact opIs77 (unhide HV) (unhide HE) (by decide)
  · have he2 : opEq op = false := by simpa using he
    have HE := hide he2
    have he3 := of_decide_eq_false he2
    have q9 : (op != 9) = true := by simp; omega
    have q10 : (op != 10) = true := by simp; omega
    clear he he2 he3
    cases c <;> cases d
    all_goals
      go_enter Tryz.func28, Tryz.ntmps28
      go_wp2_with (go_at_call 52; refine (operationOf_eq _ ga gb _ (((unhide HG).alloc _).alloc _) (unhide HOP)).mono ?_; rintro e w1 ⟨v, rfl, hv, hb1⟩; obtain ⟨B3, B4, hB1⟩ := twoBoxes hb1; obtain ⟨x0, x1, x2, x3, x4, x5, x6⟩ := B3.all; obtain ⟨y0, y1, y2, y3, y4, y5, y6⟩ := B4.all; have HV := hide hv; have HB := hide hB1; obtain ⟨g, lb, rfl, eg, _⟩ := hv; clear hb1 hB1 B3 B4)
      go_ret
      first
      | exact ⟨_, rfl, .inr ⟨fun h => (by cases h.1), by rw [elemFn_same]; exact (unhide HV).alloc _⟩, (unhide HB).alloc (by omega) _⟩
      | exact ⟨_, rfl, .inl ⟨rfl, unhide HE, rfl⟩, (unhide HB).alloc (by omega) _⟩

end Go.Proofs.YtheocceclpplhaaGreatDoor
