import Derived.Test.YtgjpchnkodnieaaGreatDoorImplOneB
import Derived.Test.YtgjpchnkodnieaaGreatDoorSpecTwoE
namespace Go.Proofs.YtgjpchnkodnieaaGreatDoor
open Go.RowKit Go.Shelf

/-- A number and an error as an element's function gives them; only draws. -/
def GivesEl (ga gb : Addr) (r : Int × Int) (w : World) (e : Ending) (w' : World) : Prop := e = .returned (.tuple #[.int .i64 r.1, errV ga gb r.2]) ∧ ∃ q, w' = w.drewN q

theorem gives_el {ga gb : Addr} {r : Int × Int} {x c : Int} {w w' : World} {q : Nat} (h : r = (x, c)) (hw : w' = w.drewN q) : GivesEl ga gb r w (.returned (.tuple #[.int .i64 x, errV ga gb c])) w' := ⟨ret_el h, q, hw⟩

theorem isNumber_eq (v : Int) (w : World) (r : Bool) (h : Hid (inM v = r)) : Calls Tryz.prog 215 #[.int .i64 v] w fun e w' => e = .returned (.bool r) ∧ w' = w := by
  have e : dataOk false v = r := by rw [← unhide h]; simp [dataOk, inM]
  rw [← e]; exact isNumber_any v w

set_option maxHeartbeats 400000 in
theorem limited_any (v : Int) (ga gb : Addr) (w : World) (hG : Gl w ga gb) : Calls Tryz.prog 239 #[.int .i64 v] w (GivesEl ga gb (limited (v, true)) w) := by
  have hc := hG.big
  clear hG
  by_cases h : inM v = true
  · have HE := hide (lim_ok h)
    have HT := hide h
    clear h
    go_enter Tryz.func239, Tryz.ntmps239
    go_wp2_with (go_at_call 215; refine (isNumber_eq _ _ _ HT).mono ?_; rintro e w' ⟨rfl, rfl⟩)
    go_ret2
    exact gives_el (c := 0) (q := 0) HE.out rfl
  · have h' : inM v = false := by simpa using h
    have HE := hide (lim_no h')
    have HT := hide h'
    clear h h'
    go_enter Tryz.func239, Tryz.ntmps239
    go_wp2_with (go_at_call 215; refine (isNumber_eq _ _ _ HT).mono ?_; rintro e w' ⟨rfl, rfl⟩)
    go_quiet (fail)
    go_wp2
    go_ret2
    exact gives_el (c := 7) HE.out rfl

set_option maxHeartbeats 400000 in
theorem opAdd (a b : Int) (ga gb : Addr) (w : World) (hG : Gl w ga gb) (ha : -1000000000000000 ≤ a ∧ a ≤ 1000000000000000) (hb : -1000000000000000 ≤ b ∧ b ≤ 1000000000000000) : Calls Tryz.prog 238 #[.int .i64 a, .int .i64 b] w (GivesEl ga gb (twoOf 1 a b) w) := by
  obtain ⟨ha1, ha2⟩ := ha
  obtain ⟨hb1, hb2⟩ := hb
  have hl := limited_any (a + b) ga gb w hG
  clear hG
  have HE : Hid (twoOf 1 a b = limited (a + b, true)) := rfl
  obtain ⟨r, hr⟩ : ∃ r, limited (a + b, true) = r := ⟨_, rfl⟩
  rw [hr] at hl HE
  obtain ⟨r1, r2⟩ := r
  clear hr
  have HL := hide hl
  clear hl
  obtain ⟨s, hs⟩ : ∃ s, a + b = s := ⟨_, rfl⟩
  rw [hs] at HL
  obtain ⟨ev, hev⟩ : ∃ ev, ev = errV ga gb r2 := ⟨_, rfl⟩
  go_enter Tryz.func238, Tryz.ntmps238
  go_wp2_with (go_at_call 239; refine (unhide HL).mono ?_; rintro e w1 ⟨rfl, q, rfl⟩; simp only [← hev])
  go_ret2
  rw [hev]
  exact gives_el HE.out rfl

set_option maxHeartbeats 400000 in
theorem opSub (a b : Int) (ga gb : Addr) (w : World) (hG : Gl w ga gb) (ha : -1000000000000000 ≤ a ∧ a ≤ 1000000000000000) (hb : -1000000000000000 ≤ b ∧ b ≤ 1000000000000000) : Calls Tryz.prog 240 #[.int .i64 a, .int .i64 b] w (GivesEl ga gb (twoOf 2 a b) w) := by
  obtain ⟨ha1, ha2⟩ := ha
  obtain ⟨hb1, hb2⟩ := hb
  have hl := limited_any (a - b) ga gb w hG
  clear hG
  have HE : Hid (twoOf 2 a b = limited (a - b, true)) := rfl
  obtain ⟨r, hr⟩ : ∃ r, limited (a - b, true) = r := ⟨_, rfl⟩
  rw [hr] at hl HE
  obtain ⟨r1, r2⟩ := r
  clear hr
  have HL := hide hl
  clear hl
  obtain ⟨s, hs⟩ : ∃ s, a - b = s := ⟨_, rfl⟩
  rw [hs] at HL
  obtain ⟨ev, hev⟩ : ∃ ev, ev = errV ga gb r2 := ⟨_, rfl⟩
  go_enter Tryz.func240, Tryz.ntmps240
  go_wp2_with (go_at_call 239; refine (unhide HL).mono ?_; rintro e w1 ⟨rfl, q, rfl⟩; simp only [← hev])
  go_ret2
  rw [hev]
  exact gives_el HE.out rfl


theorem magnitude_eq (v : Int) (w : World) (hv : -1000000000000000 ≤ v ∧ v ≤ 1000000000000000) (m : Int) (h : Hid ((if v < 0 then -v else v) = m)) : Calls Tryz.prog 281 #[.int .i64 v] w fun e w' => e = .returned (.int .i64 m) ∧ w' = w := by
  rw [← unhide h]; exact magnitude_any v w hv

set_option maxHeartbeats 1000000 in
theorem opMul (a b : Int) (ga gb : Addr) (w : World) (hG : Gl w ga gb) (ha : -1000000000000000 ≤ a ∧ a ≤ 1000000000000000) (hb : -1000000000000000 ≤ b ∧ b ≤ 1000000000000000) : Calls Tryz.prog 241 #[.int .i64 a, .int .i64 b] w (GivesEl ga gb (twoOf 3 a b) w) := by
  have hc := hG.big
  clear hG
  have HA := hide ha
  have HB := hide hb
  obtain ⟨ha1, ha2⟩ := ha
  obtain ⟨hb1, hb2⟩ := hb
  by_cases h0 : a = 0
  · subst h0
    have HE : Hid (twoOf 3 0 b = (0, 0)) := by show _ = _; simp [twoOf, timesOf, inM, limited]
    go_enter Tryz.func241, Tryz.ntmps241
    go_wp2
    go_ret2
    exact gives_el (c := 0) (q := 0) HE.out rfl
  have q0 : (a != 0) = true := by simp [h0]
  obtain ⟨x, hx⟩ : ∃ x, (if b < 0 then -b else b) = x := ⟨_, rfl⟩
  obtain ⟨y, hy⟩ : ∃ y, (if a < 0 then -a else a) = y := ⟨_, rfl⟩
  have HX := hide hx
  have HY := hide hy
  have hy0 : 0 < y := by rw [← hy]; split <;> omega
  have hyn : ¬ y = 0 := by omega
  have hyb : y ≤ 1000000000000000 := by rw [← hy]; split <;> omega
  have hx0 : 0 ≤ x := by rw [← hx]; split <;> omega
  have hxb : x ≤ 1000000000000000 := by rw [← hx]; split <;> omega
  have hxy : x * y = b * a ∨ x * y = -(b * a) := prod_sign (by rw [← hx]; split <;> simp) (by rw [← hy]; split <;> simp)
  rw [Int.mul_comm b a] at hxy
  have hp0 : 0 ≤ x * y := Int.mul_nonneg (by omega) (by omega)
  have hq : (1000000000000000 : Int).tdiv y < x ↔ 1000000000000000 < x * y := tdiv_lt hy0
  obtain ⟨t, ht⟩ : ∃ t, (1000000000000000 : Int).tdiv y = t := ⟨_, rfl⟩
  have htb : 0 ≤ t ∧ t ≤ 1000000000000000 := by
    rw [← ht, Int.tdiv_eq_ediv_of_nonneg (by omega)]
    exact ⟨Int.ediv_nonneg (by omega) (by omega), Int.ediv_le_self _ (by omega)⟩
  obtain ⟨ht1, ht2⟩ := htb
  rw [ht] at hq
  obtain ⟨pr, hpr⟩ : ∃ pr, a * b = pr := ⟨_, rfl⟩
  rw [hpr] at hxy
  have HT : Hid (twoOf 3 a b = limited (timesOf a b)) := rfl
  by_cases hbig : t < x
  · rw [times_big (by rw [hpr]; exact inM_not (by have := hq.mp hbig; omega)), lim_bad] at HT
    clear hq hxy hp0 h0 hx hy hpr
    go_enter Tryz.func241, Tryz.ntmps241
    go_wp2_with (first
      | (go_at_call_of 281 (Value.int .i64 b); refine (magnitude_eq _ _ (unhide HB) _ HX).mono ?_; rintro e w1 ⟨rfl, rfl⟩)
      | (go_at_call_of 281 (Value.int .i64 a); refine (magnitude_eq _ _ (unhide HA) _ HY).mono ?_; rintro e w1 ⟨rfl, rfl⟩))
    go_quiet (fail)
    go_wp2
    go_ret2
    exact gives_el (c := 7) HT.out rfl
  · have hle : x * y ≤ 1000000000000000 := by
      by_cases h' : 1000000000000000 < x * y
      · exact absurd (hq.mpr h') hbig
      · omega
    have hpb1 : -1000000000000000 ≤ pr := by omega
    have hpb2 : pr ≤ 1000000000000000 := by omega
    rw [times_ok (by rw [hpr]; exact inM_of hpb1 hpb2), hpr, lim_ok (inM_of hpb1 hpb2)] at HT
    clear hq hxy hp0 hle h0 hx hy
    go_enter Tryz.func241, Tryz.ntmps241
    go_wp2_with (first
      | (go_at_call_of 281 (Value.int .i64 b); refine (magnitude_eq _ _ (unhide HB) _ HX).mono ?_; rintro e w1 ⟨rfl, rfl⟩)
      | (go_at_call_of 281 (Value.int .i64 a); refine (magnitude_eq _ _ (unhide HA) _ HY).mono ?_; rintro e w1 ⟨rfl, rfl⟩))
    go_ret2
    exact gives_el (c := 0) (q := 0) HT.out rfl

set_option maxHeartbeats 1000000 in
theorem opDiv (a b : Int) (ga gb : Addr) (w : World) (hG : Gl w ga gb) (ha : -1000000000000000 ≤ a ∧ a ≤ 1000000000000000) (hb : -1000000000000000 ≤ b ∧ b ≤ 1000000000000000) : Calls Tryz.prog 242 #[.int .i64 a, .int .i64 b] w (GivesEl ga gb (twoOf 4 a b) w) := by
  have hc := hG.no
  clear hG
  obtain ⟨ha1, ha2⟩ := ha
  obtain ⟨hb1, hb2⟩ := hb
  have HE : Hid (twoOf 4 a b = (if a = 0 ∧ b = 0 then (1, 0) else if b = 0 ∨ a.tmod b ≠ 0 then (0, 3) else limited (a.tdiv b, true))) := rfl
  by_cases hz : b = 0
  · subst hz
    by_cases h0 : a = 0
    · subst h0
      rw [if_pos ⟨rfl, rfl⟩] at HE
      go_enter Tryz.func242, Tryz.ntmps242
      go_wp2
      go_ret2
      exact gives_el (c := 0) (q := 0) HE.out rfl
    · rw [if_neg (fun h => h0 h.1), if_pos (.inl rfl)] at HE
      have q0 : (a == 0) = false := by simp [h0]
      go_enter Tryz.func242, Tryz.ntmps242
      go_wp2
      go_quiet (fail)
      go_wp2
      go_ret2
      exact gives_el (c := 3) HE.out rfl
  have qz : (b == 0) = false := by simp [hz]
  rw [if_neg (fun h => hz h.2)] at HE
  obtain ⟨m, hm⟩ : ∃ m, a.tmod b = m := ⟨_, rfl⟩
  rw [hm] at HE
  by_cases hm0 : m = 0
  · subst hm0
    rw [if_neg (by simp [hz])] at HE
    have hd : -1000000000000000 ≤ a.tdiv b ∧ a.tdiv b ≤ 1000000000000000 := by
      have h1 := Int.natAbs_tdiv_le_natAbs a b
      omega
    obtain ⟨v, hv⟩ : ∃ v, a.tdiv b = v := ⟨_, rfl⟩
    rw [hv] at HE hd
    rw [lim_ok (inM_of hd.1 hd.2)] at HE
    obtain ⟨hd1, hd2⟩ := hd
    by_cases h0 : a = 0
    · subst h0
      have hv0 : v = 0 := by rw [← hv]; simp
      subst hv0
      clear hv hm
      go_enter Tryz.func242, Tryz.ntmps242
      go_wp2
      go_ret2
      exact gives_el (c := 0) (q := 0) HE.out rfl
    · have q0 : (a == 0) = false := by simp [h0]
      go_enter Tryz.func242, Tryz.ntmps242
      go_wp2
      go_ret2
      exact gives_el (c := 0) (q := 0) HE.out rfl
  · rw [if_pos (.inr hm0)] at HE
    have qm : (m != 0) = true := by simp [hm0]
    have h0 : ¬ a = 0 := by rintro rfl; simp at hm; exact hm0 hm.symm
    have q0 : (a == 0) = false := by simp [h0]
    go_enter Tryz.func242, Tryz.ntmps242
    go_wp2
    go_quiet (fail)
    go_wp2
    go_ret2
    exact gives_el (c := 3) HE.out rfl

end Go.Proofs.YtgjpchnkodnieaaGreatDoor
