import Derived.Test.YtgjpchnkodnieaaGreatDoorSpecTwoC
namespace Go.Proofs.YtgjpchnkodnieaaGreatDoor
open Go.RowKit

theorem l4In_eq (v : Int) (w : World) (r : Bool) (hr : Hid (inM v = r)) : Calls Tryz.prog 202 #[.int .i64 v] w fun e w' => e = .returned (.bool r) ∧ w' = w := by
  rw [← unhide hr]; exact l4In_any v w
theorem l4Mod_eq (a b : Int) (w : World) (ha : -1000000000000000 ≤ a ∧ a ≤ 1000000000000000) (hb : -1000000000000000 ≤ b ∧ b ≤ 1000000000000000) (r : Int) (hr : Hid (modOf a b = r)) : Calls Tryz.prog 196 #[.int .i64 a, .int .i64 b] w fun e w' => e = .returned (.int .i64 r) ∧ w' = w := by
  rw [← unhide hr]; exact l4Mod_any a b w ha hb
theorem l4Power_eq (a b : Int) (w : World) (ha : -1000000000000000 ≤ a ∧ a ≤ 1000000000000000) (hb0 : 0 ≤ b) (hb : b ≤ 1000000000000000) (r1 : Int) (r2 : Bool) (hr : Hid (powOf a b = (r1, r2))) : Calls Tryz.prog 236 #[.int .i64 a, .int .i64 b] w fun e w' => e = .returned (.tuple #[.int .i64 r1, .bool r2]) ∧ w' = w := by
  have := l4Power_any a b w ha hb0 hb
  rw [unhide hr] at this
  exact this
theorem l4Order_eq (op a b : Int) (w : World) (hop : op = 5 ∨ op = 6 ∨ op = 9 ∨ op = 10 ∨ op = 11 ∨ op = 12 ∨ op = 13 ∨ op = 14) (r : Int) (hr : Hid (orderOf op a b = r)) : Calls Tryz.prog 237 #[.int .i64 op, .int .i64 a, .int .i64 b] w fun e w' => e = .returned (.int .i64 r) ∧ w' = w := by
  rw [← unhide hr]; exact l4Order_any op a b w hop

theorem lim_ok {v : Int} (h : inM v = true) : limited (v, true) = (v, 0) := by simp [limited, h]
theorem lim_no {v : Int} (h : inM v = false) : limited (v, true) = (0, 7) := by simp [limited, h]
theorem lim_bad {v : Int} : limited (v, false) = (0, 7) := by simp [limited]

def TwoC (op a b : Int) : Prop := ∀ w : World, Calls Tryz.prog 183 #[.int .i64 op, .int .i64 a, .int .i64 b] w fun e w' => e = .returned (.tuple #[.int .i64 (twoOf op a b).1, .int .i64 (twoOf op a b).2]) ∧ w' = w

set_option maxHeartbeats 1000000 in
theorem two1 {a b : Int} (ha : -1000000000000000 ≤ a ∧ a ≤ 1000000000000000) (hb : -1000000000000000 ≤ b ∧ b ≤ 1000000000000000) : TwoC 1 a b := by
  intro w
  obtain ⟨ha1, ha2⟩ := ha
  obtain ⟨hb1, hb2⟩ := hb
  obtain ⟨r, hr⟩ : ∃ r, inM (a + b) = r := ⟨_, rfl⟩
  have HR := hide hr
  cases r with
  | true =>
    have HE : Hid (twoOf 1 a b = (a + b, 0)) := lim_ok hr
    clear hr
    go_enter Tryz.func183, Tryz.ntmps183
    go_wp2_with (go_at_call 202; refine (l4In_eq _ _ _ HR).mono ?_; rintro e w1 ⟨rfl, rfl⟩)
    go_ret2
    exact ⟨ret_two (by rw [unhide HE]) (by rw [unhide HE]), rfl⟩
  | false =>
    have HE : Hid (twoOf 1 a b = (0, 7)) := lim_no hr
    clear hr
    go_enter Tryz.func183, Tryz.ntmps183
    go_wp2_with (go_at_call 202; refine (l4In_eq _ _ _ HR).mono ?_; rintro e w1 ⟨rfl, rfl⟩)
    go_ret2
    exact ⟨ret_two (by rw [unhide HE]) (by rw [unhide HE]), rfl⟩

set_option maxHeartbeats 1000000 in
theorem two2 {a b : Int} (ha : -1000000000000000 ≤ a ∧ a ≤ 1000000000000000) (hb : -1000000000000000 ≤ b ∧ b ≤ 1000000000000000) : TwoC 2 a b := by
  intro w
  obtain ⟨ha1, ha2⟩ := ha
  obtain ⟨hb1, hb2⟩ := hb
  obtain ⟨r, hr⟩ : ∃ r, inM (a - b) = r := ⟨_, rfl⟩
  have HR := hide hr
  cases r with
  | true =>
    have HE : Hid (twoOf 2 a b = (a - b, 0)) := lim_ok hr
    clear hr
    go_enter Tryz.func183, Tryz.ntmps183
    go_wp2_with (go_at_call 202; refine (l4In_eq _ _ _ HR).mono ?_; rintro e w1 ⟨rfl, rfl⟩)
    go_ret2
    exact ⟨ret_two (by rw [unhide HE]) (by rw [unhide HE]), rfl⟩
  | false =>
    have HE : Hid (twoOf 2 a b = (0, 7)) := lim_no hr
    clear hr
    go_enter Tryz.func183, Tryz.ntmps183
    go_wp2_with (go_at_call 202; refine (l4In_eq _ _ _ HR).mono ?_; rintro e w1 ⟨rfl, rfl⟩)
    go_ret2
    exact ⟨ret_two (by rw [unhide HE]) (by rw [unhide HE]), rfl⟩

set_option maxHeartbeats 1000000 in
theorem two3 {a b : Int} (ha : -1000000000000000 ≤ a ∧ a ≤ 1000000000000000) (hb : -1000000000000000 ≤ b ∧ b ≤ 1000000000000000) : TwoC 3 a b := by
  intro w
  have HE : Hid (twoOf 3 a b = limited (timesOf a b)) := rfl
  obtain ⟨q, hq⟩ : ∃ q, timesOf a b = q := ⟨_, rfl⟩
  obtain ⟨v, ok⟩ := q
  have HQ := hide hq
  rw [hq] at HE
  clear hq
  cases ok with
  | false =>
    rw [lim_bad] at HE
    go_enter Tryz.func183, Tryz.ntmps183
    go_wp2_with (go_at_call 201; refine (l4Times_eq _ _ _ ha hb _ _ HQ).mono ?_; rintro e w1 ⟨rfl, rfl⟩)
    go_ret2
    exact ⟨ret_two (by rw [unhide HE]) (by rw [unhide HE]), rfl⟩
  | true =>
    obtain ⟨r, hr⟩ : ∃ r, inM v = r := ⟨_, rfl⟩
    have HR := hide hr
    cases r with
    | true =>
      rw [lim_ok hr] at HE
      clear hr
      go_enter Tryz.func183, Tryz.ntmps183
      go_wp2_with (first | (go_at_call 201; refine (l4Times_eq _ _ _ ha hb _ _ HQ).mono ?_; rintro e w1 ⟨rfl, rfl⟩) | (go_at_call 202; refine (l4In_eq _ _ _ HR).mono ?_; rintro e w1 ⟨rfl, rfl⟩))
      go_ret2
      exact ⟨ret_two (by rw [unhide HE]) (by rw [unhide HE]), rfl⟩
    | false =>
      rw [lim_no hr] at HE
      clear hr
      go_enter Tryz.func183, Tryz.ntmps183
      go_wp2_with (first | (go_at_call 201; refine (l4Times_eq _ _ _ ha hb _ _ HQ).mono ?_; rintro e w1 ⟨rfl, rfl⟩) | (go_at_call 202; refine (l4In_eq _ _ _ HR).mono ?_; rintro e w1 ⟨rfl, rfl⟩))
      go_ret2
      exact ⟨ret_two (by rw [unhide HE]) (by rw [unhide HE]), rfl⟩

set_option maxHeartbeats 1000000 in
theorem two4 {a b : Int} (ha : -1000000000000000 ≤ a ∧ a ≤ 1000000000000000) (hb : -1000000000000000 ≤ b ∧ b ≤ 1000000000000000) : TwoC 4 a b := by
  intro w
  obtain ⟨ha1, ha2⟩ := ha
  obtain ⟨hb1, hb2⟩ := hb
  have HE : Hid (twoOf 4 a b = (if a = 0 ∧ b = 0 then (1, 0) else if b = 0 ∨ a.tmod b ≠ 0 then (0, 3) else limited (a.tdiv b, true))) := rfl
  by_cases hz : b = 0
  · subst hz
    by_cases h0 : a = 0
    · subst h0
      rw [if_pos ⟨rfl, rfl⟩] at HE
      go_enter Tryz.func183, Tryz.ntmps183
      go_wp2
      go_ret2
      exact ⟨ret_two (by rw [unhide HE]) (by rw [unhide HE]), rfl⟩
    · rw [if_neg (fun h => h0 h.1), if_pos (.inl rfl)] at HE
      have q0 : (a == 0) = false := by simp [h0]
      go_enter Tryz.func183, Tryz.ntmps183
      go_wp2
      go_ret2
      exact ⟨ret_two (by rw [unhide HE]) (by rw [unhide HE]), rfl⟩
  have qz : (b == 0) = false := by simp [hz]
  rw [if_neg (fun h => hz h.2)] at HE
  obtain ⟨m, hm⟩ : ∃ m, a.tmod b = m := ⟨_, rfl⟩
  rw [hm] at HE
  by_cases hm0 : m = 0
  · subst hm0
    rw [if_neg (by simp [hz])] at HE
    have hd : -1000000000000000 ≤ a.tdiv b ∧ a.tdiv b ≤ 1000000000000000 := by
      have h1 := Int.natAbs_tdiv_le_natAbs a b
      omega
    obtain ⟨v, hv⟩ : ∃ v, a.tdiv b = v := ⟨_, rfl⟩
    rw [hv] at HE hd
    rw [lim_ok (inM_of hd.1 hd.2)] at HE
    obtain ⟨hd1, hd2⟩ := hd
    have HR : Hid (inM v = true) := inM_of hd1 hd2
    by_cases h0 : a = 0
    · subst h0
      have hv0 : v = 0 := by rw [← hv]; simp
      subst hv0
      clear hv hm
      go_enter Tryz.func183, Tryz.ntmps183
      go_wp2_with (go_at_call 202; refine (l4In_eq _ _ _ HR).mono ?_; rintro e w1 ⟨rfl, rfl⟩)
      go_ret2
      exact ⟨ret_two (by rw [unhide HE]) (by rw [unhide HE]), rfl⟩
    · have q0 : (a == 0) = false := by simp [h0]
      go_enter Tryz.func183, Tryz.ntmps183
      go_wp2_with (go_at_call 202; refine (l4In_eq _ _ _ HR).mono ?_; rintro e w1 ⟨rfl, rfl⟩)
      go_ret2
      exact ⟨ret_two (by rw [unhide HE]) (by rw [unhide HE]), rfl⟩
  · rw [if_pos (.inr hm0)] at HE
    have qm : (m != 0) = true := by simp [hm0]
    have h0 : ¬ a = 0 := by rintro rfl; simp at hm; exact hm0 hm.symm
    have q0 : (a == 0) = false := by simp [h0]
    go_enter Tryz.func183, Tryz.ntmps183
    go_wp2
    go_ret2
    exact ⟨ret_two (by rw [unhide HE]) (by rw [unhide HE]), rfl⟩

set_option maxHeartbeats 1000000 in
theorem two7 {a b : Int} (ha : -1000000000000000 ≤ a ∧ a ≤ 1000000000000000) (hb : -1000000000000000 ≤ b ∧ b ≤ 1000000000000000) : TwoC 7 a b := by
  intro w
  have HE : Hid (twoOf 7 a b = limited (modOf a b, true)) := rfl
  obtain ⟨v, hv⟩ : ∃ v, modOf a b = v := ⟨_, rfl⟩
  have HV := hide hv
  rw [hv] at HE
  clear hv
  obtain ⟨r, hr⟩ : ∃ r, inM v = r := ⟨_, rfl⟩
  have HR := hide hr
  cases r with
  | true =>
    rw [lim_ok hr] at HE
    clear hr
    go_enter Tryz.func183, Tryz.ntmps183
    go_wp2_with (first | (go_at_call 196; refine (l4Mod_eq _ _ _ ha hb _ HV).mono ?_; rintro e w1 ⟨rfl, rfl⟩) | (go_at_call 202; refine (l4In_eq _ _ _ HR).mono ?_; rintro e w1 ⟨rfl, rfl⟩))
    go_ret2
    exact ⟨ret_two (by rw [unhide HE]) (by rw [unhide HE]), rfl⟩
  | false =>
    rw [lim_no hr] at HE
    clear hr
    go_enter Tryz.func183, Tryz.ntmps183
    go_wp2_with (first | (go_at_call 196; refine (l4Mod_eq _ _ _ ha hb _ HV).mono ?_; rintro e w1 ⟨rfl, rfl⟩) | (go_at_call 202; refine (l4In_eq _ _ _ HR).mono ?_; rintro e w1 ⟨rfl, rfl⟩))
    go_ret2
    exact ⟨ret_two (by rw [unhide HE]) (by rw [unhide HE]), rfl⟩

set_option maxHeartbeats 1000000 in
theorem two8 {a b : Int} (ha : -1000000000000000 ≤ a ∧ a ≤ 1000000000000000) (hb : -1000000000000000 ≤ b ∧ b ≤ 1000000000000000) : TwoC 8 a b := by
  intro w
  have HE : Hid (twoOf 8 a b = (if b < 0 then (0, 3) else limited (powOf a b))) := rfl
  by_cases hn : b < 0
  · rw [if_pos hn] at HE
    go_enter Tryz.func183, Tryz.ntmps183
    go_wp2
    go_ret2
    exact ⟨ret_two (by rw [unhide HE]) (by rw [unhide HE]), rfl⟩
  rw [if_neg hn] at HE
  obtain ⟨q, hq⟩ : ∃ q, powOf a b = q := ⟨_, rfl⟩
  obtain ⟨v, ok⟩ := q
  have HQ := hide hq
  rw [hq] at HE
  clear hq
  cases ok with
  | false =>
    rw [lim_bad] at HE
    go_enter Tryz.func183, Tryz.ntmps183
    go_wp2_with (go_at_call 236; refine (l4Power_eq _ _ _ ha (by omega) hb.2 _ _ HQ).mono ?_; rintro e w1 ⟨rfl, rfl⟩)
    go_ret2
    exact ⟨ret_two (by rw [unhide HE]) (by rw [unhide HE]), rfl⟩
  | true =>
    obtain ⟨r, hr⟩ : ∃ r, inM v = r := ⟨_, rfl⟩
    have HR := hide hr
    cases r with
    | true =>
      rw [lim_ok hr] at HE
      clear hr
      go_enter Tryz.func183, Tryz.ntmps183
      go_wp2_with (first | (go_at_call 236; refine (l4Power_eq _ _ _ ha (by omega) hb.2 _ _ HQ).mono ?_; rintro e w1 ⟨rfl, rfl⟩) | (go_at_call 202; refine (l4In_eq _ _ _ HR).mono ?_; rintro e w1 ⟨rfl, rfl⟩))
      go_ret2
      exact ⟨ret_two (by rw [unhide HE]) (by rw [unhide HE]), rfl⟩
    | false =>
      rw [lim_no hr] at HE
      clear hr
      go_enter Tryz.func183, Tryz.ntmps183
      go_wp2_with (first | (go_at_call 236; refine (l4Power_eq _ _ _ ha (by omega) hb.2 _ _ HQ).mono ?_; rintro e w1 ⟨rfl, rfl⟩) | (go_at_call 202; refine (l4In_eq _ _ _ HR).mono ?_; rintro e w1 ⟨rfl, rfl⟩))
      go_ret2
      exact ⟨ret_two (by rw [unhide HE]) (by rw [unhide HE]), rfl⟩

end Go.Proofs.YtgjpchnkodnieaaGreatDoor
