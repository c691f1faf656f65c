import Derived.Test.YtgjpchnkodnieaaGreatDoorMFit3
namespace Go.Proofs.YtgjpchnkodnieaaGreatDoor
open Go.RowKit

theorem inM_truth (x : Bool) : inM (truth x) = true := by cases x <;> rfl
theorem order_in {op a b : Int} (ha : -1000000000000000 ≤ a ∧ a ≤ 1000000000000000) (hb : -1000000000000000 ≤ b ∧ b ≤ 1000000000000000) : inM (orderOf op a b) = true := by
  unfold orderOf
  repeat' split
  all_goals first | exact inM_truth _ | exact inM_of (by omega) (by omega)

theorem two_order_eq {a b : Int} (ha : -1000000000000000 ≤ a ∧ a ≤ 1000000000000000) (hb : -1000000000000000 ≤ b ∧ b ≤ 1000000000000000) (op : Int) (hop : op = 5 ∨ op = 6 ∨ op = 9 ∨ op = 10 ∨ op = 11 ∨ op = 12 ∨ op = 13 ∨ op = 14) : twoOf op a b = (orderOf op a b, 0) := by
  have h : twoOf op a b = limited (orderOf op a b, true) := by rcases hop with rfl | rfl | rfl | rfl | rfl | rfl | rfl | rfl <;> rfl
  rw [h, lim_ok (order_in ha hb)]

set_option maxHeartbeats 4000000 in
theorem two_order {a b : Int} (ha : -1000000000000000 ≤ a ∧ a ≤ 1000000000000000) (hb : -1000000000000000 ≤ b ∧ b ≤ 1000000000000000) (op : Int) (hop : op = 5 ∨ op = 6 ∨ op = 9 ∨ op = 10 ∨ op = 11 ∨ op = 12 ∨ op = 13 ∨ op = 14) : TwoC op a b := by
  intro w
  have HE := hide (two_order_eq ha hb op hop)
  have HR := hide (order_in (op := op) ha hb)
  obtain ⟨v, hv⟩ : ∃ v, orderOf op a b = v := ⟨_, rfl⟩
  have HV := hide hv
  rw [hv] at HE HR
  clear hv
  have hop' := hop
  rcases hop with rfl | rfl | rfl | rfl | rfl | rfl | rfl | rfl
  all_goals
    go_enter Tryz.func183, Tryz.ntmps183
    go_wp2_with (first | (go_at_call 237; refine (l4Order_eq _ _ _ _ hop' _ HV).mono ?_; rintro e w1 ⟨rfl, rfl⟩) | (go_at_call 202; refine (l4In_eq _ _ _ HR).mono ?_; rintro e w1 ⟨rfl, rfl⟩))
    go_ret2
    exact ⟨ret_two (by rw [unhide HE]) (by rw [unhide HE]), rfl⟩

set_option maxHeartbeats 4000000 in
theorem two_logic {a b : Int} (ha : -1000000000000000 ≤ a ∧ a ≤ 1000000000000000) (hb : -1000000000000000 ≤ b ∧ b ≤ 1000000000000000) (op : Int) (hop : op = 15 ∨ op = 16) : TwoC op a b := by
  intro w
  obtain ⟨ha1, ha2⟩ := ha
  obtain ⟨hb1, hb2⟩ := hb
  by_cases hA : a = 0 ∨ a = 1
  · by_cases hB : b = 0 ∨ b = 1
    · rcases hA with rfl | rfl <;> rcases hB with rfl | rfl <;> rcases hop with rfl | rfl
      all_goals
        go_enter Tryz.func183, Tryz.ntmps183
        go_wp2_with (first | (go_at_call 200; refine (truth_call _ _).mono ?_; rintro e w1 ⟨rfl, rfl⟩; simp only [truth, if_true, if_false, Bool.false_eq_true]) | (go_at_call 202; refine (l4In_any _ _).mono ?_; rintro e w1 ⟨rfl, rfl⟩; simp only [inM]))
        go_ret2
        exact ⟨ret_two (by decide) (by decide), rfl⟩
    · have u0 : (b != 0) = true := by simp; omega
      have u1 : (b != 1) = true := by simp; omega
      have HE : Hid (twoOf op a b = (0, 3)) := by
        show _ = _
        rcases hop with rfl | rfl <;> simp [twoOf] <;> omega
      rcases hA with rfl | rfl <;> rcases hop with rfl | rfl
      all_goals
        go_enter Tryz.func183, Tryz.ntmps183
        go_wp2
        go_ret2
        exact ⟨ret_two (by rw [unhide HE]) (by rw [unhide HE]), rfl⟩
  · have u0 : (a != 0) = true := by simp; omega
    have u1 : (a != 1) = true := by simp; omega
    have HE : Hid (twoOf op a b = (0, 3)) := by
      show _ = _
      rcases hop with rfl | rfl <;> simp [twoOf] <;> omega
    rcases hop with rfl | rfl
    all_goals
      go_enter Tryz.func183, Tryz.ntmps183
      go_wp2
      go_ret2
      exact ⟨ret_two (by rw [unhide HE]) (by rw [unhide HE]), rfl⟩

theorem l4Two_any {a b : Int} (ha : -1000000000000000 ≤ a ∧ a ≤ 1000000000000000) (hb : -1000000000000000 ≤ b ∧ b ≤ 1000000000000000) (op : Int) (hop : 1 ≤ op ∧ op ≤ 16) : TwoC op a b := by
  have h : op = 1 ∨ op = 2 ∨ op = 3 ∨ op = 4 ∨ (op = 5 ∨ op = 6 ∨ op = 9 ∨ op = 10 ∨ op = 11 ∨ op = 12 ∨ op = 13 ∨ op = 14) ∨ op = 7 ∨ op = 8 ∨ (op = 15 ∨ op = 16) := by omega
  rcases h with rfl | rfl | rfl | rfl | h | rfl | rfl | h
  · exact two1 ha hb
  · exact two2 ha hb
  · exact two3 ha hb
  · exact two4 ha hb
  · exact two_order ha hb op h
  · exact two7 ha hb
  · exact two8 ha hb
  · exact two_logic ha hb op h

end Go.Proofs.YtgjpchnkodnieaaGreatDoor
