import Derived.Test.YtgjpchnkodnieaaGreatDoorImplTwoA
namespace Go.Proofs.YtgjpchnkodnieaaGreatDoor
open Go.RowKit Go.Shelf

set_option maxHeartbeats 400000 in
theorem implTruth_any (b : Bool) (w : World) (r : Int) (hr : Hid (truth b = r)) : Calls Tryz.prog 249 #[.bool b] w fun e w' => e = .returned (.int .i64 r) ∧ w' = w := by
  rw [← unhide hr]
  cases b
  all_goals
    go_enter Tryz.func249, Tryz.ntmps249
    go_wp2
    go_ret
    exact ⟨rfl, rfl⟩

set_option maxHeartbeats 400000 in
theorem opMin (a b : Int) (ga gb : Addr) (w : World) (ha : -1000000000000000 ≤ a ∧ a ≤ 1000000000000000) (hb : -1000000000000000 ≤ b ∧ b ≤ 1000000000000000) : Calls Tryz.prog 243 #[.int .i64 a, .int .i64 b] w (GivesEl ga gb (twoOf 5 a b) w) := by
  have HE := hide (two_order_eq ha hb 5 (by omega))
  clear ha hb
  by_cases h : a < b
  · have HO : Hid (orderOf 5 a b = a) := by show _ = _; simp [orderOf, h]
    rw [unhide HO] at HE
    go_enter Tryz.func243, Tryz.ntmps243
    go_wp2
    go_ret2
    first | exact gives_el (c := 0) (q := 0) HE.out rfl | (rw [show min a b = a by omega]; exact gives_el (c := 0) (q := 0) HE.out rfl)
  · have HO : Hid (orderOf 5 a b = b) := by show _ = _; simp [orderOf, h]
    rw [unhide HO] at HE
    by_cases h2 : a = b
    · subst h2
      go_enter Tryz.func243, Tryz.ntmps243
      go_wp2
      go_ret2
      first | exact gives_el (c := 0) (q := 0) HE.out rfl | (rw [show min a a = a by omega]; exact gives_el (c := 0) (q := 0) HE.out rfl)
    · have h3 : b < a := by omega
      clear h2
      go_enter Tryz.func243, Tryz.ntmps243
      go_wp2
      go_ret2
      first | exact gives_el (c := 0) (q := 0) HE.out rfl | (rw [show min a b = b by omega]; exact gives_el (c := 0) (q := 0) HE.out rfl)

set_option maxHeartbeats 400000 in
theorem opMax (a b : Int) (ga gb : Addr) (w : World) (ha : -1000000000000000 ≤ a ∧ a ≤ 1000000000000000) (hb : -1000000000000000 ≤ b ∧ b ≤ 1000000000000000) : Calls Tryz.prog 244 #[.int .i64 a, .int .i64 b] w (GivesEl ga gb (twoOf 6 a b) w) := by
  have HE := hide (two_order_eq ha hb 6 (by omega))
  clear ha hb
  by_cases h : a < b
  · have HO : Hid (orderOf 6 a b = b) := by show _ = _; simp [orderOf, h]
    rw [unhide HO] at HE
    go_enter Tryz.func244, Tryz.ntmps244
    go_wp2
    go_ret2
    first | exact gives_el (c := 0) (q := 0) HE.out rfl | (rw [show max a b = b by omega]; exact gives_el (c := 0) (q := 0) HE.out rfl)
  · have HO : Hid (orderOf 6 a b = a) := by show _ = _; simp [orderOf, h]
    rw [unhide HO] at HE
    by_cases h2 : a = b
    · subst h2
      go_enter Tryz.func244, Tryz.ntmps244
      go_wp2
      go_ret2
      first | exact gives_el (c := 0) (q := 0) HE.out rfl | (rw [show max a a = a by omega]; exact gives_el (c := 0) (q := 0) HE.out rfl)
    · have h3 : b < a := by omega
      clear h2
      go_enter Tryz.func244, Tryz.ntmps244
      go_wp2
      go_ret2
      first | exact gives_el (c := 0) (q := 0) HE.out rfl | (rw [show max a b = a by omega]; exact gives_el (c := 0) (q := 0) HE.out rfl)

set_option maxHeartbeats 400000 in
theorem opEqual (a b : Int) (ga gb : Addr) (w : World) (ha : -1000000000000000 ≤ a ∧ a ≤ 1000000000000000) (hb : -1000000000000000 ≤ b ∧ b ≤ 1000000000000000) : Calls Tryz.prog 248 #[.int .i64 a, .int .i64 b] w (GivesEl ga gb (twoOf 9 a b) w) := by
  have HE := hide (two_order_eq ha hb 9 (by omega))
  have HO : Hid (orderOf 9 a b = truth (decide (a = b))) := rfl
  rw [unhide HO] at HE
  clear ha hb
  by_cases h : a = b
  · have HD : Hid (truth true = 1) := rfl
    rw [decide_eq_true h] at HE
    have qe : (a == b) = true := by simp [h]
    clear h
    go_enter Tryz.func248, Tryz.ntmps248
    go_wp2_with (go_at_call 249; refine (implTruth_any _ _ _ HD).mono ?_; rintro e w1 ⟨rfl, rfl⟩)
    go_ret2
    exact gives_el (c := 0) (q := 0) HE.out rfl
  · have HD : Hid (truth false = 0) := rfl
    rw [decide_eq_false h] at HE
    have qe : (a == b) = false := by simp [h]
    clear h
    go_enter Tryz.func248, Tryz.ntmps248
    go_wp2_with (go_at_call 249; refine (implTruth_any _ _ _ HD).mono ?_; rintro e w1 ⟨rfl, rfl⟩)
    go_ret2
    exact gives_el (c := 0) (q := 0) HE.out rfl

set_option maxHeartbeats 400000 in
theorem opNe (a b : Int) (ga gb : Addr) (w : World) (ha : -1000000000000000 ≤ a ∧ a ≤ 1000000000000000) (hb : -1000000000000000 ≤ b ∧ b ≤ 1000000000000000) : Calls Tryz.prog 250 #[.int .i64 a, .int .i64 b] w (GivesEl ga gb (twoOf 10 a b) w) := by
  have HE := hide (two_order_eq ha hb 10 (by omega))
  have HO : Hid (orderOf 10 a b = truth (decide (a ≠ b))) := rfl
  rw [unhide HO] at HE
  clear ha hb
  by_cases h : a ≠ b
  · have HD : Hid (truth true = 1) := rfl
    rw [decide_eq_true h] at HE
    have qe : (a != b) = true := by simpa using h
    clear h
    go_enter Tryz.func250, Tryz.ntmps250
    go_wp2_with (go_at_call 249; refine (implTruth_any _ _ _ HD).mono ?_; rintro e w1 ⟨rfl, rfl⟩)
    go_ret2
    exact gives_el (c := 0) (q := 0) HE.out rfl
  · have HD : Hid (truth false = 0) := rfl
    rw [decide_eq_false h] at HE
    have qe : (a != b) = false := by simpa using h
    clear h
    go_enter Tryz.func250, Tryz.ntmps250
    go_wp2_with (go_at_call 249; refine (implTruth_any _ _ _ HD).mono ?_; rintro e w1 ⟨rfl, rfl⟩)
    go_ret2
    exact gives_el (c := 0) (q := 0) HE.out rfl

set_option maxHeartbeats 400000 in
theorem opLt (a b : Int) (ga gb : Addr) (w : World) (ha : -1000000000000000 ≤ a ∧ a ≤ 1000000000000000) (hb : -1000000000000000 ≤ b ∧ b ≤ 1000000000000000) : Calls Tryz.prog 251 #[.int .i64 a, .int .i64 b] w (GivesEl ga gb (twoOf 11 a b) w) := by
  have HE := hide (two_order_eq ha hb 11 (by omega))
  have HO : Hid (orderOf 11 a b = truth (decide (a < b))) := rfl
  rw [unhide HO] at HE
  clear ha hb
  by_cases h : a < b
  · have HD : Hid (truth true = 1) := rfl
    rw [decide_eq_true h] at HE
    go_enter Tryz.func251, Tryz.ntmps251
    go_wp2_with (go_at_call 249; refine (implTruth_any _ _ _ HD).mono ?_; rintro e w1 ⟨rfl, rfl⟩)
    go_ret2
    exact gives_el (c := 0) (q := 0) HE.out rfl
  · have HD : Hid (truth false = 0) := rfl
    rw [decide_eq_false h] at HE
    go_enter Tryz.func251, Tryz.ntmps251
    go_wp2_with (go_at_call 249; refine (implTruth_any _ _ _ HD).mono ?_; rintro e w1 ⟨rfl, rfl⟩)
    go_ret2
    exact gives_el (c := 0) (q := 0) HE.out rfl

set_option maxHeartbeats 400000 in
theorem opLe (a b : Int) (ga gb : Addr) (w : World) (ha : -1000000000000000 ≤ a ∧ a ≤ 1000000000000000) (hb : -1000000000000000 ≤ b ∧ b ≤ 1000000000000000) : Calls Tryz.prog 252 #[.int .i64 a, .int .i64 b] w (GivesEl ga gb (twoOf 12 a b) w) := by
  have HE := hide (two_order_eq ha hb 12 (by omega))
  have HO : Hid (orderOf 12 a b = truth (decide (a ≤ b))) := rfl
  rw [unhide HO] at HE
  clear ha hb
  by_cases h : a ≤ b
  · have HD : Hid (truth true = 1) := rfl
    rw [decide_eq_true h] at HE
    go_enter Tryz.func252, Tryz.ntmps252
    go_wp2_with (go_at_call 249; refine (implTruth_any _ _ _ HD).mono ?_; rintro e w1 ⟨rfl, rfl⟩)
    go_ret2
    exact gives_el (c := 0) (q := 0) HE.out rfl
  · have HD : Hid (truth false = 0) := rfl
    rw [decide_eq_false h] at HE
    go_enter Tryz.func252, Tryz.ntmps252
    go_wp2_with (go_at_call 249; refine (implTruth_any _ _ _ HD).mono ?_; rintro e w1 ⟨rfl, rfl⟩)
    go_ret2
    exact gives_el (c := 0) (q := 0) HE.out rfl

set_option maxHeartbeats 400000 in
theorem opGe (a b : Int) (ga gb : Addr) (w : World) (ha : -1000000000000000 ≤ a ∧ a ≤ 1000000000000000) (hb : -1000000000000000 ≤ b ∧ b ≤ 1000000000000000) : Calls Tryz.prog 253 #[.int .i64 a, .int .i64 b] w (GivesEl ga gb (twoOf 13 a b) w) := by
  have HE := hide (two_order_eq ha hb 13 (by omega))
  have HO : Hid (orderOf 13 a b = truth (decide (b ≤ a))) := rfl
  rw [unhide HO] at HE
  clear ha hb
  by_cases h : b ≤ a
  · have HD : Hid (truth true = 1) := rfl
    rw [decide_eq_true h] at HE
    go_enter Tryz.func253, Tryz.ntmps253
    go_wp2_with (go_at_call 249; refine (implTruth_any _ _ _ HD).mono ?_; rintro e w1 ⟨rfl, rfl⟩)
    go_ret2
    exact gives_el (c := 0) (q := 0) HE.out rfl
  · have HD : Hid (truth false = 0) := rfl
    rw [decide_eq_false h] at HE
    go_enter Tryz.func253, Tryz.ntmps253
    go_wp2_with (go_at_call 249; refine (implTruth_any _ _ _ HD).mono ?_; rintro e w1 ⟨rfl, rfl⟩)
    go_ret2
    exact gives_el (c := 0) (q := 0) HE.out rfl

set_option maxHeartbeats 400000 in
theorem opGt (a b : Int) (ga gb : Addr) (w : World) (ha : -1000000000000000 ≤ a ∧ a ≤ 1000000000000000) (hb : -1000000000000000 ≤ b ∧ b ≤ 1000000000000000) : Calls Tryz.prog 254 #[.int .i64 a, .int .i64 b] w (GivesEl ga gb (twoOf 14 a b) w) := by
  have HE := hide (two_order_eq ha hb 14 (by omega))
  have HO : Hid (orderOf 14 a b = truth (decide (b < a))) := rfl
  rw [unhide HO] at HE
  clear ha hb
  by_cases h : b < a
  · have HD : Hid (truth true = 1) := rfl
    rw [decide_eq_true h] at HE
    go_enter Tryz.func254, Tryz.ntmps254
    go_wp2_with (go_at_call 249; refine (implTruth_any _ _ _ HD).mono ?_; rintro e w1 ⟨rfl, rfl⟩)
    go_ret2
    exact gives_el (c := 0) (q := 0) HE.out rfl
  · have HD : Hid (truth false = 0) := rfl
    rw [decide_eq_false h] at HE
    go_enter Tryz.func254, Tryz.ntmps254
    go_wp2_with (go_at_call 249; refine (implTruth_any _ _ _ HD).mono ?_; rintro e w1 ⟨rfl, rfl⟩)
    go_ret2
    exact gives_el (c := 0) (q := 0) HE.out rfl

end Go.Proofs.YtgjpchnkodnieaaGreatDoor
