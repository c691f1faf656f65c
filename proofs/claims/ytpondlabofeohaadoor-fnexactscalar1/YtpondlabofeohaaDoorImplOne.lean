import Derived.Test.YtpondlabofeohaaDoorImplOneB
import Derived.Test.YtpondlabofeohaaDoorSpecScalar1
namespace Go.Proofs.YtpondlabofeohaaDoor
open Go.RowKit Go.Shelf

set_option maxHeartbeats 400000 in
theorem change1 (v : Int) (a b : Addr) (w : World) : Calls Tryd.prog 64 #[.int .i64 v] w fun e w' => e = .returned (.tuple #[.int .i64 (oneOf 1 v).1, errV a b (oneOf 1 v).2]) ∧ ∃ q, w' = w.drewN q := by
  have e : oneOf 1 v = (v, 0) := rfl
  rw [e]
  go_enter Tryd.func64, Tryd.ntmps64
  go_wp2
  go_ret2
  exact ⟨rfl, 0, rfl⟩

set_option maxHeartbeats 400000 in
theorem change2 (v : Int) (a b : Addr) (w : World) (hv : -1000000000000000 ≤ v ∧ v ≤ 1000000000000000) : Calls Tryd.prog 65 #[.int .i64 v] w fun e w' => e = .returned (.tuple #[.int .i64 (oneOf 2 v).1, errV a b (oneOf 2 v).2]) ∧ ∃ q, w' = w.drewN q := by
  have e : oneOf 2 v = (-v, 0) := rfl
  rw [e]
  obtain ⟨h1, h2⟩ := hv
  go_enter Tryd.func65, Tryd.ntmps65
  go_wp2
  go_ret2
  exact ⟨rfl, 0, rfl⟩

set_option maxHeartbeats 400000 in
theorem change3 (v : Int) (a b : Addr) (w : World) (hv : -1000000000000000 ≤ v ∧ v ≤ 1000000000000000) : Calls Tryd.prog 66 #[.int .i64 v] w fun e w' => e = .returned (.tuple #[.int .i64 (oneOf 3 v).1, errV a b (oneOf 3 v).2]) ∧ ∃ q, w' = w.drewN q := by
  obtain ⟨h1, h2⟩ := hv
  rcases (show v < 0 ∨ v = 0 ∨ v = 1 ∨ 1 < v by omega) with h | rfl | rfl | h
  · have HE : Hid (oneOf 3 v = (-1, 0)) := by show _ = _; simp [oneOf, truth, h, Int.not_lt.mpr (Int.le_of_lt h)]
    have h3 : (if 1 < v then 1 else v) = v := if_neg (by omega)
    go_enter Tryd.func66, Tryd.ntmps66
    go_wp2
    go_ret2
    exact ⟨ret_el (c := 0) HE.out, 0, rfl⟩
  · go_enter Tryd.func66, Tryd.ntmps66
    go_wp2
    go_ret2
    exact ⟨rfl, 0, rfl⟩
  · go_enter Tryd.func66, Tryd.ntmps66
    go_wp2
    go_ret2
    exact ⟨rfl, 0, rfl⟩
  · have HE : Hid (oneOf 3 v = (1, 0)) := by show _ = _; simp [oneOf, truth, show 0 < v by omega, show ¬ v < 0 by omega]
    have h3 : (if 1 < v then 1 else v) = 1 := if_pos (by omega)
    go_enter Tryd.func66, Tryd.ntmps66
    go_wp2
    go_ret2
    exact ⟨ret_el (c := 0) HE.out, 0, rfl⟩

set_option maxHeartbeats 400000 in
theorem change7 (v : Int) (a b : Addr) (w : World) (hv : -1000000000000000 ≤ v ∧ v ≤ 1000000000000000) : Calls Tryd.prog 67 #[.int .i64 v] w fun e w' => e = .returned (.tuple #[.int .i64 (oneOf 7 v).1, errV a b (oneOf 7 v).2]) ∧ ∃ q, w' = w.drewN q := by
  have HE : Hid (oneOf 7 v = (if v < 0 then -v else v, 0)) := rfl
  obtain ⟨m, hm⟩ : ∃ m, m = if v < 0 then -v else v := ⟨_, rfl⟩
  have hcall := magnitude_any v w hv
  rw [← hm] at HE hcall
  clear hm hv
  go_enter Tryd.func67, Tryd.ntmps67
  go_wp2_with (go_at_call 68; refine hcall.mono ?_; rintro e w' ⟨rfl, rfl⟩)
  go_ret2
  exact ⟨ret_el (c := 0) HE.out, 0, rfl⟩

set_option maxHeartbeats 400000 in
theorem change17 (v : Int) (a b : Addr) (w : World) (hG : Gl w a b) (hv : -1000000000000000 ≤ v ∧ v ≤ 1000000000000000) : Calls Tryd.prog 69 #[.int .i64 v] w fun e w' => e = .returned (.tuple #[.int .i64 (oneOf 17 v).1, errV a b (oneOf 17 v).2]) ∧ ∃ q, w' = w.drewN q := by
  have hc := hG.no
  clear hG
  by_cases h : v = 0 ∨ v = 1
  · have HE : Hid (oneOf 17 v = (1 - v, 0)) := by rcases h with rfl | rfl <;> rfl
    have HT : Hid (withinB v 0 1 = true) := by rcases h with rfl | rfl <;> rfl
    clear h
    obtain ⟨h1, h2⟩ := hv
    go_enter Tryd.func69, Tryd.ntmps69
    go_wp2_with (go_at_call 85; refine (isTruth_eq _ _ _ HT).mono ?_; rintro e w' ⟨rfl, rfl⟩)
    go_ret2
    exact ⟨ret_el (c := 0) HE.out, 0, rfl⟩
  · have HE : Hid (oneOf 17 v = (0, 3)) := by show _ = _; simp only [not_or] at h; simp [oneOf, h]
    have HT : Hid (withinB v 0 1 = false) := decide_eq_false (by omega)
    clear h
    go_enter Tryd.func69, Tryd.ntmps69
    go_wp2_with (go_at_call 85; refine (isTruth_eq _ _ _ HT).mono ?_; rintro e w' ⟨rfl, rfl⟩)
    go_quiet (fail)
    go_wp2
    go_ret2
    exact ⟨ret_el (c := 3) HE.out, _, rfl⟩

end Go.Proofs.YtpondlabofeohaaDoor
