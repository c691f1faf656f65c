import Derived.Test.YtpondlabofeohaaDoorSpecInts
import Derived.Test.YtpondlabofeohaaDoorSpecNone
import Derived.Test.YtpondlabofeohaaDoorSpecTruth
import Derived.Test.YtpondlabofeohaaDoorMFirst
import Derived.Test.YtpondlabofeohaaDoorGatherMath
namespace Go.Proofs.YtpondlabofeohaaDoor
open Go.RowKit



/-- A scalar function on one number: what it gives and its code. -/
def oneOf (op v : Int) : Int × Int :=
  if op = 1 then (v, 0) else if op = 2 then (-v, 0) else if op = 3 then (truth (decide (0 < v)) - truth (decide (v < 0)), 0)
  else if op = 7 then (if v < 0 then -v else v, 0) else if v ≠ 0 ∧ v ≠ 1 then (0, 3) else (1 - v, 0)

def oneOp (op : Int) : Bool := decide (op = 1 ∨ op = 2 ∨ op = 3 ∨ op = 7 ∨ op = 17)

def scalar1 (op : Int) (c : Bool) (sh dt : List Int) : Ans :=
  if arrOk c sh dt = true ∧ oneOp op = true ∧ c = false ∧ (dt.all fun v => decide ((oneOf op v).2 = 0)) = true then ⟨false, sh, dt.map fun v => (oneOf op v).1, 0⟩ else noAns 3

set_option maxHeartbeats 400000 in
theorem l4One_any (op v : Int) (w : World) (hv : -1000000000000000 ≤ v ∧ v ≤ 1000000000000000) : Calls Tryd.prog 27 #[.int .i64 op, .int .i64 v] w fun e w' => e = .returned (.tuple #[.int .i64 (oneOf op v).1, .int .i64 (oneOf op v).2]) ∧ w' = w := by
  obtain ⟨hv1, hv2⟩ := hv
  by_cases h1 : op = 1
  · subst h1
    have HE : Hid (oneOf 1 v = (v, 0)) := rfl
    go_enter Tryd.func27, Tryd.ntmps27
    go_wp2
    go_ret2
    exact ⟨ret_two (by rw [unhide HE]) (by rw [unhide HE]), rfl⟩
  by_cases h2 : op = 2
  · subst h2
    have HE : Hid (oneOf 2 v = (-v, 0)) := rfl
    go_enter Tryd.func27, Tryd.ntmps27
    go_wp2
    go_ret2
    exact ⟨ret_two (by rw [unhide HE]) (by rw [unhide HE]), rfl⟩
  by_cases h3 : op = 3
  · subst h3
    obtain ⟨r1, hr1⟩ : ∃ r, decide (0 < v) = r := ⟨_, rfl⟩
    obtain ⟨r2, hr2⟩ : ∃ r, decide (v < 0) = r := ⟨_, rfl⟩
    have HE : Hid (oneOf 3 v = (truth r1 - truth r2, 0)) := by show _ = _; rw [← hr1, ← hr2]; rfl
    obtain ⟨b1, b2⟩ := truth_bd r1
    obtain ⟨b3, b4⟩ := truth_bd r2
    go_enter Tryd.func27, Tryd.ntmps27
    go_wp2_with (go_at_call 63; refine (l4Truth_any _ _).mono ?_; rintro e w1 ⟨rfl, rfl⟩)
    go_ret2
    exact ⟨ret_two (by rw [unhide HE]) (by rw [unhide HE]), rfl⟩
  by_cases h7 : op = 7
  · subst h7
    by_cases hn : v < 0
    · have HE : Hid (oneOf 7 v = (-v, 0)) := by show _ = _; simp [oneOf, hn]
      go_enter Tryd.func27, Tryd.ntmps27
      go_wp2
      go_ret2
      exact ⟨ret_two (by rw [unhide HE]) (by rw [unhide HE]), rfl⟩
    · have HE : Hid (oneOf 7 v = (v, 0)) := by show _ = _; simp [oneOf, hn]
      go_enter Tryd.func27, Tryd.ntmps27
      go_wp2
      go_ret2
      exact ⟨ret_two (by rw [unhide HE]) (by rw [unhide HE]), rfl⟩
  have q1 : (op == 1) = false := by simp [h1]
  have q2 : (op == 2) = false := by simp [h2]
  have q3 : (op == 3) = false := by simp [h3]
  have q7 : (op == 7) = false := by simp [h7]
  by_cases hv0 : v = 0
  · subst hv0
    have HE : Hid (oneOf op 0 = (1, 0)) := by show _ = _; simp [oneOf, h1, h2, h3, h7]
    clear h1 h2 h3 h7
    go_enter Tryd.func27, Tryd.ntmps27
    go_wp2
    go_ret2
    exact ⟨ret_two (by rw [unhide HE]) (by rw [unhide HE]), rfl⟩
  by_cases hv3 : v = 1
  · subst hv3
    have HE : Hid (oneOf op 1 = (0, 0)) := by show _ = _; simp [oneOf, h1, h2, h3, h7]
    clear h1 h2 h3 h7
    go_enter Tryd.func27, Tryd.ntmps27
    go_wp2
    go_ret2
    exact ⟨ret_two (by rw [unhide HE]) (by rw [unhide HE]), rfl⟩
  have HE : Hid (oneOf op v = (0, 3)) := by show _ = _; simp [oneOf, h1, h2, h3, h7, hv0, hv3]
  have u0 : (v != 0) = true := by simp [hv0]
  have u1 : (v != 1) = true := by simp [hv3]
  clear h1 h2 h3 h7 hv0 hv3
  go_enter Tryd.func27, Tryd.ntmps27
  go_wp2
  go_ret2
  exact ⟨ret_two (by rw [unhide HE]) (by rw [unhide HE]), rfl⟩

end Go.Proofs.YtpondlabofeohaaDoor
