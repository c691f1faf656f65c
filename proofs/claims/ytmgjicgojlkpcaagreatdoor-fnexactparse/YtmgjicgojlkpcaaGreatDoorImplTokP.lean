import Derived.Test.YtmgjicgojlkpcaaGreatDoorTokSeen
import Derived.Test.YtmgjicgojlkpcaaGreatDoorImplNameI
namespace Go.Proofs.YtmgjicgojlkpcaaGreatDoor
open Go.RowKit

set_option maxRecDepth 20000 in
theorem isSign_any (k n at' : Int) (t s : ByteArray) (r : Bool) (hr : (decide (k = 4) && (t.toList == s.toList)) = r) (w : World) :
    Calls Tryz.prog 159 #[.agg #[.int .i64 k, .int .i64 n, .string t, .int .i64 at'], .string s] w fun e w' => e = .returned (.bool r) ∧ Below w.heap.size w w' := by
  by_cases h4 : k = 4
  case neg =>
    have hd : (k == 4) = false := by simpa using h4
    have HE : Hid (false = r) := by show _ = _; rw [← hr, decide_eq_false h4]; rfl
    clear hr h4
    go_enter Tryz.func159, Tryz.ntmps159
    go_wp2_with fail
    go_ret
    exact ⟨ret_bool (unhide HE), (Below.refl _ _).alloc (Nat.le_refl _) _⟩
  case pos =>
    subst h4
    rw [decide_eq_true rfl, Bool.true_and] at hr
    go_enter Tryz.func159, Tryz.ntmps159
    go_wp2_with fail
    go_ret
    exact ⟨rfl, (Below.refl _ _).alloc (Nat.le_refl _) _⟩

set_option maxRecDepth 20000 in
set_option maxHeartbeats 2000000 in
theorem isLowT_any (k n at' : Int) (t : ByteArray) (r : Bool) (hs : k = 3 → 0 < t.size) (hr : (decide (k = 3) && decide (97 ≤ bt t 0)) = r) (w : World) :
    Calls Tryz.prog 60 #[.agg #[.int .i64 k, .int .i64 n, .string t, .int .i64 at']] w fun e w' => e = .returned (.bool r) ∧ Below w.heap.size w w' := by
  by_cases h4 : k = 3
  case neg =>
    have hd : (k == 3) = false := by simpa using h4
    have HE : Hid (false = r) := by show _ = _; rw [← hr, decide_eq_false h4]; rfl
    clear hr h4 hs
    go_enter Tryz.func60, Tryz.ntmps60
    go_wp2_with fail
    go_ret
    exact ⟨ret_bool (unhide HE), (Below.refl _ _).alloc (Nat.le_refl _) _⟩
  case pos =>
    subst h4
    rw [decide_eq_true rfl, Bool.true_and] at hr
    have hi0 : ∀ W, (Instr.index 9 (.string t) (.int .i64 0)).run Tryz.prog W = .ok (.int .u8 (bt t 0 : Nat)) W := fun W => run_idx (s := t) (k := 0) (hs rfl) W
    obtain ⟨c, hc⟩ : ∃ c, bt t 0 = c := ⟨_, rfl⟩
    rw [hc] at hi0 hr
    have HR := hide hr
    clear hc hr hs
    go_enter Tryz.func60, Tryz.ntmps60
    go_wp2
    go_ret
    refine ⟨ret_bool ?_, (Below.refl _ _).alloc (Nat.le_refl _) _⟩
    rw [← unhide HR]
    first | exact decide_eq_decide.2 (by omega) | (simp; omega)

set_option maxRecDepth 20000 in
set_option maxHeartbeats 2000000 in
theorem isHighT_any (k n at' : Int) (t : ByteArray) (r : Bool) (hs : k = 3 → 0 < t.size) (hr : (decide (k = 3) && decide (bt t 0 ≤ 90)) = r) (w : World) :
    Calls Tryz.prog 61 #[.agg #[.int .i64 k, .int .i64 n, .string t, .int .i64 at']] w fun e w' => e = .returned (.bool r) ∧ Below w.heap.size w w' := by
  by_cases h4 : k = 3
  case neg =>
    have hd : (k == 3) = false := by simpa using h4
    have HE : Hid (false = r) := by show _ = _; rw [← hr, decide_eq_false h4]; rfl
    clear hr h4 hs
    go_enter Tryz.func61, Tryz.ntmps61
    go_wp2_with fail
    go_ret
    exact ⟨ret_bool (unhide HE), (Below.refl _ _).alloc (Nat.le_refl _) _⟩
  case pos =>
    subst h4
    rw [decide_eq_true rfl, Bool.true_and] at hr
    have hi0 : ∀ W, (Instr.index 9 (.string t) (.int .i64 0)).run Tryz.prog W = .ok (.int .u8 (bt t 0 : Nat)) W := fun W => run_idx (s := t) (k := 0) (hs rfl) W
    obtain ⟨c, hc⟩ : ∃ c, bt t 0 = c := ⟨_, rfl⟩
    rw [hc] at hi0 hr
    have HR := hide hr
    clear hc hr hs
    go_enter Tryz.func61, Tryz.ntmps61
    go_wp2
    go_ret
    refine ⟨ret_bool ?_, (Below.refl _ _).alloc (Nat.le_refl _) _⟩
    rw [← unhide HR]
    first | exact decide_eq_decide.2 (by omega) | (simp; omega)

end Go.Proofs.YtmgjicgojlkpcaaGreatDoor
