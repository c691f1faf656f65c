import Derived.Test.YtkgcmpmgaghdhaaDoorMFit0
import Derived.Test.YtkgcmpmgaghdhaaDoorMFit0
namespace Go.Proofs.YtkgcmpmgaghdhaaDoor
open Go.RowKit

set_option maxHeartbeats 400000 in
theorem l1RuneOk_any (v : Int) (w : World) : Calls Tryd.prog 29 #[.int .i64 v] w fun e w' => e = .returned (.bool (runeOk v)) ∧ w' = w := by
  by_cases h1 : 0 ≤ v
  · by_cases h2 : v ≤ 1114111
    · by_cases h3 : v < 55296
      · have HE : Hid (runeOk v = true) := decide_eq_true ⟨h1, h2, .inl h3⟩
        go_enter Tryd.func29, Tryd.ntmps29
        go_wp2
        go_ret
        exact ⟨ret_bool HE.out.symm, rfl⟩
      · by_cases h4 : 57343 < v
        · have HE : Hid (runeOk v = true) := decide_eq_true ⟨h1, h2, .inr h4⟩
          go_enter Tryd.func29, Tryd.ntmps29
          go_wp2
          go_ret
          exact ⟨ret_bool HE.out.symm, rfl⟩
        · have HE : Hid (runeOk v = false) := decide_eq_false (fun h => by omega)
          go_enter Tryd.func29, Tryd.ntmps29
          go_wp2
          go_ret
          exact ⟨ret_bool HE.out.symm, rfl⟩
    · have HE : Hid (runeOk v = false) := decide_eq_false (fun h => by omega)
      go_enter Tryd.func29, Tryd.ntmps29
      go_wp2
      go_ret
      exact ⟨ret_bool HE.out.symm, rfl⟩
  · have HE : Hid (runeOk v = false) := decide_eq_false (fun h => by omega)
    go_enter Tryd.func29, Tryd.ntmps29
    go_wp2
    go_ret
    exact ⟨ret_bool HE.out.symm, rfl⟩

theorem l1RuneOk_eq (v : Int) (w : World) (b : Bool) (h : Hid (runeOk v = b)) : Calls Tryd.prog 29 #[.int .i64 v] w fun e w' => e = .returned (.bool b) ∧ w' = w := by
  rw [← h.out]; exact l1RuneOk_any v w

end Go.Proofs.YtkgcmpmgaghdhaaDoor
