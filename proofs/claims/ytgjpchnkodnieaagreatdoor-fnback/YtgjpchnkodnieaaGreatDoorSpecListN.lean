import Derived.Test.YtgjpchnkodnieaaGreatDoorMFit0
import Derived.Test.YtgjpchnkodnieaaGreatDoorMFit0
namespace Go.Proofs.YtgjpchnkodnieaaGreatDoor
open Go.RowKit

set_option maxHeartbeats 400000 in
theorem l5List_any (c : Bool) (a1 : Option Addr) (n1 c1 : Nat) (v2 : Value) (w : World) (hs : n1 ≤ 17592186044416) (r : Int) (hr : Hid (listCode c n1 = r)) :
    Calls Tryz.prog 54 #[.agg #[.bool c, .slice a1 n1 c1, v2]] w fun e w' => e = .returned (.int .i64 r) ∧ Below w.heap.size w w' := by
  rw [← hr.out]
  have hW : ∀ o, Below w.heap.size w (w.alloc o) := fun o => (Below.refl _ _).alloc (Nat.le_refl _) _
  by_cases h : 1 < n1
  · have HE : Hid (listCode c n1 = 4) := by show _ = _; unfold listCode; rw [if_pos h]
    go_enter Tryz.func54, Tryz.ntmps54
    go_wp2
    go_ret
    exact ⟨ret_int HE.out.symm, hW _⟩
  · cases c
    · have HE : Hid (listCode false n1 = 0) := by show _ = _; unfold listCode; rw [if_neg h]; rfl
      go_enter Tryz.func54, Tryz.ntmps54
      go_wp2
      go_ret
      exact ⟨ret_int HE.out.symm, hW _⟩
    · have HE : Hid (listCode true n1 = 3) := by show _ = _; unfold listCode; rw [if_neg h]; rfl
      go_enter Tryz.func54, Tryz.ntmps54
      go_wp2
      go_ret
      exact ⟨ret_int HE.out.symm, hW _⟩

end Go.Proofs.YtgjpchnkodnieaaGreatDoor
