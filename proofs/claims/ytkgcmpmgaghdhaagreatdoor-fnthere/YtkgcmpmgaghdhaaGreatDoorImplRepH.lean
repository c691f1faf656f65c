import Derived.Test.YtkgcmpmgaghdhaaGreatDoorImplLineOf
import Derived.Test.YtkgcmpmgaghdhaaGreatDoorImplJointT
import Derived.Test.YtkgcmpmgaghdhaaGreatDoorMFit1
import Derived.Test.YtkgcmpmgaghdhaaGreatDoorMFit0
import Derived.Test.YtkgcmpmgaghdhaaGreatDoorImplExt
import Derived.Test.YtkgcmpmgaghdhaaGreatDoorRepMore
import Derived.Test.YtkgcmpmgaghdhaaGreatDoorUpToMath
import Derived.Test.YtkgcmpmgaghdhaaGreatDoorImplUpTo
namespace Go.Proofs.YtkgcmpmgaghdhaaGreatDoor
open Go.RowKit Go.Shelf

set_option maxHeartbeats 1000000 in
theorem axisAt_any (a : Option Addr) (n cap : Nat) (fl : Bool) (w : World) (hn : 0 < n) (hs : n ≤ 10000) (r : Nat) (hr : Hid ((if fl then 0 else n - 1) = r)) :
    Calls Tryz.prog 61 #[.slice a n cap, .bool fl] w fun e w' => e = .returned (.int .i64 (r : Nat)) ∧ w' = w := by
  cases fl with
  | true =>
    have e : r = 0 := by have := unhide hr; simp at this; omega
    subst e
    clear hr
    go_enter Tryz.func61, Tryz.ntmps61
    go_wp2
    go_ret
    exact ⟨rfl, rfl⟩
  | false =>
    have e : n - 1 = r := by have := unhide hr; simpa using this
    have h1 : IntKind.i64.wrap ((n : Int) - 1) = (r : Int) := by rw [IntKind.wrap_i64]; omega
    have h2 : (n : Int) - 1 = (r : Int) := by omega
    clear hr e
    go_enter Tryz.func61, Tryz.ntmps61
    go_wp2
    go_ret
    exact ⟨rfl, rfl⟩

end Go.Proofs.YtkgcmpmgaghdhaaGreatDoor
