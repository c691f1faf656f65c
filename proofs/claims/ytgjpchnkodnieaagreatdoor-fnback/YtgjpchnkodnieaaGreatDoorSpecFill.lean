import Derived.Test.YtgjpchnkodnieaaGreatDoorSpecListN
namespace Go.Proofs.YtgjpchnkodnieaaGreatDoor
open Go.RowKit

set_option maxHeartbeats 400000 in
theorem l3Fill_any (c : Bool) (w : World) : Calls Tryz.prog 74 #[.bool c] w fun e w' => e = .returned (.int .i64 (fillOf c)) ∧ w' = w := by
  cases c
  all_goals
    go_enter Tryz.func74, Tryz.ntmps74
    go_wp2
    go_ret
    exact ⟨rfl, rfl⟩

end Go.Proofs.YtgjpchnkodnieaaGreatDoor
