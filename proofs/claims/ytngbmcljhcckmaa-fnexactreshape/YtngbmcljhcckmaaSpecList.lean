import Derived.Test.YtngbmcljhcckmaaSpecListN
namespace Go.Proofs.Ytngbmcljhcckmaa
open Go.RowKit

set_option maxHeartbeats 400000 in
theorem l3Fill_any (c : Bool) (w : World) : Calls Try.prog 42 #[.bool c] w fun e w' => e = .returned (.int .i64 (fillOf c)) ∧ w' = w := by
  cases c
  all_goals
    go_enter Try.func42, Try.ntmps42
    go_wp2
    go_ret
    exact ⟨rfl, rfl⟩

end Go.Proofs.Ytngbmcljhcckmaa
