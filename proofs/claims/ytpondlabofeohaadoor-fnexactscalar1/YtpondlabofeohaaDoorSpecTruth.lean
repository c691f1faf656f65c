import Derived.Test.YtpondlabofeohaaDoorBase
import Derived.Test.YtpondlabofeohaaDoorChecked
import Derived.Test.YtpondlabofeohaaDoorMFirst
namespace Go.Proofs.YtpondlabofeohaaDoor
open Go.RowKit

set_option maxHeartbeats 400000 in
theorem l4Truth_any (b : Bool) (w : World) : Calls Tryd.prog 63 #[.bool b] w fun e w' => e = .returned (.int .i64 (truth b)) ∧ w' = w := by
  cases b
  all_goals
    go_enter Tryd.func63, Tryd.ntmps63
    go_wp2
    go_ret
    exact ⟨rfl, rfl⟩

end Go.Proofs.YtpondlabofeohaaDoor
