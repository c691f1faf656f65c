import Derived.Test.YtogmcecnckgcpaaBase
import Derived.Test.YtogmcecnckgcpaaChecked
import Derived.Test.YtogmcecnckgcpaaTwoMath
namespace Go.Proofs.Ytogmcecnckgcpaa
open Go.RowKit

set_option maxHeartbeats 400000 in
theorem l4Truth_any (b : Bool) (w : World) : Calls Try.prog 43 #[.bool b] w fun e w' => e = .returned (.int .i64 (truth b)) ∧ w' = w := by
  cases b
  all_goals
    go_enter Try.func43, Try.ntmps43
    go_wp2
    go_ret
    exact ⟨rfl, rfl⟩

end Go.Proofs.Ytogmcecnckgcpaa
