import Derived.Test.YtnkojndinnnimaaBase
import Derived.Test.YtnkojndinnnimaaChecked
import Derived.Test.YtnkojndinnnimaaTwoMath
namespace Go.Proofs.Ytnkojndinnnimaa
open Go.RowKit

set_option maxHeartbeats 400000 in
theorem l4Truth_any (b : Bool) (w : World) : Calls Try.prog 40 #[.bool b] w fun e w' => e = .returned (.int .i64 (truth b)) ∧ w' = w := by
  cases b
  all_goals
    go_enter Try.func40, Try.ntmps40
    go_wp2
    go_ret
    exact ⟨rfl, rfl⟩

end Go.Proofs.Ytnkojndinnnimaa
