import Derived.Test.YtadbhidpmihghaaSpecTurn
import Derived.Test.YtadbhidpmihghaaVLawS1TurnView
namespace Go.Proofs.Ytadbhidpmihghaa
open Go.RowKit

theorem TurnView_spec : LawTurnView.Spec turnVw := fun c a1 a2 n1 n2 c1 c2 sh dt s0 u0 v0 zs w h1 h2 k1 _ _ _ hb => TurnView_any c a1 a2 n1 n2 c1 c2 sh dt s0 u0 v0 zs w h1 h2 k1 hb

end Go.Proofs.Ytadbhidpmihghaa
