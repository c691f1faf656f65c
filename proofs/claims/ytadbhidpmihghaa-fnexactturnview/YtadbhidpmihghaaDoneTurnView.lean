import Derived.Test.YtadbhidpmihghaaImplTurn
import Derived.Test.YtadbhidpmihghaaSpecTurnF
import Derived.Test.YtadbhidpmihghaaVOpenS1TurnView
namespace Go.Proofs.Ytadbhidpmihghaa

theorem turnView_holds : Rows.FnExactTurnViewSaid := OpenTurnView.over TurnView_spec (fun c a1 a2 n1 n2 c1 c2 sh dt s0 u0 v0 zs w h1 h2 k1 _ _ _ _ => TurnView_impl c a1 a2 n1 n2 c1 c2 sh dt s0 u0 v0 zs w h1 h2 k1)

end Go.Proofs.Ytadbhidpmihghaa
