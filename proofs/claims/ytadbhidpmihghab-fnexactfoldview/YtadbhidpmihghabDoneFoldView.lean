import Derived.Test.YtadbhidpmihghabImplFold
import Derived.Test.YtadbhidpmihghabSpecFold7F
import Derived.Test.YtadbhidpmihghabVOpenS1FoldView
namespace Go.Proofs.Ytadbhidpmihghab

theorem foldView_holds : Rows.FnExactFoldViewSaid := OpenFoldView.over FoldView_spec (fun c a1 a2 n1 n2 c1 c2 sh dt s0 u0 v0 zs w h1 h2 k1 _ _ _ _ => FoldView_impl c a1 a2 n1 n2 c1 c2 sh dt s0 u0 v0 zs w h1 h2 k1)

end Go.Proofs.Ytadbhidpmihghab
