import Derived.Test.YtadbhidpmihghabImplCut7
import Derived.Test.YtadbhidpmihghabSpecCutF
import Derived.Test.YtadbhidpmihghabVOpenS2CutView
namespace Go.Proofs.Ytadbhidpmihghab

theorem cutView_holds : Rows.FnExactCutViewSaid := OpenCutView.over CutView_spec (fun c a1 a2 n1 n2 c1 c2 sh dt s0 u0 v0 fr s1 u1 v1 ns w h1 h2 k1 k2 _ _ _ _ _ _ => CutView_impl c a1 a2 n1 n2 c1 c2 sh dt s0 u0 v0 fr s1 u1 v1 ns w h1 h2 k1 k2)

end Go.Proofs.Ytadbhidpmihghab
