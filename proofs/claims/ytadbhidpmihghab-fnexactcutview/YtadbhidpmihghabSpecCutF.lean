import Derived.Test.YtadbhidpmihghabSpecCut
import Derived.Test.YtadbhidpmihghabVLawS2CutView
namespace Go.Proofs.Ytadbhidpmihghab
open Go.RowKit

theorem CutView_spec : LawCutView.Spec cutV := fun c a1 a2 n1 n2 c1 c2 sh dt s0 u0 v0 fr s1 u1 v1 ns w h1 h2 k1 k2 _ _ _ _ _ _ => CutView_any c a1 a2 n1 n2 c1 c2 sh dt s0 u0 v0 fr s1 u1 v1 ns w h1 h2 k1 k2

end Go.Proofs.Ytadbhidpmihghab
