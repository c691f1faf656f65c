import Derived.Test.YtadbhidpmihghabSpecFold7
import Derived.Test.YtadbhidpmihghabVLawS1FoldView
namespace Go.Proofs.Ytadbhidpmihghab
open Go.RowKit

theorem FoldView_spec : LawFoldView.Spec foldV := fun c a1 a2 n1 n2 c1 c2 sh dt s0 u0 v0 zs w h1 h2 k1 _ _ _ _ => FoldView_any c a1 a2 n1 n2 c1 c2 sh dt s0 u0 v0 zs w h1 h2 k1

end Go.Proofs.Ytadbhidpmihghab
