import Derived.Test.YtabjnlhhefkekaaDoorImplFoldA
import Derived.Test.YtabjnlhhefkekaaDoorSpecFoldF
import Derived.Test.YtabjnlhhefkekaaDoorCardDFFold
namespace Go.Proofs.YtabjnlhhefkekaaDoor

theorem fold_holds : Rows.FnExactFoldCardSaid := OpenFold.card Fold_spec (fun op c a1 a2 n1 n2 c1 c2 sh dt fl w h1 h2 hc1 _ ga gb hG => implFold_any op c a1 a2 n1 n2 c1 c2 sh dt fl w h1 h2 hc1 ga gb hG)

end Go.Proofs.YtabjnlhhefkekaaDoor
