import Derived.Test.YtpondlabofeohaaDoorImplFoldA
import Derived.Test.YtpondlabofeohaaDoorSpecFoldF
import Derived.Test.YtpondlabofeohaaDoorCardDFFold
namespace Go.Proofs.YtpondlabofeohaaDoor

theorem fold_holds : Rows.FnExactFoldCardSaid := OpenFold.card Fold_spec (fun op c a1 a2 n1 n2 c1 c2 sh dt fl w h1 h2 hc1 _ ga gb hG => implFold_any op c a1 a2 n1 n2 c1 c2 sh dt fl w h1 h2 hc1 ga gb hG)

end Go.Proofs.YtpondlabofeohaaDoor
