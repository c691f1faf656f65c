import Derived.Test.YtajmbmadcebeoabImplFold
import Derived.Test.YtajmbmadcebeoabSpecFold7F
import Derived.Test.YtajmbmadcebeoabVOpenS1FoldView
namespace Go.Proofs.Ytajmbmadcebeoab

theorem foldView_holds : Rows.FnExactFoldViewSaid := OpenFoldView.over FoldView_spec (fun c a1 a2 n1 n2 c1 c2 sh dt s0 u0 v0 zs w h1 h2 k1 _ _ _ _ => FoldView_impl c a1 a2 n1 n2 c1 c2 sh dt s0 u0 v0 zs w h1 h2 k1)

end Go.Proofs.Ytajmbmadcebeoab
