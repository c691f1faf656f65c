import Derived.Test.YtajmbmadcebeoaaImplFlip
import Derived.Test.YtajmbmadcebeoaaSpecFlipF
import Derived.Test.YtajmbmadcebeoaaVOpenAFlipView
namespace Go.Proofs.Ytajmbmadcebeoaa

theorem flipView_holds : Rows.FnExactFlipViewSaid := OpenFlipView.over FlipView_spec (fun c a1 a2 n1 n2 c1 c2 sh dt ax w h1 h2 _ _ => FlipView_impl c a1 a2 n1 n2 c1 c2 sh dt ax w h1 h2)

end Go.Proofs.Ytajmbmadcebeoaa
