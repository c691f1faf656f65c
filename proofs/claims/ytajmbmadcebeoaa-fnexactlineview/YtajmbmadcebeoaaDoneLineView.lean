import Derived.Test.YtajmbmadcebeoaaImplLine
import Derived.Test.YtajmbmadcebeoaaVOpenLine
namespace Go.Proofs.Ytajmbmadcebeoaa

theorem lineView_holds : Rows.FnExactLineViewSaid := OpenVLine.over LineView_impl

end Go.Proofs.Ytajmbmadcebeoaa
