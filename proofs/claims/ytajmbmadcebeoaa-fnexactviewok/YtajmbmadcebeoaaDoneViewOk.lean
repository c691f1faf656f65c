import Derived.Test.YtajmbmadcebeoaaImplVOk
import Derived.Test.YtajmbmadcebeoaaVOpenOk
namespace Go.Proofs.Ytajmbmadcebeoaa

theorem viewOk_holds : Rows.FnExactViewOkSaid := OpenVOk.over ViewOk_impl

end Go.Proofs.Ytajmbmadcebeoaa
