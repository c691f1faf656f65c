import Derived.Test.YtajmbmadcebeoaaImplPlaces
import Derived.Test.YtajmbmadcebeoaaVOpenP
namespace Go.Proofs.Ytajmbmadcebeoaa

theorem places_holds : Rows.FnExactPlacesSaid := OpenPlaces.over (F := places) (fun c a1 a2 n1 n2 c1 c2 sh dt cells w h1 h2 => Places_any c (some a1) (some a2) n1 n2 c1 c2 sh dt cells w h1 h2) (fun c a1 a2 n1 n2 c1 c2 sh dt cells w h1 h2 => callsIn_wide.1 (places_in c a1 a2 n1 n2 c1 c2 sh dt cells w h1 h2))

end Go.Proofs.Ytajmbmadcebeoaa
