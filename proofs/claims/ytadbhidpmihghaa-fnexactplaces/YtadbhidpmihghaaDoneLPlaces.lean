import Derived.Test.YtadbhidpmihghaaImplLPlaces
import Derived.Test.YtadbhidpmihghaaVOpenP
namespace Go.Proofs.Ytadbhidpmihghaa

theorem places_holds : Rows.FnExactPlacesSaid := OpenPlaces.over (F := places) (fun c a1 a2 n1 n2 c1 c2 sh dt cells w h1 h2 => Places_any c (some a1) (some a2) n1 n2 c1 c2 sh dt cells w h1 h2) (fun c a1 a2 n1 n2 c1 c2 sh dt cells w h1 h2 => places_new c a1 a2 n1 n2 c1 c2 sh dt cells w h1 h2)

end Go.Proofs.Ytadbhidpmihghaa
