import Derived.Test.YtngbmcljhcckmaaOpenReplace
import Derived.Test.YtngbmcljhcckmaaSpecReplace
import Derived.Test.YtngbmcljhcckmaaImplReplace
namespace Go.Proofs.Ytngbmcljhcckmaa
open Go.RowKit

theorem Replace_spec : LawReplace.Spec replaceA := fun c d a1 a2 ap b1 b2 n1 n2 c1 c2 np cp m1 m2 d1 d2 sh dt ps sh' dt' w h1 h2 hp k1 k2 => Replace_any c d a1 a2 b1 b2 (some ap) n1 n2 c1 c2 np cp m1 m2 d1 d2 sh dt ps sh' dt' w h1 h2 hp k1 k2

theorem replace_holds : Rows.FnExactReplaceSaid := OpenReplace.over Replace_spec (fun c d a1 a2 ap b1 b2 n1 n2 c1 c2 np cp m1 m2 d1 d2 sh dt ps sh' dt' w h1 h2 hp k1 k2 => implReplace_any c d a1 a2 b1 b2 (some ap) n1 n2 c1 c2 np cp m1 m2 d1 d2 sh dt ps sh' dt' w h1 h2 hp k1 k2)

end Go.Proofs.Ytngbmcljhcckmaa
