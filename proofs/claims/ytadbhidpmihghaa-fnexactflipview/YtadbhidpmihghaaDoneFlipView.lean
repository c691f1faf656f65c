import Derived.Test.YtadbhidpmihghaaImplFlip
import Derived.Test.YtadbhidpmihghaaSpecFlipF
import Derived.Test.YtadbhidpmihghaaVOpenAFlipView
namespace Go.Proofs.Ytadbhidpmihghaa

theorem flipView_holds : Rows.FnExactFlipViewSaid := OpenFlipView.over FlipView_spec (fun c a1 a2 n1 n2 c1 c2 sh dt ax w h1 h2 _ _ => FlipView_impl c a1 a2 n1 n2 c1 c2 sh dt ax w h1 h2)

end Go.Proofs.Ytadbhidpmihghaa
