import Derived.Test.YtadbhidpmihghaaSpecFlip
import Derived.Test.YtadbhidpmihghaaVLawA1FlipView
namespace Go.Proofs.Ytadbhidpmihghaa
open Go.RowKit

theorem FlipView_spec : LawFlipView.Spec flip := fun c a1 a2 n1 n2 c1 c2 sh dt ax w h1 h2 _ _ => FlipView_any c a1 a2 n1 n2 c1 c2 sh dt ax w h1 h2

end Go.Proofs.Ytadbhidpmihghaa
