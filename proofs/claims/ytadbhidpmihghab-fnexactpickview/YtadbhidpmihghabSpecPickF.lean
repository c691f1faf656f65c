import Derived.Test.YtadbhidpmihghabSpecPick
import Derived.Test.YtadbhidpmihghabVLawA1PickView
namespace Go.Proofs.Ytadbhidpmihghab
open Go.RowKit

theorem PickView_spec : LawPickView.Spec pick := fun c a1 a2 n1 n2 c1 c2 sh dt ax fr step num w h1 h2 _ _ => PickView_any c a1 a2 n1 n2 c1 c2 sh dt ax fr step num w h1 h2

end Go.Proofs.Ytadbhidpmihghab
