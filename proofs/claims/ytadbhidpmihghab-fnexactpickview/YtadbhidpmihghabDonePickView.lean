import Derived.Test.YtadbhidpmihghabImplPick
import Derived.Test.YtadbhidpmihghabSpecPickF
import Derived.Test.YtadbhidpmihghabVOpenAPickView
namespace Go.Proofs.Ytadbhidpmihghab

theorem pickView_holds : Rows.FnExactPickViewSaid := OpenPickView.over PickView_spec (fun c a1 a2 n1 n2 c1 c2 sh dt ax fr step num w h1 h2 _ _ => PickView_impl c a1 a2 n1 n2 c1 c2 sh dt ax fr step num w h1 h2)

end Go.Proofs.Ytadbhidpmihghab
