import Derived.Test.YtadbhidpmihghaaImplWhole
import Derived.Test.YtadbhidpmihghaaVOpenW
namespace Go.Proofs.Ytadbhidpmihghaa

theorem wholeView_holds : Rows.FnExactWholeViewSaid := OpenWholeView.over (F := whole) (fun a1 n1 c1 sh w h1 _ => WholeView_any a1 n1 c1 sh w h1) (fun a1 n1 c1 sh w h1 _ => WholeView_impl a1 n1 c1 sh w h1)

end Go.Proofs.Ytadbhidpmihghaa
