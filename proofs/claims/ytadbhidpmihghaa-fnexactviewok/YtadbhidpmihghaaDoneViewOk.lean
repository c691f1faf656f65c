import Derived.Test.YtadbhidpmihghaaImplVOk
import Derived.Test.YtadbhidpmihghaaVOpenOk
namespace Go.Proofs.Ytadbhidpmihghaa

theorem viewOk_holds : Rows.FnExactViewOkSaid := OpenVOk.over ViewOk_impl

end Go.Proofs.Ytadbhidpmihghaa
