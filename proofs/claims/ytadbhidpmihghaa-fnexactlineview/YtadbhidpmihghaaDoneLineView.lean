import Derived.Test.YtadbhidpmihghaaImplLine
import Derived.Test.YtadbhidpmihghaaVOpenLine
namespace Go.Proofs.Ytadbhidpmihghaa

theorem lineView_holds : Rows.FnExactLineViewSaid := OpenVLine.over LineView_impl

end Go.Proofs.Ytadbhidpmihghaa
