import Derived.Test.YtogmcecnckgcpaaImplOkW
import Derived.Test.YtogmcecnckgcpaaLawOk
namespace Go.Proofs.Ytogmcecnckgcpaa

theorem ImplOk_holds : ImplOk := implArrayOk_any

end Go.Proofs.Ytogmcecnckgcpaa
