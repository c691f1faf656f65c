import Derived.Test.YtogmcecnckgcpaaImplOk
import Derived.Test.YtogmcecnckgcpaaOpenOk
namespace Go.Proofs.Ytogmcecnckgcpaa

theorem arrayOk_holds : Rows.FnExactArrayOkSaid := OpenOk.over ImplOk_holds

end Go.Proofs.Ytogmcecnckgcpaa
