import Derived.Test.YtogmcecnckgcpaaImplSame
import Derived.Test.YtogmcecnckgcpaaOpenSame
namespace Go.Proofs.Ytogmcecnckgcpaa

theorem same_holds : Rows.FnExactSameSaid := over ImplSame_holds

end Go.Proofs.Ytogmcecnckgcpaa
