import Derived.Test.YtenjpfiiiblehaaImplSame
import Derived.Test.YtenjpfiiiblehaaOpenSame
namespace Go.Proofs.Ytenjpfiiiblehaa

theorem same_holds : Rows.FnExactSameSaid := over ImplSame_holds

end Go.Proofs.Ytenjpfiiiblehaa
