import Derived.Test.YtenjpfiiiblehaaImplOk
import Derived.Test.YtenjpfiiiblehaaOpenOk
namespace Go.Proofs.Ytenjpfiiiblehaa

theorem arrayOk_holds : Rows.FnExactArrayOkSaid := OpenOk.over ImplOk_holds

end Go.Proofs.Ytenjpfiiiblehaa
