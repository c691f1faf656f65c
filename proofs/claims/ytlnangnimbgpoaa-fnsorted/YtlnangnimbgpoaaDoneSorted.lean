import Derived.Test.YtlnangnimbgpoaaOpenSorted
namespace Go.Proofs.Ytlnangnimbgpoaa

theorem sorted_holds : Rows.FnSortedSaid := OpenSorted.over

end Go.Proofs.Ytlnangnimbgpoaa
