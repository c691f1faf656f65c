import Derived.Test.YtlnangnimbgpoaaImplTranspose
import Derived.Test.YtlnangnimbgpoaaSpecTransposeF
import Derived.Test.YtlnangnimbgpoaaOpenATranspose
namespace Go.Proofs.Ytlnangnimbgpoaa

theorem transpose_holds : Rows.FnExactTransposeSaid := OpenTranspose.over Transpose_spec (fun c d a1 a2 b1 b2 n1 n2 m1 m2 c1 c2 d1 d2 sh dt sh' dt' w h1 h2 k1 k2 _ _ _ _ => implTranspose_any c d a1 a2 b1 b2 n1 n2 m1 m2 c1 c2 d1 d2 sh dt sh' dt' w h1 h2 k1 k2)

end Go.Proofs.Ytlnangnimbgpoaa
