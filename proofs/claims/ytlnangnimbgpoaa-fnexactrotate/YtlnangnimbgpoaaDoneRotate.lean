import Derived.Test.YtlnangnimbgpoaaImplRotateA
import Derived.Test.YtlnangnimbgpoaaSpecRotateF
import Derived.Test.YtlnangnimbgpoaaOpenARotate
namespace Go.Proofs.Ytlnangnimbgpoaa

theorem rotate_holds : Rows.FnExactRotateSaid := OpenRotate.over Rotate_spec (fun c d a1 a2 b1 b2 n1 n2 m1 m2 c1 c2 d1 d2 sh dt sh' dt' fl w h1 h2 k1 k2 _ _ _ _ => implRotate_any c d a1 a2 b1 b2 n1 n2 m1 m2 c1 c2 d1 d2 sh dt sh' dt' fl w h1 h2 k1 k2)

end Go.Proofs.Ytlnangnimbgpoaa
