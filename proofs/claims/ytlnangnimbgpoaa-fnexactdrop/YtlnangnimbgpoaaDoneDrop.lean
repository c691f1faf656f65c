import Derived.Test.YtlnangnimbgpoaaImplDropW
import Derived.Test.YtlnangnimbgpoaaSpecDropF
import Derived.Test.YtlnangnimbgpoaaOpenADrop
namespace Go.Proofs.Ytlnangnimbgpoaa

theorem drop_holds : Rows.FnExactDropSaid := OpenDrop.over Drop_spec (fun c d a1 a2 b1 b2 n1 n2 m1 m2 c1 c2 d1 d2 sh dt sh' dt' w h1 h2 k1 k2 _ _ _ _ => implDrop_any c d a1 a2 b1 b2 n1 n2 m1 m2 c1 c2 d1 d2 sh dt sh' dt' w h1 h2 k1 k2)

end Go.Proofs.Ytlnangnimbgpoaa
