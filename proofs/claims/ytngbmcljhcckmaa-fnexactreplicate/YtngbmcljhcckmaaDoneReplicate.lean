import Derived.Test.YtngbmcljhcckmaaImplReplicate
import Derived.Test.YtngbmcljhcckmaaSpecReplicateF
import Derived.Test.YtngbmcljhcckmaaOpenAReplicate
namespace Go.Proofs.Ytngbmcljhcckmaa

theorem replicate_holds : Rows.FnExactReplicateSaid := OpenReplicate.over Replicate_spec (fun c d a1 a2 b1 b2 n1 n2 m1 m2 c1 c2 d1 d2 sh dt sh' dt' fl w h1 h2 k1 k2 _ _ _ _ => implReplicate_any c d a1 a2 b1 b2 n1 n2 m1 m2 c1 c2 d1 d2 sh dt sh' dt' fl w h1 h2 k1 k2)

end Go.Proofs.Ytngbmcljhcckmaa
