import Derived.Test.YtogmcecnckgcpaaImplFindA
import Derived.Test.YtogmcecnckgcpaaSpecFindF
import Derived.Test.YtogmcecnckgcpaaOpenAFind
namespace Go.Proofs.Ytogmcecnckgcpaa

theorem find_holds : Rows.FnExactFindSaid := OpenFind.over Find_spec (fun c d a1 a2 b1 b2 n1 n2 m1 m2 c1 c2 d1 d2 sh dt sh' dt' w h1 h2 k1 k2 _ _ _ _ => implFind_any c d a1 a2 b1 b2 n1 n2 m1 m2 c1 c2 d1 d2 sh dt sh' dt' w h1 h2 k1 k2)

end Go.Proofs.Ytogmcecnckgcpaa
