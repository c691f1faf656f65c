import Derived.Test.YtnkojndinnnimaaImplFindA
import Derived.Test.YtnkojndinnnimaaSpecFindF
import Derived.Test.YtnkojndinnnimaaOpenAFind
namespace Go.Proofs.Ytnkojndinnnimaa

theorem find_holds : Rows.FnExactFindSaid := OpenFind.over Find_spec (fun c d a1 a2 b1 b2 n1 n2 m1 m2 c1 c2 d1 d2 sh dt sh' dt' w h1 h2 k1 k2 _ _ _ _ => implFind_any c d a1 a2 b1 b2 n1 n2 m1 m2 c1 c2 d1 d2 sh dt sh' dt' w h1 h2 k1 k2)

end Go.Proofs.Ytnkojndinnnimaa
