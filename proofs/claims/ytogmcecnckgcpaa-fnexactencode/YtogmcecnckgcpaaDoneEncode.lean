import Derived.Test.YtogmcecnckgcpaaImplEncodeA
import Derived.Test.YtogmcecnckgcpaaSpecEncodeF
import Derived.Test.YtogmcecnckgcpaaOpenAEncode
namespace Go.Proofs.Ytogmcecnckgcpaa

theorem encode_holds : Rows.FnExactEncodeSaid := OpenEncode.over Encode_spec (fun c d a1 a2 b1 b2 n1 n2 m1 m2 c1 c2 d1 d2 sh dt sh' dt' w h1 h2 k1 k2 _ _ _ _ => implEncode_any c d a1 a2 b1 b2 n1 n2 m1 m2 c1 c2 d1 d2 sh dt sh' dt' w h1 h2 k1 k2)

end Go.Proofs.Ytogmcecnckgcpaa
