import Derived.Test.YtogmcecnckgcpaaImplMemberA
import Derived.Test.YtogmcecnckgcpaaSpecMemberF
import Derived.Test.YtogmcecnckgcpaaOpenAMember
namespace Go.Proofs.Ytogmcecnckgcpaa

theorem member_holds : Rows.FnExactMemberSaid := OpenMember.over Member_spec (fun c d a1 a2 b1 b2 n1 n2 m1 m2 c1 c2 d1 d2 sh dt sh' dt' w h1 h2 k1 k2 _ _ _ _ => implMember_any c d a1 a2 b1 b2 n1 n2 m1 m2 c1 c2 d1 d2 sh dt sh' dt' w h1 h2 k1 k2)

end Go.Proofs.Ytogmcecnckgcpaa
