import Derived.Test.YtnkojndinnnimaaImplMemberA
import Derived.Test.YtnkojndinnnimaaSpecMemberF
import Derived.Test.YtnkojndinnnimaaOpenAMember
namespace Go.Proofs.Ytnkojndinnnimaa

theorem member_holds : Rows.FnExactMemberSaid := OpenMember.over Member_spec (fun c d a1 a2 b1 b2 n1 n2 m1 m2 c1 c2 d1 d2 sh dt sh' dt' w h1 h2 k1 k2 _ _ _ _ => implMember_any c d a1 a2 b1 b2 n1 n2 m1 m2 c1 c2 d1 d2 sh dt sh' dt' w h1 h2 k1 k2)

end Go.Proofs.Ytnkojndinnnimaa
