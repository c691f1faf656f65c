import Derived.Test.YtkgcmpmgaghdhaaDoorSpecDecode
import Derived.Test.YtkgcmpmgaghdhaaDoorLawA2Decode
namespace Go.Proofs.YtkgcmpmgaghdhaaDoor
open Go.RowKit

theorem Decode_spec : LawDecode.Spec decode := fun c d a1 a2 b1 b2 n1 n2 m1 m2 c1 c2 d1 d2 sh dt sh' dt' w h1 h2 k1 k2 _ _ _ _ => Decode_any c d a1 a2 b1 b2 n1 n2 m1 m2 c1 c2 d1 d2 sh dt sh' dt' w h1 h2 k1 k2

end Go.Proofs.YtkgcmpmgaghdhaaDoor
