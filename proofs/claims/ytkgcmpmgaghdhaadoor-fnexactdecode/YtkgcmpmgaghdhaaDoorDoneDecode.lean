import Derived.Test.YtkgcmpmgaghdhaaDoorImplDecodeW
import Derived.Test.YtkgcmpmgaghdhaaDoorSpecDecodeF
import Derived.Test.YtkgcmpmgaghdhaaDoorCardDDecode
namespace Go.Proofs.YtkgcmpmgaghdhaaDoor

theorem decode_holds : Rows.FnExactDecodeCardSaid := OpenDecode.card Decode_spec (fun c d a1 a2 b1 b2 n1 n2 m1 m2 c1 c2 d1 d2 sh dt sh' dt' w h1 h2 k1 k2 _ _ _ _ ga gb hG => implDecode_any c d (some a1) (some a2) (some b1) (some b2) n1 n2 m1 m2 c1 c2 d1 d2 sh dt sh' dt' w h1 h2 k1 k2 ga gb ⟨hG.big⟩)

end Go.Proofs.YtkgcmpmgaghdhaaDoor
