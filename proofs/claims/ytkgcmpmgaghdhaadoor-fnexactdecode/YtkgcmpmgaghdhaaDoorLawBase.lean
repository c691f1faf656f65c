import Derived.Test.YtkgcmpmgaghdhaaDoorMFit0
import Derived.Test.YtkgcmpmgaghdhaaDoorLawBox
namespace Go.Proofs.YtkgcmpmgaghdhaaDoor
open Go.RowKit

theorem eqArray_refl (c : Bool) (a1 a2 b1 b2 : Option Addr) (n1 n2 m1 m2 c1 c2 d1 d2 : Nat) (sh dt : List Int) (w : World) (h1 : Row w a1 n1 sh) (h2 : Row w a2 n2 dt) (k1 : Row w b1 m1 sh) (k2 : Row w b2 m2 dt) :
    Calls Tryd.prog 8 #[.agg #[.bool c, .slice a1 n1 c1, .slice a2 n2 c2], .agg #[.bool c, .slice b1 m1 d1, .slice b2 m2 d2]] w fun e w' => e = .returned (.bool true) ∧ Below w.heap.size w w' := by
  have := eqArray_any c c a1 a2 b1 b2 n1 n2 m1 m2 c1 c2 d1 d2 sh dt sh dt w h1 h2 k1 k2
  rwa [decide_eq_true ⟨rfl, rfl, rfl⟩] at this

end Go.Proofs.YtkgcmpmgaghdhaaDoor
