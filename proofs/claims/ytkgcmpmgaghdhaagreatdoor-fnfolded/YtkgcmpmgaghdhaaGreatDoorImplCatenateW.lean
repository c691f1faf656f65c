import Derived.Test.YtkgcmpmgaghdhaaGreatDoorImplCatenate
namespace Go.Proofs.YtkgcmpmgaghdhaaGreatDoor
open Go.RowKit

theorem implCatenate_any (c d : Bool) (a1 a2 b1 b2 : Addr) (n1 n2 m1 m2 c1 c2 d1 d2 : Nat) (sh dt sh' dt' : List Int) (w : World) (h1 : Row w (some a1) n1 sh) (h2 : Row w (some a2) n2 dt) (k1 : Row w (some b1) m1 sh') (k2 : Row w (some b2) m2 dt') (e1 : n1 ≤ c1) (e2 : n2 ≤ c2) (e3 : m1 ≤ d1) (e4 : m2 ≤ d2) :
    Calls Tryz.prog 35 #[.agg #[.bool c, .slice (some a1) n1 c1, .slice (some a2) n2 c2], .agg #[.bool d, .slice (some b1) m1 d1, .slice (some b2) m2 d2]] w (GivesOwn w (catenate c d sh dt sh' dt')) := by
  cases hok : arrOk c sh dt with
  | false => rw [cat_bad1 hok]; exact implCat_bad1 c d a1 a2 b1 b2 n1 n2 m1 m2 c1 c2 d1 d2 sh dt sh' dt' w h1 h2 k1 k2 hok
  | true =>
    cases hok' : arrOk d sh' dt' with
    | false => rw [cat_bad2 hok']; exact implCat_bad2 c d a1 a2 b1 b2 n1 n2 m1 m2 c1 c2 d1 d2 sh dt sh' dt' w h1 h2 k1 k2 hok hok'
    | true => exact implCat_go c d a1 a2 b1 b2 n1 n2 m1 m2 c1 c2 d1 d2 sh dt sh' dt' w h1 h2 k1 k2 e1 e2 e3 e4 hok hok'

end Go.Proofs.YtkgcmpmgaghdhaaGreatDoor
