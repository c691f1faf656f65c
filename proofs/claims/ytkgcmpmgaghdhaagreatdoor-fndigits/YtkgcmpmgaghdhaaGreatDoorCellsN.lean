import Derived.Test.YtkgcmpmgaghdhaaGreatDoorMFit0
import Derived.Shelf.Abstract
import Derived.Test.YtkgcmpmgaghdhaaGreatDoorMFit1
import Derived.Test.YtkgcmpmgaghdhaaGreatDoorMFit0
namespace Go.Proofs.YtkgcmpmgaghdhaaGreatDoor
open Go.RowKit Go.Shelf

theorem cellsOf_nD (a : Option Addr) (n cap : Nat) (sh : List Int) (w : World) (h : Row w a n sh) (hin : ShapeIn sh) (N : Nat) (hr : Hid (prodAll sh = (N : Int))) : Calls Tryz.prog 51 #[.slice a n cap] w fun e w' => e = .returned (.int .i64 (N : Int)) ∧ w' = w := by
  rw [← hr.out]
  exact cellsOf_any a n cap sh w h (fun k => (hin.take k).bd)

end Go.Proofs.YtkgcmpmgaghdhaaGreatDoor
