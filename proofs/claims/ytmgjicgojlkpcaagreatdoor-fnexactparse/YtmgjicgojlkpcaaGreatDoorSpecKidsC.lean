import Derived.Test.YtmgjicgojlkpcaaGreatDoorSpecKids0
import Derived.Test.YtmgjicgojlkpcaaGreatDoorSpecKids1
import Derived.Test.YtmgjicgojlkpcaaGreatDoorSpecKids2
import Derived.Test.YtmgjicgojlkpcaaGreatDoorSpecKids3
import Derived.Test.YtmgjicgojlkpcaaGreatDoorSpecKids4
namespace Go.Proofs.YtmgjicgojlkpcaaGreatDoor
open Go.RowKit

theorem l2KidsOk_any (k : Int) (b off n : Nat) (ks : List Int) (w : World) (hk : 1 ≤ k ∧ k ≤ 25) (h : Row w (some ⟨b, off, none⟩) n ks) : Calls Tryz.prog 25 #[.int .i64 k, .slice (some ⟨b, off, none⟩) n n] w fun e w' => e = .returned (.bool (kidsB k ks)) ∧ Below w.heap.size w w' := by
  rcases kind_cases k with e | e | e | e | e | e | e | e | e | e | e | e | e | e | e | e | e | e | e | e | e | e | e | e | e | e | e
  · omega
  · omega
  · subst e; exact kidsOk_1 b off n n ks w h
  · subst e; exact kidsOk_2 b off n n ks w h
  · subst e; exact kidsOk_3 b off n n ks w h
  · subst e; exact kidsOk_4 b off n n ks w h
  · subst e; exact kidsOk_5 b off n n ks w h
  · subst e; exact kidsOk_6 b off n n ks w h
  · subst e; exact kidsOk_7 b off n ks w h
  · subst e; exact kidsOk_8 b off n n ks w h
  · subst e; exact kidsOk_9 b off n n ks w h
  · subst e; exact kidsOk_10 b off n n ks w h
  · subst e; exact kidsOk_11 b off n n ks w h
  · subst e; exact kidsOk_12 b off n n ks w h
  · subst e; exact kidsOk_13 b off n n ks w h
  · subst e; exact kidsOk_14 b off n n ks w h
  · subst e; exact kidsOk_15 b off n n ks w h
  · subst e; exact kidsOk_16 _ n n ks w h
  · subst e; exact kidsOk_17 b off n n ks w h
  · subst e; exact kidsOk_18 b off n n ks w h
  · subst e; exact kidsOk_19 b off n n ks w h
  · subst e; exact kidsOk_20 b off n n ks w h
  · subst e; exact kidsOk_21 b off n ks w h
  · subst e; exact kidsOk_22 b off n n ks w h
  · subst e; exact kidsOk_23 b off n n ks w h
  · subst e; exact kidsOk_24 b off n n ks w h
  · subst e; exact kidsOk_25 _ n n ks w h

end Go.Proofs.YtmgjicgojlkpcaaGreatDoor
