import Derived.Test.YtgjpchnkodnieaaGreatDoorMFit0
import Derived.Test.YtgjpchnkodnieaaGreatDoorSpecCopyO
import Derived.Test.YtgjpchnkodnieaaGreatDoorMFit0
namespace Go.Proofs.YtgjpchnkodnieaaGreatDoor
open Go.RowKit

/-- The first t elements have been laid. -/
structure RotTo (W : World) (B g off m : Nat) (R D : List Int) (t : Nat) (wr : World) : Prop where
  own : Own wr B (some ⟨g, off, none⟩) m (R.take t ++ D.drop t)
  but : But (fun k => k = g) W wr

theorem RotTo.step {W wr : World} {B g off m t : Nat} {R D : List Int} {x : Int} (h : RotTo W B g off m R D t wr) (hr : R.length = m) (hd : D.length = m) (ht : t < m) (hx : R.getD t 0 = x) : RotTo W B g off m R D (t + 1) (wr.setCell ⟨g, off + t, none⟩ (.int .i64 x)) := by
  refine ⟨?_, h.but.setCell rfl _⟩
  rw [← mix_set (by omega) (by omega), hx]
  exact h.own.set ht x

theorem RotTo.drew {W wr : World} {B g off m t : Nat} {R D : List Int} (h : RotTo W B g off m R D t wr) : RotTo W B g off m R D t wr.drew :=
  ⟨h.own.below (Nat.le_refl _) (Below.refl _ _).drew, h.but.drew⟩

theorem vals_get (f : Nat → Int × Int) (n k : Nat) (hk : k < n) : (vals f n).getD k 0 = (f k).1 := by simp [vals, hk]

theorem wrapN {a : Int} {b : Nat} (h : a = b) (hb : b ≤ 1000000000000000000) : IntKind.i64.wrap a = (b : Int) := by rw [IntKind.wrap_i64, h]; omega

end Go.Proofs.YtgjpchnkodnieaaGreatDoor
