import Derived.Test.YtgjpchnkodnieaaGreatDoorImplConcat
import Derived.Test.YtgjpchnkodnieaaGreatDoorMFit2
import Derived.Test.YtgjpchnkodnieaaGreatDoorMFit0
import Derived.Test.YtgjpchnkodnieaaGreatDoorMFit1
import Derived.Deep.RegionHeld
import Derived.Deep.DeepCutAuto
import Derived.Lib.SliceRun
import Derived.BigQuiet
namespace Go.Proofs.YtgjpchnkodnieaaGreatDoor
open Go.RowKit Go.Shelf

theorem Row.takeS {w : World} {b off n k : Nat} {zs : List Int} (h : Row w (some ⟨b, off, none⟩) n zs) (hk : k ≤ n) : Row w (some ⟨b, off, none⟩) k (zs.take k) := by
  have hl := h.len
  refine ⟨by simp; omega, by have := h.small; omega, ?_⟩
  rcases h.at_ with h0 | ⟨b', o', e, hlt, hc⟩
  · exact .inl (by omega)
  · cases e
    refine .inr ⟨b, off, rfl, hlt, fun i hi => ?_⟩
    rw [hc i (by omega)]
    simp [List.getD_eq_getElem?_getD, hi]

theorem Row.dropS {w : World} {b off n k : Nat} {zs : List Int} (h : Row w (some ⟨b, off, none⟩) n zs) (hk : k ≤ n) : Row w (some ⟨b, off + k, none⟩) (n - k) (zs.drop k) := by
  have hl := h.len
  refine ⟨by simp; omega, by have := h.small; omega, ?_⟩
  rcases h.at_ with h0 | ⟨b', o', e, hlt, hc⟩
  · exact .inl (by omega)
  · cases e
    refine .inr ⟨b, off + k, rfl, hlt, fun i hi => ?_⟩
    rw [show off + k + i = off + (k + i) by omega, hc (k + i) (by omega)]
    simp [List.getD_eq_getElem?_getD, List.getElem?_drop]

theorem Row.zeroS {w : World} {a : Option Addr} {zs : List Int} (h : zs = []) : Row w a 0 zs := ⟨by rw [h]; rfl, by omega, .inl rfl⟩

theorem Row.zeroS' {w : World} {a : Option Addr} {zs : List Int} {n : Nat} (h : zs.length = n + 1) : Row w a (n + 1 - (n + 1)) (zs.drop (n + 1)) := by
  rw [Nat.sub_self]; exact Row.zeroS (List.drop_of_length_le (by omega))

theorem cellsOf_eq (a : Option Addr) (n cap : Nat) (sh : List Int) (w : World) (h : Row w a n sh) (hin : ShapeIn sh) (r : Int) (hr : Hid (prodAll sh = r)) : Calls Tryz.prog 116 #[.slice a n cap] w fun e w' => e = .returned (.int .i64 r) ∧ w' = w := by
  rw [← unhide hr]
  exact cellsOf_any a n cap sh w h (fun k => (hin.take k).bd)

/-- What axisOf answers. -/
def AxisOk (w : World) (B N A : Int) (others : List Int) (e : Ending) (w' : World) : Prop :=
  ∃ oa ol oc, e = .returned (.agg #[.int .i64 B, .int .i64 N, .int .i64 A, .slice oa ol oc]) ∧ Own w' (w.heap.size + 1) oa ol others ∧ Below w.heap.size w w'

end Go.Proofs.YtgjpchnkodnieaaGreatDoor
