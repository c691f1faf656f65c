import Derived.Test.YtgjpchnkodnieaaGreatDoorMFit0
import Derived.Test.YtgjpchnkodnieaaGreatDoorRows
import Derived.ProofKit
import Derived.OpenShut
import Derived.ShutString
import Derived.ChangeOld
import Derived.Below
import Derived.Lib.SmallJoins
namespace Go.Proofs.YtgjpchnkodnieaaGreatDoor
open Go.ChangeShapes Go.WideShapes Go.ChangeAt Go.RowKit Go.Joins

theorem own : ownKnob Tryz.prog.godebug = none := by kernel_rfl
theorem laidOut : laidOutB Tryz.prog = true := by kernel_rfl
theorem cellsInt : Tryz.prog.cellsOf 3 = 1 := by kernel_rfl
theorem cellsArr : Tryz.prog.cellsOf 40 = 3 := by kernel_rfl

theorem openRaw {H : Type} {enc : TypeId × Value → H} {W : World} {fuel : Nat} {v : Value} {x : DataW H × List MemPlace} (h : DataW.trod enc Tryz.prog W 0 (fun _ => true) true fuel 23 [v] = some x) :
    ∃ a n cap zs, v = .slice a n cap ∧ Raw W a n zs := by
  rcases open_ints Tryz.underlying23 Tryz.underlying3 cellsInt h with ⟨hcs, _⟩ | ⟨a, len, cap, zs, hcs, _, hl, hm, hz, _, hcell, _⟩
  · simp at hcs
    exact ⟨none, 0, 0, [], hcs, ⟨rfl, by omega, .inl rfl⟩⟩
  · simp at hcs hz
    unfold maxLen at hm
    refine ⟨some a, len, cap, zs.take len, hcs, ⟨by simp; omega, by omega, ?_⟩⟩
    by_cases h0 : len = 0
    · exact .inl h0
    · right
      obtain ⟨b, off, spot⟩ := a
      have hc0 := hcell 0 (by omega)
      have hspot : spot = none := by simpa [Addr.add] using World.cell?_spot hc0
      subst hspot
      refine ⟨b, off, rfl, World.block_lt_of_cell? W _ hc0, fun i hi => ?_⟩
      have hadd : (⟨b, off, none⟩ : Addr).add i = ⟨b, off + i, none⟩ := by by_cases h : i = 0 <;> simp [Addr.add, h]
      rw [← hadd, hcell i (by omega)]
      simp [hi]

set_option maxRecDepth 100000 in
theorem openArr {H : Type} {enc : TypeId × Value → H} {W : World} {r : Reach} {b0 : Nat} {v : Value} {d : DataW H} {p : List MemPlace} (hv : Value.okWide Tryz.prog W r b0 40 v)
    (h : DataW.Trod enc Tryz.prog W 0 (fun _ => true) true 40 v d p) : ∃ c a1 n1 c1 sh a2 n2 c2 dt, v = .agg #[.bool c, .slice a1 n1 c1, .slice a2 n2 c2] ∧ Raw W a1 n1 sh ∧ Raw W a2 n2 dt := by
  obtain ⟨v0, v1, v2, y0, y1, y2, n, rfl, _, _, h0, h1, h2⟩ := open_agg3 Tryz.underlying40 (by kernel_rfl) cellsArr hv h
  obtain ⟨c, hc, _⟩ := DataW.trod_bool Tryz.underlying4 h0
  obtain ⟨a1, n1, c1, sh, rfl, r1⟩ := openRaw h1
  obtain ⟨a2, n2, c2, dt, rfl, r2⟩ := openRaw h2
  simp at hc
  subst hc
  exact ⟨c, a1, n1, c1, sh, a2, n2, c2, dt, rfl, r1, r2⟩

end Go.Proofs.YtgjpchnkodnieaaGreatDoor
