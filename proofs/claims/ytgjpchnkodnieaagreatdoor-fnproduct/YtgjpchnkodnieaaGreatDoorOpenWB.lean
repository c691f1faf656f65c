import Derived.Test.YtgjpchnkodnieaaGreatDoorMFit0
import Derived.Test.YtgjpchnkodnieaaGreatDoorOpenBase
namespace Go.Proofs.YtgjpchnkodnieaaGreatDoor
open Go.ChangeShapes Go.WideShapes Go.ChangeAt Go.RowKit Go.Joins
namespace OpenW

theorem cellsByte : Tryz.prog.cellsOf 5 = 1 := by kernel_rfl

theorem openBytes {H : Type} {enc : TypeId × Value → H} {W : World} {fuel : Nat} {v : Value} {x : DataW H × List MemPlace} (h : DataW.trod enc Tryz.prog W 0 (fun _ => true) true fuel 22 [v] = some x) :
    ∃ a n cap, v = .slice a n cap ∧ Bytes W a n ∧ n ≤ cap := by
  rcases open_ints Tryz.underlying22 Tryz.underlying5 cellsByte h with ⟨hcs, _⟩ | ⟨a, len, cap, zs, hcs, _, hl, hm, hz, _, hcell, hwf⟩
  · simp at hcs
    exact ⟨none, 0, 0, hcs, .inl rfl, Nat.le_refl _⟩
  · simp at hcs hz
    refine ⟨some a, len, cap, hcs, ?_, hl⟩
    by_cases h0 : len = 0
    · exact .inl h0
    · right
      obtain ⟨b, off, spot⟩ := a
      have hc0 := hcell 0 (by omega)
      have hspot : spot = none := by simpa [Addr.add] using World.cell?_spot hc0
      subst hspot
      refine ⟨b, off, rfl, World.block_lt_of_cell? W _ hc0, fun i hi => ?_⟩
      have hadd : (⟨b, off, none⟩ : Addr).add i = ⟨b, off + i, none⟩ := by by_cases h : i = 0 <;> simp [Addr.add, h]
      have hb := range_u8 hwf i
      rw [← List.getD_eq_getElem?_getD] at hb
      refine ⟨(zs.getD i 0).toNat, by omega, ?_⟩
      rw [← hadd, hcell i (by omega), Int.toNat_of_nonneg (by omega)]

end OpenW
end Go.Proofs.YtgjpchnkodnieaaGreatDoor
