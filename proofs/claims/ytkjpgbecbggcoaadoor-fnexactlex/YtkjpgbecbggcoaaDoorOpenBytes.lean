import Derived.Test.YtkjpgbecbggcoaaDoorOpenLexB
import Derived.Test.YtkjpgbecbggcoaaDoorMFit0
import Derived.Test.YtkjpgbecbggcoaaDoorMFit0
namespace Go.Proofs.YtkjpgbecbggcoaaDoor
open Go.ChangeShapes Go.WideShapes Go.ChangeAt Go.RowKit Go.Joins
namespace OpenLex

theorem openBytes {H : Type} {enc : TypeId × Value → H} {W : World} {fuel : Nat} {v : Value} {x : DataW H × List MemPlace} (h : DataW.trod enc Tryd.prog W 0 (fun _ => true) true fuel 22 [v] = some x) :
    ∃ a n cap zs, v = .slice a n cap ∧ RowB W a n zs ∧ ∀ z ∈ zs, 0 ≤ z ∧ z < 256 := by
  rcases open_ints Tryd.underlying22 Tryd.underlying5 cellsByte h with ⟨hcs, _⟩ | ⟨a, len, cap, zs, hcs, _, hl, hm, hz, _, hcell, hwf⟩
  · simp at hcs
    exact ⟨none, 0, 0, [], hcs, ⟨rfl, .inl rfl⟩, fun z hz => by cases hz⟩
  · simp at hcs hz
    refine ⟨some a, len, cap, zs.take len, hcs, ⟨by rw [List.length_take]; omega, ?_⟩, fun z hzm => ?_⟩
    · by_cases h0 : len = 0
      · exact .inl h0
      · right
        obtain ⟨b, off, spot⟩ := a
        have hc0 := hcell 0 (by omega)
        have hspot : spot = none := by simpa [Addr.add] using World.cell?_spot hc0
        subst hspot
        refine ⟨b, off, rfl, World.block_lt_of_cell? W _ hc0, fun i hi => ?_⟩
        have hadd : (⟨b, off, none⟩ : Addr).add i = ⟨b, off + i, none⟩ := by by_cases h : i = 0 <;> simp [Addr.add, h]
        rw [← hadd, hcell i (by omega)]
        simp only [List.getD_eq_getElem?_getD, List.getElem?_take]
        rw [if_pos hi]
    · obtain ⟨i, hi⟩ := List.mem_iff_getElem?.1 (List.mem_of_mem_take hzm)
      have hb := range_u8 hwf i
      rw [hi] at hb
      simp at hb
      omega

/-- The text of some bytes. -/
theorem bz_bstr {zs : List Int} (h : ∀ z ∈ zs, 0 ≤ z ∧ z < 256) : bz (bstr zs) = zs := by
  rw [bz_uz]
  unfold uz bstr
  rw [List.map_map]
  refine (List.map_congr_left (g := id) fun z hz => ?_).trans (List.map_id zs)
  have := h z hz
  show ((z.toNat.toUInt8.toNat : Nat) : Int) = z
  rw [Nat.toUInt8, UInt8.toNat_ofNat']
  omega

end OpenLex
end Go.Proofs.YtkjpgbecbggcoaaDoor
