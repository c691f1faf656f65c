import Derived.Test.YtadbhidpmihghabVOpenBase
import Derived.DataShut
namespace Go.Proofs.Ytadbhidpmihghab
open Go.ChangeShapes Go.WideShapes Go.ChangeAt Go.RowKit Go.Joins

theorem wf_bd {z : Int} (h : (Lit.int .i64 z).wf = true) : -9223372036854775808 ≤ z ∧ z ≤ 9223372036854775807 := by
  have := (Lit.wf_int_iff .i64 z).1 h
  have e1 : IntKind.min .i64 = -9223372036854775808 := by kernel_rfl
  have e2 : IntKind.max .i64 = 9223372036854775807 := by kernel_rfl
  rw [e1, e2] at this
  exact this

theorem getD_mem {l : List Int} {k : Nat} (h : k < l.length) : l.getD k 0 ∈ l := by simp [List.getD, h]

/-- A parameter that is a slice of numbers. -/
theorem openIntS {H : Type} {enc : TypeId × Value → H} {W : World} {r : Reach} {b0 : Nat} {v : Value} {d : DataW H} {p : List MemPlace} (hv : Value.okWide Try.prog W r b0 22 v)
    (h : DataW.Trod enc Try.prog W 0 (fun _ => true) true 22 v d p) : ∃ a n cap zs, v = .slice a n cap ∧ Raw W a n zs ∧ ∀ k, -9223372036854775808 ≤ zs.getD k 0 ∧ zs.getD k 0 ≤ 9223372036854775807 := by
  obtain ⟨a0, n0, cap0, rfl⟩ := okWide_slice Try.underlying22 hv
  obtain ⟨m, hm⟩ := h
  have hm' : DataW.trod enc Try.prog W 0 (fun _ => true) true m 22 [.slice a0 n0 cap0] = some (d, p) := by simpa [Value.cells] using hm
  rcases open_ints Try.underlying22 Try.underlying3 cellsInt hm' with ⟨hcs, _⟩ | ⟨a, len, cap, zs, hcs, _, hl, hmx, hz, _, hcell, hwf⟩
  · simp at hcs
    obtain ⟨rfl, rfl, rfl⟩ := hcs
    exact ⟨none, 0, 0, [], rfl, ⟨rfl, by omega, .inl rfl⟩, fun k => by simp⟩
  · simp at hcs hz
    obtain ⟨rfl, rfl, rfl⟩ := hcs
    unfold maxLen at hmx
    refine ⟨some a, n0, cap0, zs.take n0, rfl, ⟨by simp; omega, by omega, ?_⟩, fun k => ?_⟩
    · by_cases h0 : n0 = 0
      · exact .inl h0
      · right
        obtain ⟨b, off, spot⟩ := a
        have hc0 := hcell 0 (by omega)
        have hspot : spot = none := by simpa [Addr.add] using World.cell?_spot hc0
        subst hspot
        refine ⟨b, off, rfl, World.block_lt_of_cell? W _ hc0, fun i hi => ?_⟩
        have hadd : (⟨b, off, none⟩ : Addr).add i = ⟨b, off + i, none⟩ := by by_cases h : i = 0 <;> simp [Addr.add, h]
        rw [← hadd, hcell i (by omega)]
        simp [hi]
    · by_cases hk : k < (zs.take n0).length
      · have hm : (zs.take n0).getD k 0 ∈ zs := List.mem_of_mem_take (getD_mem hk)
        exact wf_bd (hwf _ hm)
      · have e : (zs.take n0).getD k 0 = 0 := by simp [List.getD, List.getElem?_eq_none (by omega : (zs.take n0).length ≤ k)]
        rw [e]; omega

end Go.Proofs.Ytadbhidpmihghab
