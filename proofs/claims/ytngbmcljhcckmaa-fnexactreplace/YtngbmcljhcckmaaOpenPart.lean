import Derived.Test.YtngbmcljhcckmaaPRows
import Derived.Test.YtngbmcljhcckmaaOpenBase
import Derived.Deep.Slices
import Derived.Deep.Strs
namespace Go.Proofs.Ytngbmcljhcckmaa
open Go.ChangeShapes Go.WideShapes Go.ChangeAt Go.RowKit Go.Joins Go.Deep

theorem cellsPart : Try.prog.cellsOf 92 = 4 := by kernel_rfl
theorem cellsBool : Try.prog.cellsOf 4 = 1 := by kernel_rfl

theorem add_off {b off i : Nat} : (⟨b, off, none⟩ : Addr).add i = ⟨b, off + i, none⟩ := by by_cases h : i = 0 <;> simp [Addr.add, h]

set_option maxRecDepth 100000 in
theorem openPart {H : Type} {enc : TypeId × Value → H} {W : World} {fuel : Nat} {cs : List Value} {x : DataW H × List MemPlace} {b off : Nat} (hc : W.cells? 0 ⟨b, off, none⟩ 4 = some cs)
    (h : DataW.trod enc Try.prog W 0 (fun _ => true) true fuel 92 cs = some x) : ∃ p, PAt Raw W b off p := by
  obtain ⟨_, hl, hcell⟩ := World.cells?_some hc
  match cs, hl with
  | [x0, x1, x2, x3], _ =>
    have e0 := hcell 0 (by omega)
    have e1 := hcell 1 (by omega)
    have e2 := hcell 2 (by omega)
    have e3 := hcell 3 (by omega)
    rw [add_off] at e0 e1 e2 e3
    simp at e0 e1 e2 e3
    obtain ⟨y0, y1, n, _, _, h0, h1⟩ := trod_struct2 Try.underlying92 h
    have h0' : DataW.trod enc Try.prog W 0 (fun _ => true) true n 4 [x0] = some y0 := h0
    have h1' : DataW.trod enc Try.prog W 0 (fun _ => true) true n 24 [x1, x2, x3] = some y1 := h1
    obtain ⟨al, hal, _⟩ := DataW.trod_bool Try.underlying4 h0'
    obtain ⟨z0, z1, z2, m, _, _, k0, k1, k2⟩ := trod_struct3 Try.underlying24 h1'
    have k0' : DataW.trod enc Try.prog W 0 (fun _ => true) true m 4 [x1] = some z0 := k0
    have k1' : DataW.trod enc Try.prog W 0 (fun _ => true) true m 22 [x2] = some z1 := k1
    have k2' : DataW.trod enc Try.prog W 0 (fun _ => true) true m 22 [x3] = some z2 := k2
    obtain ⟨c, hcc, _⟩ := DataW.trod_bool Try.underlying4 k0'
    obtain ⟨s1, n1, c1, sh, rfl, r1⟩ := openRaw k1'
    obtain ⟨s2, n2, c2, dt, rfl, r2⟩ := openRaw k2'
    simp at hal hcc
    subst hal hcc
    exact ⟨⟨al, c, sh, dt⟩, s1, n1, c1, s2, n2, c2, e0, e1, e2, e3, r1, r2⟩

set_option maxRecDepth 100000 in
theorem openParts {H : Type} {enc : TypeId × Value → H} {W : World} {r : Reach} {b0 : Nat} {v : Value} {d : DataW H} {p : List MemPlace} (hv : Value.okWide Try.prog W r b0 41 v)
    (h : DataW.Trod enc Try.prog W 0 (fun _ => true) true 41 v d p) : ∃ a n cap ps, v = .slice a n cap ∧ PRaw W a n ps := by
  obtain ⟨a0, n0, cap0, rfl⟩ := okWide_slice Try.underlying41 hv
  obtain ⟨m, hm⟩ := h
  have hm' : DataW.trod enc Try.prog W 0 (fun _ => true) true m 41 [.slice a0 n0 cap0] = some (d, p) := by simpa [Value.cells] using hm
  rcases open_slice Try.underlying41 hm' with ⟨hcs, _⟩ | ⟨a, len, cap, m', n, D, Pl, hcs, _, hl, hmx, hmm, _, hx⟩
  · simp at hcs
    obtain ⟨rfl, rfl, rfl⟩ := hcs
    exact ⟨none, 0, 0, [], rfl, ⟨rfl, by omega, .inl rfl⟩⟩
  · simp at hcs
    obtain ⟨rfl, rfl, rfl⟩ := hcs
    unfold maxLen at hmx
    simp at hmm
    subst hmm
    rw [cellsPart] at hx
    by_cases h0 : n0 = 0
    · exact ⟨_, _, _, [], rfl, ⟨by simp [h0], by omega, .inl h0⟩⟩
    · obtain ⟨b, off, spot⟩ := a
      obtain ⟨cs0, hc0, _⟩ := hx 0 (by omega)
      obtain ⟨_, hl0, hcell0⟩ := World.cells?_some hc0
      have hsome : W.cell? ⟨b, off, spot⟩ = some (cs0.getD 0 default) := by
        have := hcell0 0 (by omega)
        simp [Addr.add] at this
        rw [this]
        match cs0, hl0 with
        | [x0, x1, x2, x3], _ => rfl
      have hspot : spot = none := by simpa using World.cell?_spot hsome
      subst hspot
      have hex : ∀ i, i < n0 → ∃ q, PAt Raw W b (off + i * 4) q := fun i hi => by
        obtain ⟨cs', h1, h2⟩ := hx i (by omega)
        rw [add_off] at h1
        exact openPart h1 h2
      refine ⟨_, _, _, (List.range n0).map fun i => if h : i < n0 then Classical.choose (hex i h) else partZ, rfl, ⟨by simp, by omega, .inr ⟨b, off, rfl, World.block_lt_of_cell? W _ hsome, fun i hi => ?_⟩⟩⟩
      have e : part ((List.range n0).map fun i => if h : i < n0 then Classical.choose (hex i h) else partZ) i = Classical.choose (hex i hi) := by simp [part, hi]
      rw [e]
      exact Classical.choose_spec (hex i hi)

end Go.Proofs.Ytngbmcljhcckmaa
