import Derived.Test.YtinndpnilmmmjaaGreatDoorMFit0
import Derived.Test.YtinndpnilmmmjaaGreatDoorOpenTokB
import Derived.Deep.Slices
import Derived.Deep.Strs
namespace Go.Proofs.YtinndpnilmmmjaaGreatDoor
open Go.ChangeShapes Go.WideShapes Go.ChangeAt Go.RowKit Go.Joins Go.Deep
namespace OpenTree
open OpenLex (own laidOut gl_any)
open OpenTok (wrap glT_any)

theorem cellsInt : Tryz.prog.cellsOf 3 = 1 := by kernel_rfl
theorem cellsNode : Tryz.prog.cellsOf 96 = 6 := by kernel_rfl
theorem cellsTree : Tryz.prog.cellsOf 24 = 1 := by kernel_rfl

theorem add_off {b off i : Nat} : (⟨b, off, none⟩ : Addr).add i = ⟨b, off + i, none⟩ := by by_cases h : i = 0 <;> simp [Addr.add, h]

theorem openRaw {H : Type} {enc : TypeId × Value → H} {W : World} {fuel : Nat} {v : Value} {x : DataW H × List MemPlace} (h : DataW.trod enc Tryz.prog W 0 (fun _ => true) true fuel 45 [v] = some x) :
    ∃ a n cap zs, v = .slice a n cap ∧ Raw W a n zs := by
  rcases open_ints Tryz.underlying45 Tryz.underlying3 cellsInt h with ⟨hcs, _⟩ | ⟨a, len, cap, zs, hcs, _, hl, hm, hz, _, hcell, _⟩
  · simp at hcs
    exact ⟨none, 0, 0, [], hcs, ⟨rfl, by omega, .inl rfl⟩⟩
  · simp at hcs hz
    unfold maxLen at hm
    refine ⟨some a, len, cap, zs.take len, hcs, ⟨by simp; omega, by omega, ?_⟩⟩
    by_cases h0 : len = 0
    · exact .inl h0
    · right
      obtain ⟨b, off, spot⟩ := a
      have hc0 := hcell 0 (by omega)
      have hspot : spot = none := by simpa [Addr.add] using World.cell?_spot hc0
      subst hspot
      refine ⟨b, off, rfl, World.block_lt_of_cell? W _ hc0, fun i hi => ?_⟩
      rw [← add_off, hcell i (by omega)]
      simp [hi]

set_option maxRecDepth 100000 in
theorem openNode {H : Type} {enc : TypeId × Value → H} {W : World} {fuel : Nat} {cs : List Value} {x : DataW H × List MemPlace} {b off : Nat} (hc : W.cells? 0 ⟨b, off, none⟩ 6 = some cs)
    (h : DataW.trod enc Tryz.prog W 0 (fun _ => true) true fuel 96 cs = some x) : ∃ p : NodeD, NAt Raw W b off p ∧ p.s.size ≤ 9223372036854775807 := by
  obtain ⟨_, hl, hcell⟩ := World.cells?_some hc
  match cs, hl with
  | [x0, x1, x2, x3, x4, x5], _ =>
    have e0 := hcell 0 (by omega)
    have e1 := hcell 1 (by omega)
    have e2 := hcell 2 (by omega)
    have e3 := hcell 3 (by omega)
    have e4 := hcell 4 (by omega)
    have e5 := hcell 5 (by omega)
    rw [add_off] at e0 e1 e2 e3 e4 e5
    simp at e0 e1 e2 e3 e4 e5
    obtain ⟨ys, m, _, _, _, hyl, hf⟩ := DataW.trod_struct Tryz.underlying96 h
    have h0 := hf 0 _ rfl
    have h1 := hf 1 _ rfl
    have h2 := hf 2 _ rfl
    have h3 := hf 3 _ rfl
    have h4 := hf 4 _ rfl
    have h5 := hf 5 _ rfl
    match ys, hyl with
    | [y0, y1, y2, y3, y4, y5], _ =>
      have h0' : DataW.trod enc Tryz.prog W 0 (fun _ => true) true m 3 [x0] = some y0 := h0
      have h1' : DataW.trod enc Tryz.prog W 0 (fun _ => true) true m 3 [x1] = some y1 := h1
      have h2' : DataW.trod enc Tryz.prog W 0 (fun _ => true) true m 3 [x2] = some y2 := h2
      have h3' : DataW.trod enc Tryz.prog W 0 (fun _ => true) true m 9 [x3] = some y3 := h3
      have h4' : DataW.trod enc Tryz.prog W 0 (fun _ => true) true m 45 [x4] = some y4 := h4
      have h5' : DataW.trod enc Tryz.prog W 0 (fun _ => true) true m 45 [x5] = some y5 := h5
      obtain ⟨k, d0, _, _⟩ := DataW.trod_int Tryz.underlying3 h0'
      obtain ⟨n, d1, _, _⟩ := DataW.trod_int Tryz.underlying3 h1'
      obtain ⟨mm, d2, _, _⟩ := DataW.trod_int Tryz.underlying3 h2'
      obtain ⟨s, d3, _, hsz⟩ := DataW.trod_string Tryz.underlying9 h3'
      obtain ⟨s1, n1, c1, nums, rfl, r1⟩ := openRaw h4'
      obtain ⟨s2, n2, c2, kids, rfl, r2⟩ := openRaw h5'
      simp at d0 d1 d2 d3
      subst d0 d1 d2 d3
      exact ⟨⟨k, n, mm, s, nums, kids⟩, ⟨s1, n1, c1, s2, n2, c2, e0, e1, e2, e3, e4, e5, r1, r2⟩, by unfold maxLen at hsz; show s.size ≤ _; omega⟩

set_option maxRecDepth 100000 in
theorem openNodes {H : Type} {enc : TypeId × Value → H} {W : World} {fuel : Nat} {v : Value} {x : DataW H × List MemPlace} (h : DataW.trod enc Tryz.prog W 0 (fun _ => true) true fuel 22 [v] = some x) : ∃ a n cap ns, v = .slice a n cap ∧ NRaw W a n ns := by
  rcases open_slice Tryz.underlying22 h with ⟨hcs, _⟩ | ⟨a, len, cap, m', n, D, Pl, hcs, _, hl, hmx, hmm, _, hx⟩
  · simp at hcs
    exact ⟨none, 0, 0, [], hcs, ⟨rfl, by omega, fun i hi => absurd hi (Nat.not_lt_zero _), .inl rfl⟩⟩
  · simp at hcs
    unfold maxLen at hmx
    simp at hmm
    subst hmm
    rw [cellsNode] at hx
    by_cases h0 : len = 0
    · exact ⟨_, _, _, [], hcs, ⟨by simp [h0], by omega, fun i hi => by omega, .inl h0⟩⟩
    · obtain ⟨b, off, spot⟩ := a
      obtain ⟨cs0, hc0, _⟩ := hx 0 (by omega)
      obtain ⟨_, hl0, hcell0⟩ := World.cells?_some hc0
      have hsome : W.cell? ⟨b, off, spot⟩ = some (cs0.getD 0 default) := by
        have := hcell0 0 (by omega)
        simp [Addr.add] at this
        rw [this]
        match cs0, hl0 with
        | [x0, x1, x2, x3, x4, x5], _ => rfl
      have hspot : spot = none := by simpa using World.cell?_spot hsome
      subst hspot
      have hex : ∀ i, i < len → ∃ q : NodeD, NAt Raw W b (off + i * 6) q ∧ q.s.size ≤ 9223372036854775807 := fun i hi => by
        obtain ⟨cs', h1, h2⟩ := hx i (by omega)
        rw [add_off] at h1
        exact openNode h1 h2
      have e : ∀ i (hi : i < len), node ((List.range len).map fun i => if h : i < len then Classical.choose (hex i h) else nodeZ) i = Classical.choose (hex i hi) := fun i hi => by simp [node, hi]
      refine ⟨_, _, _, (List.range len).map fun i => if h : i < len then Classical.choose (hex i h) else nodeZ, hcs, ⟨by simp, by omega, fun i hi => ?_, .inr ⟨b, off, rfl, World.block_lt_of_cell? W _ hsome, fun i hi => ?_⟩⟩⟩
      · rw [e i hi]; exact (Classical.choose_spec (hex i hi)).2
      · rw [e i hi]; exact (Classical.choose_spec (hex i hi)).1

set_option maxRecDepth 100000 in
theorem openTree {H : Type} {enc : TypeId × Value → H} {W : World} {r : Go.Reach} {b0 : Nat} {v : Value} {d : DataW H} {p : List MemPlace} (hv : Value.okWide Tryz.prog W r b0 24 v)
    (h : DataW.Trod enc Tryz.prog W 0 (fun _ => true) true 24 v d p) : ∃ a n cap ns, v = .agg #[.slice a n cap] ∧ NRaw W a n ns := by
  obtain ⟨cs, rfl, hsz⟩ := okWide_struct Tryz.underlying24 hv
  obtain ⟨m, hm⟩ := h
  have hlen : cs.size = 1 := hsz.trans cellsTree
  obtain ⟨c0, hc0⟩ : ∃ c0, cs = #[c0] := Array.size_eq_one_iff.1 hlen
  subst hc0
  obtain ⟨y0, n', _, _, h0⟩ := trod_struct1 Tryz.underlying24 hm
  have h0' : DataW.trod enc Tryz.prog W 0 (fun _ => true) true n' 22 [c0] = some y0 := h0
  obtain ⟨a, n, cap, ns, rfl, hN⟩ := openNodes h0'
  exact ⟨a, n, cap, ns, rfl, hN⟩

end OpenTree
end Go.Proofs.YtinndpnilmmmjaaGreatDoor
