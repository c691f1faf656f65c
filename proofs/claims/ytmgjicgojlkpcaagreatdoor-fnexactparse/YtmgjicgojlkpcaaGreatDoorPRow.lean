import Derived.Test.YtmgjicgojlkpcaaGreatDoorPPut
import Derived.Test.YtmgjicgojlkpcaaGreatDoorAtMath
namespace Go.Proofs.YtmgjicgojlkpcaaGreatDoor
open Go.RowKit

theorem flatN_get : ∀ (xs : List NodeC) (i q : Nat) (x : NodeC), xs[i]? = some x → q < 6 → (xs.flatMap NodeC.cells)[i * 6 + q]? = x.cells[q]?
  | [], i, q, x, h, _ => by simp at h
  | y :: ys, 0, q, x, h, hq => by
    have e : y = x := by simpa using h
    subst e
    rw [List.flatMap_cons, List.getElem?_append_left (by show 0 * 6 + q < 6; omega), Nat.zero_mul, Nat.zero_add]
  | y :: ys, i + 1, q, x, h, hq => by
    rw [List.flatMap_cons, List.getElem?_append_right (by show 6 ≤ _; omega), show (i + 1) * 6 + q - y.cells.length = i * 6 + q by show (i + 1) * 6 + q - 6 = _; omega]
    exact flatN_get ys i q x (by simpa using h) hq

theorem own_at {w : World} {B e size n : Nat} {v : Value} {l : List Value} (h : w.ownsRow B e size v n l) : (v = .slice none 0 0 ∧ n = 0) ∨ ∃ g cap, v = .slice (some ⟨g, 0, none⟩) n cap ∧ g < w.heap.size ∧ B ≤ g ∧ n ≤ cap ∧ ∀ (j : Nat) u, l[j]? = some u → w.cell? ⟨g, j, none⟩ = some u := by
  rcases h.2 with ⟨rfl, h0⟩ | ⟨g, cap, cur, e, hB, hh, h1, h2, hs, ht⟩
  · exact .inl ⟨rfl, h0⟩
  · refine .inr ⟨g, cap, e, lt_of_block hh, hB, h1, fun j u hu => ?_⟩
    have := World.news_of_block hh j u (by
      rw [← ht] at hu
      have := List.getElem?_take (l := cur.toList) (i := n * size) (j := j)
      rw [hu] at this
      split at this
      · exact this.symm
      · cases this)
    rw [Addr.add] at this
    split at this
    · rename_i hj
      have hj' : j = 0 := by simpa using hj
      rw [hj']
      exact this
    · simpa using this

theorem OwnI.row {w : World} {B : Nat} {v : Value} {zs : List Int} (h : OwnI w B v zs) : ∃ a c, v = .slice a zs.length c ∧ RowW w a zs.length zs ∧ zs.length ≤ c := by
  rcases own_at h with ⟨rfl, h0⟩ | ⟨g, cap, rfl, hlt, _, hc, hu⟩
  · rw [h0]
    exact ⟨none, 0, rfl, ⟨h0, .inl rfl⟩, Nat.le_refl _⟩
  · refine ⟨_, _, rfl, ⟨rfl, .inr ⟨g, 0, rfl, hlt, fun i hi => ?_⟩⟩, hc⟩
    rw [Nat.zero_add]
    refine hu i _ ?_
    rw [List.getElem?_map, List.getElem?_eq_getElem hi, List.getD_eq_getElem?_getD, List.getElem?_eq_getElem hi]
    rfl

theorem node_map {xs : List NodeC} {i : Nat} {x : NodeC} (h : xs[i]? = some x) : node (xs.map NodeC.d) i = x.d := by
  unfold node
  rw [List.getD_eq_getElem?_getD, List.getElem?_map, h]
  rfl

/-- The nodes of a parser as a row. -/
theorem PS.nrow {T : TypeId} {Z w : World} {p i : Nat} {v0 v2 nd : Value} {xs : List NodeC} (h : PS T Z p v0 v2 w i nd xs) (hl : xs.length ≤ 1048576) : ∃ a c, nd = .slice a xs.length c ∧ NRowW w a xs.length (xs.map NodeC.d) := by
  rcases own_at h.own with ⟨rfl, h0⟩ | ⟨g, cap, rfl, hlt, _, hc, hu⟩
  · rw [h0]
    exact ⟨none, 0, rfl, ⟨by rw [List.length_map]; exact h0, by omega, .inl rfl⟩⟩
  · refine ⟨_, _, rfl, ⟨by rw [List.length_map], hl, .inr ⟨g, 0, rfl, hlt, fun j hj => ?_⟩⟩⟩
    obtain ⟨x, hx⟩ : ∃ x, xs[j]? = some x := ⟨_, List.getElem?_eq_getElem hj⟩
    have hk : ∀ q u, q < 6 → x.cells[q]? = some u → w.cell? ⟨g, 0 + j * 6 + q, none⟩ = some u := fun q u hq hu' => by
      rw [Nat.zero_add]
      exact hu _ _ ((flatN_get xs j q x hx hq).trans hu')
    obtain ⟨h4, h5⟩ := h.lists x (List.mem_of_getElem? hx)
    obtain ⟨a4, c4, e4, r4, _⟩ := h4.row
    obtain ⟨a5, c5, e5, r5, _⟩ := h5.row
    rw [node_map hx]
    refine ⟨a4, _, c4, a5, _, c5, ?_, ?_, ?_, ?_, ?_, ?_, r4, r5⟩
    · exact hk 0 _ (by omega) rfl
    · exact hk 1 _ (by omega) rfl
    · exact hk 2 _ (by omega) rfl
    · exact hk 3 _ (by omega) rfl
    · exact hk 4 _ (by omega) (by rw [← e4]; rfl)
    · exact hk 5 _ (by omega) (by rw [← e5]; rfl)

end Go.Proofs.YtmgjicgojlkpcaaGreatDoor
