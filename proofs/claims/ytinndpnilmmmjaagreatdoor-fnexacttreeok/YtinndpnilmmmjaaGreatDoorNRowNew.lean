import Derived.Test.YtinndpnilmmmjaaGreatDoorMFit0
import Derived.Test.YtinndpnilmmmjaaGreatDoorImplTree
namespace Go.Proofs.YtinndpnilmmmjaaGreatDoor
open Go.RowKit

theorem NNew.rowC {w : World} {g n H : Nat} {ns : List NodeD} (h : NNew w g n H ns) : NRowC w (some ⟨g, 0, none⟩) n ns := by
  refine ⟨h.row, fun b off e i hi s m c hc => ?_⟩
  cases e
  obtain ⟨h0, h1, h2, h3, f, s1, s2, h4⟩ := h
  obtain ⟨_, _, _, _, _, e5⟩ := h4.cells i hi
  rw [Nat.zero_add, h4.row.cell (by omega), e5] at hc
  cases hc
  exact Nat.le_refl _

end Go.Proofs.YtinndpnilmmmjaaGreatDoor
