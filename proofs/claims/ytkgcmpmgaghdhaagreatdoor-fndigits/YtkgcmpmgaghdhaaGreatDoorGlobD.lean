import Derived.Test.YtkgcmpmgaghdhaaGreatDoorMFit2
namespace Go.Proofs.YtkgcmpmgaghdhaaGreatDoor
open Go.RowKit

/-- The sentinel errTooGreat lies as its initialiser lays it; nothing is said of errNoResult. -/
structure GlD (w : World) (a b : Addr) : Prop where
  big : w.cell? ⟨1, 0, none⟩ = some (.iface 175 (.pointer (some b)))

theorem GlD.below {w w' : World} {a b : Addr} (h : GlD w a b) (hb : Below w.heap.size w w') : GlD w' a b :=
  ⟨(hb.cell (p := ⟨1, 0, none⟩) (World.block_lt_of_cell? _ _ h.big)).trans h.big⟩
theorem GlD.alloc {w : World} {a b : Addr} (h : GlD w a b) (o : Obj) : GlD (w.alloc o) a b := h.below ((Below.refl _ _).alloc (Nat.le_refl _) _)

end Go.Proofs.YtkgcmpmgaghdhaaGreatDoor
