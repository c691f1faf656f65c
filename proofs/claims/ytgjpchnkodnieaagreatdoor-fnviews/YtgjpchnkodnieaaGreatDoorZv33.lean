import Derived.Test.YtgjpchnkodnieaaGreatDoorZv22
import Derived.Test.YtgjpchnkodnieaaGreatDoorZv04
import Derived.Deep.RegionHeld3
import Derived.BigRegion
import Derived.Deep.RegionLaw
namespace Go.Proofs.YtgjpchnkodnieaaGreatDoor
open Go.RowKit
structure AW (w : World) (pr p0 p4 : Nat) (c : Bool) (g1 g2 n1 n2 c1 c2 : Nat) (sh dt : List Int) (wx : World) : Prop where
  box : Box wx p4 c (.slice (some ⟨g1, 0, none⟩) n1 c1) (.slice (some ⟨g2, 0, none⟩) n2 c2)
  o1 : wx.ownsRow w.heap.size 3 1 (.slice (some ⟨g1, 0, none⟩) n1 c1) n1 (sh.map (Value.int .i64))
  o2 : wx.ownsRow w.heap.size 3 1 (.slice (some ⟨g2, 0, none⟩) n2 c2) n2 (dt.map (Value.int .i64))
  ne : g1 ≠ g2
  h1 : n1 ≤ 6
  h2 : n2 ≤ 10001
  rd : RdOk wx pr
  but : But (fun x => x = pr) w wx
  b0 : Box wx p0 false (.slice none 0 0) (.slice none 0 0)
  hp : pr < w.heap.size
  h4 : w.heap.size ≤ p4
  h0 : w.heap.size ≤ p0
section
variable {w wx w' : World} {pr p0 p4 g1 g2 n1 n2 c1 c2 : Nat} {c : Bool} {sh dt : List Int}
theorem AW.next (h : AW w pr p0 p4 c g1 g2 n1 n2 c1 c2 sh dt wx) (hb : But (fun x => x = pr) wx w') (hr : RdOk w' pr) : AW w pr p0 p4 c g1 g2 n1 n2 c1 c2 sh dt w' :=
  ⟨h.box.but hb (by have := h.h4; have := h.hp; show ¬ p4 = pr; omega), owns_but h.o1 hb (by have := owns_from h.o1; have := h.hp; show ¬ g1 = pr; omega), owns_but h.o2 hb (by have := owns_from h.o2; have := h.hp; show ¬ g2 = pr; omega), h.ne, h.h1, h.h2, hr, (h.but.trans hb).mono (by rintro x (h | h) <;> exact h), h.b0.but hb (by have := h.h0; have := h.hp; show ¬ p0 = pr; omega), h.hp, h.h4, h.h0⟩
theorem AW.below (h : AW w pr p0 p4 c g1 g2 n1 n2 c1 c2 sh dt wx) (hb : Below wx.heap.size wx w') : AW w pr p0 p4 c g1 g2 n1 n2 c1 c2 sh dt w' := h.next (But.of_below hb) (h.rd.below hb)
end
end Go.Proofs.YtgjpchnkodnieaaGreatDoor
