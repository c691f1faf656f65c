import Derived.Test.YtinndpnilmmmjaaGreatDoorImplSel
namespace Go.Proofs.YtinndpnilmmmjaaGreatDoor
open Go.RowKit

/-- What areAll gives over a tree that stands in w, from any later world. -/
def AllSaid (w : World) (a : Option Addr) (n cap : Nat) (ns : List NodeD) : Prop := ∀ (g : Nat) (_ : ∀ args w, (callFunc g args).run Tryz.prog w = .ok (.enter g args) w) (p : Int → Bool) (_ : KindSaid g p) (b : Option Addr) (m c : Nat) (zs : List Int) (v : World) (_ : Below w.heap.size w v) (_ : Row w b m zs) (_ : ∀ q, q < m → 0 ≤ zs.getD q 0 ∧ zs.getD q 0 < n) (r : Bool) (_ : (kinds ns zs).all p = r),
    Calls Tryz.prog 63 #[.agg #[.slice a n cap], .slice b m c, .func (.func g) #[] #[]] v fun e w' => e = .returned (.bool r) ∧ Below v.heap.size v w'

theorem allSaid {w : World} {a : Option Addr} {n : Nat} (cap : Nat) {ns : List NodeD} (h : NRow w a n ns) : AllSaid w a n cap ns := fun g eg p hp b m c zs v hv hb hz r hr => allIs g eg p hp a n cap ns b m c zs v (h.below (Nat.le_refl _) hv) (hb.below (Nat.le_refl _) hv) hz r hr

theorem kinds_take (ns : List NodeD) (zs : List Int) (k : Nat) : (kinds ns zs).take k = kinds ns (zs.take k) := by unfold kinds; rw [List.map_take]
theorem kinds_drop (ns : List NodeD) (zs : List Int) (k : Nat) : (kinds ns zs).drop k = kinds ns (zs.drop k) := by unfold kinds; rw [List.map_drop]

theorem in_take {zs : List Int} {m n k : Nat} (h : ∀ q, q < m → 0 ≤ zs.getD q 0 ∧ zs.getD q 0 < (n : Int)) (hk : k ≤ m) : ∀ q, q < k → 0 ≤ (zs.take k).getD q 0 ∧ (zs.take k).getD q 0 < (n : Int) := fun q hq => by
  have := h q (by omega)
  rw [show (zs.take k).getD q 0 = zs.getD q 0 by simp [List.getD_eq_getElem?_getD, hq]]
  exact this
theorem in_drop {zs : List Int} {m n : Nat} (h : ∀ q, q < m → 0 ≤ zs.getD q 0 ∧ zs.getD q 0 < (n : Int)) (k l : Nat) (hk : k + l ≤ m) : ∀ q, q < l → 0 ≤ (zs.drop k).getD q 0 ∧ (zs.drop k).getD q 0 < (n : Int) := fun q hq => by
  have := h (k + q) (by omega)
  rw [show (zs.drop k).getD q 0 = zs.getD (k + q) 0 by simp [List.getD_eq_getElem?_getD]]
  exact this

/-- What the calls leave behind. -/
def After (w Q : World) (v1 : Value) : Prop := ∀ v : World, Below Q.heap.size Q v → v.cell? ⟨w.heap.size, 0, none⟩ = some v1 ∧ Below w.heap.size w v

theorem after_of (w : World) (v1 : Value) (o : Obj) : After w ((w.alloc (.cells #[v1] 29)).alloc o) v1 := fun v hv => by
  have hs : ((w.alloc (.cells #[v1] 29)).alloc o).heap.size = w.heap.size + 1 + 1 := by simp
  refine ⟨(hv.cell (p := ⟨w.heap.size, 0, none⟩) (by rw [hs]; show w.heap.size < _; omega)).trans ?_, (((Below.refl _ _).alloc (Nat.le_refl _) _).alloc (by simp) _).trans (hv.mono (by rw [hs]; omega))⟩
  simp

end Go.Proofs.YtinndpnilmmmjaaGreatDoor
