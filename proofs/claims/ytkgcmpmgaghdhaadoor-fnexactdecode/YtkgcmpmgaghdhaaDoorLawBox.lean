import Derived.Test.YtkgcmpmgaghdhaaDoorMFit0
import Derived.Deep.RegionWith
import Derived.Deep.DeepCutAuto
namespace Go.Proofs.YtkgcmpmgaghdhaaDoor
open Go.RowKit

theorem box1 {w wr : World} {o1 : Obj} (hK : Below (w.heap.size + 1) (w.alloc o1) wr) :
    Below w.heap.size w wr ∧ w.heap.size + 1 ≤ wr.heap.size ∧ (∀ b o, b < w.heap.size + 1 → wr.cell? ⟨b, o, none⟩ = (w.alloc o1).cell? ⟨b, o, none⟩) :=
  ⟨((Below.refl _ _).alloc (Nat.le_refl _) _).trans (hK.mono (by omega)), by have := hK.size; simp at this; omega, fun b o hb => hK.cell (p := ⟨b, o, none⟩) hb⟩

theorem box2 {w wr : World} {o1 o2 : Obj} (hK : Below (w.heap.size + 2) ((w.alloc o1).alloc o2) wr) :
    Below w.heap.size w wr ∧ w.heap.size + 2 ≤ wr.heap.size ∧ (∀ b o, b < w.heap.size + 2 → wr.cell? ⟨b, o, none⟩ = ((w.alloc o1).alloc o2).cell? ⟨b, o, none⟩) :=
  ⟨(((Below.refl _ _).alloc (Nat.le_refl _) _).alloc (by simp) _).trans (hK.mono (by omega)), by have := hK.size; simp at this; omega, fun b o hb => hK.cell (p := ⟨b, o, none⟩) hb⟩

/-- What a slice argument is known to be: its cells, and that its length is an int. -/
structure Raw (w : World) (a : Option Addr) (n : Nat) (zs : List Int) : Prop where
  len : zs.length = n
  max : n ≤ 9223372036854775807
  at_ : n = 0 ∨ ∃ b off, a = some ⟨b, off, none⟩ ∧ b < w.heap.size ∧ ∀ i, i < n → w.cell? ⟨b, off + i, none⟩ = some (.int .i64 (zs.getD i 0))

theorem Raw.row {w : World} {a : Option Addr} {n : Nat} {zs : List Int} (h : Raw w a n zs) (hn : n ≤ 17592186044416) : Row w a n zs := ⟨h.len, hn, h.at_⟩

end Go.Proofs.YtkgcmpmgaghdhaaDoor
