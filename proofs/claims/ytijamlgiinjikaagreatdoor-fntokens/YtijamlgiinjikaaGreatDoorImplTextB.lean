import Derived.Test.YtijamlgiinjikaaGreatDoorImplTextA
import Derived.Test.YtijamlgiinjikaaGreatDoorShelfReplace
import Derived.Shelf.Strings.BuilderF
namespace Go.Proofs.YtijamlgiinjikaaGreatDoor
open Go.RowKit

theorem extra_builder : Builder.Extra Tryz.prog Tryz.replaceS_ren where
  sizeBuilder := by kernel_rfl
  liesBuilder := by kernel_rfl
  t5 := Tryz.underlying5
  a5 := Tryz.isAgg5
  z5 := Tryz.sizeOf5
  v5 := Tryz.zeroValue5
  infoByte := by kernel_rfl
  cellsByte := by kernel_rfl
  sizeByte := by kernel_rfl
  neB5 := by decide

/-- Block b, from B on, holds a Builder with these bytes. -/
def IsB (w : World) (B b : Nat) (l : List UInt8) : Prop := Lib.IsBuilderF (Tryz.replaceS_ren.t 72) (Tryz.replaceS_ren.t 5) B b (Lib.byteCells l) w

theorem bwrite_any (B b : Nat) (l : List UInt8) (s : ByteArray) (w : World) (h : IsB w B b l) (hlen : l.length + s.size ≤ 17592186044416) (hBw : B ≤ w.heap.size) :
    Calls Tryz.prog 46 #[.pointer (some ⟨b, 0, none⟩), .string s] w fun e w' => e = .returned (.tuple #[.int .i64 s.size, .nilIface]) ∧ IsB w' B b (l ++ s.data.toList) ∧ Below B w w' := by
  refine (Any.Builder_WriteString_f { Tryz.replaceS with } extra_builder B b (Lib.byteCells l) s w h (by simp [Lib.byteCells]; omega) hBw).mono ?_
  rintro e w' ⟨rfl, h1, h2⟩
  refine ⟨rfl, Or.inr ?_, h2⟩
  have e : Lib.byteCells l ++ Lib.strCells s = Lib.byteCells (l ++ s.data.toList) := by simp [Lib.byteCells, Lib.strCells]
  rw [← e]
  exact h1

theorem bstring_any (B b : Nat) (l : List UInt8) (w : World) (h : IsB w B b l) (hBw : B ≤ w.heap.size) :
    Calls Tryz.prog 49 #[.pointer (some ⟨b, 0, none⟩)] w fun e w' => e = .returned (.string ⟨l.toArray⟩) ∧ IsB w' B b l ∧ Below B w w' :=
  Any.Builder_String_any_f { Tryz.replaceS with } extra_builder B b l w h hBw

end Go.Proofs.YtijamlgiinjikaaGreatDoor
