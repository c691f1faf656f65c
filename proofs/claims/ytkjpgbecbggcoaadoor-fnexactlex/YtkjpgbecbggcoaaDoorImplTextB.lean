import Derived.Test.YtkjpgbecbggcoaaDoorImplTextA
import Derived.Test.YtkjpgbecbggcoaaDoorShelfReplace
import Derived.Shelf.Strings.BuilderF
namespace Go.Proofs.YtkjpgbecbggcoaaDoor
open Go.RowKit

theorem extra_builder : Builder.Extra Tryd.prog Tryd.replaceS_ren where
  sizeBuilder := by kernel_rfl
  liesBuilder := by kernel_rfl
  t5 := Tryd.underlying5
  a5 := Tryd.isAgg5
  z5 := Tryd.sizeOf5
  v5 := Tryd.zeroValue5
  infoByte := by kernel_rfl
  cellsByte := by kernel_rfl
  sizeByte := by kernel_rfl
  neB5 := by decide

/-- Block b, from B on, holds a Builder with these bytes. -/
def IsB (w : World) (B b : Nat) (l : List UInt8) : Prop := Lib.IsBuilderF (Tryd.replaceS_ren.t 72) (Tryd.replaceS_ren.t 5) B b (Lib.byteCells l) w

theorem bwrite_any (B b : Nat) (l : List UInt8) (s : ByteArray) (w : World) (h : IsB w B b l) (hlen : l.length + s.size ≤ 17592186044416) (hBw : B ≤ w.heap.size) :
    Calls Tryd.prog 52 #[.pointer (some ⟨b, 0, none⟩), .string s] w fun e w' => e = .returned (.tuple #[.int .i64 s.size, .nilIface]) ∧ IsB w' B b (l ++ s.data.toList) ∧ Below B w w' := by
  refine (Any.Builder_WriteString_f { Tryd.replaceS with } extra_builder B b (Lib.byteCells l) s w h (by simp [Lib.byteCells]; omega) hBw).mono ?_
  rintro e w' ⟨rfl, h1, h2⟩
  refine ⟨rfl, Or.inr ?_, h2⟩
  have e : Lib.byteCells l ++ Lib.strCells s = Lib.byteCells (l ++ s.data.toList) := by simp [Lib.byteCells, Lib.strCells]
  rw [← e]
  exact h1

theorem bstring_any (B b : Nat) (l : List UInt8) (w : World) (h : IsB w B b l) (hBw : B ≤ w.heap.size) :
    Calls Tryd.prog 55 #[.pointer (some ⟨b, 0, none⟩)] w fun e w' => e = .returned (.string ⟨l.toArray⟩) ∧ IsB w' B b l ∧ Below B w w' :=
  Any.Builder_String_any_f { Tryd.replaceS with } extra_builder B b l w h hBw

end Go.Proofs.YtkjpgbecbggcoaaDoor
