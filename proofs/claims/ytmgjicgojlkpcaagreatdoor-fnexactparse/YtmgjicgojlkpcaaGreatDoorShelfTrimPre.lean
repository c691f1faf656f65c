import Derived.Shelf.Strings.Prefix
import Derived.Ground.NamesProg
import Derived.Test.YtmgjicgojlkpcaaGreatDoorProg
namespace Go.Proofs
open Go.Shelf
def Tryz.trimPreS_ren : Go.Shelf.Ren := ⟨fun | 101 => 182 | 208 => 208 | 206 => 209 | n => n, fun | 9 => 9 | 4 => 4 | 3 => 3 | n => n, fun | n => n⟩
theorem Tryz.trimPreS : Go.Proofs.Lays.n101 Tryz.prog Tryz.trimPreS_ren := {
  mixed := by kernel_rfl
  f101 := Tryz.func182.trans (congrArg some (by kernel_rfl))
  f206 := Tryz.func209.trans (congrArg some (by kernel_rfl))
  f208 := Tryz.func208.trans (congrArg some (by kernel_rfl))
  t3 := Tryz.underlying3
  a3 := Tryz.isAgg3
  z3 := Tryz.sizeOf3
  v3 := Tryz.zeroValue3
  t4 := Tryz.underlying4
  a4 := Tryz.isAgg4
  z4 := Tryz.sizeOf4
  v4 := Tryz.zeroValue4
  t9 := Tryz.underlying9
  a9 := Tryz.isAgg9
  z9 := Tryz.sizeOf9
  v9 := Tryz.zeroValue9 }
end Go.Proofs
