import Derived.Shelf.Strings.BuilderK
import Derived.Test.YtmgjicgojlkpcaaGreatDoorShelfReplace
namespace Go.Proofs
open Go.Shelf

/-- The numbers of WriteByte's closure: Replace's, and WriteByte's own. -/
def Tryz.wbyteS_ren : Go.Shelf.Ren := ⟨fun | 167 => 36 | n => Tryz.replaceS_ren.f n, Tryz.replaceS_ren.t, Tryz.replaceS_ren.g⟩

theorem Tryz.wbyteS : Go.Proofs.Lays.n167 Tryz.prog Tryz.wbyteS_ren := {
  mixed := by kernel_rfl
  f167 := Tryz.func36.trans (congrArg some (by kernel_rfl))
  f240 := Tryz.replaceS.f240.trans (congrArg some (by kernel_rfl))
  f276 := Tryz.replaceS.f276.trans (congrArg some (by kernel_rfl))
  t0 := Tryz.replaceS.t0
  a0 := Tryz.replaceS.a0
  z0 := Tryz.replaceS.z0
  v0 := Tryz.replaceS.v0
  t4 := Tryz.replaceS.t4
  a4 := Tryz.replaceS.a4
  z4 := Tryz.replaceS.z4
  v4 := Tryz.replaceS.v4
  t5 := Tryz.replaceS.t5
  a5 := Tryz.replaceS.a5
  z5 := Tryz.replaceS.z5
  v5 := Tryz.replaceS.v5
  t9 := Tryz.replaceS.t9
  a9 := Tryz.replaceS.a9
  z9 := Tryz.replaceS.z9
  v9 := Tryz.replaceS.v9
  t20 := Tryz.replaceS.t20
  a20 := Tryz.replaceS.a20
  z20 := Tryz.replaceS.z20
  v20 := Tryz.replaceS.v20
  t37 := Tryz.replaceS.t37
  a37 := Tryz.replaceS.a37
  z37 := Tryz.replaceS.z37
  v37 := Tryz.replaceS.v37
  t70 := Tryz.replaceS.t70
  a70 := Tryz.replaceS.a70
  z70 := Tryz.replaceS.z70
  v70 := Tryz.replaceS.v70
  t72 := Tryz.replaceS.t72
  a72 := Tryz.replaceS.a72
  z72 := Tryz.replaceS.z72
  v72 := Tryz.replaceS.v72
  t75 := Tryz.replaceS.t75
  a75 := Tryz.replaceS.a75
  z75 := Tryz.replaceS.z75
  v75 := Tryz.replaceS.v75
  t164 := Tryz.replaceS.t164
  a164 := Tryz.replaceS.a164
  z164 := Tryz.replaceS.z164
  v164 := Tryz.replaceS.v164 }

end Go.Proofs
