import Derived.Test.YtgjpchnkodnieaaGreatDoorZ
import Derived.Shelf.Spec.SlicesGrow
import Derived.Deep.WholeRow
import Derived.Test.YtgjpchnkodnieaaGreatDoorProg
set_option linter.defProp false
namespace Go.Proofs
open Go.Shelf Tryz
def Tryz.growI_ren:Go.Shelf.Ren:=⟨fun|4=>185|n=>n,fun|22=>23|25=>3|3=>3|4=>4|9=>9|20=>20|0=>0|n=>n,fun|n=>n⟩
def Tryz.growI:Go.Proofs.Lays8.n4 prog Tryz.growI_ren:= {
 mixed:=by kernel_rfl
 f4:=⟨Tryz.f185.name,by decide,func185.trans (congrArg some (by kernel_rfl))⟩
 t0:=underlying0
 a0:=isAgg0
 z0:=sizeOf0
 v0:=zeroValue0
 t3:=underlying3
 a3:=isAgg3
 z3:=sizeOf3
 v3:=zeroValue3
 t4:=underlying4
 a4:=isAgg4
 z4:=sizeOf4
 v4:=zeroValue4
 t9:=underlying9
 a9:=isAgg9
 z9:=sizeOf9
 v9:=zeroValue9
 t20:=underlying20
 a20:=isAgg20
 z20:=sizeOf20
 v20:=zeroValue20
 t22:=underlying23
 a22:=isAgg23
 z22:=sizeOf23
 v22:=zeroValue23}
end Go.Proofs
