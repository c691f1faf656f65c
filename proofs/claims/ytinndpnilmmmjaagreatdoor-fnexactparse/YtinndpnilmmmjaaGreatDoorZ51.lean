import Derived.Test.YtinndpnilmmmjaaGreatDoorZ50
import Derived.Test.YtinndpnilmmmjaaGreatDoorCards
import Derived.Test.YtinndpnilmmmjaaGreatDoorTie
set_option linter.defProp false
namespace Go.Proofs.YtinndpnilmmmjaaGreatDoor
open Go.Proofs.Tryz
namespace OpenParse
def Y3{ps:Array TypeId}(hall:ps.toList.all (fun t=> !prog.wantsStandIn t)=true){j:Nat}{t:TypeId}(ht:ps[j]? =some t):prog.wantsStandIn t=false:=by have hm:t∈ps.toList:=Array.mem_toList_iff.mpr (Array.mem_of_getElem? ht);simpa using Ax.mp hall t hm
end OpenParse
theorem fnExactParse_holds:Rows.FnExactParseCardSaid:=Claim7.holds_tied_plain_at .later [] [.data,.data,.data,.data,.handle,.sentinel,.sentinel,.sentinel,.pinned] true (true,"842b220b3d70bdcd59d3a116c8c51ee9ad8d60ec505488734cce2387b2d96bdd") true OpenParse.fL (fun _ h=>by cases h) (by kernel_rfl) (fun _ h=>by cases h) fnExactParse_row_tie rfl ⟨rfl,rfl⟩ (by kernel_rfl) rfl (fun f fn hf hfn=>by obtain rfl:f=5:=Ac ((show prog.funcNamed "loop.example/s02542/laws.FnExactParse"=some 5 by kernel_rfl).symm.trans hf)|>.symm;obtain rfl:fn=Tryz.f5:=(Ac (func5.symm.trans hfn)).symm;exact⟨by kernel_rfl,fun j t ht=>by exact OpenParse.Y3 (by kernel_rfl) ht⟩)
  (by kernel_rfl)
