import Derived.Test.YtinndpnilmmmjaaGreatDoorOpenTree
import Derived.Test.YtinndpnilmmmjaaGreatDoorCards
import Derived.Test.YtinndpnilmmmjaaGreatDoorTie
import Derived.SevenTiedAt
namespace Go.Proofs.YtinndpnilmmmjaaGreatDoor
open Go
namespace OpenTree

theorem standIn_none {ps : Array TypeId} (hall : ps.toList.all (fun t => !Tryz.prog.wantsStandIn t) = true) {j : Nat} {t : TypeId} (ht : ps[j]? = some t) : Tryz.prog.wantsStandIn t = false := by
  have hm : t ∈ ps.toList := Array.mem_toList_iff.mpr (Array.mem_of_getElem? ht)
  simpa using List.all_eq_true.mp hall t hm

end OpenTree

theorem fnExactTreeOk_holds : Rows.FnExactTreeOkCardSaid :=
  Claim7.holds_tied_plain_at .later [] [.data, .data, .data, .data, .sentinel, .sentinel, .pinned] true (true, "842b220b3d70bdcd59d3a116c8c51ee9ad8d60ec505488734cce2387b2d96bdd") true
    OpenTree.over (fun _ h => by cases h) (by kernel_rfl) (fun _ h => by cases h) fnExactTreeOk_row_tie rfl ⟨rfl, rfl⟩ (by kernel_rfl) rfl
    (fun f fn hf hfn => by
      obtain rfl : f = 3 := Option.some.inj ((show Tryz.prog.funcNamed "loop.example/s02542/laws.FnExactTreeOk" = some 3 by kernel_rfl).symm.trans hf) |>.symm
      obtain rfl : fn = Tryz.f3 := (Option.some.inj (Tryz.func3.symm.trans hfn)).symm
      exact ⟨by kernel_rfl, fun j t ht => by
        exact OpenTree.standIn_none (by kernel_rfl) ht⟩)
    (by kernel_rfl)

end Go.Proofs.YtinndpnilmmmjaaGreatDoor
