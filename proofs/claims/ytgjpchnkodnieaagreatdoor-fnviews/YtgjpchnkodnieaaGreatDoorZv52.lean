import Derived.Test.YtgjpchnkodnieaaGreatDoorZv51
import Derived.Test.YtgjpchnkodnieaaGreatDoorCards
import Derived.Test.YtgjpchnkodnieaaGreatDoorTie
import Derived.SevenTiedAt
namespace Go.Proofs.YtgjpchnkodnieaaGreatDoor
open Go
namespace OpenViews
theorem standIn_none {ps : Array TypeId} (hall : ps.toList.all (fun t => !Tryz.prog.wantsStandIn t) = true) {j : Nat} {t : TypeId} (ht : ps[j]? = some t) : Tryz.prog.wantsStandIn t = false := by
  have hm : t ∈ ps.toList := Array.mem_toList_iff.mpr (Array.mem_of_getElem? ht)
  simpa using List.all_eq_true.mp hall t hm
end OpenViews
theorem fnViews_holds : Rows.FnViewsCardSaid :=
  Claim7.holds_tied_plain_at .later [] [.sentinel, .sentinel] true (true, "5d477d54a310af48a2ae95aa7344c239ed9683e9d3c3bda78b6853dad3090a7c") true
    OpenViews.over (fun _ h => by cases h) (by kernel_rfl) (fun _ h => by cases h) fnViews_row_tie rfl ⟨rfl, rfl⟩ (by kernel_rfl) rfl
    (fun f fn hf hfn => by
      obtain rfl : f = 5 := Option.some.inj ((show Tryz.prog.funcNamed "loop.example/s02542/laws.FnViews" = some 5 by kernel_rfl).symm.trans hf) |>.symm
      obtain rfl : fn = Tryz.f5 := (Option.some.inj (Tryz.func5.symm.trans hfn)).symm
      exact ⟨by kernel_rfl, fun j t ht => by
        exact OpenViews.standIn_none (by kernel_rfl) ht⟩)
    (by kernel_rfl)
end Go.Proofs.YtgjpchnkodnieaaGreatDoor
