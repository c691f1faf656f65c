import Derived.Test.YtijamlgiinjikaaGreatDoorOpenTokens
import Derived.Test.YtijamlgiinjikaaGreatDoorCards
import Derived.Test.YtijamlgiinjikaaGreatDoorTie
import Derived.SevenTiedAt
namespace Go.Proofs.YtijamlgiinjikaaGreatDoor
open Go
namespace OpenTokens

theorem standIn_none {ps : Array TypeId} (hall : ps.toList.all (fun t => !Tryz.prog.wantsStandIn t) = true) {j : Nat} {t : TypeId} (ht : ps[j]? = some t) : Tryz.prog.wantsStandIn t = false := by
  have hm : t ∈ ps.toList := Array.mem_toList_iff.mpr (Array.mem_of_getElem? ht)
  simpa using List.all_eq_true.mp hall t hm

end OpenTokens

theorem fnTokens_holds : Rows.FnTokensCardSaid :=
  Claim7.holds_tied_plain_at .later [] [.data, .data, .data, .data, .sentinel, .sentinel, .pinned] true (true, "4e495527e15167ed089ebc549f5e17f60e237020b1e63a6d51593e6a8f544f8f") true
    OpenTokens.over (fun _ h => by cases h) (by kernel_rfl) (fun _ h => by cases h) fnTokens_row_tie rfl ⟨rfl, rfl⟩ (by kernel_rfl) rfl
    (fun f fn hf hfn => by
      obtain rfl : f = 3 := Option.some.inj ((show Tryz.prog.funcNamed "loop.example/s02542/laws.FnTokens" = some 3 by kernel_rfl).symm.trans hf) |>.symm
      obtain rfl : fn = Tryz.f3 := (Option.some.inj (Tryz.func3.symm.trans hfn)).symm
      exact ⟨by kernel_rfl, fun j t ht => by
        exact OpenTokens.standIn_none (by kernel_rfl) ht⟩)
    (by kernel_rfl)

end Go.Proofs.YtijamlgiinjikaaGreatDoor
