import Derived.Test.YtkjpgbecbggcoaaDoorOpenTok
import Derived.Test.YtkjpgbecbggcoaaDoorCards
import Derived.Test.YtkjpgbecbggcoaaDoorTie
import Derived.SevenTiedAt
namespace Go.Proofs.YtkjpgbecbggcoaaDoor
open Go
namespace OpenTok

theorem standIn_none {ps : Array TypeId} (hall : ps.toList.all (fun t => !Tryd.prog.wantsStandIn t) = true) {j : Nat} {t : TypeId} (ht : ps[j]? = some t) : Tryd.prog.wantsStandIn t = false := by
  have hm : t ∈ ps.toList := Array.mem_toList_iff.mpr (Array.mem_of_getElem? ht)
  simpa using List.all_eq_true.mp hall t hm

end OpenTok

theorem fnExactTokenText_holds : Rows.FnExactTokenTextCardSaid :=
  Claim7.holds_tied_plain_at .later [] [.data, .data, .data, .data, .sentinel, .sentinel, .pinned] true (true, "e02e8e08bd84ab258b80f90ace4e8969de3b0091ad6e1ddb7b7651c0e7d85b31") true
    OpenTok.over (fun _ h => by cases h) (by kernel_rfl) (fun _ h => by cases h) fnExactTokenText_row_tie rfl ⟨rfl, rfl⟩ (by kernel_rfl) rfl
    (fun f fn hf hfn => by
      obtain rfl : f = 4 := Option.some.inj ((show Tryd.prog.funcNamed "loop.example/s02542/laws.FnExactTokenText" = some 4 by kernel_rfl).symm.trans hf) |>.symm
      obtain rfl : fn = Tryd.f4 := (Option.some.inj (Tryd.func4.symm.trans hfn)).symm
      exact ⟨by kernel_rfl, fun j t ht => by
        exact OpenTok.standIn_none (by kernel_rfl) ht⟩)
    (by kernel_rfl)

end Go.Proofs.YtkjpgbecbggcoaaDoor
