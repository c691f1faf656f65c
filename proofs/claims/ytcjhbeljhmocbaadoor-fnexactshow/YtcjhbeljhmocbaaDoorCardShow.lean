import Derived.Test.YtcjhbeljhmocbaaDoorOpenShow
import Derived.Test.YtcjhbeljhmocbaaDoorCards
import Derived.Test.YtcjhbeljhmocbaaDoorTie
import Derived.SevenTiedAt
namespace Go.Proofs.YtcjhbeljhmocbaaDoor
open Go
namespace OpenShow

theorem standIn_none {ps : Array TypeId} (hall : ps.toList.all (fun t => !Tryd.prog.wantsStandIn t) = true) {j : Nat} {t : TypeId} (ht : ps[j]? = some t) : Tryd.prog.wantsStandIn t = false := by
  have hm : t ∈ ps.toList := Array.mem_toList_iff.mpr (Array.mem_of_getElem? ht)
  simpa using List.all_eq_true.mp hall t hm

end OpenShow

theorem fnExactShow_holds : Rows.FnExactShowCardSaid :=
  Claim7.holds_tied_plain_at .later [] [.data, .data, .data, .data, .pinned] true (true, "f0354fac19306127b011ae64aa171fb91f109b47c0dde868fc713b511eaa2f63") false
    OpenShow.over (fun _ h => by cases h) (by kernel_rfl) (fun _ h => by cases h) fnExactShow_row_tie rfl ⟨rfl, rfl⟩ (by kernel_rfl) rfl
    (fun f fn hf hfn => by
      obtain rfl : f = 3 := Option.some.inj ((show Tryd.prog.funcNamed "loop.example/s02542/laws.FnExactShow" = some 3 by kernel_rfl).symm.trans hf) |>.symm
      obtain rfl : fn = Tryd.f3 := (Option.some.inj (Tryd.func3.symm.trans hfn)).symm
      exact ⟨by kernel_rfl, fun j t ht => by
        exact OpenShow.standIn_none (by kernel_rfl) ht⟩)
    (by kernel_rfl)

end Go.Proofs.YtcjhbeljhmocbaaDoor
