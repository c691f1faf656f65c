import Derived.Test.YtkgcmpmgaghdhaaGreatDoorOpenFXFolded
import Derived.Test.YtkgcmpmgaghdhaaGreatDoorCards
import Derived.Test.YtkgcmpmgaghdhaaGreatDoorTie
import Derived.SevenTiedAt
namespace Go.Proofs.YtkgcmpmgaghdhaaGreatDoor
open Go
namespace OpenFolded

theorem standIn_none {ps : Array TypeId} (hall : ps.toList.all (fun t => !Tryz.prog.wantsStandIn t) = true) {j : Nat} {t : TypeId} (ht : ps[j]? = some t) : Tryz.prog.wantsStandIn t = false := by
  have hm : t ∈ ps.toList := Array.mem_toList_iff.mpr (Array.mem_of_getElem? ht)
  simpa using List.all_eq_true.mp hall t hm

end OpenFolded

theorem fnFolded_holds : Rows.FnFoldedCardSaid :=
  Claim7.holds_tied_plain_at .later [] [.sentinel, .sentinel, .data] true (true, "140c1e5525868b73250d78f9527f88121e9e5b48cd8995ebd9da57e11df93545") true
    OpenFolded.over (fun _ h => by cases h) (by kernel_rfl) (fun _ h => by cases h) fnFolded_row_tie rfl ⟨rfl, rfl⟩ (by kernel_rfl) rfl
    (fun f fn hf hfn => by
      obtain rfl : f = 7 := Option.some.inj ((show Tryz.prog.funcNamed "loop.example/s02542/laws.FnFolded" = some 7 by kernel_rfl).symm.trans hf) |>.symm
      obtain rfl : fn = Tryz.f7 := (Option.some.inj (Tryz.func7.symm.trans hfn)).symm
      exact ⟨by kernel_rfl, fun j t ht => by
        exact OpenFolded.standIn_none (by kernel_rfl) ht⟩)
    (by kernel_rfl)

end Go.Proofs.YtkgcmpmgaghdhaaGreatDoor
