import Derived.Test.YtgjpchnkodnieaaGreatDoorOpenPXBProduct
import Derived.Test.YtgjpchnkodnieaaGreatDoorCards
import Derived.Test.YtgjpchnkodnieaaGreatDoorTie
import Derived.SevenTiedAt
namespace Go.Proofs.YtgjpchnkodnieaaGreatDoor
open Go
namespace OpenProduct

theorem standIn_none {ps : Array TypeId} (hall : ps.toList.all (fun t => !Tryz.prog.wantsStandIn t) = true) {j : Nat} {t : TypeId} (ht : ps[j]? = some t) : Tryz.prog.wantsStandIn t = false := by
  have hm : t ∈ ps.toList := Array.mem_toList_iff.mpr (Array.mem_of_getElem? ht)
  simpa using List.all_eq_true.mp hall t hm

theorem c_wf : Rows.fnProductRow.wfByText (OpenSpec.ofChange Rows.fnProductSpec) = true := by kernel_rfl
theorem c_looks : true = Tryz.prog.looks [] := by kernel_rfl
theorem c_goes : false = OpenClaim.goesBy Rows.fnProductRow Tryz.prog := by kernel_rfl
theorem c_fn : Tryz.prog.funcNamed "loop.example/s02542/laws.FnProduct" = some 6 := by kernel_rfl
theorem c_stand : Tryz.f6.params.toList.all (fun t => !Tryz.prog.wantsStandIn t) = true := by kernel_rfl

theorem card : Rows.FnProductCardSaid :=
  Claim7.holds_tied_plain_at .later [] [.sentinel, .sentinel, .data] true (true, "5d477d54a310af48a2ae95aa7344c239ed9683e9d3c3bda78b6853dad3090a7c") true
    over (fun _ h => by cases h) c_wf (fun _ h => by cases h) fnProduct_row_tie rfl ⟨rfl, rfl⟩ (by kernel_rfl) rfl
    (fun f fn hf hfn => by
      obtain rfl : f = 6 := Option.some.inj (c_fn.symm.trans hf) |>.symm
      obtain rfl : fn = Tryz.f6 := (Option.some.inj (Tryz.func6.symm.trans hfn)).symm
      exact ⟨c_looks, fun j t ht => standIn_none c_stand ht⟩)
    c_goes

end OpenProduct

theorem fnProduct_holds : Rows.FnProductCardSaid := OpenProduct.card

end Go.Proofs.YtgjpchnkodnieaaGreatDoor
