import Derived.Test.YtkgcmpmgaghdhaaDoorOpenDDecode
import Derived.Test.YtkgcmpmgaghdhaaDoorCards
import Derived.Test.YtkgcmpmgaghdhaaDoorTie
import Derived.SevenTiedAt
namespace Go.Proofs.YtkgcmpmgaghdhaaDoor
open Go
namespace OpenDecode

theorem standIn_none {ps : Array TypeId} (hall : ps.toList.all (fun t => !Tryd.prog.wantsStandIn t) = true) {j : Nat} {t : TypeId} (ht : ps[j]? = some t) : Tryd.prog.wantsStandIn t = false := by
  have hm : t ∈ ps.toList := Array.mem_toList_iff.mpr (Array.mem_of_getElem? ht)
  simpa using List.all_eq_true.mp hall t hm

theorem card {F : Bool → Bool → List Int → List Int → List Int → List Int → Ans} (hspec : LawDecode.Spec F) (himp : LawDecode.Impl F) : Rows.FnExactDecodeCardSaid :=
  Claim7.holds_tied_plain_at .later [] [.sentinel] true (true, "2bc584a008e7504f4478af58317712fdc1f27334c0860bc94f825f00e96dfda8") true
    (over hspec himp) (fun _ h => by cases h) (by kernel_rfl) (fun _ h => by cases h) fnExactDecode_row_tie rfl ⟨rfl, rfl⟩ (by kernel_rfl) rfl
    (fun f fn hf hfn => by
      obtain rfl : f = 3 := Option.some.inj ((show Tryd.prog.funcNamed "loop.example/s02542/laws.FnExactDecode" = some 3 by kernel_rfl).symm.trans hf) |>.symm
      obtain rfl : fn = Tryd.f3 := (Option.some.inj (Tryd.func3.symm.trans hfn)).symm
      exact ⟨by kernel_rfl, fun j t ht => by
        exact standIn_none (by kernel_rfl) ht⟩)
    (by kernel_rfl)

end OpenDecode
end Go.Proofs.YtkgcmpmgaghdhaaDoor
