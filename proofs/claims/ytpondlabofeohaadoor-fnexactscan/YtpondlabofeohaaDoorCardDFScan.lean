import Derived.Test.YtpondlabofeohaaDoorOpenDFScan
import Derived.Test.YtpondlabofeohaaDoorCards
import Derived.Test.YtpondlabofeohaaDoorTie
import Derived.SevenTiedAt
namespace Go.Proofs.YtpondlabofeohaaDoor
open Go
namespace OpenScan

theorem standIn_none {ps : Array TypeId} (hall : ps.toList.all (fun t => !Tryd.prog.wantsStandIn t) = true) {j : Nat} {t : TypeId} (ht : ps[j]? = some t) : Tryd.prog.wantsStandIn t = false := by
  have hm : t ∈ ps.toList := Array.mem_toList_iff.mpr (Array.mem_of_getElem? ht)
  simpa using List.all_eq_true.mp hall t hm

theorem card {F : Int → Bool → List Int → List Int → Bool → Ans} (hspec : LawScan.Spec F) (himp : LawScan.Impl F) : Rows.FnExactScanCardSaid :=
  Claim7.holds_tied_plain_at .later [] [.sentinel, .sentinel, .data] true (true, "527ef4acc133f1ba0ff52aac20c9cded4132487af887969e907182d22802720b") true
    (over hspec himp) (fun _ h => by cases h) (by kernel_rfl) (fun _ h => by cases h) fnExactScan_row_tie rfl ⟨rfl, rfl⟩ (by kernel_rfl) rfl
    (fun f fn hf hfn => by
      obtain rfl : f = 6 := Option.some.inj ((show Tryd.prog.funcNamed "loop.example/s02542/laws.FnExactScan" = some 6 by kernel_rfl).symm.trans hf) |>.symm
      obtain rfl : fn = Tryd.f6 := (Option.some.inj (Tryd.func6.symm.trans hfn)).symm
      exact ⟨by kernel_rfl, fun j t ht => by
        exact standIn_none (by kernel_rfl) ht⟩)
    (by kernel_rfl)

end OpenScan
end Go.Proofs.YtpondlabofeohaaDoor
