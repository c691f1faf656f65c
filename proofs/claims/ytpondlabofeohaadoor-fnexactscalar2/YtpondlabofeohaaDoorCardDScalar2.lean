import Derived.Test.YtpondlabofeohaaDoorOpenDScalar2
import Derived.Test.YtpondlabofeohaaDoorCards
import Derived.Test.YtpondlabofeohaaDoorTie
import Derived.SevenTiedAt
namespace Go.Proofs.YtpondlabofeohaaDoor
open Go
namespace OpenScalar2

theorem standIn_none {ps : Array TypeId} (hall : ps.toList.all (fun t => !Tryd.prog.wantsStandIn t) = true) {j : Nat} {t : TypeId} (ht : ps[j]? = some t) : Tryd.prog.wantsStandIn t = false := by
  have hm : t ∈ ps.toList := Array.mem_toList_iff.mpr (Array.mem_of_getElem? ht)
  simpa using List.all_eq_true.mp hall t hm

theorem card {F : Int → Bool → Bool → List Int → List Int → List Int → List Int → Ans} (hspec : LawScalar2.Spec F) (himp : LawScalar2.Impl F) : Rows.FnExactScalar2CardSaid :=
  Claim7.holds_tied_plain_at .later [] [.sentinel, .sentinel] true (true, "527ef4acc133f1ba0ff52aac20c9cded4132487af887969e907182d22802720b") true
    (over hspec himp) (fun _ h => by cases h) (by kernel_rfl) (fun _ h => by cases h) fnExactScalar2_row_tie rfl ⟨rfl, rfl⟩ (by kernel_rfl) rfl
    (fun f fn hf hfn => by
      obtain rfl : f = 4 := Option.some.inj ((show Tryd.prog.funcNamed "loop.example/s02542/laws.FnExactScalar2" = some 4 by kernel_rfl).symm.trans hf) |>.symm
      obtain rfl : fn = Tryd.f4 := (Option.some.inj (Tryd.func4.symm.trans hfn)).symm
      exact ⟨by kernel_rfl, fun j t ht => by
        exact standIn_none (by kernel_rfl) ht⟩)
    (by kernel_rfl)

end OpenScalar2
end Go.Proofs.YtpondlabofeohaaDoor
