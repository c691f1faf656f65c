import Derived.Test.YtabjnlhhefkekaaDoorFoldSAll
import Derived.Test.YtabjnlhhefkekaaDoorLawA1Fold
import Derived.Test.YtabjnlhhefkekaaDoorFoldOAll
import Derived.Test.YtabjnlhhefkekaaDoorCards
import Derived.Test.YtabjnlhhefkekaaDoorTie
import Derived.SevenTiedAt
import Derived.Test.YtabjnlhhefkekaaDoorFoldMAll
namespace Go.Proofs.YtabjnlhhefkekaaDoor
open Go.RowKit

theorem Fold_spec : LawFold.Spec fold := fun op c a1 a2 n1 n2 c1 c2 sh dt first w h1 h2 hc1 _ => Fold_any op c a1 a2 n1 n2 c1 c2 sh dt first w h1 h2 hc1

end Go.Proofs.YtabjnlhhefkekaaDoor
namespace Go.Proofs.YtabjnlhhefkekaaDoor
open Go
namespace OpenFold

theorem standIn_none {ps : Array TypeId} (hall : ps.toList.all (fun t => !Tryd.prog.wantsStandIn t) = true) {j : Nat} {t : TypeId} (ht : ps[j]? = some t) : Tryd.prog.wantsStandIn t = false := by
  have hm : t ∈ ps.toList := Array.mem_toList_iff.mpr (Array.mem_of_getElem? ht)
  simpa using List.all_eq_true.mp hall t hm

theorem card {F : Int → Bool → List Int → List Int → Bool → Ans} (hspec : LawFold.Spec F) (himp : LawFold.Impl F) : Rows.FnExactFoldCardSaid :=
  Claim7.holds_tied_plain_at .later [] [.sentinel, .sentinel, .data] true (true, "527ef4acc133f1ba0ff52aac20c9cded4132487af887969e907182d22802720b") true
    (over hspec himp) (fun _ h => by cases h) (by kernel_rfl) (fun _ h => by cases h) fnExactFold_row_tie rfl ⟨rfl, rfl⟩ (by kernel_rfl) rfl
    (fun f fn hf hfn => by
      obtain rfl : f = 7 := Option.some.inj ((show Tryd.prog.funcNamed "loop.example/s02542/laws.FnExactFold" = some 7 by kernel_rfl).symm.trans hf) |>.symm
      obtain rfl : fn = Tryd.f7 := (Option.some.inj (Tryd.func7.symm.trans hfn)).symm
      exact ⟨by kernel_rfl, fun j t ht => by
        exact standIn_none (by kernel_rfl) ht⟩)
    (by kernel_rfl)

end OpenFold
end Go.Proofs.YtabjnlhhefkekaaDoor
namespace Go.Proofs.YtabjnlhhefkekaaDoor

theorem fold_holds : Rows.FnExactFoldCardSaid := OpenFold.card Fold_spec (fun op c a1 a2 n1 n2 c1 c2 sh dt fl w h1 h2 hc1 _ ga gb hG => implFold_any op c a1 a2 n1 n2 c1 c2 sh dt fl w h1 h2 hc1 ga gb hG)

end Go.Proofs.YtabjnlhhefkekaaDoor
