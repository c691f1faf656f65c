import Derived.Test.YtgjpchnkodnieaaGreatDoorZv52
import Derived.Test.YtgjpchnkodnieaaGreatDoorCards
import Derived.Test.YtgjpchnkodnieaaGreatDoorTie
import Derived.SevenTiedAt
namespace Go.Proofs.YtgjpchnkodnieaaGreatDoor
open Go.ChangeShapes Go.WideShapes Go.ChangeAt Go.RowKit Go.Joins
namespace OpenViews

theorem over : Rows.FnViewsSaid :=
  OpenClaim.holds_of_wide 5 Tryz.f5 rfl rfl rfl rfl rfl rfl rfl ⟨rfl, rfl, rfl, rfl, rfl⟩ rfl rfl rfl rfl rfl (by kernel_rfl) Tryz.func5 joined
    (of_decide_eq_true (by kernel_rfl)) (by unfold Func.isWrapper; first | (rw [if_pos (by decide +kernel)]; kernel_rfl) | (rw [if_neg (by decide +kernel)]; exact ⟨rfl, rfl⟩))
    (fun os started H enc _ => lifted os started H enc)

theorem card : Rows.FnViewsCardSaid :=
  Claim7.holds_tied_plain_at .later [] [.sentinel, .sentinel] true (true, "5d477d54a310af48a2ae95aa7344c239ed9683e9d3c3bda78b6853dad3090a7c") true
    over (fun _ h => by cases h) c_wf (fun _ h => by cases h) fnViews_row_tie rfl ⟨rfl, rfl⟩ (by kernel_rfl) rfl
    (fun f fn hf hfn => by
      obtain rfl : f = 5 := Option.some.inj (c_fn.symm.trans hf) |>.symm
      obtain rfl : fn = Tryz.f5 := (Option.some.inj (Tryz.func5.symm.trans hfn)).symm
      exact ⟨c_looks, fun j t ht => standIn_none c_stand ht⟩)
    c_goes

end OpenViews

theorem fnViews_holds : Rows.FnViewsCardSaid := OpenViews.card

end Go.Proofs.YtgjpchnkodnieaaGreatDoor
