import Derived.Test.YtgjpchnkodnieaaGreatDoorOpenPXProduct
namespace Go.Proofs.YtgjpchnkodnieaaGreatDoor
open Go.ChangeShapes Go.WideShapes Go.ChangeAt Go.RowKit Go.Joins
namespace OpenProduct

theorem j_place : (Rows.fnProductRow.inPlace == Tryz.prog.inPlace 6) = true := by kernel_rfl
theorem j_unf : (Rows.fnProductRow.unfollowed == Tryz.prog.unfollowed 6) = true := by kernel_rfl
theorem j_rec : (Rows.fnProductRow.recurses == Tryz.prog.recurses 6) = true := by kernel_rfl
theorem j_named : (Rows.fnProductRow.named == Tryz.prog.varsNamed 6) = true := by kernel_rfl
theorem j_out : laidOutB Tryz.prog = true := by kernel_rfl
theorem j_enter : Tryz.prog.mayEnter = true := by kernel_rfl
theorem j_lift : (Rows.fnProductRow.lifted == Tryz.prog.liftsFinal) = true := by kernel_rfl
theorem joined : joinedFacts Tryz.prog 6 Tryz.f6 Rows.fnProductSpec Rows.fnProductRow = true := by
  unfold joinedFacts
  rw [j_place, j_unf, j_rec, j_named, j_out, j_enter, j_lift]
  kernel_rfl

theorem over : Rows.FnProductSaid :=
  OpenClaim.holds_of_wide 6 Tryz.f6 rfl rfl rfl rfl rfl rfl rfl ⟨rfl, rfl, rfl, rfl, rfl⟩ rfl rfl rfl rfl rfl (by kernel_rfl) Tryz.func6 joined
    (of_decide_eq_true (by kernel_rfl)) (by unfold Func.isWrapper; first | (rw [if_pos (by decide +kernel)]; kernel_rfl) | (rw [if_neg (by decide +kernel)]; exact ⟨rfl, rfl⟩))
    (fun os started H enc _ => lifted os started H enc)

end OpenProduct
end Go.Proofs.YtgjpchnkodnieaaGreatDoor
