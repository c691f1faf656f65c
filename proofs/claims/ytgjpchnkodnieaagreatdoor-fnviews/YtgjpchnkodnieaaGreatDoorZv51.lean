import Derived.Test.YtgjpchnkodnieaaGreatDoorZv34
import Derived.Test.YtgjpchnkodnieaaGreatDoorZv12
import Derived.SevenTiedAt
namespace Go.Proofs.YtgjpchnkodnieaaGreatDoor
open Go.ChangeShapes Go.WideShapes Go.ChangeAt Go.RowKit Go.Joins
namespace OpenViews

set_option maxRecDepth 20000 in
set_option maxHeartbeats 2000000 in
theorem law_big (a : Option Addr) (n c : Nat) (w : World) (hn : 1048576 < n) :
    Calls Tryz.prog 5 #[.slice a n c] w fun e w' => e = .returned (.bool true) ∧ Below w.heap.size w w' := by
  have hnz : (1048576 : Int) < (n : Int) := by omega
  go_enter Tryz.func5, Tryz.ntmps5
  go_wp2_with fail
  exact bodyPost_ret (v := .bool true) (by simp [results, Tryz.results5, go_sem]) rfl ⟨rfl, Below.refl _ _⟩

theorem door_met (os : Os) (args : Array Value) : laidMetH Tryz.prog Rows.fnViewsRow.laid ((World.doorLaid Tryz.prog 400 os).forCall (fun _ _ => 0) ⟨#[], args, []⟩).memory :=
  laidMetH_of_parts3 (fuel := 8) (laidMet_of_run' 8 (by kernel_rfl) (by kernel_rfl)) (by kernel_rfl) (by kernel_rfl)

theorem j_place : (Rows.fnViewsRow.inPlace == Tryz.prog.inPlace 5) = true := by kernel_rfl
theorem j_unf : (Rows.fnViewsRow.unfollowed == Tryz.prog.unfollowed 5) = true := by kernel_rfl
theorem j_rec : (Rows.fnViewsRow.recurses == Tryz.prog.recurses 5) = true := by kernel_rfl
theorem j_named : (Rows.fnViewsRow.named == Tryz.prog.varsNamed 5) = true := by kernel_rfl
theorem j_out : laidOutB Tryz.prog = true := by kernel_rfl
theorem j_enter : Tryz.prog.mayEnter = true := by kernel_rfl
theorem j_lift : (Rows.fnViewsRow.lifted == Tryz.prog.liftsFinal) = true := by kernel_rfl
theorem joined : joinedFacts Tryz.prog 5 Tryz.f5 Rows.fnViewsSpec Rows.fnViewsRow = true := by
  unfold joinedFacts
  rw [j_place, j_unf, j_rec, j_named, j_out, j_enter, j_lift]
  kernel_rfl

theorem standIn_none {ps : Array TypeId} (hall : ps.toList.all (fun t => !Tryz.prog.wantsStandIn t) = true) {j : Nat} {t : TypeId} (ht : ps[j]? = some t) : Tryz.prog.wantsStandIn t = false := by
  have hm : t ∈ ps.toList := Array.mem_toList_iff.mpr (Array.mem_of_getElem? ht)
  simpa using List.all_eq_true.mp hall t hm

theorem c_wf : Rows.fnViewsRow.wfByText (OpenSpec.ofChange Rows.fnViewsSpec) = true := by kernel_rfl
theorem c_looks : true = Tryz.prog.looks [] := by kernel_rfl
theorem c_goes : false = OpenClaim.goesBy Rows.fnViewsRow Tryz.prog := by kernel_rfl
theorem c_fn : Tryz.prog.funcNamed "loop.example/s02542/laws.FnViews" = some 5 := by kernel_rfl
theorem c_stand : Tryz.f5.params.toList.all (fun t => !Tryz.prog.wantsStandIn t) = true := by kernel_rfl

end OpenViews
end Go.Proofs.YtgjpchnkodnieaaGreatDoor
