import Derived.Test.YtgjpchnkodnieaaGreatDoorOpenLaid
import Derived.OpenVars
namespace Go.Proofs.YtgjpchnkodnieaaGreatDoor
open Go.ChangeShapes Go.WideShapes Go.ChangeAt Go.RowKit Go.Joins

theorem gTab : Tryz.prog.globalNamed "loop.example/s02542/impl.emptyFolds" = some 0 := by kernel_rfl
theorem tTab : (Tryz.prog.globals[0]?).map (·.type) = some 187 := by kernel_rfl
theorem cellsTab : Tryz.prog.cellsOf 187 = 16 := by kernel_rfl

/-- What the condition gives the walks: the two sentinels and the table. -/
theorem glF_of_laid {W : World} (h : laidMet Tryz.prog [("loop.example/s02542/impl.errNoResult", Rows.laid_loop_example_s02542_impl_errNoResult), ("loop.example/s02542/impl.errTooGreat", Rows.laid_loop_example_s02542_impl_errTooGreat), ("loop.example/s02542/impl.emptyFolds", Rows.laid_loop_example_s02542_impl_emptyFolds)] W) :
    ∃ a b, GlF W a b := by
  obtain ⟨a, b, hG, _, _⟩ := gl_of_laid h
  have ht : laidMet Tryz.prog [("loop.example/s02542/impl.emptyFolds", Lib.tabData .i64 emptyTab)] W := h.tail.tail
  have hT := Lib.tabIs_of_head gTab tTab Tryz.underlying187 Tryz.underlying3 cellsInt cellsTab ht
  exact ⟨a, b, hG, fun i hi => hT.cell gTab i hi⟩

theorem gs3 {H : Type} {enc : TypeId × Value → H} {P : Program} {W : World} {sp : Nat → Bool} {n0 n1 n2 : String} : ∀ {gs : List (DataW H)} {q : List MemPlace}, DataW.TrodVars enc P W sp [n0, n1, n2] gs q → ∃ g1 g2 g3, gs = [g1, g2, g3]
  | [], _, h => h.elim
  | [_], _, h => by obtain ⟨_, _, _, _, _, _, _, _, _, _, h2, _⟩ := h; exact h2.elim
  | [_, _], _, h => by obtain ⟨_, _, _, _, _, _, _, _, _, _, h2, _⟩ := h; obtain ⟨_, _, _, _, _, _, _, _, _, _, h3, _⟩ := h2; exact h3.elim
  | [a, b, c], _, _ => ⟨a, b, c, rfl⟩
  | _ :: _ :: _ :: _ :: _, _, h => by obtain ⟨_, _, _, _, _, _, _, _, _, _, h2, _⟩ := h; obtain ⟨_, _, _, _, _, _, _, _, _, _, h3, _⟩ := h2; obtain ⟨_, _, _, _, _, _, _, _, _, _, h4, _⟩ := h3; exact h4.elim

end Go.Proofs.YtgjpchnkodnieaaGreatDoor
