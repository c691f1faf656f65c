import Derived.Test.YtgjpchnkodnieaaGreatDoorOpenBase
import Derived.Test.YtgjpchnkodnieaaGreatDoorMFit1
import Derived.LaidMore
import Derived.Stop.LaidTwo
import Derived.Stop.Joined
import Derived.Lib.LaidTab
namespace Go.Proofs.YtgjpchnkodnieaaGreatDoor
open Go.ChangeShapes Go.WideShapes Go.ChangeAt Go.RowKit Go.Joins

theorem gNo : Tryz.prog.globalNamed "loop.example/s02542/impl.errNoResult" = some 2 := by kernel_rfl
theorem gBig : Tryz.prog.globalNamed "loop.example/s02542/impl.errTooGreat" = some 1 := by kernel_rfl
theorem tNo : (Tryz.prog.globals[2]?).map (·.type) = some 143 := by kernel_rfl
theorem tBig : (Tryz.prog.globals[1]?).map (·.type) = some 143 := by kernel_rfl
theorem star : "*" ++ "errors.errorString" = "*errors.errorString" := by decide
theorem rowErr (u : TypeId) (h : Tryz.prog.typeName? 3 u = some "*errors.errorString") : u = 278 :=
  typeName_ptr_named (nm := "errors.errorString") (by rw [star]; kernel_rfl) (by kernel_rfl) (by decide) u (by rw [star]; exact h)
theorem cellsErr : Tryz.prog.cellsOf 302 = 1 := by kernel_rfl
theorem cellsStr : Tryz.prog.cellsOf 9 = 1 := by kernel_rfl

/-- What the condition gives the walks: the two sentinels, and that they read so as variables. -/
theorem gl_of_laid {W : World} {r : List (String × DataW Unit)} (h : laidMet Tryz.prog (("loop.example/s02542/impl.errNoResult", Rows.laid_loop_example_s02542_impl_errNoResult) :: ("loop.example/s02542/impl.errTooGreat", Rows.laid_loop_example_s02542_impl_errTooGreat) :: r) W) :
    ∃ a b, Gl W a b ∧ W.var? Tryz.prog "loop.example/s02542/impl.errNoResult" = some #[.iface 278 (.pointer (some a))] ∧ W.var? Tryz.prog "loop.example/s02542/impl.errTooGreat" = some #[.iface 278 (.pointer (some b))] := by
  obtain ⟨a0, a1, s0, s1, c0, c1, t0, t1, hv0, hv1, hc0, hs0, hz0, hc1, hs1, hz1, hne, hb0, hb1⟩ := laid_sentinels2 h gNo tNo gBig tBig Tryz.underlying143 rowErr Tryz.underlying278 Tryz.underlying302 rfl rfl Tryz.underlying9 cellsErr cellsStr
  exact ⟨a0, a1, ⟨by simpa using World.var?_cell gNo hv0 0, by simpa using World.var?_cell gBig hv1 0, hne, ⟨c0, t0, hb0⟩, ⟨c1, t1, hb1⟩⟩, hv0, hv1⟩

theorem var_below {W W' : World} {n : String} {cs : Array Value} (h : W.var? Tryz.prog n = some cs) (hb : Below W.heap.size W W') : W'.var? Tryz.prog n = some cs := by
  unfold World.var? at h ⊢
  cases hg : Tryz.prog.globalNamed n with
  | none => simp [hg] at h
  | some g =>
    simp only [hg, Option.bind_some] at h ⊢
    have hlt : g < W.heap.size := by
      cases hh : W.heap[g]? with
      | none => rw [hh] at h; cases h
      | some o => exact (Array.getElem?_eq_some_iff.1 hh).1
    rw [hb.block g hlt]; exact h

end Go.Proofs.YtgjpchnkodnieaaGreatDoor
