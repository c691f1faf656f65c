import Derived.Test.YtkgcmpmgaghdhaaDoorOpenBase
import Derived.Test.YtkgcmpmgaghdhaaDoorMFit0
import Derived.LaidMore
import Derived.Stop.LaidTwo
import Derived.Stop.Joined
import Derived.Lib.LaidTab
namespace Go.Proofs.YtkgcmpmgaghdhaaDoor
open Go.ChangeShapes Go.WideShapes Go.ChangeAt Go.RowKit Go.Joins

theorem gBig : Tryd.prog.globalNamed "loop.example/s02542/impl.errTooGreat" = some 0 := by kernel_rfl
theorem tBig : (Tryd.prog.globals[0]?).map (·.type) = some 47 := by kernel_rfl
theorem star : "*" ++ "errors.errorString" = "*errors.errorString" := by decide
theorem rowErr (u : TypeId) (h : Tryd.prog.typeName? 3 u = some "*errors.errorString") : u = 83 :=
  typeName_ptr_named (nm := "errors.errorString") (by rw [star]; kernel_rfl) (by kernel_rfl) (by decide) u (by rw [star]; exact h)
theorem cellsErr : Tryd.prog.cellsOf 109 = 1 := by kernel_rfl
theorem cellsStr : Tryd.prog.cellsOf 9 = 1 := by kernel_rfl

/-- What the condition gives the walks: the sentinel, and that it reads so as a variable. -/
theorem gl_of_laid {W : World} {r : List (String × DataW Unit)} (h : laidMet Tryd.prog (("loop.example/s02542/impl.errTooGreat", Rows.laid_loop_example_s02542_impl_errTooGreat) :: r) W) :
    ∃ b, Gl W b b ∧ W.var? Tryd.prog "loop.example/s02542/impl.errTooGreat" = some #[.iface 83 (.pointer (some b))] := by
  obtain ⟨a, _, hv, _⟩ := laid_sentinel h gBig tBig Tryd.underlying47 rowErr Tryd.underlying83 Tryd.underlying109 rfl rfl Tryd.underlying9 cellsErr cellsStr
  exact ⟨a, ⟨by simpa using World.var?_cell gBig hv 0⟩, hv⟩

theorem var_below {W W' : World} {n : String} {cs : Array Value} (h : W.var? Tryd.prog n = some cs) (hb : Below W.heap.size W W') : W'.var? Tryd.prog n = some cs := by
  unfold World.var? at h ⊢
  cases hg : Tryd.prog.globalNamed n with
  | none => simp [hg] at h
  | some g =>
    simp only [hg, Option.bind_some] at h ⊢
    have hlt : g < W.heap.size := by
      cases hh : W.heap[g]? with
      | none => rw [hh] at h; cases h
      | some o => exact (Array.getElem?_eq_some_iff.1 hh).1
    rw [hb.block g hlt]; exact h

end Go.Proofs.YtkgcmpmgaghdhaaDoor
