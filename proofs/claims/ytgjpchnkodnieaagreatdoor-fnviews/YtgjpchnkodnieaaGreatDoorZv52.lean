import Derived.Test.YtgjpchnkodnieaaGreatDoorZv50
import Derived.Test.YtgjpchnkodnieaaGreatDoorZv48
import Derived.Test.YtgjpchnkodnieaaGreatDoorZv51
namespace Go.Proofs.YtgjpchnkodnieaaGreatDoor
open Go.RowKit
theorem law_Views (ga gb : Addr) (a : Option Addr) (n cn : Nat) (w : World) (hby : Bytes w a n) (hc : n ≤ cn) (hn : n ≤ 1048576) (hG : Gl w ga gb) :
    Calls Tryz.prog 5 #[.slice a n cn] w fun e w' => e = .returned (.bool true) ∧ Below w.heap.size w w' :=
  law_ViewsP law_Picked ga gb a n cn w hby hc hn hG
end Go.Proofs.YtgjpchnkodnieaaGreatDoor
namespace Go.Proofs.YtgjpchnkodnieaaGreatDoor
open Go.ChangeShapes Go.WideShapes Go.ChangeAt Go.RowKit Go.Joins
namespace OpenViews

theorem law_all (ga gb : Addr) (a : Option Addr) (n c : Nat) (w : World) (hby : Bytes w a n) (hc : n ≤ c) (hG : Gl w ga gb) :
    Calls Tryz.prog 5 #[.slice a n c] w fun e w' => e = .returned (.bool true) ∧ Below w.heap.size w w' := by
  by_cases h : n ≤ 1048576
  · exact law_Views ga gb a n c w hby hc h hG
  · exact law_big a n c w (by omega)

set_option maxRecDepth 100000 in
theorem lifted (os : Os) (started : os.Started) (H : Type) (enc : TypeId × Value → H) :
    ReturnsInHanded {} Tryz.checked os 5 .any (fun w args => (Rows.fnViewsSpec.pre enc Tryz.prog Tryz.f5 [] false w args ∧ laidMetH Tryz.prog Rows.fnViewsRow.laid w) ∧ sizedMet enc Tryz.prog Tryz.f5 (OpenSpec.ofChange Rows.fnViewsSpec) false w args) (Rows.fnViewsSpec.post enc Tryz.prog Tryz.f5 false true false false) := by
  refine returnsInHanded_of_change_and (C := Tryz.checked) (X := fun w _ => laidMetH Tryz.prog Rows.fnViewsRow.laid w) (fun _ _ _ hh h => h.of_heap hh) own started (by kernel_rfl) Tryz.func5
    (ChangeSpec.witness_shaped (enc := enc) (C := Tryz.checked) (os := os) (X := fun w _ => laidMetH Tryz.prog Rows.fnViewsRow.laid w) false (World.doorLaid Tryz.prog 400 os) #[.slice none 0 0] 8 rfl (World.shaped_of_RefB (by kernel_rfl) (by kernel_rfl)) (by kernel_rfl) (by kernel_rfl) (by kernel_rfl) (door_met os _)) ?_
  intro W base args ds gs before hval0 hW _ _ hL _
  have hval : ∀ (j : Nat) t v, Tryz.f5.params[j]? = some t → args[j]? = some v → Value.okWide Tryz.prog W .any base t v := hval0
  have hW' := hW
  obtain ⟨p, q, hA0, hV0, rfl, hfz, hnd⟩ := hW
  have hA : DataW.TrodAll enc Tryz.prog W 0 (fun _ => true) true Tryz.f5.params.toList args.toList ds p := hA0
  have hV : DataW.TrodVars enc Tryz.prog W (fun _ => true) ["loop.example/s02542/impl.errNoResult", "loop.example/s02542/impl.errTooGreat"] gs q := hV0
  rw [Tryz.params5] at hA hval
  obtain ⟨v0, vs0, d0, ds0, p0, q0, hargs, rfl, rfl, h0, r0⟩ := trodAll_cons hA
  obtain ⟨rfl, rfl, rfl⟩ := trodAll_nil r0
  obtain rfl : args = #[v0] := by cases args; simp_all
  obtain ⟨ga, gb, hG, hv0', hv1'⟩ := gl_of_laid hL
  have vr : ∀ {X : World}, X.var? Tryz.prog "loop.example/s02542/impl.errNoResult" = some #[.iface 278 (.pointer (some ga))] → X.var? Tryz.prog "loop.example/s02542/impl.errTooGreat" = some #[.iface 278 (.pointer (some gb))] → ∀ sp : Nat → Bool,
      DataW.TrodVars enc Tryz.prog X sp ["loop.example/s02542/impl.errNoResult", "loop.example/s02542/impl.errTooGreat"] [tok enc (.iface 278 (.pointer (some ga))), tok enc (.iface 278 (.pointer (some gb)))] [.cell 2 0, .cell 1 0] :=
    fun x0 x1 sp => vars_read2 enc gNo tNo Tryz.underlying143 x0 trivial gBig tBig Tryz.underlying143 x1 trivial sp
  obtain ⟨rfl, rfl⟩ := hV.unique (vr hv0' hv1' _)
  have k0 := h0
  have lt0 : ∀ x ∈ p0, x.block < W.heap.size := by obtain ⟨m, hm⟩ := k0; exact DataW.trod_lt m _ _ _ hm
  have hv0 := hval 0 22 v0 rfl rfl
  obtain ⟨a1, l1, c1, rfl⟩ := okWide_slice Tryz.underlying22 hv0
  obtain ⟨fuel, hf⟩ := h0
  obtain ⟨a, n, c, hv, hby, hc⟩ := OpenW.openBytes hf
  cases hv
  clear hA0 hval0 hV0 hV
  refine (law_all ga gb _ _ _ W hby hc hG).mono fun e W' ⟨he, bel⟩ => ?_
  subst he
  exact ⟨_, rfl, _, _, _, [], _, _, hW', trodAll_mk1 (shut_bool Tryz.underlying4 _), (trodAll_cons_mk (Below.trod laidOut (by kernel_rfl) (of_decide_eq_true (by kernel_rfl)) k0 bel lt0) trodAll_mk0), vr (var_below hv0' bel) (var_below hv1' bel) _, bel.frame _, fun h => by cases h⟩

end OpenViews
end Go.Proofs.YtgjpchnkodnieaaGreatDoor
