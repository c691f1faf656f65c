import Derived.Test.YtgjpchnkodnieaaGreatDoorLawA1Monad
import Derived.Test.YtgjpchnkodnieaaGreatDoorOpenLaid
namespace Go.Proofs.YtgjpchnkodnieaaGreatDoor
open Go.ChangeShapes Go.WideShapes Go.ChangeAt Go.RowKit Go.Joins
namespace OpenMonad

theorem door_met (os : Os) (args : Array Value) : laidMetH Tryz.prog Rows.fnExactMonadRow.laid ((World.doorLaid Tryz.prog 400 os).forCall (fun _ _ => 0) ⟨#[], args, []⟩).memory :=
  laidMetH_of_parts3 (fuel := 8) (laidMet_of_run' 8 (by kernel_rfl) (by kernel_rfl)) (by kernel_rfl) (by kernel_rfl)

set_option maxRecDepth 100000 in
theorem lifted {F : Int → Bool → List Int → List Int → Ans} (hspec : LawMonad.Spec F) (himp : LawMonad.Impl F) (os : Os) (started : os.Started) (H : Type) (enc : TypeId × Value → H) :
    ReturnsInHanded {} Tryz.checked os 4 .any (fun w args => (Rows.fnExactMonadSpec.pre enc Tryz.prog Tryz.f4 [] false w args ∧ laidMetH Tryz.prog Rows.fnExactMonadRow.laid w) ∧ sizedMet enc Tryz.prog Tryz.f4 (OpenSpec.ofChange Rows.fnExactMonadSpec) false w args) (Rows.fnExactMonadSpec.post enc Tryz.prog Tryz.f4 false true false false) := by
  refine returnsInHanded_of_change_and (C := Tryz.checked) (X := fun w _ => laidMetH Tryz.prog Rows.fnExactMonadRow.laid w) (fun _ _ _ hh h => h.of_heap hh) own started (by kernel_rfl) Tryz.func4
    (ChangeSpec.witness_shaped (enc := enc) (C := Tryz.checked) (os := os) (X := fun w _ => laidMetH Tryz.prog Rows.fnExactMonadRow.laid w) false (World.doorLaid Tryz.prog 400 os) #[.int .i64 0, .agg #[.bool false, .slice none 0 0, .slice none 0 0]] 8 rfl (World.shaped_of_RefB (by kernel_rfl) (by kernel_rfl)) (by kernel_rfl) (by kernel_rfl) (by kernel_rfl) (door_met os _)) ?_
  intro W base args ds gs before hval0 hW _ _ hL _
  have hval : ∀ (j : Nat) t v, Tryz.f4.params[j]? = some t → args[j]? = some v → Value.okWide Tryz.prog W .any base t v := hval0
  have hW' := hW
  obtain ⟨p, q, hA0, hV0, rfl, hfz, hnd⟩ := hW
  have hA : DataW.TrodAll enc Tryz.prog W 0 (fun _ => true) true Tryz.f4.params.toList args.toList ds p := hA0
  have hV : DataW.TrodVars enc Tryz.prog W (fun _ => true) ["loop.example/s02542/impl.errNoResult", "loop.example/s02542/impl.errTooGreat"] gs q := hV0
  rw [Tryz.params4] at hA hval
  obtain ⟨v0, vs0, d0, ds0, p0, q0, hargs, rfl, rfl, h0, r0⟩ := trodAll_cons hA
  obtain ⟨v1, vs1, d1, ds1, p1, q1, rfl, rfl, rfl, h1, r1⟩ := trodAll_cons r0
  obtain ⟨rfl, rfl, rfl⟩ := trodAll_nil r1
  obtain rfl : args = #[v0, v1] := by cases args; simp_all
  obtain ⟨ga, gb, hG, hv0, hv1⟩ := gl_of_laid hL
  have vr : ∀ {X : World}, X.var? Tryz.prog "loop.example/s02542/impl.errNoResult" = some #[.iface 278 (.pointer (some ga))] → X.var? Tryz.prog "loop.example/s02542/impl.errTooGreat" = some #[.iface 278 (.pointer (some gb))] → ∀ sp : Nat → Bool,
      DataW.TrodVars enc Tryz.prog X sp ["loop.example/s02542/impl.errNoResult", "loop.example/s02542/impl.errTooGreat"] [tok enc (.iface 278 (.pointer (some ga))), tok enc (.iface 278 (.pointer (some gb)))] [.cell 2 0, .cell 1 0] :=
    fun x0 x1 sp => vars_read2 enc gNo tNo Tryz.underlying143 x0 trivial gBig tBig Tryz.underlying143 x1 trivial sp
  obtain ⟨rfl, rfl⟩ := hV.unique (vr hv0 hv1 _)
  have k0 := h0
  have lt0 : ∀ x ∈ p0, x.block < W.heap.size := by obtain ⟨m, hm⟩ := k0; exact DataW.trod_lt m _ _ _ hm
  have k1 := h1
  have lt1 : ∀ x ∈ p1, x.block < W.heap.size := by obtain ⟨m, hm⟩ := k1; exact DataW.trod_lt m _ _ _ hm
  obtain ⟨op, rfl, _, _, _⟩ := open_int Tryz.underlying3 (hval 0 3 v0 rfl rfl) h0
  obtain ⟨c, a1, n1, c1, sh, a2, n2, c2, dt, rfl, s1, s2⟩ := openArr (hval 1 40 v1 rfl rfl) h1
  clear hA0 hval0 hV0 hV
  refine (LawMonad.law_walk F hspec himp op c a1 a2 n1 n2 c1 c2 sh dt W s1 s2 ga gb hG).mono fun e W' ⟨he, bel⟩ => ?_
  subst he
  exact ⟨_, rfl, _, _, _, [], _, _, hW', trodAll_mk1 (shut_bool Tryz.underlying4 _), (trodAll_cons_mk (Below.trod laidOut (by kernel_rfl) (of_decide_eq_true (by kernel_rfl)) k0 bel lt0) (trodAll_cons_mk (Below.trod laidOut (by kernel_rfl) (of_decide_eq_true (by kernel_rfl)) k1 bel lt1) trodAll_mk0)), vr (var_below hv0 bel) (var_below hv1 bel) _, bel.frame _, fun h => by cases h⟩

theorem over {F : Int → Bool → List Int → List Int → Ans} (hspec : LawMonad.Spec F) (himp : LawMonad.Impl F) : Rows.FnExactMonadSaid :=
  OpenClaim.holds_of_wide 4 Tryz.f4 rfl rfl rfl rfl rfl rfl rfl ⟨rfl, rfl, rfl, rfl, rfl⟩ rfl rfl rfl rfl rfl (by kernel_rfl) Tryz.func4 (by kernel_rfl)
    (of_decide_eq_true (by kernel_rfl)) (by unfold Func.isWrapper; first | (rw [if_pos (by decide +kernel)]; kernel_rfl) | (rw [if_neg (by decide +kernel)]; exact ⟨rfl, rfl⟩))
    (fun os started H enc _ => lifted hspec himp os started H enc)

end OpenMonad
end Go.Proofs.YtgjpchnkodnieaaGreatDoor
