import Derived.Test.YtheocceclpplhaaGreatDoorLawBase
import Derived.Test.YtheocceclpplhaaGreatDoorRows
import Derived.ProofKit
import Derived.OpenShut
import Derived.ShutString
import Derived.ChangeOld
import Derived.Below
import Derived.Lib.SmallJoins
import Derived.Test.YtheocceclpplhaaGreatDoorGlob
import Derived.LaidMore
import Derived.Stop.LaidTwo
import Derived.Stop.Joined
import Derived.Lib.LaidTab
import Derived.OpenVars
import Derived.Test.YtheocceclpplhaaGreatDoorLawA2Inner
import Derived.Test.YtheocceclpplhaaGreatDoorCards
import Derived.Test.YtheocceclpplhaaGreatDoorTie
import Derived.SevenTiedAt
namespace Go.Proofs.YtheocceclpplhaaGreatDoor
open Go.ChangeShapes Go.WideShapes Go.ChangeAt Go.RowKit Go.Joins

theorem own : ownKnob Tryz.prog.godebug = none := by kernel_rfl
theorem laidOut : laidOutB Tryz.prog = true := by kernel_rfl
theorem cellsInt : Tryz.prog.cellsOf 3 = 1 := by kernel_rfl
theorem cellsArr : Tryz.prog.cellsOf 24 = 3 := by kernel_rfl

theorem openRaw {H : Type} {enc : TypeId × Value → H} {W : World} {fuel : Nat} {v : Value} {x : DataW H × List MemPlace} (h : DataW.trod enc Tryz.prog W 0 (fun _ => true) true fuel 22 [v] = some x) :
    ∃ a n cap zs, v = .slice a n cap ∧ Raw W a n zs := by
  rcases open_ints Tryz.underlying22 Tryz.underlying3 cellsInt h with ⟨hcs, _⟩ | ⟨a, len, cap, zs, hcs, _, hl, hm, hz, _, hcell, _⟩
  · simp at hcs
    exact ⟨none, 0, 0, [], hcs, ⟨rfl, by omega, .inl rfl⟩⟩
  · simp at hcs hz
    unfold maxLen at hm
    refine ⟨some a, len, cap, zs.take len, hcs, ⟨by simp; omega, by omega, ?_⟩⟩
    by_cases h0 : len = 0
    · exact .inl h0
    · right
      obtain ⟨b, off, spot⟩ := a
      have hc0 := hcell 0 (by omega)
      have hspot : spot = none := by simpa [Addr.add] using World.cell?_spot hc0
      subst hspot
      refine ⟨b, off, rfl, World.block_lt_of_cell? W _ hc0, fun i hi => ?_⟩
      have hadd : (⟨b, off, none⟩ : Addr).add i = ⟨b, off + i, none⟩ := by by_cases h : i = 0 <;> simp [Addr.add, h]
      rw [← hadd, hcell i (by omega)]
      simp [hi]

set_option maxRecDepth 100000 in
theorem openArr {H : Type} {enc : TypeId × Value → H} {W : World} {r : Reach} {b0 : Nat} {v : Value} {d : DataW H} {p : List MemPlace} (hv : Value.okWide Tryz.prog W r b0 24 v)
    (h : DataW.Trod enc Tryz.prog W 0 (fun _ => true) true 24 v d p) : ∃ c a1 n1 c1 sh a2 n2 c2 dt, v = .agg #[.bool c, .slice a1 n1 c1, .slice a2 n2 c2] ∧ Raw W a1 n1 sh ∧ Raw W a2 n2 dt := by
  obtain ⟨v0, v1, v2, y0, y1, y2, n, rfl, _, _, h0, h1, h2⟩ := open_agg3 Tryz.underlying24 (by kernel_rfl) cellsArr hv h
  obtain ⟨c, hc, _⟩ := DataW.trod_bool Tryz.underlying4 h0
  obtain ⟨a1, n1, c1, sh, rfl, r1⟩ := openRaw h1
  obtain ⟨a2, n2, c2, dt, rfl, r2⟩ := openRaw h2
  simp at hc
  subst hc
  exact ⟨c, a1, n1, c1, sh, a2, n2, c2, dt, rfl, r1, r2⟩

end Go.Proofs.YtheocceclpplhaaGreatDoor
namespace Go.Proofs.YtheocceclpplhaaGreatDoor
open Go.ChangeShapes Go.WideShapes Go.ChangeAt Go.RowKit Go.Joins

theorem gNo : Tryz.prog.globalNamed "loop.example/s02542/impl.errNoResult" = some 2 := by kernel_rfl
theorem gBig : Tryz.prog.globalNamed "loop.example/s02542/impl.errTooGreat" = some 1 := by kernel_rfl
theorem tNo : (Tryz.prog.globals[2]?).map (·.type) = some 63 := by kernel_rfl
theorem tBig : (Tryz.prog.globals[1]?).map (·.type) = some 63 := by kernel_rfl
theorem star : "*" ++ "errors.errorString" = "*errors.errorString" := by decide
theorem rowErr (u : TypeId) (h : Tryz.prog.typeName? 3 u = some "*errors.errorString") : u = 117 :=
  typeName_ptr_named (nm := "errors.errorString") (by rw [star]; kernel_rfl) (by kernel_rfl) (by decide) u (by rw [star]; exact h)
theorem cellsErr : Tryz.prog.cellsOf 142 = 1 := by kernel_rfl
theorem cellsStr : Tryz.prog.cellsOf 9 = 1 := by kernel_rfl

/-- What the condition gives the walks: the two sentinels, and that they read so as variables. -/
theorem gl_of_laid {W : World} {r : List (String × DataW Unit)} (h : laidMet Tryz.prog (("loop.example/s02542/impl.errNoResult", Rows.laid_loop_example_s02542_impl_errNoResult) :: ("loop.example/s02542/impl.errTooGreat", Rows.laid_loop_example_s02542_impl_errTooGreat) :: r) W) :
    ∃ a b, Gl W a b ∧ W.var? Tryz.prog "loop.example/s02542/impl.errNoResult" = some #[.iface 117 (.pointer (some a))] ∧ W.var? Tryz.prog "loop.example/s02542/impl.errTooGreat" = some #[.iface 117 (.pointer (some b))] := by
  obtain ⟨a0, a1, s0, s1, c0, c1, t0, t1, hv0, hv1, hc0, hs0, hz0, hc1, hs1, hz1, hne, hb0, hb1⟩ := laid_sentinels2 h gNo tNo gBig tBig Tryz.underlying63 rowErr Tryz.underlying117 Tryz.underlying142 rfl rfl Tryz.underlying9 cellsErr cellsStr
  exact ⟨a0, a1, ⟨by simpa using World.var?_cell gNo hv0 0, by simpa using World.var?_cell gBig hv1 0, hne, ⟨c0, t0, hb0⟩, ⟨c1, t1, hb1⟩⟩, hv0, hv1⟩

theorem var_below {W W' : World} {n : String} {cs : Array Value} (h : W.var? Tryz.prog n = some cs) (hb : Below W.heap.size W W') : W'.var? Tryz.prog n = some cs := by
  unfold World.var? at h ⊢
  cases hg : Tryz.prog.globalNamed n with
  | none => simp [hg] at h
  | some g =>
    simp only [hg, Option.bind_some] at h ⊢
    have hlt : g < W.heap.size := by
      cases hh : W.heap[g]? with
      | none => rw [hh] at h; cases h
      | some o => exact (Array.getElem?_eq_some_iff.1 hh).1
    rw [hb.block g hlt]; exact h

end Go.Proofs.YtheocceclpplhaaGreatDoor
namespace Go.Proofs.YtheocceclpplhaaGreatDoor
open Go.ChangeShapes Go.WideShapes Go.ChangeAt Go.RowKit Go.Joins

theorem gTab : Tryz.prog.globalNamed "loop.example/s02542/impl.emptyFolds" = some 0 := by kernel_rfl
theorem tTab : (Tryz.prog.globals[0]?).map (·.type) = some 80 := by kernel_rfl
theorem cellsTab : Tryz.prog.cellsOf 80 = 16 := by kernel_rfl

/-- What the condition gives the walks: the two sentinels and the table. -/
theorem glF_of_laid {W : World} (h : laidMet Tryz.prog [("loop.example/s02542/impl.errNoResult", Rows.laid_loop_example_s02542_impl_errNoResult), ("loop.example/s02542/impl.errTooGreat", Rows.laid_loop_example_s02542_impl_errTooGreat), ("loop.example/s02542/impl.emptyFolds", Rows.laid_loop_example_s02542_impl_emptyFolds)] W) :
    ∃ a b, GlF W a b := by
  obtain ⟨a, b, hG, _, _⟩ := gl_of_laid h
  have ht : laidMet Tryz.prog [("loop.example/s02542/impl.emptyFolds", Lib.tabData .i64 emptyTab)] W := h.tail.tail
  have hT := Lib.tabIs_of_head gTab tTab Tryz.underlying80 Tryz.underlying3 cellsInt cellsTab ht
  exact ⟨a, b, hG, fun i hi => hT.cell gTab i hi⟩

theorem gs3 {H : Type} {enc : TypeId × Value → H} {P : Program} {W : World} {sp : Nat → Bool} {n0 n1 n2 : String} : ∀ {gs : List (DataW H)} {q : List MemPlace}, DataW.TrodVars enc P W sp [n0, n1, n2] gs q → ∃ g1 g2 g3, gs = [g1, g2, g3]
  | [], _, h => h.elim
  | [_], _, h => by obtain ⟨_, _, _, _, _, _, _, _, _, _, h2, _⟩ := h; exact h2.elim
  | [_, _], _, h => by obtain ⟨_, _, _, _, _, _, _, _, _, _, h2, _⟩ := h; obtain ⟨_, _, _, _, _, _, _, _, _, _, h3, _⟩ := h2; exact h3.elim
  | [a, b, c], _, _ => ⟨a, b, c, rfl⟩
  | _ :: _ :: _ :: _ :: _, _, h => by obtain ⟨_, _, _, _, _, _, _, _, _, _, h2, _⟩ := h; obtain ⟨_, _, _, _, _, _, _, _, _, _, h3, _⟩ := h2; obtain ⟨_, _, _, _, _, _, _, _, _, _, h4, _⟩ := h3; exact h4.elim

end Go.Proofs.YtheocceclpplhaaGreatDoor
namespace Go.Proofs.YtheocceclpplhaaGreatDoor
open Go.ChangeShapes Go.WideShapes Go.ChangeAt Go.RowKit Go.Joins
namespace OpenInner

theorem varsOut {p : Prop} (h : p) : p := h

theorem door_met (os : Os) (args : Array Value) : laidMetH Tryz.prog Rows.fnExactInnerRow.laid ((World.doorLaid Tryz.prog 400 os).forCall (fun _ _ => 0) ⟨#[], args, []⟩).memory :=
  laidMetH_of_parts3 (fuel := 8) (laidMet_of_run' 8 (by kernel_rfl) (by kernel_rfl)) (by kernel_rfl) (by kernel_rfl)

set_option maxRecDepth 100000 in
theorem lifted {F : Int → Int → Bool → Bool → List Int → List Int → List Int → List Int → Ans} (hspec : LawInner.Spec F) (himp : LawInner.Impl F) (os : Os) (started : os.Started) (H : Type) (enc : TypeId × Value → H) :
    ReturnsInHanded {} Tryz.checked os 3 .any (fun w args => (Rows.fnExactInnerSpec.pre enc Tryz.prog Tryz.f3 [] false w args ∧ laidMetH Tryz.prog Rows.fnExactInnerRow.laid w) ∧ sizedMet enc Tryz.prog Tryz.f3 (OpenSpec.ofChange Rows.fnExactInnerSpec) false w args) (Rows.fnExactInnerSpec.post enc Tryz.prog Tryz.f3 false true false false) := by
  refine returnsInHanded_of_change_and (C := Tryz.checked) (X := fun w _ => laidMetH Tryz.prog Rows.fnExactInnerRow.laid w) (fun _ _ _ hh h => h.of_heap hh) own started (by kernel_rfl) Tryz.func3
    (ChangeSpec.witness_shaped (enc := enc) (C := Tryz.checked) (os := os) (X := fun w _ => laidMetH Tryz.prog Rows.fnExactInnerRow.laid w) false (World.doorLaid Tryz.prog 400 os) #[.int .i64 0, .int .i64 0, .agg #[.bool false, .slice none 0 0, .slice none 0 0], .agg #[.bool false, .slice none 0 0, .slice none 0 0]] 8 rfl (World.shaped_of_RefB (by kernel_rfl) (by kernel_rfl)) (by kernel_rfl) (by kernel_rfl) (by kernel_rfl) (door_met os _)) ?_
  intro W base args ds gs before hval0 hW _ _ hL _
  have hval : ∀ (j : Nat) t v, Tryz.f3.params[j]? = some t → args[j]? = some v → Value.okWide Tryz.prog W .any base t v := hval0
  have hW' := hW
  obtain ⟨p, q, hA0, hV0, rfl, hfz, hnd⟩ := hW
  have hA : DataW.TrodAll enc Tryz.prog W 0 (fun _ => true) true Tryz.f3.params.toList args.toList ds p := hA0
  have hV : DataW.TrodVars enc Tryz.prog W (fun _ => true) ["loop.example/s02542/impl.errNoResult", "loop.example/s02542/impl.errTooGreat", "loop.example/s02542/impl.emptyFolds"] gs q := hV0
  rw [Tryz.params3] at hA hval
  obtain ⟨v0, vs0, d0, ds0, p0, q0, hargs, rfl, rfl, h0, r0⟩ := trodAll_cons hA
  obtain ⟨v1, vs1, d1, ds1, p1, q1, rfl, rfl, rfl, h1, r1⟩ := trodAll_cons r0
  obtain ⟨v2, vs2, d2, ds2, p2, q2, rfl, rfl, rfl, h2, r2⟩ := trodAll_cons r1
  obtain ⟨v3, vs3, d3, ds3, p3, q3, rfl, rfl, rfl, h3, r3⟩ := trodAll_cons r2
  obtain ⟨rfl, rfl, rfl⟩ := trodAll_nil r3
  obtain rfl : args = #[v0, v1, v2, v3] := by cases args; simp_all
  obtain ⟨ga, gb, hG⟩ := glF_of_laid hL
  obtain ⟨g1, g2, g3, rfl⟩ := gs3 hV
  have k0 := h0
  have lt0 : ∀ x ∈ p0, x.block < W.heap.size := by obtain ⟨m, hm⟩ := k0; exact DataW.trod_lt m _ _ _ hm
  have k1 := h1
  have lt1 : ∀ x ∈ p1, x.block < W.heap.size := by obtain ⟨m, hm⟩ := k1; exact DataW.trod_lt m _ _ _ hm
  have k2 := h2
  have lt2 : ∀ x ∈ p2, x.block < W.heap.size := by obtain ⟨m, hm⟩ := k2; exact DataW.trod_lt m _ _ _ hm
  have k3 := h3
  have lt3 : ∀ x ∈ p3, x.block < W.heap.size := by obtain ⟨m, hm⟩ := k3; exact DataW.trod_lt m _ _ _ hm
  obtain ⟨op, rfl, _, _, _⟩ := open_int Tryz.underlying3 (hval 0 3 v0 rfl rfl) h0
  obtain ⟨og, rfl, _, _, _⟩ := open_int Tryz.underlying3 (hval 1 3 v1 rfl rfl) h1
  obtain ⟨c, a1, n1, c1, sh, a2, n2, c2, dt, rfl, s1, s2⟩ := openArr (hval 2 24 v2 rfl rfl) h2
  obtain ⟨d, b1, m1, d1, sh', b2, m2, d2, dt', rfl, s3, s4⟩ := openArr (hval 3 24 v3 rfl rfl) h3
  clear hA0 hval0 hV0
  refine (LawInner.law_walk F hspec himp op og c d a1 a2 b1 b2 n1 n2 m1 m2 c1 c2 d1 d2 sh dt sh' dt' W s1 s2 s3 s4 ga gb hG).mono fun e W' ⟨he, bel⟩ => ?_
  subst he
  exact ⟨_, rfl, _, _, _, [], _, _, hW', trodAll_mk1 (shut_bool Tryz.underlying4 _), (trodAll_cons_mk (Below.trod laidOut (by kernel_rfl) (of_decide_eq_true (by kernel_rfl)) k0 bel lt0) (trodAll_cons_mk (Below.trod laidOut (by kernel_rfl) (of_decide_eq_true (by kernel_rfl)) k1 bel lt1) (trodAll_cons_mk (Below.trod laidOut (by kernel_rfl) (of_decide_eq_true (by kernel_rfl)) k2 bel lt2) (trodAll_cons_mk (Below.trod laidOut (by kernel_rfl) (of_decide_eq_true (by kernel_rfl)) k3 bel lt3) trodAll_mk0)))), varsOut (bel.trodVars laidOut (by kernel_rfl) hV), bel.frame _, fun h => by cases h⟩

theorem over {F : Int → Int → Bool → Bool → List Int → List Int → List Int → List Int → Ans} (hspec : LawInner.Spec F) (himp : LawInner.Impl F) : Rows.FnExactInnerSaid :=
  OpenClaim.holds_of_wide 3 Tryz.f3 rfl rfl rfl rfl rfl rfl rfl ⟨rfl, rfl, rfl, rfl, rfl⟩ rfl rfl rfl rfl rfl (by kernel_rfl) Tryz.func3 (by kernel_rfl)
    (of_decide_eq_true (by kernel_rfl)) (by unfold Func.isWrapper; first | (rw [if_pos (by decide +kernel)]; kernel_rfl) | (rw [if_neg (by decide +kernel)]; exact ⟨rfl, rfl⟩))
    (fun os started H enc _ => lifted hspec himp os started H enc)

end OpenInner
end Go.Proofs.YtheocceclpplhaaGreatDoor
namespace Go.Proofs.YtheocceclpplhaaGreatDoor
open Go
namespace OpenInner

theorem standIn_none {ps : Array TypeId} (hall : ps.toList.all (fun t => !Tryz.prog.wantsStandIn t) = true) {j : Nat} {t : TypeId} (ht : ps[j]? = some t) : Tryz.prog.wantsStandIn t = false := by
  have hm : t ∈ ps.toList := Array.mem_toList_iff.mpr (Array.mem_of_getElem? ht)
  simpa using List.all_eq_true.mp hall t hm

theorem card {F : Int → Int → Bool → Bool → List Int → List Int → List Int → List Int → Ans} (hspec : LawInner.Spec F) (himp : LawInner.Impl F) : Rows.FnExactInnerCardSaid :=
  Claim7.holds_tied_plain_at .later [] [.sentinel, .sentinel, .data] true (true, "7a358bd7fb11a0e6de454b17f7344dd27dc01ee31c446ab6a1fddf77509b9adf") true
    (over hspec himp) (fun _ h => by cases h) (by kernel_rfl) (fun _ h => by cases h) fnExactInner_row_tie rfl ⟨rfl, rfl⟩ (by kernel_rfl) rfl
    (fun f fn hf hfn => by
      obtain rfl : f = 3 := Option.some.inj ((show Tryz.prog.funcNamed "loop.example/s02542/laws.FnExactInner" = some 3 by kernel_rfl).symm.trans hf) |>.symm
      obtain rfl : fn = Tryz.f3 := (Option.some.inj (Tryz.func3.symm.trans hfn)).symm
      exact ⟨by kernel_rfl, fun j t ht => by
        exact standIn_none (by kernel_rfl) ht⟩)
    (by kernel_rfl)

end OpenInner
end Go.Proofs.YtheocceclpplhaaGreatDoor
