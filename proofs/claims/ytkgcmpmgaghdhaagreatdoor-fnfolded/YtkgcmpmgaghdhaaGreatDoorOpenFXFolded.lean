import Derived.Test.YtkgcmpmgaghdhaaGreatDoorLawFolded
import Derived.Test.YtkgcmpmgaghdhaaGreatDoorOpenWB
import Derived.Test.YtkgcmpmgaghdhaaGreatDoorOpenLaidF
namespace Go.Proofs.YtkgcmpmgaghdhaaGreatDoor
open Go.ChangeShapes Go.WideShapes Go.ChangeAt Go.RowKit Go.Joins
namespace OpenFolded

theorem varsOut {p : Prop} (h : p) : p := h

set_option maxHeartbeats 2000000 in
set_option maxRecDepth 100000 in
theorem law_big1 (a b : Option Addr) (n c m d : Nat) (w : World) (hn : 1048576 < n) :
    Calls Tryz.prog 7 #[.slice a n c, .slice b m d] w fun e w' => e = .returned (.bool true) ∧ Below w.heap.size w w' := by
  have hnz : (1048576 : Int) < (n : Int) := by omega
  go_enter Tryz.func7, Tryz.ntmps7
  go_wp2_with fail
  exact bodyPost_ret (v := .bool true) (by simp [results, Tryz.results7, go_sem]) rfl ⟨rfl, Below.refl _ _⟩

set_option maxHeartbeats 2000000 in
set_option maxRecDepth 100000 in
theorem law_big2 (a b : Option Addr) (n c m d : Nat) (w : World) (hn : n ≤ 1048576) (hm : 1048576 < m) :
    Calls Tryz.prog 7 #[.slice a n c, .slice b m d] w fun e w' => e = .returned (.bool true) ∧ Below w.heap.size w w' := by
  have hnz : ¬ (1048576 : Int) < (n : Int) := by omega
  have hmz : (1048576 : Int) < (m : Int) := by omega
  go_enter Tryz.func7, Tryz.ntmps7
  go_wp2_with fail
  exact bodyPost_ret (v := .bool true) (by simp [results, Tryz.results7, go_sem]) rfl ⟨rfl, Below.refl _ _⟩

theorem law_all (ga gb : Addr) (a b : Option Addr) (n c m d : Nat) (w : World) (hby : Bytes w a n) (hc : n ≤ c) (hbz : Bytes w b m) (hd : m ≤ d) (hG : GlF w ga gb) :
    Calls Tryz.prog 7 #[.slice a n c, .slice b m d] w fun e w' => e = .returned (.bool true) ∧ Below w.heap.size w w' := by
  by_cases h : n ≤ 1048576
  · by_cases h2 : m ≤ 1048576
    · exact law_Folded ga gb a b n c m d w hby hc h hbz hd h2 hG
    · exact law_big2 a b n c m d w h (by omega)
  · exact law_big1 a b n c m d w (by omega)

theorem door_met (os : Os) (args : Array Value) : laidMetH Tryz.prog Rows.fnFoldedRow.laid ((World.doorLaid Tryz.prog 400 os).forCall (fun _ _ => 0) ⟨#[], args, []⟩).memory :=
  laidMetH_of_parts3 (fuel := 8) (laidMet_of_run' 8 (by kernel_rfl) (by kernel_rfl)) (by kernel_rfl) (by kernel_rfl)

set_option maxRecDepth 100000 in
theorem lifted (os : Os) (started : os.Started) (H : Type) (enc : TypeId × Value → H) :
    ReturnsInHanded {} Tryz.checked os 7 .any (fun w args => (Rows.fnFoldedSpec.pre enc Tryz.prog Tryz.f7 [] false w args ∧ laidMetH Tryz.prog Rows.fnFoldedRow.laid w) ∧ sizedMet enc Tryz.prog Tryz.f7 (OpenSpec.ofChange Rows.fnFoldedSpec) false w args) (Rows.fnFoldedSpec.post enc Tryz.prog Tryz.f7 false true false false) := by
  refine returnsInHanded_of_change_and (C := Tryz.checked) (X := fun w _ => laidMetH Tryz.prog Rows.fnFoldedRow.laid w) (fun _ _ _ hh h => h.of_heap hh) own started (by kernel_rfl) Tryz.func7
    (ChangeSpec.witness_shaped (enc := enc) (C := Tryz.checked) (os := os) (X := fun w _ => laidMetH Tryz.prog Rows.fnFoldedRow.laid w) false (World.doorLaid Tryz.prog 400 os) #[.slice none 0 0, .slice none 0 0] 8 rfl (World.shaped_of_RefB (by kernel_rfl) (by kernel_rfl)) (by kernel_rfl) (by kernel_rfl) (by kernel_rfl) (door_met os _)) ?_
  intro W base args ds gs before hval0 hW _ _ hL _
  have hval : ∀ (j : Nat) t v, Tryz.f7.params[j]? = some t → args[j]? = some v → Value.okWide Tryz.prog W .any base t v := hval0
  have hW' := hW
  obtain ⟨p, q, hA0, hV0, rfl, hfz, hnd⟩ := hW
  have hA : DataW.TrodAll enc Tryz.prog W 0 (fun _ => true) true Tryz.f7.params.toList args.toList ds p := hA0
  have hV : DataW.TrodVars enc Tryz.prog W (fun _ => true) ["loop.example/s02542/impl.errNoResult", "loop.example/s02542/impl.errTooGreat", "loop.example/s02542/impl.emptyFolds"] gs q := hV0
  rw [Tryz.params7] at hA hval
  obtain ⟨v0, vs0, d0, ds0, p0, q0, hargs, rfl, rfl, h0, r0⟩ := trodAll_cons hA
  obtain ⟨v1, vs1, d1, ds1, p1, q1, rfl, rfl, rfl, h1, r1⟩ := trodAll_cons r0
  obtain ⟨rfl, rfl, rfl⟩ := trodAll_nil r1
  obtain rfl : args = #[v0, v1] := by cases args; simp_all
  obtain ⟨ga, gb, hG⟩ := glF_of_laid hL
  obtain ⟨g1, g2, g3, rfl⟩ := gs3 hV
  have k0 := h0
  have lt0 : ∀ x ∈ p0, x.block < W.heap.size := by obtain ⟨m, hm⟩ := k0; exact DataW.trod_lt m _ _ _ hm
  have k1 := h1
  have lt1 : ∀ x ∈ p1, x.block < W.heap.size := by obtain ⟨m, hm⟩ := k1; exact DataW.trod_lt m _ _ _ hm
  have hv0 := hval 0 22 v0 rfl rfl
  obtain ⟨a1, l1, c1, rfl⟩ := okWide_slice Tryz.underlying22 hv0
  have hv1 := hval 1 22 v1 rfl rfl
  obtain ⟨b1, m1, e1, rfl⟩ := okWide_slice Tryz.underlying22 hv1
  obtain ⟨fuel, hf⟩ := h0
  obtain ⟨a, n, c, hv, hby, hc⟩ := OpenW.openBytes hf
  cases hv
  obtain ⟨fuel1, hf1⟩ := h1
  obtain ⟨b, m, d, hv', hbz, hd⟩ := OpenW.openBytes hf1
  cases hv'
  clear hA0 hval0 hV0
  refine (law_all ga gb _ _ _ _ _ _ W hby hc hbz hd hG).mono fun e W' ⟨he, bel⟩ => ?_
  subst he
  exact ⟨_, rfl, _, _, _, [], _, _, hW', trodAll_mk1 (shut_bool Tryz.underlying4 _), (trodAll_cons_mk (Below.trod laidOut (by kernel_rfl) (of_decide_eq_true (by kernel_rfl)) k0 bel lt0) (trodAll_cons_mk (Below.trod laidOut (by kernel_rfl) (of_decide_eq_true (by kernel_rfl)) k1 bel lt1) trodAll_mk0)), varsOut (bel.trodVars laidOut (by kernel_rfl) hV), bel.frame _, fun h => by cases h⟩

theorem over : Rows.FnFoldedSaid :=
  OpenClaim.holds_of_wide 7 Tryz.f7 rfl rfl rfl rfl rfl rfl rfl ⟨rfl, rfl, rfl, rfl, rfl⟩ rfl rfl rfl rfl rfl (by kernel_rfl) Tryz.func7 (by kernel_rfl)
    (of_decide_eq_true (by kernel_rfl)) (by unfold Func.isWrapper; first | (rw [if_pos (by decide +kernel)]; kernel_rfl) | (rw [if_neg (by decide +kernel)]; exact ⟨rfl, rfl⟩))
    (fun os started H enc _ => lifted os started H enc)

end OpenFolded
end Go.Proofs.YtkgcmpmgaghdhaaGreatDoor
