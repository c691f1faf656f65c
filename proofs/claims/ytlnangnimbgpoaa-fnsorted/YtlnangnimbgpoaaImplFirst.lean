import Derived.Test.YtlnangnimbgpoaaImplBackward
import Derived.Test.YtlnangnimbgpoaaMMath
import Derived.Maps.OwnIn
import Derived.Maps.Own
namespace Go.Proofs.Ytlnangnimbgpoaa
open Go.RowKit Go.Shelf Go.Maps

attribute [local go_sem] Oper.semAt_some

theorem lawInt : Keyed Try.prog 3 := int_keyed Try.underlying3
theorem zeroInt (w : World) : (zeroValue 3).run Try.prog w = .ok (.int .i64 0) w := by kernel_rfl

theorem run_mm (n : Int) (w : World) : (Instr.makeMap 101 (some (.int .i64 n))).run Try.prog w = .ok (.map (some w.heap.size)) (w.alloc (.map #[] 0)) := by
  simp [Instr.makeMap, run_underlying Try.underlying101, asInt, asIntOf, Result.andThen]

/-- Behind k rounds: the map in block p says of each number its first place so far. -/
def Frst (zs : List Int) (p : Nat) (W : World) (k : Nat) (A : World) : Prop :=
  A.ownsMap Try.prog 3 (plainElem Try.prog 3) p k (placesD zs k) ∧ But (fun x => x = p) W A

theorem ownsMap_putObj {w : World} {p k l : Nat} {D : DataW Unit} (h : w.ownsMap Try.prog 3 (plainElem Try.prog 3) p k D) (hl : p ≠ l) (o : Obj) : (w.putObj l o).ownsMap Try.prog 3 (plainElem Try.prog 3) p k D := by
  obtain ⟨es, clock, hb, r⟩ := h
  exact ⟨es, clock, (World.putObj_heap_other hl).trans hb, r⟩

theorem Frst.putObj {zs : List Int} {p : Nat} {W : World} {k : Nat} {A : World} {l : Nat} (h : Frst zs p W k A) (hl : W.heap.size ≤ l) (hp : p < l) (o' : Obj) : Frst zs p W k (A.putObj l o') := by
  obtain ⟨h1, h3⟩ := h
  have hb := below_putObj A hl o'
  exact ⟨ownsMap_putObj h1 (by omega) o', hb.os.trans h3.os, hb.tape.trans h3.tape, hb.output.trans h3.output, Nat.le_trans h3.size hb.size, fun x hx hn => (hb.block x hx).trans (h3.block x hx hn)⟩

theorem Frst.alloc {zs : List Int} {p : Nat} {W : World} {k : Nat} {A : World} (h : Frst zs p W k A) (o : Obj) : Frst zs p W k (A.alloc o) := ⟨h.1.alloc o, h.2.alloc o⟩

theorem But.of_grown {S : Nat → Prop} {A B : World} {p : Nat} (h : A.grownBy B (some p)) (hp : S p) : But S A B :=
  ⟨h.os, h.tape, h.output, h.size, fun k hk hn => h.block k hk (fun e => by cases e; exact hn hp)⟩

set_option maxRecDepth 100000 in
set_option maxHeartbeats 4000000 in
theorem firstPlaces_in (sa : Option Addr) (n cap : Nat) (zs : List Int) (w : World) (h : Row w sa n zs) (hn : n ≤ 10000) (hd : ∀ k, k < zs.length → -1000000000000000 ≤ zs.getD k 0 ∧ zs.getD k 0 ≤ 1000000000000000) :
    CallsIn Fence.wide 9 Try.prog 90 #[.slice sa n cap] w fun e w' => ∃ B, e = .returned (.map (some B)) ∧ w.heap.size ≤ B ∧ w'.ownsMap Try.prog 3 (plainElem Try.prog 3) B n (placesD zs n) ∧ Below w.heap.size w w' := by
  have hlen := h.len
  have H := hide h
  have HD := hide hd
  have HAT : Hid (∀ k, At sa n k → k < w.heap.size) := fun k hk => h.hi hk
  clear h hd
  have hmm := run_mm
  refine callsIn_of_wp_marks Try.func90 rfl trivial ?_ rfl
  simp only [Try.ntmps90, List.size_toArray, List.length_cons, List.length_nil, Nat.reduceAdd, Nat.reduceSub, Array.replicate_succ, Array.replicate_zero, List.push_toArray, List.append_toArray, List.nil_append, List.cons_append]
  gi_wp2_with (refine ⟨trivial, ?_⟩; gi_at_call 111; refine (callsIn_wide.2 (Backward_any _ _ _ _)).mono ?_; rintro e wI ⟨rfl, hwI⟩; obtain rfl := hwI.symm)
  clear hmm
  obtain ⟨p, hp⟩ : ∃ p, p = w.heap.size := ⟨_, rfl⟩
  obtain ⟨W, hW⟩ : ∃ W, W = ((w.alloc (.map #[] 0)).alloc (.cells #[.map (some w.heap.size)] 101)).alloc (.cells #[.slice sa n cap] 22) := ⟨_, rfl⟩
  have hzW : W.heap.size = p + 1 + 1 + 1 := by rw [hW, hp]; simp
  have HBW : Hid (Below p w W) := by rw [hW, hp]; exact (((Below.refl _ w).alloc (Nat.le_refl _) _).alloc (by simp) _).alloc (by simp; omega) _
  have HY0 : Hid (W.ownsMap Try.prog 3 (plainElem Try.prog 3) p 0 (placesD zs 0)) := by rw [hW, hp]; exact ((World.ownsMap_made w _ _ _).alloc _).alloc _
  have HY1 : Hid (W.heap[p + 1]? = some (.cells #[.map (some p)] 101 (0, 0))) := by
    rw [hW, hp]
    have := World.alloc_heap_new (w.alloc (.map #[] 0)) (.cells #[.map (some w.heap.size)] 101)
    exact (Below.heap_alloc _ _ _ (by simp)).trans (by simpa using this)
  have HY2 : Hid (W.heap[p + 1 + 1]? = some (.cells #[.slice sa n cap] 22 (0, 0))) := by
    rw [hW, hp]
    have := World.alloc_heap_new ((w.alloc (.map #[] 0)).alloc (.cells #[.map (some w.heap.size)] 101)) (.cells #[.slice sa n cap] 22)
    rwa [World.size_alloc, World.size_alloc] at this
  have HW := hide (H.out.below (by omega) HBW.out)
  rw [← hW, ← hp]
  have HAT' : Hid (∀ k, At sa n k → k < p) := by rw [hp]; exact HAT
  have HP := hide hp
  clear hW hp HAT H hwI
  have h0 : Frst zs p W 0 W := ⟨HY0.out, But.refl _ _⟩
  have HC3 : Hid (∀ k A, Frst zs p W k A → A.cell? ⟨p + 1 + 1, 0, none⟩ = some (.slice sa n cap) ∧ Row A sa n zs) := fun k A hA => by
    obtain ⟨_, hbut⟩ := hA
    refine ⟨?_, hbut.row HW.out (by rintro x rfl hx; have := HAT'.out _ hx; omega)⟩
    have h3 := (hbut.block (p + 1 + 1) (by omega) (by omega)).trans HY2.out
    simp [World.cell?, h3]
  refine range_when (gf := 119) (lb := #[.pointer (some ⟨p + 1 + 1, 0, none⟩)]) rfl eg_back (ar := backAr n zs) (fun _ => rfl) (back1_seq _ (p + 1 + 1) sa n cap zs (by omega))
    (Frst zs p W) HC3.out (fun k A l o o' h hl ho hc => h.putObj (by omega) (by omega) o') (fun o o' => (h0.alloc o).alloc o')
    (fun k => { tmps := #[.slice sa n cap, undef, .map none, .pointer (some ⟨p + 1, 0, none⟩), .int .i64 ((n - 1 - k : Nat) : Int), .int .i64 (zs.getD (n - 1 - k) 0), .slice sa n cap, .int .i64 (n : Nat), .map (some p), .slice sa n cap, .func (.func 119) #[] #[.pointer (some ⟨p + 1 + 1, 0, none⟩)], .int .i64 ((n - 1 - k : Nat) : Int), .int .i64 (zs.getD (n - 1 - k) 0), undef, undef, undef, undef, undef], defers := [] }) ?assign ?body ?done
  case assign =>
    intro l k A K hK
    unfold backAr
    gi_wp2
    exact hK
  case body =>
    rintro l k A hk ⟨hM, hbut⟩
    clear h0 HC3
    obtain ⟨j, hj⟩ : ∃ j : Nat, j = n - 1 - k := ⟨_, rfl⟩
    obtain ⟨a, ha⟩ : ∃ a, a = zs.getD j 0 := ⟨_, rfl⟩
    have hab := HD.out j (by omega)
    rw [← ha] at hab
    have HPD : Hid (placesD zs (k + 1) = (placesD zs k).put (.int .i64 a) (.lit (.int .i64 ((j : Int) + 1)))) := by
      show _ = _
      rw [placesD, hlen, ← hj, ← ha]
    rw [← hj, ← ha]
    have h3 := (hbut.block (p + 1) (by omega) (by omega)).trans HY1.out
    have cP : A.cell? ⟨p + 1, 0, none⟩ = some (.map (some p)) := by simp [World.cell?, h3]
    have hj1 : j < 10000 := by omega
    have hkey : keyOf Try.prog 3 (.int .i64 a) = some (.int .i64 a) := keyOf_int_mk Try.underlying3 (WalkArith.wf_i64 (by omega))
    have HM := hide hM
    have HBT := hide hbut
    clear h3 hj ha hM hbut
    gi_wp2_with (gi_at_mapUpdate; refine wpListIn_mapUpdate_own _ rfl _ _ _ 101 rfl 3 3 lawInt Try.underlying101 _ p k _ rfl HM.out (by unfold maxLen; omega) _ _ _ rfl rfl hkey (.lit (.int .i64 ((j : Int) + 1))) [] (plainElem_int Try.underlying3 (WalkArith.wf_i64 (by omega))) ?_; intro w1 hown1 hgrow1)
    refine ⟨KeepsFrom.of_grownBy hgrow1 (by intro q e; cases e; omega), ?_, ?_⟩
    · rw [HPD.out]; exact hown1
    · exact (HBT.out.trans (But.of_grown (S := fun x => x = p) hgrow1 rfl)).mono (by rintro x (h | h) <;> exact h)
  case done =>
    rintro D A hD ⟨hM, hbut⟩ hK
    have h3 := (hbut.block (p + 1) (by omega) (by omega)).trans HY1.out
    have cP : A.cell? ⟨p + 1, 0, none⟩ = some (.map (some p)) := by simp [World.cell?, h3]
    have HBT := hide hbut
    have HM := hide hM
    clear hM hbut h3 h0
    gi_wp2
    refine ⟨by simp, .inl ⟨_, _, rfl, run_takeDeferred hK, ?_⟩⟩
    refine ⟨_, results_tmp rfl _ _ _, p, rfl, by rw [← HP.out]; exact Nat.le_refl _, ownsMap_putObj HM.out (by omega) _, ?_⟩
    rw [← HP.out]
    exact (HBW.out.trans (HBT.out.below (B := p) (by omega) (by rintro x rfl; omega))).trans (below_putObj A (by omega) _)

theorem firstPlaces_any (sa : Option Addr) (n cap : Nat) (zs : List Int) (w : World) (h : Row w sa n zs) (hn : n ≤ 10000) (hd : ∀ k, k < zs.length → -1000000000000000 ≤ zs.getD k 0 ∧ zs.getD k 0 ≤ 1000000000000000) :
    Calls Try.prog 90 #[.slice sa n cap] w fun e w' => ∃ B, e = .returned (.map (some B)) ∧ w.heap.size ≤ B ∧ w'.ownsMap Try.prog 3 (plainElem Try.prog 3) B n (placesD zs n) ∧ Below w.heap.size w w' :=
  callsIn_wide.1 (firstPlaces_in sa n cap zs w h hn hd)

end Go.Proofs.Ytlnangnimbgpoaa
