import Derived.Test.YtgjpchnkodnieaaGreatDoorImplFoldL
import Derived.Test.YtgjpchnkodnieaaGreatDoorImplOpOf
namespace Go.Proofs.YtgjpchnkodnieaaGreatDoor
open Go.RowKit Go.Shelf

theorem empty_tab {k : Nat} (h : 1 ≤ k ∧ k ≤ 16) : emptyTab.getD (k - 1) 0 = emptyOf (k : Int) := by
  rcases (show k = 1 ∨ k = 2 ∨ k = 3 ∨ k = 4 ∨ k = 5 ∨ k = 6 ∨ k = 7 ∨ k = 8 ∨ k = 9 ∨ k = 10 ∨ k = 11 ∨ k = 12 ∨ k = 13 ∨ k = 14 ∨ k = 15 ∨ k = 16 by omega) with rfl | rfl | rfl | rfl | rfl | rfl | rfl | rfl | rfl | rfl | rfl | rfl | rfl | rfl | rfl | rfl <;> rfl

/-- The value folds strips by op, in whatever world holds what lies in w. -/
def FoldIs (ga gb : Addr) (op : Int) (v : Value) (w : World) : Prop :=
  ∃ g lb, v = .func (.func g) #[] lb ∧ (∀ args w, (callFunc g args).run Tryz.prog w = .ok (.enter g args) w) ∧ ∀ (W : World) (a2 : Addr) (n2 c2 s t C : Nat) (dt : List Int), Below w.heap.size w W → C ≤ 1000000 → Row W (some a2) n2 dt → (∀ k, k < C → s + k * t < n2) → (∀ k, k < n2 → -1000000000000000 ≤ dt.getD k 0 ∧ dt.getD k 0 ≤ 1000000000000000) →
    Calls Tryz.prog g (#[.agg #[.slice (some a2) n2 c2, .int .i64 s, .int .i64 t, .int .i64 (C : Nat)]] ++ lb) W fun e w' => e = .returned (.tuple #[.int .i64 (foldR op (stripOf dt s t C)).1, errV ga gb (foldR op (stripOf dt s t C)).2]) ∧ Below W.heap.size W w'

theorem FoldIs.below {ga gb : Addr} {op : Int} {v : Value} {w w' : World} (h : FoldIs ga gb op v w) (hb : Below w.heap.size w w') : FoldIs ga gb op v w' := by
  obtain ⟨g, lb, hv, eg, hc⟩ := h
  exact ⟨g, lb, hv, eg, fun W a2 n2 c2 s t C dt hW => hc W a2 n2 c2 s t C dt (hb.trans (hW.mono hb.size))⟩

set_option maxRecDepth 20000 in
set_option maxHeartbeats 2000000 in
theorem foldClo_zero (k : Nat) (ga gb a2 : Addr) (po pc n2 c2 s t : Nat) (dt : List Int) (W : World) (hG : GlF W ga gb) (hk : 1 ≤ k ∧ k ≤ 16) (ho : W.cell? ⟨po, 0, none⟩ = some (.int .i64 (k : Nat))) :
    Calls Tryz.prog 188 #[.agg #[.slice (some a2) n2 c2, .int .i64 s, .int .i64 t, .int .i64 ((0 : Nat) : Int)], .pointer (some ⟨po, 0, none⟩), .pointer (some ⟨pc, 0, none⟩)] W fun e w' => e = .returned (.tuple #[.int .i64 (foldR (k : Int) (stripOf dt s t 0)).1, errV ga gb (foldR (k : Int) (stripOf dt s t 0)).2]) ∧ Below W.heap.size W w' := by
  have HE : Hid (foldR (k : Int) (stripOf dt s t 0) = (emptyTab.getD (k - 1) 0, 0)) := by show _ = _; rw [empty_tab hk]; rfl
  obtain ⟨hk1, hk2⟩ := hk
  obtain ⟨j, rfl⟩ : ∃ j, k = j + 1 := ⟨k - 1, by omega⟩
  have hp := World.block_lt_of_cell? _ _ ho
  have ht := hG.tab j (by omega)
  have hg := World.block_lt_of_cell? _ _ ht
  rw [Nat.add_sub_cancel] at HE
  generalize emptyTab.getD j 0 = x at *
  rw [unhide HE]
  clear HE
  have b1 := ((Below.refl W.heap.size W).alloc (Nat.le_refl _) (.cells #[.slice (some a2) n2 c2, .int .i64 s, .int .i64 t, .int .i64 0] 145)).cell (p := ⟨po, 0, none⟩) hp
  have b2 := ((Below.refl W.heap.size W).alloc (Nat.le_refl _) (.cells #[.slice (some a2) n2 c2, .int .i64 s, .int .i64 t, .int .i64 0] 145)).cell (p := ⟨0, j, none⟩) hg
  rw [ho] at b1
  rw [ht] at b2
  have hj1 : ((j + 1 : Nat) : Int) - 1 = (j : Int) := by omega
  obtain ⟨m, hm⟩ : ∃ m : Int, ((j + 1 : Nat) : Int) = m := ⟨_, rfl⟩
  rw [hm] at b1 hj1
  have hmb : m ≤ 16 ∧ 1 ≤ m := by omega
  obtain ⟨hmb1, hmb2⟩ := hmb
  clear hm ho ht hG
  go_enter Tryz.func188, Tryz.ntmps188
  go_wp2
  go_ret2
  exact ⟨rfl, (Below.refl _ _).alloc (Nat.le_refl _) _⟩

set_option maxRecDepth 20000 in
set_option maxHeartbeats 2000000 in
theorem foldClo_pos (op : Int) (ga gb a2 : Addr) (v : Value) (po pc n2 c2 s t C : Nat) (dt : List Int) (W : World) (hv : OpIs ga gb (twoOf op) v W) (hc : W.cell? ⟨pc, 0, none⟩ = some v) (hC0 : C ≠ 0) (hcs : C ≤ 1000000) (h2 : Row W (some a2) n2 dt) (hk : ∀ k, k < C → s + k * t < n2) (hb : ∀ k, k < n2 → -1000000000000000 ≤ dt.getD k 0 ∧ dt.getD k 0 ≤ 1000000000000000) :
    Calls Tryz.prog 188 #[.agg #[.slice (some a2) n2 c2, .int .i64 s, .int .i64 t, .int .i64 (C : Nat)], .pointer (some ⟨po, 0, none⟩), .pointer (some ⟨pc, 0, none⟩)] W fun e w' => e = .returned (.tuple #[.int .i64 (foldR op (stripOf dt s t C)).1, errV ga gb (foldR op (stripOf dt s t C)).2]) ∧ Below W.heap.size W w' := by
  have HBW : Hid (Below W.heap.size W (W.alloc (.cells #[.slice (some a2) n2 c2, .int .i64 s, .int .i64 t, .int .i64 (C : Nat)] 145))) := (Below.refl _ _).alloc (Nat.le_refl _) _
  have HF := hide (fold_any op ga gb a2 v n2 c2 s t (C - 1) C dt _ (by omega) hcs (hv.below (unhide HBW)) (h2.below (Nat.le_refl _) (unhide HBW)) hk hb)
  have b1 := (unhide HBW).cell (p := ⟨pc, 0, none⟩) (World.block_lt_of_cell? _ _ hc)
  rw [hc] at b1
  obtain ⟨g, lb, rfl, _, _⟩ := hv
  have q0 : ((C : Int) == 0) = false := by simp; omega
  generalize foldR op (stripOf dt s t C) = r at *
  obtain ⟨r1, r2⟩ := r
  obtain ⟨ev, hev⟩ : ∃ ev, ev = errV ga gb r2 := ⟨_, rfl⟩
  simp only [← hev] at HF ⊢
  clear hev hc h2 hk hb hC0
  go_enter Tryz.func188, Tryz.ntmps188
  go_wp2_with (go_at_call 189; refine (unhide HF).mono ?_; rintro e w1 ⟨rfl, hb1⟩; have HB1 := hide ((unhide HBW).trans (hb1.mono (by simp))); clear hb1)
  go_ret2
  exact ⟨rfl, unhide HB1⟩

set_option maxHeartbeats 1000000 in
theorem foldingBy_any (op : Int) (ga gb : Addr) (w : World) (hG : GlF w ga gb) (hop : opIn op = true) : Calls Tryz.prog 117 #[.int .i64 op] w fun e w' => ∃ v, e = .returned v ∧ FoldIs ga gb op v w' ∧ Below w.heap.size w w' := by
  obtain ⟨k, rfl, hk⟩ := opIn_nat hop
  have HG := hide hG
  have HOP := hide hop
  have HK := hide hk
  clear hG hop hk
  go_enter Tryz.func117, Tryz.ntmps117
  go_wp2_with (go_at_call 186; refine (operationOf_eq _ ga gb _ ((unhide HG).gl.alloc _) (unhide HOP)).mono ?_; rintro e w1 ⟨v, rfl, hv, hb1⟩; have HV := hide hv; have HB1 := hide hb1; have hz := hb1.size; obtain ⟨g, lb, rfl, eg, _⟩ := hv; clear hb1)
  go_ret
  have hw : Below w.heap.size w w1 := ((Below.refl _ _).alloc (Nat.le_refl _) _).trans ((unhide HB1).mono (by simp))
  have hz' : w.heap.size + 1 ≤ w1.heap.size := by simpa using hz
  refine ⟨_, rfl, ⟨_, _, rfl, enters_of Tryz.func188 (by kernel_rfl) rfl, fun W a2 n2 c2 s t C dt hW hcs h2 hkk hb => ?_⟩, hw.alloc (by omega) _⟩
  have hW1 : Below w1.heap.size w1 W := ((Below.refl _ _).alloc (Nat.le_refl _) _).trans (hW.mono (by simp))
  have ho : W.cell? ⟨w.heap.size, 0, none⟩ = some (.int .i64 (k : Nat)) := (hW1.cell (p := ⟨w.heap.size, 0, none⟩) (by show w.heap.size < w1.heap.size; omega)).trans (((unhide HB1).cell (p := ⟨w.heap.size, 0, none⟩) (by simp)).trans (cell_of_row _ _ 0 _ _ (0, 0) (heap_alloc_last w _)))
  have hc : W.cell? ⟨w1.heap.size, 0, none⟩ = some (.func (.func g) #[] lb) := (hW.cell (p := ⟨w1.heap.size, 0, none⟩) (by simp)).trans (cell_of_row _ _ 0 _ _ (0, 0) (heap_alloc_last w1 _))
  by_cases hC : C = 0
  · subst hC
    exact foldClo_zero k ga gb a2 w.heap.size w1.heap.size n2 c2 s t dt W ((unhide HG).below (hw.trans (hW1.mono (by omega)))) (unhide HK) ho
  · exact foldClo_pos (k : Int) ga gb a2 _ w.heap.size w1.heap.size n2 c2 s t C dt W ((unhide HV).below hW1) hc hC hcs h2 hkk hb

end Go.Proofs.YtgjpchnkodnieaaGreatDoor
