import Derived.Test.YtgjpchnkodnieaaGreatDoorZv21
import Derived.Test.YtgjpchnkodnieaaGreatDoorZv04
import Derived.Deep.RegionHeld3
import Derived.Deep.DeepCutAuto
import Derived.RangeFuncRecord
import Derived.Test.YtgjpchnkodnieaaGreatDoorZv18
import Derived.Test.YtgjpchnkodnieaaGreatDoorZv14
import Derived.Test.YtgjpchnkodnieaaGreatDoorZv15
import Derived.Deep.RegionHeld
import Derived.Test.YtgjpchnkodnieaaGreatDoorZv01
import Derived.Test.YtgjpchnkodnieaaGreatDoorZv07
import Derived.Test.YtgjpchnkodnieaaGreatDoorZv13
import Derived.BigQuiet
import Derived.Test.YtgjpchnkodnieaaGreatDoorZv11
import Derived.Test.YtgjpchnkodnieaaGreatDoorZv16
import Derived.Test.YtgjpchnkodnieaaGreatDoorZv17
import Derived.Test.YtgjpchnkodnieaaGreatDoorZv10
namespace Go.Proofs.YtgjpchnkodnieaaGreatDoor
open Go.RowKit Go.Shelf
namespace Spanstaking
theorem meth : ∀ w, (method 414 115 (.agg #[]) "loop.example/s02542/impl.span").run Tryz.prog w = .ok (354, .agg #[]) w := by intro w; kernel_rfl
theorem blk_made {W : World} {g L : Nat} (h : W.heap[g]? = some (.cells (madeCells #[.int .i64 0] L) 3 (0, 0))) : Blk W g (List.replicate L 0) := by
  rw [madeList] at h
  unfold Blk
  rw [h]
  simp
def TwoNew (W : World) (L : Nat) (v8 v9 : Value) (wx : World) : Prop :=
  ∃ gf gs, v8 = .slice (some ⟨gf, 0, none⟩) L L ∧ v9 = .slice (some ⟨gs, 0, none⟩) L L ∧ Blk wx gf (List.replicate L 0) ∧ Blk wx gs (List.replicate L 0) ∧ W.heap.size ≤ gf ∧ W.heap.size ≤ gs ∧ gf ≠ gs ∧ Below W.heap.size W wx
theorem a2_0 (w : World) (o0 o1 : Obj) : ((w.alloc o0).alloc o1).drew.heap[w.heap.size]? = some o0 := (Below.heap_alloc _ _ _ (by simp)).trans (World.alloc_heap_new w o0)
theorem a2_1 (w : World) (o0 o1 : Obj) : ((w.alloc o0).alloc o1).drew.heap[w.heap.size + 1]? = some o1 := by have := World.alloc_heap_new (w.alloc o0) o1; rwa [World.size_alloc] at this
theorem a2_b (w : World) (o0 o1 : Obj) : Below w.heap.size w ((w.alloc o0).alloc o1).drew := (((Below.refl _ w).alloc (Nat.le_refl _) _).alloc (by simp) _).drew
theorem two_new {W wx : World} {L gf gs : Nat} (h2 : wx.heap[gf]? = some (.cells (madeCells #[.int .i64 0] L) 3 (0, 0))) (h3 : wx.heap[gs]? = some (.cells (madeCells #[.int .i64 0] L) 3 (0, 0))) (b1 : W.heap.size ≤ gf) (b2 : W.heap.size ≤ gs) (b3 : gf ≠ gs) (hb : Below W.heap.size W wx) :
    TwoNew W L (.slice (some ⟨gf, 0, none⟩) L L) (.slice (some ⟨gs, 0, none⟩) L L) wx := ⟨gf, gs, rfl, rfl, blk_made h2, blk_made h3, b1, b2, b3, hb⟩
set_option maxRecDepth 20000 in
set_option maxHeartbeats 4000000 in
theorem any (a2 sa : Option Addr) (L c2 ca : Nat) (dt bs : List Int) (w : World) (h2 : Row w a2 L dt) (hr : Row w sa L bs) (hL : L ≤ 10000) (hdb : ∀ k, k < L → -1000000000000000 ≤ dt.getD k 0 ∧ dt.getD k 0 ≤ 1000000000000000) (hsb : ∀ k, 0 ≤ bs.getD k 0 ∧ bs.getD k 0 ≤ 10000) :
    Calls Tryz.prog 165 #[.agg #[], .slice a2 L c2, .slice sa L ca] w fun e w' => ∃ gf gs, e = .returned (.tuple #[.slice (some ⟨gf, 0, none⟩) L L, .slice (some ⟨gs, 0, none⟩) L L]) ∧ Blk w' gf (made S1taking dt bs L) ∧ Blk w' gs (made Z1taking dt bs L) ∧ w.heap.size ≤ gf ∧ w.heap.size ≤ gs ∧ gf ≠ gs ∧ Below w.heap.size w w' := by
  obtain ⟨W, hW⟩ : ∃ W, W = w.alloc (.cells #[] 115) := ⟨_, rfl⟩
  have HXH : Hid (W.heap[w.heap.size]? = some (.cells #[] 115 (0, 0))) := by rw [hW]; exact World.alloc_heap_new w _
  have HB0 : Hid (Below w.heap.size w W) := by rw [hW]; exact (Below.refl _ w).alloc (Nat.le_refl _) _
  have hWz : W.heap.size = w.heap.size + 1 := by rw [hW]; simp
  have HWZ := hide hWz
  have H2 := hide (h2.below (Nat.le_refl _) (unhide HB0))
  have HR := hide (hr.below (Nat.le_refl _) (unhide HB0))
  have HDB := hide hdb
  have HSB := hide hsb
  have hmk := run_make_row' (P := Tryz.prog) 23 3 (.int .i64 0) 8 Tryz.underlying23 info_int rfl .i64 .i64 L (by omega) (by omega)
  clear h2 hr hdb hsb hWz
  go_enter Tryz.func165, Tryz.ntmps165
  go_upto_region 1 with fail
  rw [← hW]
  clear hW
  go_cut [8, 9] (fun v8 v9 wx => TwoNew W L v8 v9 wx)
  case first => as_aux_lemma =>
    go_region
    all_goals go_wp2_with fail
    all_goals (go_meet; case rel => first | exact two_new (a2_0 _ _ _) (a2_1 _ _ _) (by omega) (by omega) (by omega) (a2_b _ _ _) | exact two_new (a2_1 _ _ _) (a2_0 _ _ _) (by omega) (by omega) (by omega) (a2_b _ _ _))
  case rest =>
    obtain ⟨w3, hw3⟩ : ∃ x, x = wc := ⟨_, rfl⟩
    subst hw3
    obtain ⟨gf, gs, rfl, rfl, hgf, hgs, bgf, bgs, nfs, hbl⟩ := hcut
    have HGF : Hid (Blk w3 gf (partly S1taking dt bs L 0)) := by show Blk _ _ _; rw [partly_zero]; exact hgf
    have HGS : Hid (Blk w3 gs (partly Z1taking dt bs L 0)) := by show Blk _ _ _; rw [partly_zero]; exact hgs
    have HBL := hide hbl
    clear hgf hgs hbl hmk
    go_wp2_with fail
    go_loopw [20] (fun i wr => ∃ k : Nat, k ≤ L ∧ i = .int .i64 (k : Nat) ∧ Hid (Blk wr gf (partly S1taking dt bs L k)) ∧ Hid (Blk wr gs (partly Z1taking dt bs L k)) ∧ Hid (But (fun x => x = gf ∨ x = gs) w3 wr)) (fun i _ => L - (intOf i).toNat)
    case atStart => exact ⟨0, Nat.zero_le _, rfl, HGF, HGS, hide (But.refl _ _)⟩
    case round =>
      obtain ⟨k, hk, rfl, hf, hs, hbut⟩ := hrel
      by_cases hlt : k < L
      · have hzr := hbut.out.size
        have hz3 := HBL.out.size
        obtain ⟨bb, ob, hbb, hbl1, cs⟩ := (hbut.out.row (HR.out.below (Nat.le_refl _) HBL.out) (by rintro x (rfl | rfl) h <;> have := HR.out.hi h <;> omega)).get hlt
        obtain ⟨ba, oa, hba, hbl2, ck⟩ := (hbut.out.row (H2.out.below (Nat.le_refl _) HBL.out) (by rintro x (rfl | rfl) h <;> have := H2.out.hi h <;> omega)).get hlt
        have hbaw : ba < W.heap.size := H2.out.hi ⟨by omega, _, hba, rfl⟩
        cases hbb
        cases hba
        obtain ⟨s, hss⟩ : ∃ s, bs.getD k 0 = s := ⟨_, rfl⟩
        obtain ⟨kk, hkk⟩ : ∃ kk, dt.getD k 0 = kk := ⟨_, rfl⟩
        rw [hss] at cs
        rw [hkk] at ck
        have hkb : -1000000000000000 ≤ kk ∧ kk ≤ 1000000000000000 := by rw [← hkk]; exact HDB.out k hlt
        have hsb : 0 ≤ s ∧ s ≤ 10000 := by rw [← hss]; exact HSB.out k
        obtain ⟨S1, hS1⟩ : ∃ S1, S1taking kk s = S1 := ⟨_, rfl⟩
        obtain ⟨Z1, hZ1⟩ : ∃ Z1, Z1taking kk s = Z1 := ⟨_, rfl⟩
        have HS1 : Hid (S1taking (dt.getD k 0) (bs.getD k 0) = S1) := by rw [hkk, hss]; exact hS1
        have HZ1 : Hid (Z1taking (dt.getD k 0) (bs.getD k 0) = Z1) := by rw [hkk, hss]; exact hZ1
        have HSP : Hid (∀ W, Calls Tryz.prog 354 #[.agg #[], .int .i64 kk, .int .i64 s] W fun e w' => e = .returned (.tuple #[.int .i64 S1, .int .i64 Z1]) ∧ Below W.heap.size W w') := fun W => by rw [← hS1, ← hZ1]; exact span_taking kk s W hkb hsb
        have hWz := unhide HWZ
        have HHR : Hid (wr.heap[w.heap.size]? = some (.cells #[] 115 (0, 0))) := (hbut.out.block _ (by omega) (by omega)).trans ((HBL.out.block _ (by omega)).trans HXH.out)
        clear hss hkk hS1 hZ1 hkb hsb hWz
        go_upto_region 5 with fail
        have HKEEP : ∀ wx, But (fun x => x = gf ∨ x = gs) wr wx → wx.cell? ⟨ba, oa + k, none⟩ = some (.int .i64 kk) := fun wx hwx => (hwx.cellAt (by omega) (by omega)).trans ck
        have z2 := HKEEP _ (But.refl _ _)
        have hhr := HHR.out
        have hmeth := meth
        go_region_held3 (fun wx => wx.cell? ⟨ba, oa + k, none⟩ = some (.int .i64 kk)) (first | exact HKEEP _ (But.refl _ _).drew | exact HKEEP _ (But.of_below HKS.out) | exact HKEEP _ ((But.of_below (S := fun x => x = gf ∨ x = gs) HKS.out).setCell (p := ⟨gf, k, none⟩) (.inl rfl) _) | exact HKEEP _ (((But.of_below (S := fun x => x = gf ∨ x = gs) HKS.out).setCell (p := ⟨gf, k, none⟩) (.inl rfl) _).setCell (p := ⟨gs, k, none⟩) (.inr rfl) _))
          (first
          | (go_at_call 354; go_loud (refine (HSP.out _).mono ?_); rintro e wS ⟨rfl, hbS⟩; have HKS : Hid (Below wr.heap.size wr wS) := (Below.refl _ wr).drew.trans hbS; clear hbS z2 hhr; have z2 := HKEEP _ (But.of_below HKS.out); have cf1 := (hf.out.below (Nat.le_refl _) HKS.out).cell (i := k) (by rw [partly_len]; exact hlt); have cf2 := (hf.out.below (Nat.le_refl _) HKS.out).free k; have cs1 := (hs.out.below (Nat.le_refl _) HKS.out).cell (i := k) (by rw [partly_len]; exact hlt); have cs2 := (hs.out.below (Nat.le_refl _) HKS.out).free k))
        all_goals go_wp2_with fail
        all_goals go_roundw
        case rel =>
          have e1 := ((hf.out.below (Nat.le_refl _) HKS.out).set k S1).other (p := ⟨gs, k, none⟩) (by show gf ≠ gs; omega) (.int .i64 Z1)
          have e2 := ((hs.out.below (Nat.le_refl _) HKS.out).other (p := ⟨gf, k, none⟩) (by show gs ≠ gf; omega) (.int .i64 S1)).set k Z1
          rw [partly_set _ _ _ _ _ _ HS1.out] at e1
          rw [partly_set _ _ _ _ _ _ HZ1.out] at e2
          exact ⟨k + 1, by omega, by go_num, e1, e2, (hbut.out.trans (((But.of_below (S := fun x => x = gf ∨ x = gs) HKS.out).setCell (p := ⟨gf, k, none⟩) (.inl rfl) _).setCell (p := ⟨gs, k, none⟩) (.inr rfl) _)).mono (by rintro x (h | h) <;> exact h)⟩
        case measure => simp [intOf]; omega
      · have e : k = L := by omega
        subst k
        have hWz := unhide HWZ
        have HBW : Hid (Below w.heap.size w wr) := HB0.out.trans ((HBL.out.trans (hbut.out.below (by have := HBL.out.size; omega) (by rintro x (rfl | rfl) <;> omega))).mono HB0.out.size)
        have HF : Hid (Blk wr gf (made S1taking dt bs L)) := by have h := hf.out; rw [partly_all] at h; exact h
        have HG : Hid (Blk wr gs (made Z1taking dt bs L)) := by have h := hs.out; rw [partly_all] at h; exact h
        clear hlt hk
        go_wp2_with fail
        go_ret2
        exact ⟨gf, gs, rfl, HF.out, HG.out, by omega, by omega, nfs, HBW.out⟩
end Spanstaking
end Go.Proofs.YtgjpchnkodnieaaGreatDoor
namespace Go.Proofs.YtgjpchnkodnieaaGreatDoor
open Go.RowKit Go.Shelf
def stripOf (dt : List Int) (start step cnt : Nat) : List Int := (List.range cnt).map fun i => dt.getD (start + i * step) 0
end Go.Proofs.YtgjpchnkodnieaaGreatDoor
namespace Go.Proofs.YtgjpchnkodnieaaGreatDoor
open Go.RowKit Go.Shelf
theorem onAxis_int (a : Int) (v : Value) (w : World) (g : Nat) (lb : Array Value) (hv : v = .func (.func g) #[] lb) :
    Calls Tryz.prog 64 #[.int .i64 a, v] w fun e w' => e = .returned (.func (.func 152) #[] #[.pointer (some ⟨w.heap.size, 0, none⟩), .pointer (some ⟨w.heap.size + 1, 0, none⟩)]) ∧ w' = (w.alloc (.cells #[.int .i64 a] 3)).alloc (.cells #[v] 92) := by
  subst hv
  go_enter Tryz.func64, Tryz.ntmps64
  go_wp2
  go_ret
  exact ⟨rfl, rfl⟩
theorem axisAt_int (a : Option Addr) (n cap : Nat) (fl : Bool) (w : World) (hs : n ≤ 10000) (z : Int) (hz : Hid ((if fl then 0 else (n : Int) - 1) = z)) :
    Calls Tryz.prog 62 #[.slice a n cap, .bool fl] w fun e w' => e = .returned (.int .i64 z) ∧ w' = w := by
  cases fl with
  | true =>
    have e : z = 0 := by have := unhide hz; simp at this; omega
    subst e
    clear hz
    go_enter Tryz.func62, Tryz.ntmps62
    go_wp2
    go_ret
    exact ⟨rfl, rfl⟩
  | false =>
    have e : (n : Int) - 1 = z := by have := unhide hz; simpa using this
    have h1 : IntKind.i64.wrap ((n : Int) - 1) = z := by rw [IntKind.wrap_i64]; omega
    clear hz
    go_enter Tryz.func62, Tryz.ntmps62
    go_wp2
    go_ret
    exact ⟨by first | rfl | rw [e], rfl⟩
theorem two_cellsR (w : World) (u v : Value) : ((w.alloc (.cells #[u] 3)).alloc (.cells #[v] 92)).cell? ⟨w.heap.size, 0, none⟩ = some u ∧ ((w.alloc (.cells #[u] 3)).alloc (.cells #[v] 92)).cell? ⟨w.heap.size + 1, 0, none⟩ = some v := by
  have h1 : (w.alloc (.cells #[u] 3)).heap[w.heap.size]? = some (.cells #[u] 3 (0, 0)) := World.alloc_heap_new w _
  have h2 := World.alloc_heap_new (w.alloc (.cells #[u] 3)) (.cells #[v] 92)
  rw [World.size_alloc] at h2
  have h3 := Below.heap_alloc (w.alloc (.cells #[u] 3)) (.cells #[v] 92) w.heap.size (by simp)
  rw [h1] at h3
  exact ⟨by simp [World.cell?, h3], by simp only [World.cell?]; rw [h2]; rfl⟩
end Go.Proofs.YtgjpchnkodnieaaGreatDoor
namespace Go.Proofs.YtgjpchnkodnieaaGreatDoor
open Go.RowKit
structure DG (w : World) (pr p0 p7 : Nat) (c : Bool) (v1 : Value) (wr : World) (l : List Int) (n g cap : Nat) : Prop where
  box : Box wr p7 c v1 (.slice (some ⟨g, 0, none⟩) n cap)
  owns : wr.ownsRow w.heap.size 3 1 (.slice (some ⟨g, 0, none⟩) n cap) n (l.map (Value.int .i64))
  res : Box wr p0 false (.slice none 0 0) (.slice none 0 0)
  rd : RdOk wr pr
  but : But (fun x => x = pr) w wr
  h0 : w.heap.size ≤ p0
  h7 : w.heap.size ≤ p7
  hp : pr < w.heap.size
section
variable {w wr w' : World} {pr p0 p7 n g cap g' cap' : Nat} {c : Bool} {v1 : Value} {l : List Int}
theorem DG.next (h : DG w pr p0 p7 c v1 wr l n g cap) (hb : But (fun x => x = pr) wr w') (hr : RdOk w' pr) : DG w pr p0 p7 c v1 w' l n g cap :=
  ⟨h.box.but hb (by have := h.h7; have := h.hp; omega), owns_but h.owns hb (by have := owns_from h.owns; have := h.hp; omega), h.res.but hb (by have := h.h0; have := h.hp; omega), hr, (h.but.trans hb).mono (by rintro x (h | h) <;> exact h), h.h0, h.h7, h.hp⟩
theorem DG.below (h : DG w pr p0 p7 c v1 wr l n g cap) (hb : Below wr.heap.size wr w') : DG w pr p0 p7 c v1 w' l n g cap := h.next (But.of_below hb) (h.rd.below hb)
theorem DG.push (h : DG w pr p0 p7 c v1 wr l n g cap) {x : Int} {o : Obj} (hown : w'.ownsRow w.heap.size 3 1 (.slice (some ⟨g', 0, none⟩) (n + 1) cap') (n + 1) (l.map (Value.int .i64) ++ [.int .i64 x])) (hg : (wr.alloc o).grownBy w' (Value.ownBlock (.slice (some ⟨g, 0, none⟩) n cap))) :
    Box w' p7 c v1 (.slice (some ⟨g, 0, none⟩) n cap) ∧ DG w pr p0 p7 c v1 (w'.setCell ⟨p7, 2, none⟩ (.slice (some ⟨g', 0, none⟩) (n + 1) cap')) (l ++ [x]) (n + 1) g' cap' := by
  have hg' : (wr.alloc o).grownBy w' (some g) := hg
  have hb6 := h.box.grown h.owns o hg
  have hr6 := h.res.grown h.owns o hg
  obtain ⟨hrd, hbt⟩ := draw_grown h.rd h.but h.hp (owns_from h.owns) hg'
  have hs : But (fun x => x = p7) w' (w'.setCell ⟨p7, 2, none⟩ (.slice (some ⟨g', 0, none⟩) (n + 1) cap')) := (But.refl (fun x => x = p7) w').setCell (p := ⟨p7, 2, none⟩) rfl _
  have hp7 := h.h7
  have hp := h.hp
  have hne : p0 ≠ p7 ∨ p0 = p7 := by omega
  refine ⟨hb6, hb6.set2 _, ?_, ?_, hrd.but hs (by rintro k rfl; omega), ?_, h.h0, h.h7, h.hp⟩
  · rw [List.map_append]
    exact owns_box_set hown hb6 _ _
  · by_cases e : p0 = p7
    · subst e
      exfalso
      have h1 := h.box
      have h2 := h.res
      unfold Box at h1 h2
      rw [h1] at h2
      simp at h2
    · exact hr6.other (by simpa using e) _
  · exact ⟨hbt.os, hbt.tape, hbt.output, by have := hbt.size; simpa using this, fun k hk hn => (heap_setCell_other _ _ k _ (by simp; omega)).trans (hbt.block k hk hn)⟩
end
end Go.Proofs.YtgjpchnkodnieaaGreatDoor
namespace Go.Proofs.YtgjpchnkodnieaaGreatDoor
open Go.RowKit
theorem eqIntS_refl (a b : Option Addr) (n m ca cb : Nat) (xs : List Int) (w : World) (hx : Row w a n xs) (hy : Row w b m xs) :
    Calls Tryz.prog 28 #[.slice a n ca, .slice b m cb] w fun e w' => e = .returned (.bool true) ∧ Below w.heap.size w w' := by
  refine (eqIntS_any a b n m ca cb xs xs w hx hy).mono ?_
  rintro e w' ⟨rfl, q, rfl⟩
  exact ⟨by simp, Below.drewN (Below.refl _ _) _⟩
structure GL3 (U V : World) (k7 g7 c7 k8 g8 c8 k9 g9 c9 : Nat) (F S O : List Int) : Prop where
  o7 : V.ownsRow U.heap.size 3 1 (.slice (some ⟨g7, 0, none⟩) k7 c7) k7 (F.map (Value.int .i64))
  o8 : V.ownsRow U.heap.size 3 1 (.slice (some ⟨g8, 0, none⟩) k8 c8) k8 (S.map (Value.int .i64))
  o9 : V.ownsRow U.heap.size 3 1 (.slice (some ⟨g9, 0, none⟩) k9 c9) k9 (O.map (Value.int .i64))
  n78 : g7 ≠ g8
  n79 : g7 ≠ g9
  n89 : g8 ≠ g9
  low : Below U.heap.size U V
section
variable {U V V' : World} {k7 g7 c7 k8 g8 c8 k9 g9 c9 : Nat} {F S O : List Int} {o : Obj} {g' c' H : Nat} {x : Int}
theorem owns_ltG {B n g cap : Nat} {xs : List Value} (h : V.ownsRow B 3 1 (.slice (some ⟨g, 0, none⟩) n cap) n xs) : g < V.heap.size := owns_lt h rfl
theorem GL3.p7 (h : GL3 U V k7 g7 c7 k8 g8 c8 k9 g9 c9 F S O) (hown : V'.ownsRow U.heap.size 3 1 (.slice (some ⟨g', 0, none⟩) (k7 + 1) c') (k7 + 1) (F.map (Value.int .i64) ++ [.int .i64 x])) (hg : (V.alloc o).grownBy V' (Value.ownBlock (.slice (some ⟨g7, 0, none⟩) k7 c7))) (hat : Value.ownBlock (.slice (some ⟨g7, 0, none⟩) k7 c7) = some g' ∨ g' = H) (hH : V.heap.size < H) :
    GL3 U V' (k7 + 1) g' c' k8 g8 c8 k9 g9 c9 (F ++ [x]) S O := by
  have hb : But (fun y => y = g7) V V' := but_grown (show (V.alloc o).grownBy V' (some g7) from hg)
  have hg' : g' = g7 ∨ g' = H := by rcases hat with h | h; (· have := Option.some.inj (show some g7 = some g' from h); omega); exact .inr h
  have l8 := owns_ltG h.o8
  have l9 := owns_ltG h.o9
  have e7 := owns_from h.o7
  have n1 := h.n78
  have n2 := h.n79
  exact ⟨by rw [List.map_append]; exact hown, owns_but h.o8 hb (by show ¬ g8 = g7; omega), owns_but h.o9 hb (by show ¬ g9 = g7; omega), by omega, by omega, h.n89, h.low.trans (hb.below h.low.size (by rintro y rfl; omega))⟩
theorem GL3.p8 (h : GL3 U V k7 g7 c7 k8 g8 c8 k9 g9 c9 F S O) (hown : V'.ownsRow U.heap.size 3 1 (.slice (some ⟨g', 0, none⟩) (k8 + 1) c') (k8 + 1) (S.map (Value.int .i64) ++ [.int .i64 x])) (hg : (V.alloc o).grownBy V' (Value.ownBlock (.slice (some ⟨g8, 0, none⟩) k8 c8))) (hat : Value.ownBlock (.slice (some ⟨g8, 0, none⟩) k8 c8) = some g' ∨ g' = H) (hH : V.heap.size < H) :
    GL3 U V' k7 g7 c7 (k8 + 1) g' c' k9 g9 c9 F (S ++ [x]) O := by
  have hb : But (fun y => y = g8) V V' := but_grown (show (V.alloc o).grownBy V' (some g8) from hg)
  have hg' : g' = g8 ∨ g' = H := by rcases hat with h | h; (· have := Option.some.inj (show some g8 = some g' from h); omega); exact .inr h
  have l7 := owns_ltG h.o7
  have l9 := owns_ltG h.o9
  have e8 := owns_from h.o8
  have n1 := h.n78
  have n2 := h.n89
  exact ⟨owns_but h.o7 hb (by show ¬ g7 = g8; omega), by rw [List.map_append]; exact hown, owns_but h.o9 hb (by show ¬ g9 = g8; omega), by omega, h.n79, by omega, h.low.trans (hb.below h.low.size (by rintro y rfl; omega))⟩
theorem GL3.p9 (h : GL3 U V k7 g7 c7 k8 g8 c8 k9 g9 c9 F S O) (hown : V'.ownsRow U.heap.size 3 1 (.slice (some ⟨g', 0, none⟩) (k9 + 1) c') (k9 + 1) (O.map (Value.int .i64) ++ [.int .i64 x])) (hg : (V.alloc o).grownBy V' (Value.ownBlock (.slice (some ⟨g9, 0, none⟩) k9 c9))) (hat : Value.ownBlock (.slice (some ⟨g9, 0, none⟩) k9 c9) = some g' ∨ g' = H) (hH : V.heap.size < H) :
    GL3 U V' k7 g7 c7 k8 g8 c8 (k9 + 1) g' c' F S (O ++ [x]) := by
  have hb : But (fun y => y = g9) V V' := but_grown (show (V.alloc o).grownBy V' (some g9) from hg)
  have hg' : g' = g9 ∨ g' = H := by rcases hat with h | h; (· have := Option.some.inj (show some g9 = some g' from h); omega); exact .inr h
  have l7 := owns_ltG h.o7
  have l8 := owns_ltG h.o8
  have e9 := owns_from h.o9
  have n1 := h.n79
  have n2 := h.n89
  exact ⟨owns_but h.o7 hb (by show ¬ g7 = g9; omega), owns_but h.o8 hb (by show ¬ g8 = g9; omega), by rw [List.map_append]; exact hown, h.n78, by omega, by omega, h.low.trans (hb.below h.low.size (by rintro y rfl; omega))⟩
theorem GL3.below (h : GL3 U V k7 g7 c7 k8 g8 c8 k9 g9 c9 F S O) (hb : Below V.heap.size V V') : GL3 U V' k7 g7 c7 k8 g8 c8 k9 g9 c9 F S O :=
  ⟨owns_below h.o7 (Nat.le_refl _) hb, owns_below h.o8 (Nat.le_refl _) hb, owns_below h.o9 (Nat.le_refl _) hb, h.n78, h.n79, h.n89, h.low.trans (hb.mono h.low.size)⟩
theorem GL3.start (U : World) : GL3 U (((U.alloc (.cells #[] 3)).alloc (.cells #[] 3)).alloc (.cells #[] 3)) 0 U.heap.size 0 0 (U.heap.size + 1) 0 0 (U.heap.size + 1 + 1) 0 [] [] [] := by
  have h1 := owns_empty U
  have h2 := owns_empty (U.alloc (.cells #[] 3))
  have h3 := owns_empty ((U.alloc (.cells #[] 3)).alloc (.cells #[] 3))
  simp only [World.size_alloc] at h2 h3
  have b1 : ∀ W : World, Below W.heap.size W (W.alloc (.cells #[] 3)) := fun W => (Below.refl _ _).alloc (Nat.le_refl _) _
  exact ⟨owns_below (owns_below h1 (Nat.le_refl _) (b1 _)) (Nat.le_refl _) (b1 _), owns_mono (owns_below h2 (Nat.le_refl _) (b1 _)) (by omega), owns_mono h3 (by omega), by omega, by omega, by omega, (((Below.refl _ _).alloc (Nat.le_refl _) _).alloc (by simp) _).alloc (by simp; omega) _⟩
theorem own_cellG {w : World} {B g n c k : Nat} {zs : List Int} (h : w.ownsRow B 3 1 (.slice (some ⟨g, 0, none⟩) n c) n (zs.map (Value.int .i64))) (hs : n ≤ 17592186044416) (hk : k < n) : w.cell? ⟨g, k, none⟩ = some (.int .i64 (zs.getD k 0)) := by
  obtain ⟨_, _, ev, ho⟩ := Own.of_owns h hs
  cases ev
  rcases ho.at_ with h0 | ⟨g', off', e, _, _, hc, hf⟩
  · omega
  · cases e
    have h1 := hc k hk
    rwa [Nat.zero_add] at h1
theorem rowG {w : World} {B g n c : Nat} {zs : List Int} (h : w.ownsRow B 3 1 (.slice (some ⟨g, 0, none⟩) n c) n (zs.map (Value.int .i64))) (hs : n ≤ 17592186044416) : Row w (some ⟨g, 0, none⟩) n zs := by
  obtain ⟨_, _, ev, ho⟩ := Own.of_owns h hs
  cases ev
  exact ho.row
end
end Go.Proofs.YtgjpchnkodnieaaGreatDoor
