import Derived.Test.YtngbmcljhcckmaaImplSpan
import Derived.Test.YtngbmcljhcckmaaMFirst
import Derived.Deep.RegionHeld3
import Derived.Deep.DeepCutAuto
import Derived.RangeFuncRecord
namespace Go.Proofs.Ytngbmcljhcckmaa
open Go.RowKit Go.Shelf

namespace Spansdropping

theorem meth : ∀ w, (method 266 87 (.agg #[]) "loop.example/s02542/impl.span").run Try.prog w = .ok (145, .agg #[]) w := by intro w; kernel_rfl

theorem blk_made {W : World} {g L : Nat} (h : W.heap[g]? = some (.cells (madeCells #[.int .i64 0] L) 3 (0, 0))) : Blk W g (List.replicate L 0) := by
  rw [madeList] at h
  unfold Blk
  rw [h]
  simp

/-- Two new lists of zeros. -/
def TwoNew (W : World) (L : Nat) (v8 v9 : Value) (wx : World) : Prop :=
  ∃ gf gs, v8 = .slice (some ⟨gf, 0, none⟩) L L ∧ v9 = .slice (some ⟨gs, 0, none⟩) L L ∧ Blk wx gf (List.replicate L 0) ∧ Blk wx gs (List.replicate L 0) ∧ W.heap.size ≤ gf ∧ W.heap.size ≤ gs ∧ gf ≠ gs ∧ Below W.heap.size W wx

theorem a2_0 (w : World) (o0 o1 : Obj) : ((w.alloc o0).alloc o1).drew.heap[w.heap.size]? = some o0 := (Below.heap_alloc _ _ _ (by simp)).trans (World.alloc_heap_new w o0)
theorem a2_1 (w : World) (o0 o1 : Obj) : ((w.alloc o0).alloc o1).drew.heap[w.heap.size + 1]? = some o1 := by have := World.alloc_heap_new (w.alloc o0) o1; rwa [World.size_alloc] at this
theorem a2_b (w : World) (o0 o1 : Obj) : Below w.heap.size w ((w.alloc o0).alloc o1).drew := (((Below.refl _ w).alloc (Nat.le_refl _) _).alloc (by simp) _).drew

theorem two_new {W wx : World} {L gf gs : Nat} (h2 : wx.heap[gf]? = some (.cells (madeCells #[.int .i64 0] L) 3 (0, 0))) (h3 : wx.heap[gs]? = some (.cells (madeCells #[.int .i64 0] L) 3 (0, 0))) (b1 : W.heap.size ≤ gf) (b2 : W.heap.size ≤ gs) (b3 : gf ≠ gs) (hb : Below W.heap.size W wx) :
    TwoNew W L (.slice (some ⟨gf, 0, none⟩) L L) (.slice (some ⟨gs, 0, none⟩) L L) wx := ⟨gf, gs, rfl, rfl, blk_made h2, blk_made h3, b1, b2, b3, hb⟩

set_option maxRecDepth 20000 in
set_option maxHeartbeats 4000000 in
theorem any (a2 sa : Option Addr) (L c2 ca : Nat) (dt bs : List Int) (w : World) (h2 : Row w a2 L dt) (hr : Row w sa L bs) (hL : L ≤ 10000) (hdb : ∀ k, k < L → -1000000000000000 ≤ dt.getD k 0 ∧ dt.getD k 0 ≤ 1000000000000000) (hsb : ∀ k, 0 ≤ bs.getD k 0 ∧ bs.getD k 0 ≤ 10000) :
    Calls Try.prog 103 #[.agg #[], .slice a2 L c2, .slice sa L ca] w fun e w' => ∃ gf gs, e = .returned (.tuple #[.slice (some ⟨gf, 0, none⟩) L L, .slice (some ⟨gs, 0, none⟩) L L]) ∧ Blk w' gf (made S1dropping dt bs L) ∧ Blk w' gs (made Z1dropping dt bs L) ∧ w.heap.size ≤ gf ∧ w.heap.size ≤ gs ∧ gf ≠ gs ∧ Below w.heap.size w w' := by
  obtain ⟨W, hW⟩ : ∃ W, W = w.alloc (.cells #[] 87) := ⟨_, rfl⟩
  have HXH : Hid (W.heap[w.heap.size]? = some (.cells #[] 87 (0, 0))) := by rw [hW]; exact World.alloc_heap_new w _
  have HB0 : Hid (Below w.heap.size w W) := by rw [hW]; exact (Below.refl _ w).alloc (Nat.le_refl _) _
  have hWz : W.heap.size = w.heap.size + 1 := by rw [hW]; simp
  have HWZ := hide hWz
  have H2 := hide (h2.below (Nat.le_refl _) (unhide HB0))
  have HR := hide (hr.below (Nat.le_refl _) (unhide HB0))
  have HDB := hide hdb
  have HSB := hide hsb
  have hmk := run_make_row' (P := Try.prog) 22 3 (.int .i64 0) 8 Try.underlying22 info_int rfl .i64 .i64 L (by omega) (by omega)
  clear h2 hr hdb hsb hWz
  go_enter Try.func103, Try.ntmps103
  go_upto_region 1 with fail
  rw [← hW]
  clear hW
  go_cut [8, 9] (fun v8 v9 wx => TwoNew W L v8 v9 wx)
  case first => as_aux_lemma =>
    go_region
    all_goals go_wp2_with fail
    all_goals (go_meet; case rel => first | exact two_new (a2_0 _ _ _) (a2_1 _ _ _) (by omega) (by omega) (by omega) (a2_b _ _ _) | exact two_new (a2_1 _ _ _) (a2_0 _ _ _) (by omega) (by omega) (by omega) (a2_b _ _ _))
  case rest =>
    obtain ⟨w3, hw3⟩ : ∃ x, x = wc := ⟨_, rfl⟩
    subst hw3
    obtain ⟨gf, gs, rfl, rfl, hgf, hgs, bgf, bgs, nfs, hbl⟩ := hcut
    have HGF : Hid (Blk w3 gf (partly S1dropping dt bs L 0)) := by show Blk _ _ _; rw [partly_zero]; exact hgf
    have HGS : Hid (Blk w3 gs (partly Z1dropping dt bs L 0)) := by show Blk _ _ _; rw [partly_zero]; exact hgs
    have HBL := hide hbl
    clear hgf hgs hbl hmk
    go_wp2_with fail
    go_loopw [20] (fun i wr => ∃ k : Nat, k ≤ L ∧ i = .int .i64 (k : Nat) ∧ Hid (Blk wr gf (partly S1dropping dt bs L k)) ∧ Hid (Blk wr gs (partly Z1dropping dt bs L k)) ∧ Hid (But (fun x => x = gf ∨ x = gs) w3 wr)) (fun i _ => L - (intOf i).toNat)
    case atStart => exact ⟨0, Nat.zero_le _, rfl, HGF, HGS, hide (But.refl _ _)⟩
    case round =>
      obtain ⟨k, hk, rfl, hf, hs, hbut⟩ := hrel
      by_cases hlt : k < L
      · have hzr := hbut.out.size
        have hz3 := HBL.out.size
        obtain ⟨bb, ob, hbb, hbl1, cs⟩ := (hbut.out.row (HR.out.below (Nat.le_refl _) HBL.out) (by rintro x (rfl | rfl) h <;> have := HR.out.hi h <;> omega)).get hlt
        obtain ⟨ba, oa, hba, hbl2, ck⟩ := (hbut.out.row (H2.out.below (Nat.le_refl _) HBL.out) (by rintro x (rfl | rfl) h <;> have := H2.out.hi h <;> omega)).get hlt
        have hbaw : ba < W.heap.size := H2.out.hi ⟨by omega, _, hba, rfl⟩
        cases hbb
        cases hba
        obtain ⟨s, hss⟩ : ∃ s, bs.getD k 0 = s := ⟨_, rfl⟩
        obtain ⟨kk, hkk⟩ : ∃ kk, dt.getD k 0 = kk := ⟨_, rfl⟩
        rw [hss] at cs
        rw [hkk] at ck
        have hkb : -1000000000000000 ≤ kk ∧ kk ≤ 1000000000000000 := by rw [← hkk]; exact HDB.out k hlt
        have hsb : 0 ≤ s ∧ s ≤ 10000 := by rw [← hss]; exact HSB.out k
        obtain ⟨S1, hS1⟩ : ∃ S1, S1dropping kk s = S1 := ⟨_, rfl⟩
        obtain ⟨Z1, hZ1⟩ : ∃ Z1, Z1dropping kk s = Z1 := ⟨_, rfl⟩
        have HS1 : Hid (S1dropping (dt.getD k 0) (bs.getD k 0) = S1) := by rw [hkk, hss]; exact hS1
        have HZ1 : Hid (Z1dropping (dt.getD k 0) (bs.getD k 0) = Z1) := by rw [hkk, hss]; exact hZ1
        have HSP : Hid (∀ W, Calls Try.prog 145 #[.agg #[], .int .i64 kk, .int .i64 s] W fun e w' => e = .returned (.tuple #[.int .i64 S1, .int .i64 Z1]) ∧ Below W.heap.size W w') := fun W => by rw [← hS1, ← hZ1]; exact span_dropping kk s W hkb hsb
        have hWz := unhide HWZ
        have HHR : Hid (wr.heap[w.heap.size]? = some (.cells #[] 87 (0, 0))) := (hbut.out.block _ (by omega) (by omega)).trans ((HBL.out.block _ (by omega)).trans HXH.out)
        clear hss hkk hS1 hZ1 hkb hsb hWz
        go_upto_region 5 with fail
        have HKEEP : ∀ wx, But (fun x => x = gf ∨ x = gs) wr wx → wx.cell? ⟨ba, oa + k, none⟩ = some (.int .i64 kk) := fun wx hwx => (hwx.cellAt (by omega) (by omega)).trans ck
        have z2 := HKEEP _ (But.refl _ _)
        have hhr := HHR.out
        have hmeth := meth
        go_region_held3 (fun wx => wx.cell? ⟨ba, oa + k, none⟩ = some (.int .i64 kk)) (first | exact HKEEP _ (But.refl _ _).drew | exact HKEEP _ (But.of_below HKS.out) | exact HKEEP _ ((But.of_below (S := fun x => x = gf ∨ x = gs) HKS.out).setCell (p := ⟨gf, k, none⟩) (.inl rfl) _) | exact HKEEP _ (((But.of_below (S := fun x => x = gf ∨ x = gs) HKS.out).setCell (p := ⟨gf, k, none⟩) (.inl rfl) _).setCell (p := ⟨gs, k, none⟩) (.inr rfl) _))
          (first
          | (go_at_call 145; go_loud (refine (HSP.out _).mono ?_); rintro e wS ⟨rfl, hbS⟩; have HKS : Hid (Below wr.heap.size wr wS) := (Below.refl _ wr).drew.trans hbS; clear hbS z2 hhr; have z2 := HKEEP _ (But.of_below HKS.out); have cf1 := (hf.out.below (Nat.le_refl _) HKS.out).cell (i := k) (by rw [partly_len]; exact hlt); have cf2 := (hf.out.below (Nat.le_refl _) HKS.out).free k; have cs1 := (hs.out.below (Nat.le_refl _) HKS.out).cell (i := k) (by rw [partly_len]; exact hlt); have cs2 := (hs.out.below (Nat.le_refl _) HKS.out).free k))
        all_goals go_wp2_with fail
        all_goals go_roundw
        case rel =>
          have e1 := ((hf.out.below (Nat.le_refl _) HKS.out).set k S1).other (p := ⟨gs, k, none⟩) (by show gf ≠ gs; omega) (.int .i64 Z1)
          have e2 := ((hs.out.below (Nat.le_refl _) HKS.out).other (p := ⟨gf, k, none⟩) (by show gs ≠ gf; omega) (.int .i64 S1)).set k Z1
          rw [partly_set _ _ _ _ _ _ HS1.out] at e1
          rw [partly_set _ _ _ _ _ _ HZ1.out] at e2
          exact ⟨k + 1, by omega, by go_num, e1, e2, (hbut.out.trans (((But.of_below (S := fun x => x = gf ∨ x = gs) HKS.out).setCell (p := ⟨gf, k, none⟩) (.inl rfl) _).setCell (p := ⟨gs, k, none⟩) (.inr rfl) _)).mono (by rintro x (h | h) <;> exact h)⟩
        case measure => simp [intOf]; omega
      · have e : k = L := by omega
        subst k
        have hWz := unhide HWZ
        have HBW : Hid (Below w.heap.size w wr) := HB0.out.trans ((HBL.out.trans (hbut.out.below (by have := HBL.out.size; omega) (by rintro x (rfl | rfl) <;> omega))).mono HB0.out.size)
        have HF : Hid (Blk wr gf (made S1dropping dt bs L)) := by have h := hf.out; rw [partly_all] at h; exact h
        have HG : Hid (Blk wr gs (made Z1dropping dt bs L)) := by have h := hs.out; rw [partly_all] at h; exact h
        clear hlt hk
        go_wp2_with fail
        go_ret2
        exact ⟨gf, gs, rfl, HF.out, HG.out, by omega, by omega, nfs, HBW.out⟩

end Spansdropping

end Go.Proofs.Ytngbmcljhcckmaa
