import Derived.Test.YtadbhidpmihghabImplLays
namespace Go.Proofs.Ytadbhidpmihghab
open Go.RowKit

set_option maxRecDepth 20000 in
set_option maxHeartbeats 4000000 in
theorem picked_any (f : Nat → Int) (k : Nat) (hk : k < 5) (y fr step num : Int) (hy : Hid (f (7 + k) = y)) (hy0 : -10000 ≤ y) (hy1 : y ≤ 10000) (hc0 : -10000 ≤ f 0) (hc1 : f 0 ≤ 10000) (hr0 : -10000 ≤ fr) (hr1 : fr ≤ 10000) (hs0 : -10000 ≤ step) (hs1 : step ≤ 10000) (z1 z2 : Int) (HZ1 : Hid (z1 = fr * y)) (HZ2 : Hid (z2 = y * step)) (w : World) :
    Calls Try.prog 33 #[lay f, .int .i64 k, .int .i64 fr, .int .i64 step, .int .i64 num] w fun e w' => e = .returned (lay (upd (upd (upd f 0 (f 0 + z1)) (7 + k) z2) (2 + k) num)) ∧ Below w.heap.size w w' := by
  obtain ⟨W, hW⟩ : ∃ W, ((w.alloc (objL f)).alloc objZ) = W := ⟨_, rfl⟩
  obtain ⟨B0, B1, hB⟩ := lays2 w f
  rw [hW] at B0 B1 hB
  have hki : (k : Int) < 5 := by omega
  have hk0 : (0 : Int) ≤ k := by omega
  have hcy : W.cell? ⟨w.heap.size, 7 + k, none⟩ = some (.int .i64 y) := by rw [B0.at (by omega), unhide hy]
  have HL := hide B0
  have HZ := hide B1
  have HB := hide hB
  clear B0 B1 hB
  have hzb : -100000000 ≤ z1 ∧ z1 ≤ 100000000 := by rw [unhide HZ1]; exact mul_bd hr0 hr1 hy0 hy1
  have hzc : -100000000 ≤ z2 ∧ z2 ≤ 100000000 := by rw [unhide HZ2]; exact mul_bd hy0 hy1 hs0 hs1
  have hw1 : IntKind.i64.wrap (fr * y) = z1 := by rw [← unhide HZ1, IntKind.wrap_i64]; omega
  have hw2 : IntKind.i64.wrap (f 0 + z1) = f 0 + z1 := by rw [IntKind.wrap_i64]; omega
  have hw3 : IntKind.i64.wrap (y * step) = z2 := by rw [← unhide HZ2, IntKind.wrap_i64]; omega
  have hc0' := (unhide HL).at (i := 0) (by omega)
  have hf0' := (unhide HL).free 0
  go_enter Try.func33, Try.ntmps33
  go_upto_region 1 with fail
  go_cut [] (fun wx => LBox wx w.heap.size (upd f 0 (f 0 + z1)) ∧ But (fun k => k = w.heap.size) W wx)
  case first =>
    as_aux_lemma =>
      go_region
      all_goals go_wp2_with fail
      all_goals go_meet
      all_goals case rel => exact ⟨(unhide HL).set (by omega) _, ((But.refl (fun k => k = w.heap.size) W).setCell (p := ⟨w.heap.size, 0, none⟩) rfl _).drew⟩
  case rest =>
    obtain ⟨w3, hw3⟩ : ∃ x, x = wc := ⟨_, rfl⟩
    subst hw3
    obtain ⟨hq, hbut⟩ := hcut
    have HL3 := hide hq
    have HZ3 := hide ((unhide HZ).but hbut (by show ¬ (w.heap.size + 1 = w.heap.size); omega))
    have HB3 := hide ((unhide HB).trans (hbut.below (B := w.heap.size) (unhide HB).size (fun k hk => by omega)))
    clear hcy hc0' hf0' hq hbut hW HL HZ HB W
    have hcy : w3.cell? ⟨w.heap.size, 7 + k, none⟩ = some (.int .i64 y) := by rw [(unhide HL3).at (by omega)]; unfold upd; rw [if_neg (by omega), unhide hy]
    have hfy := (unhide HL3).free (7 + k)
    have HL4 := hide ((unhide HL3).set (i := 7 + k) (by omega) z2)
    have HZ4 := hide ((unhide HZ3).other (q := ⟨w.heap.size, 7 + k, none⟩) (by show w.heap.size + 1 ≠ w.heap.size; omega) (.int .i64 z2))
    have HB4 := hide ((unhide HB3).setCell (p := ⟨w.heap.size, 7 + k, none⟩) (Nat.le_refl _) (.int .i64 z2))
    go_upto_region 3 with fail
    generalize w3.setCell ⟨w.heap.size, 7 + k, none⟩ (.int .i64 z2) = w4 at *
    clear hcy hfy HL3 HZ3 HB3 w3
    have hcx := (unhide HL4).at (i := 2 + k) (by omega)
    have hfx := (unhide HL4).free (2 + k)
    have HL5 := hide ((unhide HL4).set (i := 2 + k) (by omega) num)
    have HZ5 := hide ((unhide HZ4).other (q := ⟨w.heap.size, 2 + k, none⟩) (by show w.heap.size + 1 ≠ w.heap.size; omega) (.int .i64 num))
    have HB5 := hide ((unhide HB4).setCell (p := ⟨w.heap.size, 2 + k, none⟩) (Nat.le_refl _) (.int .i64 num))
    go_upto_region 4 with fail
    generalize w4.setCell ⟨w.heap.size, 2 + k, none⟩ (.int .i64 num) = w5 at *
    generalize hff : upd (upd (upd f 0 (f 0 + z1)) (7 + k) z2) (2 + k) num = g at *
    have HFF := hide hff
    clear hff hcx hfx HL4 HZ4 HB4 w4
    obtain ⟨x0, x1, x2, x3, x4, x5, x6, x7, x8, x9, x10, x11, y0, y1, y2, y3, y4, y5, y6, y7, y8, y9, y10, y11, xl⟩ := (unhide HL5).all
    obtain ⟨z0, z1, z2, z3, z4, z5, z6, z7, z8, z9, z10, z11, f0, f1, f2, f3, f4, f5, f6, f7, f8, f9, f10, f11, zl⟩ := (unhide HZ5).all
    go_wp2
    refine bodyPost_ret (v := lay g) (by simp [results, Try.results33, go_sem, z0, z1, z2, z3, z4, z5, z6, z7, z8, z9, z10, z11]) rfl ?_
    exact ⟨by rw [← unhide HFF], Below.sets12 (unhide HB5) (by omega) g⟩

theorem picked_fl (c : Int) (sh st : List Int) (f : Nat → Int) (hf : Hid (fl c sh st = f)) (k : Nat) (hk : k < 5) (hks : k < sh.length) (hkt : k < st.length) (y fr step num : Int) (hy : Hid (st.getD k 0 = y)) (hy0 : -10000 ≤ y) (hy1 : y ≤ 10000) (hc0 : -10000 ≤ c) (hc1 : c ≤ 10000) (hr0 : -10000 ≤ fr) (hr1 : fr ≤ 10000) (hs0 : -10000 ≤ step) (hs1 : step ≤ 10000) (g : Nat → Int) (hg : Hid (fl (c + fr * y) (sh.set k num) (st.set k (y * step)) = g)) (w : World) :
    Calls Try.prog 33 #[lay f, .int .i64 k, .int .i64 fr, .int .i64 step, .int .i64 num] w fun e w' => e = .returned (lay g) ∧ Below w.heap.size w w' := by
  have h0 : f 0 = c := by rw [← unhide hf]; rfl
  have e : upd (upd (upd f 0 (f 0 + fr * y)) (7 + k) (y * step)) (2 + k) num = g := by
    rw [h0, ← unhide hf, fl_off, fl_set _ _ _ _ hkt, fl_setl _ _ _ _ hks hk]; exact unhide hg
  have := picked_any f k hk y fr step num (by rw [← unhide hf, ← unhide hy]; exact fl_str c sh st k) hy0 hy1 (by rw [h0]; exact hc0) (by rw [h0]; exact hc1) hr0 hr1 hs0 hs1 _ _ (hide rfl) (hide rfl) w
  rw [e] at this
  exact this

end Go.Proofs.Ytadbhidpmihghab
