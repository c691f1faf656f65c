import Derived.Test.YtadbhidpmihghaaImplHasAx
namespace Go.Proofs.Ytadbhidpmihghaa
open Go.RowKit

set_option maxRecDepth 20000 in
set_option maxHeartbeats 4000000 in
theorem flipped_any (f : Nat → Int) (k : Nat) (hk : k < 5) (x y : Int) (hx : Hid (f (2 + k) = x)) (hy : Hid (f (7 + k) = y)) (hx0 : 0 ≤ x) (hx1 : x ≤ 10000) (hy0 : -10000 ≤ y) (hy1 : y ≤ 10000) (hc0 : -10000 ≤ f 0) (hc1 : f 0 ≤ 10000) (z : Int) (HZ0 : Hid (z = (x - 1) * y)) (w : World) :
    Calls Try.prog 50 #[lay f, .int .i64 k] w fun e w' => e = .returned (lay (if 1 < x then upd (upd f 0 (f 0 + z)) (7 + k) (-y) else f)) ∧ Below w.heap.size w w' := by
  obtain ⟨W, hW⟩ : ∃ W, ((w.alloc (objL f)).alloc objZ) = W := ⟨_, rfl⟩
  obtain ⟨B0, B1, hB⟩ := lays2 w f
  rw [hW] at B0 B1 hB
  have hki : (k : Int) < 5 := by omega
  have hk0 : (0 : Int) ≤ k := by omega
  have hcx : W.cell? ⟨w.heap.size, 2 + k, none⟩ = some (.int .i64 x) := by rw [B0.at (by omega), unhide hx]
  have hcy : W.cell? ⟨w.heap.size, 7 + k, none⟩ = some (.int .i64 y) := by rw [B0.at (by omega), unhide hy]
  have HL := hide B0
  have HZ := hide B1
  have HB := hide hB
  have hz1 := B1.lt
  clear B0 B1 hB hz1
  by_cases h1 : 1 < x
  · have hz := unhide HZ0
    have hzb : -100000000 ≤ z ∧ z ≤ 100000000 := by
      rw [hz]
      have q1 := Int.mul_le_mul_of_nonneg_left hy1 (by omega : 0 ≤ x - 1)
      have q2 := Int.mul_le_mul_of_nonneg_left hy0 (by omega : 0 ≤ x - 1)
      have q3 : (x - 1) * -10000 = -((x - 1) * 10000) := by rw [Int.mul_neg]
      omega
    have hw1 : IntKind.i64.wrap (x - 1) = x - 1 := by rw [IntKind.wrap_i64]; omega
    have hw2 : IntKind.i64.wrap (y * (x - 1)) = z := by rw [Int.mul_comm, ← hz, IntKind.wrap_i64]; omega
    have hw3 : IntKind.i64.wrap (f 0 + z) = f 0 + z := by rw [IntKind.wrap_i64]; omega
    have hw4 : IntKind.i64.wrap (-y) = -y := by rw [IntKind.wrap_i64]; omega
    have hc0' := (unhide HL).at (i := 0) (by omega)
    have hf0' := (unhide HL).free 0
    clear hz
    go_enter Try.func50, Try.ntmps50
    go_upto_region 2 with fail
    go_cut [] (fun wx => LBox wx w.heap.size (upd f 0 (f 0 + z)) ∧ But (fun k => k = w.heap.size) W wx)
    case first =>
      as_aux_lemma =>
        go_region
        all_goals go_wp2_with fail
        all_goals go_meet
        all_goals case rel => exact ⟨(unhide HL).set (by omega) _, ((But.refl (fun k => k = w.heap.size) W).setCell (p := ⟨w.heap.size, 0, none⟩) rfl _).drew⟩
    case rest =>
      obtain ⟨w3, hw3⟩ : ∃ x, x = wc := ⟨_, rfl⟩
      subst hw3
      obtain ⟨hq, hbut⟩ := hcut
      have HL3 := hide hq
      have HZ3 := hide ((unhide HZ).but hbut (by show ¬ (w.heap.size + 1 = w.heap.size); omega))
      have HB3 := hide ((unhide HB).trans (hbut.below (B := w.heap.size) (unhide HB).size (fun k hk => by omega)))
      clear hcx hcy hc0' hf0' hq hbut hW HL HZ HB W
      have hcy : w3.cell? ⟨w.heap.size, 7 + k, none⟩ = some (.int .i64 y) := by rw [(unhide HL3).at (by omega)]; unfold upd; rw [if_neg (by omega), unhide hy]
      have hfy := (unhide HL3).free (7 + k)
      have HL4 := hide ((unhide HL3).set (i := 7 + k) (by omega) (-y))
      have HZ4 := hide ((unhide HZ3).other (q := ⟨w.heap.size, 7 + k, none⟩) (by show w.heap.size + 1 ≠ w.heap.size; omega) (.int .i64 (-y)))
      have HB4 := hide ((unhide HB3).setCell (p := ⟨w.heap.size, 7 + k, none⟩) (Nat.le_refl _) (.int .i64 (-y)))
      go_upto_region 4 with fail
      generalize w3.setCell ⟨w.heap.size, 7 + k, none⟩ (.int .i64 (-y)) = w4 at *
      generalize hff : upd (upd f 0 (f 0 + z)) (7 + k) (-y) = g at *
      have HFF := hide hff
      clear hff hcy hfy HL3 HZ3 HB3 w3
      obtain ⟨x0, x1, x2, x3, x4, x5, x6, x7, x8, x9, x10, x11, y0, y1, y2, y3, y4, y5, y6, y7, y8, y9, y10, y11, xl⟩ := (unhide HL4).all
      obtain ⟨z0, z1, z2, z3, z4, z5, z6, z7, z8, z9, z10, z11, f0, f1, f2, f3, f4, f5, f6, f7, f8, f9, f10, f11, zl⟩ := (unhide HZ4).all
      go_wp2
      refine bodyPost_ret (v := lay g) (by simp [results, Try.results50, go_sem, z0, z1, z2, z3, z4, z5, z6, z7, z8, z9, z10, z11]) rfl ?_
      exact ⟨by rw [← unhide HFF], Below.sets12 (unhide HB4) (by omega) g⟩
  · obtain ⟨x0, x1, x2, x3, x4, x5, x6, x7, x8, x9, x10, x11, y0, y1, y2, y3, y4, y5, y6, y7, y8, y9, y10, y11, xl⟩ := (unhide HL).all
    obtain ⟨z0, z1, z2, z3, z4, z5, z6, z7, z8, z9, z10, z11, f0, f1, f2, f3, f4, f5, f6, f7, f8, f9, f10, f11, zl⟩ := (unhide HZ).all
    go_enter Try.func50, Try.ntmps50
    go_wp2
    refine bodyPost_ret (v := lay f) (by simp [results, Try.results50, go_sem, z0, z1, z2, z3, z4, z5, z6, z7, z8, z9, z10, z11]) rfl ?_
    exact ⟨rfl, Below.sets12 (unhide HB) (by omega) f⟩

end Go.Proofs.Ytadbhidpmihghaa
