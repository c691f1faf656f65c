import Derived.Test.YtgjpchnkodnieaaGreatDoorZv23
import Derived.Test.YtgjpchnkodnieaaGreatDoorZv04
namespace Go.Proofs.YtgjpchnkodnieaaGreatDoor
open Go.RowKit
def bareF (f : Nat → Int) (k : Nat) : Nat → Int := fun i => if 7 ≤ i ∧ i < 7 + k ∧ f (i - 5) = 1 then 0 else f i
theorem bareF_zero (f : Nat → Int) : bareF f 0 = f := by funext i; unfold bareF; rw [if_neg (by omega)]
theorem bareF_one (f : Nat → Int) {k : Nat} (h : f (2 + k) = 1) : upd (bareF f k) (7 + k) 0 = bareF f (k + 1) := by
  funext i
  unfold upd bareF
  by_cases e : i = 7 + k
  · subst e; rw [if_pos rfl, if_pos ⟨by omega, by omega, by rw [show 7 + k - 5 = 2 + k by omega]; exact h⟩]
  · rw [if_neg e]
    by_cases h1 : 7 ≤ i ∧ i < 7 + k ∧ f (i - 5) = 1
    · rw [if_pos h1, if_pos ⟨h1.1, by omega, h1.2.2⟩]
    · rw [if_neg h1, if_neg (fun h2 => h1 ⟨h2.1, by omega, h2.2.2⟩)]
theorem bareF_not (f : Nat → Int) {k : Nat} (h : f (2 + k) ≠ 1) : bareF f k = bareF f (k + 1) := by
  funext i
  unfold bareF
  by_cases h1 : 7 ≤ i ∧ i < 7 + k ∧ f (i - 5) = 1
  · rw [if_pos h1, if_pos ⟨h1.1, by omega, h1.2.2⟩]
  · rw [if_neg h1, if_neg]
    rintro ⟨h2, h3, h4⟩
    by_cases e : i = 7 + k
    · subst e; rw [show 7 + k - 5 = 2 + k by omega] at h4; exact h h4
    · exact h1 ⟨h2, by omega, h4⟩
set_option maxRecDepth 20000 in
set_option maxHeartbeats 8000000 in
theorem bare_any (f : Nat → Int) (w : World) :
    Calls Tryz.prog 278 #[lay f] w fun e w' => e = .returned (lay (bareF f 5)) ∧ Below w.heap.size w w' := by
  obtain ⟨p, hp⟩ : ∃ p, w.heap.size = p := ⟨_, rfl⟩
  obtain ⟨B0, B1, hB⟩ := lays2 w f
  obtain ⟨V, hV⟩ : ∃ V, ((w.alloc (objL f)).alloc objZ) = V := ⟨_, rfl⟩
  rw [hV, hp] at B0 B1 hB
  have hix0 : ∀ w' : World, (Instr.index 99 (.agg #[.int .i64 (f 2), .int .i64 (f 3), .int .i64 (f 4), .int .i64 (f 5), .int .i64 (f 6)]) (.int .i64 0)).run Tryz.prog w' = .ok (.int .i64 (f 2)) w' := fun w' => by kernel_rfl
  have hix1 : ∀ w' : World, (Instr.index 99 (.agg #[.int .i64 (f 2), .int .i64 (f 3), .int .i64 (f 4), .int .i64 (f 5), .int .i64 (f 6)]) (.int .i64 1)).run Tryz.prog w' = .ok (.int .i64 (f 3)) w' := fun w' => by kernel_rfl
  have hix2 : ∀ w' : World, (Instr.index 99 (.agg #[.int .i64 (f 2), .int .i64 (f 3), .int .i64 (f 4), .int .i64 (f 5), .int .i64 (f 6)]) (.int .i64 2)).run Tryz.prog w' = .ok (.int .i64 (f 4)) w' := fun w' => by kernel_rfl
  have hix3 : ∀ w' : World, (Instr.index 99 (.agg #[.int .i64 (f 2), .int .i64 (f 3), .int .i64 (f 4), .int .i64 (f 5), .int .i64 (f 6)]) (.int .i64 3)).run Tryz.prog w' = .ok (.int .i64 (f 5)) w' := fun w' => by kernel_rfl
  have hix4 : ∀ w' : World, (Instr.index 99 (.agg #[.int .i64 (f 2), .int .i64 (f 3), .int .i64 (f 4), .int .i64 (f 5), .int .i64 (f 6)]) (.int .i64 4)).run Tryz.prog w' = .ok (.int .i64 (f 6)) w' := fun w' => by kernel_rfl
  have HWE := hide hV
  have HPE := hide hp
  have HL0 : Hid (LBox V p (bareF f 0)) := by rw [bareF_zero]; exact B0
  have HZ := hide B1
  have HB := hide hB
  obtain ⟨x0, x1, x2, x3, x4, x5, x6, x7, x8, x9, x10, x11, y0, y1, y2, y3, y4, y5, y6, y7, y8, y9, y10, y11, xl⟩ := B0.all
  clear hp hV B0 B1 hB y0 y1 y2 y3 y4 y5 y6 y7 y8 y9 y10 y11
  go_enter Tryz.func278, Tryz.ntmps278
  go_upto_region 1 with fail
  rw [unhide HWE, unhide HPE]
  clear HWE
  go_wp2_with fail
  go_loopw [7] (fun i wr => ∃ k : Nat, k ≤ 5 ∧ i = .int .i64 k ∧ Hid (LBox wr p (bareF f k)) ∧ Hid (But (fun x => x = p) V wr)) (fun i _ => 5 - (intOf i).toNat)
  case atStart => exact ⟨0, by omega, rfl, HL0, hide (But.refl _ _)⟩
  case round =>
    obtain ⟨k, hk, rfl, hb, hbut⟩ := hrel
    clear x0 x1 x2 x3 x4 x5 x6 x7 x8 x9 x10 x11
    by_cases hlt : k < 5
    · have hlr := (unhide hb).lt
      obtain rfl | rfl | rfl | rfl | rfl : k = 0 ∨ k = 1 ∨ k = 2 ∨ k = 3 ∨ k = 4 := by omega
      · by_cases h : f 2 = 1
        · have HN := hide ((unhide hb).set (i := 7) (by omega) 0)
          rw [show (7 : Nat) = 7 + 0 from rfl, bareF_one f (k := 0) h] at HN
          have hfy := (unhide hb).free 7
          have hcy := (unhide hb).at (i := 7) (by omega)
          have hbq : (f 2 == 1) = true := by simp [h]
          clear h
          go_wp2_with fail
          go_roundw
          case rel => exact ⟨1, by omega, by go_num, HN, hide ((unhide hbut).setCell (p := ⟨p, 7, none⟩) rfl _)⟩
          case measure => simp [intOf]
        · have HN : Hid (LBox wr p (bareF f 1)) := by rw [← bareF_not f (k := 0) h]; exact unhide hb
          have hbq : (f 2 == 1) = false := by simp [h]
          clear h
          go_wp2_with fail
          go_roundw
          case rel => exact ⟨1, by omega, by go_num, HN, hbut⟩
          case measure => simp [intOf]
      · by_cases h : f 3 = 1
        · have HN := hide ((unhide hb).set (i := 8) (by omega) 0)
          rw [show (8 : Nat) = 7 + 1 from rfl, bareF_one f (k := 1) h] at HN
          have hfy := (unhide hb).free 8
          have hcy := (unhide hb).at (i := 8) (by omega)
          have hbq : (f 3 == 1) = true := by simp [h]
          clear h
          go_wp2_with fail
          go_roundw
          case rel => exact ⟨2, by omega, by go_num, HN, hide ((unhide hbut).setCell (p := ⟨p, 8, none⟩) rfl _)⟩
          case measure => simp [intOf]
        · have HN : Hid (LBox wr p (bareF f 2)) := by rw [← bareF_not f (k := 1) h]; exact unhide hb
          have hbq : (f 3 == 1) = false := by simp [h]
          clear h
          go_wp2_with fail
          go_roundw
          case rel => exact ⟨2, by omega, by go_num, HN, hbut⟩
          case measure => simp [intOf]
      · by_cases h : f 4 = 1
        · have HN := hide ((unhide hb).set (i := 9) (by omega) 0)
          rw [show (9 : Nat) = 7 + 2 from rfl, bareF_one f (k := 2) h] at HN
          have hfy := (unhide hb).free 9
          have hcy := (unhide hb).at (i := 9) (by omega)
          have hbq : (f 4 == 1) = true := by simp [h]
          clear h
          go_wp2_with fail
          go_roundw
          case rel => exact ⟨3, by omega, by go_num, HN, hide ((unhide hbut).setCell (p := ⟨p, 9, none⟩) rfl _)⟩
          case measure => simp [intOf]
        · have HN : Hid (LBox wr p (bareF f 3)) := by rw [← bareF_not f (k := 2) h]; exact unhide hb
          have hbq : (f 4 == 1) = false := by simp [h]
          clear h
          go_wp2_with fail
          go_roundw
          case rel => exact ⟨3, by omega, by go_num, HN, hbut⟩
          case measure => simp [intOf]
      · by_cases h : f 5 = 1
        · have HN := hide ((unhide hb).set (i := 10) (by omega) 0)
          rw [show (10 : Nat) = 7 + 3 from rfl, bareF_one f (k := 3) h] at HN
          have hfy := (unhide hb).free 10
          have hcy := (unhide hb).at (i := 10) (by omega)
          have hbq : (f 5 == 1) = true := by simp [h]
          clear h
          go_wp2_with fail
          go_roundw
          case rel => exact ⟨4, by omega, by go_num, HN, hide ((unhide hbut).setCell (p := ⟨p, 10, none⟩) rfl _)⟩
          case measure => simp [intOf]
        · have HN : Hid (LBox wr p (bareF f 4)) := by rw [← bareF_not f (k := 3) h]; exact unhide hb
          have hbq : (f 5 == 1) = false := by simp [h]
          clear h
          go_wp2_with fail
          go_roundw
          case rel => exact ⟨4, by omega, by go_num, HN, hbut⟩
          case measure => simp [intOf]
      · by_cases h : f 6 = 1
        · have HN := hide ((unhide hb).set (i := 11) (by omega) 0)
          rw [show (11 : Nat) = 7 + 4 from rfl, bareF_one f (k := 4) h] at HN
          have hfy := (unhide hb).free 11
          have hcy := (unhide hb).at (i := 11) (by omega)
          have hbq : (f 6 == 1) = true := by simp [h]
          clear h
          go_wp2_with fail
          go_roundw
          case rel => exact ⟨5, by omega, by go_num, HN, hide ((unhide hbut).setCell (p := ⟨p, 11, none⟩) rfl _)⟩
          case measure => simp [intOf]
        · have HN : Hid (LBox wr p (bareF f 5)) := by rw [← bareF_not f (k := 4) h]; exact unhide hb
          have hbq : (f 6 == 1) = false := by simp [h]
          clear h
          go_wp2_with fail
          go_roundw
          case rel => exact ⟨5, by omega, by go_num, HN, hbut⟩
          case measure => simp [intOf]
    · obtain rfl : k = 5 := by omega
      have KZ := (unhide HZ).but (unhide hbut) (by show ¬ (p + 1 = p); omega)
      have KB := hide ((unhide HB).trans ((unhide hbut).below (B := p) (by have := (unhide HZ).lt; omega) (fun k hk => by omega)))
      have KL := unhide hb
      generalize hff : bareF f 5 = g at *
      have HFF := hide hff
      obtain ⟨x0, x1, x2, x3, x4, x5, x6, x7, x8, x9, x10, x11, y0, y1, y2, y3, y4, y5, y6, y7, y8, y9, y10, y11, xl⟩ := KL.all
      obtain ⟨z0, z1, z2, z3, z4, z5, z6, z7, z8, z9, z10, z11, f0, f1, f2, f3, f4, f5, f6, f7, f8, f9, f10, f11, zl⟩ := KZ.all
      clear hff KL KZ HZ hb hbut
      go_wp2_with fail
      refine bodyPost_ret (v := lay g) (by simp [results, Tryz.results278, go_sem, z0, z1, z2, z3, z4, z5, z6, z7, z8, z9, z10, z11]) rfl ?_
      exact ⟨by rw [← unhide HFF], by rw [unhide HPE]; exact Below.sets12 (unhide KB) (by omega) g⟩
end Go.Proofs.YtgjpchnkodnieaaGreatDoor
namespace Go.Proofs.YtgjpchnkodnieaaGreatDoor
open Go.RowKit
set_option maxRecDepth 20000 in
set_option maxHeartbeats 1000000 in
theorem count_eq (c : Int) (sh st : List Int) (hs : shapeB sh = true) (f : Nat → Int) (hf : Hid (fl c sh st = f)) (cn : Int) (hc : Hid (countOf sh = cn)) (w : World) :
    Calls Tryz.prog 83 #[lay f] w fun e w' => e = .returned (.int .i64 cn) ∧ Below w.heap.size w w' := by
  obtain ⟨_, h5⟩ := shapeB_in hs
  obtain ⟨n, hn⟩ : ∃ n, sh.length = n := ⟨_, rfl⟩
  rw [hn] at h5
  have HB : Hid (Below w.heap.size w (w.alloc (objL f))) := (Below.refl _ _).alloc (Nat.le_refl _) _
  have HR : Hid (Row (w.alloc (objL f)) (some ⟨w.heap.size, 2, none⟩) n sh) := (LBox.new w f).row sh hn 2 (by omega) (fun i hi => by rw [← unhide hf]; exact fl_len c sh st (by omega))
  have hc1' : (w.alloc (objL f)).cell? ⟨w.heap.size, 1, none⟩ = some (.int .i64 n) := by rw [(LBox.new w f).at (by omega), ← unhide hf, fl_1, hn]
  have h5i : (n : Int) ≤ 5 := by omega
  have h0i : (0 : Int) ≤ n := by omega
  have HC := hide (cellsOf_count (some ⟨w.heap.size, 2, none⟩) n 5 sh (w.alloc (objL f)) (unhide HR) hs cn hc)
  have hlt := (LBox.new w f).lt
  obtain ⟨W, hW⟩ : ∃ W, w.alloc (objL f) = W := ⟨_, rfl⟩
  rw [hW] at HB HC hc1' hlt
  have HWE := hide hW
  clear hs hn hW HR
  go_enter Tryz.func83, Tryz.ntmps83
  go_upto_region 1 with fail
  rw [unhide HWE]
  clear HWE
  go_wp2_with (go_at_call 116; refine (unhide HC).mono ?_; rintro e wq ⟨rfl, hw⟩; obtain rfl := hw.symm)
  go_ret
  exact ⟨rfl, unhide HB⟩
end Go.Proofs.YtgjpchnkodnieaaGreatDoor
namespace Go.Proofs.YtgjpchnkodnieaaGreatDoor
open Go.RowKit
set_option maxHeartbeats 1000000 in
theorem hasAxis_eq (f : Nat → Int) (ax : Int) (h0 : 0 ≤ f 1) (h1 : f 1 ≤ 5) (r : Bool) (hr : Hid (withinB ax 0 (f 1 - 1) = r)) (w : World) :
    Calls Tryz.prog 94 #[lay f, .int .i64 ax] w fun e w' => e = .returned (.bool r) ∧ Below w.heap.size w w' := by
  have hw1 : IntKind.i64.wrap (f 1 - 1) = f 1 - 1 := by rw [IntKind.wrap_i64]; omega
  go_enter Tryz.func94, Tryz.ntmps94
  go_wp2_with (go_at_call 50; refine (isWithin_eq _ _ _ _ r hr).mono ?_; rintro e w' ⟨rfl, rfl⟩)
  go_ret
  exact ⟨rfl, (Below.refl _ _).alloc (Nat.le_refl _) _⟩
end Go.Proofs.YtgjpchnkodnieaaGreatDoor
namespace Go.Proofs.YtgjpchnkodnieaaGreatDoor
open Go.RowKit
set_option maxRecDepth 20000 in
set_option maxHeartbeats 4000000 in
theorem picked_any (f : Nat → Int) (k : Nat) (hk : k < 5) (y fr step num : Int) (hy : Hid (f (7 + k) = y)) (hy0 : -10000 ≤ y) (hy1 : y ≤ 10000) (hc0 : -10000 ≤ f 0) (hc1 : f 0 ≤ 10000) (hr0 : -10000 ≤ fr) (hr1 : fr ≤ 10000) (hs0 : -10000 ≤ step) (hs1 : step ≤ 10000) (z1 z2 : Int) (HZ1 : Hid (z1 = fr * y)) (HZ2 : Hid (z2 = y * step)) (w : World) :
    Calls Tryz.prog 173 #[lay f, .int .i64 k, .int .i64 fr, .int .i64 step, .int .i64 num] w fun e w' => e = .returned (lay (upd (upd (upd f 0 (f 0 + z1)) (7 + k) z2) (2 + k) num)) ∧ Below w.heap.size w w' := by
  obtain ⟨W, hW⟩ : ∃ W, ((w.alloc (objL f)).alloc objZ) = W := ⟨_, rfl⟩
  obtain ⟨B0, B1, hB⟩ := lays2 w f
  rw [hW] at B0 B1 hB
  have hki : (k : Int) < 5 := by omega
  have hk0 : (0 : Int) ≤ k := by omega
  have hcy : W.cell? ⟨w.heap.size, 7 + k, none⟩ = some (.int .i64 y) := by rw [B0.at (by omega), unhide hy]
  have HL := hide B0
  have HZ := hide B1
  have HB := hide hB
  clear B0 B1 hB
  have hzb : -100000000 ≤ z1 ∧ z1 ≤ 100000000 := by rw [unhide HZ1]; exact mul_bd hr0 hr1 hy0 hy1
  have hzc : -100000000 ≤ z2 ∧ z2 ≤ 100000000 := by rw [unhide HZ2]; exact mul_bd hy0 hy1 hs0 hs1
  have hw1 : IntKind.i64.wrap (fr * y) = z1 := by rw [← unhide HZ1, IntKind.wrap_i64]; omega
  have hw2 : IntKind.i64.wrap (f 0 + z1) = f 0 + z1 := by rw [IntKind.wrap_i64]; omega
  have hw3 : IntKind.i64.wrap (y * step) = z2 := by rw [← unhide HZ2, IntKind.wrap_i64]; omega
  have hc0' := (unhide HL).at (i := 0) (by omega)
  have hf0' := (unhide HL).free 0
  go_enter Tryz.func173, Tryz.ntmps173
  go_upto_region 1 with fail
  go_cut [] (fun wx => LBox wx w.heap.size (upd f 0 (f 0 + z1)) ∧ But (fun k => k = w.heap.size) W wx)
  case first =>
    as_aux_lemma =>
      go_region
      all_goals go_wp2_with fail
      all_goals go_meet
      all_goals case rel => exact ⟨(unhide HL).set (by omega) _, ((But.refl (fun k => k = w.heap.size) W).setCell (p := ⟨w.heap.size, 0, none⟩) rfl _).drew⟩
  case rest =>
    obtain ⟨w3, hw3⟩ : ∃ x, x = wc := ⟨_, rfl⟩
    subst hw3
    obtain ⟨hq, hbut⟩ := hcut
    have HL3 := hide hq
    have HZ3 := hide ((unhide HZ).but hbut (by show ¬ (w.heap.size + 1 = w.heap.size); omega))
    have HB3 := hide ((unhide HB).trans (hbut.below (B := w.heap.size) (unhide HB).size (fun k hk => by omega)))
    clear hcy hc0' hf0' hq hbut hW HL HZ HB W
    have hcy : w3.cell? ⟨w.heap.size, 7 + k, none⟩ = some (.int .i64 y) := by rw [(unhide HL3).at (by omega)]; unfold upd; rw [if_neg (by omega), unhide hy]
    have hfy := (unhide HL3).free (7 + k)
    have HL4 := hide ((unhide HL3).set (i := 7 + k) (by omega) z2)
    have HZ4 := hide ((unhide HZ3).other (q := ⟨w.heap.size, 7 + k, none⟩) (by show w.heap.size + 1 ≠ w.heap.size; omega) (.int .i64 z2))
    have HB4 := hide ((unhide HB3).setCell (p := ⟨w.heap.size, 7 + k, none⟩) (Nat.le_refl _) (.int .i64 z2))
    go_upto_region 3 with fail
    generalize w3.setCell ⟨w.heap.size, 7 + k, none⟩ (.int .i64 z2) = w4 at *
    clear hcy hfy HL3 HZ3 HB3 w3
    have hcx := (unhide HL4).at (i := 2 + k) (by omega)
    have hfx := (unhide HL4).free (2 + k)
    have HL5 := hide ((unhide HL4).set (i := 2 + k) (by omega) num)
    have HZ5 := hide ((unhide HZ4).other (q := ⟨w.heap.size, 2 + k, none⟩) (by show w.heap.size + 1 ≠ w.heap.size; omega) (.int .i64 num))
    have HB5 := hide ((unhide HB4).setCell (p := ⟨w.heap.size, 2 + k, none⟩) (Nat.le_refl _) (.int .i64 num))
    go_upto_region 4 with fail
    generalize w4.setCell ⟨w.heap.size, 2 + k, none⟩ (.int .i64 num) = w5 at *
    generalize hff : upd (upd (upd f 0 (f 0 + z1)) (7 + k) z2) (2 + k) num = g at *
    have HFF := hide hff
    clear hff hcx hfx HL4 HZ4 HB4 w4
    obtain ⟨x0, x1, x2, x3, x4, x5, x6, x7, x8, x9, x10, x11, y0, y1, y2, y3, y4, y5, y6, y7, y8, y9, y10, y11, xl⟩ := (unhide HL5).all
    obtain ⟨z0, z1, z2, z3, z4, z5, z6, z7, z8, z9, z10, z11, f0, f1, f2, f3, f4, f5, f6, f7, f8, f9, f10, f11, zl⟩ := (unhide HZ5).all
    go_wp2
    refine bodyPost_ret (v := lay g) (by simp [results, Tryz.results173, go_sem, z0, z1, z2, z3, z4, z5, z6, z7, z8, z9, z10, z11]) rfl ?_
    exact ⟨by rw [← unhide HFF], Below.sets12 (unhide HB5) (by omega) g⟩
theorem picked_fl (c : Int) (sh st : List Int) (f : Nat → Int) (hf : Hid (fl c sh st = f)) (k : Nat) (hk : k < 5) (hks : k < sh.length) (hkt : k < st.length) (y fr step num : Int) (hy : Hid (st.getD k 0 = y)) (hy0 : -10000 ≤ y) (hy1 : y ≤ 10000) (hc0 : -10000 ≤ c) (hc1 : c ≤ 10000) (hr0 : -10000 ≤ fr) (hr1 : fr ≤ 10000) (hs0 : -10000 ≤ step) (hs1 : step ≤ 10000) (g : Nat → Int) (hg : Hid (fl (c + fr * y) (sh.set k num) (st.set k (y * step)) = g)) (w : World) :
    Calls Tryz.prog 173 #[lay f, .int .i64 k, .int .i64 fr, .int .i64 step, .int .i64 num] w fun e w' => e = .returned (lay g) ∧ Below w.heap.size w w' := by
  have h0 : f 0 = c := by rw [← unhide hf]; rfl
  have e : upd (upd (upd f 0 (f 0 + fr * y)) (7 + k) (y * step)) (2 + k) num = g := by
    rw [h0, ← unhide hf, fl_off, fl_set _ _ _ _ hkt, fl_setl _ _ _ _ hks hk]; exact unhide hg
  have := picked_any f k hk y fr step num (by rw [← unhide hf, ← unhide hy]; exact fl_str c sh st k) hy0 hy1 (by rw [h0]; exact hc0) (by rw [h0]; exact hc1) hr0 hr1 hs0 hs1 _ _ (hide rfl) (hide rfl) w
  rw [e] at this
  exact this
end Go.Proofs.YtgjpchnkodnieaaGreatDoor
namespace Go.Proofs.YtgjpchnkodnieaaGreatDoor
open Go.RowKit
theorem low_bd {sh st : List Int} (hs : ∀ k, 0 ≤ sh.getD k 0 ∧ sh.getD k 0 ≤ 10000) (ht : ∀ k, -10000 ≤ st.getD k 0 ∧ st.getD k 0 ≤ 10000) (k : Nat) : -(100000000 * (k : Int)) ≤ lowN sh st k ∧ lowN sh st k ≤ 0 ∧ 0 ≤ highN sh st k ∧ highN sh st k ≤ 100000000 * (k : Int) := by
  induction k with
  | zero => simp [lowN, highN]
  | succ k ih =>
    have h1 := hs k
    have h2 := ht k
    have h3 := mul_bd h2.1 h2.2 (show -10000 ≤ sh.getD k 0 - 1 by omega) (show sh.getD k 0 - 1 ≤ 10000 by omega)
    unfold lowN highN
    split <;> split <;> (push_cast; omega)
set_option maxRecDepth 20000 in
set_option maxHeartbeats 4000000 in
theorem reach_any (c : Int) (sh st : List Int) (hs : ∀ k, 0 ≤ sh.getD k 0 ∧ sh.getD k 0 ≤ 10000) (ht : ∀ k, -10000 ≤ st.getD k 0 ∧ st.getD k 0 ≤ 10000) (h5 : sh.length ≤ 5) (hc0 : -10000 ≤ c) (hc1 : c ≤ 10000) (f : Nat → Int) (hf : Hid (fl c sh st = f)) (w : World) :
    Calls Tryz.prog 84 #[lay f] w fun e w' => e = .returned (.tuple #[.int .i64 (c + lowN sh st sh.length), .int .i64 (c + highN sh st sh.length)]) ∧ Below w.heap.size w w' := by
  obtain ⟨n, hn⟩ : ∃ n, sh.length = n := ⟨_, rfl⟩
  rw [hn] at h5 ⊢
  have HB : Hid (Below w.heap.size w (w.alloc (objL f))) := (Below.refl _ _).alloc (Nat.le_refl _) _
  have HL := hide (LBox.new w f)
  have hc0' : (w.alloc (objL f)).cell? ⟨w.heap.size, 0, none⟩ = some (.int .i64 c) := by rw [(unhide HL).at (by omega), ← unhide hf, fl_0]
  have hc1' : (w.alloc (objL f)).cell? ⟨w.heap.size, 1, none⟩ = some (.int .i64 n) := by rw [(unhide HL).at (by omega), ← unhide hf, fl_1, hn]
  have hlt := (unhide HL).lt
  have h5i : (n : Int) ≤ 5 := by omega
  have h0i : (0 : Int) ≤ n := by omega
  have HSH := hide hs
  have HST := hide ht
  obtain ⟨W, hW⟩ : ∃ W, w.alloc (objL f) = W := ⟨_, rfl⟩
  rw [hW] at HB HL hc0' hc1' hlt
  have HWE := hide hW
  clear hs ht hn hW
  go_enter Tryz.func84, Tryz.ntmps84
  go_upto_region 1 with fail
  rw [unhide HWE]
  clear HWE
  go_quiet (fail)
  go_wp2_with fail
  go_loop [4, 5, 18] (fun a b i => ∃ (k : Nat) (lo hi : Int), k ≤ n ∧ i = .int .i64 k ∧ a = .int .i64 lo ∧ b = .int .i64 hi ∧ Hid (c + lowN sh st k = lo) ∧ Hid (c + highN sh st k = hi)) (fun _ _ i => n - (intOf i).toNat)
  case atStart => exact ⟨0, c, c, Nat.zero_le _, rfl, rfl, rfl, by show _ = _; simp [lowN], by show _ = _; simp [highN]⟩
  case round =>
    obtain ⟨k, lo, hi, hk, rfl, rfl, rfl, hlo, hhi⟩ := hrel
    have hbd := low_bd (unhide HSH) (unhide HST) k
    have hlo' := unhide hlo
    have hhi' := unhide hhi
    have hlb : -600000000 ≤ lo ∧ lo ≤ 10000 := by omega
    have hhb : -10000 ≤ hi ∧ hi ≤ 600000000 := by omega
    clear hbd hlo' hhi'
    by_cases hlt' : k < n
    · obtain ⟨x, hx⟩ : ∃ x, sh.getD k 0 = x := ⟨_, rfl⟩
      obtain ⟨y, hy⟩ : ∃ y, st.getD k 0 = y := ⟨_, rfl⟩
      have hcx : W.cell? ⟨w.heap.size, 2 + k, none⟩ = some (.int .i64 x) := by rw [(unhide HL).at (by omega), ← unhide hf, fl_len _ _ _ (by omega), hx]
      have hcy : W.cell? ⟨w.heap.size, 7 + k, none⟩ = some (.int .i64 y) := by rw [(unhide HL).at (by omega), ← unhide hf, fl_str, hy]
      have hxb := unhide HSH k
      have hyb := unhide HST k
      rw [hx] at hxb
      rw [hy] at hyb
      obtain ⟨z, hz⟩ : ∃ z, z = y * (x - 1) := ⟨_, rfl⟩
      have hzb : -100000000 ≤ z ∧ z ≤ 100000000 := by rw [hz]; exact mul_bd hyb.1 hyb.2 (by omega) (by omega)
      have hw1 : IntKind.i64.wrap (x - 1) = x - 1 := by rw [IntKind.wrap_i64]; omega
      have hw2 : IntKind.i64.wrap (y * (x - 1)) = z := by rw [← hz, IntKind.wrap_i64]; omega
      have hki : (k : Int) < 5 := by omega
      have hk0 : (0 : Int) ≤ k := by omega
      have HLO : Hid (c + lowN sh st (k + 1) = lo + (if z < 0 then z else 0)) := by show _ = _; unfold lowN; rw [hx, hy, ← hz, ← unhide hlo]; omega
      have HHI : Hid (c + highN sh st (k + 1) = hi + (if 0 < z then z else 0)) := by show _ = _; unfold highN; rw [hx, hy, ← hz, ← unhide hhi]; omega
      clear hx hy hz
      rcases Int.lt_trichotomy z 0 with h | h | h
      · have n1 : ¬ 0 < z := by omega
        rw [if_pos h] at HLO
        rw [if_neg n1, Int.add_zero] at HHI
        have hw3 : IntKind.i64.wrap (lo + z) = lo + z := by rw [IntKind.wrap_i64]; omega
        have hw4 : IntKind.i64.wrap (hi + 0) = hi := by rw [IntKind.wrap_i64]; omega
        have hw5 : IntKind.i64.wrap hi = hi := by rw [IntKind.wrap_i64]; omega
        go_wp2_with fail
        go_round
        case rel => exact ⟨k + 1, lo + z, hi, by omega, by go_num, by first | rfl | (congr 1; omega), by first | rfl | (congr 1; omega), HLO, HHI⟩
        case measure => simp [intOf]; omega
      · subst h
        rw [if_neg (by omega), Int.add_zero] at HLO
        rw [if_neg (by omega), Int.add_zero] at HHI
        have hw4 : IntKind.i64.wrap hi = hi := by rw [IntKind.wrap_i64]; omega
        have hw5 : IntKind.i64.wrap lo = lo := by rw [IntKind.wrap_i64]; omega
        go_wp2_with fail
        go_round
        case rel => exact ⟨k + 1, lo, hi, by omega, by go_num, by first | rfl | (congr 1; omega), by first | rfl | (congr 1; omega), HLO, HHI⟩
        case measure => simp [intOf]; omega
      · have n1 : ¬ z < 0 := by omega
        rw [if_neg n1, Int.add_zero] at HLO
        rw [if_pos h] at HHI
        have hw3 : IntKind.i64.wrap (hi + z) = hi + z := by rw [IntKind.wrap_i64]; omega
        have hw5 : IntKind.i64.wrap lo = lo := by rw [IntKind.wrap_i64]; omega
        go_wp2_with fail
        go_round
        case rel => exact ⟨k + 1, lo, hi + z, by omega, by go_num, by first | rfl | (congr 1; omega), by first | rfl | (congr 1; omega), HLO, HHI⟩
        case measure => simp [intOf]; omega
    · obtain rfl : k = n := by omega
      go_wp2_with fail
      refine bodyPost_ret (v := .tuple #[.int .i64 lo, .int .i64 hi]) (by simp [results, Tryz.results84, go_sem]) rfl ?_
      exact ⟨ret_two (unhide hlo).symm (unhide hhi).symm, Below.drewN (unhide HB) _⟩
end Go.Proofs.YtgjpchnkodnieaaGreatDoor
namespace Go.Proofs.YtgjpchnkodnieaaGreatDoor
open Go.RowKit
def spreadF (f : Nat → Int) (off d : Int) (k : Nat) : Nat → Int := fun i => if i = 0 then off else if 7 ≤ i ∧ i < 7 + k then f i * d else f i
theorem spreadF_step (f : Nat → Int) (off d : Int) (k : Nat) : upd (spreadF f off d k) (7 + k) (f (7 + k) * d) = spreadF f off d (k + 1) := by
  funext i
  unfold upd spreadF
  by_cases h : i = 7 + k
  · subst h; rw [if_pos rfl, if_neg (by omega), if_pos ⟨by omega, by omega⟩]
  · rw [if_neg h]
    by_cases h0 : i = 0
    · rw [if_pos h0, if_pos h0]
    · rw [if_neg h0, if_neg h0]
      by_cases h1 : 7 ≤ i ∧ i < 7 + k
      · rw [if_pos h1, if_pos ⟨h1.1, by omega⟩]
      · rw [if_neg h1, if_neg (by omega)]
theorem spread_fl (c off d : Int) (sh st : List Int) (i : Nat) (hi : i < 12) : spreadF (fl c sh st) off d 5 i = fl off sh (st.map (· * d)) i := by
  unfold spreadF fl
  by_cases h0 : i = 0
  · rw [if_pos h0, if_pos h0]
  · rw [if_neg h0, if_neg h0, if_neg h0]
    by_cases h7 : i < 7
    · rw [if_neg (by omega), if_pos h7, if_pos h7]
    · rw [if_pos ⟨by omega, by omega⟩, if_neg (by omega), if_neg h7, if_neg (by omega), if_neg h7]
      by_cases hk : i - 7 < st.length
      · simp [List.getD, hk]
      · rw [getD_long (zs := st) (by omega), getD_long (zs := st.map (· * d)) (by simp; omega)]; simp
set_option maxRecDepth 20000 in
set_option maxHeartbeats 4000000 in
theorem spread_any (f : Nat → Int) (off d : Int) (hf : ∀ k, k < 5 → -10000 ≤ f (7 + k) ∧ f (7 + k) ≤ 10000) (hd0 : -10000 ≤ d) (hd1 : d ≤ 10000) (w : World) :
    Calls Tryz.prog 231 #[lay f, .int .i64 off, .int .i64 d] w fun e w' => e = .returned (lay (spreadF f off d 5)) ∧ Below w.heap.size w w' := by
  obtain ⟨p, hp⟩ : ∃ p, w.heap.size = p := ⟨_, rfl⟩
  obtain ⟨B0, B1, hB⟩ := lays2 w f
  obtain ⟨W, hW⟩ : ∃ W, ((w.alloc (objL f)).alloc objZ) = W := ⟨_, rfl⟩
  rw [hW] at B0 B1 hB
  have hf0' := B0.free 0
  have hc0' := B0.at (i := 0) (by omega)
  have HL := hide (B0.set (i := 0) (by omega) off)
  have HZ := hide (B1.other (q := ⟨w.heap.size, 0, none⟩) (by show w.heap.size + 1 ≠ w.heap.size; omega) (.int .i64 off))
  have HB := hide (hB.setCell (p := ⟨w.heap.size, 0, none⟩) (Nat.le_refl _) (.int .i64 off))
  have hl0 := B0.lt
  have HFB := hide hf
  have HWE := hide hW
  have HPE := hide hp
  clear hf hW B0 B1 hB hp
  go_enter Tryz.func231, Tryz.ntmps231
  go_upto_region 1 with fail
  rw [unhide HWE]
  clear HWE
  go_upto_region 2 with fail
  clear hf0' hc0' hl0
  generalize W.setCell ⟨w.heap.size, 0, none⟩ (.int .i64 off) = V at *
  rw [unhide HPE] at HL HZ HB ⊢
  have HL0 : Hid (LBox V p (spreadF f off d 0)) := (unhide HL).congr (fun i _ => by unfold upd spreadF; by_cases h : i = 0 <;> simp [h]; omega)
  clear HL
  go_wp2_with fail
  go_loopw [10] (fun i wr => ∃ k : Nat, k ≤ 5 ∧ i = .int .i64 k ∧ Hid (LBox wr p (spreadF f off d k)) ∧ Hid (But (fun x => x = p) V wr)) (fun i _ => 5 - (intOf i).toNat)
  case atStart => exact ⟨0, by omega, rfl, HL0, hide (But.refl _ _)⟩
  case round =>
    obtain ⟨k, hk, rfl, hb, hbut⟩ := hrel
    by_cases hlt : k < 5
    · obtain ⟨y, hy⟩ : ∃ y, f (7 + k) = y := ⟨_, rfl⟩
      have hyb := unhide HFB k hlt
      rw [hy] at hyb
      have hcy : wr.cell? ⟨p, 7 + k, none⟩ = some (.int .i64 y) := by rw [(unhide hb).at (by omega)]; unfold spreadF; rw [if_neg (by omega), if_neg (by omega), hy]
      have hfy := (unhide hb).free (7 + k)
      obtain ⟨z, hz⟩ : ∃ z, z = y * d := ⟨_, rfl⟩
      have hzb : -100000000 ≤ z ∧ z ≤ 100000000 := by rw [hz]; exact mul_bd hyb.1 hyb.2 hd0 hd1
      have hw1 : IntKind.i64.wrap (y * d) = z := by rw [← hz, IntKind.wrap_i64]; omega
      have hlr := (unhide hb).lt
      have HN := hide ((unhide hb).set (i := 7 + k) (by omega) z)
      rw [hz, ← hy, spreadF_step, hy, ← hz] at HN
      have hki : (k : Int) < 5 := by omega
      have hk0 : (0 : Int) ≤ k := by omega
      clear hy hz
      go_wp2_with fail
      go_roundw
      case rel => exact ⟨k + 1, by omega, by go_num, HN, hide ((unhide hbut).setCell (p := ⟨p, 7 + k, none⟩) rfl _)⟩
      case measure => (simp [intOf] <;> omega)
    · obtain rfl : k = 5 := by omega
      have KZ := (unhide HZ).but (unhide hbut) (by show ¬ (p + 1 = p); omega)
      have KB := hide ((unhide HB).trans ((unhide hbut).below (B := p) (by have := (unhide HZ).lt; omega) (fun k hk => by omega)))
      have KL := unhide hb
      generalize hff : spreadF f off d 5 = g at *
      have HFF := hide hff
      obtain ⟨x0, x1, x2, x3, x4, x5, x6, x7, x8, x9, x10, x11, y0, y1, y2, y3, y4, y5, y6, y7, y8, y9, y10, y11, xl⟩ := KL.all
      obtain ⟨z0, z1, z2, z3, z4, z5, z6, z7, z8, z9, z10, z11, f0, f1, f2, f3, f4, f5, f6, f7, f8, f9, f10, f11, zl⟩ := KZ.all
      clear hff KL KZ HZ hb hbut
      go_wp2_with fail
      refine bodyPost_ret (v := lay g) (by simp [results, Tryz.results231, go_sem, z0, z1, z2, z3, z4, z5, z6, z7, z8, z9, z10, z11]) rfl ?_
      exact ⟨by rw [← unhide HFF], by rw [unhide HPE]; exact Below.sets12 (unhide KB) (by omega) g⟩
end Go.Proofs.YtgjpchnkodnieaaGreatDoor
