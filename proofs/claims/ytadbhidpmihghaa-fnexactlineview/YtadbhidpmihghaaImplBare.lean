import Derived.Test.YtadbhidpmihghaaImplLays
namespace Go.Proofs.Ytadbhidpmihghaa
open Go.RowKit

def bareF (f : Nat → Int) (k : Nat) : Nat → Int := fun i => if 7 ≤ i ∧ i < 7 + k ∧ f (i - 5) = 1 then 0 else f i

theorem bareF_zero (f : Nat → Int) : bareF f 0 = f := by funext i; unfold bareF; rw [if_neg (by omega)]
theorem bareF_one (f : Nat → Int) {k : Nat} (h : f (2 + k) = 1) : upd (bareF f k) (7 + k) 0 = bareF f (k + 1) := by
  funext i
  unfold upd bareF
  by_cases e : i = 7 + k
  · subst e; rw [if_pos rfl, if_pos ⟨by omega, by omega, by rw [show 7 + k - 5 = 2 + k by omega]; exact h⟩]
  · rw [if_neg e]
    by_cases h1 : 7 ≤ i ∧ i < 7 + k ∧ f (i - 5) = 1
    · rw [if_pos h1, if_pos ⟨h1.1, by omega, h1.2.2⟩]
    · rw [if_neg h1, if_neg (fun h2 => h1 ⟨h2.1, by omega, h2.2.2⟩)]
theorem bareF_not (f : Nat → Int) {k : Nat} (h : f (2 + k) ≠ 1) : bareF f k = bareF f (k + 1) := by
  funext i
  unfold bareF
  by_cases h1 : 7 ≤ i ∧ i < 7 + k ∧ f (i - 5) = 1
  · rw [if_pos h1, if_pos ⟨h1.1, by omega, h1.2.2⟩]
  · rw [if_neg h1, if_neg]
    rintro ⟨h2, h3, h4⟩
    by_cases e : i = 7 + k
    · subst e; rw [show 7 + k - 5 = 2 + k by omega] at h4; exact h h4
    · exact h1 ⟨h2, by omega, h4⟩

set_option maxRecDepth 20000 in
set_option maxHeartbeats 8000000 in
theorem bare_any (f : Nat → Int) (w : World) :
    Calls Try.prog 60 #[lay f] w fun e w' => e = .returned (lay (bareF f 5)) ∧ Below w.heap.size w w' := by
  obtain ⟨p, hp⟩ : ∃ p, w.heap.size = p := ⟨_, rfl⟩
  obtain ⟨B0, B1, hB⟩ := lays2 w f
  obtain ⟨V, hV⟩ : ∃ V, ((w.alloc (objL f)).alloc objZ) = V := ⟨_, rfl⟩
  rw [hV, hp] at B0 B1 hB
  have hix0 : ∀ w' : World, (Instr.index 45 (.agg #[.int .i64 (f 2), .int .i64 (f 3), .int .i64 (f 4), .int .i64 (f 5), .int .i64 (f 6)]) (.int .i64 0)).run Try.prog w' = .ok (.int .i64 (f 2)) w' := fun w' => by kernel_rfl
  have hix1 : ∀ w' : World, (Instr.index 45 (.agg #[.int .i64 (f 2), .int .i64 (f 3), .int .i64 (f 4), .int .i64 (f 5), .int .i64 (f 6)]) (.int .i64 1)).run Try.prog w' = .ok (.int .i64 (f 3)) w' := fun w' => by kernel_rfl
  have hix2 : ∀ w' : World, (Instr.index 45 (.agg #[.int .i64 (f 2), .int .i64 (f 3), .int .i64 (f 4), .int .i64 (f 5), .int .i64 (f 6)]) (.int .i64 2)).run Try.prog w' = .ok (.int .i64 (f 4)) w' := fun w' => by kernel_rfl
  have hix3 : ∀ w' : World, (Instr.index 45 (.agg #[.int .i64 (f 2), .int .i64 (f 3), .int .i64 (f 4), .int .i64 (f 5), .int .i64 (f 6)]) (.int .i64 3)).run Try.prog w' = .ok (.int .i64 (f 5)) w' := fun w' => by kernel_rfl
  have hix4 : ∀ w' : World, (Instr.index 45 (.agg #[.int .i64 (f 2), .int .i64 (f 3), .int .i64 (f 4), .int .i64 (f 5), .int .i64 (f 6)]) (.int .i64 4)).run Try.prog w' = .ok (.int .i64 (f 6)) w' := fun w' => by kernel_rfl
  have HWE := hide hV
  have HPE := hide hp
  have HL0 : Hid (LBox V p (bareF f 0)) := by rw [bareF_zero]; exact B0
  have HZ := hide B1
  have HB := hide hB
  obtain ⟨x0, x1, x2, x3, x4, x5, x6, x7, x8, x9, x10, x11, y0, y1, y2, y3, y4, y5, y6, y7, y8, y9, y10, y11, xl⟩ := B0.all
  clear hp hV B0 B1 hB y0 y1 y2 y3 y4 y5 y6 y7 y8 y9 y10 y11
  go_enter Try.func60, Try.ntmps60
  go_upto_region 1 with fail
  rw [unhide HWE, unhide HPE]
  clear HWE
  go_wp2_with fail
  go_loopw [7] (fun i wr => ∃ k : Nat, k ≤ 5 ∧ i = .int .i64 k ∧ Hid (LBox wr p (bareF f k)) ∧ Hid (But (fun x => x = p) V wr)) (fun i _ => 5 - (intOf i).toNat)
  case atStart => exact ⟨0, by omega, rfl, HL0, hide (But.refl _ _)⟩
  case round =>
    obtain ⟨k, hk, rfl, hb, hbut⟩ := hrel
    clear x0 x1 x2 x3 x4 x5 x6 x7 x8 x9 x10 x11
    by_cases hlt : k < 5
    · have hlr := (unhide hb).lt
      obtain rfl | rfl | rfl | rfl | rfl : k = 0 ∨ k = 1 ∨ k = 2 ∨ k = 3 ∨ k = 4 := by omega
      · by_cases h : f 2 = 1
        · have HN := hide ((unhide hb).set (i := 7) (by omega) 0)
          rw [show (7 : Nat) = 7 + 0 from rfl, bareF_one f (k := 0) h] at HN
          have hfy := (unhide hb).free 7
          have hcy := (unhide hb).at (i := 7) (by omega)
          have hbq : (f 2 == 1) = true := by simp [h]
          clear h
          go_wp2_with fail
          go_roundw
          case rel => exact ⟨1, by omega, by go_num, HN, hide ((unhide hbut).setCell (p := ⟨p, 7, none⟩) rfl _)⟩
          case measure => simp [intOf]
        · have HN : Hid (LBox wr p (bareF f 1)) := by rw [← bareF_not f (k := 0) h]; exact unhide hb
          have hbq : (f 2 == 1) = false := by simp [h]
          clear h
          go_wp2_with fail
          go_roundw
          case rel => exact ⟨1, by omega, by go_num, HN, hbut⟩
          case measure => simp [intOf]
      · by_cases h : f 3 = 1
        · have HN := hide ((unhide hb).set (i := 8) (by omega) 0)
          rw [show (8 : Nat) = 7 + 1 from rfl, bareF_one f (k := 1) h] at HN
          have hfy := (unhide hb).free 8
          have hcy := (unhide hb).at (i := 8) (by omega)
          have hbq : (f 3 == 1) = true := by simp [h]
          clear h
          go_wp2_with fail
          go_roundw
          case rel => exact ⟨2, by omega, by go_num, HN, hide ((unhide hbut).setCell (p := ⟨p, 8, none⟩) rfl _)⟩
          case measure => simp [intOf]
        · have HN : Hid (LBox wr p (bareF f 2)) := by rw [← bareF_not f (k := 1) h]; exact unhide hb
          have hbq : (f 3 == 1) = false := by simp [h]
          clear h
          go_wp2_with fail
          go_roundw
          case rel => exact ⟨2, by omega, by go_num, HN, hbut⟩
          case measure => simp [intOf]
      · by_cases h : f 4 = 1
        · have HN := hide ((unhide hb).set (i := 9) (by omega) 0)
          rw [show (9 : Nat) = 7 + 2 from rfl, bareF_one f (k := 2) h] at HN
          have hfy := (unhide hb).free 9
          have hcy := (unhide hb).at (i := 9) (by omega)
          have hbq : (f 4 == 1) = true := by simp [h]
          clear h
          go_wp2_with fail
          go_roundw
          case rel => exact ⟨3, by omega, by go_num, HN, hide ((unhide hbut).setCell (p := ⟨p, 9, none⟩) rfl _)⟩
          case measure => simp [intOf]
        · have HN : Hid (LBox wr p (bareF f 3)) := by rw [← bareF_not f (k := 2) h]; exact unhide hb
          have hbq : (f 4 == 1) = false := by simp [h]
          clear h
          go_wp2_with fail
          go_roundw
          case rel => exact ⟨3, by omega, by go_num, HN, hbut⟩
          case measure => simp [intOf]
      · by_cases h : f 5 = 1
        · have HN := hide ((unhide hb).set (i := 10) (by omega) 0)
          rw [show (10 : Nat) = 7 + 3 from rfl, bareF_one f (k := 3) h] at HN
          have hfy := (unhide hb).free 10
          have hcy := (unhide hb).at (i := 10) (by omega)
          have hbq : (f 5 == 1) = true := by simp [h]
          clear h
          go_wp2_with fail
          go_roundw
          case rel => exact ⟨4, by omega, by go_num, HN, hide ((unhide hbut).setCell (p := ⟨p, 10, none⟩) rfl _)⟩
          case measure => simp [intOf]
        · have HN : Hid (LBox wr p (bareF f 4)) := by rw [← bareF_not f (k := 3) h]; exact unhide hb
          have hbq : (f 5 == 1) = false := by simp [h]
          clear h
          go_wp2_with fail
          go_roundw
          case rel => exact ⟨4, by omega, by go_num, HN, hbut⟩
          case measure => simp [intOf]
      · by_cases h : f 6 = 1
        · have HN := hide ((unhide hb).set (i := 11) (by omega) 0)
          rw [show (11 : Nat) = 7 + 4 from rfl, bareF_one f (k := 4) h] at HN
          have hfy := (unhide hb).free 11
          have hcy := (unhide hb).at (i := 11) (by omega)
          have hbq : (f 6 == 1) = true := by simp [h]
          clear h
          go_wp2_with fail
          go_roundw
          case rel => exact ⟨5, by omega, by go_num, HN, hide ((unhide hbut).setCell (p := ⟨p, 11, none⟩) rfl _)⟩
          case measure => simp [intOf]
        · have HN : Hid (LBox wr p (bareF f 5)) := by rw [← bareF_not f (k := 4) h]; exact unhide hb
          have hbq : (f 6 == 1) = false := by simp [h]
          clear h
          go_wp2_with fail
          go_roundw
          case rel => exact ⟨5, by omega, by go_num, HN, hbut⟩
          case measure => simp [intOf]
    · obtain rfl : k = 5 := by omega
      have KZ := (unhide HZ).but (unhide hbut) (by show ¬ (p + 1 = p); omega)
      have KB := hide ((unhide HB).trans ((unhide hbut).below (B := p) (by have := (unhide HZ).lt; omega) (fun k hk => by omega)))
      have KL := unhide hb
      generalize hff : bareF f 5 = g at *
      have HFF := hide hff
      obtain ⟨x0, x1, x2, x3, x4, x5, x6, x7, x8, x9, x10, x11, y0, y1, y2, y3, y4, y5, y6, y7, y8, y9, y10, y11, xl⟩ := KL.all
      obtain ⟨z0, z1, z2, z3, z4, z5, z6, z7, z8, z9, z10, z11, f0, f1, f2, f3, f4, f5, f6, f7, f8, f9, f10, f11, zl⟩ := KZ.all
      clear hff KL KZ HZ hb hbut
      go_wp2_with fail
      refine bodyPost_ret (v := lay g) (by simp [results, Try.results60, go_sem, z0, z1, z2, z3, z4, z5, z6, z7, z8, z9, z10, z11]) rfl ?_
      exact ⟨by rw [← unhide HFF], by rw [unhide HPE]; exact Below.sets12 (unhide KB) (by omega) g⟩

end Go.Proofs.Ytadbhidpmihghaa
