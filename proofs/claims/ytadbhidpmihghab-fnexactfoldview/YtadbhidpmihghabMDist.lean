import Derived.Test.YtadbhidpmihghabImplLays
import Derived.Test.YtadbhidpmihghabLayBox
import Derived.Laws.StructEq
import Derived.Deep.RegionLaw
import Derived.Test.YtadbhidpmihghabImplWholeOf
import Derived.Test.YtadbhidpmihghabStepMath
namespace Go.Proofs.Ytadbhidpmihghab
open Go.RowKit

set_option maxRecDepth 20000 in
set_option maxHeartbeats 1000000 in
theorem count_eq (c : Int) (sh st : List Int) (hs : shapeB sh = true) (f : Nat → Int) (hf : Hid (fl c sh st = f)) (cn : Int) (hc : Hid (countOf sh = cn)) (w : World) :
    Calls Try.prog 47 #[lay f] w fun e w' => e = .returned (.int .i64 cn) ∧ Below w.heap.size w w' := by
  obtain ⟨_, h5⟩ := shapeB_in hs
  obtain ⟨n, hn⟩ : ∃ n, sh.length = n := ⟨_, rfl⟩
  rw [hn] at h5
  have HB : Hid (Below w.heap.size w (w.alloc (objL f))) := (Below.refl _ _).alloc (Nat.le_refl _) _
  have HR : Hid (Row (w.alloc (objL f)) (some ⟨w.heap.size, 2, none⟩) n sh) := (LBox.new w f).row sh hn 2 (by omega) (fun i hi => by rw [← unhide hf]; exact fl_len c sh st (by omega))
  have hc1' : (w.alloc (objL f)).cell? ⟨w.heap.size, 1, none⟩ = some (.int .i64 n) := by rw [(LBox.new w f).at (by omega), ← unhide hf, fl_1, hn]
  have h5i : (n : Int) ≤ 5 := by omega
  have h0i : (0 : Int) ≤ n := by omega
  have HC := hide (cellsOf_count (some ⟨w.heap.size, 2, none⟩) n 5 sh (w.alloc (objL f)) (unhide HR) hs cn hc)
  have hlt := (LBox.new w f).lt
  obtain ⟨W, hW⟩ : ∃ W, w.alloc (objL f) = W := ⟨_, rfl⟩
  rw [hW] at HB HC hc1' hlt
  have HWE := hide hW
  clear hs hn hW HR
  go_enter Try.func47, Try.ntmps47
  go_upto_region 1 with fail
  rw [unhide HWE]
  clear HWE
  go_wp2_with (go_at_call 50; refine (unhide HC).mono ?_; rintro e wq ⟨rfl, hw⟩; obtain rfl := hw.symm)
  go_ret
  exact ⟨rfl, unhide HB⟩

end Go.Proofs.Ytadbhidpmihghab
namespace Go.Proofs.Ytadbhidpmihghab
open Go.RowKit

/-- The stride of the last of the first k axes that has more than one element, by the cells of a layout. -/
def stepF (f : Nat → Int) : Nat → Int
  | 0 => 0
  | k + 1 => if 1 < f (2 + k) then f (7 + k) else stepF f k

set_option maxRecDepth 20000 in
set_option maxHeartbeats 4000000 in
theorem firstStep_any (f : Nat → Int) (w : World) :
    Calls Try.prog 51 #[lay f] w fun e w' => e = .returned (.int .i64 (stepF f 5)) ∧ Below w.heap.size w w' := by
  have HB : Hid (Below w.heap.size w (w.alloc (objL f))) := (Below.refl _ _).alloc (Nat.le_refl _) _
  have HL := hide (LBox.new w f)
  obtain ⟨x0, x1, x2, x3, x4, x5, x6, x7, x8, x9, x10, x11, y0, y1, y2, y3, y4, y5, y6, y7, y8, y9, y10, y11, xl⟩ := (LBox.new w f).all
  obtain ⟨W, hW⟩ : ∃ W, w.alloc (objL f) = W := ⟨_, rfl⟩
  rw [hW] at HB HL x0 x1 x2 x3 x4 x5 x6 x7 x8 x9 x10 x11 xl
  have HWE := hide hW
  clear hW y0 y1 y2 y3 y4 y5 y6 y7 y8 y9 y10 y11
  have hix0 : ∀ w' : World, (Instr.index 43 (.agg #[.int .i64 (f 2), .int .i64 (f 3), .int .i64 (f 4), .int .i64 (f 5), .int .i64 (f 6)]) (.int .i64 0)).run Try.prog w' = .ok (.int .i64 (f 2)) w' := fun w' => by kernel_rfl
  have hix1 : ∀ w' : World, (Instr.index 43 (.agg #[.int .i64 (f 2), .int .i64 (f 3), .int .i64 (f 4), .int .i64 (f 5), .int .i64 (f 6)]) (.int .i64 1)).run Try.prog w' = .ok (.int .i64 (f 3)) w' := fun w' => by kernel_rfl
  have hix2 : ∀ w' : World, (Instr.index 43 (.agg #[.int .i64 (f 2), .int .i64 (f 3), .int .i64 (f 4), .int .i64 (f 5), .int .i64 (f 6)]) (.int .i64 2)).run Try.prog w' = .ok (.int .i64 (f 4)) w' := fun w' => by kernel_rfl
  have hix3 : ∀ w' : World, (Instr.index 43 (.agg #[.int .i64 (f 2), .int .i64 (f 3), .int .i64 (f 4), .int .i64 (f 5), .int .i64 (f 6)]) (.int .i64 3)).run Try.prog w' = .ok (.int .i64 (f 5)) w' := fun w' => by kernel_rfl
  have hix4 : ∀ w' : World, (Instr.index 43 (.agg #[.int .i64 (f 2), .int .i64 (f 3), .int .i64 (f 4), .int .i64 (f 5), .int .i64 (f 6)]) (.int .i64 4)).run Try.prog w' = .ok (.int .i64 (f 6)) w' := fun w' => by kernel_rfl
  go_enter Try.func51, Try.ntmps51
  go_upto_region 1 with fail
  rw [unhide HWE]
  clear HWE
  go_wp2_with fail
  go_loop [3, 8] (fun s i => ∃ (k : Nat) (m : Int), k ≤ 5 ∧ i = .int .i64 k ∧ s = .int .i64 m ∧ Hid (stepF f k = m)) (fun _ i => 5 - (intOf i).toNat)
  case atStart => exact ⟨0, 0, by omega, rfl, rfl, rfl⟩
  case round =>
    obtain ⟨k, m, hk, rfl, rfl, hm⟩ := hrel
    by_cases hlt : k < 5
    · have HN : Hid (stepF f (k + 1) = if 1 < f (2 + k) then f (7 + k) else m) := by show (if _ then _ else _) = _; rw [unhide hm]
      obtain rfl | rfl | rfl | rfl | rfl : k = 0 ∨ k = 1 ∨ k = 2 ∨ k = 3 ∨ k = 4 := by omega
      all_goals
        simp only [Nat.reduceAdd] at HN
      · by_cases h : 1 < f 2
        · rw [if_pos h] at HN
          go_wp2_with fail
          go_round
          case rel => exact ⟨1, _, by omega, by go_num, rfl, HN⟩
          case measure => simp [intOf]
        · rw [if_neg h] at HN
          go_wp2_with fail
          go_round
          case rel => exact ⟨1, _, by omega, by go_num, rfl, HN⟩
          case measure => simp [intOf]
      · by_cases h : 1 < f 3
        · rw [if_pos h] at HN
          go_wp2_with fail
          go_round
          case rel => exact ⟨2, _, by omega, by go_num, rfl, HN⟩
          case measure => simp [intOf]
        · rw [if_neg h] at HN
          go_wp2_with fail
          go_round
          case rel => exact ⟨2, _, by omega, by go_num, rfl, HN⟩
          case measure => simp [intOf]
      · by_cases h : 1 < f 4
        · rw [if_pos h] at HN
          go_wp2_with fail
          go_round
          case rel => exact ⟨3, _, by omega, by go_num, rfl, HN⟩
          case measure => simp [intOf]
        · rw [if_neg h] at HN
          go_wp2_with fail
          go_round
          case rel => exact ⟨3, _, by omega, by go_num, rfl, HN⟩
          case measure => simp [intOf]
      · by_cases h : 1 < f 5
        · rw [if_pos h] at HN
          go_wp2_with fail
          go_round
          case rel => exact ⟨4, _, by omega, by go_num, rfl, HN⟩
          case measure => simp [intOf]
        · rw [if_neg h] at HN
          go_wp2_with fail
          go_round
          case rel => exact ⟨4, _, by omega, by go_num, rfl, HN⟩
          case measure => simp [intOf]
      · by_cases h : 1 < f 6
        · rw [if_pos h] at HN
          go_wp2_with fail
          go_round
          case rel => exact ⟨5, _, by omega, by go_num, rfl, HN⟩
          case measure => simp [intOf]
        · rw [if_neg h] at HN
          go_wp2_with fail
          go_round
          case rel => exact ⟨5, _, by omega, by go_num, rfl, HN⟩
          case measure => simp [intOf]
    · obtain rfl : k = 5 := by omega
      go_wp2_with fail
      go_ret
      exact ⟨ret_int (unhide hm).symm, unhide HB⟩

end Go.Proofs.Ytadbhidpmihghab
namespace Go.Proofs.Ytadbhidpmihghab
open Go.RowKit

def spreadF (f : Nat → Int) (off d : Int) (k : Nat) : Nat → Int := fun i => if i = 0 then off else if 7 ≤ i ∧ i < 7 + k then f i * d else f i

theorem spreadF_step (f : Nat → Int) (off d : Int) (k : Nat) : upd (spreadF f off d k) (7 + k) (f (7 + k) * d) = spreadF f off d (k + 1) := by
  funext i
  unfold upd spreadF
  by_cases h : i = 7 + k
  · subst h; rw [if_pos rfl, if_neg (by omega), if_pos ⟨by omega, by omega⟩]
  · rw [if_neg h]
    by_cases h0 : i = 0
    · rw [if_pos h0, if_pos h0]
    · rw [if_neg h0, if_neg h0]
      by_cases h1 : 7 ≤ i ∧ i < 7 + k
      · rw [if_pos h1, if_pos ⟨h1.1, by omega⟩]
      · rw [if_neg h1, if_neg (by omega)]

/-- A spread layout. -/
theorem spread_fl (c off d : Int) (sh st : List Int) (i : Nat) (hi : i < 12) : spreadF (fl c sh st) off d 5 i = fl off sh (st.map (· * d)) i := by
  unfold spreadF fl
  by_cases h0 : i = 0
  · rw [if_pos h0, if_pos h0]
  · rw [if_neg h0, if_neg h0, if_neg h0]
    by_cases h7 : i < 7
    · rw [if_neg (by omega), if_pos h7, if_pos h7]
    · rw [if_pos ⟨by omega, by omega⟩, if_neg (by omega), if_neg h7, if_neg (by omega), if_neg h7]
      by_cases hk : i - 7 < st.length
      · simp [List.getD, hk]
      · rw [getD_long (zs := st) (by omega), getD_long (zs := st.map (· * d)) (by simp; omega)]; simp

set_option maxRecDepth 20000 in
set_option maxHeartbeats 4000000 in
theorem spread_any (f : Nat → Int) (off d : Int) (hf : ∀ k, k < 5 → -10000 ≤ f (7 + k) ∧ f (7 + k) ≤ 10000) (hd0 : -10000 ≤ d) (hd1 : d ≤ 10000) (w : World) :
    Calls Try.prog 48 #[lay f, .int .i64 off, .int .i64 d] w fun e w' => e = .returned (lay (spreadF f off d 5)) ∧ Below w.heap.size w w' := by
  obtain ⟨p, hp⟩ : ∃ p, w.heap.size = p := ⟨_, rfl⟩
  obtain ⟨B0, B1, hB⟩ := lays2 w f
  obtain ⟨W, hW⟩ : ∃ W, ((w.alloc (objL f)).alloc objZ) = W := ⟨_, rfl⟩
  rw [hW] at B0 B1 hB
  have hf0' := B0.free 0
  have hc0' := B0.at (i := 0) (by omega)
  have HL := hide (B0.set (i := 0) (by omega) off)
  have HZ := hide (B1.other (q := ⟨w.heap.size, 0, none⟩) (by show w.heap.size + 1 ≠ w.heap.size; omega) (.int .i64 off))
  have HB := hide (hB.setCell (p := ⟨w.heap.size, 0, none⟩) (Nat.le_refl _) (.int .i64 off))
  have hl0 := B0.lt
  have HFB := hide hf
  have HWE := hide hW
  have HPE := hide hp
  clear hf hW B0 B1 hB hp
  go_enter Try.func48, Try.ntmps48
  go_upto_region 1 with fail
  rw [unhide HWE]
  clear HWE
  go_upto_region 2 with fail
  clear hf0' hc0' hl0
  generalize W.setCell ⟨w.heap.size, 0, none⟩ (.int .i64 off) = V at *
  rw [unhide HPE] at HL HZ HB ⊢
  have HL0 : Hid (LBox V p (spreadF f off d 0)) := (unhide HL).congr (fun i _ => by unfold upd spreadF; by_cases h : i = 0 <;> simp [h]; omega)
  clear HL
  go_wp2_with fail
  go_loopw [10] (fun i wr => ∃ k : Nat, k ≤ 5 ∧ i = .int .i64 k ∧ Hid (LBox wr p (spreadF f off d k)) ∧ Hid (But (fun x => x = p) V wr)) (fun i _ => 5 - (intOf i).toNat)
  case atStart => exact ⟨0, by omega, rfl, HL0, hide (But.refl _ _)⟩
  case round =>
    obtain ⟨k, hk, rfl, hb, hbut⟩ := hrel
    by_cases hlt : k < 5
    · obtain ⟨y, hy⟩ : ∃ y, f (7 + k) = y := ⟨_, rfl⟩
      have hyb := unhide HFB k hlt
      rw [hy] at hyb
      have hcy : wr.cell? ⟨p, 7 + k, none⟩ = some (.int .i64 y) := by rw [(unhide hb).at (by omega)]; unfold spreadF; rw [if_neg (by omega), if_neg (by omega), hy]
      have hfy := (unhide hb).free (7 + k)
      obtain ⟨z, hz⟩ : ∃ z, z = y * d := ⟨_, rfl⟩
      have hzb : -100000000 ≤ z ∧ z ≤ 100000000 := by rw [hz]; exact mul_bd hyb.1 hyb.2 hd0 hd1
      have hw1 : IntKind.i64.wrap (y * d) = z := by rw [← hz, IntKind.wrap_i64]; omega
      have hlr := (unhide hb).lt
      have HN := hide ((unhide hb).set (i := 7 + k) (by omega) z)
      rw [hz, ← hy, spreadF_step, hy, ← hz] at HN
      have hki : (k : Int) < 5 := by omega
      have hk0 : (0 : Int) ≤ k := by omega
      clear hy hz
      go_wp2_with fail
      go_roundw
      case rel => exact ⟨k + 1, by omega, by go_num, HN, hide ((unhide hbut).setCell (p := ⟨p, 7 + k, none⟩) rfl _)⟩
      case measure => (simp [intOf] <;> omega)
    · obtain rfl : k = 5 := by omega
      have KZ := (unhide HZ).but (unhide hbut) (by show ¬ (p + 1 = p); omega)
      have KB := hide ((unhide HB).trans ((unhide hbut).below (B := p) (by have := (unhide HZ).lt; omega) (fun k hk => by omega)))
      have KL := unhide hb
      generalize hff : spreadF f off d 5 = g at *
      have HFF := hide hff
      obtain ⟨x0, x1, x2, x3, x4, x5, x6, x7, x8, x9, x10, x11, y0, y1, y2, y3, y4, y5, y6, y7, y8, y9, y10, y11, xl⟩ := KL.all
      obtain ⟨z0, z1, z2, z3, z4, z5, z6, z7, z8, z9, z10, z11, f0, f1, f2, f3, f4, f5, f6, f7, f8, f9, f10, f11, zl⟩ := KZ.all
      clear hff KL KZ HZ hb hbut
      go_wp2_with fail
      refine bodyPost_ret (v := lay g) (by simp [results, Try.results48, go_sem, z0, z1, z2, z3, z4, z5, z6, z7, z8, z9, z10, z11]) rfl ?_
      exact ⟨by rw [← unhide HFF], by rw [unhide HPE]; exact Below.sets12 (unhide KB) (by omega) g⟩

end Go.Proofs.Ytadbhidpmihghab
namespace Go.Proofs.Ytadbhidpmihghab
open Go.RowKit

def bareF (f : Nat → Int) (k : Nat) : Nat → Int := fun i => if 7 ≤ i ∧ i < 7 + k ∧ f (i - 5) = 1 then 0 else f i

theorem bareF_zero (f : Nat → Int) : bareF f 0 = f := by funext i; unfold bareF; rw [if_neg (by omega)]
theorem bareF_one (f : Nat → Int) {k : Nat} (h : f (2 + k) = 1) : upd (bareF f k) (7 + k) 0 = bareF f (k + 1) := by
  funext i
  unfold upd bareF
  by_cases e : i = 7 + k
  · subst e; rw [if_pos rfl, if_pos ⟨by omega, by omega, by rw [show 7 + k - 5 = 2 + k by omega]; exact h⟩]
  · rw [if_neg e]
    by_cases h1 : 7 ≤ i ∧ i < 7 + k ∧ f (i - 5) = 1
    · rw [if_pos h1, if_pos ⟨h1.1, by omega, h1.2.2⟩]
    · rw [if_neg h1, if_neg (fun h2 => h1 ⟨h2.1, by omega, h2.2.2⟩)]
theorem bareF_not (f : Nat → Int) {k : Nat} (h : f (2 + k) ≠ 1) : bareF f k = bareF f (k + 1) := by
  funext i
  unfold bareF
  by_cases h1 : 7 ≤ i ∧ i < 7 + k ∧ f (i - 5) = 1
  · rw [if_pos h1, if_pos ⟨h1.1, by omega, h1.2.2⟩]
  · rw [if_neg h1, if_neg]
    rintro ⟨h2, h3, h4⟩
    by_cases e : i = 7 + k
    · subst e; rw [show 7 + k - 5 = 2 + k by omega] at h4; exact h h4
    · exact h1 ⟨h2, by omega, h4⟩

set_option maxRecDepth 20000 in
set_option maxHeartbeats 8000000 in
theorem bare_any (f : Nat → Int) (w : World) :
    Calls Try.prog 52 #[lay f] w fun e w' => e = .returned (lay (bareF f 5)) ∧ Below w.heap.size w w' := by
  obtain ⟨p, hp⟩ : ∃ p, w.heap.size = p := ⟨_, rfl⟩
  obtain ⟨B0, B1, hB⟩ := lays2 w f
  obtain ⟨V, hV⟩ : ∃ V, ((w.alloc (objL f)).alloc objZ) = V := ⟨_, rfl⟩
  rw [hV, hp] at B0 B1 hB
  have hix0 : ∀ w' : World, (Instr.index 43 (.agg #[.int .i64 (f 2), .int .i64 (f 3), .int .i64 (f 4), .int .i64 (f 5), .int .i64 (f 6)]) (.int .i64 0)).run Try.prog w' = .ok (.int .i64 (f 2)) w' := fun w' => by kernel_rfl
  have hix1 : ∀ w' : World, (Instr.index 43 (.agg #[.int .i64 (f 2), .int .i64 (f 3), .int .i64 (f 4), .int .i64 (f 5), .int .i64 (f 6)]) (.int .i64 1)).run Try.prog w' = .ok (.int .i64 (f 3)) w' := fun w' => by kernel_rfl
  have hix2 : ∀ w' : World, (Instr.index 43 (.agg #[.int .i64 (f 2), .int .i64 (f 3), .int .i64 (f 4), .int .i64 (f 5), .int .i64 (f 6)]) (.int .i64 2)).run Try.prog w' = .ok (.int .i64 (f 4)) w' := fun w' => by kernel_rfl
  have hix3 : ∀ w' : World, (Instr.index 43 (.agg #[.int .i64 (f 2), .int .i64 (f 3), .int .i64 (f 4), .int .i64 (f 5), .int .i64 (f 6)]) (.int .i64 3)).run Try.prog w' = .ok (.int .i64 (f 5)) w' := fun w' => by kernel_rfl
  have hix4 : ∀ w' : World, (Instr.index 43 (.agg #[.int .i64 (f 2), .int .i64 (f 3), .int .i64 (f 4), .int .i64 (f 5), .int .i64 (f 6)]) (.int .i64 4)).run Try.prog w' = .ok (.int .i64 (f 6)) w' := fun w' => by kernel_rfl
  have HWE := hide hV
  have HPE := hide hp
  have HL0 : Hid (LBox V p (bareF f 0)) := by rw [bareF_zero]; exact B0
  have HZ := hide B1
  have HB := hide hB
  obtain ⟨x0, x1, x2, x3, x4, x5, x6, x7, x8, x9, x10, x11, y0, y1, y2, y3, y4, y5, y6, y7, y8, y9, y10, y11, xl⟩ := B0.all
  clear hp hV B0 B1 hB y0 y1 y2 y3 y4 y5 y6 y7 y8 y9 y10 y11
  go_enter Try.func52, Try.ntmps52
  go_upto_region 1 with fail
  rw [unhide HWE, unhide HPE]
  clear HWE
  go_wp2_with fail
  go_loopw [7] (fun i wr => ∃ k : Nat, k ≤ 5 ∧ i = .int .i64 k ∧ Hid (LBox wr p (bareF f k)) ∧ Hid (But (fun x => x = p) V wr)) (fun i _ => 5 - (intOf i).toNat)
  case atStart => exact ⟨0, by omega, rfl, HL0, hide (But.refl _ _)⟩
  case round =>
    obtain ⟨k, hk, rfl, hb, hbut⟩ := hrel
    clear x0 x1 x2 x3 x4 x5 x6 x7 x8 x9 x10 x11
    by_cases hlt : k < 5
    · have hlr := (unhide hb).lt
      obtain rfl | rfl | rfl | rfl | rfl : k = 0 ∨ k = 1 ∨ k = 2 ∨ k = 3 ∨ k = 4 := by omega
      · by_cases h : f 2 = 1
        · have HN := hide ((unhide hb).set (i := 7) (by omega) 0)
          rw [show (7 : Nat) = 7 + 0 from rfl, bareF_one f (k := 0) h] at HN
          have hfy := (unhide hb).free 7
          have hcy := (unhide hb).at (i := 7) (by omega)
          have hbq : (f 2 == 1) = true := by simp [h]
          clear h
          go_wp2_with fail
          go_roundw
          case rel => exact ⟨1, by omega, by go_num, HN, hide ((unhide hbut).setCell (p := ⟨p, 7, none⟩) rfl _)⟩
          case measure => simp [intOf]
        · have HN : Hid (LBox wr p (bareF f 1)) := by rw [← bareF_not f (k := 0) h]; exact unhide hb
          have hbq : (f 2 == 1) = false := by simp [h]
          clear h
          go_wp2_with fail
          go_roundw
          case rel => exact ⟨1, by omega, by go_num, HN, hbut⟩
          case measure => simp [intOf]
      · by_cases h : f 3 = 1
        · have HN := hide ((unhide hb).set (i := 8) (by omega) 0)
          rw [show (8 : Nat) = 7 + 1 from rfl, bareF_one f (k := 1) h] at HN
          have hfy := (unhide hb).free 8
          have hcy := (unhide hb).at (i := 8) (by omega)
          have hbq : (f 3 == 1) = true := by simp [h]
          clear h
          go_wp2_with fail
          go_roundw
          case rel => exact ⟨2, by omega, by go_num, HN, hide ((unhide hbut).setCell (p := ⟨p, 8, none⟩) rfl _)⟩
          case measure => simp [intOf]
        · have HN : Hid (LBox wr p (bareF f 2)) := by rw [← bareF_not f (k := 1) h]; exact unhide hb
          have hbq : (f 3 == 1) = false := by simp [h]
          clear h
          go_wp2_with fail
          go_roundw
          case rel => exact ⟨2, by omega, by go_num, HN, hbut⟩
          case measure => simp [intOf]
      · by_cases h : f 4 = 1
        · have HN := hide ((unhide hb).set (i := 9) (by omega) 0)
          rw [show (9 : Nat) = 7 + 2 from rfl, bareF_one f (k := 2) h] at HN
          have hfy := (unhide hb).free 9
          have hcy := (unhide hb).at (i := 9) (by omega)
          have hbq : (f 4 == 1) = true := by simp [h]
          clear h
          go_wp2_with fail
          go_roundw
          case rel => exact ⟨3, by omega, by go_num, HN, hide ((unhide hbut).setCell (p := ⟨p, 9, none⟩) rfl _)⟩
          case measure => simp [intOf]
        · have HN : Hid (LBox wr p (bareF f 3)) := by rw [← bareF_not f (k := 2) h]; exact unhide hb
          have hbq : (f 4 == 1) = false := by simp [h]
          clear h
          go_wp2_with fail
          go_roundw
          case rel => exact ⟨3, by omega, by go_num, HN, hbut⟩
          case measure => simp [intOf]
      · by_cases h : f 5 = 1
        · have HN := hide ((unhide hb).set (i := 10) (by omega) 0)
          rw [show (10 : Nat) = 7 + 3 from rfl, bareF_one f (k := 3) h] at HN
          have hfy := (unhide hb).free 10
          have hcy := (unhide hb).at (i := 10) (by omega)
          have hbq : (f 5 == 1) = true := by simp [h]
          clear h
          go_wp2_with fail
          go_roundw
          case rel => exact ⟨4, by omega, by go_num, HN, hide ((unhide hbut).setCell (p := ⟨p, 10, none⟩) rfl _)⟩
          case measure => simp [intOf]
        · have HN : Hid (LBox wr p (bareF f 4)) := by rw [← bareF_not f (k := 3) h]; exact unhide hb
          have hbq : (f 5 == 1) = false := by simp [h]
          clear h
          go_wp2_with fail
          go_roundw
          case rel => exact ⟨4, by omega, by go_num, HN, hbut⟩
          case measure => simp [intOf]
      · by_cases h : f 6 = 1
        · have HN := hide ((unhide hb).set (i := 11) (by omega) 0)
          rw [show (11 : Nat) = 7 + 4 from rfl, bareF_one f (k := 4) h] at HN
          have hfy := (unhide hb).free 11
          have hcy := (unhide hb).at (i := 11) (by omega)
          have hbq : (f 6 == 1) = true := by simp [h]
          clear h
          go_wp2_with fail
          go_roundw
          case rel => exact ⟨5, by omega, by go_num, HN, hide ((unhide hbut).setCell (p := ⟨p, 11, none⟩) rfl _)⟩
          case measure => simp [intOf]
        · have HN : Hid (LBox wr p (bareF f 5)) := by rw [← bareF_not f (k := 4) h]; exact unhide hb
          have hbq : (f 6 == 1) = false := by simp [h]
          clear h
          go_wp2_with fail
          go_roundw
          case rel => exact ⟨5, by omega, by go_num, HN, hbut⟩
          case measure => simp [intOf]
    · obtain rfl : k = 5 := by omega
      have KZ := (unhide HZ).but (unhide hbut) (by show ¬ (p + 1 = p); omega)
      have KB := hide ((unhide HB).trans ((unhide hbut).below (B := p) (by have := (unhide HZ).lt; omega) (fun k hk => by omega)))
      have KL := unhide hb
      generalize hff : bareF f 5 = g at *
      have HFF := hide hff
      obtain ⟨x0, x1, x2, x3, x4, x5, x6, x7, x8, x9, x10, x11, y0, y1, y2, y3, y4, y5, y6, y7, y8, y9, y10, y11, xl⟩ := KL.all
      obtain ⟨z0, z1, z2, z3, z4, z5, z6, z7, z8, z9, z10, z11, f0, f1, f2, f3, f4, f5, f6, f7, f8, f9, f10, f11, zl⟩ := KZ.all
      clear hff KL KZ HZ hb hbut
      go_wp2_with fail
      refine bodyPost_ret (v := lay g) (by simp [results, Try.results52, go_sem, z0, z1, z2, z3, z4, z5, z6, z7, z8, z9, z10, z11]) rfl ?_
      exact ⟨by rw [← unhide HFF], by rw [unhide HPE]; exact Below.sets12 (unhide KB) (by omega) g⟩

end Go.Proofs.Ytadbhidpmihghab
namespace Go.Proofs.Ytadbhidpmihghab
open Go.RowKit

theorem run_eq_arr5 (d : Nat) (a0 a1 a2 a3 a4 b0 b1 b2 b3 b4 : Int) (w : World) : (Op.equalIn (d + 1 + 1) 43 (.agg #[.int .i64 a0, .int .i64 a1, .int .i64 a2, .int .i64 a3, .int .i64 a4]) (.agg #[.int .i64 b0, .int .i64 b1, .int .i64 b2, .int .i64 b3, .int .i64 b4])).run Try.prog w = .ok (a0 == b0 && (a1 == b1 && (a2 == b2 && (a3 == b3 && a4 == b4)))) w := by
  have u3 := Try.underlying3
  have z3 := Try.sizeOf3
  rw [Op.equalIn]
  simp only [Sem.run_bind, run_underlying Try.underlying43, Result.andThen_ok]
  simp only [Std.Legacy.Range.forIn_eq_forIn_range', Std.Legacy.Range.size, Nat.sub_zero, Nat.add_sub_cancel, Nat.div_one, List.range'_succ, List.range'_zero, List.forIn_cons, List.forIn_nil]
  go_simp
  by_cases h0 : a0 = b0
  · by_cases h1 : a1 = b1
    · by_cases h2 : a2 = b2
      · by_cases h3 : a3 = b3
        · by_cases h4 : a4 = b4 <;> simp [h0, h1, h2, h3, h4]
        · simp [h0, h1, h2, h3]
      · simp [h0, h1, h2]
    · simp [h0, h1]
  · simp [h0]

theorem run_neq_lay (f g : Nat → Int) (r : Bool) (hr : Hid ((∀ i, i < 12 → f i = g i) ↔ r = true)) (w : World) : (binOp .neq 45 (lay f) (lay g)).run Try.prog w = .ok (.bool (!r)) w := by
  have u3 := Try.underlying3
  have hS : Try.prog.underlying 45 = some (.struct (Try.prog.fieldsOf 45)) := by kernel_rfl
  have hp : Try.prog.stoodInHeld 45 = false := by kernel_rfl
  have e1 := fun w => run_eq_arr5 9997 (f 2) (f 3) (f 4) (f 5) (f 6) (g 2) (g 3) (g 4) (g 5) (g 6) w
  have e2 := fun w => run_eq_arr5 9997 (f 7) (f 8) (f 9) (f 10) (f 11) (g 7) (g 8) (g 9) (g 10) (g 11) w
  have key : (Op.equalIn 10000 45 (lay f) (lay g)).run Try.prog w = .ok r w := by
    rw [show (10000 : Nat) = 9999 + 1 from rfl, run_equalIn_agg w 9999 45 _ _ hS hp]
    simp only [Program.fieldsOf, Try.underlying45]
    go_simp
    cases r with
    | true =>
      have h := (unhide hr).mpr rfl
      simp [h 0 (by omega), h 1 (by omega), h 2 (by omega), h 3 (by omega), h 4 (by omega), h 5 (by omega), h 6 (by omega), h 7 (by omega), h 8 (by omega), h 9 (by omega), h 10 (by omega), h 11 (by omega)]
    | false =>
      have h : ¬ ∀ i, i < 12 → f i = g i := fun h => by cases (unhide hr).mp h
      by_cases h0 : f 0 = g 0
      · by_cases h1 : f 1 = g 1
        · rw [if_pos h0, if_pos h1]
          split
          · rfl
          · rename_i h2
            split
            · rfl
            · rename_i h3
              exfalso
              simp only [Classical.not_imp, Classical.not_not] at h2 h3
              obtain ⟨k2, k3, k4, k5, k6⟩ := h2
              obtain ⟨k7, k8, k9, k10, k11⟩ := h3
              apply h
              intro i hi
              rcases i with _ | _ | _ | _ | _ | _ | _ | _ | _ | _ | _ | _ | i
              · exact h0
              · exact h1
              · exact k2
              · exact k3
              · exact k4
              · exact k5
              · exact k6
              · exact k7
              · exact k8
              · exact k9
              · exact k10
              · exact k11
              · exact absurd hi (by omega)
        · rw [if_pos h0, if_neg h1]
      · rw [if_neg h0]
  rw [run_neq_struct, key]
  rfl

end Go.Proofs.Ytadbhidpmihghab
namespace Go.Proofs.Ytadbhidpmihghab
open Go.RowKit

theorem run_store_lay {w : World} {p : Nat} {z : Nat → Int} (hz : LBox w p z) (g : Nat → Int) : (Instr.storeAt 45 (.pointer (some ⟨p, 0, none⟩)) (lay g)).run Try.prog w = .ok () (sets12 w p g) := by
  obtain ⟨r0, r1, r2, r3, r4, r5, r6, r7, r8, r9, r10, r11, s0, s1, s2, s3, s4, s5, s6, s7, s8, s9, s10, s11, rl⟩ := hz.all
  unfold sets12
  go_simp

/-- A layout stored into a box, as one step of a region that draws its order. -/
theorem step_store_lay {ops : Array Oper} {o : Oper} {a : Act} {w : World} {K : Act → World → Prop} {Q : Exit → Act → World → Prop} {E : Prop} (hgd : o.guard = none) (x y : Operand) (ho : o.op = .store 45 x y)
    (p : Nat) (g z : Nat → Int) (hx : a.eval x = .pointer (some ⟨p, 0, none⟩)) (hy : a.eval y = lay g) (hz : LBox w p z) (h : ∀ w', w' = sets12 w p g → K (a.put o.dst undef) w') :
    if Region.wanted o (yielded ops a.tmps) = true then Oper.wp Try.prog o a w K Q else E := by
  have hw : Region.wanted o (yielded ops a.tmps) = true := by simp [Region.wanted, hgd]
  rw [if_pos hw]
  have e : (execOp a.eval o).run Try.prog w = .ok .skip (sets12 w p g) := by
    unfold execOp
    simp only [ho, hx, hy]
    have := run_store_lay hz g
    simp only [Sem.run_bind, this]
    rfl
  unfold Oper.wp
  rw [e]
  exact h _ rfl

end Go.Proofs.Ytadbhidpmihghab
namespace Go.Proofs.Ytadbhidpmihghab
open Go.RowKit

theorem stepF_fl (c : Int) (sh st : List Int) (k : Nat) (hk : k ≤ 5) : stepF (fl c sh st) k = stepN sh st k := by
  induction k with
  | zero => rfl
  | succ k ih =>
    unfold stepF stepN
    rw [fl_len _ _ _ (by omega), fl_str, ih (by omega)]

theorem stepN_long (sh st : List Int) (j : Nat) : stepN sh st (sh.length + j) = stepN sh st sh.length := by
  induction j with
  | zero => rfl
  | succ j ih =>
    show (if 1 < sh.getD (sh.length + j) 0 then st.getD (sh.length + j) 0 else stepN sh st (sh.length + j)) = _
    rw [getD_long (zs := sh) (by omega), if_neg (by omega), ih]

theorem stepF_len (c : Int) (sh st : List Int) (h5 : sh.length ≤ 5) : stepF (fl c sh st) 5 = stepN sh st sh.length := by
  rw [stepF_fl c sh st 5 (by omega)]
  have := stepN_long sh st (5 - sh.length)
  rwa [show sh.length + (5 - sh.length) = 5 by omega] at this

theorem stepN_bd {sh st : List Int} (ht : ∀ k, -10000 ≤ st.getD k 0 ∧ st.getD k 0 ≤ 10000) (k : Nat) : -10000 ≤ stepN sh st k ∧ stepN sh st k ≤ 10000 := by
  induction k with
  | zero => simp [stepN]
  | succ k ih =>
    unfold stepN
    split
    · exact ht k
    · exact ih

theorem bare_fl (c : Int) (sh st : List Int) {k : Nat} (hk : k < 5) : bareF (fl c sh st) 5 (7 + k) = if sh.getD k 0 = 1 then 0 else st.getD k 0 := by
  unfold bareF
  rw [show 7 + k - 5 = 2 + k by omega, fl_len _ _ _ hk, fl_str]
  by_cases h : sh.getD k 0 = 1
  · rw [if_pos ⟨by omega, by omega, h⟩, if_pos h]
  · rw [if_neg (fun h2 => h h2.2.2), if_neg h]

/-- A layout bare is the line bare just when its strides are a line's. -/
theorem bare_lined (c d : Int) (sh st : List Int) (h5 : sh.length ≤ 5) (hl : st.length = sh.length) : (∀ i, i < 12 → bareF (fl c sh st) 5 i = bareF (fl c sh ((wholeSt sh).map (· * d))) 5 i) ↔ Lined sh st d := by
  have hw : ∀ k, k < sh.length → ((wholeSt sh).map (· * d)).getD k 0 = tailProd (sh.drop (k + 1)) * d := fun k hk => by simp [wholeSt, hk]
  constructor
  · intro h k hk h1
    have := h (7 + k) (by omega)
    rw [bare_fl _ _ _ (by omega), bare_fl _ _ _ (by omega), if_neg h1, if_neg h1, hw k hk, Int.mul_comm] at this
    exact this
  · intro h i hi
    by_cases h7 : i < 7
    · unfold bareF
      rw [if_neg (by omega), if_neg (by omega)]
      unfold fl
      by_cases h0 : i = 0
      · rw [if_pos h0, if_pos h0]
      · rw [if_neg h0, if_neg h0, if_pos h7, if_pos h7]
    · obtain ⟨k, rfl⟩ : ∃ k, i = 7 + k := ⟨i - 7, by omega⟩
      rw [bare_fl _ _ _ (by omega), bare_fl _ _ _ (by omega)]
      by_cases h1 : sh.getD k 0 = 1
      · rw [if_pos h1, if_pos h1]
      · rw [if_neg h1, if_neg h1]
        by_cases hk : k < sh.length
        · rw [hw k hk, h k hk h1, Int.mul_comm]
        · rw [getD_long (zs := st) (by omega), getD_long (zs := (wholeSt sh).map (· * d)) (by simp [wholeSt]; omega)]

/-- A box of the call's own holds a layout. -/
def GotB (W : World) (g : Nat → Int) (v : Value) (wx : World) : Prop := ∃ pb, v = .pointer (some ⟨pb, 0, none⟩) ∧ W.heap.size ≤ pb ∧ LBox wx pb g ∧ Below W.heap.size W wx

theorem lbx_A (w : World) {wC : World} (h : Below (w.alloc objZ).drew.heap.size (w.alloc objZ).drew wC) : LBox wC w.heap.size (fun _ => 0) := (LBox.new w (fun _ => 0)).drew.below (Nat.le_refl _) h
theorem lbx_B (w : World) {wC : World} (h : Below (w.alloc objZ).heap.size (w.alloc objZ) wC) : LBox wC w.heap.size (fun _ => 0) := (LBox.new w (fun _ => 0)).below (Nat.le_refl _) h

set_option maxRecDepth 20000 in
set_option maxHeartbeats 8000000 in
theorem distance_any (c : Int) (sh st : List Int) (hr : formed c sh st = true) (f : Nat → Int) (hf : Hid (fl c sh st = f)) (w : World) :
    Calls Try.prog 49 #[lay f] w fun e w' => e = .returned (.tuple #[.int .i64 (lineL (placesOf c sh st)).1, .bool (lineL (placesOf c sh st)).2]) ∧ Below w.heap.size w w' := by
  obtain ⟨hsb, hle, hcb, hst⟩ := formed_parts hr
  obtain ⟨hin, h5⟩ := shapeB_in hsb
  obtain ⟨cn, hcn⟩ : ∃ cn, countOf sh = cn := ⟨_, rfl⟩
  have hcb0 : 0 ≤ cn := by rw [← hcn, ← prodAll_count sh hsb]; exact hin.bd.1
  have HCN := hide hcn
  have HSB := hide hsb
  obtain ⟨n, hn⟩ : ∃ n, sh.length = n := ⟨_, rfl⟩
  have HN := hide hn
  have hn5 : n ≤ 5 := by rw [← hn]; exact h5
  have HB : Hid (Below w.heap.size w (w.alloc (objL f))) := (Below.refl _ _).alloc (Nat.le_refl _) _
  have HL := hide (LBox.new w f)
  obtain ⟨x0, x1, x2, x3, x4, x5, x6, x7, x8, x9, x10, x11, y0, y1, y2, y3, y4, y5, y6, y7, y8, y9, y10, y11, xl⟩ := (LBox.new w f).all
  obtain ⟨W, hW⟩ : ∃ W, w.alloc (objL f) = W := ⟨_, rfl⟩
  rw [hW] at HB HL x0 x1 x2 x3 x4 x5 x6 x7 x8 x9 x10 x11 xl
  have HWE := hide hW
  clear y0 y1 y2 y3 y4 y5 y6 y7 y8 y9 y10 y11 hW
  by_cases h2 : cn < 2
  · have HS : Hid (lineL (placesOf c sh st) = (1, true)) := lineL_short (by simp [placesOf, hcn]; omega)
    clear hcn hn hst hcb hle h5 hin hsb hr
    go_enter Try.func49, Try.ntmps49
    go_upto_region 1 with fail
    rw [unhide HWE]
    clear HWE
    go_wp2_with (go_at_call 47; refine (count_eq c sh st (unhide HSB) f hf _ HCN _).mono ?_; rintro e w2 ⟨rfl, hb2⟩; have HB2 := hide ((unhide HB).trans (hb2.mono (unhide HB).size)); clear hb2)
    refine bodyPost_ret (v := .tuple #[.int .i64 1, .bool true]) (by simp [results, Try.results49, go_sem]) rfl ?_
    rw [unhide HS]
    exact ⟨rfl, unhide HB2⟩
  · obtain ⟨d, hd⟩ : ∃ d, stepF f 5 = d := ⟨_, rfl⟩
    have hdn : stepN sh st sh.length = d := by rw [← hd, ← unhide hf, stepF_len c sh st h5]
    have hdb := stepN_bd (sh := sh) hst sh.length
    rw [hdn] at hdb
    obtain ⟨hd0, hd1⟩ := hdb
    obtain ⟨r, hrr⟩ : ∃ r : Bool, Lined sh st d ↔ r = true := by
      by_cases h : Lined sh st d
      · exact ⟨true, by simp [h]⟩
      · exact ⟨false, by simp [h]⟩
    obtain ⟨g, hg⟩ : ∃ g, spreadF (fl 0 sh (wholeSt sh)) c d 5 = g := ⟨_, rfl⟩
    have HEQ : Hid ((∀ i, i < 12 → bareF f 5 i = bareF g 5 i) ↔ r = true) := by
      show _ ↔ _
      rw [← hrr, ← bare_lined c d sh st h5 hle]
      have e : ∀ i, i < 12 → bareF g 5 i = bareF (fl c sh ((wholeSt sh).map (· * d))) 5 i := fun i hi => by
        unfold bareF
        rw [← hg, spread_fl 0 c d sh (wholeSt sh) i hi]
        by_cases h7 : 7 ≤ i
        · rw [spread_fl 0 c d sh (wholeSt sh) (i - 5) (by omega)]
        · rw [if_neg (by omega), if_neg (by omega)]
      constructor
      · intro h i hi; rw [← e i hi, ← h i hi, unhide hf]
      · intro h i hi; rw [e i hi, ← h i hi, unhide hf]
    have HANS : Hid (lineL (placesOf c sh st) = (if r = true then d else 0, r)) := by
      show _ = _
      cases r with
      | true => rw [line_lined hsb (by omega) (by rw [hdn]; exact hrr.mpr rfl), hdn]; rfl
      | false => rw [line_not hsb (by omega) (by rw [hdn]; exact fun h => by cases hrr.mp h)]; rfl
    have HNE := hide (fun w' => run_neq_lay (bareF f 5) (bareF g 5) r HEQ w')
    have HWC : Hid (∀ w0 : World, Row w0 (some ⟨w.heap.size, 2, none⟩) n sh → Calls Try.prog 46 #[.slice (some ⟨w.heap.size, 2, none⟩) n 5] w0 fun e w' => e = .returned (lay (fl 0 sh (wholeSt sh))) ∧ Below w0.heap.size w0 w') := fun w0 h0 => wholeOf_any _ n 5 sh w0 h0 hsb
    have HSC : Hid (∀ w0 : World, Calls Try.prog 48 #[lay (fl 0 sh (wholeSt sh)), .int .i64 c, .int .i64 d] w0 fun e w' => e = .returned (lay g) ∧ Below w0.heap.size w0 w') := fun w0 => by
      rw [← hg]
      refine spread_any _ c d (fun k hk => ?_) hd0 hd1 w0
      rw [fl_str]
      by_cases hk' : k < sh.length
      · rw [wholeSt_get sh hk']
        have := tailProd_bd hin (k + 1)
        omega
      · rw [getD_long (by simp [wholeSt]; omega)]; omega
    have HDC : Hid (∀ w0 : World, Calls Try.prog 51 #[lay f] w0 fun e w' => e = .returned (.int .i64 d) ∧ Below w0.heap.size w0 w') := fun w0 => by
      have := firstStep_any f w0
      rwa [hd] at this
    have HBC : Hid (∀ (f' : Nat → Int) (w0 : World), Calls Try.prog 52 #[lay f'] w0 fun e w' => e = .returned (lay (bareF f' 5)) ∧ Below w0.heap.size w0 w') := fun f' w0 => bare_any f' w0
    have HRW : Hid (∀ wx, Below W.heap.size W wx → Row wx (some ⟨w.heap.size, 2, none⟩) n sh) := fun wx h => ((unhide HL).below (Nat.le_refl _) h).row sh hn 2 (by omega) (fun i hi => by rw [← unhide hf]; exact fl_len c sh st (by omega))
    have hf0 : f 0 = c := by rw [← unhide hf]; rfl
    have hf1 : f 1 = (n : Int) := by rw [← unhide hf, fl_1, hn]
    have HC01 : Hid (∀ wx, Below W.heap.size W wx → wx.cell? ⟨w.heap.size, 0, none⟩ = some (.int .i64 c) ∧ wx.cell? ⟨w.heap.size, 1, none⟩ = some (.int .i64 n)) := fun wx h => ⟨by rw [((unhide HL).below (Nat.le_refl _) h).at (by omega), hf0], by rw [((unhide HL).below (Nat.le_refl _) h).at (by omega), hf1]⟩
    generalize fl 0 sh (wholeSt sh) = gw at *
    have h5i : (n : Int) ≤ 5 := by omega
    have h0i : (0 : Int) ≤ n := by omega
    clear hcn hn hst hcb hle h5 hin hsb hr hd hdn hrr hg hf0 hf1
    go_enter Try.func49, Try.ntmps49
    go_upto_region 1 with fail
    rw [unhide HWE]
    clear HWE
    go_upto_region 4 with (first
      | (go_at_call 47; refine (count_eq c sh st (unhide HSB) f hf _ HCN _).mono ?_; rintro e w2 ⟨rfl, hb2⟩; have HBW2 := hide hb2; obtain ⟨u0, u1, u2, u3, u4, u5, u6, u7, u8, u9, u10, u11, v0, v1, v2, v3, v4, v5, v6, v7, v8, v9, v10, v11, ul⟩ := ((unhide HL).below (Nat.le_refl _) hb2).all; clear hb2)
      | (go_at_call 51; refine (unhide HDC _).mono ?_; rintro e w3 ⟨rfl, hb3⟩; have HBW3 := hide ((unhide HBW2).trans (hb3.mono (unhide HBW2).size)); clear hb3))
    clear x0 x1 x2 x3 x4 x5 x6 x7 x8 x9 x10 x11 u0 u1 u2 u3 u4 u5 u6 u7 u8 u9 u10 u11 v0 v1 v2 v3 v4 v5 v6 v7 v8 v9 v10 v11 ul
    have HL3 := hide ((unhide HL).below (Nat.le_refl _) (unhide HBW3))
    have HB3 := hide ((unhide HB).trans ((unhide HBW3).mono (unhide HB).size))
    have HR3 : Hid (∀ wx, Below w3.heap.size w3 wx → Row wx (some ⟨w.heap.size, 2, none⟩) n sh) := fun wx h => unhide HRW wx ((unhide HBW3).trans (h.mono (unhide HBW3).size))
    have HK3 : Hid (∀ wx, Below w3.heap.size w3 wx → Below w3.heap.size w3 wx ∧ wx.cell? ⟨w.heap.size, 0, none⟩ = some (.int .i64 c) ∧ wx.cell? ⟨w.heap.size, 1, none⟩ = some (.int .i64 n)) := fun wx h => ⟨h, unhide HC01 wx ((unhide HBW3).trans (h.mono (unhide HBW3).size))⟩
    have hlw3 := (unhide HL3).lt
    have hB0 : Below w3.heap.size w3 w3.drew := (Below.refl _ _).drew
    have hB1 : Below w3.heap.size w3 ((w3.alloc objZ).drew) := ((Below.refl _ _).alloc (Nat.le_refl _) _).drew
    have hS0 : w3.heap.size ≤ w3.drew.heap.size := Nat.le_refl _
    have hS1 : w3.heap.size ≤ ((w3.alloc objZ).drew).heap.size := by simp
    have HSZ : Hid (∀ wx, Below w3.heap.size w3 wx → w3.heap.size ≤ (wx.alloc objZ).heap.size) := fun wx h => by have := h.size; simp; omega
    have HA0 := hide (unhide HR3 _ hB0)
    have HA1 := hide (unhide HR3 _ hB1)
    have HKD : Hid (∀ wx, wx = w3.drew → Below w3.heap.size w3 wx ∧ wx.cell? ⟨w.heap.size, 0, none⟩ = some (.int .i64 c) ∧ wx.cell? ⟨w.heap.size, 1, none⟩ = some (.int .i64 n)) := fun wx h => by rw [h]; exact unhide HK3 _ (Below.refl _ _).drew
    have HKD2 : Hid (Below w3.heap.size w3 ((w3.alloc objZ).drew) ∧ ((w3.alloc objZ).drew).cell? ⟨w.heap.size, 0, none⟩ = some (.int .i64 c) ∧ ((w3.alloc objZ).drew).cell? ⟨w.heap.size, 1, none⟩ = some (.int .i64 n)) := unhide HK3 _ ((Below.refl _ _).alloc (Nat.le_refl _) _).drew
    have HKS : Hid (∀ wx pb, Below w3.heap.size w3 wx → w3.heap.size ≤ pb → Below w3.heap.size w3 (((((((((((((wx.setCell ⟨pb, 0, none⟩ (.int .i64 (g 0))).setCell ⟨pb, 1, none⟩ (.int .i64 (g 1))).setCell ⟨pb, 2, none⟩ (.int .i64 (g 2))).setCell ⟨pb, 3, none⟩ (.int .i64 (g 3))).setCell ⟨pb, 4, none⟩ (.int .i64 (g 4))).setCell ⟨pb, 5, none⟩ (.int .i64 (g 5))).setCell ⟨pb, 6, none⟩ (.int .i64 (g 6))).setCell ⟨pb, 7, none⟩ (.int .i64 (g 7))).setCell ⟨pb, 8, none⟩ (.int .i64 (g 8))).setCell ⟨pb, 9, none⟩ (.int .i64 (g 9))).setCell ⟨pb, 10, none⟩ (.int .i64 (g 10))).setCell ⟨pb, 11, none⟩ (.int .i64 (g 11)))) ∧ (((((((((((((wx.setCell ⟨pb, 0, none⟩ (.int .i64 (g 0))).setCell ⟨pb, 1, none⟩ (.int .i64 (g 1))).setCell ⟨pb, 2, none⟩ (.int .i64 (g 2))).setCell ⟨pb, 3, none⟩ (.int .i64 (g 3))).setCell ⟨pb, 4, none⟩ (.int .i64 (g 4))).setCell ⟨pb, 5, none⟩ (.int .i64 (g 5))).setCell ⟨pb, 6, none⟩ (.int .i64 (g 6))).setCell ⟨pb, 7, none⟩ (.int .i64 (g 7))).setCell ⟨pb, 8, none⟩ (.int .i64 (g 8))).setCell ⟨pb, 9, none⟩ (.int .i64 (g 9))).setCell ⟨pb, 10, none⟩ (.int .i64 (g 10))).setCell ⟨pb, 11, none⟩ (.int .i64 (g 11)))).cell? ⟨w.heap.size, 0, none⟩ = some (.int .i64 c) ∧ (((((((((((((wx.setCell ⟨pb, 0, none⟩ (.int .i64 (g 0))).setCell ⟨pb, 1, none⟩ (.int .i64 (g 1))).setCell ⟨pb, 2, none⟩ (.int .i64 (g 2))).setCell ⟨pb, 3, none⟩ (.int .i64 (g 3))).setCell ⟨pb, 4, none⟩ (.int .i64 (g 4))).setCell ⟨pb, 5, none⟩ (.int .i64 (g 5))).setCell ⟨pb, 6, none⟩ (.int .i64 (g 6))).setCell ⟨pb, 7, none⟩ (.int .i64 (g 7))).setCell ⟨pb, 8, none⟩ (.int .i64 (g 8))).setCell ⟨pb, 9, none⟩ (.int .i64 (g 9))).setCell ⟨pb, 10, none⟩ (.int .i64 (g 10))).setCell ⟨pb, 11, none⟩ (.int .i64 (g 11)))).cell? ⟨w.heap.size, 1, none⟩ = some (.int .i64 n)) := fun wx pb h hp => unhide HK3 (sets12 wx pb g) (Below.sets12 h hp g)
    have HKN : Hid (∀ wx, Below w3.heap.size w3 wx → ∀ o, Below w3.heap.size w3 (wx.alloc o) ∧ (wx.alloc o).cell? ⟨w.heap.size, 0, none⟩ = some (.int .i64 c) ∧ (wx.alloc o).cell? ⟨w.heap.size, 1, none⟩ = some (.int .i64 n)) := fun wx h o => unhide HK3 _ (h.alloc h.size o)
    clear HRW HC01 HL HB HBW2 HBW3 HDC HCN HSB
    go_cut [5] (fun v wx => GotB w3 g v wx)
    case first =>
      go_region_held3 (fun wx => Below w3.heap.size w3 wx ∧ wx.cell? ⟨w.heap.size, 0, none⟩ = some (.int .i64 c) ∧ wx.cell? ⟨w.heap.size, 1, none⟩ = some (.int .i64 n))
        (first | with_reducible exact unhide HFin | with_reducible exact unhide HK3 _ hKB | with_reducible exact unhide HK3 _ hKA | with_reducible exact unhide HKD _ rfl | with_reducible exact unhide HKN _ hKB _ | with_reducible exact unhide HKN _ hKA _ | with_reducible exact unhide HKD2)
        (first
        | (go_at_call 46; (with_reducible refine (unhide HWC _ (unhide HA0)).mono ?_); rintro e wA ⟨rfl, hbA⟩; have hKA : Below w3.heap.size w3 wA := hB0.trans (hbA.mono hS0); clear hbA)
        | (go_at_call 46; (with_reducible refine (unhide HWC _ (unhide HA1)).mono ?_); rintro e wA ⟨rfl, hbA⟩; have hKA : Below w3.heap.size w3 wA := hB1.trans (hbA.mono hS1); have PA := hide (lbx_A w3 hbA); clear hbA)
        | (go_at_call 48; (with_reducible refine (unhide HSC _).mono ?_); rintro e wB ⟨rfl, hbB⟩; (with_reducible have hKB : Below w3.heap.size w3 wB := hKA.trans (hbB.mono hKA.size)); (with_reducible have PB := hide ((unhide PA).below (Nat.le_refl _) hbB)); have HFin := hide (unhide HKS wB w3.heap.size hKB (Nat.le_refl _)); obtain ⟨r0, r1, r2, r3, r4, r5, r6, r7, r8, r9, r10, r11, s0, s1, s2, s3, s4, s5, s6, s7, s8, s9, s10, s11, rl⟩ := (unhide PB).all; clear hbB)
        | (go_at_call 48; (with_reducible refine (unhide HSC _).mono ?_); rintro e wB ⟨rfl, hbB⟩; (with_reducible have hKB : Below w3.heap.size w3 wB := hKA.trans (hbB.mono hKA.size)); clear hbB)
        | (go_at_call 48; (with_reducible refine (unhide HSC _).mono ?_); rintro e wB ⟨rfl, hbB⟩; have hKB : Below w3.heap.size w3 wB := (hKA.alloc hKA.size objZ).trans (hbB.mono (unhide HSZ _ hKA)); have PC := hide (lbx_B wA hbB); have HFin := hide (unhide HKS wB wA.heap.size hKB hKA.size); obtain ⟨r0, r1, r2, r3, r4, r5, r6, r7, r8, r9, r10, r11, s0, s1, s2, s3, s4, s5, s6, s7, s8, s9, s10, s11, rl⟩ := (unhide PC).all; clear hbB))
      all_goals go_wp2_with fail
      all_goals go_meet
      · exact ⟨_, rfl, hKB.size, LBox.new wB g, hKB.alloc hKB.size _⟩
      · exact ⟨_, rfl, hKA.size, (unhide PC).sets g, Below.sets12 hKB hKA.size g⟩
      · exact ⟨_, rfl, Nat.le_refl _, (unhide PB).sets g, Below.sets12 hKB (Nat.le_refl _) g⟩
    case rest =>
      obtain ⟨w4, hw4⟩ : ∃ x, x = wc := ⟨_, rfl⟩
      subst hw4
      obtain ⟨pb, rfl, hpb, hlb, hb4⟩ := hcut
      have HL4 := hide ((unhide HL3).below (Nat.le_refl _) hb4)
      have HB4 := hide ((unhide HB3).trans (hb4.mono (unhide HB3).size))
      have HP4 := hide hlb
      have HK4 : Hid (∀ wx, Below w4.heap.size w4 wx → (wx.cell? ⟨w.heap.size, 0, none⟩ = some (.int .i64 (f 0)) ∧ wx.cell? ⟨w.heap.size, 1, none⟩ = some (.int .i64 (f 1)) ∧ wx.cell? ⟨w.heap.size, 2, none⟩ = some (.int .i64 (f 2)) ∧ wx.cell? ⟨w.heap.size, 3, none⟩ = some (.int .i64 (f 3)) ∧ wx.cell? ⟨w.heap.size, 4, none⟩ = some (.int .i64 (f 4)) ∧ wx.cell? ⟨w.heap.size, 5, none⟩ = some (.int .i64 (f 5)) ∧ wx.cell? ⟨w.heap.size, 6, none⟩ = some (.int .i64 (f 6)) ∧ wx.cell? ⟨w.heap.size, 7, none⟩ = some (.int .i64 (f 7)) ∧ wx.cell? ⟨w.heap.size, 8, none⟩ = some (.int .i64 (f 8)) ∧ wx.cell? ⟨w.heap.size, 9, none⟩ = some (.int .i64 (f 9)) ∧ wx.cell? ⟨w.heap.size, 10, none⟩ = some (.int .i64 (f 10)) ∧ wx.cell? ⟨w.heap.size, 11, none⟩ = some (.int .i64 (f 11))) ∧ (wx.cell? ⟨pb, 0, none⟩ = some (.int .i64 (g 0)) ∧ wx.cell? ⟨pb, 1, none⟩ = some (.int .i64 (g 1)) ∧ wx.cell? ⟨pb, 2, none⟩ = some (.int .i64 (g 2)) ∧ wx.cell? ⟨pb, 3, none⟩ = some (.int .i64 (g 3)) ∧ wx.cell? ⟨pb, 4, none⟩ = some (.int .i64 (g 4)) ∧ wx.cell? ⟨pb, 5, none⟩ = some (.int .i64 (g 5)) ∧ wx.cell? ⟨pb, 6, none⟩ = some (.int .i64 (g 6)) ∧ wx.cell? ⟨pb, 7, none⟩ = some (.int .i64 (g 7)) ∧ wx.cell? ⟨pb, 8, none⟩ = some (.int .i64 (g 8)) ∧ wx.cell? ⟨pb, 9, none⟩ = some (.int .i64 (g 9)) ∧ wx.cell? ⟨pb, 10, none⟩ = some (.int .i64 (g 10)) ∧ wx.cell? ⟨pb, 11, none⟩ = some (.int .i64 (g 11)))) := fun wx h => ⟨((unhide HL4).below (Nat.le_refl _) h).cells, ((unhide HP4).below (Nat.le_refl _) h).cells⟩
      clear HL3 HB3 HR3 HK3 HWC HSC hlb hb4
      have hq : ∀ w' : World, (binOp .neq 45 (lay (bareF f 5)) (lay (bareF g 5))).run Try.prog w' = .ok (.bool (!r)) w' := unhide HNE
      go_upto_region 5 with fail
      go_cut [24] (fun v wx => v = .bool (!r) ∧ Below w4.heap.size w4 wx)
      case first =>
        go_region_held3 (fun wx => (wx.cell? ⟨w.heap.size, 0, none⟩ = some (.int .i64 (f 0)) ∧ wx.cell? ⟨w.heap.size, 1, none⟩ = some (.int .i64 (f 1)) ∧ wx.cell? ⟨w.heap.size, 2, none⟩ = some (.int .i64 (f 2)) ∧ wx.cell? ⟨w.heap.size, 3, none⟩ = some (.int .i64 (f 3)) ∧ wx.cell? ⟨w.heap.size, 4, none⟩ = some (.int .i64 (f 4)) ∧ wx.cell? ⟨w.heap.size, 5, none⟩ = some (.int .i64 (f 5)) ∧ wx.cell? ⟨w.heap.size, 6, none⟩ = some (.int .i64 (f 6)) ∧ wx.cell? ⟨w.heap.size, 7, none⟩ = some (.int .i64 (f 7)) ∧ wx.cell? ⟨w.heap.size, 8, none⟩ = some (.int .i64 (f 8)) ∧ wx.cell? ⟨w.heap.size, 9, none⟩ = some (.int .i64 (f 9)) ∧ wx.cell? ⟨w.heap.size, 10, none⟩ = some (.int .i64 (f 10)) ∧ wx.cell? ⟨w.heap.size, 11, none⟩ = some (.int .i64 (f 11))) ∧ (wx.cell? ⟨pb, 0, none⟩ = some (.int .i64 (g 0)) ∧ wx.cell? ⟨pb, 1, none⟩ = some (.int .i64 (g 1)) ∧ wx.cell? ⟨pb, 2, none⟩ = some (.int .i64 (g 2)) ∧ wx.cell? ⟨pb, 3, none⟩ = some (.int .i64 (g 3)) ∧ wx.cell? ⟨pb, 4, none⟩ = some (.int .i64 (g 4)) ∧ wx.cell? ⟨pb, 5, none⟩ = some (.int .i64 (g 5)) ∧ wx.cell? ⟨pb, 6, none⟩ = some (.int .i64 (g 6)) ∧ wx.cell? ⟨pb, 7, none⟩ = some (.int .i64 (g 7)) ∧ wx.cell? ⟨pb, 8, none⟩ = some (.int .i64 (g 8)) ∧ wx.cell? ⟨pb, 9, none⟩ = some (.int .i64 (g 9)) ∧ wx.cell? ⟨pb, 10, none⟩ = some (.int .i64 (g 10)) ∧ wx.cell? ⟨pb, 11, none⟩ = some (.int .i64 (g 11))))
          (first | exact unhide HK4 _ hKB | exact unhide HK4 _ hKA | exact unhide HK4 _ (Below.refl _ _).drew)
          (first
          | (go_at_call 52; with_reducible refine (unhide HBC f _).mono ?_; rintro e wA ⟨rfl, hbA⟩; have hKA : Below w4.heap.size w4 wA := (Below.refl _ _).drew.trans (hbA.mono (by first | exact Nat.le_refl _ | (simp <;> omega))); clear hbA)
          | (go_at_call 52; with_reducible refine (unhide HBC g _).mono ?_; rintro e wB ⟨rfl, hbB⟩; have hKB : Below w4.heap.size w4 wB := hKA.trans (hbB.mono hKA.size); clear hbB))
        all_goals go_wp2_with fail
        all_goals go_meet
        all_goals case rel => exact ⟨rfl, hKB⟩
      case rest =>
        obtain ⟨w5, hw5⟩ : ∃ x, x = wc := ⟨_, rfl⟩
        subst hw5
        obtain ⟨rfl, hb5⟩ := hcut
        have HB5 := hide ((unhide HB4).trans (hb5.mono (unhide HB4).size))
        clear HK4 hq HL4 HP4 HB4 hb5
        cases r with
        | false =>
          go_wp2_with fail
          refine bodyPost_ret (v := .tuple #[.int .i64 0, .bool false]) (by simp [results, Try.results49, go_sem]) rfl ?_
          rw [unhide HANS]
          exact ⟨rfl, unhide HB5⟩
        | true =>
          go_wp2_with fail
          refine bodyPost_ret (v := .tuple #[.int .i64 d, .bool true]) (by simp [results, Try.results49, go_sem]) rfl ?_
          rw [unhide HANS]
          exact ⟨rfl, unhide HB5⟩

end Go.Proofs.Ytadbhidpmihghab
