import Derived.Test.YtadbhidpmihghaaImplLays
namespace Go.Proofs.Ytadbhidpmihghaa
open Go.RowKit

def spreadF (f : Nat → Int) (off d : Int) (k : Nat) : Nat → Int := fun i => if i = 0 then off else if 7 ≤ i ∧ i < 7 + k then f i * d else f i

theorem spreadF_step (f : Nat → Int) (off d : Int) (k : Nat) : upd (spreadF f off d k) (7 + k) (f (7 + k) * d) = spreadF f off d (k + 1) := by
  funext i
  unfold upd spreadF
  by_cases h : i = 7 + k
  · subst h; rw [if_pos rfl, if_neg (by omega), if_pos ⟨by omega, by omega⟩]
  · rw [if_neg h]
    by_cases h0 : i = 0
    · rw [if_pos h0, if_pos h0]
    · rw [if_neg h0, if_neg h0]
      by_cases h1 : 7 ≤ i ∧ i < 7 + k
      · rw [if_pos h1, if_pos ⟨h1.1, by omega⟩]
      · rw [if_neg h1, if_neg (by omega)]

/-- A spread layout. -/
theorem spread_fl (c off d : Int) (sh st : List Int) (i : Nat) (hi : i < 12) : spreadF (fl c sh st) off d 5 i = fl off sh (st.map (· * d)) i := by
  unfold spreadF fl
  by_cases h0 : i = 0
  · rw [if_pos h0, if_pos h0]
  · rw [if_neg h0, if_neg h0, if_neg h0]
    by_cases h7 : i < 7
    · rw [if_neg (by omega), if_pos h7, if_pos h7]
    · rw [if_pos ⟨by omega, by omega⟩, if_neg (by omega), if_neg h7, if_neg (by omega), if_neg h7]
      by_cases hk : i - 7 < st.length
      · simp [List.getD, hk]
      · rw [getD_long (zs := st) (by omega), getD_long (zs := st.map (· * d)) (by simp; omega)]; simp

set_option maxRecDepth 20000 in
set_option maxHeartbeats 4000000 in
theorem spread_any (f : Nat → Int) (off d : Int) (hf : ∀ k, k < 5 → -10000 ≤ f (7 + k) ∧ f (7 + k) ≤ 10000) (hd0 : -10000 ≤ d) (hd1 : d ≤ 10000) (w : World) :
    Calls Try.prog 59 #[lay f, .int .i64 off, .int .i64 d] w fun e w' => e = .returned (lay (spreadF f off d 5)) ∧ Below w.heap.size w w' := by
  obtain ⟨p, hp⟩ : ∃ p, w.heap.size = p := ⟨_, rfl⟩
  obtain ⟨B0, B1, hB⟩ := lays2 w f
  obtain ⟨W, hW⟩ : ∃ W, ((w.alloc (objL f)).alloc objZ) = W := ⟨_, rfl⟩
  rw [hW] at B0 B1 hB
  have hf0' := B0.free 0
  have hc0' := B0.at (i := 0) (by omega)
  have HL := hide (B0.set (i := 0) (by omega) off)
  have HZ := hide (B1.other (q := ⟨w.heap.size, 0, none⟩) (by show w.heap.size + 1 ≠ w.heap.size; omega) (.int .i64 off))
  have HB := hide (hB.setCell (p := ⟨w.heap.size, 0, none⟩) (Nat.le_refl _) (.int .i64 off))
  have hl0 := B0.lt
  have HFB := hide hf
  have HWE := hide hW
  have HPE := hide hp
  clear hf hW B0 B1 hB hp
  go_enter Try.func59, Try.ntmps59
  go_upto_region 1 with fail
  rw [unhide HWE]
  clear HWE
  go_upto_region 2 with fail
  clear hf0' hc0' hl0
  generalize W.setCell ⟨w.heap.size, 0, none⟩ (.int .i64 off) = V at *
  rw [unhide HPE] at HL HZ HB ⊢
  have HL0 : Hid (LBox V p (spreadF f off d 0)) := (unhide HL).congr (fun i _ => by unfold upd spreadF; by_cases h : i = 0 <;> simp [h]; omega)
  clear HL
  go_wp2_with fail
  go_loopw [10] (fun i wr => ∃ k : Nat, k ≤ 5 ∧ i = .int .i64 k ∧ Hid (LBox wr p (spreadF f off d k)) ∧ Hid (But (fun x => x = p) V wr)) (fun i _ => 5 - (intOf i).toNat)
  case atStart => exact ⟨0, by omega, rfl, HL0, hide (But.refl _ _)⟩
  case round =>
    obtain ⟨k, hk, rfl, hb, hbut⟩ := hrel
    by_cases hlt : k < 5
    · obtain ⟨y, hy⟩ : ∃ y, f (7 + k) = y := ⟨_, rfl⟩
      have hyb := unhide HFB k hlt
      rw [hy] at hyb
      have hcy : wr.cell? ⟨p, 7 + k, none⟩ = some (.int .i64 y) := by rw [(unhide hb).at (by omega)]; unfold spreadF; rw [if_neg (by omega), if_neg (by omega), hy]
      have hfy := (unhide hb).free (7 + k)
      obtain ⟨z, hz⟩ : ∃ z, z = y * d := ⟨_, rfl⟩
      have hzb : -100000000 ≤ z ∧ z ≤ 100000000 := by rw [hz]; exact mul_bd hyb.1 hyb.2 hd0 hd1
      have hw1 : IntKind.i64.wrap (y * d) = z := by rw [← hz, IntKind.wrap_i64]; omega
      have hlr := (unhide hb).lt
      have HN := hide ((unhide hb).set (i := 7 + k) (by omega) z)
      rw [hz, ← hy, spreadF_step, hy, ← hz] at HN
      have hki : (k : Int) < 5 := by omega
      have hk0 : (0 : Int) ≤ k := by omega
      clear hy hz
      go_wp2_with fail
      go_roundw
      case rel => exact ⟨k + 1, by omega, by go_num, HN, hide ((unhide hbut).setCell (p := ⟨p, 7 + k, none⟩) rfl _)⟩
      case measure => (simp [intOf] <;> omega)
    · obtain rfl : k = 5 := by omega
      have KZ := (unhide HZ).but (unhide hbut) (by show ¬ (p + 1 = p); omega)
      have KB := hide ((unhide HB).trans ((unhide hbut).below (B := p) (by have := (unhide HZ).lt; omega) (fun k hk => by omega)))
      have KL := unhide hb
      generalize hff : spreadF f off d 5 = g at *
      have HFF := hide hff
      obtain ⟨x0, x1, x2, x3, x4, x5, x6, x7, x8, x9, x10, x11, y0, y1, y2, y3, y4, y5, y6, y7, y8, y9, y10, y11, xl⟩ := KL.all
      obtain ⟨z0, z1, z2, z3, z4, z5, z6, z7, z8, z9, z10, z11, f0, f1, f2, f3, f4, f5, f6, f7, f8, f9, f10, f11, zl⟩ := KZ.all
      clear hff KL KZ HZ hb hbut
      go_wp2_with fail
      refine bodyPost_ret (v := lay g) (by simp [results, Try.results59, go_sem, z0, z1, z2, z3, z4, z5, z6, z7, z8, z9, z10, z11]) rfl ?_
      exact ⟨by rw [← unhide HFF], by rw [unhide HPE]; exact Below.sets12 (unhide KB) (by omega) g⟩

end Go.Proofs.Ytadbhidpmihghaa
