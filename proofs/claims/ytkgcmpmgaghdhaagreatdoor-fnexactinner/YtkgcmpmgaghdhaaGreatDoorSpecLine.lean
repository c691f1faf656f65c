import Derived.Test.YtkgcmpmgaghdhaaGreatDoorMFit0
import Derived.Test.YtkgcmpmgaghdhaaGreatDoorMFit0
namespace Go.Proofs.YtkgcmpmgaghdhaaGreatDoor
open Go.RowKit

theorem owns_cap {w : World} {base e size n m cap : Nat} {a : Option Addr} {xs : List Value} (h : w.ownsRow base e size (.slice a m cap) n xs) : n ≤ cap := by
  rcases h.2 with ⟨e, h0⟩ | ⟨g, cap', cur, e, _, _, hc, _⟩
  · omega
  · cases e; exact hc

set_option maxHeartbeats 1000000 in
theorem l4Line_any (c : Bool) (v1 : Value) (a2 : Option Addr) (n2 c2 p n A q : Nat) (dt : List Int) (w : World) (h2 : Row w a2 n2 dt) (hin : ∀ i, i < n → (p * n + i) * A + q < n2) (hp : p ≤ 10000) (hn : n ≤ 10000) (hA : A ≤ 10000) (hq : q ≤ 10000) (hn2 : n2 ≤ 10000) :
    Calls Tryz.prog 90 #[.agg #[.bool c, v1, .slice a2 n2 c2], .int .i64 p, .int .i64 n, .int .i64 A, .int .i64 q] w fun e w' => ∃ a' cap', e = .returned (.slice a' n cap') ∧ Own w' w.heap.size a' n (lineOf dt p n A q) ∧ Below w.heap.size w w' ∧ n ≤ cap' := by
  have H2 := hide h2
  have HIN := hide hin
  clear h2 hin
  obtain ⟨i0, hi, hz0, hz1, hz2⟩ := info_parts info_int
  go_enter Tryz.func90, Tryz.ntmps90
  go_wp2_with fail
  go_loopw [11, 12] (fun v i wr => ∃ k : Nat, k ≤ n ∧ i = .int .i64 k ∧ Hid (wr.ownsRow (w.heap.size + 1) 3 1 v k (((lineOf dt p n A q).take k).map (Value.int .i64))) ∧ Hid (Below (w.heap.size + 1) (w.alloc (.cells #[.bool c, v1, .slice a2 n2 c2] 25)) wr)) (fun _ i _ => n - (intOf i).toNat)
  case atStart =>
    refine ⟨0, Nat.zero_le _, rfl, ?_, ?_⟩
    · have := owns_empty (w.alloc (.cells #[.bool c, v1, .slice a2 n2 c2] 25))
      show World.ownsRow _ _ _ _ _ _ _
      simpa using this
    · exact (Below.refl _ _).alloc (by simp) _
  case round =>
    obtain ⟨k, hk, rfl, hown, hbl⟩ := hrel
    have hsz := (unhide hbl).size
    simp at hsz
    by_cases hlt : k < n
    · obtain ⟨j, hj⟩ : ∃ j, j = (p * n + k) * A + q := ⟨_, rfl⟩
      have hj2 := unhide HIN k hlt
      rw [← hj] at hj2
      have hidx : ((p : Int) * (n : Int) + (k : Int)) * (A : Int) + (q : Int) = (j : Int) := by rw [hj]; simp
      have e1a : 0 ≤ (p : Int) * (n : Int) := by rw [← Int.natCast_mul]; omega
      have e1b : (p : Int) * (n : Int) ≤ 100000000 := by
        have := Nat.mul_le_mul hp hn
        rw [← Int.natCast_mul]; omega
      have e2a : 0 ≤ ((p : Int) * (n : Int) + (k : Int)) * (A : Int) := Int.mul_nonneg (by omega) (by omega)
      have e2b : ((p : Int) * (n : Int) + (k : Int)) * (A : Int) ≤ 10000 := by omega
      obtain ⟨b, off, rfl, hblt, hc⟩ := (unhide H2).get hj2
      have hB0 : Below w.heap.size w wr := ((Below.refl _ _).alloc (Nat.le_refl _) _).trans ((unhide hbl).mono (by omega))
      have hc' := (hB0.cell (p := ⟨b, off + j, none⟩) hblt).trans hc
      have hbox : wr.cell? ⟨w.heap.size, 2, none⟩ = some (.slice (some ⟨b, off, none⟩) n2 c2) := by
        rw [(unhide hbl).cell (p := ⟨w.heap.size, 2, none⟩) (by simp)]
        simp
      obtain ⟨x, hx⟩ : ∃ x, x = dt.getD j 0 := ⟨_, rfl⟩
      rw [← hx] at hc'
      have HX : Hid (((lineOf dt p n A q).take (k + 1)).map (Value.int .i64) = ((lineOf dt p n A q).take k).map (Value.int .i64) ++ [.int .i64 x]) := by
        show _ = _
        rw [line_snoc _ _ _ _ _ _ hlt, ← hj, ← hx]
      clear hc hx hj
      have hown1 := unhide hown
      have HBL := hide (unhide hbl)
      clear hown hbl hB0
      go_wp2_with (at_builtin; refine wpList_append_own _ rfl _ _ 23 rfl (w.heap.size + 1) 3 i0 (.int .i64 0) 1 8 Tryz.underlying23 hi hz0 hz1 hz2 rfl (by decide) _ _ _ rfl (hown1.alloc _) ⟨wr.heap.size, 0, none⟩ 1 1 [.int .i64 x] rfl rfl (cells_new _ _) (one_one _) (by unfold maxLen; omega) (by omega) (by simp; omega) ?_; intro u1 w6 hown' hgrow hnil; clear hnil; obtain ⟨av, cv, rfl⟩ := owns_slice hown'; have HB := hide (below_append _ hown1 hsz hgrow); clear hgrow)
      have HN' : Hid (w6.ownsRow (w.heap.size + 1) 3 1 (.slice av (k + 1) cv) (k + 1) (((lineOf dt p n A q).take (k + 1)).map (Value.int .i64))) := by
        show w6.ownsRow _ _ _ _ _ _
        rw [unhide HX]
        exact hown'
      go_roundw
      case rel => exact ⟨k + 1, by omega, by go_num, HN', (unhide HBL).trans (unhide HB)⟩
      case measure => simp [intOf]; omega
    · have hkn : k = n := by omega
      subst hkn
      have hown1 := unhide hown
      rw [List.take_of_length_le (by rw [line_len]; exact Nat.le_refl _)] at hown1
      obtain ⟨ad, cd, rfl, hD⟩ := Own.of_owns hown1 (by omega)
      have hcap := owns_cap hown1
      have HD := hide (hD.mono (B' := w.heap.size) (by omega))
      have HB0 : Hid (Below w.heap.size w wr) := ((Below.refl _ _).alloc (Nat.le_refl _) _).trans ((unhide hbl).mono (by omega))
      clear hown1 hown hD hbl
      go_wp2
      go_ret
      exact ⟨ad, cd, rfl, unhide HD, unhide HB0, hcap⟩

end Go.Proofs.YtkgcmpmgaghdhaaGreatDoor
