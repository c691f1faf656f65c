import Derived.Test.YtadbhidpmihghaaImplLays
namespace Go.Proofs.Ytadbhidpmihghaa
open Go.RowKit

/-- The stride of the last of the first k axes that has more than one element, by the cells of a layout. -/
def stepF (f : Nat → Int) : Nat → Int
  | 0 => 0
  | k + 1 => if 1 < f (2 + k) then f (7 + k) else stepF f k

set_option maxRecDepth 20000 in
set_option maxHeartbeats 4000000 in
theorem firstStep_any (f : Nat → Int) (w : World) :
    Calls Try.prog 58 #[lay f] w fun e w' => e = .returned (.int .i64 (stepF f 5)) ∧ Below w.heap.size w w' := by
  have HB : Hid (Below w.heap.size w (w.alloc (objL f))) := (Below.refl _ _).alloc (Nat.le_refl _) _
  have HL := hide (LBox.new w f)
  obtain ⟨x0, x1, x2, x3, x4, x5, x6, x7, x8, x9, x10, x11, y0, y1, y2, y3, y4, y5, y6, y7, y8, y9, y10, y11, xl⟩ := (LBox.new w f).all
  obtain ⟨W, hW⟩ : ∃ W, w.alloc (objL f) = W := ⟨_, rfl⟩
  rw [hW] at HB HL x0 x1 x2 x3 x4 x5 x6 x7 x8 x9 x10 x11 xl
  have HWE := hide hW
  clear hW y0 y1 y2 y3 y4 y5 y6 y7 y8 y9 y10 y11
  have hix0 : ∀ w' : World, (Instr.index 45 (.agg #[.int .i64 (f 2), .int .i64 (f 3), .int .i64 (f 4), .int .i64 (f 5), .int .i64 (f 6)]) (.int .i64 0)).run Try.prog w' = .ok (.int .i64 (f 2)) w' := fun w' => by kernel_rfl
  have hix1 : ∀ w' : World, (Instr.index 45 (.agg #[.int .i64 (f 2), .int .i64 (f 3), .int .i64 (f 4), .int .i64 (f 5), .int .i64 (f 6)]) (.int .i64 1)).run Try.prog w' = .ok (.int .i64 (f 3)) w' := fun w' => by kernel_rfl
  have hix2 : ∀ w' : World, (Instr.index 45 (.agg #[.int .i64 (f 2), .int .i64 (f 3), .int .i64 (f 4), .int .i64 (f 5), .int .i64 (f 6)]) (.int .i64 2)).run Try.prog w' = .ok (.int .i64 (f 4)) w' := fun w' => by kernel_rfl
  have hix3 : ∀ w' : World, (Instr.index 45 (.agg #[.int .i64 (f 2), .int .i64 (f 3), .int .i64 (f 4), .int .i64 (f 5), .int .i64 (f 6)]) (.int .i64 3)).run Try.prog w' = .ok (.int .i64 (f 5)) w' := fun w' => by kernel_rfl
  have hix4 : ∀ w' : World, (Instr.index 45 (.agg #[.int .i64 (f 2), .int .i64 (f 3), .int .i64 (f 4), .int .i64 (f 5), .int .i64 (f 6)]) (.int .i64 4)).run Try.prog w' = .ok (.int .i64 (f 6)) w' := fun w' => by kernel_rfl
  go_enter Try.func58, Try.ntmps58
  go_upto_region 1 with fail
  rw [unhide HWE]
  clear HWE
  go_wp2_with fail
  go_loop [3, 8] (fun s i => ∃ (k : Nat) (m : Int), k ≤ 5 ∧ i = .int .i64 k ∧ s = .int .i64 m ∧ Hid (stepF f k = m)) (fun _ i => 5 - (intOf i).toNat)
  case atStart => exact ⟨0, 0, by omega, rfl, rfl, rfl⟩
  case round =>
    obtain ⟨k, m, hk, rfl, rfl, hm⟩ := hrel
    by_cases hlt : k < 5
    · have HN : Hid (stepF f (k + 1) = if 1 < f (2 + k) then f (7 + k) else m) := by show (if _ then _ else _) = _; rw [unhide hm]
      obtain rfl | rfl | rfl | rfl | rfl : k = 0 ∨ k = 1 ∨ k = 2 ∨ k = 3 ∨ k = 4 := by omega
      all_goals
        simp only [Nat.reduceAdd] at HN
      · by_cases h : 1 < f 2
        · rw [if_pos h] at HN
          go_wp2_with fail
          go_round
          case rel => exact ⟨1, _, by omega, by go_num, rfl, HN⟩
          case measure => simp [intOf]
        · rw [if_neg h] at HN
          go_wp2_with fail
          go_round
          case rel => exact ⟨1, _, by omega, by go_num, rfl, HN⟩
          case measure => simp [intOf]
      · by_cases h : 1 < f 3
        · rw [if_pos h] at HN
          go_wp2_with fail
          go_round
          case rel => exact ⟨2, _, by omega, by go_num, rfl, HN⟩
          case measure => simp [intOf]
        · rw [if_neg h] at HN
          go_wp2_with fail
          go_round
          case rel => exact ⟨2, _, by omega, by go_num, rfl, HN⟩
          case measure => simp [intOf]
      · by_cases h : 1 < f 4
        · rw [if_pos h] at HN
          go_wp2_with fail
          go_round
          case rel => exact ⟨3, _, by omega, by go_num, rfl, HN⟩
          case measure => simp [intOf]
        · rw [if_neg h] at HN
          go_wp2_with fail
          go_round
          case rel => exact ⟨3, _, by omega, by go_num, rfl, HN⟩
          case measure => simp [intOf]
      · by_cases h : 1 < f 5
        · rw [if_pos h] at HN
          go_wp2_with fail
          go_round
          case rel => exact ⟨4, _, by omega, by go_num, rfl, HN⟩
          case measure => simp [intOf]
        · rw [if_neg h] at HN
          go_wp2_with fail
          go_round
          case rel => exact ⟨4, _, by omega, by go_num, rfl, HN⟩
          case measure => simp [intOf]
      · by_cases h : 1 < f 6
        · rw [if_pos h] at HN
          go_wp2_with fail
          go_round
          case rel => exact ⟨5, _, by omega, by go_num, rfl, HN⟩
          case measure => simp [intOf]
        · rw [if_neg h] at HN
          go_wp2_with fail
          go_round
          case rel => exact ⟨5, _, by omega, by go_num, rfl, HN⟩
          case measure => simp [intOf]
    · obtain rfl : k = 5 := by omega
      go_wp2_with fail
      go_ret
      exact ⟨ret_int (unhide hm).symm, unhide HB⟩

end Go.Proofs.Ytadbhidpmihghaa
