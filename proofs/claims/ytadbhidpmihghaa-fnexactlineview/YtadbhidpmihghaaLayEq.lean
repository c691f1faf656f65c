import Derived.Test.YtadbhidpmihghaaLayBox
import Derived.Laws.StructEq
namespace Go.Proofs.Ytadbhidpmihghaa
open Go.RowKit

theorem run_eq_arr5 (d : Nat) (a0 a1 a2 a3 a4 b0 b1 b2 b3 b4 : Int) (w : World) : (Op.equalIn (d + 1 + 1) 45 (.agg #[.int .i64 a0, .int .i64 a1, .int .i64 a2, .int .i64 a3, .int .i64 a4]) (.agg #[.int .i64 b0, .int .i64 b1, .int .i64 b2, .int .i64 b3, .int .i64 b4])).run Try.prog w = .ok (a0 == b0 && (a1 == b1 && (a2 == b2 && (a3 == b3 && a4 == b4)))) w := by
  have u3 := Try.underlying3
  have z3 := Try.sizeOf3
  rw [Op.equalIn]
  simp only [Sem.run_bind, run_underlying Try.underlying45, Result.andThen_ok]
  simp only [Std.Legacy.Range.forIn_eq_forIn_range', Std.Legacy.Range.size, Nat.sub_zero, Nat.add_sub_cancel, Nat.div_one, List.range'_succ, List.range'_zero, List.forIn_cons, List.forIn_nil]
  go_simp
  by_cases h0 : a0 = b0
  · by_cases h1 : a1 = b1
    · by_cases h2 : a2 = b2
      · by_cases h3 : a3 = b3
        · by_cases h4 : a4 = b4 <;> simp [h0, h1, h2, h3, h4]
        · simp [h0, h1, h2, h3]
      · simp [h0, h1, h2]
    · simp [h0, h1]
  · simp [h0]

theorem run_neq_lay (f g : Nat → Int) (r : Bool) (hr : Hid ((∀ i, i < 12 → f i = g i) ↔ r = true)) (w : World) : (binOp .neq 47 (lay f) (lay g)).run Try.prog w = .ok (.bool (!r)) w := by
  have u3 := Try.underlying3
  have hS : Try.prog.underlying 47 = some (.struct (Try.prog.fieldsOf 47)) := by kernel_rfl
  have hp : Try.prog.stoodInHeld 47 = false := by kernel_rfl
  have e1 := fun w => run_eq_arr5 9997 (f 2) (f 3) (f 4) (f 5) (f 6) (g 2) (g 3) (g 4) (g 5) (g 6) w
  have e2 := fun w => run_eq_arr5 9997 (f 7) (f 8) (f 9) (f 10) (f 11) (g 7) (g 8) (g 9) (g 10) (g 11) w
  have key : (Op.equalIn 10000 47 (lay f) (lay g)).run Try.prog w = .ok r w := by
    rw [show (10000 : Nat) = 9999 + 1 from rfl, run_equalIn_agg w 9999 47 _ _ hS hp]
    simp only [Program.fieldsOf, Try.underlying47]
    go_simp
    cases r with
    | true =>
      have h := (unhide hr).mpr rfl
      simp [h 0 (by omega), h 1 (by omega), h 2 (by omega), h 3 (by omega), h 4 (by omega), h 5 (by omega), h 6 (by omega), h 7 (by omega), h 8 (by omega), h 9 (by omega), h 10 (by omega), h 11 (by omega)]
    | false =>
      have h : ¬ ∀ i, i < 12 → f i = g i := fun h => by cases (unhide hr).mp h
      by_cases h0 : f 0 = g 0
      · by_cases h1 : f 1 = g 1
        · rw [if_pos h0, if_pos h1]
          split
          · rfl
          · rename_i h2
            split
            · rfl
            · rename_i h3
              exfalso
              simp only [Classical.not_imp, Classical.not_not] at h2 h3
              obtain ⟨k2, k3, k4, k5, k6⟩ := h2
              obtain ⟨k7, k8, k9, k10, k11⟩ := h3
              apply h
              intro i hi
              rcases i with _ | _ | _ | _ | _ | _ | _ | _ | _ | _ | _ | _ | i
              · exact h0
              · exact h1
              · exact k2
              · exact k3
              · exact k4
              · exact k5
              · exact k6
              · exact k7
              · exact k8
              · exact k9
              · exact k10
              · exact k11
              · exact absurd hi (by omega)
        · rw [if_pos h0, if_neg h1]
      · rw [if_neg h0]
  rw [run_neq_struct, key]
  rfl

end Go.Proofs.Ytadbhidpmihghaa
