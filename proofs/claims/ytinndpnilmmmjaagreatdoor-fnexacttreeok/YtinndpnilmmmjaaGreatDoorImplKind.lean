import Derived.Test.YtinndpnilmmmjaaGreatDoorMFit0
import Derived.Test.YtinndpnilmmmjaaGreatDoorMFit0
import Derived.Test.YtinndpnilmmmjaaGreatDoorMFit0
import Derived.Shelf.Abstract
namespace Go.Proofs.YtinndpnilmmmjaaGreatDoor
open Go.RowKit

theorem within_any (n lo hi : Int) (w : World) : Calls Tryz.prog 29 #[.int .i64 n, .int .i64 lo, .int .i64 hi] w fun e w' => e = .returned (.bool (decide (lo ≤ n ∧ n ≤ hi))) ∧ w' = w := by
  obtain ⟨r, hr⟩ : ∃ r, decide (lo ≤ n ∧ n ≤ hi) = r := ⟨_, rfl⟩
  rw [hr]
  have HR := hide hr
  clear hr
  by_cases h1 : lo ≤ n
  · by_cases h2 : n ≤ hi
    · have HE : Hid (true = r) := by show _ = _; rw [← unhide HR, decide_eq_true ⟨h1, h2⟩]
      go_enter Tryz.func29, Tryz.ntmps29
      go_wp2
      go_ret
      refine ⟨ret_bool ?_, rfl⟩
      first | exact unhide HE | (rw [← unhide HE]; simp; omega)
    · have HE : Hid (false = r) := by show _ = _; rw [← unhide HR, decide_eq_false (fun h => h2 h.2)]
      go_enter Tryz.func29, Tryz.ntmps29
      go_wp2
      go_ret
      refine ⟨ret_bool ?_, rfl⟩
      first | exact unhide HE | (rw [← unhide HE]; simp; omega)
  · have HE : Hid (false = r) := by show _ = _; rw [← unhide HR, decide_eq_false (fun h => h1 h.1)]
    go_enter Tryz.func29, Tryz.ntmps29
    go_wp2
    go_ret
    refine ⟨ret_bool ?_, rfl⟩
    first | exact unhide HE | (rw [← unhide HE]; simp; omega)

theorem withinOk (n lo hi : Int) (r : Bool) (h : decide (lo ≤ n ∧ n ≤ hi) = r) (w : World) : Calls Tryz.prog 29 #[.int .i64 n, .int .i64 lo, .int .i64 hi] w fun e w' => e = .returned (.bool r) ∧ w' = w := by
  rw [← h]; exact within_any n lo hi w

theorem scalar_any (n : Int) (w : World) : Calls Tryz.prog 62 #[.int .i64 n] w fun e w' => e = .returned (.bool (isSc n)) ∧ w' = w := by
  have HC := hide (fun W => withinOk n 1 16 (isSc n) rfl W)
  go_enter Tryz.func62, Tryz.ntmps62
  go_wp2_with (first | (go_at_call 29; refine (unhide HC _).mono ?_; rintro e w1 ⟨rfl, rfl⟩))
  go_ret
  exact ⟨rfl, rfl⟩

theorem number_any (n : Int) (w : World) : Calls Tryz.prog 118 #[.int .i64 n] w fun e w' => e = .returned (.bool (isNum n)) ∧ w' = w := by
  have HC := hide (fun W => withinOk n (-1000000000000000) 1000000000000000 (isNum n) rfl W)
  go_enter Tryz.func118, Tryz.ntmps118
  go_wp2_with (first | (go_at_call 29; refine (unhide HC _).mono ?_; rintro e w1 ⟨rfl, rfl⟩))
  go_ret
  exact ⟨rfl, rfl⟩

theorem isE_eq (k : Int) : isE k = (decide (k ≠ 8) && decide (1 ≤ k ∧ k ≤ 10)) := by
  unfold isE sortK
  rw [Bool.eq_iff_iff]
  simp only [Bool.and_eq_true, decide_eq_true_eq]
  repeat' split
  all_goals omega
theorem isP_eq (k : Int) : isP k = decide (1 ≤ k ∧ k ≤ 10) := by
  unfold isP sortK
  rw [decide_eq_decide]
  repeat' split
  all_goals omega
theorem isF_eq (k : Int) : isF k = decide (11 ≤ k ∧ k ≤ 18) := by
  unfold isF sortK
  rw [decide_eq_decide]
  repeat' split
  all_goals omega
theorem isS_eq (k : Int) : isS k = (isE k || decide (19 ≤ k ∧ k ≤ 23)) := by
  unfold isS isE sortK
  rw [Bool.eq_iff_iff]
  simp only [Bool.or_eq_true, decide_eq_true_eq]
  repeat' split
  all_goals omega
theorem isI_eq (k : Int) : isI k = (isS k || decide (k = 24)) := by
  unfold isI isS sortK
  rw [Bool.eq_iff_iff]
  simp only [Bool.or_eq_true, decide_eq_true_eq]
  repeat' split
  all_goals omega

/-- What asks a node's kind. -/
def KindSaid (g : Nat) (p : Int → Bool) : Prop := ∀ (k : Int) (v1 v2 v3 v4 v5 : Value) (w : World), Calls Tryz.prog g #[.agg #[.int .i64 k, v1, v2, v3, v4, v5]] w fun e w' => e = .returned (.bool (p k)) ∧ Below w.heap.size w w'

theorem isPart_any : KindSaid 65 isP := fun k v1 v2 v3 v4 v5 w => by
  have HC := hide (fun W => withinOk k 1 10 (isP k) (isP_eq k).symm W)
  go_enter Tryz.func65, Tryz.ntmps65
  go_wp2_with (first | (go_at_call 29; refine (unhide HC _).mono ?_; rintro e w1 ⟨rfl, rfl⟩))
  go_ret
  exact ⟨rfl, (Below.refl _ _).alloc (Nat.le_refl _) _⟩

theorem isFunction_any : KindSaid 66 isF := fun k v1 v2 v3 v4 v5 w => by
  have HC := hide (fun W => withinOk k 11 18 (isF k) (isF_eq k).symm W)
  go_enter Tryz.func66, Tryz.ntmps66
  go_wp2_with (first | (go_at_call 29; refine (unhide HC _).mono ?_; rintro e w1 ⟨rfl, rfl⟩))
  go_ret
  exact ⟨rfl, (Below.refl _ _).alloc (Nat.le_refl _) _⟩

theorem isBraces_any : KindSaid 68 isB := fun k v1 v2 v3 v4 v5 w => by
  have HE : Hid ((k == 16) = isB k) := by show _ = _; unfold isB; by_cases h : k = 16 <;> simp [h]
  go_enter Tryz.func68, Tryz.ntmps68
  go_wp2
  go_ret
  exact ⟨ret_bool (unhide HE), (Below.refl _ _).alloc (Nat.le_refl _) _⟩

theorem isExpr_any : KindSaid 64 isE := fun k v1 v2 v3 v4 v5 w => by
  by_cases h8 : k = 8
  · subst h8
    have HE : Hid (false = isE 8) := rfl
    go_enter Tryz.func64, Tryz.ntmps64
    go_wp2_with fail
    go_ret
    exact ⟨ret_bool (unhide HE), (Below.refl _ _).alloc (Nat.le_refl _) _⟩
  · have hn : (k != 8) = true := by simpa using h8
    have HC := hide (fun W => withinOk k 1 10 (isE k) (by rw [isE_eq, decide_eq_true h8, Bool.true_and]) W)
    clear h8
    go_enter Tryz.func64, Tryz.ntmps64
    go_wp2_with (first | (go_at_call 29; refine (unhide HC _).mono ?_; rintro e w1 ⟨rfl, rfl⟩))
    go_ret
    exact ⟨rfl, (Below.refl _ _).alloc (Nat.le_refl _) _⟩

theorem kindOk {g : Nat} {p : Int → Bool} (h : KindSaid g p) (k : Int) (r : Bool) (hr : p k = r) (v1 v2 v3 v4 v5 : Value) (w : World) : Calls Tryz.prog g #[.agg #[.int .i64 k, v1, v2, v3, v4, v5]] w fun e w' => e = .returned (.bool r) ∧ Below w.heap.size w w' := by rw [← hr]; exact h k v1 v2 v3 v4 v5 w

theorem isStmt_any : KindSaid 70 isS := fun k v1 v2 v3 v4 v5 w => by
  cases hE : isE k with
  | true =>
    have HC := hide (kindOk isExpr_any k true hE v1 v2 v3 v4 v5 (w.alloc (.cells #[.int .i64 k, v1, v2, v3, v4, v5] 47)))
    have HE : Hid (true = isS k) := by show _ = _; rw [isS_eq, hE]; rfl
    clear hE
    go_enter Tryz.func70, Tryz.ntmps70
    go_wp2_with (first | (go_at_call 64; refine (unhide HC).mono ?_; rintro e w1 ⟨rfl, hb1⟩; have HB1 := hide (((Below.refl w.heap.size w).alloc (Nat.le_refl _) _).trans (hb1.mono (by simp))); clear hb1))
    go_ret
    exact ⟨ret_bool (unhide HE), unhide HB1⟩
  | false =>
    have HC := hide (kindOk isExpr_any k false hE v1 v2 v3 v4 v5 (w.alloc (.cells #[.int .i64 k, v1, v2, v3, v4, v5] 47)))
    have HW := hide (fun W => withinOk k 19 23 (isS k) (by rw [isS_eq, hE, Bool.false_or]) W)
    clear hE
    go_enter Tryz.func70, Tryz.ntmps70
    go_wp2_with (first | (go_at_call 64; refine (unhide HC).mono ?_; rintro e w1 ⟨rfl, hb1⟩; have HB1 := hide (((Below.refl w.heap.size w).alloc (Nat.le_refl _) _).trans (hb1.mono (by simp))); have hc0 : w1.cell? ⟨w.heap.size, 0, none⟩ = some (.int .i64 k) := ((hb1.cell (p := ⟨w.heap.size, 0, none⟩) (by simp)).trans (by simp)); clear hb1) | (go_at_call 29; refine (unhide HW _).mono ?_; rintro e w2 ⟨rfl, hw2⟩; obtain rfl := hw2.symm))
    go_ret
    exact ⟨rfl, unhide HB1⟩

theorem isItem_any : KindSaid 67 isI := fun k v1 v2 v3 v4 v5 w => by
  cases hE : isS k with
  | true =>
    have HC := hide (kindOk isStmt_any k true hE v1 v2 v3 v4 v5 (w.alloc (.cells #[.int .i64 k, v1, v2, v3, v4, v5] 47)))
    have HE : Hid (true = isI k) := by show _ = _; rw [isI_eq, hE]; rfl
    clear hE
    go_enter Tryz.func67, Tryz.ntmps67
    go_wp2_with (first | (go_at_call 70; refine (unhide HC).mono ?_; rintro e w1 ⟨rfl, hb1⟩; have HB1 := hide (((Below.refl w.heap.size w).alloc (Nat.le_refl _) _).trans (hb1.mono (by simp))); clear hb1))
    go_ret
    exact ⟨ret_bool (unhide HE), unhide HB1⟩
  | false =>
    have HC := hide (kindOk isStmt_any k false hE v1 v2 v3 v4 v5 (w.alloc (.cells #[.int .i64 k, v1, v2, v3, v4, v5] 47)))
    have HE : Hid ((k == 24) = isI k) := by show _ = _; rw [isI_eq, hE, Bool.false_or]; by_cases h : k = 24 <;> simp [h]
    clear hE
    go_enter Tryz.func67, Tryz.ntmps67
    go_wp2_with (first | (go_at_call 70; refine (unhide HC).mono ?_; rintro e w1 ⟨rfl, hb1⟩; have HB1 := hide (((Below.refl w.heap.size w).alloc (Nat.le_refl _) _).trans (hb1.mono (by simp))); have hc0 : w1.cell? ⟨w.heap.size, 0, none⟩ = some (.int .i64 k) := ((hb1.cell (p := ⟨w.heap.size, 0, none⟩) (by simp)).trans (by simp)); clear hb1))
    go_ret
    exact ⟨ret_bool (unhide HE), unhide HB1⟩

theorem eg_expr : ∀ args w, (callFunc 64 args).run Tryz.prog w = .ok (.enter 64 args) w := enters_of Tryz.func64 (by kernel_rfl) rfl
theorem eg_part : ∀ args w, (callFunc 65 args).run Tryz.prog w = .ok (.enter 65 args) w := enters_of Tryz.func65 (by kernel_rfl) rfl
theorem eg_fun : ∀ args w, (callFunc 66 args).run Tryz.prog w = .ok (.enter 66 args) w := enters_of Tryz.func66 (by kernel_rfl) rfl
theorem eg_braces : ∀ args w, (callFunc 68 args).run Tryz.prog w = .ok (.enter 68 args) w := enters_of Tryz.func68 (by kernel_rfl) rfl
theorem eg_stmt : ∀ args w, (callFunc 70 args).run Tryz.prog w = .ok (.enter 70 args) w := enters_of Tryz.func70 (by kernel_rfl) rfl
theorem eg_item : ∀ args w, (callFunc 67 args).run Tryz.prog w = .ok (.enter 67 args) w := enters_of Tryz.func67 (by kernel_rfl) rfl

end Go.Proofs.YtinndpnilmmmjaaGreatDoor
