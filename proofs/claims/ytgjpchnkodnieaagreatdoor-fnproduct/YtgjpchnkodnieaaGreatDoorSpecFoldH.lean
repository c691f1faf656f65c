import Derived.Test.YtgjpchnkodnieaaGreatDoorMFit0
import Derived.Test.YtgjpchnkodnieaaGreatDoorMFit0
import Derived.Test.YtgjpchnkodnieaaGreatDoorSpecElem
import Derived.Deep.RegionHeld
namespace Go.Proofs.YtgjpchnkodnieaaGreatDoor
open Go.RowKit

set_option maxHeartbeats 4000000 in
theorem l4Empty_any (op : Int) (w : World) (hop : opIn op = true) : Calls Tryz.prog 182 #[.int .i64 op] w fun e w' => e = .returned (.int .i64 (emptyOf op)) ∧ Below w.heap.size w w' := by
  have h : 1 ≤ op ∧ op ≤ 16 := of_decide_eq_true hop
  clear hop
  have h : op = 1 ∨ op = 2 ∨ op = 3 ∨ op = 4 ∨ op = 5 ∨ op = 6 ∨ op = 7 ∨ op = 8 ∨ op = 9 ∨ op = 10 ∨ op = 11 ∨ op = 12 ∨ op = 13 ∨ op = 14 ∨ op = 15 ∨ op = 16 := by omega
  rcases h with rfl | rfl | rfl | rfl | rfl | rfl | rfl | rfl | rfl | rfl | rfl | rfl | rfl | rfl | rfl | rfl
  all_goals
    go_enter Tryz.func182, Tryz.ntmps182
    go_wp2
    go_ret
    exact ⟨ret_int (by decide), (Below.refl _ _).alloc (Nat.le_refl _) _⟩

theorem drop_cons (xs : List Int) (k : Nat) (h : k < xs.length) : xs.drop k = xs.getD k 0 :: xs.drop (k + 1) := by
  rw [List.drop_eq_getElem_cons h]; simp [List.getD, h]

set_option maxHeartbeats 1000000 in
theorem l4Fold_any (op : Int) (a : Option Addr) (n cap : Nat) (xs : List Int) (w : World) (h : Row w a n xs) (hop : opIn op = true) (hv : ∀ k, -1000000000000000 ≤ xs.getD k 0 ∧ xs.getD k 0 ≤ 1000000000000000) :
    Calls Tryz.prog 109 #[.int .i64 op, .slice a n cap] w fun e w' => e = .returned (.tuple #[.int .i64 (foldR op xs).1, .int .i64 (foldR op xs).2]) ∧ Below w.heap.size w w' := by
  have hlen := hide h.len
  have hsm := h.small
  have H := hide h
  have HOP := hide hop
  have HV := hide hv
  clear h hop hv
  by_cases h0 : n = 0
  · subst h0
    have HE : Hid (xs = []) := List.length_eq_zero_iff.mp (unhide hlen)
    go_enter Tryz.func109, Tryz.ntmps109
    go_wp2_with (go_at_call 182; refine (l4Empty_any _ _ (unhide HOP)).mono ?_; rintro e w1 ⟨rfl, hb1⟩)
    go_ret2
    rw [unhide HE]
    exact ⟨rfl, hb1⟩
  · obtain ⟨m, rfl⟩ : ∃ m, n = m + 1 := ⟨n - 1, by omega⟩
    have g0 : ((m : Int) + 1 == 0) = false := by simp; omega
    clear h0
    obtain ⟨b, off, hab, hblt, hc⟩ := (unhide H).get (Nat.lt_succ_self m)
    subst hab
    have hcell : Hid (∀ k, k < m + 1 → w.cell? ⟨b, off + k, none⟩ = some (.int .i64 (xs.getD k 0))) := by
      intro k hk
      obtain ⟨b', o', e', _, hc'⟩ := (unhide H).get hk
      cases e'
      exact hc'
    go_enter Tryz.func109, Tryz.ntmps109
    go_wp2
    go_loop [6, 7] (fun v i => ∃ (k : Nat) (x : Int), k ≤ m ∧ i = .int .i64 ((k : Int) - 1) ∧ v = .int .i64 x ∧ Hid (foldR op (xs.drop k) = (x, 0)) ∧ Hid (-1000000000000000 ≤ x ∧ x ≤ 1000000000000000)) (fun _ i => (intOf i + 1).toNat)
    case atStart =>
      refine ⟨m, _, Nat.le_refl _, by go_num, rfl, ?_, unhide HV m⟩
      show _ = _
      rw [drop_cons xs m (by rw [unhide hlen]; omega), List.drop_eq_nil_of_le (by rw [unhide hlen]; omega)]
      rfl
    case round =>
      obtain ⟨k, x, hk, rfl, rfl, hf, hx⟩ := hrel
      cases k with
      | zero =>
        have HE : Hid (foldR op xs = (x, 0)) := by have := unhide hf; rwa [List.drop_zero] at this
        clear hf
        go_wp2
        go_ret2
        exact ⟨ret_two (by rw [unhide HE]) (by rw [unhide HE]), Below.refl _ _⟩
      | succ j =>
        have hc' := unhide hcell j (by omega)
        have hy := unhide HV j
        obtain ⟨y, hy'⟩ : ∃ y, y = xs.getD j 0 := ⟨_, rfl⟩
        rw [← hy'] at hc' hy
        obtain ⟨r, hr⟩ : ∃ r, twoOf op y x = r := ⟨_, rfl⟩
        obtain ⟨r1, r2⟩ := r
        have HRR := hide hr
        have HF : Hid (foldR op (xs.drop j) = (r1, r2)) := by
          show _ = _
          rw [drop_cons xs j (by rw [unhide hlen]; omega), foldR_cons (by
            intro e
            have := congrArg List.length e
            rw [List.length_drop, unhide hlen] at this
            simp at this; omega), unhide hf, ← hy', if_neg (by simp)]
          exact hr
        have hj : (((j + 1 : Nat) : Int) - 1) = (j : Int) := by omega
        rw [hj]
        clear hj hr hy'
        by_cases hcode : r2 = 0
        · subst hcode
          have hb : Hid (-1000000000000000 ≤ r1 ∧ r1 ≤ 1000000000000000) := by
            have := two_bd op y x
            rw [unhide HRR] at this
            exact this
          go_wp2_with (go_at_call 183; refine (l4Two_eq hy (unhide hx) op (unhide HOP) _ r1 0 HRR).mono ?_; rintro e w1 ⟨rfl, rfl⟩)
          go_round
          case rel => exact ⟨j, r1, by omega, by go_num, rfl, HF, hb⟩
          case measure => simp [intOf]
        · have hz : r1 = 0 := by
            have := two_code (op := op) (a := y) (b := x) (by rw [unhide HRR]; exact hcode)
            rw [unhide HRR] at this
            exact this
          subst hz
          have HE : Hid (foldR op xs = (0, r2)) := by
            show _ = _
            have := foldR_code (op := op) (xs.take j) (r := xs.drop j) (by
              intro e
              have := congrArg List.length e
              rw [List.length_drop, unhide hlen] at this
              simp at this; omega) (unhide HF) hcode
            rwa [List.take_append_drop] at this
          have hcb : (r2 != 0) = true := by simp [hcode]
          clear hcode
          go_wp2_with (go_at_call 183; refine (l4Two_eq hy (unhide hx) op (unhide HOP) _ 0 r2 HRR).mono ?_; rintro e w1 ⟨rfl, rfl⟩)
          go_ret2
          exact ⟨ret_two (by rw [unhide HE]) (by rw [unhide HE]), Below.refl _ _⟩

end Go.Proofs.YtgjpchnkodnieaaGreatDoor
