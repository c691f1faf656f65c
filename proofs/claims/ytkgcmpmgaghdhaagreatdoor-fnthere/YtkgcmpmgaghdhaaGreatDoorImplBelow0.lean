import Derived.Test.YtkgcmpmgaghdhaaGreatDoorMFit0
import Derived.Test.YtkgcmpmgaghdhaaGreatDoorMFit0
import Derived.Shelf.Abstract
import Derived.WalkKit
namespace Go.Proofs.YtkgcmpmgaghdhaaGreatDoor
open Go.RowKit Go.Shelf

theorem eg_neg : ∀ args w, (callFunc 123 args).run Tryz.prog w = .ok (.enter 123 args) w := enters_of Tryz.func123 (by kernel_rfl) rfl

theorem negClo (v : Int) (w : World) : Calls Tryz.prog 123 #[.int .i64 v] w fun e w' => e = .returned (.bool (decide (v < 0))) ∧ w' = w := by
  go_enter Tryz.func123, Tryz.ntmps123
  go_wp2
  go_ret
  exact ⟨rfl, rfl⟩

theorem neg_found {dt : List Int} {k : Nat} (hk : k < dt.length) (h : dt.getD k 0 < 0) : dt.all nonNeg = false := by
  cases e : dt.all nonNeg with
  | false => rfl
  | true =>
    have hm : dt.getD k 0 ∈ dt := by simp [List.getD, hk]
    have h2 := List.all_eq_true.1 e _ hm
    unfold nonNeg at h2
    have := of_decide_eq_true h2
    omega

theorem neg_none {dt : List Int} (h : ∀ k, k < dt.length → 0 ≤ dt.getD k 0) : dt.all nonNeg = true := by
  rw [List.all_eq_true]
  intro x hx
  obtain ⟨k, hk, rfl⟩ := List.getElem_of_mem hx
  have := h k hk
  simp [List.getD, hk] at this
  simp [nonNeg]
  exact this

set_option maxHeartbeats 1000000 in
theorem IndexFunc_neg (a : Option Addr) (n cap : Nat) (dt : List Int) (w : World) (h : Row w a n dt) : Calls Tryz.prog 161 #[.slice a n cap, .func (.func 123) #[] #[]] w fun e w' => (∃ v : Int, e = .returned (.int .i64 v) ∧ decide (0 ≤ v) = !dt.all nonNeg) ∧ w' = w := by
  have hl := hide h.len
  have hsm := h.small
  have H := hide h
  clear h
  have heg := eg_neg
  go_enter Tryz.func161, Tryz.ntmps161
  go_wp2_with fail
  go_loopw [8] (fun i wr => ∃ k : Nat, k ≤ n ∧ i = .int .i64 (k : Nat) ∧ wr = w ∧ Hid (∀ j, j < k → 0 ≤ dt.getD j 0)) (fun i _ => n - (intOf i).toNat)
  case atStart => exact ⟨0, Nat.zero_le _, rfl, rfl, fun j hj => absurd hj (Nat.not_lt_zero _)⟩
  case round =>
    obtain ⟨k, hk, rfl, hw, hno⟩ := hrel
    subst hw
    by_cases hlt : k < n
    · obtain ⟨b, off, rfl, hblt, hc⟩ := H.out.get hlt
      obtain ⟨v, hv⟩ : ∃ v, v = dt.getD k 0 := ⟨_, rfl⟩
      rw [← hv] at hc
      by_cases hneg : v < 0
      · have HA : Hid (dt.all nonNeg = false) := neg_found (k := k) (by rw [hl.out]; exact hlt) (by rw [← hv]; exact hneg)
        have hd : decide (v < 0) = true := decide_eq_true hneg
        clear hv
        go_wp2_with (go_at_call 123; refine (negClo _ _).mono ?_; rintro e w' ⟨rfl, rfl⟩; rw [hd])
        go_ret
        exact ⟨⟨_, rfl, by rw [HA.out, decide_eq_true (by omega)]; rfl⟩, rfl⟩
      · have hd : decide (v < 0) = false := decide_eq_false hneg
        have HV := hide hv
        clear hv
        go_wp2_with (go_at_call 123; refine (negClo _ _).mono ?_; rintro e w' ⟨rfl, rfl⟩; rw [hd])
        go_roundw
        case rel => exact ⟨k + 1, by omega, by go_num, by first | rfl | trivial, fun j hj => by
          by_cases e : j = k
          · subst e; rw [← HV.out]; omega
          · exact hno.out j (by omega)⟩
        case measure => simp [intOf]; omega
    · have : k = n := by omega
      subst this
      have HA : Hid (dt.all nonNeg = true) := neg_none (fun j hj => hno.out j (by rw [← hl.out]; exact hj))
      go_wp2_with fail
      go_ret
      exact ⟨⟨_, rfl, by rw [HA.out]; rfl⟩, rfl⟩

set_option maxHeartbeats 1000000 in
theorem ContainsFunc_neg (a : Option Addr) (n cap : Nat) (dt : List Int) (w : World) (h : Row w a n dt) (r : Bool) (hr : Hid ((!dt.all nonNeg) = r)) : Calls Tryz.prog 122 #[.slice a n cap, .func (.func 123) #[] #[]] w fun e w' => e = .returned (.bool r) ∧ w' = w := by
  have H := hide h
  clear h
  go_enter Tryz.func122, Tryz.ntmps122
  go_wp2_with (go_at_call 161; refine (IndexFunc_neg _ _ _ dt _ H.out).mono ?_; rintro e w' ⟨⟨v, rfl, hv⟩, rfl⟩; have HV := hide hv; clear hv)
  go_ret
  exact ⟨ret_bool (by rw [HV.out, hr.out]), rfl⟩

set_option maxHeartbeats 1000000 in
theorem hasBelow0_eq (a : Option Addr) (n cap : Nat) (dt : List Int) (w : World) (h : Row w a n dt) (r : Bool) (hr : Hid ((!dt.all nonNeg) = r)) : Calls Tryz.prog 64 #[.slice a n cap] w fun e w' => e = .returned (.bool r) ∧ w' = w := by
  have H := hide h
  clear h
  go_enter Tryz.func64, Tryz.ntmps64
  go_wp2_with (go_at_call 122; refine (ContainsFunc_neg _ _ _ dt _ H.out _ hr).mono ?_; rintro e w' ⟨rfl, rfl⟩)
  go_ret
  exact ⟨rfl, rfl⟩

end Go.Proofs.YtkgcmpmgaghdhaaGreatDoor
