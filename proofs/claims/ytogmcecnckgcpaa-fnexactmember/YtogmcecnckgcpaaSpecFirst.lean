import Derived.Test.YtogmcecnckgcpaaFindMath
import Derived.Test.YtogmcecnckgcpaaSpecGrow
namespace Go.Proofs.Ytogmcecnckgcpaa
open Go.RowKit

set_option maxHeartbeats 1000000 in
theorem l6First_any (c ch : Bool) (v1 : Value) (a2 : Option Addr) (n2 c2 : Nat) (dt : List Int) (v : Int) (w : World) (h2 : Row w a2 n2 dt) :
    Calls Try.prog 38 #[.agg #[.bool c, v1, .slice a2 n2 c2], .int .i64 v, .bool ch] w fun e w' => e = .returned (.int .i64 (firstOf c dt v ch)) ∧ Below w.heap.size w w' := by
  have hlen := hide h2.len
  have hsm := h2.small
  have H2 := hide h2
  clear h2
  have hW : ∀ o, Below w.heap.size w (w.alloc o) := fun o => (Below.refl _ _).alloc (Nat.le_refl _) _
  by_cases hc : c = ch
  · subst hc
    have HF : Hid (firstOf c dt v c = dt.findIdx (fun x => decide (x = v))) := by show _ = _; unfold firstOf; rw [if_pos rfl]
    cases c
    all_goals
      go_enter Try.func38, Try.ntmps38
      go_wp2
      go_loop [7] (fun i => ∃ k : Nat, k ≤ n2 ∧ i = .int .i64 k ∧ Hid (∀ j, j < k → dt.getD j 0 ≠ v)) (fun i => n2 - (intOf i).toNat)
      case atStart => exact ⟨0, Nat.zero_le _, rfl, fun j hj => absurd hj (Nat.not_lt_zero _)⟩
      case round =>
        obtain ⟨k, hk, rfl, hne⟩ := hrel
        by_cases hlt : k < n2
        · obtain ⟨b, off, rfl, hblt, hc⟩ := (unhide H2).get hlt
          obtain ⟨x, hx⟩ : ∃ x, x = dt.getD k 0 := ⟨_, rfl⟩
          rw [← hx] at hc
          by_cases hxv : x = v
          · have hb : (x != v) = false := by simp [hxv]
            have HE : Hid (dt.findIdx (fun x => decide (x = v)) = k) := first_here (unhide hne) (by rw [unhide hlen]; exact hlt) (by rw [← hx]; exact hxv)
            clear hxv hx
            go_wp2
            go_ret
            exact ⟨ret_int (by rw [unhide HF, unhide HE]), hW _⟩
          · have hb : (x != v) = true := by simp [hxv]
            have HN : Hid (∀ j, j < k + 1 → dt.getD j 0 ≠ v) := by
              intro j hj
              by_cases e : j = k
              · rw [e, ← hx]; exact hxv
              · exact unhide hne j (by omega)
            clear hxv hx
            go_wp2
            go_round
            case rel => exact ⟨k + 1, by omega, by go_num, HN⟩
            case measure => simp [intOf]; omega
        · have hkn : k = n2 := by omega
          subst hkn
          have HE : Hid (dt.findIdx (fun x => decide (x = v)) = k) := by
            show _ = _
            rw [first_none (by rw [unhide hlen]; exact unhide hne)]
            exact unhide hlen
          go_wp2
          go_ret
          exact ⟨ret_int (by rw [unhide HF, unhide HE]), hW _⟩
  · have HF : Hid (firstOf c dt v ch = n2) := by show _ = _; unfold firstOf; rw [if_neg hc]; exact unhide hlen
    have hcd : (c = true ∧ ch = false) ∨ (c = false ∧ ch = true) := by cases c <;> cases ch <;> simp_all
    clear hc
    rcases hcd with ⟨rfl, rfl⟩ | ⟨rfl, rfl⟩
    all_goals
      go_enter Try.func38, Try.ntmps38
      go_wp2
      go_loop [7] (fun i => ∃ k : Nat, k ≤ n2 ∧ i = .int .i64 k) (fun i => n2 - (intOf i).toNat)
      case atStart => exact ⟨0, Nat.zero_le _, rfl⟩
      case round =>
        obtain ⟨k, hk, rfl⟩ := hrel
        by_cases hlt : k < n2
        · go_wp2
          go_round
          case rel => exact ⟨k + 1, by omega, by go_num⟩
          case measure => simp [intOf]; omega
        · have hkn : k = n2 := by omega
          subst hkn
          go_wp2
          go_ret
          exact ⟨ret_int (by rw [unhide HF]), hW _⟩

end Go.Proofs.Ytogmcecnckgcpaa
