import Derived.Test.YtkgcmpmgaghdhaaDoorMFit0
import Derived.Test.YtkgcmpmgaghdhaaDoorSpecCount
import Derived.Test.YtkgcmpmgaghdhaaDoorMFit0
import Derived.Test.YtkgcmpmgaghdhaaDoorSpecRuneOk
namespace Go.Proofs.YtkgcmpmgaghdhaaDoor
open Go.RowKit

theorem arr_long {c : Bool} {sh dt : List Int} {n1 : Nat} (hl : sh.length = n1) (h : 5 < n1) : arrOk c sh dt = false := by
  unfold arrOk; rw [decide_eq_false (by omega)]; rfl
theorem arr_count {c : Bool} {sh dt : List Int} {n2 : Nat} (hl : dt.length = n2) (h : countOf sh ≠ n2) : arrOk c sh dt = false := by
  unfold arrOk; rw [decide_eq_false (p := countOf sh = _) (by rw [hl]; exact h)]; simp
theorem arr_data {c : Bool} {sh dt : List Int} (h : dt.all (dataOk c) = false) : arrOk c sh dt = false := by
  unfold arrOk; rw [h]; simp
theorem arr_good {c : Bool} {sh dt : List Int} {n1 n2 : Nat} (hl1 : sh.length = n1) (hl2 : dt.length = n2) (h5 : n1 ≤ 5) (hc : countOf sh = n2) (h : dt.all (dataOk c) = true) : arrOk c sh dt = true := by
  unfold arrOk; rw [h, decide_eq_true (by omega), decide_eq_true (by rw [hl2]; exact hc)]; rfl

set_option maxHeartbeats 1000000 in
theorem ArrayOk_any (c : Bool) (a1 a2 : Option Addr) (n1 n2 c1 c2 : Nat) (sh dt : List Int) (w : World) (h1 : Row w a1 n1 sh) (h2 : Row w a2 n2 dt) :
    Calls Tryd.prog 12 #[.agg #[.bool c, .slice a1 n1 c1, .slice a2 n2 c2]] w fun e w' => e = .returned (.bool (arrOk c sh dt)) ∧ Below w.heap.size w w' := by
  have hl1 := hide h1.len
  have hl2 := hide h2.len
  have hs1 := h1.small
  have hs2 := h2.small
  have H1 := hide h1
  have H2 := hide h2
  clear h1 h2
  have hW : ∀ o, Below w.heap.size w (w.alloc o) := fun o => (Below.refl _ _).alloc (Nat.le_refl _) _
  have hcb := count_bd sh
  obtain ⟨hcb1, hcb2⟩ := hcb
  by_cases h5 : 5 < n1
  · have hd : decide ((5 : Int) < (n1 : Int)) = true := by simp; omega
    have HE := hide (arr_long (c := c) (dt := dt) (unhide hl1) h5)
    go_enter Tryd.func12, Tryd.ntmps12
    go_wp2
    go_quiet (fail)
    go_wp2
    go_ret
    exact ⟨ret_bool HE.out.symm, Below.drewN (hW _) _⟩
  · have hd : decide ((5 : Int) < (n1 : Int)) = false := by simp; omega
    obtain ⟨cn, hcn⟩ : ∃ cn, countOf sh = cn := ⟨_, rfl⟩
    rw [hcn] at hcb1 hcb2
    have HC := hide hcn
    clear hcn
    by_cases hcn : cn = n2
    · have hb : (cn != (n2 : Int)) = false := by simp [hcn]
      have HCN := hide hcn
      clear hcn
      go_enter Tryd.func12, Tryd.ntmps12
      go_wp2
      go_quiet ((go_at_call 28; exact Calls.quiet_of_same (l3Count_eq _ _ _ sh _ (((unhide H1).alloc _).drewN _) cn HC)))
      go_wp2
      go_loopw [3, 4] (fun i v wr => ∃ k : Nat, k ≤ n2 ∧ i = .int .i64 k ∧ Hid ((dt.take k).all (dataOk c) = true) ∧ wr = (w.alloc (.cells #[.bool c, .slice a1 n1 c1, .slice a2 n2 c2] 26)).drewN nq) (fun i _ _ => n2 - (intOf i).toNat)
      case atStart => exact ⟨0, Nat.zero_le _, rfl, rfl, rfl⟩
      case round =>
        obtain ⟨k, hk, rfl, hall, rfl⟩ := hrel
        by_cases hlt : k < n2
        · obtain ⟨b, off, rfl, hblt, hc⟩ := (unhide H2).get hlt
          have hks : Hid (k < dt.length) := by show k < dt.length; rw [unhide hl2]; exact hlt
          obtain ⟨x, hx⟩ : ∃ x, x = dt.getD k 0 := ⟨_, rfl⟩
          rw [← hx] at hc
          have HX := hide hx
          clear hx
          have hN : ∀ {r : Bool}, dataOk c x = r → r = false → Hid (arrOk c sh dt = false) := fun h1 h2 => arr_data (all_not dt (dataOk c) k (unhide hks) (by rw [← unhide HX, h1, h2]))
          have hY : ∀ {r : Bool}, dataOk c x = r → r = true → Hid ((dt.take (k + 1)).all (dataOk c) = true) := fun h1 h2 => all_step dt (dataOk c) k (unhide hks) (unhide hall) (by rw [← unhide HX, h1, h2])
          cases c with
          | true =>
            cases hr : runeOk x with
            | true =>
              have hxb := of_decide_eq_true hr
              have HR := hide hr
              have HA := hY (show dataOk true x = true by unfold dataOk; rw [hr, decide_eq_true (by omega)]; rfl) rfl
              have hx1 : x ≤ 1000000000000000 := by omega
              have hx2 : -1000000000000000 ≤ x := by omega
              clear hr hxb hN hY
              go_wp2_with (go_at_call 29; refine (l1RuneOk_eq _ _ true HR).mono ?_; rintro e w' ⟨rfl, rfl⟩)
              go_roundw
              case rel => exact ⟨k + 1, by omega, by go_num, HA, by first | exact trivial | rfl⟩
              case measure => simp [intOf]; omega
            | false =>
              have HR := hide hr
              have HE := hN (show dataOk true x = false by unfold dataOk; rw [hr]; rfl) rfl
              clear hr hN hY
              go_wp2_with (go_at_call 29; refine (l1RuneOk_eq _ _ false HR).mono ?_; rintro e w' ⟨rfl, rfl⟩)
              go_ret
              exact ⟨ret_bool HE.out.symm, Below.drewN (hW _) _⟩
          | false =>
            by_cases hx1 : 1000000000000000 < x
            · have HE := hN (show dataOk false x = false by unfold dataOk; rw [decide_eq_false (by omega)]; rfl) rfl
              clear hN hY
              go_wp2
              go_ret
              exact ⟨ret_bool HE.out.symm, Below.drewN (hW _) _⟩
            · by_cases hx2 : x < -1000000000000000
              · have HE := hN (show dataOk false x = false by unfold dataOk; rw [decide_eq_false (by omega)]; rfl) rfl
                clear hN hY
                go_wp2
                go_ret
                exact ⟨ret_bool HE.out.symm, Below.drewN (hW _) _⟩
              · have HA := hY (show dataOk false x = true by unfold dataOk; rw [decide_eq_true (by omega)]; rfl) rfl
                clear hN hY
                go_wp2
                go_roundw
                case rel => exact ⟨k + 1, by omega, by go_num, HA, by first | exact trivial | rfl⟩
                case measure => simp [intOf]; omega
        · have HA : Hid (dt.all (dataOk c) = true) := by
            have := unhide hall
            rwa [List.take_of_length_le (by rw [unhide hl2]; omega)] at this
          have HE := hide (arr_good (unhide hl1) (unhide hl2) (by omega) ((unhide HC).trans (unhide HCN)) (unhide HA))
          go_wp2
          go_ret
          exact ⟨ret_bool HE.out.symm, Below.drewN (hW _) _⟩
    · have hb : (cn != (n2 : Int)) = true := by simp [hcn]
      have HE := hide (arr_count (c := c) (sh := sh) (unhide hl2) (by rw [unhide HC]; exact hcn))
      clear hcn
      go_enter Tryd.func12, Tryd.ntmps12
      go_wp2
      go_quiet ((go_at_call 28; exact Calls.quiet_of_same (l3Count_eq _ _ _ sh _ (((unhide H1).alloc _).drewN _) cn HC)))
      go_wp2
      go_ret
      exact ⟨ret_bool HE.out.symm, Below.drewN (hW _) _⟩

theorem ArrayOk_eq (c : Bool) (a1 a2 : Option Addr) (n1 n2 c1 c2 : Nat) (sh dt : List Int) (w : World) (h1 : Row w a1 n1 sh) (h2 : Row w a2 n2 dt) (r : Bool) (hr : Hid (arrOk c sh dt = r)) :
    Calls Tryd.prog 12 #[.agg #[.bool c, .slice a1 n1 c1, .slice a2 n2 c2]] w fun e w' => e = .returned (.bool r) ∧ Below w.heap.size w w' := by
  rw [← hr.out]; exact ArrayOk_any c a1 a2 n1 n2 c1 c2 sh dt w h1 h2

end Go.Proofs.YtkgcmpmgaghdhaaDoor
