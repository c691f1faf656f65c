import Derived.Test.YtcjhbeljhmocbaaDoorMMath
import Derived.Test.YtcjhbeljhmocbaaDoorInts
namespace Go.Proofs.YtcjhbeljhmocbaaDoor
open Go.RowKit

set_option maxHeartbeats 2000000 in
theorem l3Width_any (v : Int) (hv : -1000000000000000 ≤ v ∧ v ≤ 1000000000000000) (w : World) :
    Calls Tryd.prog 16 #[.int .i64 v] w fun e w' => e = .returned (.int .i64 (wid v : Nat)) ∧ w' = w := by
  have hwl := wid_le hv
  obtain ⟨m, hm⟩ : ∃ m : Nat, v.natAbs = m := ⟨_, rfl⟩
  have HV : Hid ((if v < 0 then 1 else 0) + (decZ m).length = wid v) := by show _ = _; rw [← hm]; rfl
  have hmb : m ≤ 1000000000000000 := by omega
  have H0 : Hid ((if v < 0 then 2 else 1) + (decZ m).length = wid v + 1) := by
    have := unhide HV
    show _ = _
    split at this <;> rename_i h
    · rw [if_pos h]; omega
    · rw [if_neg h]; omega
  by_cases hneg : v < 0
  · have e : v = -(m : Int) := by omega
    subst e
    have hn : IntKind.i64.wrap (-(-(m : Int))) = (m : Int) := by rw [IntKind.wrap_i64]; omega
    have hm0 : 0 < m := by omega
    have H1 : Hid (2 + (decZ m).length = wid (-(m : Int)) + 1) := by have := unhide H0; rwa [if_pos hneg] at this
    obtain ⟨W, hW⟩ : ∃ W, wid (-(m : Int)) = W := ⟨_, rfl⟩
    rw [hW] at H1 hwl ⊢
    clear H0 HV hm hW hv
    go_enter Tryd.func16, Tryd.ntmps16
    go_wp2_with fail
    go_loopw [0, 3] (fun a b wr => ∃ (x k : Nat), a = .int .i64 x ∧ b = .int .i64 k ∧ x ≤ 1000000000000000 ∧ Hid (k + (decZ x).length = W + 1) ∧ wr = w) (fun a _ _ => (intOf a).toNat)
    case atStart => exact ⟨m, 2, by go_num, rfl, hmb, H1, rfl⟩
    case round =>
      obtain ⟨x, k, rfl, rfl, hx, HK, rfl⟩ := hrel
      clear H1
      have hkW : k ≤ W := by have := unhide HK; have := decZ_pos x; omega
      by_cases h10 : x < 10
      · have h10i : ¬ (10 : Int) ≤ (x : Int) := by omega
        have ek : k = W := by have := unhide HK; rw [decZ_small h10] at this; simpa using this
        subst ek
        go_wp2_with fail
        go_ret
        exact ⟨rfl, rfl⟩
      · have h10i : (10 : Int) ≤ (x : Int) := by omega
        obtain ⟨y, hy⟩ : ∃ y, x / 10 = y := ⟨_, rfl⟩
        have ey : (x : Int).tdiv 10 = (y : Int) := by rw [Int.tdiv_eq_ediv_of_nonneg (by omega)]; omega
        have ey2 : (x : Int) / 10 = (y : Int) := by omega
        have HN : Hid (k + 1 + (decZ y).length = W + 1) := by
          have := unhide HK
          rw [decZ_big h10, hy, List.length_append] at this
          show _ = _
          simp at this
          omega
        have hyx : y < x := by omega
        clear hy
        go_wp2_with fail
        go_roundw
        case rel => exact ⟨y, k + 1, by go_num, by go_num, by omega, HN, trivial⟩
        case measure => simp [intOf]; omega
  · have e : v = (m : Int) := by omega
    subst e
    have H1 : Hid (1 + (decZ m).length = wid (m : Int) + 1) := by have := unhide H0; rwa [if_neg hneg] at this
    obtain ⟨W, hW⟩ : ∃ W, wid (m : Int) = W := ⟨_, rfl⟩
    rw [hW] at H1 hwl ⊢
    clear H0 HV hm hW hv
    go_enter Tryd.func16, Tryd.ntmps16
    go_wp2_with fail
    go_loopw [0, 3] (fun a b wr => ∃ (x k : Nat), a = .int .i64 x ∧ b = .int .i64 k ∧ x ≤ 1000000000000000 ∧ Hid (k + (decZ x).length = W + 1) ∧ wr = w) (fun a _ _ => (intOf a).toNat)
    case atStart => exact ⟨m, 1, rfl, rfl, hmb, H1, rfl⟩
    case round =>
      obtain ⟨x, k, rfl, rfl, hx, HK, rfl⟩ := hrel
      clear H1
      have hkW : k ≤ W := by have := unhide HK; have := decZ_pos x; omega
      by_cases h10 : x < 10
      · have h10i : ¬ (10 : Int) ≤ (x : Int) := by omega
        have ek : k = W := by have := unhide HK; rw [decZ_small h10] at this; simpa using this
        subst ek
        go_wp2_with fail
        go_ret
        exact ⟨rfl, rfl⟩
      · have h10i : (10 : Int) ≤ (x : Int) := by omega
        obtain ⟨y, hy⟩ : ∃ y, x / 10 = y := ⟨_, rfl⟩
        have ey : (x : Int).tdiv 10 = (y : Int) := by rw [Int.tdiv_eq_ediv_of_nonneg (by omega)]; omega
        have ey2 : (x : Int) / 10 = (y : Int) := by omega
        have HN : Hid (k + 1 + (decZ y).length = W + 1) := by
          have := unhide HK
          rw [decZ_big h10, hy, List.length_append] at this
          show _ = _
          simp at this
          omega
        have hyx : y < x := by omega
        clear hy
        go_wp2_with fail
        go_roundw
        case rel => exact ⟨y, k + 1, by go_num, by go_num, by omega, HN, trivial⟩
        case measure => simp [intOf]; omega

end Go.Proofs.YtcjhbeljhmocbaaDoor
