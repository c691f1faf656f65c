import Derived.Test.YtmgjicgojlkpcaaGreatDoorSpecSort
import Derived.Test.YtmgjicgojlkpcaaGreatDoorRowMoreB
import Derived.BigQuiet
namespace Go.Proofs.YtmgjicgojlkpcaaGreatDoor
open Go.RowKit

theorem sort_cases (k : Int) : sortK k = 0 ∨ sortK k = 1 ∨ sortK k = 2 ∨ sortK k = 3 ∨ sortK k = 4 ∨ sortK k = 5 ∨ sortK k = 6 := by
  unfold sortK
  repeat' split
  all_goals omega

set_option maxHeartbeats 4000000 in
theorem l2Is_any (c : Nat) (k : Int) (w : World) (hc : c = 101 ∨ c = 112 ∨ c = 102 ∨ c = 98 ∨ c = 115 ∨ c = 105) : Calls Tryz.prog 53 #[.int .u8 (c : Nat), .int .i64 k] w fun e w' => e = .returned (.bool (isK c k)) ∧ w' = w := by
  have hcs := sort_cases k
  obtain ⟨s, hs⟩ : ∃ s, sortK k = s := ⟨_, rfl⟩
  rw [hs] at hcs
  have HS : Hid (∀ W, Calls Tryz.prog 24 #[.int .i64 k] W fun e w' => e = .returned (.int .i64 s) ∧ w' = W) := hide fun W => by rw [← hs]; exact l2Sort_any k W
  obtain ⟨r, hr⟩ : ∃ r, isK c k = r := ⟨_, rfl⟩
  rw [hr]
  have HR := hide hr
  have HSS := hide hs
  clear hr hs
  by_cases h98 : c = 98
  · subst h98
    clear hc hcs
    by_cases e1 : k = 16
    · have d1 : (k == 16) = true := by simpa using e1
      have HE := hide e1
      clear e1
      go_enter Tryz.func53, Tryz.ntmps53
      go_wp2_with (go_at_call 24; refine (unhide HS _).mono ?_; rintro e w1 ⟨rfl, rfl⟩)
      go_ret
      exact ⟨ret_bool (by rw [← unhide HR]; exact (decide_eq_true (unhide HE)).symm), rfl⟩
    · have d1 := ne_false e1
      have HE := hide e1
      clear e1
      go_enter Tryz.func53, Tryz.ntmps53
      go_wp2_with (go_at_call 24; refine (unhide HS _).mono ?_; rintro e w1 ⟨rfl, rfl⟩)
      go_ret
      exact ⟨ret_bool (by rw [← unhide HR]; exact (decide_eq_false (unhide HE)).symm), rfl⟩
  · rcases hc with h | h | h | h | h | h
    rotate_left 3
    · exact absurd h h98
    all_goals (subst h; clear h98; rcases hcs with h | h | h | h | h | h | h)
    all_goals
      subst h
      go_enter Tryz.func53, Tryz.ntmps53
      go_wp2_with (go_at_call 24; refine (unhide HS _).mono ?_; rintro e w1 ⟨rfl, rfl⟩)
      go_ret
      exact ⟨ret_bool (by rw [← unhide HR]; simp [isK, isE, isP, isF, isS, isI, unhide HSS]), rfl⟩

theorem all_take {p : Int → Bool} {zs : List Int} {k : Nat} (hk : k < zs.length) (h : (zs.take k).all p = true) (hp : p (zs.getD k 0) = true) : (zs.take (k + 1)).all p = true := by
  rw [List.take_succ_eq_append_getElem hk, List.all_append, h]
  have : zs.getD k 0 = zs[k] := by simp [hk]
  rw [this] at hp
  simp [hp]

theorem all_false {p : Int → Bool} {zs : List Int} {k : Nat} (hk : k < zs.length) (hp : p (zs.getD k 0) = false) : zs.all p = false := by
  have : zs.getD k 0 = zs[k] := by simp [hk]
  rw [this] at hp
  refine List.all_eq_false.2 ⟨zs[k], List.getElem_mem hk, by simp [hp]⟩

set_option maxHeartbeats 4000000 in
theorem l2AllAre_any (c : Nat) (a : Option Addr) (n cap : Nat) (zs : List Int) (w : World) (hc : c = 101 ∨ c = 112 ∨ c = 102 ∨ c = 98 ∨ c = 115 ∨ c = 105) (h : Row w a n zs) : Calls Tryz.prog 54 #[.int .u8 (c : Nat), .slice a n cap] w fun e w' => e = .returned (.bool (zs.all (isK c))) ∧ w' = w := by
  have HI := hide (fun (k : Int) (W : World) => l2Is_any c k W hc)
  obtain ⟨hlen, hsm, -⟩ := id h
  have H := hide h
  clear h hc
  go_enter Tryz.func54, Tryz.ntmps54
  go_wp2_with fail
  go_loopw [5] (fun i wr => ∃ k : Nat, k ≤ n ∧ i = .int .i64 k ∧ Hid ((zs.take k).all (isK c) = true) ∧ wr = w) (fun i _ => n - (intOf i).toNat)
  case atStart => exact ⟨0, Nat.zero_le _, rfl, rfl, rfl⟩
  case round =>
    obtain ⟨k, hk, rfl, HA, rfl⟩ := hrel
    by_cases hlt : k < n
    · obtain ⟨b, off, rfl, hbl, hcell⟩ := (unhide H).get hlt
      obtain ⟨x, hx⟩ : ∃ x, zs.getD k 0 = x := ⟨_, rfl⟩
      rw [hx] at hcell
      have HX := hide hx
      clear hx
      have HC := hide (fun W => unhide HI x W)
      cases hq : isK c x with
      | true =>
        rw [hq] at HC
        have HT : Hid ((zs.take (k + 1)).all (isK c) = true) := all_take (by omega) (unhide HA) (by rw [unhide HX]; exact hq)
        clear hq
        go_wp2_with (go_at_call 53; refine (unhide HC _).mono ?_; rintro e w1 ⟨rfl, rfl⟩)
        go_roundw
        case rel => exact ⟨k + 1, by omega, by go_num, HT, trivial⟩
        case measure => simp [intOf]; omega
      | false =>
        rw [hq] at HC
        have HT : Hid (zs.all (isK c) = false) := all_false (k := k) (by omega) (by rw [unhide HX]; exact hq)
        clear hq
        go_wp2_with (go_at_call 53; refine (unhide HC _).mono ?_; rintro e w1 ⟨rfl, rfl⟩)
        go_ret
        exact ⟨ret_bool (unhide HT).symm, rfl⟩
    · have hkn : k = n := by omega
      subst hkn
      have HT : Hid (zs.all (isK c) = true) := by have := unhide HA; rwa [List.take_of_length_le (by omega)] at this
      go_wp2
      go_ret
      exact ⟨ret_bool (unhide HT).symm, rfl⟩

theorem Row.drop {w : World} {a : Option Addr} {n : Nat} {zs : List Int} (h : Row w a n zs) {b off : Nat} (ha : a = some ⟨b, off, none⟩) (j : Nat) (hj : j ≤ n) : Row w (some ⟨b, off + j, none⟩) (n - j) (zs.drop j) := by
  have hl := h.len
  refine ⟨by rw [List.length_drop]; omega, by have := h.small; omega, ?_⟩
  rcases h.at_ with h0 | ⟨b', off', e, hlt, hc⟩
  · left; omega
  · rw [ha] at e
    cases e
    refine .inr ⟨b, off + j, rfl, hlt, fun i hi => ?_⟩
    rw [Nat.add_assoc, hc (j + i) (by omega)]
    simp [List.getD_eq_getElem?_getD]

theorem Row.take {w : World} {a : Option Addr} {n : Nat} {zs : List Int} (h : Row w a n zs) (j : Nat) (hj : j ≤ n) : Row w a j (zs.take j) := by
  have hl := h.len
  refine ⟨by rw [List.length_take]; omega, by have := h.small; omega, ?_⟩
  rcases h.at_ with h0 | ⟨b', off', e, hlt, hc⟩
  · left; omega
  · refine .inr ⟨b', off', e, hlt, fun i hi => ?_⟩
    rw [hc i (by omega)]
    simp [List.getD_eq_getElem?_getD, hi]

end Go.Proofs.YtmgjicgojlkpcaaGreatDoor
