import Derived.Test.YtinndpnilmmmjaaGreatDoorMSel
import Derived.Test.YtinndpnilmmmjaaGreatDoorMBase
import Derived.BigQuiet
import Derived.Deep.RegionWith
namespace Go.Proofs.YtinndpnilmmmjaaGreatDoor
open Go.RowKit

theorem sort_cases (k : Int) : sortK k = 0 ∨ sortK k = 1 ∨ sortK k = 2 ∨ sortK k = 3 ∨ sortK k = 4 ∨ sortK k = 5 ∨ sortK k = 6 := by
  unfold sortK
  repeat' split
  all_goals omega

set_option maxHeartbeats 4000000 in
theorem l2Is_any (c : Nat) (k : Int) (w : World) (hc : c = 101 ∨ c = 112 ∨ c = 102 ∨ c = 98 ∨ c = 115 ∨ c = 105) : Calls Tryz.prog 53 #[.int .u8 (c : Nat), .int .i64 k] w fun e w' => e = .returned (.bool (isK c k)) ∧ w' = w := by
  have hcs := sort_cases k
  obtain ⟨s, hs⟩ : ∃ s, sortK k = s := ⟨_, rfl⟩
  rw [hs] at hcs
  have HS : Hid (∀ W, Calls Tryz.prog 24 #[.int .i64 k] W fun e w' => e = .returned (.int .i64 s) ∧ w' = W) := hide fun W => by rw [← hs]; exact l2Sort_any k W
  obtain ⟨r, hr⟩ : ∃ r, isK c k = r := ⟨_, rfl⟩
  rw [hr]
  have HR := hide hr
  have HSS := hide hs
  clear hr hs
  by_cases h98 : c = 98
  · subst h98
    clear hc hcs
    by_cases e1 : k = 16
    · have d1 : (k == 16) = true := by simpa using e1
      have HE := hide e1
      clear e1
      go_enter Tryz.func53, Tryz.ntmps53
      go_wp2_with (go_at_call 24; refine (unhide HS _).mono ?_; rintro e w1 ⟨rfl, rfl⟩)
      go_ret
      exact ⟨ret_bool (by rw [← unhide HR]; exact (decide_eq_true (unhide HE)).symm), rfl⟩
    · have d1 := ne_false e1
      have HE := hide e1
      clear e1
      go_enter Tryz.func53, Tryz.ntmps53
      go_wp2_with (go_at_call 24; refine (unhide HS _).mono ?_; rintro e w1 ⟨rfl, rfl⟩)
      go_ret
      exact ⟨ret_bool (by rw [← unhide HR]; exact (decide_eq_false (unhide HE)).symm), rfl⟩
  · rcases hc with h | h | h | h | h | h
    rotate_left 3
    · exact absurd h h98
    all_goals (subst h; clear h98; rcases hcs with h | h | h | h | h | h | h)
    all_goals
      subst h
      go_enter Tryz.func53, Tryz.ntmps53
      go_wp2_with (go_at_call 24; refine (unhide HS _).mono ?_; rintro e w1 ⟨rfl, rfl⟩)
      go_ret
      exact ⟨ret_bool (by rw [← unhide HR]; simp [isK, isE, isP, isF, isS, isI, unhide HSS]), rfl⟩

theorem all_take {p : Int → Bool} {zs : List Int} {k : Nat} (hk : k < zs.length) (h : (zs.take k).all p = true) (hp : p (zs.getD k 0) = true) : (zs.take (k + 1)).all p = true := by
  rw [List.take_succ_eq_append_getElem hk, List.all_append, h]
  have : zs.getD k 0 = zs[k] := by simp [hk]
  rw [this] at hp
  simp [hp]

theorem all_false {p : Int → Bool} {zs : List Int} {k : Nat} (hk : k < zs.length) (hp : p (zs.getD k 0) = false) : zs.all p = false := by
  have : zs.getD k 0 = zs[k] := by simp [hk]
  rw [this] at hp
  refine List.all_eq_false.2 ⟨zs[k], List.getElem_mem hk, by simp [hp]⟩

set_option maxHeartbeats 4000000 in
theorem l2AllAre_any (c : Nat) (a : Option Addr) (n cap : Nat) (zs : List Int) (w : World) (hc : c = 101 ∨ c = 112 ∨ c = 102 ∨ c = 98 ∨ c = 115 ∨ c = 105) (h : Row w a n zs) : Calls Tryz.prog 54 #[.int .u8 (c : Nat), .slice a n cap] w fun e w' => e = .returned (.bool (zs.all (isK c))) ∧ w' = w := by
  have HI := hide (fun (k : Int) (W : World) => l2Is_any c k W hc)
  obtain ⟨hlen, hsm, -⟩ := id h
  have H := hide h
  clear h hc
  go_enter Tryz.func54, Tryz.ntmps54
  go_wp2_with fail
  go_loopw [5] (fun i wr => ∃ k : Nat, k ≤ n ∧ i = .int .i64 k ∧ Hid ((zs.take k).all (isK c) = true) ∧ wr = w) (fun i _ => n - (intOf i).toNat)
  case atStart => exact ⟨0, Nat.zero_le _, rfl, rfl, rfl⟩
  case round =>
    obtain ⟨k, hk, rfl, HA, rfl⟩ := hrel
    by_cases hlt : k < n
    · obtain ⟨b, off, rfl, hbl, hcell⟩ := (unhide H).get hlt
      obtain ⟨x, hx⟩ : ∃ x, zs.getD k 0 = x := ⟨_, rfl⟩
      rw [hx] at hcell
      have HX := hide hx
      clear hx
      have HC := hide (fun W => unhide HI x W)
      cases hq : isK c x with
      | true =>
        rw [hq] at HC
        have HT : Hid ((zs.take (k + 1)).all (isK c) = true) := all_take (by omega) (unhide HA) (by rw [unhide HX]; exact hq)
        clear hq
        go_wp2_with (go_at_call 53; refine (unhide HC _).mono ?_; rintro e w1 ⟨rfl, rfl⟩)
        go_roundw
        case rel => exact ⟨k + 1, by omega, by go_num, HT, trivial⟩
        case measure => simp [intOf]; omega
      | false =>
        rw [hq] at HC
        have HT : Hid (zs.all (isK c) = false) := all_false (k := k) (by omega) (by rw [unhide HX]; exact hq)
        clear hq
        go_wp2_with (go_at_call 53; refine (unhide HC _).mono ?_; rintro e w1 ⟨rfl, rfl⟩)
        go_ret
        exact ⟨ret_bool (unhide HT).symm, rfl⟩
    · have hkn : k = n := by omega
      subst hkn
      have HT : Hid (zs.all (isK c) = true) := by have := unhide HA; rwa [List.take_of_length_le (by omega)] at this
      go_wp2
      go_ret
      exact ⟨ret_bool (unhide HT).symm, rfl⟩

theorem Row.drop {w : World} {a : Option Addr} {n : Nat} {zs : List Int} (h : Row w a n zs) {b off : Nat} (ha : a = some ⟨b, off, none⟩) (j : Nat) (hj : j ≤ n) : Row w (some ⟨b, off + j, none⟩) (n - j) (zs.drop j) := by
  have hl := h.len
  refine ⟨by rw [List.length_drop]; omega, by have := h.small; omega, ?_⟩
  rcases h.at_ with h0 | ⟨b', off', e, hlt, hc⟩
  · left; omega
  · rw [ha] at e
    cases e
    refine .inr ⟨b, off + j, rfl, hlt, fun i hi => ?_⟩
    rw [Nat.add_assoc, hc (j + i) (by omega)]
    simp [List.getD_eq_getElem?_getD]

theorem Row.take {w : World} {a : Option Addr} {n : Nat} {zs : List Int} (h : Row w a n zs) (j : Nat) (hj : j ≤ n) : Row w a j (zs.take j) := by
  have hl := h.len
  refine ⟨by rw [List.length_take]; omega, by have := h.small; omega, ?_⟩
  rcases h.at_ with h0 | ⟨b', off', e, hlt, hc⟩
  · left; omega
  · refine .inr ⟨b', off', e, hlt, fun i hi => ?_⟩
    rw [hc i (by omega)]
    simp [List.getD_eq_getElem?_getD, hi]

end Go.Proofs.YtinndpnilmmmjaaGreatDoor
namespace Go.Proofs.YtinndpnilmmmjaaGreatDoor
open Go.RowKit

theorem isOk (c : Nat) (k : Int) (hc : c = 101 ∨ c = 112 ∨ c = 102 ∨ c = 98 ∨ c = 115 ∨ c = 105) (r : Bool) (hr : isK c k = r) (W : World) : Calls Tryz.prog 53 #[.int .u8 (c : Nat), .int .i64 k] W fun e w' => e = .returned (.bool r) ∧ w' = W := by
  rw [← hr]; exact l2Is_any c k W hc

theorem allOk (c : Nat) (a : Option Addr) (n cap : Nat) (zs : List Int) (W : World) (hc : c = 101 ∨ c = 112 ∨ c = 102 ∨ c = 98 ∨ c = 115 ∨ c = 105) (h : Row W a n zs) (r : Bool) (hr : zs.all (isK c) = r) : Calls Tryz.prog 54 #[.int .u8 (c : Nat), .slice a n cap] W fun e w' => e = .returned (.bool r) ∧ w' = W := by
  rw [← hr]; exact l2AllAre_any c a n cap zs W hc h

set_option maxHeartbeats 4000000 in
theorem kidsOk_7 (b off n : Nat) (ks : List Int) (w : World) (h : Row w (some ⟨b, off, none⟩) n ks) : Calls Tryz.prog 25 #[.int .i64 7, .slice (some ⟨b, off, none⟩) n n] w fun e w' => e = .returned (.bool (kidsB 7 ks)) ∧ Below w.heap.size w w' := by
  have hlen := h.len
  have hsm := h.small
  obtain ⟨r, hr⟩ : ∃ r, kidsB 7 ks = r := ⟨_, rfl⟩
  rw [hr]
  have HR : Hid ((decide (2 ≤ ks.length) && (isE (ks.getD 0 0) && (ks.drop 1).all isP)) = r) := hr
  clear hr
  by_cases hn : 2 ≤ n
  case neg =>
    have hg : ¬ (1 : Int) < (n : Int) := by omega
    have HE : Hid (false = r) := by show _ = _; rw [← unhide HR, decide_eq_false (by omega)]; rfl
    go_enter Tryz.func25, Tryz.ntmps25
    go_wp2_with fail
    go_ret
    exact ⟨ret_bool (unhide HE), Below.refl _ _⟩
  have hg : (1 : Int) < (n : Int) := by omega
  obtain ⟨b', off', e', hbl, hc0⟩ := h.get (k := 0) (by omega)
  cases e'
  have hd := h.drop rfl 1 (by omega)
  have HD := hide hd
  obtain ⟨x, hx⟩ : ∃ x, ks.getD 0 0 = x := ⟨_, rfl⟩
  rw [hx] at hc0
  rw [Nat.add_zero] at hc0
  rw [decide_eq_true (show 2 ≤ ks.length by omega), Bool.true_and, hx] at HR
  obtain ⟨zs, hzs⟩ : ∃ zs, ks.drop 1 = zs := ⟨_, rfl⟩
  rw [hzs] at HD HR
  clear h hd hx hzs
  have hcap : ¬ n = 1 := by omega
  have hcap1 : (n : Int) - 1 = ((n - 1 : Nat) : Int) := by omega
  cases hE : isE x with
  | false =>
    have HI := hide (fun W => isOk 101 x (.inl rfl) false hE W)
    have HE : Hid (false = r) := by show _ = _; rw [← unhide HR, hE]; rfl
    clear hE
    go_enter Tryz.func25, Tryz.ntmps25
    go_wp2_with (first | (go_at_call 53; refine (unhide HI _).mono ?_; rintro e w1 ⟨rfl, rfl⟩))
    go_ret
    exact ⟨ret_bool (unhide HE), Below.refl _ _⟩
  | true =>
    have HI := hide (fun W => isOk 101 x (.inl rfl) true hE W)
    rw [hE, Bool.true_and] at HR
    clear hE
    have HA := hide (allOk 112 (some ⟨b, off + 1, none⟩) (n - 1) (n - 1) zs w (.inr (.inl rfl)) (unhide HD) r (unhide HR))
    go_enter Tryz.func25, Tryz.ntmps25
    go_wp2_with (first | (go_at_call 53; refine (unhide HI _).mono ?_; rintro e w1 ⟨rfl, rfl⟩) | (go_at_call 54; refine (unhide HA).mono ?_; rintro e w1 ⟨rfl, rfl⟩))
    go_ret
    exact ⟨rfl, Below.refl _ _⟩

set_option maxHeartbeats 4000000 in
theorem kidsOk_21 (b off n : Nat) (ks : List Int) (w : World) (h : Row w (some ⟨b, off, none⟩) n ks) : Calls Tryz.prog 25 #[.int .i64 21, .slice (some ⟨b, off, none⟩) n n] w fun e w' => e = .returned (.bool (kidsB 21 ks)) ∧ Below w.heap.size w w' := by
  have hlen := h.len
  have hsm := h.small
  obtain ⟨r, hr⟩ : ∃ r, kidsB 21 ks = r := ⟨_, rfl⟩
  rw [hr]
  have HR : Hid ((decide (2 ≤ ks.length) && ((ks.take (ks.length - 1)).all isP && isE (ks.getD (ks.length - 1) 0))) = r) := hr
  clear hr
  by_cases hn : 2 ≤ n
  case neg =>
    have hg : ¬ (1 : Int) < (n : Int) := by omega
    have HE : Hid (false = r) := by show _ = _; rw [← unhide HR, decide_eq_false (by omega)]; rfl
    go_enter Tryz.func25, Tryz.ntmps25
    go_wp2_with fail
    go_ret
    exact ⟨ret_bool (unhide HE), Below.refl _ _⟩
  have hg : (1 : Int) < (n : Int) := by omega
  obtain ⟨b', off', e', hbl, hc0⟩ := h.get (k := n - 1) (by omega)
  cases e'
  have hd := h.take (n - 1) (by omega)
  have HD := hide hd
  obtain ⟨x, hx⟩ : ∃ x, ks.getD (n - 1) 0 = x := ⟨_, rfl⟩
  rw [hx] at hc0
  rw [decide_eq_true (show 2 ≤ ks.length by omega), Bool.true_and, hlen, hx] at HR
  obtain ⟨zs, hzs⟩ : ∃ zs, ks.take (n - 1) = zs := ⟨_, rfl⟩
  rw [hzs] at HD HR
  clear h hd hx hzs
  obtain ⟨m, hm⟩ : ∃ m, n = m + 1 := ⟨n - 1, by omega⟩
  subst hm
  rw [Nat.add_sub_cancel] at HD hc0
  have hcap1 : (((m + 1 : Nat) : Int) - 1) = ((m : Nat) : Int) := by omega
  have hcap2 : (((m : Nat) : Int) + 1 - 1) = ((m : Nat) : Int) := by omega
  have hml : (m : Int) ≤ ((m : Nat) : Int) + 1 := by omega
  cases hE : zs.all isP with
  | false =>
    have HA := hide (allOk 112 (some ⟨b, off, none⟩) m (m + 1) zs w (.inr (.inl rfl)) (unhide HD) false hE)
    have HE : Hid (false = r) := by show _ = _; rw [← unhide HR, hE]; rfl
    clear hE
    go_enter Tryz.func25, Tryz.ntmps25
    go_wp2_with (first | (go_at_call 54; refine (unhide HA).mono ?_; rintro e w1 ⟨rfl, rfl⟩))
    go_ret
    exact ⟨ret_bool (unhide HE), Below.refl _ _⟩
  | true =>
    have HA := hide (allOk 112 (some ⟨b, off, none⟩) m (m + 1) zs w (.inr (.inl rfl)) (unhide HD) true hE)
    rw [hE, Bool.true_and] at HR
    clear hE
    have HI := hide (fun W => isOk 101 x (.inl rfl) r (unhide HR) W)
    go_enter Tryz.func25, Tryz.ntmps25
    go_wp2_with (first | (go_at_call 53; refine (unhide HI _).mono ?_; rintro e w1 ⟨rfl, rfl⟩) | (go_at_call 54; refine (unhide HA).mono ?_; rintro e w1 ⟨rfl, rfl⟩))
    go_ret
    exact ⟨rfl, Below.refl _ _⟩


set_option maxHeartbeats 4000000 in
theorem kidsOk_16 (a : Option Addr) (n cap : Nat) (ks : List Int) (w : World) (h : Row w a n ks) : Calls Tryz.prog 25 #[.int .i64 16, .slice a n cap] w fun e w' => e = .returned (.bool (kidsB 16 ks)) ∧ Below w.heap.size w w' := by
  have HA := hide (allOk 105 a n cap ks w (.inr (.inr (.inr (.inr (.inr rfl))))) h (kidsB 16 ks) rfl)
  clear h
  go_enter Tryz.func25, Tryz.ntmps25
  go_wp2_with (first | (go_at_call 54; refine (unhide HA).mono ?_; rintro e w1 ⟨rfl, rfl⟩))
  go_ret
  exact ⟨rfl, Below.refl _ _⟩


set_option maxHeartbeats 4000000 in
theorem kidsOk_25 (a : Option Addr) (n cap : Nat) (ks : List Int) (w : World) (h : Row w a n ks) : Calls Tryz.prog 25 #[.int .i64 25, .slice a n cap] w fun e w' => e = .returned (.bool (kidsB 25 ks)) ∧ Below w.heap.size w w' := by
  have HA := hide (allOk 115 a n cap ks w (.inr (.inr (.inr (.inr (.inl rfl))))) h (kidsB 25 ks) rfl)
  clear h
  go_enter Tryz.func25, Tryz.ntmps25
  go_wp2_with (first | (go_at_call 54; refine (unhide HA).mono ?_; rintro e w1 ⟨rfl, rfl⟩))
  go_ret
  exact ⟨rfl, Below.refl _ _⟩


theorem fits_take : ∀ (cs : List Nat) (ks : List Int) (j : Nat), cs.length = ks.length → j < ks.length → fits (cs.take j) (ks.take j) = true → isK (cs.getD j 0) (ks.getD j 0) = true → fits (cs.take (j + 1)) (ks.take (j + 1)) = true
  | [], [], j, _, hj, _, _ => absurd hj (Nat.not_lt_zero _)
  | c :: cs, k :: ks, 0, _, _, _, h => by simp at h; simp [fits, h]
  | c :: cs, k :: ks, j + 1, hl, hj, h1, h2 => by
    simp only [List.take_succ_cons, fits, Bool.and_eq_true] at h1 ⊢
    refine ⟨h1.1, fits_take cs ks j (by simpa using hl) (by simpa using hj) h1.2 (by simpa using h2)⟩

theorem fits_bad : ∀ (cs : List Nat) (ks : List Int) (j : Nat), j < ks.length → isK (cs.getD j 0) (ks.getD j 0) = false → cs.length = ks.length → fits cs ks = false
  | [], [], j, hj, _, _ => absurd hj (Nat.not_lt_zero _)
  | c :: cs, k :: ks, 0, _, h, _ => by simp at h; simp [fits, h]
  | c :: cs, k :: ks, j + 1, hj, h, hl => by
    rw [fits, fits_bad cs ks j (by simpa using hj) (by simpa using h) (by simpa using hl), Bool.and_false]

theorem fits_len : ∀ (cs : List Nat) (ks : List Int), cs.length ≠ ks.length → fits cs ks = false
  | [], [], h => absurd rfl h
  | [], _ :: _, _ => rfl
  | _ :: _, [], _ => rfl
  | c :: cs, k :: ks, h => by rw [fits, fits_len cs ks (by simpa using h), Bool.and_false]


end Go.Proofs.YtinndpnilmmmjaaGreatDoor
