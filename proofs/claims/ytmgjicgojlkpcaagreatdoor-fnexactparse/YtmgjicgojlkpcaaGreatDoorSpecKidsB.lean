import Derived.Test.YtmgjicgojlkpcaaGreatDoorSpecKids
import Derived.Deep.RegionWith
namespace Go.Proofs.YtmgjicgojlkpcaaGreatDoor
open Go.RowKit

theorem isOk (c : Nat) (k : Int) (hc : c = 101 ∨ c = 112 ∨ c = 102 ∨ c = 98 ∨ c = 115 ∨ c = 105) (r : Bool) (hr : isK c k = r) (W : World) : Calls Tryz.prog 53 #[.int .u8 (c : Nat), .int .i64 k] W fun e w' => e = .returned (.bool r) ∧ w' = W := by
  rw [← hr]; exact l2Is_any c k W hc

theorem allOk (c : Nat) (a : Option Addr) (n cap : Nat) (zs : List Int) (W : World) (hc : c = 101 ∨ c = 112 ∨ c = 102 ∨ c = 98 ∨ c = 115 ∨ c = 105) (h : Row W a n zs) (r : Bool) (hr : zs.all (isK c) = r) : Calls Tryz.prog 54 #[.int .u8 (c : Nat), .slice a n cap] W fun e w' => e = .returned (.bool r) ∧ w' = W := by
  rw [← hr]; exact l2AllAre_any c a n cap zs W hc h

set_option maxHeartbeats 4000000 in
theorem kidsOk_7 (b off n : Nat) (ks : List Int) (w : World) (h : Row w (some ⟨b, off, none⟩) n ks) : Calls Tryz.prog 25 #[.int .i64 7, .slice (some ⟨b, off, none⟩) n n] w fun e w' => e = .returned (.bool (kidsB 7 ks)) ∧ Below w.heap.size w w' := by
  have hlen := h.len
  have hsm := h.small
  obtain ⟨r, hr⟩ : ∃ r, kidsB 7 ks = r := ⟨_, rfl⟩
  rw [hr]
  have HR : Hid ((decide (2 ≤ ks.length) && (isE (ks.getD 0 0) && (ks.drop 1).all isP)) = r) := hr
  clear hr
  by_cases hn : 2 ≤ n
  case neg =>
    have hg : ¬ (1 : Int) < (n : Int) := by omega
    have HE : Hid (false = r) := by show _ = _; rw [← unhide HR, decide_eq_false (by omega)]; rfl
    go_enter Tryz.func25, Tryz.ntmps25
    go_wp2_with fail
    go_ret
    exact ⟨ret_bool (unhide HE), Below.refl _ _⟩
  have hg : (1 : Int) < (n : Int) := by omega
  obtain ⟨b', off', e', hbl, hc0⟩ := h.get (k := 0) (by omega)
  cases e'
  have hd := h.drop rfl 1 (by omega)
  have HD := hide hd
  obtain ⟨x, hx⟩ : ∃ x, ks.getD 0 0 = x := ⟨_, rfl⟩
  rw [hx] at hc0
  rw [Nat.add_zero] at hc0
  rw [decide_eq_true (show 2 ≤ ks.length by omega), Bool.true_and, hx] at HR
  obtain ⟨zs, hzs⟩ : ∃ zs, ks.drop 1 = zs := ⟨_, rfl⟩
  rw [hzs] at HD HR
  clear h hd hx hzs
  have hcap : ¬ n = 1 := by omega
  have hcap1 : (n : Int) - 1 = ((n - 1 : Nat) : Int) := by omega
  cases hE : isE x with
  | false =>
    have HI := hide (fun W => isOk 101 x (.inl rfl) false hE W)
    have HE : Hid (false = r) := by show _ = _; rw [← unhide HR, hE]; rfl
    clear hE
    go_enter Tryz.func25, Tryz.ntmps25
    go_wp2_with (first | (go_at_call 53; refine (unhide HI _).mono ?_; rintro e w1 ⟨rfl, rfl⟩))
    go_ret
    exact ⟨ret_bool (unhide HE), Below.refl _ _⟩
  | true =>
    have HI := hide (fun W => isOk 101 x (.inl rfl) true hE W)
    rw [hE, Bool.true_and] at HR
    clear hE
    have HA := hide (allOk 112 (some ⟨b, off + 1, none⟩) (n - 1) (n - 1) zs w (.inr (.inl rfl)) (unhide HD) r (unhide HR))
    go_enter Tryz.func25, Tryz.ntmps25
    go_wp2_with (first | (go_at_call 53; refine (unhide HI _).mono ?_; rintro e w1 ⟨rfl, rfl⟩) | (go_at_call 54; refine (unhide HA).mono ?_; rintro e w1 ⟨rfl, rfl⟩))
    go_ret
    exact ⟨rfl, Below.refl _ _⟩

set_option maxHeartbeats 4000000 in
theorem kidsOk_21 (b off n : Nat) (ks : List Int) (w : World) (h : Row w (some ⟨b, off, none⟩) n ks) : Calls Tryz.prog 25 #[.int .i64 21, .slice (some ⟨b, off, none⟩) n n] w fun e w' => e = .returned (.bool (kidsB 21 ks)) ∧ Below w.heap.size w w' := by
  have hlen := h.len
  have hsm := h.small
  obtain ⟨r, hr⟩ : ∃ r, kidsB 21 ks = r := ⟨_, rfl⟩
  rw [hr]
  have HR : Hid ((decide (2 ≤ ks.length) && ((ks.take (ks.length - 1)).all isP && isE (ks.getD (ks.length - 1) 0))) = r) := hr
  clear hr
  by_cases hn : 2 ≤ n
  case neg =>
    have hg : ¬ (1 : Int) < (n : Int) := by omega
    have HE : Hid (false = r) := by show _ = _; rw [← unhide HR, decide_eq_false (by omega)]; rfl
    go_enter Tryz.func25, Tryz.ntmps25
    go_wp2_with fail
    go_ret
    exact ⟨ret_bool (unhide HE), Below.refl _ _⟩
  have hg : (1 : Int) < (n : Int) := by omega
  obtain ⟨b', off', e', hbl, hc0⟩ := h.get (k := n - 1) (by omega)
  cases e'
  have hd := h.take (n - 1) (by omega)
  have HD := hide hd
  obtain ⟨x, hx⟩ : ∃ x, ks.getD (n - 1) 0 = x := ⟨_, rfl⟩
  rw [hx] at hc0
  rw [decide_eq_true (show 2 ≤ ks.length by omega), Bool.true_and, hlen, hx] at HR
  obtain ⟨zs, hzs⟩ : ∃ zs, ks.take (n - 1) = zs := ⟨_, rfl⟩
  rw [hzs] at HD HR
  clear h hd hx hzs
  obtain ⟨m, hm⟩ : ∃ m, n = m + 1 := ⟨n - 1, by omega⟩
  subst hm
  rw [Nat.add_sub_cancel] at HD hc0
  have hcap1 : (((m + 1 : Nat) : Int) - 1) = ((m : Nat) : Int) := by omega
  have hcap2 : (((m : Nat) : Int) + 1 - 1) = ((m : Nat) : Int) := by omega
  have hml : (m : Int) ≤ ((m : Nat) : Int) + 1 := by omega
  cases hE : zs.all isP with
  | false =>
    have HA := hide (allOk 112 (some ⟨b, off, none⟩) m (m + 1) zs w (.inr (.inl rfl)) (unhide HD) false hE)
    have HE : Hid (false = r) := by show _ = _; rw [← unhide HR, hE]; rfl
    clear hE
    go_enter Tryz.func25, Tryz.ntmps25
    go_wp2_with (first | (go_at_call 54; refine (unhide HA).mono ?_; rintro e w1 ⟨rfl, rfl⟩))
    go_ret
    exact ⟨ret_bool (unhide HE), Below.refl _ _⟩
  | true =>
    have HA := hide (allOk 112 (some ⟨b, off, none⟩) m (m + 1) zs w (.inr (.inl rfl)) (unhide HD) true hE)
    rw [hE, Bool.true_and] at HR
    clear hE
    have HI := hide (fun W => isOk 101 x (.inl rfl) r (unhide HR) W)
    go_enter Tryz.func25, Tryz.ntmps25
    go_wp2_with (first | (go_at_call 53; refine (unhide HI _).mono ?_; rintro e w1 ⟨rfl, rfl⟩) | (go_at_call 54; refine (unhide HA).mono ?_; rintro e w1 ⟨rfl, rfl⟩))
    go_ret
    exact ⟨rfl, Below.refl _ _⟩


set_option maxHeartbeats 4000000 in
theorem kidsOk_16 (a : Option Addr) (n cap : Nat) (ks : List Int) (w : World) (h : Row w a n ks) : Calls Tryz.prog 25 #[.int .i64 16, .slice a n cap] w fun e w' => e = .returned (.bool (kidsB 16 ks)) ∧ Below w.heap.size w w' := by
  have HA := hide (allOk 105 a n cap ks w (.inr (.inr (.inr (.inr (.inr rfl))))) h (kidsB 16 ks) rfl)
  clear h
  go_enter Tryz.func25, Tryz.ntmps25
  go_wp2_with (first | (go_at_call 54; refine (unhide HA).mono ?_; rintro e w1 ⟨rfl, rfl⟩))
  go_ret
  exact ⟨rfl, Below.refl _ _⟩


set_option maxHeartbeats 4000000 in
theorem kidsOk_25 (a : Option Addr) (n cap : Nat) (ks : List Int) (w : World) (h : Row w a n ks) : Calls Tryz.prog 25 #[.int .i64 25, .slice a n cap] w fun e w' => e = .returned (.bool (kidsB 25 ks)) ∧ Below w.heap.size w w' := by
  have HA := hide (allOk 115 a n cap ks w (.inr (.inr (.inr (.inr (.inl rfl))))) h (kidsB 25 ks) rfl)
  clear h
  go_enter Tryz.func25, Tryz.ntmps25
  go_wp2_with (first | (go_at_call 54; refine (unhide HA).mono ?_; rintro e w1 ⟨rfl, rfl⟩))
  go_ret
  exact ⟨rfl, Below.refl _ _⟩


theorem fits_take : ∀ (cs : List Nat) (ks : List Int) (j : Nat), cs.length = ks.length → j < ks.length → fits (cs.take j) (ks.take j) = true → isK (cs.getD j 0) (ks.getD j 0) = true → fits (cs.take (j + 1)) (ks.take (j + 1)) = true
  | [], [], j, _, hj, _, _ => absurd hj (Nat.not_lt_zero _)
  | c :: cs, k :: ks, 0, _, _, _, h => by simp at h; simp [fits, h]
  | c :: cs, k :: ks, j + 1, hl, hj, h1, h2 => by
    simp only [List.take_succ_cons, fits, Bool.and_eq_true] at h1 ⊢
    refine ⟨h1.1, fits_take cs ks j (by simpa using hl) (by simpa using hj) h1.2 (by simpa using h2)⟩

theorem fits_bad : ∀ (cs : List Nat) (ks : List Int) (j : Nat), j < ks.length → isK (cs.getD j 0) (ks.getD j 0) = false → cs.length = ks.length → fits cs ks = false
  | [], [], j, hj, _, _ => absurd hj (Nat.not_lt_zero _)
  | c :: cs, k :: ks, 0, _, h, _ => by simp at h; simp [fits, h]
  | c :: cs, k :: ks, j + 1, hj, h, hl => by
    rw [fits, fits_bad cs ks j (by simpa using hj) (by simpa using h) (by simpa using hl), Bool.and_false]

theorem fits_len : ∀ (cs : List Nat) (ks : List Int), cs.length ≠ ks.length → fits cs ks = false
  | [], [], h => absurd rfl h
  | [], _ :: _, _ => rfl
  | _ :: _, [], _ => rfl
  | c :: cs, k :: ks, h => by rw [fits, fits_len cs ks (by simpa using h), Bool.and_false]


end Go.Proofs.YtmgjicgojlkpcaaGreatDoor
