import Derived.Test.YtinndpnilmmmjaaGreatDoorMKids
namespace Go.Proofs.YtinndpnilmmmjaaGreatDoor
open Go.RowKit

set_option maxHeartbeats 4000000 in
theorem kidsOk_11 (b off n cap : Nat) (ks : List Int) (w : World) (h : Row w (some ⟨b, off, none⟩) n ks) : Calls Tryz.prog 25 #[.int .i64 11, .slice (some ⟨b, off, none⟩) n cap] w fun e w' => e = .returned (.bool (kidsB 11 ks)) ∧ Below w.heap.size w w' := by
  have hlen := h.len
  obtain ⟨r, hr⟩ : ∃ r, kidsB 11 ks = r := ⟨_, rfl⟩
  rw [hr]
  have HR : Hid (fits [] ks = r) := hr
  clear hr
  by_cases hn : n = 0
  case neg =>
    have hg : ((0 : Int) != (n : Int)) = true := by simp; omega
    have HE : Hid (false = r) := by show _ = _; rw [← unhide HR]; exact (fits_len _ _ (by rw [hlen]; exact fun e => hn e.symm)).symm
    clear hn
    go_enter Tryz.func25, Tryz.ntmps25
    go_wp2_with fail
    go_ret
    exact ⟨ret_bool (unhide HE), (Below.refl _ _).alloc (Nat.le_refl _) _⟩
  subst hn
  have H := hide h
  clear h
  go_enter Tryz.func25, Tryz.ntmps25
  go_wp2_with fail
  go_loopw [7] (fun i wr => ∃ j : Nat, j ≤ 0 ∧ i = .int .i64 j ∧ Hid (fits (List.take j []) (ks.take j) = true) ∧ Hid (Below w.heap.size w wr)) (fun i _ => 0 - (intOf i).toNat)
  case atStart => exact ⟨0, Nat.zero_le _, rfl, rfl, (Below.refl _ _).alloc (Nat.le_refl _) _⟩
  case round =>
    obtain ⟨j, hj, rfl, HA, HB⟩ := hrel
    have hjn : j = 0 := by omega
    subst hjn
    have HE : Hid (true = r) := by
      show _ = _
      rw [← unhide HR]
      have := unhide HA
      rw [List.take_of_length_le (by simp), List.take_of_length_le (by omega)] at this
      exact this.symm
    go_wp2_with fail
    go_ret
    exact ⟨ret_bool (unhide HE), unhide HB⟩


set_option maxHeartbeats 4000000 in
theorem kidsOk_12 (b off n cap : Nat) (ks : List Int) (w : World) (h : Row w (some ⟨b, off, none⟩) n ks) : Calls Tryz.prog 25 #[.int .i64 12, .slice (some ⟨b, off, none⟩) n cap] w fun e w' => e = .returned (.bool (kidsB 12 ks)) ∧ Below w.heap.size w w' := by
  have hlen := h.len
  obtain ⟨r, hr⟩ : ∃ r, kidsB 12 ks = r := ⟨_, rfl⟩
  rw [hr]
  have HR : Hid (fits [] ks = r) := hr
  clear hr
  by_cases hn : n = 0
  case neg =>
    have hg : ((0 : Int) != (n : Int)) = true := by simp; omega
    have HE : Hid (false = r) := by show _ = _; rw [← unhide HR]; exact (fits_len _ _ (by rw [hlen]; exact fun e => hn e.symm)).symm
    clear hn
    go_enter Tryz.func25, Tryz.ntmps25
    go_wp2_with fail
    go_ret
    exact ⟨ret_bool (unhide HE), (Below.refl _ _).alloc (Nat.le_refl _) _⟩
  subst hn
  have H := hide h
  clear h
  go_enter Tryz.func25, Tryz.ntmps25
  go_wp2_with fail
  go_loopw [7] (fun i wr => ∃ j : Nat, j ≤ 0 ∧ i = .int .i64 j ∧ Hid (fits (List.take j []) (ks.take j) = true) ∧ Hid (Below w.heap.size w wr)) (fun i _ => 0 - (intOf i).toNat)
  case atStart => exact ⟨0, Nat.zero_le _, rfl, rfl, (Below.refl _ _).alloc (Nat.le_refl _) _⟩
  case round =>
    obtain ⟨j, hj, rfl, HA, HB⟩ := hrel
    have hjn : j = 0 := by omega
    subst hjn
    have HE : Hid (true = r) := by
      show _ = _
      rw [← unhide HR]
      have := unhide HA
      rw [List.take_of_length_le (by simp), List.take_of_length_le (by omega)] at this
      exact this.symm
    go_wp2_with fail
    go_ret
    exact ⟨ret_bool (unhide HE), unhide HB⟩


set_option maxHeartbeats 4000000 in
theorem kidsOk_13 (b off n cap : Nat) (ks : List Int) (w : World) (h : Row w (some ⟨b, off, none⟩) n ks) : Calls Tryz.prog 25 #[.int .i64 13, .slice (some ⟨b, off, none⟩) n cap] w fun e w' => e = .returned (.bool (kidsB 13 ks)) ∧ Below w.heap.size w w' := by
  have hlen := h.len
  obtain ⟨r, hr⟩ : ∃ r, kidsB 13 ks = r := ⟨_, rfl⟩
  rw [hr]
  have HR : Hid (fits [] ks = r) := hr
  clear hr
  by_cases hn : n = 0
  case neg =>
    have hg : ((0 : Int) != (n : Int)) = true := by simp; omega
    have HE : Hid (false = r) := by show _ = _; rw [← unhide HR]; exact (fits_len _ _ (by rw [hlen]; exact fun e => hn e.symm)).symm
    clear hn
    go_enter Tryz.func25, Tryz.ntmps25
    go_wp2_with fail
    go_ret
    exact ⟨ret_bool (unhide HE), (Below.refl _ _).alloc (Nat.le_refl _) _⟩
  subst hn
  have H := hide h
  clear h
  go_enter Tryz.func25, Tryz.ntmps25
  go_wp2_with fail
  go_loopw [7] (fun i wr => ∃ j : Nat, j ≤ 0 ∧ i = .int .i64 j ∧ Hid (fits (List.take j []) (ks.take j) = true) ∧ Hid (Below w.heap.size w wr)) (fun i _ => 0 - (intOf i).toNat)
  case atStart => exact ⟨0, Nat.zero_le _, rfl, rfl, (Below.refl _ _).alloc (Nat.le_refl _) _⟩
  case round =>
    obtain ⟨j, hj, rfl, HA, HB⟩ := hrel
    have hjn : j = 0 := by omega
    subst hjn
    have HE : Hid (true = r) := by
      show _ = _
      rw [← unhide HR]
      have := unhide HA
      rw [List.take_of_length_le (by simp), List.take_of_length_le (by omega)] at this
      exact this.symm
    go_wp2_with fail
    go_ret
    exact ⟨ret_bool (unhide HE), unhide HB⟩


set_option maxHeartbeats 4000000 in
theorem kidsOk_14 (b off n cap : Nat) (ks : List Int) (w : World) (h : Row w (some ⟨b, off, none⟩) n ks) : Calls Tryz.prog 25 #[.int .i64 14, .slice (some ⟨b, off, none⟩) n cap] w fun e w' => e = .returned (.bool (kidsB 14 ks)) ∧ Below w.heap.size w w' := by
  have hlen := h.len
  obtain ⟨r, hr⟩ : ∃ r, kidsB 14 ks = r := ⟨_, rfl⟩
  rw [hr]
  have HR : Hid (fits [] ks = r) := hr
  clear hr
  by_cases hn : n = 0
  case neg =>
    have hg : ((0 : Int) != (n : Int)) = true := by simp; omega
    have HE : Hid (false = r) := by show _ = _; rw [← unhide HR]; exact (fits_len _ _ (by rw [hlen]; exact fun e => hn e.symm)).symm
    clear hn
    go_enter Tryz.func25, Tryz.ntmps25
    go_wp2_with fail
    go_ret
    exact ⟨ret_bool (unhide HE), (Below.refl _ _).alloc (Nat.le_refl _) _⟩
  subst hn
  have H := hide h
  clear h
  go_enter Tryz.func25, Tryz.ntmps25
  go_wp2_with fail
  go_loopw [7] (fun i wr => ∃ j : Nat, j ≤ 0 ∧ i = .int .i64 j ∧ Hid (fits (List.take j []) (ks.take j) = true) ∧ Hid (Below w.heap.size w wr)) (fun i _ => 0 - (intOf i).toNat)
  case atStart => exact ⟨0, Nat.zero_le _, rfl, rfl, (Below.refl _ _).alloc (Nat.le_refl _) _⟩
  case round =>
    obtain ⟨j, hj, rfl, HA, HB⟩ := hrel
    have hjn : j = 0 := by omega
    subst hjn
    have HE : Hid (true = r) := by
      show _ = _
      rw [← unhide HR]
      have := unhide HA
      rw [List.take_of_length_le (by simp), List.take_of_length_le (by omega)] at this
      exact this.symm
    go_wp2_with fail
    go_ret
    exact ⟨ret_bool (unhide HE), unhide HB⟩


set_option maxHeartbeats 4000000 in
theorem kidsOk_15 (b off n cap : Nat) (ks : List Int) (w : World) (h : Row w (some ⟨b, off, none⟩) n ks) : Calls Tryz.prog 25 #[.int .i64 15, .slice (some ⟨b, off, none⟩) n cap] w fun e w' => e = .returned (.bool (kidsB 15 ks)) ∧ Below w.heap.size w w' := by
  have hlen := h.len
  obtain ⟨r, hr⟩ : ∃ r, kidsB 15 ks = r := ⟨_, rfl⟩
  rw [hr]
  have HR : Hid (fits [] ks = r) := hr
  clear hr
  by_cases hn : n = 0
  case neg =>
    have hg : ((0 : Int) != (n : Int)) = true := by simp; omega
    have HE : Hid (false = r) := by show _ = _; rw [← unhide HR]; exact (fits_len _ _ (by rw [hlen]; exact fun e => hn e.symm)).symm
    clear hn
    go_enter Tryz.func25, Tryz.ntmps25
    go_wp2_with fail
    go_ret
    exact ⟨ret_bool (unhide HE), (Below.refl _ _).alloc (Nat.le_refl _) _⟩
  subst hn
  have H := hide h
  clear h
  go_enter Tryz.func25, Tryz.ntmps25
  go_wp2_with fail
  go_loopw [7] (fun i wr => ∃ j : Nat, j ≤ 0 ∧ i = .int .i64 j ∧ Hid (fits (List.take j []) (ks.take j) = true) ∧ Hid (Below w.heap.size w wr)) (fun i _ => 0 - (intOf i).toNat)
  case atStart => exact ⟨0, Nat.zero_le _, rfl, rfl, (Below.refl _ _).alloc (Nat.le_refl _) _⟩
  case round =>
    obtain ⟨j, hj, rfl, HA, HB⟩ := hrel
    have hjn : j = 0 := by omega
    subst hjn
    have HE : Hid (true = r) := by
      show _ = _
      rw [← unhide HR]
      have := unhide HA
      rw [List.take_of_length_le (by simp), List.take_of_length_le (by omega)] at this
      exact this.symm
    go_wp2_with fail
    go_ret
    exact ⟨ret_bool (unhide HE), unhide HB⟩


end Go.Proofs.YtinndpnilmmmjaaGreatDoor
namespace Go.Proofs.YtinndpnilmmmjaaGreatDoor
open Go.RowKit

set_option maxHeartbeats 4000000 in
theorem kidsOk_17 (b off n cap : Nat) (ks : List Int) (w : World) (h : Row w (some ⟨b, off, none⟩) n ks) : Calls Tryz.prog 25 #[.int .i64 17, .slice (some ⟨b, off, none⟩) n cap] w fun e w' => e = .returned (.bool (kidsB 17 ks)) ∧ Below w.heap.size w w' := by
  have hlen := h.len
  obtain ⟨r, hr⟩ : ∃ r, kidsB 17 ks = r := ⟨_, rfl⟩
  rw [hr]
  have HR : Hid (fits [] ks = r) := hr
  clear hr
  by_cases hn : n = 0
  case neg =>
    have hg : ((0 : Int) != (n : Int)) = true := by simp; omega
    have HE : Hid (false = r) := by show _ = _; rw [← unhide HR]; exact (fits_len _ _ (by rw [hlen]; exact fun e => hn e.symm)).symm
    clear hn
    go_enter Tryz.func25, Tryz.ntmps25
    go_wp2_with fail
    go_ret
    exact ⟨ret_bool (unhide HE), (Below.refl _ _).alloc (Nat.le_refl _) _⟩
  subst hn
  have H := hide h
  clear h
  go_enter Tryz.func25, Tryz.ntmps25
  go_wp2_with fail
  go_loopw [7] (fun i wr => ∃ j : Nat, j ≤ 0 ∧ i = .int .i64 j ∧ Hid (fits (List.take j []) (ks.take j) = true) ∧ Hid (Below w.heap.size w wr)) (fun i _ => 0 - (intOf i).toNat)
  case atStart => exact ⟨0, Nat.zero_le _, rfl, rfl, (Below.refl _ _).alloc (Nat.le_refl _) _⟩
  case round =>
    obtain ⟨j, hj, rfl, HA, HB⟩ := hrel
    have hjn : j = 0 := by omega
    subst hjn
    have HE : Hid (true = r) := by
      show _ = _
      rw [← unhide HR]
      have := unhide HA
      rw [List.take_of_length_le (by simp), List.take_of_length_le (by omega)] at this
      exact this.symm
    go_wp2_with fail
    go_ret
    exact ⟨ret_bool (unhide HE), unhide HB⟩


set_option maxHeartbeats 4000000 in
theorem kidsOk_18 (b off n cap : Nat) (ks : List Int) (w : World) (h : Row w (some ⟨b, off, none⟩) n ks) : Calls Tryz.prog 25 #[.int .i64 18, .slice (some ⟨b, off, none⟩) n cap] w fun e w' => e = .returned (.bool (kidsB 18 ks)) ∧ Below w.heap.size w w' := by
  have hlen := h.len
  obtain ⟨r, hr⟩ : ∃ r, kidsB 18 ks = r := ⟨_, rfl⟩
  rw [hr]
  have HR : Hid (fits [] ks = r) := hr
  clear hr
  by_cases hn : n = 0
  case neg =>
    have hg : ((0 : Int) != (n : Int)) = true := by simp; omega
    have HE : Hid (false = r) := by show _ = _; rw [← unhide HR]; exact (fits_len _ _ (by rw [hlen]; exact fun e => hn e.symm)).symm
    clear hn
    go_enter Tryz.func25, Tryz.ntmps25
    go_wp2_with fail
    go_ret
    exact ⟨ret_bool (unhide HE), (Below.refl _ _).alloc (Nat.le_refl _) _⟩
  subst hn
  have H := hide h
  clear h
  go_enter Tryz.func25, Tryz.ntmps25
  go_wp2_with fail
  go_loopw [7] (fun i wr => ∃ j : Nat, j ≤ 0 ∧ i = .int .i64 j ∧ Hid (fits (List.take j []) (ks.take j) = true) ∧ Hid (Below w.heap.size w wr)) (fun i _ => 0 - (intOf i).toNat)
  case atStart => exact ⟨0, Nat.zero_le _, rfl, rfl, (Below.refl _ _).alloc (Nat.le_refl _) _⟩
  case round =>
    obtain ⟨j, hj, rfl, HA, HB⟩ := hrel
    have hjn : j = 0 := by omega
    subst hjn
    have HE : Hid (true = r) := by
      show _ = _
      rw [← unhide HR]
      have := unhide HA
      rw [List.take_of_length_le (by simp), List.take_of_length_le (by omega)] at this
      exact this.symm
    go_wp2_with fail
    go_ret
    exact ⟨ret_bool (unhide HE), unhide HB⟩


set_option maxHeartbeats 4000000 in
theorem kidsOk_19 (b off n cap : Nat) (ks : List Int) (w : World) (h : Row w (some ⟨b, off, none⟩) n ks) : Calls Tryz.prog 25 #[.int .i64 19, .slice (some ⟨b, off, none⟩) n cap] w fun e w' => e = .returned (.bool (kidsB 19 ks)) ∧ Below w.heap.size w w' := by
  have hlen := h.len
  obtain ⟨r, hr⟩ : ∃ r, kidsB 19 ks = r := ⟨_, rfl⟩
  rw [hr]
  have HR : Hid (fits [101] ks = r) := hr
  clear hr
  by_cases hn : n = 1
  case neg =>
    have hg : ((1 : Int) != (n : Int)) = true := by simp; omega
    have HE : Hid (false = r) := by show _ = _; rw [← unhide HR]; exact (fits_len _ _ (by rw [hlen]; exact fun e => hn e.symm)).symm
    clear hn
    go_enter Tryz.func25, Tryz.ntmps25
    go_wp2_with fail
    go_ret
    exact ⟨ret_bool (unhide HE), (Below.refl _ _).alloc (Nat.le_refl _) _⟩
  subst hn
  have H := hide h
  clear h
  go_enter Tryz.func25, Tryz.ntmps25
  go_wp2_with fail
  go_loopw [7] (fun i wr => ∃ j : Nat, j ≤ 1 ∧ i = .int .i64 j ∧ Hid (fits (List.take j [101]) (ks.take j) = true) ∧ Hid (Below w.heap.size w wr)) (fun i _ => 1 - (intOf i).toNat)
  case atStart => exact ⟨0, Nat.zero_le _, rfl, rfl, (Below.refl _ _).alloc (Nat.le_refl _) _⟩
  case round =>
    obtain ⟨j, hj, rfl, HA, HB⟩ := hrel
    by_cases h0 : j = 0
    · subst h0
      obtain ⟨b', off', e', hbl, hc0⟩ := ((unhide H).below (Nat.le_refl _) (unhide HB)).get (k := 0) (by omega)
      cases e'
      obtain ⟨x, hx⟩ : ∃ x, ks.getD 0 0 = x := ⟨_, rfl⟩
      rw [hx] at hc0
      rw [Nat.add_zero] at hc0
      have HX := hide hx
      clear hx
      cases hE : isK 101 x with
      | false =>
        have HI := hide (fun W => isOk 101 x (.inl rfl) false hE W)
        have HE : Hid (false = r) := by show _ = _; rw [← unhide HR]; exact (fits_bad [101] ks 0 (by omega) (by rw [unhide HX]; exact hE) hlen.symm).symm
        clear hE
        go_wp2_with fail
        go_quiet ((go_at_call 53; exact Calls.quiet_of_same (unhide HI _)))
        go_wp2_with fail
        go_ret
        exact ⟨ret_bool (unhide HE), Below.drewN (unhide HB) _⟩
      | true =>
        have HI := hide (fun W => isOk 101 x (.inl rfl) true hE W)
        have HT : Hid (fits (List.take 1 [101]) (ks.take 1) = true) := fits_take [101] ks 0 hlen.symm (by omega) (unhide HA) (by rw [unhide HX]; exact hE)
        clear hE
        go_wp2_with fail
        go_quiet ((go_at_call 53; exact Calls.quiet_of_same (unhide HI _)))
        go_wp2_with fail
        go_roundw
        case rel => exact ⟨1, by omega, by go_num, HT, Below.drewN (unhide HB) _⟩
        case measure => simp [intOf]
    have hjn : j = 1 := by omega
    subst hjn
    have HE : Hid (true = r) := by
      show _ = _
      rw [← unhide HR]
      have := unhide HA
      rw [List.take_of_length_le (by simp), List.take_of_length_le (by omega)] at this
      exact this.symm
    go_wp2_with fail
    go_ret
    exact ⟨ret_bool (unhide HE), unhide HB⟩


set_option maxHeartbeats 4000000 in
theorem kidsOk_20 (b off n cap : Nat) (ks : List Int) (w : World) (h : Row w (some ⟨b, off, none⟩) n ks) : Calls Tryz.prog 25 #[.int .i64 20, .slice (some ⟨b, off, none⟩) n cap] w fun e w' => e = .returned (.bool (kidsB 20 ks)) ∧ Below w.heap.size w w' := by
  have hlen := h.len
  obtain ⟨r, hr⟩ : ∃ r, kidsB 20 ks = r := ⟨_, rfl⟩
  rw [hr]
  have HR : Hid (fits [98] ks = r) := hr
  clear hr
  by_cases hn : n = 1
  case neg =>
    have hg : ((1 : Int) != (n : Int)) = true := by simp; omega
    have HE : Hid (false = r) := by show _ = _; rw [← unhide HR]; exact (fits_len _ _ (by rw [hlen]; exact fun e => hn e.symm)).symm
    clear hn
    go_enter Tryz.func25, Tryz.ntmps25
    go_wp2_with fail
    go_ret
    exact ⟨ret_bool (unhide HE), (Below.refl _ _).alloc (Nat.le_refl _) _⟩
  subst hn
  have H := hide h
  clear h
  go_enter Tryz.func25, Tryz.ntmps25
  go_wp2_with fail
  go_loopw [7] (fun i wr => ∃ j : Nat, j ≤ 1 ∧ i = .int .i64 j ∧ Hid (fits (List.take j [98]) (ks.take j) = true) ∧ Hid (Below w.heap.size w wr)) (fun i _ => 1 - (intOf i).toNat)
  case atStart => exact ⟨0, Nat.zero_le _, rfl, rfl, (Below.refl _ _).alloc (Nat.le_refl _) _⟩
  case round =>
    obtain ⟨j, hj, rfl, HA, HB⟩ := hrel
    by_cases h0 : j = 0
    · subst h0
      obtain ⟨b', off', e', hbl, hc0⟩ := ((unhide H).below (Nat.le_refl _) (unhide HB)).get (k := 0) (by omega)
      cases e'
      obtain ⟨x, hx⟩ : ∃ x, ks.getD 0 0 = x := ⟨_, rfl⟩
      rw [hx] at hc0
      rw [Nat.add_zero] at hc0
      have HX := hide hx
      clear hx
      cases hE : isK 98 x with
      | false =>
        have HI := hide (fun W => isOk 98 x (.inr (.inr (.inr (.inl rfl)))) false hE W)
        have HE : Hid (false = r) := by show _ = _; rw [← unhide HR]; exact (fits_bad [98] ks 0 (by omega) (by rw [unhide HX]; exact hE) hlen.symm).symm
        clear hE
        go_wp2_with fail
        go_quiet ((go_at_call 53; exact Calls.quiet_of_same (unhide HI _)))
        go_wp2_with fail
        go_ret
        exact ⟨ret_bool (unhide HE), Below.drewN (unhide HB) _⟩
      | true =>
        have HI := hide (fun W => isOk 98 x (.inr (.inr (.inr (.inl rfl)))) true hE W)
        have HT : Hid (fits (List.take 1 [98]) (ks.take 1) = true) := fits_take [98] ks 0 hlen.symm (by omega) (unhide HA) (by rw [unhide HX]; exact hE)
        clear hE
        go_wp2_with fail
        go_quiet ((go_at_call 53; exact Calls.quiet_of_same (unhide HI _)))
        go_wp2_with fail
        go_roundw
        case rel => exact ⟨1, by omega, by go_num, HT, Below.drewN (unhide HB) _⟩
        case measure => simp [intOf]
    have hjn : j = 1 := by omega
    subst hjn
    have HE : Hid (true = r) := by
      show _ = _
      rw [← unhide HR]
      have := unhide HA
      rw [List.take_of_length_le (by simp), List.take_of_length_le (by omega)] at this
      exact this.symm
    go_wp2_with fail
    go_ret
    exact ⟨ret_bool (unhide HE), unhide HB⟩


set_option maxHeartbeats 4000000 in
theorem kidsOk_22 (b off n cap : Nat) (ks : List Int) (w : World) (h : Row w (some ⟨b, off, none⟩) n ks) : Calls Tryz.prog 25 #[.int .i64 22, .slice (some ⟨b, off, none⟩) n cap] w fun e w' => e = .returned (.bool (kidsB 22 ks)) ∧ Below w.heap.size w w' := by
  have hlen := h.len
  obtain ⟨r, hr⟩ : ∃ r, kidsB 22 ks = r := ⟨_, rfl⟩
  rw [hr]
  have HR : Hid (fits [101] ks = r) := hr
  clear hr
  by_cases hn : n = 1
  case neg =>
    have hg : ((1 : Int) != (n : Int)) = true := by simp; omega
    have HE : Hid (false = r) := by show _ = _; rw [← unhide HR]; exact (fits_len _ _ (by rw [hlen]; exact fun e => hn e.symm)).symm
    clear hn
    go_enter Tryz.func25, Tryz.ntmps25
    go_wp2_with fail
    go_ret
    exact ⟨ret_bool (unhide HE), (Below.refl _ _).alloc (Nat.le_refl _) _⟩
  subst hn
  have H := hide h
  clear h
  go_enter Tryz.func25, Tryz.ntmps25
  go_wp2_with fail
  go_loopw [7] (fun i wr => ∃ j : Nat, j ≤ 1 ∧ i = .int .i64 j ∧ Hid (fits (List.take j [101]) (ks.take j) = true) ∧ Hid (Below w.heap.size w wr)) (fun i _ => 1 - (intOf i).toNat)
  case atStart => exact ⟨0, Nat.zero_le _, rfl, rfl, (Below.refl _ _).alloc (Nat.le_refl _) _⟩
  case round =>
    obtain ⟨j, hj, rfl, HA, HB⟩ := hrel
    by_cases h0 : j = 0
    · subst h0
      obtain ⟨b', off', e', hbl, hc0⟩ := ((unhide H).below (Nat.le_refl _) (unhide HB)).get (k := 0) (by omega)
      cases e'
      obtain ⟨x, hx⟩ : ∃ x, ks.getD 0 0 = x := ⟨_, rfl⟩
      rw [hx] at hc0
      rw [Nat.add_zero] at hc0
      have HX := hide hx
      clear hx
      cases hE : isK 101 x with
      | false =>
        have HI := hide (fun W => isOk 101 x (.inl rfl) false hE W)
        have HE : Hid (false = r) := by show _ = _; rw [← unhide HR]; exact (fits_bad [101] ks 0 (by omega) (by rw [unhide HX]; exact hE) hlen.symm).symm
        clear hE
        go_wp2_with fail
        go_quiet ((go_at_call 53; exact Calls.quiet_of_same (unhide HI _)))
        go_wp2_with fail
        go_ret
        exact ⟨ret_bool (unhide HE), Below.drewN (unhide HB) _⟩
      | true =>
        have HI := hide (fun W => isOk 101 x (.inl rfl) true hE W)
        have HT : Hid (fits (List.take 1 [101]) (ks.take 1) = true) := fits_take [101] ks 0 hlen.symm (by omega) (unhide HA) (by rw [unhide HX]; exact hE)
        clear hE
        go_wp2_with fail
        go_quiet ((go_at_call 53; exact Calls.quiet_of_same (unhide HI _)))
        go_wp2_with fail
        go_roundw
        case rel => exact ⟨1, by omega, by go_num, HT, Below.drewN (unhide HB) _⟩
        case measure => simp [intOf]
    have hjn : j = 1 := by omega
    subst hjn
    have HE : Hid (true = r) := by
      show _ = _
      rw [← unhide HR]
      have := unhide HA
      rw [List.take_of_length_le (by simp), List.take_of_length_le (by omega)] at this
      exact this.symm
    go_wp2_with fail
    go_ret
    exact ⟨ret_bool (unhide HE), unhide HB⟩


end Go.Proofs.YtinndpnilmmmjaaGreatDoor
namespace Go.Proofs.YtinndpnilmmmjaaGreatDoor
open Go.RowKit

set_option maxHeartbeats 4000000 in
theorem kidsOk_23 (b off n cap : Nat) (ks : List Int) (w : World) (h : Row w (some ⟨b, off, none⟩) n ks) : Calls Tryz.prog 25 #[.int .i64 23, .slice (some ⟨b, off, none⟩) n cap] w fun e w' => e = .returned (.bool (kidsB 23 ks)) ∧ Below w.heap.size w w' := by
  have hlen := h.len
  obtain ⟨r, hr⟩ : ∃ r, kidsB 23 ks = r := ⟨_, rfl⟩
  rw [hr]
  have HR : Hid (fits [101, 101] ks = r) := hr
  clear hr
  by_cases hn : n = 2
  case neg =>
    have hg : ((2 : Int) != (n : Int)) = true := by simp; omega
    have HE : Hid (false = r) := by show _ = _; rw [← unhide HR]; exact (fits_len _ _ (by rw [hlen]; exact fun e => hn e.symm)).symm
    clear hn
    go_enter Tryz.func25, Tryz.ntmps25
    go_wp2_with fail
    go_ret
    exact ⟨ret_bool (unhide HE), (Below.refl _ _).alloc (Nat.le_refl _) _⟩
  subst hn
  have H := hide h
  clear h
  go_enter Tryz.func25, Tryz.ntmps25
  go_wp2_with fail
  go_loopw [7] (fun i wr => ∃ j : Nat, j ≤ 2 ∧ i = .int .i64 j ∧ Hid (fits (List.take j [101, 101]) (ks.take j) = true) ∧ Hid (Below w.heap.size w wr)) (fun i _ => 2 - (intOf i).toNat)
  case atStart => exact ⟨0, Nat.zero_le _, rfl, rfl, (Below.refl _ _).alloc (Nat.le_refl _) _⟩
  case round =>
    obtain ⟨j, hj, rfl, HA, HB⟩ := hrel
    by_cases h0 : j = 0
    · subst h0
      obtain ⟨b', off', e', hbl, hc0⟩ := ((unhide H).below (Nat.le_refl _) (unhide HB)).get (k := 0) (by omega)
      cases e'
      obtain ⟨x, hx⟩ : ∃ x, ks.getD 0 0 = x := ⟨_, rfl⟩
      rw [hx] at hc0
      rw [Nat.add_zero] at hc0
      have HX := hide hx
      clear hx
      cases hE : isK 101 x with
      | false =>
        have HI := hide (fun W => isOk 101 x (.inl rfl) false hE W)
        have HE : Hid (false = r) := by show _ = _; rw [← unhide HR]; exact (fits_bad [101, 101] ks 0 (by omega) (by rw [unhide HX]; exact hE) hlen.symm).symm
        clear hE
        go_wp2_with fail
        go_quiet ((go_at_call 53; exact Calls.quiet_of_same (unhide HI _)))
        go_wp2_with fail
        go_ret
        exact ⟨ret_bool (unhide HE), Below.drewN (unhide HB) _⟩
      | true =>
        have HI := hide (fun W => isOk 101 x (.inl rfl) true hE W)
        have HT : Hid (fits (List.take 1 [101, 101]) (ks.take 1) = true) := fits_take [101, 101] ks 0 hlen.symm (by omega) (unhide HA) (by rw [unhide HX]; exact hE)
        clear hE
        go_wp2_with fail
        go_quiet ((go_at_call 53; exact Calls.quiet_of_same (unhide HI _)))
        go_wp2_with fail
        go_roundw
        case rel => exact ⟨1, by omega, by go_num, HT, Below.drewN (unhide HB) _⟩
        case measure => simp [intOf]
    by_cases h1 : j = 1
    · subst h1
      obtain ⟨b', off', e', hbl, hc0⟩ := ((unhide H).below (Nat.le_refl _) (unhide HB)).get (k := 1) (by omega)
      cases e'
      obtain ⟨x, hx⟩ : ∃ x, ks.getD 1 0 = x := ⟨_, rfl⟩
      rw [hx] at hc0
      have HX := hide hx
      clear hx
      cases hE : isK 101 x with
      | false =>
        have HI := hide (fun W => isOk 101 x (.inl rfl) false hE W)
        have HE : Hid (false = r) := by show _ = _; rw [← unhide HR]; exact (fits_bad [101, 101] ks 1 (by omega) (by rw [unhide HX]; exact hE) hlen.symm).symm
        clear hE
        go_wp2_with fail
        go_quiet ((go_at_call 53; exact Calls.quiet_of_same (unhide HI _)))
        go_wp2_with fail
        go_ret
        exact ⟨ret_bool (unhide HE), Below.drewN (unhide HB) _⟩
      | true =>
        have HI := hide (fun W => isOk 101 x (.inl rfl) true hE W)
        have HT : Hid (fits (List.take 2 [101, 101]) (ks.take 2) = true) := fits_take [101, 101] ks 1 hlen.symm (by omega) (unhide HA) (by rw [unhide HX]; exact hE)
        clear hE
        go_wp2_with fail
        go_quiet ((go_at_call 53; exact Calls.quiet_of_same (unhide HI _)))
        go_wp2_with fail
        go_roundw
        case rel => exact ⟨2, by omega, by go_num, HT, Below.drewN (unhide HB) _⟩
        case measure => simp [intOf]
    have hjn : j = 2 := by omega
    subst hjn
    have HE : Hid (true = r) := by
      show _ = _
      rw [← unhide HR]
      have := unhide HA
      rw [List.take_of_length_le (by simp), List.take_of_length_le (by omega)] at this
      exact this.symm
    go_wp2_with fail
    go_ret
    exact ⟨ret_bool (unhide HE), unhide HB⟩


set_option maxHeartbeats 4000000 in
theorem kidsOk_24 (b off n cap : Nat) (ks : List Int) (w : World) (h : Row w (some ⟨b, off, none⟩) n ks) : Calls Tryz.prog 25 #[.int .i64 24, .slice (some ⟨b, off, none⟩) n cap] w fun e w' => e = .returned (.bool (kidsB 24 ks)) ∧ Below w.heap.size w w' := by
  have hlen := h.len
  obtain ⟨r, hr⟩ : ∃ r, kidsB 24 ks = r := ⟨_, rfl⟩
  rw [hr]
  have HR : Hid (fits [101, 101] ks = r) := hr
  clear hr
  by_cases hn : n = 2
  case neg =>
    have hg : ((2 : Int) != (n : Int)) = true := by simp; omega
    have HE : Hid (false = r) := by show _ = _; rw [← unhide HR]; exact (fits_len _ _ (by rw [hlen]; exact fun e => hn e.symm)).symm
    clear hn
    go_enter Tryz.func25, Tryz.ntmps25
    go_wp2_with fail
    go_ret
    exact ⟨ret_bool (unhide HE), (Below.refl _ _).alloc (Nat.le_refl _) _⟩
  subst hn
  have H := hide h
  clear h
  go_enter Tryz.func25, Tryz.ntmps25
  go_wp2_with fail
  go_loopw [7] (fun i wr => ∃ j : Nat, j ≤ 2 ∧ i = .int .i64 j ∧ Hid (fits (List.take j [101, 101]) (ks.take j) = true) ∧ Hid (Below w.heap.size w wr)) (fun i _ => 2 - (intOf i).toNat)
  case atStart => exact ⟨0, Nat.zero_le _, rfl, rfl, (Below.refl _ _).alloc (Nat.le_refl _) _⟩
  case round =>
    obtain ⟨j, hj, rfl, HA, HB⟩ := hrel
    by_cases h0 : j = 0
    · subst h0
      obtain ⟨b', off', e', hbl, hc0⟩ := ((unhide H).below (Nat.le_refl _) (unhide HB)).get (k := 0) (by omega)
      cases e'
      obtain ⟨x, hx⟩ : ∃ x, ks.getD 0 0 = x := ⟨_, rfl⟩
      rw [hx] at hc0
      rw [Nat.add_zero] at hc0
      have HX := hide hx
      clear hx
      cases hE : isK 101 x with
      | false =>
        have HI := hide (fun W => isOk 101 x (.inl rfl) false hE W)
        have HE : Hid (false = r) := by show _ = _; rw [← unhide HR]; exact (fits_bad [101, 101] ks 0 (by omega) (by rw [unhide HX]; exact hE) hlen.symm).symm
        clear hE
        go_wp2_with fail
        go_quiet ((go_at_call 53; exact Calls.quiet_of_same (unhide HI _)))
        go_wp2_with fail
        go_ret
        exact ⟨ret_bool (unhide HE), Below.drewN (unhide HB) _⟩
      | true =>
        have HI := hide (fun W => isOk 101 x (.inl rfl) true hE W)
        have HT : Hid (fits (List.take 1 [101, 101]) (ks.take 1) = true) := fits_take [101, 101] ks 0 hlen.symm (by omega) (unhide HA) (by rw [unhide HX]; exact hE)
        clear hE
        go_wp2_with fail
        go_quiet ((go_at_call 53; exact Calls.quiet_of_same (unhide HI _)))
        go_wp2_with fail
        go_roundw
        case rel => exact ⟨1, by omega, by go_num, HT, Below.drewN (unhide HB) _⟩
        case measure => simp [intOf]
    by_cases h1 : j = 1
    · subst h1
      obtain ⟨b', off', e', hbl, hc0⟩ := ((unhide H).below (Nat.le_refl _) (unhide HB)).get (k := 1) (by omega)
      cases e'
      obtain ⟨x, hx⟩ : ∃ x, ks.getD 1 0 = x := ⟨_, rfl⟩
      rw [hx] at hc0
      have HX := hide hx
      clear hx
      cases hE : isK 101 x with
      | false =>
        have HI := hide (fun W => isOk 101 x (.inl rfl) false hE W)
        have HE : Hid (false = r) := by show _ = _; rw [← unhide HR]; exact (fits_bad [101, 101] ks 1 (by omega) (by rw [unhide HX]; exact hE) hlen.symm).symm
        clear hE
        go_wp2_with fail
        go_quiet ((go_at_call 53; exact Calls.quiet_of_same (unhide HI _)))
        go_wp2_with fail
        go_ret
        exact ⟨ret_bool (unhide HE), Below.drewN (unhide HB) _⟩
      | true =>
        have HI := hide (fun W => isOk 101 x (.inl rfl) true hE W)
        have HT : Hid (fits (List.take 2 [101, 101]) (ks.take 2) = true) := fits_take [101, 101] ks 1 hlen.symm (by omega) (unhide HA) (by rw [unhide HX]; exact hE)
        clear hE
        go_wp2_with fail
        go_quiet ((go_at_call 53; exact Calls.quiet_of_same (unhide HI _)))
        go_wp2_with fail
        go_roundw
        case rel => exact ⟨2, by omega, by go_num, HT, Below.drewN (unhide HB) _⟩
        case measure => simp [intOf]
    have hjn : j = 2 := by omega
    subst hjn
    have HE : Hid (true = r) := by
      show _ = _
      rw [← unhide HR]
      have := unhide HA
      rw [List.take_of_length_le (by simp), List.take_of_length_le (by omega)] at this
      exact this.symm
    go_wp2_with fail
    go_ret
    exact ⟨ret_bool (unhide HE), unhide HB⟩


end Go.Proofs.YtinndpnilmmmjaaGreatDoor
