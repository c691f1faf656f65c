import Derived.Test.YtmgjicgojlkpcaaGreatDoorSpecKidsB
namespace Go.Proofs.YtmgjicgojlkpcaaGreatDoor
open Go.RowKit

set_option maxHeartbeats 4000000 in
theorem kidsOk_1 (b off n cap : Nat) (ks : List Int) (w : World) (h : Row w (some ⟨b, off, none⟩) n ks) : Calls Tryz.prog 25 #[.int .i64 1, .slice (some ⟨b, off, none⟩) n cap] w fun e w' => e = .returned (.bool (kidsB 1 ks)) ∧ Below w.heap.size w w' := by
  have hlen := h.len
  obtain ⟨r, hr⟩ : ∃ r, kidsB 1 ks = r := ⟨_, rfl⟩
  rw [hr]
  have HR : Hid (fits [] ks = r) := hr
  clear hr
  by_cases hn : n = 0
  case neg =>
    have hg : ((0 : Int) != (n : Int)) = true := by simp; omega
    have HE : Hid (false = r) := by show _ = _; rw [← unhide HR]; exact (fits_len _ _ (by rw [hlen]; exact fun e => hn e.symm)).symm
    clear hn
    go_enter Tryz.func25, Tryz.ntmps25
    go_wp2_with fail
    go_ret
    exact ⟨ret_bool (unhide HE), (Below.refl _ _).alloc (Nat.le_refl _) _⟩
  subst hn
  have H := hide h
  clear h
  go_enter Tryz.func25, Tryz.ntmps25
  go_wp2_with fail
  go_loopw [7] (fun i wr => ∃ j : Nat, j ≤ 0 ∧ i = .int .i64 j ∧ Hid (fits (List.take j []) (ks.take j) = true) ∧ Hid (Below w.heap.size w wr)) (fun i _ => 0 - (intOf i).toNat)
  case atStart => exact ⟨0, Nat.zero_le _, rfl, rfl, (Below.refl _ _).alloc (Nat.le_refl _) _⟩
  case round =>
    obtain ⟨j, hj, rfl, HA, HB⟩ := hrel
    have hjn : j = 0 := by omega
    subst hjn
    have HE : Hid (true = r) := by
      show _ = _
      rw [← unhide HR]
      have := unhide HA
      rw [List.take_of_length_le (by simp), List.take_of_length_le (by omega)] at this
      exact this.symm
    go_wp2_with fail
    go_ret
    exact ⟨ret_bool (unhide HE), unhide HB⟩


set_option maxHeartbeats 4000000 in
theorem kidsOk_2 (b off n cap : Nat) (ks : List Int) (w : World) (h : Row w (some ⟨b, off, none⟩) n ks) : Calls Tryz.prog 25 #[.int .i64 2, .slice (some ⟨b, off, none⟩) n cap] w fun e w' => e = .returned (.bool (kidsB 2 ks)) ∧ Below w.heap.size w w' := by
  have hlen := h.len
  obtain ⟨r, hr⟩ : ∃ r, kidsB 2 ks = r := ⟨_, rfl⟩
  rw [hr]
  have HR : Hid (fits [] ks = r) := hr
  clear hr
  by_cases hn : n = 0
  case neg =>
    have hg : ((0 : Int) != (n : Int)) = true := by simp; omega
    have HE : Hid (false = r) := by show _ = _; rw [← unhide HR]; exact (fits_len _ _ (by rw [hlen]; exact fun e => hn e.symm)).symm
    clear hn
    go_enter Tryz.func25, Tryz.ntmps25
    go_wp2_with fail
    go_ret
    exact ⟨ret_bool (unhide HE), (Below.refl _ _).alloc (Nat.le_refl _) _⟩
  subst hn
  have H := hide h
  clear h
  go_enter Tryz.func25, Tryz.ntmps25
  go_wp2_with fail
  go_loopw [7] (fun i wr => ∃ j : Nat, j ≤ 0 ∧ i = .int .i64 j ∧ Hid (fits (List.take j []) (ks.take j) = true) ∧ Hid (Below w.heap.size w wr)) (fun i _ => 0 - (intOf i).toNat)
  case atStart => exact ⟨0, Nat.zero_le _, rfl, rfl, (Below.refl _ _).alloc (Nat.le_refl _) _⟩
  case round =>
    obtain ⟨j, hj, rfl, HA, HB⟩ := hrel
    have hjn : j = 0 := by omega
    subst hjn
    have HE : Hid (true = r) := by
      show _ = _
      rw [← unhide HR]
      have := unhide HA
      rw [List.take_of_length_le (by simp), List.take_of_length_le (by omega)] at this
      exact this.symm
    go_wp2_with fail
    go_ret
    exact ⟨ret_bool (unhide HE), unhide HB⟩


set_option maxHeartbeats 4000000 in
theorem kidsOk_3 (b off n cap : Nat) (ks : List Int) (w : World) (h : Row w (some ⟨b, off, none⟩) n ks) : Calls Tryz.prog 25 #[.int .i64 3, .slice (some ⟨b, off, none⟩) n cap] w fun e w' => e = .returned (.bool (kidsB 3 ks)) ∧ Below w.heap.size w w' := by
  have hlen := h.len
  obtain ⟨r, hr⟩ : ∃ r, kidsB 3 ks = r := ⟨_, rfl⟩
  rw [hr]
  have HR : Hid (fits [] ks = r) := hr
  clear hr
  by_cases hn : n = 0
  case neg =>
    have hg : ((0 : Int) != (n : Int)) = true := by simp; omega
    have HE : Hid (false = r) := by show _ = _; rw [← unhide HR]; exact (fits_len _ _ (by rw [hlen]; exact fun e => hn e.symm)).symm
    clear hn
    go_enter Tryz.func25, Tryz.ntmps25
    go_wp2_with fail
    go_ret
    exact ⟨ret_bool (unhide HE), (Below.refl _ _).alloc (Nat.le_refl _) _⟩
  subst hn
  have H := hide h
  clear h
  go_enter Tryz.func25, Tryz.ntmps25
  go_wp2_with fail
  go_loopw [7] (fun i wr => ∃ j : Nat, j ≤ 0 ∧ i = .int .i64 j ∧ Hid (fits (List.take j []) (ks.take j) = true) ∧ Hid (Below w.heap.size w wr)) (fun i _ => 0 - (intOf i).toNat)
  case atStart => exact ⟨0, Nat.zero_le _, rfl, rfl, (Below.refl _ _).alloc (Nat.le_refl _) _⟩
  case round =>
    obtain ⟨j, hj, rfl, HA, HB⟩ := hrel
    have hjn : j = 0 := by omega
    subst hjn
    have HE : Hid (true = r) := by
      show _ = _
      rw [← unhide HR]
      have := unhide HA
      rw [List.take_of_length_le (by simp), List.take_of_length_le (by omega)] at this
      exact this.symm
    go_wp2_with fail
    go_ret
    exact ⟨ret_bool (unhide HE), unhide HB⟩


end Go.Proofs.YtmgjicgojlkpcaaGreatDoor
