import Derived.Test.YtinndpnilmmmjaaGreatDoorMFit1
namespace Go.Proofs.YtinndpnilmmmjaaGreatDoor
open Go.RowKit

set_option maxRecDepth 20000 in
set_option maxHeartbeats 2000000 in
theorem l1Dec_pos (m : Nat) (hm : m ≤ 1000000000000000) (w : World) : Calls Tryz.prog 73 #[.int .i64 (m : Nat)] w fun e w' => e = .returned (.string (bstr (decZ m))) ∧ Below w.heap.size w w' := by
  have h0 : ¬ (m : Int) < 0 := by omega
  go_enter Tryz.func73, Tryz.ntmps73
  go_wp2_with fail
  go_loopw [0, 3] (fun a b wr => ∃ (x : Nat) (l : List Int), a = .int .i64 x ∧ b = .string (bstr l) ∧ x ≤ 1000000000000000 ∧ Hid (decZ m = decZ x ++ l) ∧ Hid (Below w.heap.size w wr)) (fun a _ _ => (intOf a).toNat)
  case atStart => exact ⟨m, [], rfl, rfl, hm, (by show _ = _; simp), Below.refl _ _⟩
  case round =>
    obtain ⟨x, l, rfl, rfl, hx, HK, HB⟩ := hrel
    by_cases h10 : x < 10
    · have h10i : ¬ (10 : Int) ≤ (x : Int) := by omega
      obtain ⟨A, hA⟩ : ∃ A, 48 + x = A := ⟨_, rfl⟩
      have eA : 48 + (x : Int) = (A : Int) := by omega
      have hA8 : A < 256 := by omega
      have wA : IntKind.u8.wrap (A : Int) = (A : Int) := byteN rfl hA8
      have hcv := conv_one wr A hA8
      have hln : l.length ≤ 16 := by
        have h1 := congrArg List.length (unhide HK)
        have h2 := decZ_le 15 m (by omega)
        rw [List.length_append] at h1
        omega
      have hno : ¬ 9223372036854775807 < (bstr [(A : Int)]).size + (bstr l).size := by rw [bstr_size, bstr_size]; simp; omega
      have hap : bstr [(A : Int)] ++ bstr l = bstr ((A : Int) :: l) := bstr_app _ _
      have HR : Hid (bstr ((A : Int) :: l) = bstr (decZ m)) := by show _ = _; rw [unhide HK, decZ_small h10, eA]; rfl
      have hsz := (unhide HB).size
      clear hA
      go_wp2_with fail
      go_ret
      exact ⟨by rw [unhide HR]; rfl, (unhide HB).alloc hsz _⟩
    · have h10i : (10 : Int) ≤ (x : Int) := by omega
      obtain ⟨y, hy⟩ : ∃ y, x / 10 = y := ⟨_, rfl⟩
      obtain ⟨r, hr⟩ : ∃ r, x % 10 = r := ⟨_, rfl⟩
      have ey : (x : Int).tdiv 10 = (y : Int) := by rw [Int.tdiv_eq_ediv_of_nonneg (by omega)]; omega
      have ey2 : (x : Int) / 10 = (y : Int) := by omega
      have er : (x : Int).tmod 10 = (r : Int) := by rw [Int.tmod_eq_emod_of_nonneg (by omega)]; omega
      have er2 : (x : Int) % 10 = (r : Int) := by omega
      obtain ⟨A, hA⟩ : ∃ A, 48 + r = A := ⟨_, rfl⟩
      have eA : 48 + (r : Int) = (A : Int) := by omega
      have hA8 : A < 256 := by omega
      have wA : IntKind.u8.wrap (A : Int) = (A : Int) := byteN rfl hA8
      have hcv := conv_one wr A hA8
      have hln : l.length ≤ 16 := by
        have h1 := congrArg List.length (unhide HK)
        have h2 := decZ_le 15 m (by omega)
        rw [List.length_append] at h1
        omega
      have hno : ¬ 9223372036854775807 < (bstr [(A : Int)]).size + (bstr l).size := by rw [bstr_size, bstr_size]; simp; omega
      have hap : bstr [(A : Int)] ++ bstr l = bstr ((A : Int) :: l) := bstr_app _ _
      have HN : Hid (decZ m = decZ y ++ ((A : Int) :: l)) := by show _ = _; rw [unhide HK, decZ_big h10, hy, hr, eA]; simp
      have hsz := (unhide HB).size
      have hyx : y < x := by omega
      clear hA hy hr
      go_wp2_with fail
      go_roundw
      case rel => exact ⟨y, (A : Int) :: l, by go_num, rfl, by omega, HN, (unhide HB).alloc hsz _⟩
      case measure => simp [intOf]; omega

theorem l1HighD_any (w : World) : Calls Tryz.prog 121 #[] w fun e w' => e = .returned (.string ⟨#[194, 175]⟩) ∧ w' = w := by
  go_enter Tryz.func121, Tryz.ntmps121
  go_wp2
  go_ret
  exact ⟨rfl, rfl⟩

set_option maxRecDepth 20000 in
set_option maxHeartbeats 2000000 in
theorem l1Dec_any (v : Int) (hv : -1000000000000000 ≤ v ∧ v ≤ 1000000000000000) (w : World) : Calls Tryz.prog 73 #[.int .i64 v] w fun e w' => e = .returned (.string (bstr (numT v))) ∧ Below w.heap.size w w' := by
  by_cases hn : v < 0
  · obtain ⟨m, rfl⟩ : ∃ m : Nat, v = -(m : Int) := ⟨v.natAbs, by omega⟩
    have hw : IntKind.i64.wrap (-(-(m : Int))) = (m : Int) := by rw [IntKind.wrap_i64]; omega
    have HR : Hid (bstr [194, 175] ++ bstr (decZ m) = bstr (numT (-(m : Int)))) := by
      show _ = _
      rw [bstr_app]
      unfold numT
      rw [if_pos hn]
      congr 2
      simp
    have hhigh : bstr [194, 175] = ⟨#[194, 175]⟩ := rfl
    have hno : ¬ 9223372036854775807 < (⟨#[194, 175]⟩ : ByteArray).size + (bstr (decZ m)).size := by
      have h2 := decZ_le 15 m (by omega)
      rw [← hhigh, bstr_size, bstr_size]
      simp
      omega
    have hc := l1Dec_pos m (by omega) w
    rw [hhigh] at HR
    have hmb : m ≤ 1000000000000000 := by omega
    clear hhigh hv
    go_enter Tryz.func73, Tryz.ntmps73
    go_wp2_with fail
    refine (l1HighD_any _).mono ?_
    rintro e w1 ⟨he, hw⟩
    subst hw
    subst he
    go_wp2_with fail
    refine hc.mono ?_
    rintro e w2 ⟨he, hb⟩
    subst he
    have HB := hide hb
    clear hb hc
    go_wp2_with fail
    go_ret
    exact ⟨by rw [← unhide HR]; rfl, unhide HB⟩
  · obtain ⟨m, rfl⟩ : ∃ m : Nat, v = (m : Int) := ⟨v.toNat, by omega⟩
    have e : numT (m : Int) = decZ m := by unfold numT; rw [if_neg hn]; simp
    rw [e]
    exact l1Dec_pos m (by omega) w

end Go.Proofs.YtinndpnilmmmjaaGreatDoor
