import Derived.Test.YtkjpgbecbggcoaaDoorMFit1
import Derived.Test.YtkjpgbecbggcoaaDoorMFit1
namespace Go.Proofs.YtkjpgbecbggcoaaDoor
open Go.RowKit

/-- A mark as a text. -/
def mt (m : Nat) : ByteArray := bstr (109 :: decZ m)
def decP (x : Nat) : List Int := if x = 0 then [] else decZ x

theorem decP_step {x : Nat} (h : x ≠ 0) : decP x = decP (x / 10) ++ [48 + ((x % 10 : Nat) : Int)] := by
  unfold decP
  rw [if_neg h]
  by_cases h10 : x < 10
  · rw [if_pos (by omega), decZ_small h10, show x % 10 = x by omega]; rfl
  · rw [if_neg (by omega), decZ_big h10]

set_option maxRecDepth 20000 in
set_option maxHeartbeats 2000000 in
theorem markText_any (m : Nat) (h1 : 1 ≤ m) (hm : m ≤ 1000000000000000) (w : World) : Calls Tryd.prog 22 #[.int .i64 (m : Nat)] w fun e w' => e = .returned (.string (mt m)) ∧ Below w.heap.size w w' := by
  have h0 : ¬ (m : Int) ≤ 0 := by omega
  have HP : Hid (decZ m = decP m) := by show _ = _; unfold decP; rw [if_neg (by omega)]
  go_enter Tryd.func22, Tryd.ntmps22
  go_wp2_with fail
  go_loopw [0, 3] (fun a b wr => ∃ (x : Nat) (l : List Int), a = .int .i64 x ∧ b = .string (bstr l) ∧ x ≤ 1000000000000000 ∧ Hid (decZ m = decP x ++ l) ∧ Hid (Below w.heap.size w wr)) (fun a _ _ => (intOf a).toNat)
  case atStart => exact ⟨m, [], rfl, rfl, hm, (by show _ = _; rw [List.append_nil]; exact unhide HP), Below.refl _ _⟩
  case round =>
    obtain ⟨x, l, rfl, rfl, hx, HK, HB⟩ := hrel
    have hln : l.length ≤ 16 := by
      have h1 := congrArg List.length (unhide HK)
      have h2 := decZ_le 15 m (by omega)
      rw [List.length_append] at h1
      omega
    by_cases hz : x = 0
    · subst hz
      have hno : ¬ 9223372036854775807 < (ByteArray.mk #[109]).size + (bstr l).size := by rw [bstr_size, show (ByteArray.mk #[109]).size = 1 from rfl]; omega
      have hap : (ByteArray.mk #[109]) ++ bstr l = bstr (109 :: l) := bstr_app [109] l
      have HR : Hid (bstr (109 :: l) = mt m) := by show _ = _; unfold mt; rw [unhide HK]; rfl
      go_wp2_with fail
      go_ret
      exact ⟨by rw [unhide HR]; rfl, unhide HB⟩
    · have hzi : 0 < (x : Int) := by omega
      obtain ⟨y, hy⟩ : ∃ y, x / 10 = y := ⟨_, rfl⟩
      obtain ⟨r, hr⟩ : ∃ r, x % 10 = r := ⟨_, rfl⟩
      have ey : (x : Int).tdiv 10 = (y : Int) := by rw [Int.tdiv_eq_ediv_of_nonneg (by omega)]; omega
      have ey2 : (x : Int) / 10 = (y : Int) := by omega
      have er : (x : Int).tmod 10 = (r : Int) := by rw [Int.tmod_eq_emod_of_nonneg (by omega)]; omega
      have er2 : (x : Int) % 10 = (r : Int) := by omega
      obtain ⟨A, hA⟩ : ∃ A, 48 + r = A := ⟨_, rfl⟩
      have eA : 48 + (r : Int) = (A : Int) := by omega
      have hA8 : A < 256 := by omega
      have wA : IntKind.u8.wrap (A : Int) = (A : Int) := byteN rfl hA8
      have hcv := conv_one wr A hA8
      have hno : ¬ 9223372036854775807 < (bstr [(A : Int)]).size + (bstr l).size := by rw [bstr_size, bstr_size]; simp; omega
      have hap : bstr [(A : Int)] ++ bstr l = bstr ((A : Int) :: l) := bstr_app _ _
      have HN : Hid (decZ m = decP y ++ ((A : Int) :: l)) := by show _ = _; rw [unhide HK, decP_step hz, hy, hr, eA]; simp
      have hsz := (unhide HB).size
      have hyx : y < x := by omega
      clear hA hy hr hz
      go_wp2_with fail
      go_roundw
      case rel => exact ⟨y, (A : Int) :: l, by go_num, rfl, by omega, HN, (unhide HB).alloc hsz _⟩
      case measure => simp [intOf]; omega

end Go.Proofs.YtkjpgbecbggcoaaDoor
