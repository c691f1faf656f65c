import Derived.Test.YtkjpgbecbggcoaaDoorMFit1
namespace Go.Proofs.YtkjpgbecbggcoaaDoor
open Go.RowKit

theorem enc_one (v c : Nat) (hc : c < 128) : Utf8.encode (v : Int) = ⟨#[UInt8.ofNat c]⟩ ↔ v = c := by
  constructor
  · intro h
    have hsz := congrArg (fun b : ByteArray => b.data.toList) h
    by_cases hv : Utf8.valid (v : Int) = true
    · by_cases h1 : v < 128
      · unfold Utf8.encode at hsz
        simp only [hv, if_true, Int.toNat_natCast, if_pos h1] at hsz
        have e := congrArg (fun l : List UInt8 => (l.headD 0).toNat) hsz
        change (UInt8.ofNat v).toNat = (UInt8.ofNat c).toNat at e
        rw [UInt8.toNat_ofNat', UInt8.toNat_ofNat'] at e
        omega
      · have := (encode_facts v hv (by omega)).1
        rw [h] at this
        exact absurd this (by show ¬ 2 ≤ 1; omega)
    · unfold Utf8.encode at hsz
      simp [hv, Utf8.runeError] at hsz
  · rintro rfl
    have hv : Utf8.valid (v : Int) = true := by unfold Utf8.valid; simp; omega
    unfold Utf8.encode
    simp only [hv, if_true, Int.toNat_natCast, if_pos hc]

theorem enc_high (v : Nat) : Utf8.encode (v : Int) = ⟨#[194, 175]⟩ ↔ v = 175 := by
  constructor
  · intro h
    have hsz := congrArg (fun b : ByteArray => b.data.toList) h
    by_cases hv : Utf8.valid (v : Int) = true
    · unfold Utf8.encode at hsz
      simp only [hv, if_true, Int.toNat_natCast] at hsz
      by_cases h1 : v < 128
      · rw [if_pos h1] at hsz; simp at hsz
      · rw [if_neg h1] at hsz
        by_cases h2 : v < 2048
        · rw [if_pos h2] at hsz
          have a := congrArg (fun l : List UInt8 => (l.headD 0).toNat) hsz
          have b := congrArg (fun l : List UInt8 => (l.tail.headD 0).toNat) hsz
          change (UInt8.ofNat (192 + v / 64)).toNat = 194 at a
          change (UInt8.ofNat (128 + v % 64)).toNat = 175 at b
          rw [UInt8.toNat_ofNat'] at a b
          omega
        · rw [if_neg h2] at hsz
          split at hsz <;> simp at hsz
    · unfold Utf8.encode at hsz
      simp [hv, Utf8.runeError] at hsz
  · rintro rfl
    decide

end Go.Proofs.YtkjpgbecbggcoaaDoor
