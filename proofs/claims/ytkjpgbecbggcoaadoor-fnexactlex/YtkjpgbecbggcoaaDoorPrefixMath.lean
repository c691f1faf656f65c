import Derived.Test.YtkjpgbecbggcoaaDoorStretchMath
import Derived.Lib.Strings
namespace Go.Proofs.YtkjpgbecbggcoaaDoor
open Go

theorem pre_starts (s p : ByteArray) : Lib.hasPrefix s.data.toList p.data.toList = startsB s 0 p := by
  rw [← Lib.hasPrefix_raw]
  unfold startsB
  rw [Nat.zero_add]

theorem trim_starts (s p : ByteArray) : (⟨(Lib.trimPrefix s.data.toList p.data.toList).toArray⟩ : ByteArray) = if startsB s 0 p = true then s.extract p.size s.size else s := by
  by_cases h : startsB s 0 p = true
  · rw [if_pos h]
    unfold startsB at h
    rw [Nat.zero_add, Bool.and_eq_true, decide_eq_true_eq] at h
    exact Lib.trimPrefix_hit s p h.1 h.2
  · rw [if_neg h]
    have h' : startsB s 0 p = false := by simpa using h
    unfold startsB at h'
    rw [Nat.zero_add] at h'
    exact Lib.trimPrefix_miss s p h'

theorem tail_high {s : ByteArray} {i j : Nat} (h : i ≤ s.size) : high (s.extract i s.size) j = high s (i + j) := by
  unfold high
  rw [tail_size]
  by_cases h2 : i + j + 2 ≤ s.size
  · rw [tail_bt (by omega), tail_bt (by omega), Nat.add_assoc i j 1]
    exact decide_eq_decide.2 ⟨fun ⟨_, b⟩ => ⟨h2, b⟩, fun ⟨_, b⟩ => ⟨by omega, b⟩⟩
  · rw [decide_eq_false (fun hh => h2 (by omega)), decide_eq_false (fun hh => h2 hh.1)]

theorem tail_decV {s : ByteArray} {i f : Nat} : ∀ k, i + f + k ≤ s.size → decV (s.extract i s.size) f k = decV s (i + f) k
  | 0, _ => rfl
  | k + 1, h => by
    rw [decV, decV, tail_decV k (by omega), tail_bt (by omega), Nat.add_assoc]

end Go.Proofs.YtkjpgbecbggcoaaDoor
