import Derived.Test.YtinndpnilmmmjaaGreatDoorSpecName
import Derived.Test.YtinndpnilmmmjaaGreatDoorMFit0
import Derived.Test.YtinndpnilmmmjaaGreatDoorSpecTokT
import Derived.Test.YtinndpnilmmmjaaGreatDoorNameMath
namespace Go.Proofs.YtinndpnilmmmjaaGreatDoor
open Go.RowKit

theorem fields_fin {T : ByteArray → Bool} {k n m : Int} {s : ByteArray} {nums kids : List Int} (h1 : k ≠ 1) (h2 : k ≠ 2) (h15 : k ≠ 15) (hn : nums.length = 0) (hs : ((k = 3 ∨ k = 17 ∨ (19 ≤ k ∧ k ≤ 22)) ∧ nameB s (decide (k = 17 ∨ k = 20)) = true) ∨ (¬ (k = 3 ∨ k = 17 ∨ (19 ≤ k ∧ k ≤ 22)) ∧ s.size = 0)) :
    fieldsS T ⟨k, n, m, s, nums, kids⟩ = decide (n ≤ mostK k ∧ (1 ≤ n ∨ (mostK k = 0 ∧ n = 0)) ∧ 0 ≤ m ∧ m ≤ marksK k) := by
  unfold fieldsS
  dsimp only
  rw [if_neg h1, if_neg (show ¬ 0 < nums.length by omega), if_neg h2]
  rcases hs with ⟨a, b⟩ | ⟨a, b⟩
  · rw [if_neg (fun h => by rw [b] at h; exact absurd h.2 (by decide)), if_neg (fun h => h.1 a), if_neg h15]
  · rw [if_neg (fun h => a h.1), if_neg (fun h => h.2 b), if_neg h15]

theorem fields_fin15 {T : ByteArray → Bool} {n m : Int} {s : ByteArray} {nums kids : List Int} (hn : nums.length = 0) (hs : s.size = 0) :
    fieldsS T ⟨15, n, m, s, nums, kids⟩ = decide (1 ≤ n ∧ n ≤ 16 ∧ 1 ≤ m ∧ m ≤ 16) := by
  unfold fieldsS
  dsimp only
  rw [if_neg (show ¬ (15 : Int) = 1 by decide), if_neg (show ¬ 0 < nums.length by omega), if_neg (show ¬ (15 : Int) = 2 by decide), if_neg (by rintro ⟨h, -⟩; omega), if_neg (fun h => h.2 hs), if_pos rfl]

theorem fields_nums {T : ByteArray → Bool} {k n m : Int} {s : ByteArray} {nums kids : List Int} (h1 : k ≠ 1) (hn : 0 < nums.length) : fieldsS T ⟨k, n, m, s, nums, kids⟩ = false := by
  unfold fieldsS
  dsimp only
  rw [if_neg h1, if_pos hn]

theorem fields_noname {T : ByteArray → Bool} {k n m : Int} {s : ByteArray} {nums kids : List Int} (h1 : k ≠ 1) (h2 : k ≠ 2) (hn : nums.length = 0) (ha : k = 3 ∨ k = 17 ∨ (19 ≤ k ∧ k ≤ 22)) (hb : nameB s (decide (k = 17 ∨ k = 20)) = false) : fieldsS T ⟨k, n, m, s, nums, kids⟩ = false := by
  unfold fieldsS
  dsimp only
  rw [if_neg h1, if_neg (show ¬ 0 < nums.length by omega), if_neg h2, if_pos ⟨ha, hb⟩]

theorem fields_text {T : ByteArray → Bool} {k n m : Int} {s : ByteArray} {nums kids : List Int} (h1 : k ≠ 1) (h2 : k ≠ 2) (hn : nums.length = 0) (ha : ¬ (k = 3 ∨ k = 17 ∨ (19 ≤ k ∧ k ≤ 22))) (hb : s.size ≠ 0) : fieldsS T ⟨k, n, m, s, nums, kids⟩ = false := by
  unfold fieldsS
  dsimp only
  rw [if_neg h1, if_neg (show ¬ 0 < nums.length by omega), if_neg h2, if_neg (fun h => ha h.1), if_pos ⟨ha, hb⟩]

theorem nameOk (s : ByteArray) (hi r : Bool) (hs : s.size ≤ 1048576) (h : nameB s hi = r) (W : World) : Calls Tryz.prog 56 #[.string s, .bool hi] W fun e w' => e = .returned (.bool r) ∧ w' = W := by rw [← h]; exact l2Name_any s hi W hs

theorem empty_of {s : ByteArray} (h : s.size = 0) : s = ⟨#[]⟩ := ByteArray.ext (Array.eq_empty_of_size_eq_zero h)

theorem str_ne {s : ByteArray} (h : s.size ≠ 0) : s.toList.isEmpty = false := by
  rw [Lib.toList_data]
  cases hl : s.data.toList with
  | nil => exact absurd (by rw [Lib.size_eq, hl]; rfl) h
  | cons a r => rfl


end Go.Proofs.YtinndpnilmmmjaaGreatDoor
