import Derived.Test.YtijamlgiinjikaaGreatDoorImplContains
import Derived.Test.YtijamlgiinjikaaGreatDoorShelfContains
namespace Go.Proofs.YtijamlgiinjikaaGreatDoor
open Go.RowKit

set_option maxRecDepth 100000 in
theorem sgs_ascii : (List.range 128).all (fun v => decide (0 ≤ Lib.indexByte sgs.data.toList v.toUInt8) == decide (v ∈ signCs)) = true := by kernel_rfl

/-- What ContainsRune says of a character of one byte. -/
theorem contains_small (v : Nat) (hv : v < 128) (W : World) : Calls Tryz.prog 52 #[.string sgs, .int .i32 (v : Int)] W fun e w' => e = .returned (.bool (decide (v ∈ signCs))) ∧ Below W.heap.size W w' := by
  have hq : decide (0 ≤ Lib.indexByte sgs.data.toList v.toUInt8) = decide (v ∈ signCs) := by simpa using List.all_eq_true.1 sgs_ascii v (List.mem_range.2 hv)
  refine (Any.strings_ContainsRune_ascii Tryz.containsS sgs (v : Int) W (by omega) (by omega)).mono ?_
  rintro e w' ⟨rfl, rfl⟩
  rw [Int.toNat_natCast, hq]
  exact ⟨rfl, Below.refl _ _⟩

/-- .. and of U+FFFD. -/
theorem contains_bad (W : World) : Calls Tryz.prog 52 #[.string sgs, .int .i32 ((65533 : Nat) : Int)] W fun e w' => e = .returned (.bool (decide ((65533 : Nat) ∈ signCs))) ∧ Below W.heap.size W w' := by
  have h := contains_of sgs 65533 (-1) W (indexRune_bad sgs W sgs_noBad)
  have e : decide ((0 : Int) ≤ -1) = decide ((65533 : Nat) ∈ signCs) := by decide
  rw [e] at h
  exact h

end Go.Proofs.YtijamlgiinjikaaGreatDoor
