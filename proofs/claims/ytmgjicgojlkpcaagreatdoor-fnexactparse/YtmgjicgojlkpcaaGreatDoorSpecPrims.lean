import Derived.Test.YtmgjicgojlkpcaaGreatDoorSpecSigns
namespace Go.Proofs.YtmgjicgojlkpcaaGreatDoor
open Go.RowKit

/-- The primitives' signs, in their order. -/
def primCs : List Nat := [43, 45, 215, 247, 8970, 8968, 124, 42, 61, 8800, 60, 8804, 8805, 62, 8743, 8744, 126, 9076, 9075, 44, 9021, 8854, 9033, 8593, 8595, 9035, 9042, 8714, 47, 9023, 8869, 8868, 8802]

def primS : ByteArray := ⟨(primCs.flatMap fun c => ((encZ (c : Nat)).map fun x => x.toNat.toUInt8) ++ [32]).toArray⟩

/-- The signs as texts. -/
def primTs : List ByteArray := primCs.map fun c => bstr (encZ (c : Nat))

theorem prim_pieces : (pcN primS primS.size).2 = primTs := by kernel_rfl

theorem primTs_len : primTs.length = 33 := by kernel_rfl

theorem prim_size : primS.size ≤ 100000 := by
  have : primS.size = 110 := by kernel_rfl
  omega

set_option maxRecDepth 100000 in
theorem l2Prims_any (w : World) : Calls Tryz.prog 122 #[] w (GivesStrs w primTs) := by
  have HC : ∀ x : ByteArray, x = primS → Calls Tryz.prog 141 #[.string x] w (GivesStrs w primTs) := fun x h => by
    rw [h, ← prim_pieces]
    exact l1List_any primS w prim_size
  have HL := hide HC
  clear HC
  go_enter Tryz.func122, Tryz.ntmps122
  go_wp2_with (go_at_call 141; refine (unhide HL _ (by kernel_rfl)).mono ?_; rintro e w5 ⟨g, cap, rfl, hr, hb⟩; have HR := hide hr; have HB := hide hb; clear hr hb)
  go_ret
  exact ⟨g, cap, rfl, unhide HR, unhide HB⟩

/-- How long a sign is. -/
theorem prim_short : ∀ t ∈ primTs, t.size ≤ 4 := by
  have h : (primTs.all fun t => decide (t.size ≤ 4)) = true := by kernel_rfl
  intro t ht
  have := List.all_eq_true.mp h t ht
  exact of_decide_eq_true this

end Go.Proofs.YtmgjicgojlkpcaaGreatDoor
