import Derived.Test.YtkgcmpmgaghdhaaGreatDoorNoCap
namespace Go.Proofs.YtkgcmpmgaghdhaaGreatDoor
open Go.RowKit

set_option maxHeartbeats 400000 in
theorem l3Ints_nil (cap : Nat) (w : World) :
    Calls Tryz.prog 56 #[.slice none 0 cap] w fun e w' => ∃ a' cap', e = .returned (.slice a' 0 cap') ∧ Own w' w.heap.size a' 0 [] ∧ Below w.heap.size w w' := by
  obtain ⟨i0, hi, hz0, hz1, hz2⟩ := info_parts info_int
  have hown := owns_empty w
  go_enter Tryz.func56, Tryz.ntmps56
  go_wp2_with (at_builtin; refine wpList_append_nocap rfl _ _ 23 rfl w.heap.size 3 i0 1 Tryz.underlying23 hi _ 0 [] rfl hown 0 rfl cap rfl ?_)
  go_ret
  exact ⟨_, _, rfl, ⟨rfl, by omega, .inl rfl⟩, (Below.refl _ _).alloc (Nat.le_refl _) _⟩

/-- A copy of a list that may be nil. -/
theorem l3Ints_opt (ad : Option Addr) (n cap : Nat) (zs : List Int) (w : World) (h : Row w ad n zs) :
    Calls Tryz.prog 56 #[.slice ad n cap] w fun e w' => ∃ a' cap', e = .returned (.slice a' n cap') ∧ Own w' w.heap.size a' n zs ∧ Below w.heap.size w w' := by
  cases ad with
  | some a => exact l3Ints_any a n cap zs w h
  | none =>
    obtain ⟨rfl, rfl⟩ := row_none h
    exact l3Ints_nil cap w

end Go.Proofs.YtkgcmpmgaghdhaaGreatDoor
