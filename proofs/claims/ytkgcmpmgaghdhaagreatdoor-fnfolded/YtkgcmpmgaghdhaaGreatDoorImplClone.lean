import Derived.Test.YtkgcmpmgaghdhaaGreatDoorMFit0
import Derived.WalkSpells
import Derived.Lib.SliceRun
namespace Go.Proofs.YtkgcmpmgaghdhaaGreatDoor
open Go.RowKit

set_option maxHeartbeats 400000 in
theorem Clone_any (ad : Addr) (n cap : Nat) (zs : List Int) (w : World) (h : Row w (some ad) n zs) :
    Calls Tryz.prog 65 #[.slice (some ad) n cap] w fun e w' => ∃ a' cap', e = .returned (.slice a' n cap') ∧ n ≤ cap' ∧ Own w' w.heap.size a' n zs ∧ Below w.heap.size w w' := by
  have hl := h.len
  have hs := h.small
  have H := hide h
  clear h
  obtain ⟨i0, hi, hz0, hz1, hz2⟩ := info_parts info_int
  have qT : ∀ (w : World) (a : Option Addr) (n c n' c' : Nat), (binOp .eql 23 (.slice a n c) (.slice none n' c')).run Tryz.prog w = .ok (.bool a.isNone) w := fun w a n c n' c' => Lib.run_eql_slice_nil w _ _ a n c n' c' Tryz.underlying23
  go_enter Tryz.func65, Tryz.ntmps65
  go_wp2_with (at_builtin; refine wpList_append_own _ rfl _ _ 23 rfl w.heap.size 3 i0 (.int .i64 0) 1 8 Tryz.underlying23 hi hz0 hz1 hz2 rfl (by decide) _ _ _ rfl (owns_empty w) ad n cap (zs.map (Value.int .i64)) rfl (by simpa using hl) (cells_ints ((unhide H).alloc _)) (one_ints zs) (by unfold maxLen; omega) (by omega) (by simp) ?_; intro v1 w1 hown hgrow hnil)
  clear hnil
  have hown' : w1.ownsRow w.heap.size 3 1 v1 n (zs.map (Value.int .i64)) := by simpa using hown
  obtain ⟨a', cap', rfl, ho⟩ := Own.of_owns hown' hs
  have hbel : Below w.heap.size w w1 := ((Below.refl _ _).alloc (Nat.le_refl _) _).grown hgrow (by simp) (by intro k hk; cases hk; exact Nat.le_refl _)
  have hcap : n ≤ cap' := by
    rcases hown'.2 with ⟨h', h0⟩ | ⟨g', c', cur, h', _, _, hle, _⟩
    · simp at h'; omega
    · cases h'; omega
  clear hown hgrow hown'
  go_wp2
  go_ret
  exact ⟨_, _, rfl, hcap, ho, hbel⟩

set_option maxHeartbeats 400000 in
theorem Clone_nil (cap : Nat) (w : World) :
    Calls Tryz.prog 65 #[.slice none 0 cap] w fun e w' => e = .returned (.slice none 0 0) ∧ w' = w := by
  have qT : ∀ (w : World) (a : Option Addr) (n c n' c' : Nat), (binOp .eql 23 (.slice a n c) (.slice none n' c')).run Tryz.prog w = .ok (.bool a.isNone) w := fun w a n c n' c' => Lib.run_eql_slice_nil w _ _ a n c n' c' Tryz.underlying23
  go_enter Tryz.func65, Tryz.ntmps65
  go_wp2
  go_ret
  exact ⟨rfl, rfl⟩

/-- A copy of a slice that may be nil. -/
theorem Clone_opt (ad : Option Addr) (n cap : Nat) (zs : List Int) (w : World) (h : Row w ad n zs) :
    Calls Tryz.prog 65 #[.slice ad n cap] w fun e w' => ∃ a' cap', e = .returned (.slice a' n cap') ∧ n ≤ cap' ∧ Own w' w.heap.size a' n zs ∧ Below w.heap.size w w' := by
  cases ad with
  | some a => exact Clone_any a n cap zs w h
  | none =>
    have h0 : n = 0 := by
      rcases Nat.eq_zero_or_pos n with h0 | h0
      · exact h0
      · obtain ⟨b, o, e, _⟩ := h.get h0
        cases e
    have hl := h.len
    subst h0
    obtain rfl : zs = [] := List.length_eq_zero_iff.1 hl
    refine (Clone_nil cap w).mono ?_
    rintro e w' ⟨rfl, rfl⟩
    exact ⟨none, 0, rfl, Nat.le_refl _, ⟨rfl, by omega, .inl rfl⟩, Below.refl _ _⟩

end Go.Proofs.YtkgcmpmgaghdhaaGreatDoor
