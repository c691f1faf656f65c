import Derived.Test.YtogmcecnckgcpaaFindMath
import Derived.Maps.Views
namespace Go.Proofs.Ytogmcecnckgcpaa
open Go.Maps

/-- What is said of x behind k rounds, from the last place on: its first place, from 1 on, or 0. -/
def seenAt (zs : List Int) (x : Int) : Nat → Int
  | 0 => 0
  | k + 1 => if zs.getD (zs.length - 1 - k) 0 = x then ((zs.length - 1 - k : Nat) : Int) + 1 else seenAt zs x k

theorem seenAt_cases (zs : List Int) (x : Int) (k : Nat) (hk : k ≤ zs.length) :
    (∃ j, zs.length - k ≤ j ∧ j < zs.length ∧ zs.getD j 0 = x ∧ (∀ i, zs.length - k ≤ i → i < j → zs.getD i 0 ≠ x) ∧ seenAt zs x k = (j : Int) + 1) ∨ ((∀ i, zs.length - k ≤ i → i < zs.length → zs.getD i 0 ≠ x) ∧ seenAt zs x k = 0) := by
  induction k with
  | zero => exact .inr ⟨fun i h1 h2 => by omega, rfl⟩
  | succ k ih =>
    unfold seenAt
    by_cases h : zs.getD (zs.length - 1 - k) 0 = x
    · rw [if_pos h]
      exact .inl ⟨zs.length - 1 - k, by omega, by omega, h, fun i h1 h2 => by omega, rfl⟩
    · rw [if_neg h]
      rcases ih (by omega) with ⟨j, h1, h2, h3, h4, h5⟩ | ⟨h1, h2⟩
      · refine .inl ⟨j, by omega, h2, h3, fun i hi hj => ?_, h5⟩
        by_cases e : i = zs.length - 1 - k
        · rw [e]; exact h
        · exact h4 i (by omega) hj
      · refine .inr ⟨fun i hi hj => ?_, h2⟩
        by_cases e : i = zs.length - 1 - k
        · rw [e]; exact h
        · exact h1 i (by omega) hj

theorem seenAt_all (zs : List Int) (x : Int) : seenAt zs x zs.length = if zs.findIdx (fun y => decide (y = x)) < zs.length then ((zs.findIdx (fun y => decide (y = x)) : Nat) : Int) + 1 else 0 := by
  rcases seenAt_cases zs x zs.length (Nat.le_refl _) with ⟨j, _, h2, h3, h4, h5⟩ | ⟨h1, h2⟩
  · rw [first_here (fun i hi => h4 i (by omega) hi) h2 h3, if_pos h2, h5]
  · rw [first_none (fun i hi => h1 i (by omega) hi), if_neg (by omega), h2]

theorem seenAt_bd (zs : List Int) (x : Int) (k : Nat) (hk : k ≤ zs.length) : 0 ≤ seenAt zs x k ∧ seenAt zs x k ≤ zs.length := by
  rcases seenAt_cases zs x k hk with ⟨j, _, h2, _, _, h5⟩ | ⟨_, h2⟩
  · rw [h5]; omega
  · rw [h2]; omega

/-- The map behind k rounds, as a datum. -/
def placesD (zs : List Int) : Nat → DataW Unit
  | 0 => .map []
  | k + 1 => (placesD zs k).put (.int .i64 (zs.getD (zs.length - 1 - k) 0)) (.lit (.int .i64 (((zs.length - 1 - k : Nat) : Int) + 1)))

theorem placesD_isMap (zs : List Int) : ∀ k, IsMap (placesD zs k)
  | 0 => isMap_empty
  | k + 1 => (placesD_isMap zs k).put _ _

theorem placesD_at (zs : List Int) (x : Int) : ∀ k, (placesD zs k).atKey (.int .i64 x) (.lit (.int .i64 0)) = .lit (.int .i64 (seenAt zs x k))
  | 0 => rfl
  | k + 1 => by
    unfold placesD seenAt
    by_cases h : zs.getD (zs.length - 1 - k) 0 = x
    · rw [if_pos h, h, atKey_put_same (placesD_isMap zs k) (show WideAt.IsKeyLit (.int .i64 x) from trivial)]
    · rw [if_neg h, atKey_put_other (fun e => h (by cases e; rfl)), placesD_at zs x k]

end Go.Proofs.Ytogmcecnckgcpaa
