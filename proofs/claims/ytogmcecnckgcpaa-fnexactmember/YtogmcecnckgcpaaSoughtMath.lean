import Derived.Test.YtogmcecnckgcpaaFirstMath
import Derived.Test.YtogmcecnckgcpaaEncodeMath
namespace Go.Proofs.Ytogmcecnckgcpaa

/-- The first k of n numbers, 0 for the others. -/
def soFar (f : Nat → Int) (n k : Nat) : List Int := (List.range n).map fun i => if i < k then f i else 0

theorem soFar_len (f : Nat → Int) (n k : Nat) : (soFar f n k).length = n := by simp [soFar]
theorem soFar_zero (f : Nat → Int) (n : Nat) : soFar f n 0 = List.replicate n 0 := by
  have e : List.replicate n (0 : Int) = (List.range n).map fun _ => 0 := by rw [List.map_const']; simp
  rw [e]
  exact enc_eq fun q _ => by rw [if_neg (by omega)]
theorem soFar_step (f : Nat → Int) (n k : Nat) : (soFar f n k).set k (f k) = soFar f n (k + 1) := by
  unfold soFar
  rw [enc_set]
  refine enc_eq fun q _ => ?_
  by_cases e : q = k
  · rw [if_pos e, if_pos (by omega), e]
  · rw [if_neg e]
    by_cases h : q < k
    · rw [if_pos h, if_pos (by omega)]
    · rw [if_neg h, if_neg (by omega)]
theorem soFar_all (f : Nat → Int) (n : Nat) : soFar f n n = (List.range n).map f := enc_eq fun q hq => by rw [if_pos hq]

/-- The first place, from 1 on, at which x of kind c stands among numbers of kind d; else 0. -/
def placeAmong (c d : Bool) (dt' : List Int) (x : Int) : Int := if c = d then seenAt dt' x dt'.length else 0

theorem placeAmong_bd (c d : Bool) (dt' : List Int) (x : Int) : 0 ≤ placeAmong c d dt' x ∧ placeAmong c d dt' x ≤ dt'.length := by
  unfold placeAmong
  split
  · exact seenAt_bd _ _ _ (Nat.le_refl _)
  · omega

theorem placeAmong_first (c d : Bool) (dt' : List Int) (x : Int) : placeAmong c d dt' x = if firstOf d dt' x c < dt'.length then ((firstOf d dt' x c : Nat) : Int) + 1 else 0 := by
  unfold placeAmong firstOf
  by_cases h : c = d
  · subst h; rw [if_pos rfl, if_pos rfl, seenAt_all]
  · have h' : ¬ d = c := fun e => h e.symm
    simp [h, h']

end Go.Proofs.Ytogmcecnckgcpaa
