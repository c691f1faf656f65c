import Derived.Test.YtogmcecnckgcpaaGathMath
namespace Go.Proofs.Ytogmcecnckgcpaa

/-- k elements have been put into those of an array of the shape sh. -/
def putN (sh : List Int) (f : List Int → Nat → Int) (zs : List Int) (g : Nat → Int) (l : List Int) : Nat → List Int
  | 0 => l
  | k + 1 => if insideN sh (meant sh f (digits zs k)) sh.length = true then (putN sh f zs g l k).set (place sh (meant sh f (digits zs k))).toNat (g k) else putN sh f zs g l k

theorem put_len (sh : List Int) (f : List Int → Nat → Int) (zs : List Int) (g : Nat → Int) (l : List Int) (k : Nat) : (putN sh f zs g l k).length = l.length := by
  induction k with
  | zero => rfl
  | succ k ih =>
    simp only [putN]
    split
    · rw [List.length_set, ih]
    · exact ih

theorem put_in {sh : List Int} {f : List Int → Nat → Int} {zs : List Int} {g : Nat → Int} {l : List Int} {k j : Nat} (h : insideN sh (meant sh f (digits zs k)) sh.length = true) (hj : place sh (meant sh f (digits zs k)) = (j : Int)) : (putN sh f zs g l k).set j (g k) = putN sh f zs g l (k + 1) := by
  simp only [putN]
  rw [if_pos h, hj]
  simp

theorem put_out {sh : List Int} {f : List Int → Nat → Int} {zs : List Int} {g : Nat → Int} {l : List Int} {k : Nat} (h : insideN sh (meant sh f (digits zs k)) sh.length = false) : putN sh f zs g l k = putN sh f zs g l (k + 1) := by
  simp only [putN]
  rw [if_neg (by simp [h])]

end Go.Proofs.Ytogmcecnckgcpaa
