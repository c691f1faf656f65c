import Derived.Test.YtngbmcljhcckmaaGathMath
import Derived.Test.YtngbmcljhcckmaaReshapeMath
import Derived.Test.YtngbmcljhcckmaaGives
namespace Go.Proofs.Ytngbmcljhcckmaa

theorem shapeIn_one {x : Int} (h : 0 ≤ x ∧ x ≤ 10000) : ShapeIn [x] := by
  refine ⟨by simp [inCells]; omega, ?_⟩
  by_cases h0 : x = 0
  · exact ⟨1, by simp [prodFrom, h0]⟩
  · exact ⟨x, by simp [prodFrom, h0]; omega⟩

theorem prodAll_one (x : Int) : prodAll [x] = x := by simp [prodAll]

/-- Which element of a vector is meant where it is taken again and again. -/
def modF (cnt : Nat) (D : List Int) (i : Nat) : Int := ((D.getD i 0).toNat % cnt : Nat)

theorem inside_of1 {x m : Int} (h1 : 0 ≤ x) (h2 : x < m) : insideN [m] [x] [m].length = true := by
  show (true && (decide (0 ≤ x) && decide (x < m))) = true
  rw [decide_eq_true h1, decide_eq_true h2]; rfl

theorem resh_gather {d : Bool} {dt : List Int} {m N k : Nat} (hk : k < N) : gatherAt d [(m : Int)] dt (modF (max m 1)) [(N : Int)] k = reshapeAt d dt m k := by
  have hd : digits [(N : Int)] (k : Int) = [(k : Int)] := by
    have : (k : Int) % (N : Int) = k := Int.emod_eq_of_lt (by omega) (by omega)
    simp [digits, digit, restN, List.range_succ, this]
  have hm : meant [(m : Int)] (modF (max m 1)) [(k : Int)] = [((k % max m 1 : Nat) : Int)] := by simp [meant, modF, List.range_succ]
  unfold gatherAt reshapeAt
  rw [hd, hm]
  by_cases h0 : m = 0
  · subst h0
    rw [if_neg (by simp [insideN]), if_pos rfl]
  · have e : max m 1 = m := by omega
    have hlt : k % m < m := Nat.mod_lt _ (by omega)
    rw [e, if_pos (inside_of1 (by omega) (by exact_mod_cast hlt)), if_neg h0]
    have e3 : place [(m : Int)] [((k % m : Nat) : Int)] = ((k % m : Nat) : Int) := by simp [place, placeN]
    rw [e3, Int.toNat_natCast]

theorem resh_vals {d : Bool} {dt zs : List Int} {m N : Nat} : (⟨d, zs, vals (gatherAt d [(m : Int)] dt (modF (max m 1)) [(N : Int)]) N, 0⟩ : Ans) = gatherAns d zs (reshapeAt d dt m) N := by
  have h0 : firstCode (reshapeAt d dt m) N = 0 := firstCode_zero.2 fun k _ => rfl
  rw [gather_good h0]
  congr 1
  exact map_range_eq fun k hk => by rw [resh_gather hk]

end Go.Proofs.Ytngbmcljhcckmaa
