import Derived.Test.YtngbmcljhcckmaaMFirst
import Derived.Test.YtngbmcljhcckmaaMFirst
namespace Go.Proofs.Ytngbmcljhcckmaa

/-- Which element along an axis is meant where it begins at st. -/
def cutF (st D : List Int) (i : Nat) : Int := st.getD i 0 + D.getD i 0

theorem cut_meant {sh st D : List Int} (h : D.length = sh.length) : meant sh (cutF st) D = addIx D st := by
  unfold meant addIx
  rw [h]
  exact map_range_eq fun i _ => by unfold cutF; omega

theorem cut_gather {c : Bool} {sh dt st zs : List Int} (h : zs.length = sh.length) (k : Nat) : gatherAt c sh dt (cutF st) zs k = windowAt c sh dt st zs k := by
  unfold gatherAt windowAt
  rw [cut_meant (by rw [digits_len, h])]

theorem cut_vals {c : Bool} {sh dt st zs : List Int} (h : zs.length = sh.length) (N : Nat) : vals (gatherAt c sh dt (cutF st) zs) N = vals (windowAt c sh dt st zs) N := map_range_eq fun k _ => by rw [cut_gather h]

/-- What taking leaves of an axis: where it begins, and its length. -/
def takeS1 (k len : Int) : Int := if k < 0 then len + k else 0
def takeZ1 (k _len : Int) : Int := absI k
def dropS1 (k _len : Int) : Int := if 0 < k then k else 0
def dropZ1 (k len : Int) : Int := if len - absI k < 0 then 0 else len - absI k

/-- The first k numbers that a function makes of two lists, and zeros. -/
def partly (F : Int → Int → Int) (ks bs : List Int) (n k : Nat) : List Int := (List.range n).map fun i => if i < k then F (ks.getD i 0) (bs.getD i 0) else 0

theorem partly_len (F : Int → Int → Int) (ks bs : List Int) (n k : Nat) : (partly F ks bs n k).length = n := by simp [partly]
theorem partly_zero (F : Int → Int → Int) (ks bs : List Int) (n : Nat) : partly F ks bs n 0 = List.replicate n 0 := by
  have e : List.replicate n (0 : Int) = (List.range n).map fun _ => 0 := by rw [List.map_const']; simp
  rw [e]
  exact map_range_eq fun i _ => by rw [if_neg (by omega)]
theorem partly_set (F : Int → Int → Int) (ks bs : List Int) (n k : Nat) (x : Int) (hx : F (ks.getD k 0) (bs.getD k 0) = x) : (partly F ks bs n k).set k x = partly F ks bs n (k + 1) := by
  unfold partly
  rw [map_range_set]
  refine map_range_eq fun i _ => ?_
  by_cases e : i = k
  · subst e; rw [if_pos rfl, if_pos (by omega), hx]
  · rw [if_neg e]
    by_cases h : i < k
    · rw [if_pos h, if_pos (by omega)]
    · rw [if_neg h, if_neg (by omega)]
/-- All of them. -/
def made (F : Int → Int → Int) (ks bs : List Int) (n : Nat) : List Int := (List.range n).map fun i => F (ks.getD i 0) (bs.getD i 0)
theorem partly_all (F : Int → Int → Int) (ks bs : List Int) (n : Nat) : partly F ks bs n n = made F ks bs n := map_range_eq fun i hi => by rw [if_pos hi]
theorem made_len (F : Int → Int → Int) (ks bs : List Int) (n : Nat) : (made F ks bs n).length = n := by simp [made]
theorem made_get (F : Int → Int → Int) (ks bs : List Int) (n i : Nat) (hi : i < n) : (made F ks bs n).getD i 0 = F (ks.getD i 0) (bs.getD i 0) := map_range_get _ _ _ hi

theorem take_st (dt bs : List Int) : takeSt bs dt = made takeS1 dt bs dt.length := rfl
theorem take_z (dt bs : List Int) : takeZ dt = made takeZ1 dt bs dt.length := by
  apply List.ext_getElem
  · simp [takeZ, made]
  · intro i h1 h2
    have hi : i < dt.length := by simpa [takeZ] using h1
    simp [takeZ, made, takeZ1, hi]
theorem drop_z (dt bs : List Int) : dropZ bs dt = made dropZ1 dt bs dt.length := rfl
theorem drop_st (dt bs : List Int) : dropSt dt = made dropS1 dt bs dt.length := by
  apply List.ext_getElem
  · simp [dropSt, made]
  · intro i h1 h2
    have hi : i < dt.length := by simpa [dropSt] using h1
    simp [dropSt, made, dropS1, hi]

end Go.Proofs.Ytngbmcljhcckmaa
