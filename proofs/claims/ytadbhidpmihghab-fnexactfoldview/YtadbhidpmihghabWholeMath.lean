import Derived.Test.YtadbhidpmihghabViewMath
import Derived.Test.YtadbhidpmihghabProdMath
namespace Go.Proofs.Ytadbhidpmihghab

/-- The product of the axes, those of 0 counting as 1, reckoned from the last. -/
def tailProd : List Int → Int
  | [] => 1
  | x :: r => if 0 < x then tailProd r * x else tailProd r

def wholeSt (sh : List Int) : List Int := (List.range sh.length).map fun i => tailProd (sh.drop (i + 1))

/-- The strides behind t rounds, from the last on. -/
def wholeN (sh : List Int) (t : Nat) : List Int := (List.range sh.length).map fun i => if sh.length - t ≤ i then tailProd (sh.drop (i + 1)) else 0

theorem range_eq {n : Nat} {f g : Nat → Int} (h : ∀ q, q < n → f q = g q) : (List.range n).map f = (List.range n).map g := List.map_congr_left fun q hq => h q (by simpa using hq)
theorem range_set (n k : Nat) (f : Nat → Int) (x : Int) : ((List.range n).map f).set k x = (List.range n).map fun i => if i = k then x else f i := by
  apply List.ext_getElem
  · simp
  · intro i h1 h2
    simp only [List.getElem_set, List.getElem_map, List.getElem_range]
    by_cases e : k = i
    · subst e; simp
    · rw [if_neg e, if_neg (fun h => e h.symm)]

theorem wholeN_len (sh : List Int) (t : Nat) : (wholeN sh t).length = sh.length := by simp [wholeN]
theorem wholeN_zero (sh : List Int) : wholeN sh 0 = List.replicate sh.length 0 := by
  have e : List.replicate sh.length (0 : Int) = (List.range sh.length).map fun _ => 0 := by rw [List.map_const']; simp
  rw [e]
  exact range_eq fun q hq => by rw [if_neg (by omega)]
theorem wholeN_step (sh : List Int) {t : Nat} (ht : t < sh.length) : (wholeN sh t).set (sh.length - 1 - t) (tailProd (sh.drop (sh.length - t))) = wholeN sh (t + 1) := by
  unfold wholeN
  rw [range_set]
  refine range_eq fun q hq => ?_
  by_cases e : q = sh.length - 1 - t
  · rw [if_pos e, if_pos (by omega), e, show sh.length - 1 - t + 1 = sh.length - t by omega]
  · rw [if_neg e]
    by_cases h : sh.length - t ≤ q
    · rw [if_pos h, if_pos (by omega)]
    · rw [if_neg h, if_neg (by omega)]
theorem wholeN_all (sh : List Int) : wholeN sh sh.length = wholeSt sh := range_eq fun q _ => by rw [if_pos (by omega)]

theorem tailProd_step (sh : List Int) {i : Nat} (hi : i < sh.length) : tailProd (sh.drop i) = if 0 < sh.getD i 0 then tailProd (sh.drop (i + 1)) * sh.getD i 0 else tailProd (sh.drop (i + 1)) := by
  rw [List.drop_eq_getElem_cons hi, tailProd]
  simp [List.getD, hi]

theorem tailProd_pos : ∀ sh : List Int, 1 ≤ tailProd sh
  | [] => by simp [tailProd]
  | x :: r => by
    have ih := tailProd_pos r
    unfold tailProd
    split
    · rename_i h
      have := Int.mul_le_mul ih (show (1 : Int) ≤ x by omega) (by omega) (by omega)
      omega
    · exact ih

theorem tail_prodFrom : ∀ (sh : List Int) (n m : Int), 0 < n → (∀ x ∈ sh, 0 ≤ x) → prodFrom sh n = some m → m = n * tailProd sh
  | [], n, m, _, _, h => by simp [prodFrom] at h; simp [tailProd, h]
  | x :: r, n, m, hn, hx, h => by
    unfold prodFrom at h
    unfold tailProd
    by_cases h0 : x = 0
    · rw [if_pos h0] at h
      rw [if_neg (by omega)]
      exact tail_prodFrom r n m hn (fun y hy => hx y (by simp [hy])) h
    · rw [if_neg h0] at h
      have hx0 : 0 < x := by have := hx x (by simp); omega
      split at h
      · cases h
      · rw [if_pos hx0, tail_prodFrom r (n * x) m (Int.mul_pos hn hx0) (fun y hy => hx y (by simp [hy])) h, Int.mul_assoc, Int.mul_comm x]

theorem tailProd_drop (sh : List Int) (k : Nat) : tailProd (sh.drop k) ≤ tailProd sh := by
  induction k generalizing sh with
  | zero => simp
  | succ k ih =>
    cases sh with
    | nil => simp
    | cons x r =>
      refine Int.le_trans (ih r) ?_
      rw [tailProd]
      split
      · rename_i h
        have h1 := tailProd_pos r
        have := Int.mul_le_mul_of_nonneg_left (show (1 : Int) ≤ x by omega) (show 0 ≤ tailProd r by omega)
        omega
      · exact Int.le_refl _

theorem tailProd_bd {sh : List Int} (h : ShapeIn sh) (k : Nat) : 1 ≤ tailProd (sh.drop k) ∧ tailProd (sh.drop k) ≤ 10000 := by
  obtain ⟨ha, m, hm⟩ := h
  have hb := prodFrom_bd sh 1 m ha (by omega) (by omega) hm
  have e := tail_prodFrom sh 1 m (by omega) (fun x hx => by have := List.all_eq_true.1 ha x hx; simp [inCells] at this; omega) hm
  have hd := tailProd_drop sh k
  have hp := tailProd_pos (sh.drop k)
  rw [Int.one_mul] at e
  omega

end Go.Proofs.Ytadbhidpmihghab
