import Derived.Test.YtadbhidpmihghaaOrdMath
namespace Go.Proofs.Ytadbhidpmihghaa

theorem prodAll_cons (x : Int) (l : List Int) : prodAll (x :: l) = x * prodAll l := by
  have e : x :: l = [x] ++ l := rfl
  rw [e, prodAll_append]
  simp [prodAll]

theorem prodAll_perm {l1 l2 : List Int} (h : l1.Perm l2) : prodAll l1 = prodAll l2 := by
  induction h with
  | nil => rfl
  | cons x _ ih => rw [prodAll_cons, prodAll_cons, ih]
  | swap x y l => rw [prodAll_cons, prodAll_cons, prodAll_cons, prodAll_cons, Int.mul_left_comm]
  | trans _ _ h1 h2 => exact h1.trans h2

/-- The product of the numbers that are not 0. -/
def big : List Int → Int
  | [] => 1
  | x :: r => if x = 0 then big r else x * big r

theorem big_pos {l : List Int} (h : l.all inCells = true) : 1 ≤ big l := by
  induction l with
  | nil => simp [big]
  | cons x r ih =>
    simp only [List.all_cons, Bool.and_eq_true] at h
    have hx : 0 ≤ x ∧ x ≤ 10000 := by simpa [inCells] using h.1
    have := ih h.2
    unfold big
    split
    · exact this
    · have h1 : 1 * 1 ≤ x * big r := Int.mul_le_mul (by omega) this (by omega) (by omega)
      omega

theorem big_perm {l1 l2 : List Int} (h : l1.Perm l2) : big l1 = big l2 := by
  induction h with
  | nil => rfl
  | cons x _ ih => simp only [big, ih]
  | swap x y l =>
    simp only [big]
    by_cases hx : x = 0
    · by_cases hy : y = 0
      · simp [hx, hy]
      · simp [hx, hy]
    · by_cases hy : y = 0
      · simp [hx, hy]
      · simp [hx, hy, Int.mul_left_comm]
  | trans _ _ h1 h2 => exact h1.trans h2

theorem prodFrom_big (l : List Int) (h : l.all inCells = true) (n : Int) (h1 : 1 ≤ n) (h2 : n ≤ 10000) : (∃ m, prodFrom l n = some m) ↔ n * big l ≤ 10000 := by
  induction l generalizing n with
  | nil => simp [prodFrom, big, h2]
  | cons x r ih =>
    simp only [List.all_cons, Bool.and_eq_true] at h
    have hx : 0 ≤ x ∧ x ≤ 10000 := by simpa [inCells] using h.1
    have hb := big_pos h.2
    simp only [prodFrom, big]
    by_cases h0 : x = 0
    · rw [if_pos h0, if_pos h0]; exact ih h.2 n h1 h2
    · rw [if_neg h0, if_neg h0, ← Int.mul_assoc]
      have hnx : 1 * 1 ≤ n * x := Int.mul_le_mul h1 (by omega) (by omega) (by omega)
      split
      · rename_i hbig
        constructor
        · rintro ⟨m, hm⟩; cases hm
        · intro hle
          have : n * x * 1 ≤ n * x * big r := Int.mul_le_mul_of_nonneg_left hb (by omega)
          omega
      · rename_i hbig
        exact ih h.2 (n * x) (by omega) (by omega)

theorem shapeIn_perm {l1 l2 : List Int} (h : l1.Perm l2) (hs : ShapeIn l1) : ShapeIn l2 := by
  have ha : l2.all inCells = true := by
    rw [List.all_eq_true]
    exact fun x hx => List.all_eq_true.1 hs.1 x (h.mem_iff.2 hx)
  have := (prodFrom_big l1 hs.1 1 (by omega) (by omega)).1 hs.2
  rw [big_perm h] at this
  exact ⟨ha, (prodFrom_big l2 ha 1 (by omega) (by omega)).2 this⟩

theorem order_perm {dt : List Int} {r : Nat} (h : orderOk dt r r = true) (hl : dt.length = r) : ((List.range r).map (axNo dt)).Perm (List.range r) := by
  have hat := inTurn_at (order_sorted h hl)
  have hsl : (sortedI dt).length = r := by rw [sortedI_len, hl]
  have e1 : (sortedI dt).map (fun x => (x - 1).toNat) = List.range r := by
    apply List.ext_getElem
    · simp [hsl]
    · intro i h1 h2
      have hi : i < r := by simpa using h2
      have := hat i hi
      rw [getD_eq _ i (by omega)] at this
      simp [this]
  have e2 : dt.map (fun x => (x - 1).toNat) = (List.range r).map (axNo dt) := by
    apply List.ext_getElem
    · simp [hl]
    · intro i h1 h2
      have hi : i < dt.length := by simpa using h1
      simp [axNo, hi]
  rw [← e2, ← e1]
  exact ((sortedI_perm dt).map _).symm

theorem turn_perm {dt sh : List Int} {r : Nat} (h : orderOk dt r r = true) (hl : dt.length = r) (hs : sh.length = r) : (turnN dt sh r r).Perm sh := by
  have e1 : sh = ((List.range r).map (axNo dt)).map (fun k => (turnN dt sh r r).getD k 0) := by
    apply List.ext_getElem
    · simp [hs]
    · intro i h1 h2
      have := (turned (sh := sh) h i (by omega)).1
      rw [getD_eq sh i h1] at this
      simp only [List.getElem_map, List.getElem_range]
      exact this.symm
  have e2 : turnN dt sh r r = (List.range r).map (fun k => (turnN dt sh r r).getD k 0) := by
    apply List.ext_getElem
    · simp [turnN_len]
    · intro i h1 h2
      rw [List.getElem_map, List.getElem_range, getD_eq _ i h1]
  have hp := ((order_perm h hl).map (fun k => (turnN dt sh r r).getD k 0)).symm
  rw [← e1, ← e2] at hp
  exact hp

/-- Which number of an index of the turned array is meant by an axis. -/
def transF (dt D : List Int) (i : Nat) : Int := D.getD (axNo dt i) 0

end Go.Proofs.Ytadbhidpmihghaa
