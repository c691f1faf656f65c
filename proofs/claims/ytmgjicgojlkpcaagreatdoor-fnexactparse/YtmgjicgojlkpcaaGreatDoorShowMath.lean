import Derived.Test.YtmgjicgojlkpcaaGreatDoorProdMath
namespace Go.Proofs.YtmgjicgojlkpcaaGreatDoor

/-- The decimal numeral of u, as the numbers of its bytes. -/
def decZ (u : Nat) : List Int := if _h : u < 10 then [48 + (u : Int)] else decZ (u / 10) ++ [48 + ((u % 10 : Nat) : Int)]

theorem decZ_small {u : Nat} (h : u < 10) : decZ u = [48 + (u : Int)] := by rw [decZ, dif_pos h]
theorem decZ_big {u : Nat} (h : ¬ u < 10) : decZ u = decZ (u / 10) ++ [48 + ((u % 10 : Nat) : Int)] := by rw [decZ, dif_neg h]

theorem decZ_pos (u : Nat) : 1 ≤ (decZ u).length := by
  by_cases h : u < 10
  · rw [decZ_small h]; simp
  · rw [decZ_big h]; simp

theorem decZ_le : ∀ (k u : Nat), u < 10 ^ (k + 1) → (decZ u).length ≤ k + 1
  | 0, u, h => by rw [decZ_small (by simpa using h)]; simp
  | k + 1, u, h => by
    by_cases hs : u < 10
    · rw [decZ_small hs]; simp
    · rw [decZ_big hs]
      have := decZ_le k (u / 10) (by rw [Nat.pow_succ] at h; omega)
      simp; omega

theorem decZ_byte (u : Nat) : ∀ x ∈ decZ u, 48 ≤ x ∧ x ≤ 57 := by
  induction u using Nat.strongRecOn with
  | _ u ih =>
    intro x hx
    by_cases h : u < 10
    · rw [decZ_small h] at hx
      simp at hx
      omega
    · rw [decZ_big h] at hx
      rcases List.mem_append.1 hx with hx | hx
      · exact ih (u / 10) (by omega) x hx
      · simp at hx
        omega

/-- A character in its shortest form. -/
def encZ (r : Int) : List Int :=
  if r < 128 then [r] else if r < 2048 then [192 + r / 64, 128 + r % 64] else if r < 65536 then [224 + r / 4096, 128 + r / 64 % 64, 128 + r % 64] else [240 + r / 262144, 128 + r / 4096 % 64, 128 + r / 64 % 64, 128 + r % 64]

/-- A number's text, and how many characters it has. -/
def numT (n : Int) : List Int := (if n < 0 then [194, 175] else []) ++ decZ n.natAbs
def wid (n : Int) : Nat := (if n < 0 then 1 else 0) + (decZ n.natAbs).length

theorem wid_pos (n : Int) : 1 ≤ wid n := by unfold wid; have := decZ_pos n.natAbs; omega
theorem wid_le {n : Int} (h : -1000000000000000 ≤ n ∧ n ≤ 1000000000000000) : wid n ≤ 17 := by
  unfold wid
  have := decZ_le 15 n.natAbs (by omega)
  split <;> omega

/-- What is written of a row's k-th element, ws the widths of the columns. -/
def cellT (c : Bool) (ws row : List Int) (k : Nat) : List Int :=
  if c = true then encZ (row.getD k 0)
  else (if 0 < k then [32] else []) ++ List.replicate ((ws.getD k 0).toNat - wid (row.getD k 0)) 32 ++ numT (row.getD k 0)

/-- What is written of the first k elements of a row. -/
def rowN (c : Bool) (ws row : List Int) (k : Nat) : List Int := (List.range k).flatMap (cellT c ws row)

theorem rowN_zero (c : Bool) (ws row : List Int) : rowN c ws row 0 = [] := rfl
theorem rowN_succ (c : Bool) (ws row : List Int) (k : Nat) : rowN c ws row (k + 1) = rowN c ws row k ++ cellT c ws row k := by
  unfold rowN
  rw [List.range_succ, List.flatMap_append]
  simp

/-- A row as a line. -/
def lineT (c : Bool) (ws row : List Int) : List Int := rowN c ws row row.length ++ [10]

theorem lineT_congr {c : Bool} {ws ws' row : List Int} (h : ∀ k, k < row.length → (ws.getD k 0).toNat - wid (row.getD k 0) = (ws'.getD k 0).toNat - wid (row.getD k 0)) : lineT c ws row = lineT c ws' row := by
  unfold lineT rowN
  congr 1
  have e : (List.range row.length).map (cellT c ws row) = (List.range row.length).map (cellT c ws' row) := List.map_congr_left fun k hk => by
    unfold cellT
    rw [h k (List.mem_range.1 hk)]
  rw [List.flatMap_def, List.flatMap_def, e]

/-- The r-th row of an array of n columns. -/
def rowAt (dt : List Int) (n r : Nat) : List Int := (dt.drop (r * n)).take n

theorem rowAt_len {dt : List Int} {n r R : Nat} (hl : dt.length = R * n) (hr : r < R) : (rowAt dt n r).length = n := by
  unfold rowAt
  have : (r + 1) * n ≤ R * n := Nat.mul_le_mul_right n hr
  rw [Nat.add_mul, Nat.one_mul] at this
  rw [List.length_take, List.length_drop]
  omega

theorem rowAt_get {dt : List Int} {n r k : Nat} (hk : k < n) : (rowAt dt n r).getD k 0 = dt.getD (r * n + k) 0 := by
  unfold rowAt
  simp [List.getD_eq_getElem?_getD, hk]

/-- The first r rows as lines, an empty line ahead of each plane but the first. -/
def textN (c : Bool) (ws dt : List Int) (n height : Nat) : Nat → List Int
  | 0 => []
  | r + 1 => textN c ws dt n height r ++ (if 0 < r ∧ r % height = 0 then [10] else []) ++ lineT c ws (rowAt dt n r)

/-- The widths of the columns behind k elements. -/
def wsN (dt : List Int) (n : Nat) : Nat → List Int
  | 0 => List.replicate n 0
  | k + 1 => (wsN dt n k).set (k % n) (max ((wsN dt n k).getD (k % n) 0) (wid (dt.getD k 0) : Nat))

theorem wsN_len (dt : List Int) (n : Nat) : ∀ k, (wsN dt n k).length = n
  | 0 => by simp [wsN]
  | k + 1 => by simp [wsN, wsN_len dt n k]

/-- An axis from the end, 1 where it is not there. -/
def axisE (sh : List Int) (k : Nat) : Nat := if sh.length < k then 1 else (sh.getD (sh.length - k) 0).toNat

/-- What Show shows. -/
def showT (c : Bool) (sh dt : List Int) : List Int :=
  if arrOk c sh dt = true then
    if dt.length = 0 ∧ 2 < sh.length then []
    else textN c (wsN dt (axisE sh 1) dt.length) dt (axisE sh 1) (axisE sh 2) (prodAll (sh.take (sh.length - 1))).toNat
  else []

end Go.Proofs.YtmgjicgojlkpcaaGreatDoor
