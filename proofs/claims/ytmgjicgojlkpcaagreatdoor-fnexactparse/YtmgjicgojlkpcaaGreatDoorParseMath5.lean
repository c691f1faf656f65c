import Derived.Test.YtmgjicgojlkpcaaGreatDoorParseMath4
namespace Go.Proofs.YtmgjicgojlkpcaaGreatDoor
open Go

theorem shift_app (b : Nat) (l m : List NodeD) : shiftN b (l ++ m) = shiftN b l ++ shiftN b m := by unfold shiftN; simp
theorem shift_add (a b : Nat) (l : List NodeD) : shiftN a (shiftN b l) = shiftN (a + b) l := by
  unfold shiftN
  rw [List.map_map]
  refine List.map_congr_left fun x _ => ?_
  simp only [Function.comp, List.map_map]
  congr 1
  refine List.map_congr_left fun z _ => ?_
  simp only [Function.comp]
  omega
theorem shift_zero (l : List NodeD) : shiftN 0 l = l := by
  unfold shiftN
  conv => rhs; rw [← List.map_id l]
  refine List.map_congr_left fun x _ => ?_
  obtain ⟨k, n, m, s, nums, kids⟩ := x
  simp

theorem row_append : ∀ (ls ms : List (List NodeD)), rowT (ls ++ ms) = rowT ls ++ shiftN (rowT ls).length (rowT ms)
  | [], ms => by
    show rowT ms = [] ++ shiftN 0 (rowT ms)
    rw [shift_zero]
    rfl
  | l :: ls, ms => by
    rw [List.cons_append, rowT, rowT, row_append ls ms, shift_app, shift_add, List.append_assoc, List.length_append, shift_len]

theorem roots_append : ∀ (ls ms : List (List NodeD)), rootsT (ls ++ ms) = rootsT ls ++ (rootsT ms).map (· + ((rowT ls).length : Int))
  | [], ms => by
    show rootsT ms = [] ++ (rootsT ms).map (· + ((0 : Nat) : Int))
    simp
  | l :: ls, ms => by
    rw [List.cons_append, rootsT, rootsT, roots_append ls ms, List.map_append, List.map_map, row_cons, List.cons_append]
    congr 2
    refine List.map_congr_left fun z _ => ?_
    simp only [Function.comp]
    omega

theorem roots_one (t : List NodeD) : rootsT [t] = [(t.length : Int) - 1] := by simp [rootsT]
theorem rowT_one (t : List NodeD) : rowT [t] = t := by
  show t ++ shiftN t.length (rowT []) = t
  simp [rowT, shiftN]

/-- The places of trees put behind n others. -/
def placesT (n : Nat) (ls : List (List NodeD)) : List Int := (rootsT ls).map (· + (n : Int))

theorem places_app (n : Nat) (ls ms : List (List NodeD)) : placesT n (ls ++ ms) = placesT n ls ++ placesT (n + (rowT ls).length) ms := by
  unfold placesT
  rw [roots_append, List.map_append, List.map_map]
  congr 1
  refine List.map_congr_left fun z _ => ?_
  simp only [Function.comp]
  omega

theorem places_one (n : Nat) (t : List NodeD) : placesT n [t] = [((n + t.length : Nat) : Int) - 1] := by
  unfold placesT
  rw [roots_one]
  simp
  omega

/-- A node over trees, put behind n others. -/
theorem shift_tree (b : Nat) (k n m : Int) (s : ByteArray) (nums : List Int) (ls : List (List NodeD)) : shiftN b (treeN k n m s nums ls) = shiftN b (rowT ls) ++ [⟨k, n, m, s, nums, placesT b ls⟩] := by
  unfold treeN
  rw [shift_app]
  rfl

end Go.Proofs.YtmgjicgojlkpcaaGreatDoor
