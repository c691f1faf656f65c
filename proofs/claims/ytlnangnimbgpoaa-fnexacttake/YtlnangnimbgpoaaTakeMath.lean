import Derived.Test.YtlnangnimbgpoaaCountMath
namespace Go.Proofs.Ytlnangnimbgpoaa

def absI (x : Int) : Int := if x < 0 then -x else x

def takeZ (dt : List Int) : List Int := dt.map absI
def takeSt (bs dt : List Int) : List Int := (List.range dt.length).map fun i => if dt.getD i 0 < 0 then bs.getD i 0 + dt.getD i 0 else 0
def dropZ (bs dt : List Int) : List Int := (List.range dt.length).map fun i => if bs.getD i 0 - absI (dt.getD i 0) < 0 then 0 else bs.getD i 0 - absI (dt.getD i 0)
def dropSt (dt : List Int) : List Int := dt.map fun x => if 0 < x then x else 0

theorem takeZ_len (dt : List Int) : (takeZ dt).length = dt.length := by simp [takeZ]
theorem takeSt_len (bs dt : List Int) : (takeSt bs dt).length = dt.length := by simp [takeSt]
theorem dropZ_len (bs dt : List Int) : (dropZ bs dt).length = dt.length := by simp [dropZ]
theorem dropSt_len (dt : List Int) : (dropSt dt).length = dt.length := by simp [dropSt]
theorem takeZ_get (dt : List Int) (k : Nat) (hk : k < dt.length) : (takeZ dt).getD k 0 = absI (dt.getD k 0) := by simp [takeZ, hk]
theorem takeSt_get (bs dt : List Int) (k : Nat) (hk : k < dt.length) : (takeSt bs dt).getD k 0 = if dt.getD k 0 < 0 then bs.getD k 0 + dt.getD k 0 else 0 := by simp [takeSt, hk]
theorem dropZ_get (bs dt : List Int) (k : Nat) (hk : k < dt.length) : (dropZ bs dt).getD k 0 = if bs.getD k 0 - absI (dt.getD k 0) < 0 then 0 else bs.getD k 0 - absI (dt.getD k 0) := by simp [dropZ, hk]
theorem dropSt_get (dt : List Int) (k : Nat) (hk : k < dt.length) : (dropSt dt).getD k 0 = if 0 < dt.getD k 0 then dt.getD k 0 else 0 := by simp [dropSt, hk]

/-- Take and Drop: which shape and start a window has. -/
def window (lim : Bool) (Z S : List Int → List Int → List Int) (c d : Bool) (sh dt sh' dt' : List Int) : Ans :=
  if arrOk c sh dt = true ∧ arrOk d sh' dt' = true then
    if countedCode c sh.length dt.length sh'.length ≠ 0 then noAns (countedCode c sh.length dt.length sh'.length)
    else
      let bs := countedSh dt.length sh'
      if lim = true ∧ shapeB (Z bs dt) = false then noAns 7
      else ⟨d, Z bs dt, vals (windowAt d bs dt' (S bs dt) (Z bs dt)) (countOf (Z bs dt)).toNat, 0⟩
  else noAns 3

def take (c d : Bool) (sh dt sh' dt' : List Int) : Ans := window true (fun _ => takeZ) takeSt c d sh dt sh' dt'
def drop (c d : Bool) (sh dt sh' dt' : List Int) : Ans := window false dropZ (fun _ => dropSt) c d sh dt sh' dt'

section
variable {lim : Bool} {Z S : List Int → List Int → List Int} {c d : Bool} {sh dt sh' dt' : List Int}
theorem window_bad1 (h : arrOk c sh dt = false) : window lim Z S c d sh dt sh' dt' = noAns 3 := by unfold window; rw [if_neg (by simp [h])]
theorem window_bad2 (h : arrOk d sh' dt' = false) : window lim Z S c d sh dt sh' dt' = noAns 3 := by unfold window; rw [if_neg (by simp [h])]
theorem window_code' (h1 : arrOk c sh dt = true) (h2 : arrOk d sh' dt' = true) (r : Int) (h : countedCode c sh.length dt.length sh'.length = r) (hr : r ≠ 0) : window lim Z S c d sh dt sh' dt' = noAns r := by
  unfold window; rw [if_pos ⟨h1, h2⟩, h, if_pos hr]
theorem window_big (h1 : arrOk c sh dt = true) (h2 : arrOk d sh' dt' = true) (h : countedCode c sh.length dt.length sh'.length = 0) (hl : lim = true) (hz : shapeB (Z (countedSh dt.length sh') dt) = false) : window lim Z S c d sh dt sh' dt' = noAns 7 := by
  unfold window; rw [if_pos ⟨h1, h2⟩, if_neg (by simp [h])]; exact if_pos ⟨hl, hz⟩
theorem window_go (h1 : arrOk c sh dt = true) (h2 : arrOk d sh' dt' = true) (h : countedCode c sh.length dt.length sh'.length = 0) (hz : lim = true → shapeB (Z (countedSh dt.length sh') dt) = true) (N : Nat) (hN : countOf (Z (countedSh dt.length sh') dt) = (N : Int)) :
    window lim Z S c d sh dt sh' dt' = ⟨d, Z (countedSh dt.length sh') dt, vals (windowAt d (countedSh dt.length sh') dt' (S (countedSh dt.length sh') dt) (Z (countedSh dt.length sh') dt)) N, 0⟩ := by
  unfold window
  rw [if_pos ⟨h1, h2⟩, if_neg (by simp [h])]
  show (if lim = true ∧ shapeB (Z (countedSh dt.length sh') dt) = false then noAns 7 else _) = _
  rw [if_neg (by rintro ⟨a, b⟩; rw [hz a] at b; cases b)]
  simp [hN]
end

/-- A shape that is no greater than a valid one, axis by axis, is valid. -/
theorem shape_less {xs ys : List Int} (hy : ShapeIn ys) (hl : xs.length = ys.length) (h : ∀ k, k < ys.length → 0 ≤ xs.getD k 0 ∧ xs.getD k 0 ≤ ys.getD k 0) : ShapeIn xs := by
  have key : ∀ (xs ys : List Int) (n k m : Int), ys.all inCells = true → xs.length = ys.length → (∀ i, i < ys.length → 0 ≤ xs.getD i 0 ∧ xs.getD i 0 ≤ ys.getD i 0) → 1 ≤ k → k ≤ n → prodFrom ys n = some m → xs.all inCells = true ∧ ∃ m', prodFrom xs k = some m' := by
    intro xs
    induction xs with
    | nil => intro ys n k m _ _ _ _ _ _; exact ⟨rfl, k, rfl⟩
    | cons x r ih =>
      intro ys n k m hy hl h hk hkn hp
      cases ys with
      | nil => simp at hl
      | cons y s =>
        simp only [List.all_cons, Bool.and_eq_true] at hy
        have hyb : 0 ≤ y ∧ y ≤ 10000 := by simpa [inCells] using hy.1
        have hx : 0 ≤ x ∧ x ≤ y := by simpa using h 0 (by simp)
        have hr : ∀ i, i < s.length → 0 ≤ r.getD i 0 ∧ r.getD i 0 ≤ s.getD i 0 := fun i hi => by simpa using h (i + 1) (by simpa using hi)
        have hl' : r.length = s.length := by simpa using hl
        have hxc : inCells x = true := by simp [inCells]; omega
        simp only [prodFrom] at hp
        by_cases y0 : y = 0
        · rw [if_pos y0] at hp
          have x0 : x = 0 := by omega
          obtain ⟨a, m', b⟩ := ih s n k m hy.2 hl' hr hk hkn hp
          exact ⟨by rw [List.all_cons, hxc, a]; rfl, m', by simp only [prodFrom]; rw [if_pos x0]; exact b⟩
        · rw [if_neg y0] at hp
          split at hp
          · simp at hp
          · rename_i hle
            by_cases x0 : x = 0
            · have h1 : n ≤ n * y := by have := Int.mul_le_mul_of_nonneg_left (by omega : (1 : Int) ≤ y) (by omega : 0 ≤ n); omega
              obtain ⟨a, m', b⟩ := ih s (n * y) k m hy.2 hl' hr hk (by omega) hp
              exact ⟨by rw [List.all_cons, hxc, a]; rfl, m', by simp only [prodFrom]; rw [if_pos x0]; exact b⟩
            · have h1 : k * x ≤ n * y := Int.mul_le_mul hkn hx.2 hx.1 (by omega)
              have h2 : 1 * 1 ≤ k * x := Int.mul_le_mul hk (by omega) (by omega) (by omega)
              obtain ⟨a, m', b⟩ := ih s (n * y) (k * x) m hy.2 hl' hr (by omega) h1 hp
              exact ⟨by rw [List.all_cons, hxc, a]; rfl, m', by simp only [prodFrom]; rw [if_neg x0, if_neg (by omega)]; exact b⟩
  obtain ⟨ha, m, hm⟩ := hy
  exact key xs ys 1 1 m ha hl h (by omega) (by omega) hm

theorem shapeB_of {xs : List Int} (h : ShapeIn xs) (h5 : xs.length ≤ 5) : shapeB xs = true := by
  obtain ⟨ha, m, hm⟩ := h
  exact shape_good (n := xs.length) rfl h5 m ha hm

end Go.Proofs.Ytlnangnimbgpoaa
