import Derived.Test.YtlnangnimbgpoaaProdMath
namespace Go.Proofs.Ytlnangnimbgpoaa

/-- The place of an index, by its first k numbers. -/
def placeN (sh ix : List Int) : Nat → Int
  | 0 => 0
  | k + 1 => placeN sh ix k * sh.getD k 0 + ix.getD k 0

def place (sh ix : List Int) : Int := placeN sh ix sh.length

/-- Each number of an index is below its axis. -/
def IxIn (sh ix : List Int) : Prop := ∀ k, k < sh.length → 0 ≤ ix.getD k 0 ∧ ix.getD k 0 < sh.getD k 0

theorem placeN_bd {sh ix : List Int} (hi : IxIn sh ix) (k : Nat) (hk : k ≤ sh.length) : 0 ≤ placeN sh ix k ∧ placeN sh ix k < prodAll (sh.take k) := by
  induction k with
  | zero => simp [placeN, prodAll]
  | succ k ih =>
    obtain ⟨h1, h2⟩ := ih (by omega)
    obtain ⟨h3, h4⟩ := hi k (by omega)
    rw [prodAll_snoc sh k (by omega)]
    show 0 ≤ placeN sh ix k * sh.getD k 0 + ix.getD k 0 ∧ placeN sh ix k * sh.getD k 0 + ix.getD k 0 < _
    have h5 : 0 ≤ placeN sh ix k * sh.getD k 0 := Int.mul_nonneg h1 (by omega)
    have h6 : (placeN sh ix k + 1) * sh.getD k 0 ≤ prodAll (sh.take k) * sh.getD k 0 := Int.mul_le_mul_of_nonneg_right (by omega) (by omega)
    rw [Int.add_mul, Int.one_mul] at h6
    omega

theorem place_bd {sh ix : List Int} (hi : IxIn sh ix) : 0 ≤ place sh ix ∧ place sh ix < prodAll sh := by
  have := placeN_bd hi sh.length (Nat.le_refl _)
  rwa [List.take_length] at this

/-- What is left of a place behind j axes, going from the last. -/
def restN (sh : List Int) (p : Int) : Nat → Int
  | 0 => p
  | j + 1 => restN sh p j / sh.getD (sh.length - 1 - j) 0

def digit (sh : List Int) (p : Int) (i : Nat) : Int := restN sh p (sh.length - 1 - i) % sh.getD i 0

/-- The index of a place. -/
def digits (sh : List Int) (p : Int) : List Int := (List.range sh.length).map (digit sh p)

theorem digits_len (sh : List Int) (p : Int) : (digits sh p).length = sh.length := by simp [digits]

theorem digits_get (sh : List Int) (p : Int) (k : Nat) (hk : k < sh.length) : (digits sh p).getD k 0 = digit sh p k := by simp [digits, hk]

/-- No axis of length 0. -/
def Full (sh : List Int) : Prop := ∀ k, k < sh.length → 0 < sh.getD k 0

theorem restN_nn {sh : List Int} (hf : Full sh) {p : Int} (hp : 0 ≤ p) (j : Nat) (hj : j ≤ sh.length) : 0 ≤ restN sh p j ∧ restN sh p j ≤ p := by
  induction j with
  | zero => exact ⟨hp, Int.le_refl _⟩
  | succ j ih =>
    obtain ⟨h1, h2⟩ := ih (by omega)
    have hs := hf (sh.length - 1 - j) (by omega)
    show 0 ≤ restN sh p j / sh.getD (sh.length - 1 - j) 0 ∧ restN sh p j / sh.getD (sh.length - 1 - j) 0 ≤ p
    exact ⟨Int.ediv_nonneg h1 (by omega), Int.le_trans (Int.ediv_le_self _ h1) h2⟩

theorem digits_in {sh : List Int} (hf : Full sh) (p : Int) : IxIn sh (digits sh p) := by
  intro k hk
  rw [digits_get sh p k hk]
  have hs := hf k hk
  exact ⟨Int.emod_nonneg _ (by omega), Int.emod_lt_of_pos _ hs⟩

theorem restN_lt {sh : List Int} (hf : Full sh) {p : Int} (hl : p < prodAll sh) (j : Nat) (hj : j ≤ sh.length) : restN sh p j < prodAll (sh.take (sh.length - j)) := by
  induction j with
  | zero => simpa [restN] using hl
  | succ j ih =>
    have h1 := ih (by omega)
    have hs := hf (sh.length - 1 - j) (by omega)
    have e : sh.length - j = sh.length - 1 - j + 1 := by omega
    rw [e, prodAll_snoc sh _ (by omega)] at h1
    have e2 : sh.length - (j + 1) = sh.length - 1 - j := by omega
    rw [e2]
    exact Int.ediv_lt_of_lt_mul hs h1

theorem place_digits_aux {sh : List Int} (hf : Full sh) {p : Int} (hp : 0 ≤ p) (hl : p < prodAll sh) (k : Nat) (hk : k ≤ sh.length) : placeN sh (digits sh p) k = restN sh p (sh.length - k) := by
  induction k with
  | zero =>
    have h1 := (restN_nn hf hp sh.length (Nat.le_refl _)).1
    have h2 := restN_lt hf hl sh.length (Nat.le_refl _)
    simp [prodAll] at h2
    show (0 : Int) = _
    simp
    omega
  | succ k ih =>
    have h1 := ih (by omega)
    show placeN sh (digits sh p) k * sh.getD k 0 + (digits sh p).getD k 0 = _
    rw [h1, digits_get sh p k (by omega)]
    have e : sh.length - k = sh.length - (k + 1) + 1 := by omega
    have e2 : sh.length - 1 - (sh.length - (k + 1)) = k := by omega
    have e3 : sh.length - 1 - k = sh.length - (k + 1) := by omega
    rw [e]
    show restN sh p (sh.length - (k + 1)) / sh.getD (sh.length - 1 - (sh.length - (k + 1))) 0 * sh.getD k 0 + digit sh p k = _
    rw [e2]
    unfold digit
    rw [e3, Int.mul_comm]
    exact Int.mul_ediv_add_emod _ _

/-- The index of a place is the index of that place. -/
theorem place_digits {sh : List Int} (hf : Full sh) {p : Int} (hp : 0 ≤ p) (hl : p < prodAll sh) : place sh (digits sh p) = p := by
  have := place_digits_aux hf hp hl sh.length (Nat.le_refl _)
  simpa [place, restN] using this

theorem full_of {sh : List Int} (h : ShapeIn sh) (hp : 0 < prodAll sh) : Full sh := by
  intro k hk
  have h1 := (h.cell k).1
  by_cases h0 : sh.getD k 0 = 0
  · exfalso
    have e : sh = sh.take k ++ sh.getD k 0 :: sh.drop (k + 1) := by simp [List.getD, hk]
    have hz : prodAll sh = 0 := by
      rw [e, prodAll_append, h0]
      have : prodAll (0 :: sh.drop (k + 1)) = prodAll [0] * prodAll (sh.drop (k + 1)) := by rw [← prodAll_append]; rfl
      rw [this]
      simp [prodAll]
    omega
  · omega

theorem drop_set {D : List Int} {m : Nat} (hm : m < D.length) : (List.replicate (m + 1) (0 : Int) ++ D.drop (m + 1)).set m (D.getD m 0) = List.replicate m 0 ++ D.drop m := by
  have e : D.drop m = D.getD m 0 :: D.drop (m + 1) := by simp [List.getD, hm]
  rw [e, List.replicate_succ', List.append_assoc, List.set_append_right _ _ (by simp)]
  simp

end Go.Proofs.Ytlnangnimbgpoaa
