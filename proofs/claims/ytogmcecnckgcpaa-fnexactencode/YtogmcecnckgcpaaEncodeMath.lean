import Derived.Test.YtogmcecnckgcpaaReshapeMath
import Derived.Test.YtogmcecnckgcpaaTwoMath
namespace Go.Proofs.Ytogmcecnckgcpaa

/-- What is left of b behind t digits, from the last base on. -/
def encLeft (dt : List Int) (b : Int) : Nat → Int
  | 0 => b
  | t + 1 => if dt.getD (dt.length - 1 - t) 0 = 0 then 0 else encLeft dt b t / dt.getD (dt.length - 1 - t) 0

def encDigit (dt : List Int) (b : Int) (i : Nat) : Int := modOf (dt.getD i 0) (encLeft dt b (dt.length - 1 - i))

/-- j columns are written, and the last t numbers of the next. -/
def encCell (dt dt' : List Int) (m j t q : Nat) : Int := if q % m < j ∨ (q % m = j ∧ dt.length - t ≤ q / m) then encDigit dt (dt'.getD (q % m) 0) (q / m) else 0
def encMid (dt dt' : List Int) (m j t : Nat) : List Int := (List.range (dt.length * m)).map (encCell dt dt' m j t)
def encAll (dt dt' : List Int) (m : Nat) : List Int := (List.range (dt.length * m)).map fun q => encDigit dt (dt'.getD (q % m) 0) (q / m)

theorem encMid_len (dt dt' : List Int) (m j t : Nat) : (encMid dt dt' m j t).length = dt.length * m := by simp [encMid]

theorem enc_eq {n : Nat} {f g : Nat → Int} (h : ∀ q, q < n → f q = g q) : (List.range n).map f = (List.range n).map g := List.map_congr_left fun q hq => h q (by simpa using hq)

theorem enc_set (n k : Nat) (f : Nat → Int) (x : Int) : ((List.range n).map f).set k x = (List.range n).map fun i => if i = k then x else f i := by
  apply List.ext_getElem
  · simp
  · intro i h1 h2
    simp only [List.getElem_set, List.getElem_map, List.getElem_range]
    by_cases e : k = i
    · subst e; simp
    · rw [if_neg e, if_neg (fun h => e h.symm)]

theorem encMid_zero (dt dt' : List Int) (m : Nat) : encMid dt dt' m 0 0 = List.replicate (dt.length * m) 0 := by
  have e : List.replicate (dt.length * m) (0 : Int) = (List.range (dt.length * m)).map fun _ => 0 := by rw [List.map_const']; simp
  rw [e]
  refine enc_eq fun q hq => ?_
  unfold encCell
  rw [if_neg]
  rintro (h | ⟨_, h⟩)
  · omega
  · have := Nat.div_lt_of_lt_mul (show q < m * dt.length by rw [Nat.mul_comm]; exact hq)
    omega

theorem place_lt {n m i j : Nat} (hi : i < n) (hj : j < m) : i * m + j < n * m := by
  have : (i + 1) * m ≤ n * m := Nat.mul_le_mul_right m hi
  rw [Nat.add_mul, Nat.one_mul] at this
  omega

theorem at_place {m i j : Nat} (hj : j < m) : (i * m + j) / m = i ∧ (i * m + j) % m = j := by
  have hm : 0 < m := by omega
  exact ⟨by rw [Nat.add_comm, Nat.add_mul_div_right _ _ hm, Nat.div_eq_of_lt hj, Nat.zero_add], by rw [Nat.add_comm, Nat.add_mul_mod_self_right, Nat.mod_eq_of_lt hj]⟩

theorem encMid_step (dt dt' : List Int) {m j t : Nat} (hj : j < m) (ht : t < dt.length) : (encMid dt dt' m j t).set ((dt.length - 1 - t) * m + j) (encDigit dt (dt'.getD j 0) (dt.length - 1 - t)) = encMid dt dt' m j (t + 1) := by
  obtain ⟨e1, e2⟩ := at_place (i := dt.length - 1 - t) hj
  unfold encMid
  rw [enc_set]
  refine enc_eq fun q _ => ?_
  by_cases e : q = (dt.length - 1 - t) * m + j
  · rw [if_pos e]
    unfold encCell
    rw [e, e1, e2, if_pos (.inr ⟨rfl, by omega⟩)]
  · rw [if_neg e]
    unfold encCell
    have hq := Nat.div_add_mod q m
    by_cases h : q % m < j ∨ (q % m = j ∧ dt.length - t ≤ q / m)
    · rw [if_pos h, if_pos (h.imp id fun h => ⟨h.1, by omega⟩)]
    · rw [if_neg h, if_neg]
      rintro (h' | ⟨h1, h2⟩)
      · exact h (.inl h')
      · by_cases h3 : dt.length - t ≤ q / m
        · exact h (.inr ⟨h1, h3⟩)
        · have h4 : q / m = dt.length - 1 - t := by omega
          rw [h4, h1, Nat.mul_comm] at hq
          exact e hq.symm

theorem encMid_col (dt dt' : List Int) {m j : Nat} : encMid dt dt' m j dt.length = encMid dt dt' m (j + 1) 0 := by
  refine enc_eq fun q hq => ?_
  have hlt := Nat.div_lt_of_lt_mul (show q < m * dt.length by rw [Nat.mul_comm]; exact hq)
  unfold encCell
  generalize q / m = x at *
  generalize q % m = y at *
  by_cases h : y < j + 1
  · rw [if_pos (by omega), if_pos (.inl h)]
  · rw [if_neg (by omega), if_neg (by omega)]

theorem encMid_all (dt dt' : List Int) (m : Nat) : encMid dt dt' m m 0 = encAll dt dt' m := by
  refine enc_eq fun q hq => ?_
  have hm : 0 < m := by
    rcases Nat.eq_zero_or_pos m with h | h
    · subst h; simp at hq
    · exact h
  unfold encCell
  rw [if_pos (.inl (Nat.mod_lt _ hm))]

theorem encLeft_bd {dt : List Int} {b : Int} (hd : ∀ k, k < dt.length → 0 ≤ dt.getD k 0) (hb : -1000000000000000 ≤ b ∧ b ≤ 1000000000000000) (t : Nat) (ht : t ≤ dt.length) : -1000000000000000 ≤ encLeft dt b t ∧ encLeft dt b t ≤ 1000000000000000 := by
  induction t with
  | zero => exact hb
  | succ t ih =>
    have h := ih (by omega)
    have ha := hd (dt.length - 1 - t) (by omega)
    unfold encLeft
    split
    · omega
    · rename_i h0
      generalize dt.getD (dt.length - 1 - t) 0 = a at *
      generalize encLeft dt b t = x at *
      have hpos : 0 < a := by omega
      constructor
      · exact (Int.le_ediv_iff_mul_le hpos).2 (by
          have : -1000000000000000 * a ≤ -1000000000000000 * 1 := by omega
          omega)
      · by_cases hx : 0 ≤ x
        · exact Int.le_trans (Int.ediv_le_self _ hx) h.2
        · have := Int.ediv_neg_of_neg_of_pos (show x < 0 by omega) hpos
          omega

theorem nonNeg_at {dt : List Int} (h : dt.all nonNeg = true) {q : Nat} (hq : q < dt.length) : 0 ≤ dt.getD q 0 := by
  have hm : dt.getD q 0 ∈ dt := by simp [List.getD, hq]
  have h2 := List.all_eq_true.1 h _ hm
  unfold nonNeg at h2
  exact of_decide_eq_true h2

theorem div_left {x a : Int} (ha : 0 < a) : (x - modOf a x).tdiv a = x / a := by
  have hm : modOf a x = x % a := by
    unfold modOf
    rw [if_neg (by omega)]
    have h1 := Int.tmod_lt_of_pos x ha
    have h2 : -a < x.tmod a := Int.lt_tmod_of_pos x ha
    have h3 := Int.mul_tdiv_add_tmod x a
    split
    · rename_i h
      have h4 : x.tmod a < 0 := by
        by_cases h4 : x.tmod a < 0
        · exact h4
        · exfalso; apply h.2; rw [decide_eq_false h4, decide_eq_false (by omega)]
      have := (Int.ediv_emod_unique (a := x) (r := x.tmod a + a) (q := x.tdiv a - 1) ha).2 ⟨by rw [Int.mul_sub, Int.mul_one]; omega, by omega, by omega⟩
      exact this.2.symm
    · rename_i h
      have h4 : ¬ x.tmod a < 0 := by
        intro h4
        apply h
        refine ⟨by omega, ?_⟩
        rw [decide_eq_true h4, decide_eq_false (by omega)]; simp
      have := (Int.ediv_emod_unique (a := x) (r := x.tmod a) (q := x.tdiv a) ha).2 ⟨by omega, by omega, by omega⟩
      exact this.2.symm
  rw [hm]
  have h := Int.mul_ediv_add_emod x a
  have e : x - x % a = a * (x / a) := by omega
  rw [e, Int.mul_tdiv_cancel_left _ (by omega)]

theorem encDigit_here {dt : List Int} {b : Int} {k : Nat} (hk : k < dt.length) : encDigit dt b (dt.length - 1 - k) = modOf (dt.getD (dt.length - 1 - k) 0) (encLeft dt b k) := by
  unfold encDigit
  rw [show dt.length - 1 - (dt.length - 1 - k) = k by omega]

theorem encLeft_step {dt : List Int} {b : Int} {k : Nat} (ha : 0 ≤ dt.getD (dt.length - 1 - k) 0) : encLeft dt b (k + 1) = (encLeft dt b k - modOf (dt.getD (dt.length - 1 - k) 0) (encLeft dt b k)).tdiv (if dt.getD (dt.length - 1 - k) 0 < 1 then 1 else dt.getD (dt.length - 1 - k) 0) := by
  rw [encLeft]
  generalize dt.getD (dt.length - 1 - k) 0 = a at *
  generalize encLeft dt b k = x
  by_cases h : a = 0
  · subst h; simp [modOf]
  · rw [if_neg h, if_neg (by omega), div_left (by omega)]

/-- The digits of b behind k rounds, from the last base on. -/
def digN (dt : List Int) (b : Int) (k : Nat) : List Int := (List.range dt.length).map fun i => if dt.length - k ≤ i then encDigit dt b i else 0
theorem digN_len (dt : List Int) (b : Int) (k : Nat) : (digN dt b k).length = dt.length := by simp [digN]
theorem digN_zero (dt : List Int) (b : Int) : digN dt b 0 = List.replicate dt.length 0 := by
  have e : List.replicate dt.length (0 : Int) = (List.range dt.length).map fun _ => 0 := by rw [List.map_const']; simp
  rw [e]
  exact enc_eq fun q hq => by rw [if_neg (by omega)]
theorem digN_step (dt : List Int) (b : Int) {k : Nat} (hk : k < dt.length) : (digN dt b k).set (dt.length - 1 - k) (encDigit dt b (dt.length - 1 - k)) = digN dt b (k + 1) := by
  unfold digN
  rw [enc_set]
  refine enc_eq fun q hq => ?_
  by_cases e : q = dt.length - 1 - k
  · rw [if_pos e, if_pos (by omega), e]
  · rw [if_neg e]
    by_cases h : dt.length - k ≤ q
    · rw [if_pos h, if_pos (by omega)]
    · rw [if_neg h, if_neg (by omega)]
theorem digN_all (dt : List Int) (b : Int) : digN dt b dt.length = (List.range dt.length).map (encDigit dt b) := enc_eq fun q _ => by rw [if_pos (by omega)]

def encode (c d : Bool) (sh dt sh' dt' : List Int) : Ans :=
  if arrOk c sh dt = true ∧ arrOk d sh' dt' = true then
    if listCode c sh.length ≠ 0 then noAns (listCode c sh.length)
    else if dt.all nonNeg = false then noAns 3
    else if d = true then noAns 3
    else if shapeB (sh ++ sh') = false then noAns 7
    else ⟨false, sh ++ sh', encAll dt dt' dt'.length, 0⟩
  else noAns 3

section
variable {c d : Bool} {sh dt sh' dt' : List Int}
theorem encode_bad1 (h : arrOk c sh dt = false) : encode c d sh dt sh' dt' = noAns 3 := by unfold encode; rw [if_neg (by simp [h])]
theorem encode_bad2 (h : arrOk d sh' dt' = false) : encode c d sh dt sh' dt' = noAns 3 := by unfold encode; rw [if_neg (by simp [h])]
theorem encode_list (h1 : arrOk c sh dt = true) (h2 : arrOk d sh' dt' = true) (r : Int) (h : listCode c sh.length = r) (hr : r ≠ 0) : encode c d sh dt sh' dt' = noAns r := by
  unfold encode; rw [if_pos ⟨h1, h2⟩, h, if_pos hr]
theorem encode_neg (h1 : arrOk c sh dt = true) (h2 : arrOk d sh' dt' = true) (h : listCode c sh.length = 0) (hn : dt.all nonNeg = false) : encode c d sh dt sh' dt' = noAns 3 := by
  unfold encode; rw [if_pos ⟨h1, h2⟩, if_neg (by simp [h]), if_pos hn]
theorem encode_char (h1 : arrOk c sh dt = true) (h2 : arrOk true sh' dt' = true) (h : listCode c sh.length = 0) (hn : dt.all nonNeg = true) : encode c true sh dt sh' dt' = noAns 3 := by
  unfold encode; rw [if_pos ⟨h1, h2⟩, if_neg (by simp [h]), if_neg (by simp [hn]), if_pos rfl]
theorem encode_big (h1 : arrOk c sh dt = true) (h2 : arrOk false sh' dt' = true) (h : listCode c sh.length = 0) (hn : dt.all nonNeg = true) (hs : shapeB (sh ++ sh') = false) : encode c false sh dt sh' dt' = noAns 7 := by
  unfold encode; rw [if_pos ⟨h1, h2⟩, if_neg (by simp [h]), if_neg (by simp [hn]), if_neg (by simp), if_pos hs]
theorem encode_go (h1 : arrOk c sh dt = true) (h2 : arrOk false sh' dt' = true) (h : listCode c sh.length = 0) (hn : dt.all nonNeg = true) (hs : shapeB (sh ++ sh') = true) : encode c false sh dt sh' dt' = ⟨false, sh ++ sh', encAll dt dt' dt'.length, 0⟩ := by
  unfold encode; rw [if_pos ⟨h1, h2⟩, if_neg (by simp [h]), if_neg (by simp [hn]), if_neg (by simp), if_neg (by simp [hs])]
end

end Go.Proofs.Ytogmcecnckgcpaa
