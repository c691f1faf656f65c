import Derived.Test.YtogmcecnckgcpaaEncodeMath
namespace Go.Proofs.Ytogmcecnckgcpaa

/-- j columns are written, and the first t numbers of the next. -/
def encFCell (dt dt' : List Int) (m j t q : Nat) : Int := if q % m < j ∨ (q % m = j ∧ q / m < t) then encDigit dt (dt'.getD (q % m) 0) (q / m) else 0
def encFwd (dt dt' : List Int) (m j t : Nat) : List Int := (List.range (dt.length * m)).map (encFCell dt dt' m j t)

theorem encFwd_len (dt dt' : List Int) (m j t : Nat) : (encFwd dt dt' m j t).length = dt.length * m := by simp [encFwd]

theorem encFwd_zero (dt dt' : List Int) (m : Nat) : encFwd dt dt' m 0 0 = List.replicate (dt.length * m) 0 := by
  have e : List.replicate (dt.length * m) (0 : Int) = (List.range (dt.length * m)).map fun _ => 0 := by rw [List.map_const']; simp
  rw [e]
  refine enc_eq fun q hq => ?_
  unfold encFCell
  rw [if_neg (by rintro (h | ⟨_, h⟩) <;> exact absurd h (Nat.not_lt_zero _))]

theorem encFwd_step (dt dt' : List Int) {m j t : Nat} (hj : j < m) : (encFwd dt dt' m j t).set (t * m + j) (encDigit dt (dt'.getD j 0) t) = encFwd dt dt' m j (t + 1) := by
  obtain ⟨e1, e2⟩ := at_place (i := t) hj
  unfold encFwd
  rw [enc_set]
  refine enc_eq fun q _ => ?_
  by_cases e : q = t * m + j
  · rw [if_pos e]
    unfold encFCell
    rw [e, e1, e2, if_pos (.inr ⟨rfl, by omega⟩)]
  · rw [if_neg e]
    unfold encFCell
    have hq := Nat.div_add_mod q m
    by_cases h : q % m < j ∨ (q % m = j ∧ q / m < t)
    · rw [if_pos h, if_pos (h.imp id fun h => ⟨h.1, by omega⟩)]
    · rw [if_neg h, if_neg]
      rintro (h' | ⟨h1, h2⟩)
      · exact h (.inl h')
      · by_cases h3 : q / m < t
        · exact h (.inr ⟨h1, h3⟩)
        · have h4 : q / m = t := by omega
          rw [h4, h1, Nat.mul_comm] at hq
          exact e hq.symm

theorem encFwd_col (dt dt' : List Int) {m j : Nat} : encFwd dt dt' m j dt.length = encFwd dt dt' m (j + 1) 0 := by
  refine enc_eq fun q hq => ?_
  have hlt := Nat.div_lt_of_lt_mul (show q < m * dt.length by rw [Nat.mul_comm]; exact hq)
  unfold encFCell
  generalize q / m = x at *
  generalize q % m = y at *
  by_cases h : y < j + 1
  · rw [if_pos (by omega), if_pos (.inl h)]
  · rw [if_neg (by omega), if_neg (by omega)]

theorem encFwd_all (dt dt' : List Int) (m : Nat) : encFwd dt dt' m m 0 = encAll dt dt' m := by
  refine enc_eq fun q hq => ?_
  have hm : 0 < m := by
    rcases Nat.eq_zero_or_pos m with h | h
    · subst h; simp at hq
    · exact h
  unfold encFCell
  rw [if_pos (.inl (Nat.mod_lt _ hm))]

theorem enc_total {c d : Bool} {sh dt sh' dt' : List Int} {n2 m2 : Nat} (l2 : dt.length = n2) (l4 : dt'.length = m2) (h1 : arrOk c sh dt = true) (h2 : arrOk d sh' dt' = true) (h : shapeB (sh ++ sh') = true) : countOf (sh ++ sh') = ((n2 * m2 : Nat) : Int) ∧ n2 * m2 ≤ 10000 := by
  obtain ⟨_, p1, _⟩ := shapeIn_of h1
  obtain ⟨_, p2, _⟩ := shapeIn_of h2
  have hb := (prodAll_bd _ h (sh ++ sh').length).2
  rw [List.take_length] at hb
  have e : prodAll (sh ++ sh') = ((n2 * m2 : Nat) : Int) := by rw [prodAll_append, p1, p2, l2, l4, Int.natCast_mul]
  refine ⟨by rw [← prodAll_count _ h]; exact e, ?_⟩
  rw [e] at hb
  omega

end Go.Proofs.Ytogmcecnckgcpaa
