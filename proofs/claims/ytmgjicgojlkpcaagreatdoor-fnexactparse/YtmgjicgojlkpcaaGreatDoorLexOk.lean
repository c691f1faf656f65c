import Derived.Test.YtmgjicgojlkpcaaGreatDoorTokSeen
import Derived.Test.YtmgjicgojlkpcaaGreatDoorRuneMath3
import Derived.Test.YtmgjicgojlkpcaaGreatDoorTokMath
namespace Go.Proofs.YtmgjicgojlkpcaaGreatDoor
open Go.RowKit

theorem bt_ext {s : ByteArray} {i e j : Nat} (he : e ≤ s.size) (h : i + j < e) : bt (s.extract i e) j = bt s (i + j) := by
  have h1 : j < (s.extract i e).size := by rw [ByteArray.size_extract]; omega
  rw [bt_get h1, bt_get (by omega : i + j < s.size)]
  congr 1
  exact ByteArray.getElem_extract h1

theorem text_is {s : ByteArray} : ∀ (F k : Nat) (out : List UInt8), out.length ≤ k → (textTok s F k out).c = 0 → (textTok s F k out).k = 2 ∧ (textTok s F k out).t.size ≤ s.size
  | 0, _, _, _, h => by exact absurd h (by unfold textTok bad; decide)
  | F + 1, k, out, ho, h => by
    unfold textTok at h ⊢
    by_cases hk : k < s.size
    · rw [if_pos hk] at h ⊢
      by_cases h39 : bt s k = 39
      · rw [if_pos h39] at h ⊢
        by_cases hq : quotes s k = true
        · rw [if_pos hq] at h ⊢
          exact text_is F (k + 2) _ (by rw [List.length_append]; show _ + 1 ≤ _; omega) h
        · rw [if_neg hq] at h ⊢
          refine ⟨rfl, ?_⟩
          show out.toArray.size ≤ _
          rw [List.size_toArray]
          omega
      · rw [if_neg h39] at h ⊢
        by_cases hb : (runeAt s k).2 = 0 ∨ bt s k = 10
        · rw [if_pos hb] at h
          exact absurd h (by unfold bad; decide)
        · rw [if_neg hb] at h ⊢
          refine text_is F (k + (runeAt s k).2) _ ?_ h
          rw [List.length_append]
          have : (s.extract k (k + (runeAt s k).2)).data.toList.length ≤ (runeAt s k).2 := by
            rw [Array.length_toList]
            show (s.extract k (k + (runeAt s k).2)).size ≤ _
            rw [ByteArray.size_extract]
            omega
          omega
    · rw [if_neg hk] at h
      exact absurd h (by unfold bad; decide)

/-- A token as Lex makes it is well made. -/
def TokMade (s : ByteArray) (y : Tok) : Prop := TokOk y ∧ (y.k = 3 → ∀ hi, nameB y.t hi = (decide (bt y.t 0 ≤ 90) == hi)) ∧ y.t.size ≤ s.size ∧ y.p < s.size

theorem tok_made {s : ByteArray} {i : Nat} (hi : i < s.size) (hc : (tokAt s i).c = 0) : TokMade s ⟨(tokAt s i).k, (tokAt s i).n, (tokAt s i).t, i⟩ := by
  have hp : (⟨(tokAt s i).k, (tokAt s i).n, (tokAt s i).t, i⟩ : Tok).p < s.size := hi
  suffices h : TokOk ⟨(tokAt s i).k, (tokAt s i).n, (tokAt s i).t, i⟩ ∧ ((tokAt s i).k = 3 → ∀ hi, nameB (tokAt s i).t hi = (decide (bt (tokAt s i).t 0 ≤ 90) == hi)) ∧ (tokAt s i).t.size ≤ s.size from ⟨h.1, h.2.1, h.2.2, hp⟩
  unfold tokAt at hc ⊢
  by_cases h1 : isD (bt s i) = true ∨ high s i = true
  · rw [if_pos h1] at hc ⊢
    unfold numTok at hc ⊢
    dsimp only at hc ⊢
    generalize (if high s i = true then i + 2 else i) = f at hc ⊢
    by_cases h2 : endOf isD s f = f ∨ (endOf isD s f < s.size ∧ isL (bt s (endOf isD s f)) = true) ∨ high s (endOf isD s f) = true
    · rw [if_pos h2] at hc
      exact absurd hc (by unfold bad; decide)
    rw [if_neg h2] at hc ⊢
    by_cases h3 : 1000000000000000 < decV s f (endOf isD s f - f)
    · rw [if_pos h3] at hc
      exact absurd hc (by unfold bad; decide)
    rw [if_neg h3] at hc ⊢
    refine ⟨.inl ⟨rfl, ?_⟩, fun h => absurd (show (1 : Int) = 3 from h) (by decide), Nat.zero_le _⟩
    unfold isNum
    refine decide_eq_true ?_
    dsimp only
    split <;> omega
  rw [if_neg h1] at hc ⊢
  by_cases h2 : bt s i = 39
  · rw [if_pos h2] at hc ⊢
    obtain ⟨k1, k2⟩ := text_is (s := s) (s.size - i) (i + 1) [] (Nat.zero_le _) hc
    exact ⟨.inr (.inl k1), fun h => absurd (k1.symm.trans h) (by decide), k2⟩
  rw [if_neg h2] at hc ⊢
  by_cases h3 : isL (bt s i) = true
  · rw [if_pos h3] at hc ⊢
    unfold nameTok at hc ⊢
    by_cases h4 : 20 < endOf isLD s i - i
    · rw [if_pos h4] at hc
      exact absurd hc (by unfold bad; decide)
    rw [if_neg h4] at hc ⊢
    have hld : isLD (bt s i) = true := by unfold isLD; rw [h3]; rfl
    have he : i + 1 ≤ endOf isLD s i := by rw [endOf_go hi hld]; exact endOf_ge _ _ _
    have hle : endOf isLD s i ≤ s.size := endOf_le _ _ _ (by omega)
    have hsz : (s.extract i (endOf isLD s i)).size = endOf isLD s i - i := by rw [ByteArray.size_extract]; omega
    have hb0 : bt (s.extract i (endOf isLD s i)) 0 = bt s i := bt_ext hle (by omega)
    have hl : isL (bt (s.extract i (endOf isLD s i)) 0) = true := by rw [hb0]; exact h3
    have hin : ∀ k, k < (s.extract i (endOf isLD s i)).size → isLD (bt (s.extract i (endOf isLD s i)) k) = true := fun k hk => by
      rw [hsz] at hk
      rw [bt_ext (j := k) hle (by omega)]
      exact (endOf_in (i := i) (k := i + k) (by omega) (by omega)).2
    refine ⟨.inr (.inr (.inl ⟨rfl, ?_, ?_⟩)), fun _ hi => ?_, ?_⟩
    · show 0 < (s.extract i (endOf isLD s i)).size
      omega
    · show bt (s.extract i (endOf isLD s i)) 0 ≤ 90 ∨ 97 ≤ bt (s.extract i (endOf isLD s i)) 0
      rw [hb0]
      unfold isL at h3
      simp only [Bool.or_eq_true, decide_eq_true_eq] at h3
      omega
    · show nameB (s.extract i (endOf isLD s i)) hi = (decide (bt (s.extract i (endOf isLD s i)) 0 ≤ 90) == hi)
      unfold nameB
      rw [decide_eq_true (show 1 ≤ (s.extract i (endOf isLD s i)).size ∧ (s.extract i (endOf isLD s i)).size ≤ 20 ∧ isL (bt (s.extract i (endOf isLD s i)) 0) = true ∧ ∀ k, k < (s.extract i (endOf isLD s i)).size → isLD (bt (s.extract i (endOf isLD s i)) k) = true from ⟨by omega, by omega, hl, hin⟩)]
      rfl
    · show (s.extract i (endOf isLD s i)).size ≤ _
      omega
  rw [if_neg h3] at hc ⊢
  unfold signTok at hc ⊢
  by_cases h4 : 0 < (runeAt s i).2 ∧ (runeAt s i).1 ∈ signCs
  · rw [if_pos h4] at hc ⊢
    refine ⟨.inr (.inr (.inr ⟨rfl, (runeAt s i).1, h4.2, ?_⟩)), fun h => absurd (show (4 : Int) = 3 from h) (by decide), ?_⟩
    · show s.extract i (i + (runeAt s i).2) = _
      rw [← rune_bytes hi h4.1, bstr_uz]
    · show (s.extract i (i + (runeAt s i).2)).size ≤ _
      rw [ByteArray.size_extract]
      omega
  · rw [if_neg h4] at hc
    exact absurd hc (by unfold bad; decide)

theorem lexR_made {s : ByteArray} : ∀ (f i : Nat) (acc : List Tok), (∀ y ∈ acc, TokMade s y) → acc.length ≤ i → (∀ y ∈ (lexR s f i acc).1, TokMade s y) ∧ (lexR s f i acc).1.length ≤ max s.size i
  | 0, i, acc, h, hl => ⟨h, by show acc.length ≤ _; omega⟩
  | f + 1, i, acc, h, hl => by
    unfold lexR
    by_cases h1 : i < s.size ∧ remark s i = false
    · rw [if_pos h1]
      by_cases h2 : bt s i = 32 ∨ bt s i = 9
      · rw [if_pos h2]
        obtain ⟨k1, k2⟩ := lexR_made f (i + 1) acc h (by omega)
        exact ⟨k1, by omega⟩
      · rw [if_neg h2]
        by_cases h3 : (tokAt s i).c ≠ 0
        · rw [if_pos h3]
          exact ⟨fun y hy => (by cases hy), Nat.zero_le _⟩
        · rw [if_neg h3]
          have hc : (tokAt s i).c = 0 := Decidable.not_not.1 h3
          obtain ⟨he1, he2⟩ := tok_end h1.1 hc
          obtain ⟨k1, k2⟩ := lexR_made f (tokAt s i).e (acc ++ [⟨(tokAt s i).k, (tokAt s i).n, (tokAt s i).t, i⟩]) (fun y hy => by
            rcases List.mem_append.1 hy with hy | hy
            · exact h y hy
            · rw [List.mem_singleton] at hy
              subst hy
              exact tok_made h1.1 hc) (by rw [List.length_append]; show _ + 1 ≤ _; omega)
          exact ⟨k1, by omega⟩
    · rw [if_neg h1]
      exact ⟨h, by show acc.length ≤ _; omega⟩

/-- All tokens that Lex gives. -/
theorem lex_made (s : ByteArray) : (∀ y ∈ (lexT s).1, TokMade s y ∧ y.t.size ≤ 2000 ∧ y.p < 2000) ∧ (lexT s).1.length ≤ 2000 := by
  unfold lexT
  by_cases h : 2000 < s.size
  · rw [if_pos h]
    exact ⟨fun y hy => (by cases hy), Nat.zero_le _⟩
  · rw [if_neg h]
    obtain ⟨k1, k2⟩ := lexR_made (s := s) (s.size + 1) 0 [] (fun y hy => by cases hy) (Nat.le_refl _)
    refine ⟨fun y hy => ?_, by omega⟩
    have := k1 y hy
    obtain ⟨_, _, h3, h4⟩ := id this
    exact ⟨this, by omega, by omega⟩

end Go.Proofs.YtmgjicgojlkpcaaGreatDoor
