import Derived.Test.YtijamlgiinjikaaGreatDoorRelexMath2
namespace Go.Proofs.YtijamlgiinjikaaGreatDoor
open Go.RowKit

/-- A token of a line is read again where it is spelled; its spelling is no longer than it was. -/
theorem tok_again {s : ByteArray} {p : Nat} (hp : p < s.size) (hc : (tokAt s p).c = 0) : Again (tokAt s p).k (tokAt s p).n (tokAt s p).t (spellT (tokAt s p).k (tokAt s p).n (tokAt s p).t) ∧ (spellT (tokAt s p).k (tokAt s p).n (tokAt s p).t).size ≤ s.size ∧ (tokAt s p).n.natAbs ≤ 1000000000000000 ∧ (tokAt s p).t.size ≤ s.size := by
  have hend := tok_end hp hc
  unfold tokAt at hc hend ⊢
  by_cases h1 : isD (bt s p) = true ∨ high s p = true
  · rw [if_pos h1] at hc hend ⊢
    obtain ⟨f, hf⟩ : ∃ f, (if high s p = true then p + 2 else p) = f := ⟨_, rfl⟩
    have hfp : p ≤ f ∧ f ≤ s.size ∧ (high s p = true → f = p + 2) := by
      rw [← hf]
      split
      · rename_i h'; have := of_decide_eq_true h'; exact ⟨by omega, by omega, fun _ => rfl⟩
      · rename_i h'; exact ⟨by omega, by omega, fun h => absurd h h'⟩
    obtain ⟨e, he⟩ : ∃ e, endOf isD s f = e := ⟨_, rfl⟩
    have he1 := endOf_ge isD s f
    have he2 := endOf_le isD s f hfp.2.1
    rw [he] at he1 he2
    by_cases hb : e = f ∨ (e < s.size ∧ isL (bt s e) = true) ∨ high s e = true
    · rw [numTok_bad hf he hb] at hc; simp [bad] at hc
    · by_cases hv : 1000000000000000 < decV s f (e - f)
      · rw [numTok_big hf he hb hv] at hc; simp [bad] at hc
      · rw [numTok_ok hf he hb hv]
        show Again 1 (if high s p = true then -(decV s f (e - f) : Int) else (decV s f (e - f) : Int)) ⟨#[]⟩ (spellT 1 (if high s p = true then -(decV s f (e - f) : Int) else (decV s f (e - f) : Int)) ⟨#[]⟩) ∧ (spellT 1 (if high s p = true then -(decV s f (e - f) : Int) else (decV s f (e - f) : Int)) ⟨#[]⟩).size ≤ s.size ∧ (if high s p = true then -(decV s f (e - f) : Int) else (decV s f (e - f) : Int)).natAbs ≤ 1000000000000000 ∧ (ByteArray.mk #[]).size ≤ s.size
        obtain ⟨z, hz⟩ : ∃ z : Int, (if high s p = true then -(decV s f (e - f) : Int) else (decV s f (e - f) : Int)) = z := ⟨_, rfl⟩
        have hza : z.natAbs = decV s f (e - f) := by rw [← hz]; split <;> omega
        rw [hz]
        have hsp : spellT 1 z ⟨#[]⟩ = bstr (numT z) := rfl
        rw [hsp]
        refine ⟨again_num z (by omega), ?_, by omega, Nat.zero_le _⟩
        rw [bstr_size]
        -- digits of the value are no more than the digits read
        have hlen : (decZ (decV s f (e - f))).length ≤ e - f := by
          have hlt : ∀ k, (∀ j, j < k → isD (bt s (f + j)) = true) → decV s f k < 10 ^ k := by
            intro k
            induction k with
            | zero => intro _; simp [decV]
            | succ k ih =>
              intro hj
              have h9 := hj k (by omega)
              unfold isD at h9
              have h9' := of_decide_eq_true h9
              have := ih (fun j hjk => hj j (by omega))
              rw [decV, Nat.pow_succ]
              omega
          have hall : ∀ j, j < e - f → isD (bt s (f + j)) = true := fun j hj => (endOf_in (p := isD) (s := s) (i := f) (k := f + j) (by omega) (by rw [he]; omega)).2
          have h2 := hlt (e - f) hall
          obtain ⟨m, hm⟩ : ∃ m, e - f = m + 1 := ⟨e - f - 1, by omega⟩
          rw [hm] at h2 ⊢
          exact decZ_le m _ h2
        have hzl : (numT z).length ≤ (if high s p = true then 2 else 0) + (decZ (decV s f (e - f))).length := by
          unfold numT
          rw [hza]
          by_cases h0 : z < 0
          · have hhi : high s p = true := by
              cases hh : high s p with
              | true => rfl
              | false => rw [hh, if_neg (by decide)] at hz; omega
            rw [if_pos h0, if_pos hhi, List.length_append]
            simp
          · rw [if_neg h0]
            simp
        by_cases hhi : high s p = true
        · rw [if_pos hhi] at hzl; have := hfp.2.2 hhi; omega
        · rw [if_neg hhi] at hzl; omega
  · rw [if_neg h1] at hc hend ⊢
    by_cases h2 : bt s p = 39
    · rw [if_pos h2] at hc hend ⊢
      obtain ⟨a1, a2, a3, a4⟩ := again_text hp hc
      rw [a1, a2]
      have hsp : spellT 2 0 (textTok s (s.size - p) (p + 1) []).t = ⟨(quoteL (textTok s (s.size - p) (p + 1) []).t.data.toList).toArray⟩ := rfl
      rw [hsp]
      have hsz : (ByteArray.mk (quoteL (textTok s (s.size - p) (p + 1) []).t.data.toList).toArray).size = (textTok s (s.size - p) (p + 1) []).e - p := by
        show (quoteL (textTok s (s.size - p) (p + 1) []).t.data.toList).toArray.size = _
        rw [List.size_toArray]
        exact a4
      refine ⟨a3, by omega, by decide, ?_⟩
      have hq := (qd_len (textTok s (s.size - p) (p + 1) []).t.data.toList).2
      rw [← Lib.size_eq] at hq
      unfold quoteL at a4
      unfold qd at hq
      rw [List.length_cons, List.length_append] at a4
      omega
    · rw [if_neg h2] at hc hend ⊢
      by_cases h3 : isL (bt s p) = true
      · rw [if_pos h3] at hc hend ⊢
        unfold nameTok at hc hend ⊢
        by_cases h4 : 20 < endOf isLD s p - p
        · rw [if_pos h4] at hc; simp [bad] at hc
        · rw [if_neg h4] at hend ⊢
          show Again 3 0 (s.extract p (endOf isLD s p)) (s.extract p (endOf isLD s p)) ∧ (s.extract p (endOf isLD s p)).size ≤ s.size ∧ _ ∧ (s.extract p (endOf isLD s p)).size ≤ s.size
          have hz : (s.extract p (endOf isLD s p)).size ≤ s.size := by rw [ByteArray.size_extract]; omega
          exact ⟨again_name hp h3 rfl h4, hz, by show (0 : Int).natAbs ≤ _; decide, hz⟩
      · rw [if_neg h3] at hc hend ⊢
        unfold signTok at hc hend ⊢
        by_cases h4 : 0 < (runeAt s p).2 ∧ (runeAt s p).1 ∈ signCs
        · rw [if_pos h4] at hend ⊢
          have hg : Utf8.decode s p ≠ (65533, 1) := fun e => by have := h4.1; rw [rune_none e] at this; simp at this
          have hr : runeAt s p = Utf8.decode s p := by unfold runeAt; rw [if_neg hg]
          rw [hr] at h4 hend ⊢
          show Again 4 0 (s.extract p (p + (Utf8.decode s p).2)) (s.extract p (p + (Utf8.decode s p).2)) ∧ (s.extract p (p + (Utf8.decode s p).2)).size ≤ s.size ∧ _ ∧ (s.extract p (p + (Utf8.decode s p).2)).size ≤ s.size
          have hz : (s.extract p (p + (Utf8.decode s p).2)).size ≤ s.size := by rw [ByteArray.size_extract]; omega
          exact ⟨again_sign hp hg h4.2, hz, by show (0 : Int).natAbs ≤ _; decide, hz⟩
        · rw [if_neg h4] at hc; simp [bad] at hc

/-- A token that is read again where it is spelled has that text. -/
theorem text_of_again {k n : Int} {t : ByteArray} (h : Again k n t (spellT k n t)) (hs : (spellT k n t).size ≤ 2000) : tokText k n t = spellT k n t := by
  obtain ⟨x, hx⟩ : ∃ x, spellT k n t = x := ⟨_, rfl⟩
  unfold tokText
  rw [hx] at h hs ⊢
  have hp := h.pos
  obtain ⟨h1, h2, h3⟩ := h.reads x 0 (Bs.self x) (.inl (by omega))
  have hl : lexT x = ([⟨k, n, t, 0⟩], 0, 0) := by
    unfold lexT
    rw [if_neg (by omega), lexR, if_pos ⟨hp, h2⟩, if_neg h3, h1]
    show (if (0 : Int) ≠ 0 then _ else lexR x x.size (0 + x.size) ([] ++ [⟨k, n, t, 0⟩])) = _
    rw [if_neg (by decide), lex_stop (by omega)]
    rfl
  rw [hl, if_pos (by unfold backB; simp)]

/-- The texts of some tokens, a blank behind each. -/
def joinT (ts : List Tok) : List UInt8 := ts.flatMap fun y => (tokText y.k y.n y.t).data.toList ++ [32]

/-- A token of a line. -/
def Proper (y : Tok) : Prop := Again y.k y.n y.t (spellT y.k y.n y.t) ∧ tokText y.k y.n y.t = spellT y.k y.n y.t

theorem lex_joined {T : ByteArray} : ∀ (ts : List Tok) (F i : Nat) (acc : List Tok), (∀ y ∈ ts, Proper y) → Bs T i (joinT ts) → i + (joinT ts).length = T.size → T.size - i < F →
    ∃ more, lexR T F i acc = (acc ++ more, 0, 0) ∧ more.map (fun y => (y.k, y.n, y.t)) = ts.map (fun y => (y.k, y.n, y.t))
  | [], F, i, acc, _, hb, hz, hF => by
    have : i = T.size := by simpa [joinT] using hz
    exact ⟨[], by rw [lex_stop (by omega)]; simp, rfl⟩
  | y :: r, F, i, acc, hp, hb, hz, hF => by
    obtain ⟨ha, ht⟩ := hp y (by simp)
    obtain ⟨x, hx⟩ : ∃ x, spellT y.k y.n y.t = x := ⟨_, rfl⟩
    rw [hx] at ha ht
    have hj : joinT (y :: r) = x.data.toList ++ ([32] ++ joinT r) := by unfold joinT; rw [List.flatMap_cons, ht, List.append_assoc]
    rw [hj] at hb hz
    have hpos := ha.pos
    have hxl : x.data.toList.length = x.size := by rw [← Lib.size_eq]
    rw [List.length_append, List.length_append, hxl] at hz
    simp only [List.length_cons, List.length_nil] at hz
    have h32 := hb.right.left.eq 0 (by simp)
    rw [hxl, Nat.add_zero] at h32
    have h32' : bt T (i + x.size) = 32 := by simpa using h32
    have hrest := hb.right.right
    rw [hxl] at hrest
    simp only [List.length_cons, List.length_nil] at hrest
    obtain ⟨h1, h2, h3⟩ := ha.reads T i hb.left (nx_blank _ (by omega) h32')
    have hrm : remark T (i + x.size) = false := by unfold remark; exact decide_eq_false fun hh => by omega
    obtain ⟨more, hm, he⟩ := lex_joined r (F - 1 - 1) (i + x.size + 1) (acc ++ [⟨y.k, y.n, y.t, i⟩]) (fun z hz => hp z (by simp [hz])) (by simpa using hrest) (by omega) (by omega)
    refine ⟨⟨y.k, y.n, y.t, i⟩ :: more, ?_, by rw [List.map_cons, List.map_cons, he]⟩
    rw [lex_tok hF ⟨by omega, h2⟩ h3 (by rw [h1]), h1]
    show lexR T (F - 1) (i + x.size) (acc ++ [⟨y.k, y.n, y.t, i⟩]) = _
    rw [lex_blank (by omega) ⟨by omega, hrm⟩ (.inl h32'), hm, List.append_assoc]
    rfl

/-- The tokens of a line are read again where they are written one behind the other. -/
theorem relex {s : ByteArray} (hc : (lexT s).2.1 = 0) : (∀ y ∈ (lexT s).1, Proper y ∧ y.n.natAbs ≤ 1000000000000000 ∧ y.t.size ≤ 2000) ∧
    ((joinT (lexT s).1).length ≤ 2000 → (lexT ⟨(joinT (lexT s).1).toArray⟩).2.1 = 0 ∧ (lexT ⟨(joinT (lexT s).1).toArray⟩).1.map (fun y => (y.k, y.n, y.t)) = (lexT s).1.map (fun y => (y.k, y.n, y.t))) := by
  unfold lexT at hc
  by_cases hs : 2000 < s.size
  · rw [if_pos hs] at hc; exact absurd hc (by decide)
  · rw [if_neg hs] at hc
    have hl : lexT s = lexR s (s.size + 1) 0 [] := by unfold lexT; rw [if_neg hs]
    obtain ⟨more, hm, hx⟩ := lexR_pre (s := s) (s.size + 1) 0 [] (Nat.zero_le _) hc
    rw [List.nil_append] at hm
    rw [hl, hm]
    have hall : ∀ y ∈ more, Proper y ∧ y.n.natAbs ≤ 1000000000000000 ∧ y.t.size ≤ 2000 := by
      intro y hy
      obtain ⟨h1, h2, h3⟩ := hx y hy
      obtain ⟨g1, g2, g3, g4⟩ := tok_again h1 h2
      have ek : (tokAt s y.p).k = y.k := (congrArg Tok.k h3).symm
      have en : (tokAt s y.p).n = y.n := (congrArg Tok.n h3).symm
      have et : (tokAt s y.p).t = y.t := (congrArg Tok.t h3).symm
      rw [ek, en, et] at g1 g2
      rw [en] at g3
      rw [et] at g4
      exact ⟨⟨g1, text_of_again g1 (by omega)⟩, g3, by omega⟩
    refine ⟨hall, fun hj => ?_⟩
    have hT : (ByteArray.mk (joinT more).toArray).size = (joinT more).length := by show (joinT more).toArray.size = _; rw [List.size_toArray]
    have hb := Bs.self (ByteArray.mk (joinT more).toArray)
    obtain ⟨m2, h1, h2⟩ := lex_joined (T := ⟨(joinT more).toArray⟩) more ((ByteArray.mk (joinT more).toArray).size + 1) 0 [] (fun y hy => (hall y hy).1) hb (by omega) (by omega)
    have hl2 : lexT ⟨(joinT more).toArray⟩ = ([] ++ m2, 0, 0) := by unfold lexT; rw [if_neg (by omega)]; exact h1
    rw [hl2]
    exact ⟨rfl, h2⟩

end Go.Proofs.YtijamlgiinjikaaGreatDoor
