import Derived.Test.YtmgjicgojlkpcaaGreatDoorSpecToken
namespace Go.Proofs.YtmgjicgojlkpcaaGreatDoor
open Go.RowKit

theorem text_at {s : ByteArray} : ∀ (F k : Nat) (out : List UInt8), k ≤ s.size → (textTok s F k out).c = 0 → k < (textTok s F k out).e ∧ (textTok s F k out).e ≤ s.size
  | 0, k, out, _, h => by simp [textTok, bad] at h
  | F + 1, k, out, hk, h => by
    rw [textTok] at h ⊢
    by_cases h1 : k < s.size
    · rw [if_pos h1] at h ⊢
      by_cases h2 : bt s k = 39
      · rw [if_pos h2] at h ⊢
        by_cases h3 : quotes s k = true
        · rw [if_pos h3] at h ⊢
          have hq := of_decide_eq_true h3
          have := text_at F (k + 2) _ (by omega) h
          omega
        · rw [if_neg h3]
          show k < k + 1 ∧ k + 1 ≤ s.size
          omega
      · rw [if_neg h2] at h ⊢
        by_cases h3 : (runeAt s k).2 = 0 ∨ bt s k = 10
        · rw [if_pos h3] at h; simp [bad] at h
        · rw [if_neg h3] at h ⊢
          have hr := rune_end h1
          have := text_at F (k + (runeAt s k).2) _ hr.1 h
          omega
    · rw [if_neg h1] at h; simp [bad] at h

theorem tok_end {s : ByteArray} {k : Nat} (hk : k < s.size) (h : (tokAt s k).c = 0) : k < (tokAt s k).e ∧ (tokAt s k).e ≤ s.size := by
  unfold tokAt at h ⊢
  by_cases h1 : isD (bt s k) = true ∨ high s k = true
  · rw [if_pos h1] at h ⊢
    obtain ⟨f, hf⟩ : ∃ f, (if high s k = true then k + 2 else k) = f := ⟨_, rfl⟩
    have hfk : k ≤ f ∧ f ≤ s.size := by
      rw [← hf]
      split
      · rename_i h'; have := of_decide_eq_true h'; omega
      · omega
    obtain ⟨e, he⟩ : ∃ e, endOf isD s f = e := ⟨_, rfl⟩
    by_cases hb : e = f ∨ (e < s.size ∧ isL (bt s e) = true) ∨ high s e = true
    · rw [numTok_bad hf he hb] at h; simp [bad] at h
    · by_cases hv : 1000000000000000 < decV s f (e - f)
      · rw [numTok_big hf he hb hv] at h; simp [bad] at h
      · rw [numTok_ok hf he hb hv]
        show k < e ∧ e ≤ s.size
        have h2 := endOf_ge isD s f
        have h3 := endOf_le isD s f hfk.2
        rw [he] at h2 h3
        have : e ≠ f := fun x => hb (.inl x)
        omega
  · rw [if_neg h1] at h ⊢
    by_cases h2 : bt s k = 39
    · rw [if_pos h2] at h ⊢
      have := text_at (s.size - k) (k + 1) [] (by omega) h
      omega
    · rw [if_neg h2] at h ⊢
      by_cases h3 : isL (bt s k) = true
      · rw [if_pos h3] at h ⊢
        unfold nameTok at h ⊢
        by_cases h4 : 20 < endOf isLD s k - k
        · rw [if_pos h4] at h; simp [bad] at h
        · rw [if_neg h4]
          show k < endOf isLD s k ∧ endOf isLD s k ≤ s.size
          have h5 := endOf_go (p := isLD) hk (by unfold isLD; rw [h3]; rfl)
          have h6 := endOf_ge isLD s (k + 1)
          have h7 := endOf_le isLD s k (by omega)
          omega
      · rw [if_neg h3] at h ⊢
        unfold signTok at h ⊢
        by_cases h4 : 0 < (runeAt s k).2 ∧ (runeAt s k).1 ∈ signCs
        · rw [if_pos h4]
          have hr := rune_end hk
          show k < k + (runeAt s k).2 ∧ k + (runeAt s k).2 ≤ s.size
          omega
        · rw [if_neg h4] at h; simp [bad] at h

/-- A token's cells. -/
def tokCells (t : Tok) : List Value := [.int .i64 t.k, .int .i64 t.n, .string t.t, .int .i64 (t.p : Nat)]

theorem info_tok : (Tryz.prog.info? 64).map (fun i => (i.zero, i.size, i.bytes)) = some (some (.agg #[.int .i64 0, .int .i64 0, .string ⟨#[]⟩, .int .i64 0]), 4, 40) := by kernel_rfl

/-- The slice (a, n, _) reads as these tokens. -/
structure RowT (w : World) (a : Option Addr) (n : Nat) (ts : List Tok) : Prop where
  len : ts.length = n
  at_ : n = 0 ∨ ∃ b off, a = some ⟨b, off, none⟩ ∧ b < w.heap.size ∧ ∀ i, i < 4 * n → w.cell? ⟨b, off + i, none⟩ = (ts.flatMap tokCells)[i]?

/-- An own list of tokens that grows, made in the world Q. -/
structure GrowT (Q w : World) (g cap j : Nat) (ts : List Tok) : Prop where
  own : w.ownsRow Q.heap.size 64 4 (.slice (some ⟨g, 0, none⟩) j cap) j (ts.flatMap tokCells)
  low : Below Q.heap.size Q w

theorem cells_len (ts : List Tok) : (ts.flatMap tokCells).length = 4 * ts.length := by
  induction ts with
  | nil => rfl
  | cons t r ih => rw [List.flatMap_cons, List.length_append, ih]; simp [tokCells]; omega

theorem GrowT.start (Q : World) : GrowT Q (Q.alloc (.cells #[] 64)) Q.heap.size 0 0 [] := by
  refine ⟨⟨by simp, .inr ⟨Q.heap.size, 0, #[], rfl, Nat.le_refl _, ?_, by simp, by unfold maxLen; omega, by simp, by simp⟩⟩, (Below.refl _ _).alloc (Nat.le_refl _) _⟩
  show (Q.heap.push _)[Q.heap.size]? = _
  simp

theorem GrowT.below {Q w w' : World} {g cap j : Nat} {ts : List Tok} (h : GrowT Q w g cap j ts) (hb : Below w.heap.size w w') : GrowT Q w' g cap j ts := ⟨ownsB_below h.own (Nat.le_refl _) hb, h.low.trans (hb.mono h.low.size)⟩

theorem GrowT.len {Q w : World} {g cap j : Nat} {ts : List Tok} (h : GrowT Q w g cap j ts) : ts.length = j := by
  have := h.own.1
  rw [cells_len] at this
  omega

theorem GrowT.ge {Q w : World} {g cap j : Nat} {ts : List Tok} (h : GrowT Q w g cap j ts) : Q.heap.size ≤ g := by
  rcases h.own.2 with ⟨h', _⟩ | ⟨g', cap', cur, h', hb, _⟩
  · simp at h'
  · cases h'; exact hb

theorem GrowT.push {Q w w1 : World} {g cap j g' cap' : Nat} {ts : List Tok} {t : Tok} (h : GrowT Q w g cap j ts)
    (hown : w1.ownsRow Q.heap.size 64 4 (.slice (some ⟨g', 0, none⟩) (j + 1) cap') (j + 1) (ts.flatMap tokCells ++ tokCells t)) (hg : w.grownBy w1 (Value.ownBlock (.slice (some ⟨g, 0, none⟩) j cap))) :
    GrowT Q w1 g' cap' (j + 1) (ts ++ [t]) := by
  have hge := h.ge
  refine ⟨by rw [List.flatMap_append]; simpa using hown, ⟨hg.os.trans h.low.os, hg.tape.trans h.low.tape, hg.output.trans h.low.output, Nat.le_trans h.low.size hg.size, fun k hk => (hg.block k (by have := h.low.size; omega) (fun e => by have := (Option.some.inj e : k = g); omega)).trans (h.low.block k hk)⟩⟩

theorem GrowT.row {Q w : World} {g cap j : Nat} {ts : List Tok} (h : GrowT Q w g cap j ts) : RowT w (some ⟨g, 0, none⟩) j ts := by
  refine ⟨h.len, ?_⟩
  rcases h.own.2 with ⟨h', _⟩ | ⟨g', cap', cur, h', _, hg, _, _, hcs, ht⟩
  · simp at h'
  · cases h'
    refine .inr ⟨g, 0, rfl, lt_of_block hg, fun i hi => ?_⟩
    have e : cur.toList[i]? = (ts.flatMap tokCells)[i]? := by
      rw [← ht, List.getElem?_take, if_pos (by omega)]
    simpa [World.cell?, hg] using e

/-- What Lex gives. -/
def GivesLex (w : World) (r : List Tok × Int × Nat) (e : Ending) (w' : World) : Prop := ∃ g n cap, e = .returned (.tuple #[.slice (some ⟨g, 0, none⟩) n cap, .int .i64 r.2.1, .int .i64 (r.2.2 : Nat)]) ∧ RowT w' (some ⟨g, 0, none⟩) n r.1 ∧ Below w.heap.size w w'

theorem lex_stop {s : ByteArray} {F k : Nat} {acc : List Tok} (h : ¬ (k < s.size ∧ remark s k = false)) : lexR s F k acc = (acc, 0, 0) := by
  cases F with
  | zero => rfl
  | succ F => rw [lexR, if_neg h]

theorem lex_blank {s : ByteArray} {F k : Nat} {acc : List Tok} (hF : s.size - k < F) (h : k < s.size ∧ remark s k = false) (hb : bt s k = 32 ∨ bt s k = 9) : lexR s F k acc = lexR s (F - 1) (k + 1) acc := by
  cases F with
  | zero => omega
  | succ F => rw [lexR, if_pos h, if_pos hb]; rfl

theorem lex_bad {s : ByteArray} {F k : Nat} {acc : List Tok} (hF : s.size - k < F) (h : k < s.size ∧ remark s k = false) (hb : ¬ (bt s k = 32 ∨ bt s k = 9)) (hc : (tokAt s k).c ≠ 0) : lexR s F k acc = ([], (tokAt s k).c, k) := by
  cases F with
  | zero => omega
  | succ F => rw [lexR, if_pos h, if_neg hb, if_pos hc]

theorem lex_tok {s : ByteArray} {F k : Nat} {acc : List Tok} (hF : s.size - k < F) (h : k < s.size ∧ remark s k = false) (hb : ¬ (bt s k = 32 ∨ bt s k = 9)) (hc : (tokAt s k).c = 0) : lexR s F k acc = lexR s (F - 1) (tokAt s k).e (acc ++ [⟨(tokAt s k).k, (tokAt s k).n, (tokAt s k).t, k⟩]) := by
  cases F with
  | zero => omega
  | succ F => rw [lexR, if_pos h, if_neg hb, if_neg (by rw [hc]; decide)]; rfl

end Go.Proofs.YtmgjicgojlkpcaaGreatDoor
