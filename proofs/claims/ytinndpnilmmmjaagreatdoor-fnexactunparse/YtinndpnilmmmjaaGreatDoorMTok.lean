import Derived.Test.YtinndpnilmmmjaaGreatDoorMSpec
import Derived.Deep.RegionHeld
import Derived.BigQuiet
namespace Go.Proofs.YtinndpnilmmmjaaGreatDoor
open Go.RowKit

theorem text_at {s : ByteArray} : ∀ (F k : Nat) (out : List UInt8), k ≤ s.size → (textTok s F k out).c = 0 → k < (textTok s F k out).e ∧ (textTok s F k out).e ≤ s.size
  | 0, k, out, _, h => by simp [textTok, bad] at h
  | F + 1, k, out, hk, h => by
    rw [textTok] at h ⊢
    by_cases h1 : k < s.size
    · rw [if_pos h1] at h ⊢
      by_cases h2 : bt s k = 39
      · rw [if_pos h2] at h ⊢
        by_cases h3 : quotes s k = true
        · rw [if_pos h3] at h ⊢
          have hq := of_decide_eq_true h3
          have := text_at F (k + 2) _ (by omega) h
          omega
        · rw [if_neg h3]
          show k < k + 1 ∧ k + 1 ≤ s.size
          omega
      · rw [if_neg h2] at h ⊢
        by_cases h3 : (runeAt s k).2 = 0 ∨ bt s k = 10
        · rw [if_pos h3] at h; simp [bad] at h
        · rw [if_neg h3] at h ⊢
          have hr := rune_end h1
          have := text_at F (k + (runeAt s k).2) _ hr.1 h
          omega
    · rw [if_neg h1] at h; simp [bad] at h

theorem tok_end {s : ByteArray} {k : Nat} (hk : k < s.size) (h : (tokAt s k).c = 0) : k < (tokAt s k).e ∧ (tokAt s k).e ≤ s.size := by
  unfold tokAt at h ⊢
  by_cases h1 : isD (bt s k) = true ∨ high s k = true
  · rw [if_pos h1] at h ⊢
    obtain ⟨f, hf⟩ : ∃ f, (if high s k = true then k + 2 else k) = f := ⟨_, rfl⟩
    have hfk : k ≤ f ∧ f ≤ s.size := by
      rw [← hf]
      split
      · rename_i h'; have := of_decide_eq_true h'; omega
      · omega
    obtain ⟨e, he⟩ : ∃ e, endOf isD s f = e := ⟨_, rfl⟩
    by_cases hb : e = f ∨ (e < s.size ∧ isL (bt s e) = true) ∨ high s e = true
    · rw [numTok_bad hf he hb] at h; simp [bad] at h
    · by_cases hv : 1000000000000000 < decV s f (e - f)
      · rw [numTok_big hf he hb hv] at h; simp [bad] at h
      · rw [numTok_ok hf he hb hv]
        show k < e ∧ e ≤ s.size
        have h2 := endOf_ge isD s f
        have h3 := endOf_le isD s f hfk.2
        rw [he] at h2 h3
        have : e ≠ f := fun x => hb (.inl x)
        omega
  · rw [if_neg h1] at h ⊢
    by_cases h2 : bt s k = 39
    · rw [if_pos h2] at h ⊢
      have := text_at (s.size - k) (k + 1) [] (by omega) h
      omega
    · rw [if_neg h2] at h ⊢
      by_cases h3 : isL (bt s k) = true
      · rw [if_pos h3] at h ⊢
        unfold nameTok at h ⊢
        by_cases h4 : 20 < endOf isLD s k - k
        · rw [if_pos h4] at h; simp [bad] at h
        · rw [if_neg h4]
          show k < endOf isLD s k ∧ endOf isLD s k ≤ s.size
          have h5 := endOf_go (p := isLD) hk (by unfold isLD; rw [h3]; rfl)
          have h6 := endOf_ge isLD s (k + 1)
          have h7 := endOf_le isLD s k (by omega)
          omega
      · rw [if_neg h3] at h ⊢
        unfold signTok at h ⊢
        by_cases h4 : 0 < (runeAt s k).2 ∧ (runeAt s k).1 ∈ signCs
        · rw [if_pos h4]
          have hr := rune_end hk
          show k < k + (runeAt s k).2 ∧ k + (runeAt s k).2 ≤ s.size
          omega
        · rw [if_neg h4] at h; simp [bad] at h

/-- A token's cells. -/
def tokCells (t : Tok) : List Value := [.int .i64 t.k, .int .i64 t.n, .string t.t, .int .i64 (t.p : Nat)]

theorem info_tok : (Tryz.prog.info? 64).map (fun i => (i.zero, i.size, i.bytes)) = some (some (.agg #[.int .i64 0, .int .i64 0, .string ⟨#[]⟩, .int .i64 0]), 4, 40) := by kernel_rfl

/-- The slice (a, n, _) reads as these tokens. -/
structure RowT (w : World) (a : Option Addr) (n : Nat) (ts : List Tok) : Prop where
  len : ts.length = n
  at_ : n = 0 ∨ ∃ b off, a = some ⟨b, off, none⟩ ∧ b < w.heap.size ∧ ∀ i, i < 4 * n → w.cell? ⟨b, off + i, none⟩ = (ts.flatMap tokCells)[i]?

/-- An own list of tokens that grows, made in the world Q. -/
structure GrowT (Q w : World) (g cap j : Nat) (ts : List Tok) : Prop where
  own : w.ownsRow Q.heap.size 64 4 (.slice (some ⟨g, 0, none⟩) j cap) j (ts.flatMap tokCells)
  low : Below Q.heap.size Q w

theorem cells_len (ts : List Tok) : (ts.flatMap tokCells).length = 4 * ts.length := by
  induction ts with
  | nil => rfl
  | cons t r ih => rw [List.flatMap_cons, List.length_append, ih]; simp [tokCells]; omega

theorem GrowT.start (Q : World) : GrowT Q (Q.alloc (.cells #[] 64)) Q.heap.size 0 0 [] := by
  refine ⟨⟨by simp, .inr ⟨Q.heap.size, 0, #[], rfl, Nat.le_refl _, ?_, by simp, by unfold maxLen; omega, by simp, by simp⟩⟩, (Below.refl _ _).alloc (Nat.le_refl _) _⟩
  show (Q.heap.push _)[Q.heap.size]? = _
  simp

theorem GrowT.below {Q w w' : World} {g cap j : Nat} {ts : List Tok} (h : GrowT Q w g cap j ts) (hb : Below w.heap.size w w') : GrowT Q w' g cap j ts := ⟨ownsB_below h.own (Nat.le_refl _) hb, h.low.trans (hb.mono h.low.size)⟩

theorem GrowT.len {Q w : World} {g cap j : Nat} {ts : List Tok} (h : GrowT Q w g cap j ts) : ts.length = j := by
  have := h.own.1
  rw [cells_len] at this
  omega

theorem GrowT.ge {Q w : World} {g cap j : Nat} {ts : List Tok} (h : GrowT Q w g cap j ts) : Q.heap.size ≤ g := by
  rcases h.own.2 with ⟨h', _⟩ | ⟨g', cap', cur, h', hb, _⟩
  · simp at h'
  · cases h'; exact hb

theorem GrowT.push {Q w w1 : World} {g cap j g' cap' : Nat} {ts : List Tok} {t : Tok} (h : GrowT Q w g cap j ts)
    (hown : w1.ownsRow Q.heap.size 64 4 (.slice (some ⟨g', 0, none⟩) (j + 1) cap') (j + 1) (ts.flatMap tokCells ++ tokCells t)) (hg : w.grownBy w1 (Value.ownBlock (.slice (some ⟨g, 0, none⟩) j cap))) :
    GrowT Q w1 g' cap' (j + 1) (ts ++ [t]) := by
  have hge := h.ge
  refine ⟨by rw [List.flatMap_append]; simpa using hown, ⟨hg.os.trans h.low.os, hg.tape.trans h.low.tape, hg.output.trans h.low.output, Nat.le_trans h.low.size hg.size, fun k hk => (hg.block k (by have := h.low.size; omega) (fun e => by have := (Option.some.inj e : k = g); omega)).trans (h.low.block k hk)⟩⟩

theorem GrowT.row {Q w : World} {g cap j : Nat} {ts : List Tok} (h : GrowT Q w g cap j ts) : RowT w (some ⟨g, 0, none⟩) j ts := by
  refine ⟨h.len, ?_⟩
  rcases h.own.2 with ⟨h', _⟩ | ⟨g', cap', cur, h', _, hg, _, _, hcs, ht⟩
  · simp at h'
  · cases h'
    refine .inr ⟨g, 0, rfl, lt_of_block hg, fun i hi => ?_⟩
    have e : cur.toList[i]? = (ts.flatMap tokCells)[i]? := by
      rw [← ht, List.getElem?_take, if_pos (by omega)]
    simpa [World.cell?, hg] using e

/-- What Lex gives. -/
def GivesLex (w : World) (r : List Tok × Int × Nat) (e : Ending) (w' : World) : Prop := ∃ g n cap, e = .returned (.tuple #[.slice (some ⟨g, 0, none⟩) n cap, .int .i64 r.2.1, .int .i64 (r.2.2 : Nat)]) ∧ RowT w' (some ⟨g, 0, none⟩) n r.1 ∧ Below w.heap.size w w'

theorem lex_stop {s : ByteArray} {F k : Nat} {acc : List Tok} (h : ¬ (k < s.size ∧ remark s k = false)) : lexR s F k acc = (acc, 0, 0) := by
  cases F with
  | zero => rfl
  | succ F => rw [lexR, if_neg h]

theorem lex_blank {s : ByteArray} {F k : Nat} {acc : List Tok} (hF : s.size - k < F) (h : k < s.size ∧ remark s k = false) (hb : bt s k = 32 ∨ bt s k = 9) : lexR s F k acc = lexR s (F - 1) (k + 1) acc := by
  cases F with
  | zero => omega
  | succ F => rw [lexR, if_pos h, if_pos hb]; rfl

theorem lex_bad {s : ByteArray} {F k : Nat} {acc : List Tok} (hF : s.size - k < F) (h : k < s.size ∧ remark s k = false) (hb : ¬ (bt s k = 32 ∨ bt s k = 9)) (hc : (tokAt s k).c ≠ 0) : lexR s F k acc = ([], (tokAt s k).c, k) := by
  cases F with
  | zero => omega
  | succ F => rw [lexR, if_pos h, if_neg hb, if_pos hc]

theorem lex_tok {s : ByteArray} {F k : Nat} {acc : List Tok} (hF : s.size - k < F) (h : k < s.size ∧ remark s k = false) (hb : ¬ (bt s k = 32 ∨ bt s k = 9)) (hc : (tokAt s k).c = 0) : lexR s F k acc = lexR s (F - 1) (tokAt s k).e (acc ++ [⟨(tokAt s k).k, (tokAt s k).n, (tokAt s k).t, k⟩]) := by
  cases F with
  | zero => omega
  | succ F => rw [lexR, if_pos h, if_neg hb, if_neg (by rw [hc]; decide)]; rfl

end Go.Proofs.YtinndpnilmmmjaaGreatDoor
namespace Go.Proofs.YtinndpnilmmmjaaGreatDoor
open Go.RowKit

theorem lexR_len {s : ByteArray} : ∀ (F i : Nat) (acc : List Tok), i ≤ s.size → (lexR s F i acc).1.length ≤ acc.length + (s.size - i)
  | 0, i, acc, _ => by rw [lexR]; show acc.length ≤ _; omega
  | F + 1, i, acc, hi => by
    rw [lexR]
    by_cases h : i < s.size ∧ remark s i = false
    · rw [if_pos h]
      by_cases hb : bt s i = 32 ∨ bt s i = 9
      · rw [if_pos hb]
        have := lexR_len (s := s) F (i + 1) acc (by omega)
        omega
      · rw [if_neg hb]
        by_cases hc : (tokAt s i).c ≠ 0
        · rw [if_pos hc]; show 0 ≤ _; omega
        · rw [if_neg hc]
          have ht := tok_end h.1 (Classical.not_not.1 hc)
          have := lexR_len F (tokAt s i).e (acc ++ [⟨(tokAt s i).k, (tokAt s i).n, (tokAt s i).t, i⟩]) ht.2
          rw [List.length_append] at this
          simp only [List.length_cons, List.length_nil] at this
          omega
    · rw [if_neg h]; show acc.length ≤ _; omega

theorem lexT_len (s : ByteArray) : (lexT s).1.length ≤ s.size := by
  unfold lexT
  split
  · exact Nat.zero_le _
  · have := lexR_len (s := s) (s.size + 1) 0 [] (Nat.zero_le _)
    simpa using this

end Go.Proofs.YtinndpnilmmmjaaGreatDoor
namespace Go.Proofs.YtinndpnilmmmjaaGreatDoor
open Go.RowKit

/-- A text between its marks. -/
def quoteL (l : List UInt8) : List UInt8 := 39 :: (l.flatMap (fun b => if b = 39 then [39, 39] else [b]) ++ [39])

/-- How a token is written. -/
def spellT (k n : Int) (t : ByteArray) : ByteArray := if k = 1 then bstr (numT n) else if k = 2 then ⟨(quoteL t.data.toList).toArray⟩ else t

/-- What is read again of a token's text is the token. -/
def readsBack (k n : Int) (t : ByteArray) (r : List Tok × Int × Nat) : Prop := r.2.1 = 0 ∧ ∃ y, r.1 = [y] ∧ y.k = k ∧ y.n = n ∧ y.t = t

theorem lexR_pre {s : ByteArray} : ∀ (F i : Nat) (acc : List Tok), i ≤ s.size → (lexR s F i acc).2.1 = 0 → ∃ more, (lexR s F i acc).1 = acc ++ more ∧ ∀ x ∈ more, x.p < s.size ∧ (tokAt s x.p).c = 0 ∧ x = ⟨(tokAt s x.p).k, (tokAt s x.p).n, (tokAt s x.p).t, x.p⟩
  | 0, i, acc, _, _ => ⟨[], by rw [lexR]; simp, fun x hx => by cases hx⟩
  | F + 1, i, acc, hi, hc => by
    rw [lexR] at hc ⊢
    by_cases h : i < s.size ∧ remark s i = false
    · rw [if_pos h] at hc ⊢
      by_cases hb : bt s i = 32 ∨ bt s i = 9
      · rw [if_pos hb] at hc ⊢
        exact lexR_pre F (i + 1) acc (by omega) hc
      · rw [if_neg hb] at hc ⊢
        by_cases hk : (tokAt s i).c ≠ 0
        · rw [if_pos hk] at hc
          exact absurd hc hk
        · rw [if_neg hk] at hc ⊢
          have hk0 := Classical.not_not.1 hk
          have ht := tok_end h.1 hk0
          obtain ⟨more, hm, hx⟩ := lexR_pre F (tokAt s i).e _ ht.2 hc
          refine ⟨⟨(tokAt s i).k, (tokAt s i).n, (tokAt s i).t, i⟩ :: more, by rw [hm, List.append_assoc]; rfl, fun x hxm => ?_⟩
          rcases List.mem_cons.1 hxm with e | e
          · subst e
            exact ⟨h.1, hk0, rfl⟩
          · exact hx x e
    · rw [if_neg h]
      exact ⟨[], by simp, fun x hx => by cases hx⟩

/-- Where a token stands at a text's beginning it is read there. -/
theorem first_zero {s : ByteArray} {F : Nat} {y : Tok} (h0 : 0 < s.size) (hr : remark s 0 = false) (hb : ¬ (bt s 0 = 32 ∨ bt s 0 = 9)) (hc : (lexR s (F + 1) 0 []).2.1 = 0) (hy : (lexR s (F + 1) 0 []).1 = [y]) : y.p = 0 := by
  rw [lexR, if_pos ⟨h0, hr⟩, if_neg hb] at hc hy
  by_cases hk : (tokAt s 0).c ≠ 0
  · rw [if_pos hk] at hc
    exact absurd hc hk
  · rw [if_neg hk] at hc hy
    have ht := tok_end h0 (Classical.not_not.1 hk)
    obtain ⟨more, hm, _⟩ := lexR_pre F (tokAt s 0).e _ ht.2 hc
    rw [hm] at hy
    have := congrArg List.head? hy
    simp at this
    rw [← this]

/-- What a token's text is that is no number and no text. -/
theorem tok_piece {s : ByteArray} {i : Nat} (hi : i < s.size) (hc : (tokAt s i).c = 0) (h1 : (tokAt s i).k ≠ 1) (h2 : (tokAt s i).k ≠ 2) : ∃ e, e ≤ s.size ∧ (tokAt s i).t = s.extract i e := by
  have he := tok_end hi hc
  refine ⟨(tokAt s i).e, he.2, ?_⟩
  unfold tokAt at hc h1 h2 ⊢
  by_cases c1 : isD (bt s i) = true ∨ high s i = true
  · rw [if_pos c1] at hc h1 ⊢
    exfalso
    obtain ⟨f, hf⟩ : ∃ f, (if high s i = true then i + 2 else i) = f := ⟨_, rfl⟩
    obtain ⟨e, he⟩ : ∃ e, endOf isD s f = e := ⟨_, rfl⟩
    by_cases hb : e = f ∨ (e < s.size ∧ isL (bt s e) = true) ∨ high s e = true
    · rw [numTok_bad hf he hb] at hc; simp [bad] at hc
    · by_cases hv : 1000000000000000 < decV s f (e - f)
      · rw [numTok_big hf he hb hv] at hc; simp [bad] at hc
      · rw [numTok_ok hf he hb hv] at h1
        exact h1 rfl
  · rw [if_neg c1] at hc h1 h2 ⊢
    by_cases c2 : bt s i = 39
    · rw [if_pos c2] at hc h2 ⊢
      exfalso
      have key : ∀ (f p : Nat) (out : List UInt8), (textTok s f p out).c = 0 → (textTok s f p out).k = 2 := by
        intro f
        induction f with
        | zero => intro p out h; rw [textTok] at h; simp [bad] at h
        | succ f ih =>
          intro p out h
          rw [textTok] at h ⊢
          by_cases d1 : p < s.size
          · rw [if_pos d1] at h ⊢
            by_cases d2 : bt s p = 39
            · rw [if_pos d2] at h ⊢
              by_cases d3 : quotes s p = true
              · rw [if_pos d3] at h ⊢; exact ih _ _ h
              · rw [if_neg d3]
            · rw [if_neg d2] at h ⊢
              by_cases d3 : (runeAt s p).2 = 0 ∨ bt s p = 10
              · rw [if_pos d3] at h; simp [bad] at h
              · rw [if_neg d3] at h ⊢; exact ih _ _ h
          · rw [if_neg d1] at h; simp [bad] at h
      exact h2 (key _ _ _ hc)
    · rw [if_neg c2] at hc ⊢
      by_cases c3 : isL (bt s i) = true
      · rw [if_pos c3] at hc ⊢
        unfold nameTok at hc ⊢
        by_cases c4 : 20 < endOf isLD s i - i
        · rw [if_pos c4] at hc; simp [bad] at hc
        · rw [if_neg c4]
      · rw [if_neg c3] at hc ⊢
        unfold signTok at hc ⊢
        by_cases c4 : 0 < (runeAt s i).2 ∧ (runeAt s i).1 ∈ signCs
        · rw [if_pos c4]
        · rw [if_neg c4] at hc; simp [bad] at hc

theorem decZ_digit : ∀ (k m : Nat), m < 10 ^ k → ∀ z ∈ decZ m, 48 ≤ z ∧ z ≤ 57
  | 0, m, h, z, hz => by
    have : m = 0 := by simpa using h
    subst this
    rw [decZ_small (by omega)] at hz
    simp at hz
    omega
  | k + 1, m, h, z, hz => by
    by_cases h10 : m < 10
    · rw [decZ_small h10] at hz
      simp at hz
      omega
    · rw [decZ_big h10] at hz
      rcases List.mem_append.1 hz with e | e
      · exact decZ_digit k (m / 10) (by rw [Nat.pow_succ] at h; omega) z e
      · simp at e
        omega

theorem decV_dec {s : ByteArray} {f : Nat} : ∀ (k m : Nat), m < 10 ^ k → (∀ j, j < (decZ m).length → (bt s (f + j) : Int) = (decZ m).getD j 0) → decV s f (decZ m).length = m
  | 0, m, h, hb => by
    have : m = 0 := by simpa using h
    subst this
    have h0 := hb 0 (by rw [decZ_small (by omega)]; simp)
    rw [decZ_small (by omega)] at h0 ⊢
    simp at h0
    show 0 * 10 + (bt s (f + 0) - 48) = 0
    rw [Nat.add_zero]
    omega
  | k + 1, m, h, hb => by
    by_cases h10 : m < 10
    · have h0 := hb 0 (by rw [decZ_small h10]; simp)
      rw [decZ_small h10] at h0 ⊢
      simp at h0
      show 0 * 10 + (bt s (f + 0) - 48) = m
      rw [Nat.add_zero]
      omega
    · have hd := decZ_big h10
      have hl : (decZ m).length = (decZ (m / 10)).length + 1 := by rw [hd]; simp
      have ih := decV_dec k (m / 10) (by rw [Nat.pow_succ] at h; omega) (fun j hj => by
        rw [hb j (by omega), hd]
        simp only [List.getD_eq_getElem?_getD]
        rw [List.getElem?_append_left hj])
      have hlast := hb (decZ (m / 10)).length (by omega)
      rw [hd] at hlast
      simp only [List.getD_eq_getElem?_getD] at hlast
      rw [List.getElem?_append_right (Nat.le_refl _), Nat.sub_self] at hlast
      simp at hlast
      rw [hl, decV, ih]
      omega

theorem bstr_at {l : List Int} (hl : ∀ z ∈ l, 0 ≤ z ∧ z < 256) {j : Nat} (hj : j < l.length) : (bt (bstr l) j : Int) = l.getD j 0 := by
  rw [bt_data (by rw [bstr_size]; exact hj)]
  unfold bstr
  have h := hl l[j] (List.getElem_mem hj)
  simp only [List.getD_eq_getElem?_getD, List.getElem?_map, List.getElem?_eq_getElem hj, Option.map_some, Option.getD_some]
  rw [Nat.toUInt8, UInt8.toNat_ofNat']
  omega

/-- The number's text, byte for byte. -/
theorem numT_parts (n : Int) (hn : n.natAbs < 10 ^ 19) : (numT n).length ≤ 21 ∧ (∀ z ∈ numT n, 0 ≤ z ∧ z < 256) ∧
    ∃ f, (f = if n < 0 then 2 else 0) ∧ (numT n).length = f + (decZ n.natAbs).length ∧ (∀ j, j < (decZ n.natAbs).length → (bt (bstr (numT n)) (f + j) : Int) = (decZ n.natAbs).getD j 0) ∧ (high (bstr (numT n)) 0 = true ↔ n < 0) := by
  have hd := decZ_digit 19 n.natAbs hn
  have hp := decZ_pos n.natAbs
  have hl := decZ_le 18 n.natAbs hn
  have hz : ∀ z ∈ numT n, 0 ≤ z ∧ z < 256 := by
    intro z hz
    unfold numT at hz
    rcases List.mem_append.1 hz with e | e
    · split at e
      · simp at e; omega
      · cases e
    · have := hd z e; omega
  refine ⟨?_, hz, _, rfl, ?_, ?_, ?_⟩
  · unfold numT; split <;> simp <;> omega
  · unfold numT; split <;> simp <;> omega
  · intro j hj
    rw [bstr_at hz (by unfold numT; split <;> simp <;> omega)]
    unfold numT
    split
    · simp only [List.getD_eq_getElem?_getD]
      have e2 : 2 + j - ([194, 175] : List Int).length = j := by simp
      rw [List.getElem?_append_right (by simp), e2]
    · simp
  · by_cases h0 : n < 0
    · refine ⟨fun _ => h0, fun _ => ?_⟩
      have e : numT n = 194 :: 175 :: decZ n.natAbs := by unfold numT; rw [if_pos h0]; rfl
      have a := bstr_at hz (j := 0) (by rw [e]; simp)
      have b := bstr_at hz (j := 1) (by rw [e]; simp)
      rw [e] at a b
      simp at a b
      unfold high
      rw [e]
      exact decide_eq_true ⟨by rw [bstr_size]; simp, by omega, by show bt _ 1 = 175; omega⟩
    · refine ⟨fun h => ?_, fun h => absurd h h0⟩
      have e : numT n = decZ n.natAbs := by unfold numT; rw [if_neg h0]; rfl
      have a := bstr_at hz (j := 0) (by rw [e]; omega)
      unfold high at h
      have h2 := (of_decide_eq_true h).2.1
      rw [e] at a h2
      have h3 := hd _ (by
        have : (decZ n.natAbs).getD 0 0 ∈ decZ n.natAbs := by
          rw [List.getD_eq_getElem?_getD, List.getElem?_eq_getElem (by omega)]
          exact List.getElem_mem _
        exact this)
      omega

/-- A number's text begins with no blank and no comment. -/
theorem num_starts (n : Int) (hn : n.natAbs < 10 ^ 19) : 0 < (bstr (numT n)).size ∧ remark (bstr (numT n)) 0 = false ∧ ¬ (bt (bstr (numT n)) 0 = 32 ∨ bt (bstr (numT n)) 0 = 9) ∧ (isD (bt (bstr (numT n)) 0) = true ∨ high (bstr (numT n)) 0 = true) := by
  obtain ⟨hl, hz, f, hf, hlen, hb, hh⟩ := numT_parts n hn
  have hp := decZ_pos n.natAbs
  have hd := decZ_digit 19 n.natAbs hn
  have hfirst : (bt (bstr (numT n)) 0 = 194 ∧ high (bstr (numT n)) 0 = true) ∨ (48 ≤ bt (bstr (numT n)) 0 ∧ bt (bstr (numT n)) 0 ≤ 57) := by
    by_cases h0 : n < 0
    · left
      have h1 := hh.2 h0
      have h2 := h1
      unfold high at h2
      exact ⟨(of_decide_eq_true h2).2.1, h1⟩
    · right
      rw [if_neg h0] at hf
      subst hf
      have := hb 0 (by omega)
      have h3 := hd _ (by
        have : (decZ n.natAbs).getD 0 0 ∈ decZ n.natAbs := by
          rw [List.getD_eq_getElem?_getD, List.getElem?_eq_getElem (by omega)]
          exact List.getElem_mem _
        exact this)
      rw [Nat.zero_add] at this
      omega
  refine ⟨by rw [bstr_size]; omega, ?_, by omega, ?_⟩
  · unfold remark
    exact decide_eq_false (fun h => by omega)
  · rcases hfirst with h | h
    · exact .inr h.2
    · left; unfold isD; exact decide_eq_true h

/-- A number that is too great is not read again. -/
theorem num_big (n : Int) (hn : n.natAbs < 10 ^ 19) (hb : 1000000000000000 < n.natAbs) : (lexT (bstr (numT n))).2.1 = 7 := by
  obtain ⟨hs0, hrm, hbl, hst⟩ := num_starts n hn
  obtain ⟨hl, hz, f, hf, hlen, hbb, hh⟩ := numT_parts n hn
  have hp := decZ_pos n.natAbs
  have hd := decZ_digit 19 n.natAbs hn
  have hsz : (bstr (numT n)).size = f + (decZ n.natAbs).length := by rw [bstr_size]; exact hlen
  have hsz2 : (bstr (numT n)).size ≤ 21 := by rw [bstr_size]; exact hl
  generalize bstr (numT n) = x at *
  have hfx : (if high x 0 = true then 0 + 2 else 0) = f := by
    by_cases h0 : n < 0
    · rw [if_pos (hh.2 h0), hf, if_pos h0]
    · rw [if_neg (fun h => h0 (hh.1 h)), hf, if_neg h0]
  have hdig : ∀ j, j < (decZ n.natAbs).length → 48 ≤ bt x (f + j) ∧ bt x (f + j) ≤ 57 := fun j hj => by
    have h1 := hbb j hj
    have h2 := hd _ (by
      have : (decZ n.natAbs).getD j 0 ∈ decZ n.natAbs := by
        rw [List.getD_eq_getElem?_getD, List.getElem?_eq_getElem hj]
        exact List.getElem_mem _
      exact this)
    omega
  have he : endOf isD x f = x.size := by
    rw [hsz]
    refine endOf_is _ f (fun j hj => ⟨by omega, ?_⟩) (by omega)
    unfold isD
    exact decide_eq_true (hdig j hj)
  have hbad : ¬ (x.size = f ∨ (x.size < x.size ∧ isL (bt x x.size) = true) ∨ high x x.size = true) := by
    rintro (h | h | h)
    · omega
    · omega
    · unfold high at h; have := of_decide_eq_true h; omega
  have hv : decV x f (x.size - f) = n.natAbs := by
    rw [show x.size - f = (decZ n.natAbs).length by omega]
    exact decV_dec 19 _ hn hbb
  have ht : tokAt x 0 = bad 7 := by
    unfold tokAt
    rw [if_pos hst]
    exact numTok_big hfx he hbad (by omega)
  unfold lexT
  rw [if_neg (by omega), lexR, if_pos ⟨hs0, hrm⟩, if_neg hbl, ht]
  rfl

/-- Where a token's text gives the token again it is read at the text's beginning. -/
theorem back_zero {k n : Int} {t : ByteArray} {y : Tok} (hn : n.natAbs < 10 ^ 19) (hc : (lexT (spellT k n t)).2.1 = 0) (hy : (lexT (spellT k n t)).1 = [y]) (hk : y.k = k) (ht : y.t = t) : y.p = 0 := by
  unfold lexT at hc hy
  by_cases hs : 2000 < (spellT k n t).size
  · rw [if_pos hs] at hc; exact absurd hc (by decide)
  · rw [if_neg hs] at hc hy
    by_cases k1 : k = 1
    · have e : spellT k n t = bstr (numT n) := by unfold spellT; rw [if_pos k1]
      rw [e] at hc hy
      obtain ⟨h0, hr, hb, _⟩ := num_starts n hn
      exact first_zero h0 hr hb hc hy
    · by_cases k2 : k = 2
      · have e : spellT k n t = ⟨(quoteL t.data.toList).toArray⟩ := by unfold spellT; rw [if_neg k1, if_pos k2]
        have hb0 : bt (spellT k n t) 0 = 39 := by rw [e]; rfl
        have h0 : 0 < (spellT k n t).size := by rw [e]; simp [ByteArray.size, quoteL]
        exact first_zero h0 (by unfold remark; exact decide_eq_false (fun h => by omega)) (by omega) hc hy
      · have e : spellT k n t = t := by unfold spellT; rw [if_neg k1, if_neg k2]
        rw [e] at hc hy
        obtain ⟨more, hm, hx⟩ := lexR_pre (s := t) (t.size + 1) 0 [] (Nat.zero_le _) hc
        rw [hm, List.nil_append] at hy
        obtain ⟨hp, hpc, hyx⟩ := hx y (by rw [hy]; simp)
        have ek : (tokAt t y.p).k = k := (congrArg Tok.k hyx).symm.trans hk
        have et : (tokAt t y.p).t = t := (congrArg Tok.t hyx).symm.trans ht
        obtain ⟨e2, he2, hpe⟩ := tok_piece hp hpc (by rw [ek]; exact k1) (by rw [ek]; exact k2)
        have hsz := congrArg ByteArray.size (et.symm.trans hpe)
        rw [ByteArray.size_extract] at hsz
        omega

end Go.Proofs.YtinndpnilmmmjaaGreatDoor
namespace Go.Proofs.YtinndpnilmmmjaaGreatDoor
open Go.RowKit

/-- A token's value. -/
def tokV (t : Tok) : Value := .agg #[.int .i64 t.k, .int .i64 t.n, .string t.t, .int .i64 (t.p : Nat)]

theorem flat_get : ∀ (ts : List Tok) (j f : Nat) (hj : j < ts.length), f < 4 → (ts.flatMap tokCells)[4 * j + f]? = (tokCells ts[j])[f]?
  | [], j, f, hj, _ => absurd hj (Nat.not_lt_zero _)
  | t :: r, 0, f, _, hf => by
    rw [List.flatMap_cons, List.getElem?_append_left (by simp [tokCells]; omega)]
    simp
  | t :: r, j + 1, f, hj, hf => by
    have hl : (tokCells t).length = 4 := rfl
    rw [List.flatMap_cons, List.getElem?_append_right (by rw [hl]; omega), hl, show 4 * (j + 1) + f - 4 = 4 * j + f by omega]
    exact flat_get r j f (by simpa using hj) hf

/-- The token that stands at a place. -/
theorem RowT.get {w : World} {a : Option Addr} {n : Nat} {ts : List Tok} (h : RowT w a n ts) {j : Nat} (hj : j < n) : ∃ b off t, a = some ⟨b, off, none⟩ ∧ b < w.heap.size ∧ ts[j]? = some t ∧ w.cell? ⟨b, off + j * 4, none⟩ = some (.int .i64 t.k) ∧ w.cell? ⟨b, off + j * 4 + 1, none⟩ = some (.int .i64 t.n) ∧ w.cell? ⟨b, off + j * 4 + 2, none⟩ = some (.string t.t) ∧ w.cell? ⟨b, off + j * 4 + 3, none⟩ = some (.int .i64 (t.p : Nat)) := by
  have hl := h.len
  rcases h.at_ with h0 | ⟨b, off, rfl, hb, hc⟩
  · omega
  · have hj' : j < ts.length := by omega
    refine ⟨b, off, ts[j], rfl, hb, List.getElem?_eq_getElem hj', ?_, ?_, ?_, ?_⟩
    · rw [show off + j * 4 = off + (4 * j + 0) by omega, hc (4 * j + 0) (by omega)]; exact flat_get ts j 0 hj' (by omega)
    · rw [show off + j * 4 + 1 = off + (4 * j + 1) by omega, hc (4 * j + 1) (by omega)]; exact flat_get ts j 1 hj' (by omega)
    · rw [show off + j * 4 + 2 = off + (4 * j + 2) by omega, hc (4 * j + 2) (by omega)]; exact flat_get ts j 2 hj' (by omega)
    · rw [show off + j * 4 + 3 = off + (4 * j + 3) by omega, hc (4 * j + 3) (by omega)]; exact flat_get ts j 3 hj' (by omega)

theorem RowT.below {w w' : World} {a : Option Addr} {n B : Nat} {ts : List Tok} (h : RowT w a n ts) (hB : w.heap.size ≤ B) (hb : Below B w w') : RowT w' a n ts := by
  refine ⟨h.len, ?_⟩
  rcases h.at_ with h0 | ⟨b, off, rfl, hlt, hc⟩
  · exact .inl h0
  · exact .inr ⟨b, off, rfl, Nat.lt_of_lt_of_le hlt hb.size, fun i hi => (hb.cell (p := ⟨b, off + i, none⟩) (Nat.lt_of_lt_of_le hlt hB)).trans (hc i hi)⟩

end Go.Proofs.YtinndpnilmmmjaaGreatDoor
