import Derived.Test.YtijamlgiinjikaaGreatDoorTextMath2
namespace Go.Proofs.YtijamlgiinjikaaGreatDoor
open Go

def hiB (b : UInt8) : Bool := decide (128 ≤ b.toNat)

theorem tw_at : ∀ (l : List UInt8) (k : Nat), k ≤ (l.takeWhile hiB).length → ((k < l.length ∧ hiB (l.getD k 0) = true) ↔ k < (l.takeWhile hiB).length) ∧ (k < (l.takeWhile hiB).length → l.getD k 0 = (l.takeWhile hiB).getD k 0)
  | [], k, h => by simp at h ⊢
  | a :: t, 0, _ => by
    by_cases ha : hiB a = true
    · rw [List.takeWhile_cons_of_pos ha]; simp [ha]
    · rw [List.takeWhile_cons_of_neg ha]; simp [ha]
  | a :: t, k + 1, h => by
    by_cases ha : hiB a = true
    · rw [List.takeWhile_cons_of_pos ha] at h ⊢
      have := tw_at t k (by simpa using h)
      simpa using this
    · rw [List.takeWhile_cons_of_neg ha] at h
      simp at h

theorem lbt {l : List UInt8} {k : Nat} (h : k < l.length) : bt ⟨l.toArray⟩ k = (l.getD k 0).toNat := by
  rw [bt_data (by simpa [ByteArray.size] using h)]

theorem tw_tl (l : List UInt8) (k : Nat) (h : k ≤ (l.takeWhile hiB).length) : tl ⟨l.toArray⟩ k = decide (k < (l.takeWhile hiB).length ∧ ((l.takeWhile hiB).getD k 0).toNat < 192) ∧ (tl ⟨l.toArray⟩ k = true → bt ⟨l.toArray⟩ k = ((l.takeWhile hiB).getD k 0).toNat ∧ k + 1 ≤ (l.takeWhile hiB).length) := by
  obtain ⟨h1, h2⟩ := tw_at l k h
  have key : tl ⟨l.toArray⟩ k = decide (k < (l.takeWhile hiB).length ∧ ((l.takeWhile hiB).getD k 0).toNat < 192) := by
    unfold tl
    refine decide_eq_decide.2 ?_
    have hz : (ByteArray.mk l.toArray).size = l.length := by simp [ByteArray.size]
    rw [hz]
    constructor
    · rintro ⟨a, b, c⟩
      rw [lbt a] at b c
      have := h1.1 ⟨a, by unfold hiB; exact decide_eq_true b⟩
      exact ⟨this, by rw [← h2 this]; exact c⟩
    · rintro ⟨a, b⟩
      obtain ⟨c, d⟩ := h1.2 a
      rw [← h2 a] at b
      rw [lbt c]
      exact ⟨c, by unfold hiB at d; exact of_decide_eq_true d, b⟩
  refine ⟨key, fun ht => ?_⟩
  rw [key] at ht
  obtain ⟨a, b⟩ := of_decide_eq_true ht
  rw [lbt (h1.2 a).1, h2 a]
  exact ⟨rfl, a⟩

theorem decode_agree {x y : ByteArray} {i j : Nat} (h0 : bt x i = bt y j) (h1 : tl x (i + 1) = tl y (j + 1))
    (h2 : tl y (j + 1) = true → bt x (i + 1) = bt y (j + 1) ∧ tl x (i + 2) = tl y (j + 2) ∧ (tl y (j + 2) = true → bt x (i + 2) = bt y (j + 2) ∧ tl x (i + 3) = tl y (j + 3) ∧ (tl y (j + 3) = true → bt x (i + 3) = bt y (j + 3)))) : Utf8.decode x i = Utf8.decode y j := by
  rw [decode_is, decode_is, h0, h1]
  by_cases c0 : bt y j < 128
  · rw [if_pos c0, if_pos c0]
  · rw [if_neg c0, if_neg c0]
    by_cases t1 : tl y (j + 1) = true
    · obtain ⟨b1, e2, h3⟩ := h2 t1
      have w2 : v2 x i = v2 y j := by unfold v2; rw [h0, b1]
      rw [e2, w2]
      by_cases t2 : tl y (j + 2) = true
      · obtain ⟨b2, e3, h4⟩ := h3 t2
        have w3 : v3 x i = v3 y j := by unfold v3; rw [h0, b1, b2]
        rw [e3, w3]
        by_cases t3 : tl y (j + 3) = true
        · have w4 : v4 x i = v4 y j := by unfold v4; rw [h0, b1, b2, h4 t3]
          rw [w4]
        · simp [t3]
      · simp [t2]
    · simp [t1]

/-- From a byte of 128 or more on a character is read by the bytes of 128 and more that follow one another. -/
theorem decodeL_high (l m : List UInt8) (h : l.takeWhile hiB = m.takeWhile hiB) (hne : l.takeWhile hiB ≠ []) : Lib.decodeL l = Lib.decodeL m := by
  have hl : 0 < (l.takeWhile hiB).length := List.length_pos_iff.2 hne
  obtain ⟨a1, a2⟩ := tw_at l 0 (by omega)
  obtain ⟨b1, b2⟩ := tw_at m 0 (by rw [← h]; omega)
  unfold Lib.decodeL
  have z0 : bt ⟨l.toArray⟩ 0 = bt ⟨m.toArray⟩ 0 := by
    rw [lbt (a1.2 hl).1, lbt (b1.2 (by rw [← h]; exact hl)).1, a2 hl, b2 (by rw [← h]; exact hl), h]
  have step : ∀ k, k ≤ (l.takeWhile hiB).length → tl ⟨l.toArray⟩ k = tl ⟨m.toArray⟩ k ∧ (tl ⟨m.toArray⟩ k = true → bt ⟨l.toArray⟩ k = bt ⟨m.toArray⟩ k ∧ k + 1 ≤ (l.takeWhile hiB).length) := fun k hk => by
    obtain ⟨p1, p2⟩ := tw_tl l k hk
    obtain ⟨q1, q2⟩ := tw_tl m k (by rw [← h]; exact hk)
    have e : tl ⟨l.toArray⟩ k = tl ⟨m.toArray⟩ k := by rw [p1, q1, h]
    exact ⟨e, fun ht => ⟨by rw [(p2 (e ▸ ht)).1, (q2 ht).1, h], (p2 (e ▸ ht)).2⟩⟩
  obtain ⟨s1, s1'⟩ := step 1 (by omega)
  refine decode_agree z0 s1 fun t1 => ⟨(s1' t1).1, ?_⟩
  obtain ⟨s2, s2'⟩ := step 2 (s1' t1).2
  refine ⟨s2, fun t2 => ⟨(s2' t2).1, ?_⟩⟩
  obtain ⟨s3, s3'⟩ := step 3 (s2' t2).2
  exact ⟨s3, fun t3 => (s3' t3).1⟩

theorem tw_append {a b c : List UInt8} (h : b.takeWhile hiB = c.takeWhile hiB) : (a ++ b).takeWhile hiB = (a ++ c).takeWhile hiB := by
  induction a with
  | nil => exact h
  | cons x t ih =>
    rw [List.cons_append, List.cons_append]
    by_cases hx : hiB x = true
    · rw [List.takeWhile_cons_of_pos hx, List.takeWhile_cons_of_pos hx, ih]
    · rw [List.takeWhile_cons_of_neg hx, List.takeWhile_cons_of_neg hx]

/-- A character that is read where a text ends is read where the text goes on. -/
theorem decode_longer {x y : ByteArray} {i j : Nat} (hi : i < x.size) (hb : ∀ k, i + k < x.size → j + k < y.size ∧ bt y (j + k) = bt x (i + k)) (hg : Utf8.decode x i ≠ (65533, 1)) : Utf8.decode y j = Utf8.decode x i := by
  have e0 : bt y j = bt x i := (hb 0 hi).2
  have ht : ∀ k, tl x (i + k) = true → tl y (j + k) = true ∧ bt y (j + k) = bt x (i + k) := fun k h => by
    obtain ⟨p, q, r⟩ := tl_bd h
    obtain ⟨a, b⟩ := hb k p
    refine ⟨?_, b⟩
    unfold tl
    rw [b]
    exact decide_eq_true ⟨a, q, r⟩
  rw [decode_is] at hg
  rw [decode_is, decode_is x i, e0]
  by_cases c0 : bt x i < 128
  · rw [if_pos c0, if_pos c0]
  · rw [if_neg c0] at hg ⊢
    rw [if_neg c0]
    by_cases c1 : bt x i / 32 = 6 ∧ tl x (i + 1) = true
    · have w : v2 y j = v2 x i := by unfold v2; rw [e0, (ht 1 c1.2).2]
      rw [if_pos c1, if_pos ⟨c1.1, (ht 1 c1.2).1⟩, w]
    · rw [if_neg c1] at hg ⊢
      by_cases c2 : bt x i / 16 = 14 ∧ tl x (i + 1) = true ∧ tl x (i + 2) = true
      · have w : v3 y j = v3 x i := by unfold v3; rw [e0, (ht 1 c2.2.1).2, (ht 2 c2.2.2).2]
        rw [if_pos c2, if_neg (by omega), if_pos ⟨c2.1, (ht 1 c2.2.1).1, (ht 2 c2.2.2).1⟩, w]
      · rw [if_neg c2] at hg ⊢
        by_cases c3 : bt x i / 8 = 30 ∧ tl x (i + 1) = true ∧ tl x (i + 2) = true ∧ tl x (i + 3) = true
        · have w : v4 y j = v4 x i := by unfold v4; rw [e0, (ht 1 c3.2.1).2, (ht 2 c3.2.2.1).2, (ht 3 c3.2.2.2).2]
          rw [if_pos c3, if_neg (by omega), if_neg (by omega), if_pos ⟨c3.1, (ht 1 c3.2.1).1, (ht 2 c3.2.2.1).1, (ht 3 c3.2.2.2).1⟩, w]
        · rw [if_neg c3] at hg
          exact absurd rfl hg

theorem decodeL_append {a b : List UInt8} (ha : a ≠ []) (hg : Lib.decodeL a ≠ (65533, 1)) : Lib.decodeL (a ++ b) = Lib.decodeL a := by
  have hl : 0 < a.length := List.length_pos_iff.2 ha
  unfold Lib.decodeL at hg ⊢
  have hz : (ByteArray.mk a.toArray).size = a.length := by simp [ByteArray.size]
  refine decode_longer (by omega) (fun k hk => ?_) hg
  have h1 : 0 + k < a.length := by omega
  have h2 : 0 + k < (a ++ b).length := by rw [List.length_append]; omega
  refine ⟨by simpa [ByteArray.size] using h2, ?_⟩
  rw [lbt h1, lbt h2]
  congr 1
  simp only [List.getD_eq_getElem?_getD]
  rw [List.getElem?_append_left h1]

/-- Behind what is valid. -/
theorem validD_append : ∀ (n : Nat) (a b : List UInt8), a.length ≤ n → Lib.validD a = true → Lib.validD (a ++ b) = Lib.validD b
  | 0, a, b, hn, _ => by
    have : a = [] := List.eq_nil_of_length_eq_zero (by omega)
    subst this
    rfl
  | n + 1, a, b, hn, hv => by
    by_cases ha : a = []
    · subst ha; rfl
    · have hl : 0 < a.length := List.length_pos_iff.2 ha
      rw [Lib.validD_step a ha] at hv
      by_cases hg : (Lib.decodeL a).1 = 65533 ∧ (Lib.decodeL a).2 = 1
      · rw [if_pos hg] at hv; cases hv
      · rw [if_neg hg] at hv
        have hg' : Lib.decodeL a ≠ (65533, 1) := fun e => hg ⟨by rw [e], by rw [e]⟩
        have hw := Lib.decodeL_width a
        have hle : (Lib.decodeL a).2 ≤ a.length := by
          have := decode_width_le (s := ⟨a.toArray⟩) (i := 0) (by simpa [ByteArray.size] using hl)
          simpa [ByteArray.size, Lib.decodeL] using this
        rw [Lib.validD_step (a ++ b) (by simp [ha]), decodeL_append ha hg', if_neg hg, List.drop_append_of_le_length hle]
        exact validD_append n _ b (by rw [List.length_drop]; omega) hv

theorem decode_cut {s x : ByteArray} {p n : Nat} (hn : (Utf8.decode s p).2 = n) (hp : 1 ≤ n) (hxs : x.size = n) (hb : ∀ k, k < n → p + k < s.size ∧ bt x k = bt s (p + k)) (hg : Utf8.decode s p ≠ (65533, 1)) : Utf8.decode x 0 = Utf8.decode s p := by
  have ht : ∀ k, k < n → tl x (0 + k) = tl s (p + k) := fun k hk => by
    unfold tl
    rw [Nat.zero_add, (hb k hk).2, hxs]
    exact decide_eq_decide.2 ⟨fun ⟨_, b⟩ => ⟨(hb k hk).1, b⟩, fun ⟨_, b⟩ => ⟨hk, b⟩⟩
  have e0 : bt x 0 = bt s p := by rw [(hb 0 (by omega)).2, Nat.add_zero]
  have hd := decode_is s p
  rw [decode_is x 0, hd, e0]
  rw [hd] at hn
  by_cases c0 : bt s p < 128
  · rw [if_pos c0, if_pos c0]
  · rw [if_neg c0] at hd hn ⊢
    rw [if_neg c0]
    by_cases c1 : bt s p / 32 = 6 ∧ tl s (p + 1) = true
    · rw [if_pos c1] at hd hn
      have hn : n = 2 := by
        by_cases c : 128 ≤ v2 s p
        · rw [if_pos c] at hn; exact hn.symm
        · rw [if_neg c] at hd; exact absurd hd hg
      have w : v2 x 0 = v2 s p := by unfold v2; rw [e0, (hb 1 (by omega)).2]
      rw [if_pos c1, if_pos ⟨c1.1, by rw [ht 1 (by omega)]; exact c1.2⟩, w]
    · rw [if_neg c1] at hd hn ⊢
      by_cases c2 : bt s p / 16 = 14 ∧ tl s (p + 1) = true ∧ tl s (p + 2) = true
      · rw [if_pos c2] at hd hn
        have hn : n = 3 := by
          by_cases c : 2048 ≤ v3 s p ∧ Utf8.valid (v3 s p : Nat) = true
          · rw [if_pos c] at hn; exact hn.symm
          · rw [if_neg c] at hd; exact absurd hd hg
        have w : v3 x 0 = v3 s p := by unfold v3; rw [e0, (hb 1 (by omega)).2, (hb 2 (by omega)).2]
        rw [if_pos c2, if_neg (by omega), if_pos ⟨c2.1, by rw [ht 1 (by omega)]; exact c2.2.1, by rw [ht 2 (by omega)]; exact c2.2.2⟩, w]
      · rw [if_neg c2] at hd hn ⊢
        by_cases c3 : bt s p / 8 = 30 ∧ tl s (p + 1) = true ∧ tl s (p + 2) = true ∧ tl s (p + 3) = true
        · rw [if_pos c3] at hd hn
          have hn : n = 4 := by
            by_cases c : 65536 ≤ v4 s p ∧ Utf8.valid (v4 s p : Nat) = true
            · rw [if_pos c] at hn; exact hn.symm
            · rw [if_neg c] at hd; exact absurd hd hg
          have w : v4 x 0 = v4 s p := by unfold v4; rw [e0, (hb 1 (by omega)).2, (hb 2 (by omega)).2, (hb 3 (by omega)).2]
          rw [if_pos c3, if_neg (by omega), if_neg (by omega), if_pos ⟨c3.1, by rw [ht 1 (by omega)]; exact c3.2.1, by rw [ht 2 (by omega)]; exact c3.2.2.1, by rw [ht 3 (by omega)]; exact c3.2.2.2⟩, w]
        · rw [if_neg c3] at hd
          exact absurd hd hg

/-- The bytes of a character are valid. -/
theorem valid_char {s : ByteArray} {p : Nat} (h : p < s.size) (hg : Utf8.decode s p ≠ (65533, 1)) : Lib.validD (s.extract p (p + (Utf8.decode s p).2)).data.toList = true := by
  have h1 := decode_width_le h
  have h2 := Lib.decode_width_pos s p h
  obtain ⟨n, hn⟩ : ∃ n, (Utf8.decode s p).2 = n := ⟨_, rfl⟩
  rw [hn] at h1 h2 ⊢
  have hlen : (s.extract p (p + n)).data.toList.length = n := by
    rw [sub_list, List.length_take, List.length_drop, ← Lib.size_eq]; omega
  have hdec : Lib.decodeL (s.extract p (p + n)).data.toList = Utf8.decode s p := by
    unfold Lib.decodeL
    refine decode_cut hn h2 hlen (fun k hk => ⟨by omega, ?_⟩) hg
    rw [lbt (by rw [hlen]; exact hk), bt_data (by omega), sub_list]
    simp only [List.getD_eq_getElem?_getD, List.getElem?_take, List.getElem?_drop]
    rw [if_pos (by omega)]
  have hne : (s.extract p (p + n)).data.toList ≠ [] := List.ne_nil_of_length_pos (by omega)
  rw [Lib.validD_step _ hne, hdec, if_neg (fun h => hg (Prod.ext h.1 h.2)), hn, List.drop_of_length_le (by omega)]
  rfl

/-- What a text's reading adds goes on as the text does, up to the first byte below 128. -/
theorem dev_fol {s : ByteArray} : ∀ (f p : Nat) (out : List UInt8) (e : Nat) (o : List UInt8), devT s f p out = some (e, o) → p ≤ s.size → ∃ r, o = out ++ r ∧ r.takeWhile hiB = (s.data.toList.drop p).takeWhile hiB
  | 0, _, _, _, _, h, _ => by rw [devT] at h; cases h
  | f + 1, p, out, e, o, h, hp => by
    rw [devT] at h
    by_cases hlt : p < s.size
    · rw [if_pos hlt] at h
      have hl : p < s.data.toList.length := by rw [← Lib.size_eq]; exact hlt
      by_cases hq : isIn (Utf8.decode s p).1 = true
      · rw [if_pos hq] at h
        have h1 := decode_width_le hlt
        obtain ⟨r, hr, ht⟩ := dev_fol f _ _ e o h h1
        refine ⟨(s.extract p (p + (Utf8.decode s p).2)).data.toList ++ r, by rw [hr, List.append_assoc], ?_⟩
        rw [tw_append ht, sub_list, Nat.add_sub_cancel_left, ← List.drop_drop, List.take_append_drop]
      · rw [if_neg hq] at h
        by_cases c : quote1 s p = true
        · have hb : hiB (s.data.toList[p]) = false := by
            unfold quote1 at c
            have c2 := (of_decide_eq_true c).2
            rw [bt_data hlt, List.getD_eq_getElem?_getD, List.getElem?_eq_getElem hl] at c2
            rw [Option.getD_some] at c2
            unfold hiB
            exact decide_eq_false (by omega)
          have hz : (s.data.toList.drop p).takeWhile hiB = [] := by
            rw [List.drop_eq_getElem_cons hl, List.takeWhile_cons_of_neg (by rw [hb]; simp)]
          rw [if_pos c] at h
          by_cases c2 : quote1 s (p + 1) = true
          · rw [if_pos c2] at h
            have h2 : p + 2 ≤ s.size := by unfold quote1 at c2; have := of_decide_eq_true c2; omega
            obtain ⟨r, hr, ht⟩ := dev_fol f _ _ e o h h2
            refine ⟨39 :: r, by rw [hr, List.append_assoc]; rfl, ?_⟩
            rw [hz, List.takeWhile_cons_of_neg (by decide)]
          · rw [if_neg c2] at h
            obtain ⟨rfl, rfl⟩ : p + 1 = e ∧ out = o := by simpa using h
            exact ⟨[], by simp, by rw [hz]; rfl⟩
        · rw [if_neg c] at h; cases h
    · rw [if_neg hlt] at h; cases h

theorem not_in {s : ByteArray} {p : Nat} (hq : ¬ isIn (Utf8.decode s p).1 = true) : bt s p = 39 ∨ bt s p = 10 := by
  have hv : (Utf8.decode s p).1 = 39 ∨ (Utf8.decode s p).1 = 10 := by
    unfold isIn at hq
    by_cases a : (Utf8.decode s p).1 = 39
    · exact Or.inl a
    · by_cases b : (Utf8.decode s p).1 = 10
      · exact Or.inr b
      · simp [a, b] at hq
  have hb : bt s p < 128 := by
    by_cases h : bt s p < 128
    · exact h
    · have := decode_ge h; omega
  rw [decode_is, if_pos hb] at hv
  exact hv

theorem is_in {s : ByteArray} {p : Nat} (hq : isIn (Utf8.decode s p).1 = true) : bt s p ≠ 39 ∧ bt s p ≠ 10 := by
  constructor
  · intro e
    rw [decode_is, if_pos (by omega), e] at hq
    exact absurd hq (by decide)
  · intro e
    rw [decode_is, if_pos (by omega), e] at hq
    exact absurd hq (by decide)

/-- What a text's reading gives, whole and then looked at, is what is read character by character. -/
theorem dev_tok {s : ByteArray} : ∀ (f p : Nat) (out : List UInt8), p ≤ s.size → Lib.validD out = true → textTok s f p out = match devT s f p out with
    | none => bad 1
    | some (e, o) => if Lib.validD o = true then ⟨2, 0, ⟨o.toArray⟩, e, 0⟩ else bad 1
  | 0, _, _, _, _ => by rw [textTok, devT]
  | f + 1, p, out, hp, hv => by
    rw [textTok, devT]
    by_cases hlt : p < s.size
    · rw [if_pos hlt, if_pos hlt]
      by_cases hq : isIn (Utf8.decode s p).1 = true
      · obtain ⟨n39, n10⟩ := is_in hq
        rw [if_neg n39, if_pos hq]
        by_cases hg : Utf8.decode s p = (65533, 1)
        · have hr : runeAt s p = (0, 0) := rune_none hg
          rw [if_pos (Or.inl (by rw [hr]))]
          cases hd : devT s f (p + (Utf8.decode s p).2) (out ++ (s.extract p (p + (Utf8.decode s p).2)).data.toList) with
          | none => rfl
          | some x =>
            obtain ⟨e, o⟩ := x
            have hd2 : devT s (f + 1) p out = some (e, o) := by rw [devT, if_pos hlt, if_pos hq]; exact hd
            obtain ⟨r, hr, ht⟩ := dev_fol (f + 1) p out e o hd2 hp
            have hl : p < s.data.toList.length := by rw [← Lib.size_eq]; exact hlt
            have hhi : hiB (s.data.toList[p]) = true := by
              have hb : ¬ bt s p < 128 := fun h => by rw [decode_is, if_pos h] at hg; have := congrArg Prod.fst hg; simp at this; omega
              rw [bt_data hlt, List.getD_eq_getElem?_getD, List.getElem?_eq_getElem hl] at hb
              unfold hiB
              exact decide_eq_true (by simpa using hb)
            have hne : (s.data.toList.drop p).takeWhile hiB ≠ [] := by
              rw [List.drop_eq_getElem_cons hl, List.takeWhile_cons_of_pos hhi]
              exact List.cons_ne_nil _ _
            have hdl : Lib.decodeL r = (65533, 1) := by
              rw [decodeL_high r (s.data.toList.drop p) ht (by rw [ht]; exact hne), ← hg, ← tail_list]
              exact (tail_decode (i := p) (j := 0) hlt)
            have hrn : r ≠ [] := fun e => by rw [e] at ht; exact hne ht.symm
            have hvf : Lib.validD o = false := by
              rw [hr, validD_append _ out r (Nat.le_refl _) hv, Lib.validD_step r hrn, hdl]
              rfl
            show bad 1 = if Lib.validD o = true then _ else bad 1
            rw [hvf, if_neg (by decide)]
        · have hr : runeAt s p = Utf8.decode s p := by unfold runeAt; rw [if_neg hg]
          have h1 := decode_width_le hlt
          have h2 := Lib.decode_width_pos s p hlt
          rw [hr, if_neg (fun h => by rcases h with h | h <;> omega)]
          exact dev_tok f _ _ h1 (by rw [validD_append _ out _ (Nat.le_refl _) hv]; exact valid_char hlt hg)
      · rw [if_neg hq]
        rcases not_in hq with h39 | h10
        · have c : quote1 s p = true := by unfold quote1; exact decide_eq_true ⟨hlt, h39⟩
          have hqq : quotes s p = quote1 s (p + 1) := by
            unfold quotes quote1
            exact decide_eq_decide.2 ⟨fun ⟨a, _, b⟩ => ⟨a, b⟩, fun ⟨a, b⟩ => ⟨a, h39, b⟩⟩
          rw [if_pos h39, if_pos c, hqq]
          by_cases c2 : quote1 s (p + 1) = true
          · rw [if_pos c2, if_pos c2]
            have h2 : p + 2 ≤ s.size := by unfold quote1 at c2; have := of_decide_eq_true c2; omega
            exact dev_tok f _ _ h2 (by rw [validD_append _ out _ (Nat.le_refl _) hv]; decide)
          · rw [if_neg c2, if_neg c2]
            show _ = if Lib.validD out = true then _ else bad 1
            rw [if_pos hv]
        · rw [if_neg (by omega), if_pos (Or.inr h10), if_neg (fun c => by unfold quote1 at c; have := of_decide_eq_true c; omega)]
    · rw [if_neg hlt, if_neg hlt]

theorem tail_quotes {s : ByteArray} {i j : Nat} : quotes (s.extract i s.size) j = quotes s (i + j) := by
  unfold quotes
  by_cases h : i + j + 2 ≤ s.size
  · rw [tail_bt (by omega), tail_bt (by omega), tail_size]
    exact decide_eq_decide.2 ⟨fun ⟨_, b⟩ => ⟨h, b⟩, fun ⟨_, b⟩ => ⟨by omega, b⟩⟩
  · rw [decide_eq_false (fun hh => h (by have := hh.1; rw [tail_size] at this; omega)), decide_eq_false (fun hh => h hh.1)]

/-- What is read in the rest of a line from place i on, in the line's places. -/
def shiftG (i : Nat) (g : Got) : Got := if g.c = 0 then ⟨g.k, g.n, g.t, g.e + i, g.c⟩ else bad 1

theorem shift_bad (i : Nat) : shiftG i (bad 1) = bad 1 := by unfold shiftG; rw [if_neg (by simp [bad])]

/-- A text is read in the rest of a line as in the line. -/
theorem tok_tail {s : ByteArray} {i : Nat} : ∀ (f p : Nat) (out : List UInt8), textTok s f (i + p) out = shiftG i (textTok (s.extract i s.size) f p out)
  | 0, p, out => by rw [textTok, textTok, shift_bad]
  | f + 1, p, out => by
    rw [textTok, textTok]
    by_cases h : i + p < s.size
    · have hd : runeAt (s.extract i s.size) p = runeAt s (i + p) := by unfold runeAt; rw [tail_decode h]
      have h2 : p < (s.extract i s.size).size := by rw [tail_size]; omega
      rw [if_pos h, if_pos h2, tail_bt h, tail_quotes, hd]
      by_cases c1 : bt s (i + p) = 39
      · rw [if_pos c1, if_pos c1]
        by_cases c2 : quotes s (i + p) = true
        · rw [if_pos c2, if_pos c2]
          exact tok_tail f (p + 2) _
        · rw [if_neg c2, if_neg c2]
          unfold shiftG
          rw [if_pos rfl]
          simp only [Got.mk.injEq, true_and, and_true]
          omega
      · rw [if_neg c1, if_neg c1]
        by_cases c2 : (runeAt s (i + p)).2 = 0 ∨ bt s (i + p) = 10
        · rw [if_pos c2, if_pos c2, shift_bad]
        · rw [if_neg c2, if_neg c2]
          have hw : i + p + (runeAt s (i + p)).2 ≤ s.size := by
            by_cases hg : Utf8.decode s (i + p) = (65533, 1)
            · exact absurd (Or.inl (by rw [rune_none hg])) c2
            · have hr : runeAt s (i + p) = Utf8.decode s (i + p) := by unfold runeAt; rw [if_neg hg]
              rw [hr]
              exact decode_width_le h
          have hx : (s.extract i s.size).extract p (p + (runeAt s (i + p)).2) = s.extract (i + p) (i + p + (runeAt s (i + p)).2) := by
            refine ByteArray.ext (Array.toList_inj.1 ?_)
            rw [sub_list, tail_list, sub_list, List.drop_drop, Nat.add_sub_cancel_left, Nat.add_sub_cancel_left]
          rw [hx, Nat.add_assoc]
          exact tok_tail f _ _
    · have h2 : ¬ p < (s.extract i s.size).size := by rw [tail_size]; omega
      rw [if_neg h, if_neg h2, shift_bad]

end Go.Proofs.YtijamlgiinjikaaGreatDoor
