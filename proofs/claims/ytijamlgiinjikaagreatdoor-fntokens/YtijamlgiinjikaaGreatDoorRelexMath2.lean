import Derived.Test.YtijamlgiinjikaaGreatDoorRelexMath
namespace Go.Proofs.YtijamlgiinjikaaGreatDoor
open Go.RowKit

/-- A token that stands in a line is read again where it is written. -/
structure Again (k n : Int) (t x : ByteArray) : Prop where
  pos : 0 < x.size
  reads : ∀ (T : ByteArray) (i : Nat), Bs T i x.data.toList → Nx k T (i + x.size) → tokAt T i = ⟨k, n, t, i + x.size, 0⟩ ∧ remark T i = false ∧ ¬ (bt T i = 32 ∨ bt T i = 9)

theorem nx_no {k : Int} {T : ByteArray} {e : Nat} (h : Nx k T e) (hk : k = 1 ∨ k = 3) (q : Nat → Bool) (hq : ∀ b, q b = true → isLD b = true) : ¬ (e < T.size ∧ q (bt T e) = true) := by
  rintro ⟨h1, h2⟩
  rcases h with h | ⟨_, h, _⟩
  · omega
  · rw [hq _ h2] at h
    exact absurd (h hk) (by decide)

theorem nx_high {T : ByteArray} {e : Nat} (h : Nx 1 T e) : high T e = false := by
  rcases h with h | ⟨_, _, h, _⟩
  · unfold high
    exact decide_eq_false fun hh => by omega
  · exact h rfl

theorem ld_d (b : Nat) (h : isD b = true) : isLD b = true := by unfold isLD; rw [h, Bool.or_true]
theorem ld_l (b : Nat) (h : isL b = true) : isLD b = true := by unfold isLD; rw [h]; rfl

theorem again_num (n : Int) (hn : n.natAbs ≤ 1000000000000000) : Again 1 n ⟨#[]⟩ (bstr (numT n)) := by
  have hn19 : n.natAbs < 10 ^ 19 := by omega
  obtain ⟨hl, hz, f, hf, hlen, hbb, hh⟩ := numT_parts n hn19
  have hp := decZ_pos n.natAbs
  have hd := decZ_digit 19 n.natAbs hn19
  have hsz : (bstr (numT n)).size = f + (decZ n.natAbs).length := by rw [bstr_size]; exact hlen
  refine ⟨by omega, fun T i hb hx => ?_⟩
  have hxl : (bstr (numT n)).data.toList.length = (bstr (numT n)).size := by rw [← Lib.size_eq]
  have hbt : ∀ j, j < (bstr (numT n)).size → bt T (i + j) = bt (bstr (numT n)) j := fun j hj => by
    rw [hb.eq j (by omega), bt_data hj, List.getD_eq_getElem?_getD, List.getElem?_eq_getElem (by omega), Option.getD_some]
  have hle := hb.le
  rw [hxl] at hle
  obtain ⟨_, _, _, hst⟩ := num_starts n hn19
  generalize bstr (numT n) = x at *
  have hdig : ∀ j, j < (decZ n.natAbs).length → 48 ≤ bt T (i + f + j) ∧ bt T (i + f + j) ≤ 57 ∧ (bt T (i + f + j) : Int) = (decZ n.natAbs).getD j 0 := fun j hj => by
    have h1 := hbb j hj
    have h2 := hd _ (by
      have : (decZ n.natAbs).getD j 0 ∈ decZ n.natAbs := by
        rw [List.getD_eq_getElem?_getD, List.getElem?_eq_getElem hj]
        exact List.getElem_mem _
      exact this)
    have h3 := hbt (f + j) (by omega)
    rw [← Nat.add_assoc] at h3
    omega
  have hhT : high T i = true ↔ n < 0 := by
    rw [← hh]
    by_cases h0 : n < 0
    · have hx2 := hh.2 h0
      refine ⟨fun _ => hx2, fun _ => ?_⟩
      unfold high at hx2 ⊢
      have h5 := of_decide_eq_true hx2
      have g0 := hbt 0 (by omega)
      have g1 := hbt 1 (by omega)
      rw [Nat.add_zero] at g0
      exact decide_eq_true ⟨by omega, by omega, by rw [g1]; exact h5.2.2⟩
    · refine ⟨fun h => ?_, fun h => absurd (hh.1 h) h0⟩
      rw [if_neg h0] at hf
      subst hf
      have := hdig 0 (by omega)
      unfold high at h
      have h5 := of_decide_eq_true h
      rw [Nat.add_zero] at this
      omega
  have hfx : (if high T i = true then i + 2 else i) = i + f := by
    by_cases h0 : n < 0
    · rw [if_pos (hhT.2 h0), hf, if_pos h0]
    · rw [if_neg (fun h => h0 (hhT.1 h)), hf, if_neg h0]; rfl
  have he : endOf isD T (i + f) = i + x.size := by
    rw [hsz, ← Nat.add_assoc]
    refine endOf_is _ (i + f) (fun j hj => ⟨by omega, ?_⟩) ?_
    · unfold isD; have := hdig j hj; exact decide_eq_true ⟨this.1, this.2.1⟩
    · rw [Nat.add_assoc, ← hsz]; exact nx_no hx (.inl rfl) isD ld_d
  have hbad : ¬ (i + x.size = i + f ∨ (i + x.size < T.size ∧ isL (bt T (i + x.size)) = true) ∨ high T (i + x.size) = true) := by
    rintro (h | h | h)
    · omega
    · exact nx_no hx (.inl rfl) isL ld_l h
    · rw [nx_high hx] at h; cases h
  have hv : decV T (i + f) (i + x.size - (i + f)) = n.natAbs := by
    rw [show i + x.size - (i + f) = (decZ n.natAbs).length by omega]
    exact decV_dec 19 _ hn19 (fun j hj => (hdig j hj).2.2)
  have hfirst : isD (bt T i) = true ∨ high T i = true := by
    by_cases h0 : n < 0
    · exact .inr (hhT.2 h0)
    · left
      rw [if_neg h0] at hf
      subst hf
      have := hdig 0 (by omega)
      rw [Nat.add_zero] at this
      unfold isD
      exact decide_eq_true ⟨this.1, this.2.1⟩
  refine ⟨?_, ?_, ?_⟩
  · unfold tokAt
    rw [if_pos hfirst, numTok_ok hfx he hbad (by omega), hv]
    congr 1
    by_cases h0 : n < 0
    · rw [if_pos (hhT.2 h0)]; omega
    · rw [if_neg (fun h => h0 (hhT.1 h))]; omega
  · unfold remark
    refine decide_eq_false fun hh2 => ?_
    rcases hfirst with h | h
    · unfold isD at h; have := of_decide_eq_true h; omega
    · unfold high at h; have := of_decide_eq_true h; omega
  · intro hb2
    rcases hfirst with h | h
    · unfold isD at h; have := of_decide_eq_true h; omega
    · unfold high at h; have := of_decide_eq_true h; omega

theorem again_name {s : ByteArray} {p e : Nat} (hp : p < s.size) (hL : isL (bt s p) = true) (he : endOf isLD s p = e) (h20 : ¬ 20 < e - p) : Again 3 0 (s.extract p e) (s.extract p e) := by
  have h1 : p < e := by
    have h5 := endOf_go (p := isLD) hp (by unfold isLD; rw [hL]; rfl)
    have h6 := endOf_ge isLD s (p + 1)
    omega
  have h2 : e ≤ s.size := by rw [← he]; exact endOf_le isLD s p (by omega)
  have hsz : (s.extract p e).size = e - p := by rw [ByteArray.size_extract]; omega
  have hxb : ∀ j, j < e - p → bt (s.extract p e) j = bt s (p + j) := fun j hj => by
    rw [bt_data (by omega), bt_data (by omega), sub_list]
    simp only [List.getD_eq_getElem?_getD, List.getElem?_take, List.getElem?_drop]
    rw [if_pos hj]
  refine ⟨by omega, fun T i hb hx => ?_⟩
  have hxl : (s.extract p e).data.toList.length = e - p := by rw [← Lib.size_eq, hsz]
  have hbt : ∀ j, j < e - p → bt T (i + j) = bt s (p + j) := fun j hj => by
    rw [hb.eq j (by omega), ← hxb j hj, bt_data (by omega), List.getD_eq_getElem?_getD, List.getElem?_eq_getElem (by omega), Option.getD_some]
  have hle := hb.le
  have hsub := hb.sub
  rw [hxl] at hle hsub
  rw [hsz] at hx ⊢
  have hb0 : bt T i = bt s p := by have := hbt 0 (by omega); simpa using this
  have hend : endOf isLD T i = i + (e - p) := by
    refine endOf_is _ i (fun j hj => ⟨by omega, ?_⟩) (nx_no hx (.inr rfl) isLD fun _ h => h)
    rw [hbt j hj]
    exact (endOf_in (p := isLD) (s := s) (i := p) (k := p + j) (by omega) (by rw [he]; omega)).2
  have hLb := hL
  unfold isL at hLb
  have hLr : (97 ≤ bt s p ∧ bt s p ≤ 122) ∨ (65 ≤ bt s p ∧ bt s p ≤ 90) := by
    rcases Bool.or_eq_true _ _ ▸ hLb with h | h
    · exact .inl (of_decide_eq_true h)
    · exact .inr (of_decide_eq_true h)
  refine ⟨?_, ?_, by omega⟩
  · unfold tokAt
    rw [if_neg (by
      rintro (h | h)
      · unfold isD at h; have := of_decide_eq_true h; omega
      · unfold high at h; have := of_decide_eq_true h; omega), if_neg (by omega), if_pos (by rw [hb0]; exact hL)]
    unfold nameTok
    rw [hend, if_neg (by omega)]
    congr 1
    exact ByteArray.ext (Array.toList_inj.1 hsub)
  · unfold remark
    exact decide_eq_false fun hh => by omega

theorem signs_low : ∀ v ∈ signCs, v < 128 → isD v = false ∧ isL v = false ∧ v ≠ 39 ∧ v ≠ 32 ∧ v ≠ 9 := by decide
theorem signs_not : 175 ∉ signCs ∧ 9053 ∉ signCs := by decide

theorem again_sign {s : ByteArray} {p : Nat} (hp : p < s.size) (hg : Utf8.decode s p ≠ (65533, 1)) (hm : (Utf8.decode s p).1 ∈ signCs) : Again 4 0 (s.extract p (p + (Utf8.decode s p).2)) (s.extract p (p + (Utf8.decode s p).2)) := by
  have h1 := decode_width_le hp
  have h2 := Lib.decode_width_pos s p hp
  have hsz : (s.extract p (p + (Utf8.decode s p).2)).size = (Utf8.decode s p).2 := by rw [ByteArray.size_extract]; omega
  have hxl : (s.extract p (p + (Utf8.decode s p).2)).data.toList.length = (Utf8.decode s p).2 := by rw [← Lib.size_eq, hsz]
  refine ⟨by omega, fun T i hb hx => ?_⟩
  have hd := decode_bs hp hg hb
  have hsub := hb.sub
  have hle := hb.le
  rw [hxl] at hsub hle
  rw [hsz]
  have hiT : i < T.size := by omega
  have hrT : runeAt T i = Utf8.decode s p := by unfold runeAt; rw [hd, if_neg hg]
  have hlow : bt T i < 128 → isD (bt T i) = false ∧ isL (bt T i) = false ∧ bt T i ≠ 39 ∧ bt T i ≠ 32 ∧ bt T i ≠ 9 := fun h => by
    have e : (Utf8.decode T i).1 = bt T i := by rw [decode_is, if_pos h]
    have hm' : bt T i ∈ signCs := by rw [← e, hd]; exact hm
    exact signs_low _ hm' h
  have hcl : isD (bt T i) = false ∧ isL (bt T i) = false ∧ bt T i ≠ 39 ∧ bt T i ≠ 32 ∧ bt T i ≠ 9 := by
    by_cases h : bt T i < 128
    · exact hlow h
    · refine ⟨?_, ?_, by omega, by omega, by omega⟩
      · cases hh : isD (bt T i) with
        | false => rfl
        | true => exact absurd (isD_small _ hh) h
      · cases hh : isL (bt T i) with
        | false => rfl
        | true => exact absurd (isL_small _ hh) h
  refine ⟨?_, ?_, fun h => by rcases h with h | h; exact hcl.2.2.2.1 h; exact hcl.2.2.2.2 h⟩
  · unfold tokAt
    rw [if_neg (by
      rintro (h | h)
      · rw [hcl.1] at h; cases h
      · have := high_is.1 h; rw [hd] at this; rw [this] at hm; exact signs_not.1 hm), if_neg hcl.2.2.1, if_neg (by rw [hcl.2.1]; decide)]
    unfold signTok
    rw [hrT, if_pos ⟨h2, hm⟩]
    congr 1
    exact ByteArray.ext (Array.toList_inj.1 hsub)
  · cases h : remark T i with
    | false => rfl
    | true => have := remark_is.1 h; rw [hd] at this; rw [this] at hm; exact absurd hm signs_not.2

theorem again_text {s : ByteArray} {p : Nat} (hp : p < s.size) (hc : (textTok s (s.size - p) (p + 1) []).c = 0) :
    (textTok s (s.size - p) (p + 1) []).k = 2 ∧ (textTok s (s.size - p) (p + 1) []).n = 0 ∧ Again 2 0 (textTok s (s.size - p) (p + 1) []).t ⟨(quoteL (textTok s (s.size - p) (p + 1) []).t.data.toList).toArray⟩ ∧ (quoteL (textTok s (s.size - p) (p + 1) []).t.data.toList).length = (textTok s (s.size - p) (p + 1) []).e - p := by
  obtain ⟨a1, a2, r, a3, a4, a5⟩ := text_again (s.size - p) (p + 1) [] (by omega) hc
  refine ⟨a1, a2, ?_, ?_⟩
  · rw [a3]
    have hq : quoteL (ByteArray.mk ([] ++ r).toArray).data.toList = 39 :: (qd r ++ [39]) := rfl
    rw [hq]
    have hsz : (ByteArray.mk (39 :: (qd r ++ [39])).toArray).size = (qd r).length + 2 := by
      show (39 :: (qd r ++ [39])).toArray.size = _
      rw [List.size_toArray, List.length_cons, List.length_append]
      rfl
    refine ⟨by omega, fun T i hb hx => ?_⟩
    have hb' : Bs T i ([39] ++ (qd r ++ [39])) := hb
    have e0 := hb'.left.eq 0 (by simp)
    have hle := hb'.le
    have hrt := hb'.right
    simp only [List.length_append, List.length_cons, List.length_nil] at hle hrt
    have e0' : bt T i = 39 := by simpa using e0
    rw [hsz] at hx ⊢
    refine ⟨?_, ?_, by omega⟩
    · unfold tokAt
      rw [if_neg (by
        rintro (h | h)
        · unfold isD at h; have := of_decide_eq_true h; omega
        · unfold high at h; have := of_decide_eq_true h; omega), if_pos e0']
      rw [a5 T (i + 1) (T.size - i) [] hrt (by rw [show i + 1 + (qd r).length + 1 = i + ((qd r).length + 2) by omega]; exact hx) (by omega)]
      congr 1
      omega
    · unfold remark
      exact decide_eq_false fun hh => by omega
  · rw [a3, a4]
    show (39 :: (qd r ++ [39])).length = _
    rw [List.length_cons, List.length_append]
    simp only [List.length_cons, List.length_nil]
    omega

end Go.Proofs.YtijamlgiinjikaaGreatDoor
