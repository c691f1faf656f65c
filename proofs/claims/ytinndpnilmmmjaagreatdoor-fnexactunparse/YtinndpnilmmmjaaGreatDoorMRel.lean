import Derived.Test.YtinndpnilmmmjaaGreatDoorMTok
import Derived.Test.YtinndpnilmmmjaaGreatDoorMRe
namespace Go.Proofs.YtinndpnilmmmjaaGreatDoor
open Go.RowKit

/-- Each quote twice. -/
def qd (l : List UInt8) : List UInt8 := l.flatMap (fun b => if b = 39 then [39, 39] else [b])

theorem qd_len (l : List UInt8) : (qd l).length ≤ 2 * l.length ∧ l.length ≤ (qd l).length := by
  induction l with
  | nil => simp [qd]
  | cons b t ih =>
    unfold qd at ih ⊢
    rw [List.flatMap_cons, List.length_append]
    split <;> (simp only [List.length_cons, List.length_nil]; omega)

end Go.Proofs.YtinndpnilmmmjaaGreatDoor
namespace Go.Proofs.YtinndpnilmmmjaaGreatDoor
open Go.RowKit

/-- What is read again is the token. -/
def backB (k n : Int) (t : ByteArray) : List Tok × Int × Nat → Bool
  | ([y], c, _) => decide (c = 0) && decide (y.k = k) && decide (y.n = n) && decide (y.t = t)
  | _ => false

/-- A token's text. -/
def tokText (k n : Int) (t : ByteArray) : ByteArray := if backB k n t (lexT (spellT k n t)) = true then spellT k n t else ⟨#[]⟩

theorem backB_code {k n c : Int} {t : ByteArray} {ts : List Tok} {p : Nat} (h : c ≠ 0) : backB k n t (ts, c, p) = false := by
  unfold backB
  split
  · rename_i e
    cases e
    simp [h]
  · rfl

theorem backB_many {k n c : Int} {t : ByteArray} {ts : List Tok} {p : Nat} (h : ts.length ≠ 1) : backB k n t (ts, c, p) = false := by
  unfold backB
  split
  · rename_i e
    cases e
    simp at h
  · rfl

theorem bytes_ne {a b : ByteArray} (h : ¬ a = b) : (a.toList == b.toList) = false := by
  refine beq_eq_false_iff_ne.2 fun e => h ?_
  rw [Lib.toList_data, Lib.toList_data] at e
  exact ByteArray.ext (Array.toList_inj.1 e)

end Go.Proofs.YtinndpnilmmmjaaGreatDoor
namespace Go.Proofs.YtinndpnilmmmjaaGreatDoor
open Go.RowKit

/-- The bytes l stand in T from place i on. -/
structure Bs (T : ByteArray) (i : Nat) (l : List UInt8) : Prop where
  le : i + l.length ≤ T.size
  eq : ∀ j (h : j < l.length), bt T (i + j) = (l[j]).toNat

/-- Behind a token of kind k: the text's end, or what does not go on with it. -/
def Nx (k : Int) (T : ByteArray) (e : Nat) : Prop := e = T.size ∨ (e < T.size ∧ (k = 1 ∨ k = 3 → isLD (bt T e) = false) ∧ (k = 1 → high T e = false) ∧ (k = 2 → bt T e ≠ 39))

theorem nx_blank (k : Int) {T : ByteArray} {e : Nat} (h : e < T.size) (h32 : bt T e = 32) : Nx k T e := .inr ⟨h, fun _ => by rw [h32]; rfl, fun _ => by unfold high; exact decide_eq_false fun hh => by omega, fun _ => by omega⟩

theorem Bs.left {T : ByteArray} {i : Nat} {l m : List UInt8} (h : Bs T i (l ++ m)) : Bs T i l := by
  have h1 := h.le
  rw [List.length_append] at h1
  refine ⟨by omega, fun j hj => ?_⟩
  rw [h.eq j (by rw [List.length_append]; omega), List.getElem_append_left hj]

theorem Bs.right {T : ByteArray} {i : Nat} {l m : List UInt8} (h : Bs T i (l ++ m)) : Bs T (i + l.length) m := by
  have h1 := h.le
  rw [List.length_append] at h1
  refine ⟨by omega, fun j hj => ?_⟩
  rw [Nat.add_assoc, h.eq (l.length + j) (by rw [List.length_append]; omega), List.getElem_append_right (by omega)]
  simp

theorem Bs.sub {T : ByteArray} {i : Nat} {l : List UInt8} (h : Bs T i l) : (T.extract i (i + l.length)).data.toList = l := by
  have h1 := h.le
  rw [sub_list, Nat.add_sub_cancel_left]
  apply List.ext_getElem?
  intro j
  by_cases hj : j < l.length
  · have hl : i + j < T.data.toList.length := by rw [← Lib.size_eq]; omega
    rw [List.getElem?_take, if_pos hj, List.getElem?_drop, List.getElem?_eq_getElem hl, List.getElem?_eq_getElem hj]
    have := h.eq j hj
    rw [bt_data (by omega), List.getD_eq_getElem?_getD, List.getElem?_eq_getElem hl, Option.getD_some] at this
    rw [UInt8.toNat_inj.1 this]
  · rw [List.getElem?_eq_none (by rw [List.length_take]; omega), List.getElem?_eq_none (by omega)]

theorem Bs.self (x : ByteArray) : Bs x 0 x.data.toList := by
  refine ⟨by rw [← Lib.size_eq]; omega, fun j hj => ?_⟩
  have : j < x.size := by rw [Lib.size_eq]; exact hj
  rw [Nat.zero_add, bt_data this, List.getD_eq_getElem?_getD, List.getElem?_eq_getElem hj, Option.getD_some]

/-- A character stands where its bytes stand. -/
theorem decode_bs {s T : ByteArray} {k i : Nat} (hk : k < s.size) (hg : Utf8.decode s k ≠ (65533, 1)) (h : Bs T i (s.extract k (k + (Utf8.decode s k).2)).data.toList) : Utf8.decode T i = Utf8.decode s k := by
  have h1 := decode_width_le hk
  have h2 := Lib.decode_width_pos s k hk
  obtain ⟨n, hn⟩ : ∃ n, (Utf8.decode s k).2 = n := ⟨_, rfl⟩
  rw [hn] at h1 h2 h
  have hlen : (s.extract k (k + n)).data.toList.length = n := by rw [sub_list, List.length_take, List.length_drop, ← Lib.size_eq]; omega
  have hxb : ∀ j, j < n → bt (s.extract k (k + n)) j = bt s (k + j) := fun j hj => by
    have hs : j < (s.extract k (k + n)).size := by rw [Lib.size_eq, hlen]; exact hj
    rw [bt_data hs, bt_data (by omega), sub_list]
    simp only [List.getD_eq_getElem?_getD, List.getElem?_take, List.getElem?_drop]
    rw [if_pos (by omega)]
  have hsz : (s.extract k (k + n)).size = n := by rw [Lib.size_eq]; exact hlen
  have hc : Utf8.decode (s.extract k (k + n)) 0 = Utf8.decode s k := decode_cut hn h2 hsz (fun j hj => ⟨by omega, hxb j hj⟩) hg
  rw [← hc]
  refine decode_longer (by omega) (fun j hj => ?_) (by rw [hc]; exact hg)
  rw [Nat.zero_add] at hj ⊢
  have hle := h.le
  have he := h.eq j (by omega)
  refine ⟨by omega, ?_⟩
  rw [he, bt_data (by omega), List.getD_eq_getElem?_getD, List.getElem?_eq_getElem (by omega), Option.getD_some]

/-- No byte of a character is a quote but the quote. -/
theorem char_noq {s : ByteArray} {k : Nat} (hk : k < s.size) (h39 : bt s k ≠ 39) (hg : Utf8.decode s k ≠ (65533, 1)) : qd (s.extract k (k + (Utf8.decode s k).2)).data.toList = (s.extract k (k + (Utf8.decode s k).2)).data.toList := by
  have h1 := decode_width_le hk
  have key : ∀ j, j < (Utf8.decode s k).2 → bt s (k + j) ≠ 39 := by
    have hd := decode_is s k
    by_cases c0 : bt s k < 128
    · rw [if_pos c0] at hd
      intro j hj
      rw [hd] at hj
      have : j = 0 := by simp at hj; omega
      subst this
      exact h39
    · intro j hj
      by_cases hj0 : j = 0
      · subst hj0; exact h39
      rw [if_neg c0] at hd
      by_cases c1 : bt s k / 32 = 6 ∧ tl s (k + 1) = true
      · have t1 := tl_bd c1.2
        rw [if_pos c1] at hd
        have hw : (Utf8.decode s k).2 ≤ 2 := by rw [hd]; split <;> simp
        obtain rfl : j = 1 := by omega
        omega
      · rw [if_neg c1] at hd
        by_cases c2 : bt s k / 16 = 14 ∧ tl s (k + 1) = true ∧ tl s (k + 2) = true
        · have t1 := tl_bd c2.2.1
          have t2 := tl_bd c2.2.2
          rw [if_pos c2] at hd
          have hw : (Utf8.decode s k).2 ≤ 3 := by rw [hd]; split <;> simp
          rcases (by omega : j = 1 ∨ j = 2) with rfl | rfl <;> omega
        · rw [if_neg c2] at hd
          by_cases c3 : bt s k / 8 = 30 ∧ tl s (k + 1) = true ∧ tl s (k + 2) = true ∧ tl s (k + 3) = true
          · have t1 := tl_bd c3.2.1
            have t2 := tl_bd c3.2.2.1
            have t3 := tl_bd c3.2.2.2
            rw [if_pos c3] at hd
            have hw : (Utf8.decode s k).2 ≤ 4 := by rw [hd]; split <;> simp
            rcases (by omega : j = 1 ∨ j = 2 ∨ j = 3) with rfl | rfl | rfl <;> omega
          · rw [if_neg c3] at hd
            exact absurd hd hg
  have hall : ∀ b ∈ (s.extract k (k + (Utf8.decode s k).2)).data.toList, b ≠ 39 := by
    intro b hb e
    obtain ⟨j, hj⟩ := List.mem_iff_getElem?.1 hb
    rw [sub_list, List.getElem?_take] at hj
    split at hj
    · rename_i hjw
      have hl : k + j < s.data.toList.length := by rw [← Lib.size_eq]; omega
      rw [List.getElem?_drop, List.getElem?_eq_getElem hl] at hj
      have h2 := key j (by omega)
      rw [bt_data (by omega), List.getD_eq_getElem?_getD, List.getElem?_eq_getElem hl, Option.getD_some] at h2
      rw [Option.some.inj hj, e] at h2
      exact h2 rfl
    · cases hj
  generalize (s.extract k (k + (Utf8.decode s k).2)).data.toList = l at hall
  induction l with
  | nil => rfl
  | cons b r ih =>
    unfold qd at ih ⊢
    rw [List.flatMap_cons, if_neg (hall b (by simp)), ih (fun c hc => hall c (by simp [hc]))]
    rfl

theorem qd_app (l m : List UInt8) : qd (l ++ m) = qd l ++ qd m := by unfold qd; rw [List.flatMap_append]

/-- What was read as a text is read again where it is written. -/
theorem text_again {s : ByteArray} : ∀ (F k : Nat) (out : List UInt8), k ≤ s.size → (textTok s F k out).c = 0 →
    (textTok s F k out).k = 2 ∧ (textTok s F k out).n = 0 ∧ ∃ r, (textTok s F k out).t = ⟨(out ++ r).toArray⟩ ∧ (textTok s F k out).e = k + (qd r).length + 1 ∧
      ∀ (T : ByteArray) (i G : Nat) (o : List UInt8), Bs T i (qd r ++ [39]) → Nx 2 T (i + (qd r).length + 1) → T.size - i < G → textTok T G i o = ⟨2, 0, ⟨(o ++ r).toArray⟩, i + (qd r).length + 1, 0⟩
  | 0, k, out, _, h => by rw [textTok] at h; simp [bad] at h
  | F + 1, k, out, hk, h => by
    rw [textTok] at h ⊢
    by_cases h1 : k < s.size
    · rw [if_pos h1] at h ⊢
      by_cases h2 : bt s k = 39
      · rw [if_pos h2] at h ⊢
        by_cases h3 : quotes s k = true
        · rw [if_pos h3] at h ⊢
          have hq := of_decide_eq_true h3
          obtain ⟨a1, a2, r, a3, a4, a5⟩ := text_again F (k + 2) (out ++ [39]) (by omega) h
          refine ⟨a1, a2, 39 :: r, by rw [a3, List.append_assoc]; rfl, ?_, fun T i G o hb hn hG => ?_⟩
          · rw [a4]
            show k + 2 + (qd r).length + 1 = k + (39 :: 39 :: qd r).length + 1
            simp only [List.length_cons]
            omega
          · have hb' : Bs T i ([39, 39] ++ (qd r ++ [39])) := hb
            have e0 := hb'.left.eq 0 (by simp)
            have e1 := hb'.left.eq 1 (by simp)
            have hle := hb'.le
            simp at e0 e1 hle
            have hr := hb'.right
            simp only [List.length_cons, List.length_nil] at hr
            have hn' : Nx 2 T (i + 2 + (qd r).length + 1) := by
              have : i + (qd (39 :: r)).length + 1 = i + 2 + (qd r).length + 1 := by
                show i + (39 :: 39 :: qd r).length + 1 = _
                simp only [List.length_cons]
                omega
              rw [this] at hn
              exact hn
            cases G with
            | zero => omega
            | succ G =>
              rw [textTok, if_pos (by omega), if_pos (by rw [← Nat.add_zero i]; exact e0), if_pos (by unfold quotes; exact decide_eq_true ⟨by omega, by rw [← Nat.add_zero i]; exact e0, e1⟩)]
              rw [a5 T (i + 2) G (o ++ [39]) hr hn' (by omega), List.append_assoc]
              congr 1
              show i + 2 + (qd r).length + 1 = i + (39 :: 39 :: qd r).length + 1
              simp only [List.length_cons]
              omega
        · rw [if_neg h3]
          refine ⟨rfl, rfl, [], by simp, rfl, fun T i G o hb hn hG => ?_⟩
          have hle := hb.le
          have e0 := hb.eq 0 (by simp [qd])
          have hn' : Nx 2 T (i + 1) := hn
          simp [qd] at hle e0
          have hnq : quotes T i = false := by
            unfold quotes
            refine decide_eq_false fun hh => ?_
            rcases hn' with hn | ⟨_, _, _, hn⟩
            · omega
            · exact hn rfl hh.2.2
          cases G with
          | zero => omega
          | succ G =>
            rw [textTok, if_pos (by omega), if_pos e0, if_neg (by rw [hnq]; decide)]
            simp [qd]
      · rw [if_neg h2] at h ⊢
        by_cases h3 : (runeAt s k).2 = 0 ∨ bt s k = 10
        · rw [if_pos h3] at h; simp [bad] at h
        · rw [if_neg h3] at h ⊢
          have hg : Utf8.decode s k ≠ (65533, 1) := fun e => h3 (.inl (by rw [rune_none e]))
          have hr : runeAt s k = Utf8.decode s k := by unfold runeAt; rw [if_neg hg]
          rw [hr] at h h3 ⊢
          have hw1 := decode_width_le h1
          have hw2 := Lib.decode_width_pos s k h1
          obtain ⟨a1, a2, r, a3, a4, a5⟩ := text_again F (k + (Utf8.decode s k).2) _ hw1 h
          have hlen : (s.extract k (k + (Utf8.decode s k).2)).data.toList.length = (Utf8.decode s k).2 := by rw [sub_list, List.length_take, List.length_drop, ← Lib.size_eq]; omega
          have hqd : qd ((s.extract k (k + (Utf8.decode s k).2)).data.toList ++ r) = (s.extract k (k + (Utf8.decode s k).2)).data.toList ++ qd r := by rw [qd_app, char_noq h1 h2 hg]
          refine ⟨a1, a2, (s.extract k (k + (Utf8.decode s k).2)).data.toList ++ r, by rw [a3, List.append_assoc], ?_, fun T i G o hb hn hG => ?_⟩
          · rw [a4, hqd, List.length_append, hlen]
            omega
          · rw [hqd, List.append_assoc] at hb
            rw [hqd, List.length_append, hlen] at hn ⊢
            have hdT := decode_bs h1 hg hb.left
            have hle := hb.le
            have hrt := hb.right
            have hsub := hb.left.sub
            have e0 := hb.left.eq 0 (by omega)
            rw [hlen] at hrt hsub
            rw [List.length_append, hlen, List.length_append] at hle
            have hb0 : bt T i = bt s k := by
              rw [Nat.add_zero] at e0
              rw [e0]
              have hl : k < s.data.toList.length := by rw [← Lib.size_eq]; exact h1
              rw [bt_data h1, List.getD_eq_getElem?_getD, List.getElem?_eq_getElem hl, Option.getD_some]
              congr 1
              simp only [sub_list, List.getElem_take, List.getElem_drop, Nat.add_zero]
            have hrT : runeAt T i = Utf8.decode s k := by unfold runeAt; rw [hdT, if_neg hg]
            simp only [List.length_cons, List.length_nil] at hle
            cases G with
            | zero => omega
            | succ G =>
              rw [textTok, if_pos (by omega), if_neg (by rw [hb0]; exact h2), hrT, if_neg (by rw [hb0]; exact h3), hsub]
              rw [a5 T (i + (Utf8.decode s k).2) G _ hrt (by rw [show i + (Utf8.decode s k).2 + (qd r).length + 1 = i + ((Utf8.decode s k).2 + (qd r).length) + 1 by omega]; exact hn) (by omega), List.append_assoc]
              congr 1
              omega
    · rw [if_neg h1] at h; simp [bad] at h

end Go.Proofs.YtinndpnilmmmjaaGreatDoor
namespace Go.Proofs.YtinndpnilmmmjaaGreatDoor
open Go.RowKit

/-- A token that stands in a line is read again where it is written. -/
structure Again (k n : Int) (t x : ByteArray) : Prop where
  pos : 0 < x.size
  reads : ∀ (T : ByteArray) (i : Nat), Bs T i x.data.toList → Nx k T (i + x.size) → tokAt T i = ⟨k, n, t, i + x.size, 0⟩ ∧ remark T i = false ∧ ¬ (bt T i = 32 ∨ bt T i = 9)

theorem nx_no {k : Int} {T : ByteArray} {e : Nat} (h : Nx k T e) (hk : k = 1 ∨ k = 3) (q : Nat → Bool) (hq : ∀ b, q b = true → isLD b = true) : ¬ (e < T.size ∧ q (bt T e) = true) := by
  rintro ⟨h1, h2⟩
  rcases h with h | ⟨_, h, _⟩
  · omega
  · rw [hq _ h2] at h
    exact absurd (h hk) (by decide)

theorem nx_high {T : ByteArray} {e : Nat} (h : Nx 1 T e) : high T e = false := by
  rcases h with h | ⟨_, _, h, _⟩
  · unfold high
    exact decide_eq_false fun hh => by omega
  · exact h rfl

theorem ld_d (b : Nat) (h : isD b = true) : isLD b = true := by unfold isLD; rw [h, Bool.or_true]
theorem ld_l (b : Nat) (h : isL b = true) : isLD b = true := by unfold isLD; rw [h]; rfl

theorem again_num (n : Int) (hn : n.natAbs ≤ 1000000000000000) : Again 1 n ⟨#[]⟩ (bstr (numT n)) := by
  have hn19 : n.natAbs < 10 ^ 19 := by omega
  obtain ⟨hl, hz, f, hf, hlen, hbb, hh⟩ := numT_parts n hn19
  have hp := decZ_pos n.natAbs
  have hd := decZ_digit 19 n.natAbs hn19
  have hsz : (bstr (numT n)).size = f + (decZ n.natAbs).length := by rw [bstr_size]; exact hlen
  refine ⟨by omega, fun T i hb hx => ?_⟩
  have hxl : (bstr (numT n)).data.toList.length = (bstr (numT n)).size := by rw [← Lib.size_eq]
  have hbt : ∀ j, j < (bstr (numT n)).size → bt T (i + j) = bt (bstr (numT n)) j := fun j hj => by
    rw [hb.eq j (by omega), bt_data hj, List.getD_eq_getElem?_getD, List.getElem?_eq_getElem (by omega), Option.getD_some]
  have hle := hb.le
  rw [hxl] at hle
  obtain ⟨_, _, _, hst⟩ := num_starts n hn19
  generalize bstr (numT n) = x at *
  have hdig : ∀ j, j < (decZ n.natAbs).length → 48 ≤ bt T (i + f + j) ∧ bt T (i + f + j) ≤ 57 ∧ (bt T (i + f + j) : Int) = (decZ n.natAbs).getD j 0 := fun j hj => by
    have h1 := hbb j hj
    have h2 := hd _ (by
      have : (decZ n.natAbs).getD j 0 ∈ decZ n.natAbs := by
        rw [List.getD_eq_getElem?_getD, List.getElem?_eq_getElem hj]
        exact List.getElem_mem _
      exact this)
    have h3 := hbt (f + j) (by omega)
    rw [← Nat.add_assoc] at h3
    omega
  have hhT : high T i = true ↔ n < 0 := by
    rw [← hh]
    by_cases h0 : n < 0
    · have hx2 := hh.2 h0
      refine ⟨fun _ => hx2, fun _ => ?_⟩
      unfold high at hx2 ⊢
      have h5 := of_decide_eq_true hx2
      have g0 := hbt 0 (by omega)
      have g1 := hbt 1 (by omega)
      rw [Nat.add_zero] at g0
      exact decide_eq_true ⟨by omega, by omega, by rw [g1]; exact h5.2.2⟩
    · refine ⟨fun h => ?_, fun h => absurd (hh.1 h) h0⟩
      rw [if_neg h0] at hf
      subst hf
      have := hdig 0 (by omega)
      unfold high at h
      have h5 := of_decide_eq_true h
      rw [Nat.add_zero] at this
      omega
  have hfx : (if high T i = true then i + 2 else i) = i + f := by
    by_cases h0 : n < 0
    · rw [if_pos (hhT.2 h0), hf, if_pos h0]
    · rw [if_neg (fun h => h0 (hhT.1 h)), hf, if_neg h0]; rfl
  have he : endOf isD T (i + f) = i + x.size := by
    rw [hsz, ← Nat.add_assoc]
    refine endOf_is _ (i + f) (fun j hj => ⟨by omega, ?_⟩) ?_
    · unfold isD; have := hdig j hj; exact decide_eq_true ⟨this.1, this.2.1⟩
    · rw [Nat.add_assoc, ← hsz]; exact nx_no hx (.inl rfl) isD ld_d
  have hbad : ¬ (i + x.size = i + f ∨ (i + x.size < T.size ∧ isL (bt T (i + x.size)) = true) ∨ high T (i + x.size) = true) := by
    rintro (h | h | h)
    · omega
    · exact nx_no hx (.inl rfl) isL ld_l h
    · rw [nx_high hx] at h; cases h
  have hv : decV T (i + f) (i + x.size - (i + f)) = n.natAbs := by
    rw [show i + x.size - (i + f) = (decZ n.natAbs).length by omega]
    exact decV_dec 19 _ hn19 (fun j hj => (hdig j hj).2.2)
  have hfirst : isD (bt T i) = true ∨ high T i = true := by
    by_cases h0 : n < 0
    · exact .inr (hhT.2 h0)
    · left
      rw [if_neg h0] at hf
      subst hf
      have := hdig 0 (by omega)
      rw [Nat.add_zero] at this
      unfold isD
      exact decide_eq_true ⟨this.1, this.2.1⟩
  refine ⟨?_, ?_, ?_⟩
  · unfold tokAt
    rw [if_pos hfirst, numTok_ok hfx he hbad (by omega), hv]
    congr 1
    by_cases h0 : n < 0
    · rw [if_pos (hhT.2 h0)]; omega
    · rw [if_neg (fun h => h0 (hhT.1 h))]; omega
  · unfold remark
    refine decide_eq_false fun hh2 => ?_
    rcases hfirst with h | h
    · unfold isD at h; have := of_decide_eq_true h; omega
    · unfold high at h; have := of_decide_eq_true h; omega
  · intro hb2
    rcases hfirst with h | h
    · unfold isD at h; have := of_decide_eq_true h; omega
    · unfold high at h; have := of_decide_eq_true h; omega

theorem again_name {s : ByteArray} {p e : Nat} (hp : p < s.size) (hL : isL (bt s p) = true) (he : endOf isLD s p = e) (h20 : ¬ 20 < e - p) : Again 3 0 (s.extract p e) (s.extract p e) := by
  have h1 : p < e := by
    have h5 := endOf_go (p := isLD) hp (by unfold isLD; rw [hL]; rfl)
    have h6 := endOf_ge isLD s (p + 1)
    omega
  have h2 : e ≤ s.size := by rw [← he]; exact endOf_le isLD s p (by omega)
  have hsz : (s.extract p e).size = e - p := by rw [ByteArray.size_extract]; omega
  have hxb : ∀ j, j < e - p → bt (s.extract p e) j = bt s (p + j) := fun j hj => by
    rw [bt_data (by omega), bt_data (by omega), sub_list]
    simp only [List.getD_eq_getElem?_getD, List.getElem?_take, List.getElem?_drop]
    rw [if_pos hj]
  refine ⟨by omega, fun T i hb hx => ?_⟩
  have hxl : (s.extract p e).data.toList.length = e - p := by rw [← Lib.size_eq, hsz]
  have hbt : ∀ j, j < e - p → bt T (i + j) = bt s (p + j) := fun j hj => by
    rw [hb.eq j (by omega), ← hxb j hj, bt_data (by omega), List.getD_eq_getElem?_getD, List.getElem?_eq_getElem (by omega), Option.getD_some]
  have hle := hb.le
  have hsub := hb.sub
  rw [hxl] at hle hsub
  rw [hsz] at hx ⊢
  have hb0 : bt T i = bt s p := by have := hbt 0 (by omega); simpa using this
  have hend : endOf isLD T i = i + (e - p) := by
    refine endOf_is _ i (fun j hj => ⟨by omega, ?_⟩) (nx_no hx (.inr rfl) isLD fun _ h => h)
    rw [hbt j hj]
    exact (endOf_in (p := isLD) (s := s) (i := p) (k := p + j) (by omega) (by rw [he]; omega)).2
  have hLb := hL
  unfold isL at hLb
  have hLr : (97 ≤ bt s p ∧ bt s p ≤ 122) ∨ (65 ≤ bt s p ∧ bt s p ≤ 90) := by
    rcases Bool.or_eq_true _ _ ▸ hLb with h | h
    · exact .inl (of_decide_eq_true h)
    · exact .inr (of_decide_eq_true h)
  refine ⟨?_, ?_, by omega⟩
  · unfold tokAt
    rw [if_neg (by
      rintro (h | h)
      · unfold isD at h; have := of_decide_eq_true h; omega
      · unfold high at h; have := of_decide_eq_true h; omega), if_neg (by omega), if_pos (by rw [hb0]; exact hL)]
    unfold nameTok
    rw [hend, if_neg (by omega)]
    congr 1
    exact ByteArray.ext (Array.toList_inj.1 hsub)
  · unfold remark
    exact decide_eq_false fun hh => by omega

theorem signs_low : ∀ v ∈ signCs, v < 128 → isD v = false ∧ isL v = false ∧ v ≠ 39 ∧ v ≠ 32 ∧ v ≠ 9 := by decide
theorem signs_not : 175 ∉ signCs ∧ 9053 ∉ signCs := by decide

theorem again_sign {s : ByteArray} {p : Nat} (hp : p < s.size) (hg : Utf8.decode s p ≠ (65533, 1)) (hm : (Utf8.decode s p).1 ∈ signCs) : Again 4 0 (s.extract p (p + (Utf8.decode s p).2)) (s.extract p (p + (Utf8.decode s p).2)) := by
  have h1 := decode_width_le hp
  have h2 := Lib.decode_width_pos s p hp
  have hsz : (s.extract p (p + (Utf8.decode s p).2)).size = (Utf8.decode s p).2 := by rw [ByteArray.size_extract]; omega
  have hxl : (s.extract p (p + (Utf8.decode s p).2)).data.toList.length = (Utf8.decode s p).2 := by rw [← Lib.size_eq, hsz]
  refine ⟨by omega, fun T i hb hx => ?_⟩
  have hd := decode_bs hp hg hb
  have hsub := hb.sub
  have hle := hb.le
  rw [hxl] at hsub hle
  rw [hsz]
  have hiT : i < T.size := by omega
  have hrT : runeAt T i = Utf8.decode s p := by unfold runeAt; rw [hd, if_neg hg]
  have hlow : bt T i < 128 → isD (bt T i) = false ∧ isL (bt T i) = false ∧ bt T i ≠ 39 ∧ bt T i ≠ 32 ∧ bt T i ≠ 9 := fun h => by
    have e : (Utf8.decode T i).1 = bt T i := by rw [decode_is, if_pos h]
    have hm' : bt T i ∈ signCs := by rw [← e, hd]; exact hm
    exact signs_low _ hm' h
  have hcl : isD (bt T i) = false ∧ isL (bt T i) = false ∧ bt T i ≠ 39 ∧ bt T i ≠ 32 ∧ bt T i ≠ 9 := by
    by_cases h : bt T i < 128
    · exact hlow h
    · refine ⟨?_, ?_, by omega, by omega, by omega⟩
      · cases hh : isD (bt T i) with
        | false => rfl
        | true => exact absurd (isD_small _ hh) h
      · cases hh : isL (bt T i) with
        | false => rfl
        | true => exact absurd (isL_small _ hh) h
  refine ⟨?_, ?_, fun h => by rcases h with h | h; exact hcl.2.2.2.1 h; exact hcl.2.2.2.2 h⟩
  · unfold tokAt
    rw [if_neg (by
      rintro (h | h)
      · rw [hcl.1] at h; cases h
      · have := high_is.1 h; rw [hd] at this; rw [this] at hm; exact signs_not.1 hm), if_neg hcl.2.2.1, if_neg (by rw [hcl.2.1]; decide)]
    unfold signTok
    rw [hrT, if_pos ⟨h2, hm⟩]
    congr 1
    exact ByteArray.ext (Array.toList_inj.1 hsub)
  · cases h : remark T i with
    | false => rfl
    | true => have := remark_is.1 h; rw [hd] at this; rw [this] at hm; exact absurd hm signs_not.2

theorem again_text {s : ByteArray} {p : Nat} (hp : p < s.size) (hc : (textTok s (s.size - p) (p + 1) []).c = 0) :
    (textTok s (s.size - p) (p + 1) []).k = 2 ∧ (textTok s (s.size - p) (p + 1) []).n = 0 ∧ Again 2 0 (textTok s (s.size - p) (p + 1) []).t ⟨(quoteL (textTok s (s.size - p) (p + 1) []).t.data.toList).toArray⟩ ∧ (quoteL (textTok s (s.size - p) (p + 1) []).t.data.toList).length = (textTok s (s.size - p) (p + 1) []).e - p := by
  obtain ⟨a1, a2, r, a3, a4, a5⟩ := text_again (s.size - p) (p + 1) [] (by omega) hc
  refine ⟨a1, a2, ?_, ?_⟩
  · rw [a3]
    have hq : quoteL (ByteArray.mk ([] ++ r).toArray).data.toList = 39 :: (qd r ++ [39]) := rfl
    rw [hq]
    have hsz : (ByteArray.mk (39 :: (qd r ++ [39])).toArray).size = (qd r).length + 2 := by
      show (39 :: (qd r ++ [39])).toArray.size = _
      rw [List.size_toArray, List.length_cons, List.length_append]
      rfl
    refine ⟨by omega, fun T i hb hx => ?_⟩
    have hb' : Bs T i ([39] ++ (qd r ++ [39])) := hb
    have e0 := hb'.left.eq 0 (by simp)
    have hle := hb'.le
    have hrt := hb'.right
    simp only [List.length_append, List.length_cons, List.length_nil] at hle hrt
    have e0' : bt T i = 39 := by simpa using e0
    rw [hsz] at hx ⊢
    refine ⟨?_, ?_, by omega⟩
    · unfold tokAt
      rw [if_neg (by
        rintro (h | h)
        · unfold isD at h; have := of_decide_eq_true h; omega
        · unfold high at h; have := of_decide_eq_true h; omega), if_pos e0']
      rw [a5 T (i + 1) (T.size - i) [] hrt (by rw [show i + 1 + (qd r).length + 1 = i + ((qd r).length + 2) by omega]; exact hx) (by omega)]
      congr 1
      omega
    · unfold remark
      exact decide_eq_false fun hh => by omega
  · rw [a3, a4]
    show (39 :: (qd r ++ [39])).length = _
    rw [List.length_cons, List.length_append]
    simp only [List.length_cons, List.length_nil]
    omega

end Go.Proofs.YtinndpnilmmmjaaGreatDoor
namespace Go.Proofs.YtinndpnilmmmjaaGreatDoor
open Go.RowKit

/-- A token of a line is read again where it is spelled; its spelling is no longer than it was. -/
theorem tok_again {s : ByteArray} {p : Nat} (hp : p < s.size) (hc : (tokAt s p).c = 0) : Again (tokAt s p).k (tokAt s p).n (tokAt s p).t (spellT (tokAt s p).k (tokAt s p).n (tokAt s p).t) ∧ (spellT (tokAt s p).k (tokAt s p).n (tokAt s p).t).size ≤ s.size ∧ (tokAt s p).n.natAbs ≤ 1000000000000000 ∧ (tokAt s p).t.size ≤ s.size := by
  have hend := tok_end hp hc
  unfold tokAt at hc hend ⊢
  by_cases h1 : isD (bt s p) = true ∨ high s p = true
  · rw [if_pos h1] at hc hend ⊢
    obtain ⟨f, hf⟩ : ∃ f, (if high s p = true then p + 2 else p) = f := ⟨_, rfl⟩
    have hfp : p ≤ f ∧ f ≤ s.size ∧ (high s p = true → f = p + 2) := by
      rw [← hf]
      split
      · rename_i h'; have := of_decide_eq_true h'; exact ⟨by omega, by omega, fun _ => rfl⟩
      · rename_i h'; exact ⟨by omega, by omega, fun h => absurd h h'⟩
    obtain ⟨e, he⟩ : ∃ e, endOf isD s f = e := ⟨_, rfl⟩
    have he1 := endOf_ge isD s f
    have he2 := endOf_le isD s f hfp.2.1
    rw [he] at he1 he2
    by_cases hb : e = f ∨ (e < s.size ∧ isL (bt s e) = true) ∨ high s e = true
    · rw [numTok_bad hf he hb] at hc; simp [bad] at hc
    · by_cases hv : 1000000000000000 < decV s f (e - f)
      · rw [numTok_big hf he hb hv] at hc; simp [bad] at hc
      · rw [numTok_ok hf he hb hv]
        show Again 1 (if high s p = true then -(decV s f (e - f) : Int) else (decV s f (e - f) : Int)) ⟨#[]⟩ (spellT 1 (if high s p = true then -(decV s f (e - f) : Int) else (decV s f (e - f) : Int)) ⟨#[]⟩) ∧ (spellT 1 (if high s p = true then -(decV s f (e - f) : Int) else (decV s f (e - f) : Int)) ⟨#[]⟩).size ≤ s.size ∧ (if high s p = true then -(decV s f (e - f) : Int) else (decV s f (e - f) : Int)).natAbs ≤ 1000000000000000 ∧ (ByteArray.mk #[]).size ≤ s.size
        obtain ⟨z, hz⟩ : ∃ z : Int, (if high s p = true then -(decV s f (e - f) : Int) else (decV s f (e - f) : Int)) = z := ⟨_, rfl⟩
        have hza : z.natAbs = decV s f (e - f) := by rw [← hz]; split <;> omega
        rw [hz]
        have hsp : spellT 1 z ⟨#[]⟩ = bstr (numT z) := rfl
        rw [hsp]
        refine ⟨again_num z (by omega), ?_, by omega, Nat.zero_le _⟩
        rw [bstr_size]
        -- digits of the value are no more than the digits read
        have hlen : (decZ (decV s f (e - f))).length ≤ e - f := by
          have hlt : ∀ k, (∀ j, j < k → isD (bt s (f + j)) = true) → decV s f k < 10 ^ k := by
            intro k
            induction k with
            | zero => intro _; simp [decV]
            | succ k ih =>
              intro hj
              have h9 := hj k (by omega)
              unfold isD at h9
              have h9' := of_decide_eq_true h9
              have := ih (fun j hjk => hj j (by omega))
              rw [decV, Nat.pow_succ]
              omega
          have hall : ∀ j, j < e - f → isD (bt s (f + j)) = true := fun j hj => (endOf_in (p := isD) (s := s) (i := f) (k := f + j) (by omega) (by rw [he]; omega)).2
          have h2 := hlt (e - f) hall
          obtain ⟨m, hm⟩ : ∃ m, e - f = m + 1 := ⟨e - f - 1, by omega⟩
          rw [hm] at h2 ⊢
          exact decZ_le m _ h2
        have hzl : (numT z).length ≤ (if high s p = true then 2 else 0) + (decZ (decV s f (e - f))).length := by
          unfold numT
          rw [hza]
          by_cases h0 : z < 0
          · have hhi : high s p = true := by
              cases hh : high s p with
              | true => rfl
              | false => rw [hh, if_neg (by decide)] at hz; omega
            rw [if_pos h0, if_pos hhi, List.length_append]
            simp
          · rw [if_neg h0]
            simp
        by_cases hhi : high s p = true
        · rw [if_pos hhi] at hzl; have := hfp.2.2 hhi; omega
        · rw [if_neg hhi] at hzl; omega
  · rw [if_neg h1] at hc hend ⊢
    by_cases h2 : bt s p = 39
    · rw [if_pos h2] at hc hend ⊢
      obtain ⟨a1, a2, a3, a4⟩ := again_text hp hc
      rw [a1, a2]
      have hsp : spellT 2 0 (textTok s (s.size - p) (p + 1) []).t = ⟨(quoteL (textTok s (s.size - p) (p + 1) []).t.data.toList).toArray⟩ := rfl
      rw [hsp]
      have hsz : (ByteArray.mk (quoteL (textTok s (s.size - p) (p + 1) []).t.data.toList).toArray).size = (textTok s (s.size - p) (p + 1) []).e - p := by
        show (quoteL (textTok s (s.size - p) (p + 1) []).t.data.toList).toArray.size = _
        rw [List.size_toArray]
        exact a4
      refine ⟨a3, by omega, by decide, ?_⟩
      have hq := (qd_len (textTok s (s.size - p) (p + 1) []).t.data.toList).2
      rw [← Lib.size_eq] at hq
      unfold quoteL at a4
      unfold qd at hq
      rw [List.length_cons, List.length_append] at a4
      omega
    · rw [if_neg h2] at hc hend ⊢
      by_cases h3 : isL (bt s p) = true
      · rw [if_pos h3] at hc hend ⊢
        unfold nameTok at hc hend ⊢
        by_cases h4 : 20 < endOf isLD s p - p
        · rw [if_pos h4] at hc; simp [bad] at hc
        · rw [if_neg h4] at hend ⊢
          show Again 3 0 (s.extract p (endOf isLD s p)) (s.extract p (endOf isLD s p)) ∧ (s.extract p (endOf isLD s p)).size ≤ s.size ∧ _ ∧ (s.extract p (endOf isLD s p)).size ≤ s.size
          have hz : (s.extract p (endOf isLD s p)).size ≤ s.size := by rw [ByteArray.size_extract]; omega
          exact ⟨again_name hp h3 rfl h4, hz, by show (0 : Int).natAbs ≤ _; decide, hz⟩
      · rw [if_neg h3] at hc hend ⊢
        unfold signTok at hc hend ⊢
        by_cases h4 : 0 < (runeAt s p).2 ∧ (runeAt s p).1 ∈ signCs
        · rw [if_pos h4] at hend ⊢
          have hg : Utf8.decode s p ≠ (65533, 1) := fun e => by have := h4.1; rw [rune_none e] at this; simp at this
          have hr : runeAt s p = Utf8.decode s p := by unfold runeAt; rw [if_neg hg]
          rw [hr] at h4 hend ⊢
          show Again 4 0 (s.extract p (p + (Utf8.decode s p).2)) (s.extract p (p + (Utf8.decode s p).2)) ∧ (s.extract p (p + (Utf8.decode s p).2)).size ≤ s.size ∧ _ ∧ (s.extract p (p + (Utf8.decode s p).2)).size ≤ s.size
          have hz : (s.extract p (p + (Utf8.decode s p).2)).size ≤ s.size := by rw [ByteArray.size_extract]; omega
          exact ⟨again_sign hp hg h4.2, hz, by show (0 : Int).natAbs ≤ _; decide, hz⟩
        · rw [if_neg h4] at hc; simp [bad] at hc

/-- A token that is read again where it is spelled has that text. -/
theorem text_of_again {k n : Int} {t : ByteArray} (h : Again k n t (spellT k n t)) (hs : (spellT k n t).size ≤ 2000) : tokText k n t = spellT k n t := by
  obtain ⟨x, hx⟩ : ∃ x, spellT k n t = x := ⟨_, rfl⟩
  unfold tokText
  rw [hx] at h hs ⊢
  have hp := h.pos
  obtain ⟨h1, h2, h3⟩ := h.reads x 0 (Bs.self x) (.inl (by omega))
  have hl : lexT x = ([⟨k, n, t, 0⟩], 0, 0) := by
    unfold lexT
    rw [if_neg (by omega), lexR, if_pos ⟨hp, h2⟩, if_neg h3, h1]
    show (if (0 : Int) ≠ 0 then _ else lexR x x.size (0 + x.size) ([] ++ [⟨k, n, t, 0⟩])) = _
    rw [if_neg (by decide), lex_stop (by omega)]
    rfl
  rw [hl, if_pos (by unfold backB; simp)]

/-- The texts of some tokens, a blank behind each. -/
def joinT (ts : List Tok) : List UInt8 := ts.flatMap fun y => (tokText y.k y.n y.t).data.toList ++ [32]

/-- A token of a line. -/
def Proper (y : Tok) : Prop := Again y.k y.n y.t (spellT y.k y.n y.t) ∧ tokText y.k y.n y.t = spellT y.k y.n y.t

theorem lex_joined {T : ByteArray} : ∀ (ts : List Tok) (F i : Nat) (acc : List Tok), (∀ y ∈ ts, Proper y) → Bs T i (joinT ts) → i + (joinT ts).length = T.size → T.size - i < F →
    ∃ more, lexR T F i acc = (acc ++ more, 0, 0) ∧ more.map (fun y => (y.k, y.n, y.t)) = ts.map (fun y => (y.k, y.n, y.t))
  | [], F, i, acc, _, hb, hz, hF => by
    have : i = T.size := by simpa [joinT] using hz
    exact ⟨[], by rw [lex_stop (by omega)]; simp, rfl⟩
  | y :: r, F, i, acc, hp, hb, hz, hF => by
    obtain ⟨ha, ht⟩ := hp y (by simp)
    obtain ⟨x, hx⟩ : ∃ x, spellT y.k y.n y.t = x := ⟨_, rfl⟩
    rw [hx] at ha ht
    have hj : joinT (y :: r) = x.data.toList ++ ([32] ++ joinT r) := by unfold joinT; rw [List.flatMap_cons, ht, List.append_assoc]
    rw [hj] at hb hz
    have hpos := ha.pos
    have hxl : x.data.toList.length = x.size := by rw [← Lib.size_eq]
    rw [List.length_append, List.length_append, hxl] at hz
    simp only [List.length_cons, List.length_nil] at hz
    have h32 := hb.right.left.eq 0 (by simp)
    rw [hxl, Nat.add_zero] at h32
    have h32' : bt T (i + x.size) = 32 := by simpa using h32
    have hrest := hb.right.right
    rw [hxl] at hrest
    simp only [List.length_cons, List.length_nil] at hrest
    obtain ⟨h1, h2, h3⟩ := ha.reads T i hb.left (nx_blank _ (by omega) h32')
    have hrm : remark T (i + x.size) = false := by unfold remark; exact decide_eq_false fun hh => by omega
    obtain ⟨more, hm, he⟩ := lex_joined r (F - 1 - 1) (i + x.size + 1) (acc ++ [⟨y.k, y.n, y.t, i⟩]) (fun z hz => hp z (by simp [hz])) (by simpa using hrest) (by omega) (by omega)
    refine ⟨⟨y.k, y.n, y.t, i⟩ :: more, ?_, by rw [List.map_cons, List.map_cons, he]⟩
    rw [lex_tok hF ⟨by omega, h2⟩ h3 (by rw [h1]), h1]
    show lexR T (F - 1) (i + x.size) (acc ++ [⟨y.k, y.n, y.t, i⟩]) = _
    rw [lex_blank (by omega) ⟨by omega, hrm⟩ (.inl h32'), hm, List.append_assoc]
    rfl

/-- The tokens of a line are read again where they are written one behind the other. -/
theorem relex {s : ByteArray} (hc : (lexT s).2.1 = 0) : (∀ y ∈ (lexT s).1, Proper y ∧ y.n.natAbs ≤ 1000000000000000 ∧ y.t.size ≤ 2000) ∧
    ((joinT (lexT s).1).length ≤ 2000 → (lexT ⟨(joinT (lexT s).1).toArray⟩).2.1 = 0 ∧ (lexT ⟨(joinT (lexT s).1).toArray⟩).1.map (fun y => (y.k, y.n, y.t)) = (lexT s).1.map (fun y => (y.k, y.n, y.t))) := by
  unfold lexT at hc
  by_cases hs : 2000 < s.size
  · rw [if_pos hs] at hc; exact absurd hc (by decide)
  · rw [if_neg hs] at hc
    have hl : lexT s = lexR s (s.size + 1) 0 [] := by unfold lexT; rw [if_neg hs]
    obtain ⟨more, hm, hx⟩ := lexR_pre (s := s) (s.size + 1) 0 [] (Nat.zero_le _) hc
    rw [List.nil_append] at hm
    rw [hl, hm]
    have hall : ∀ y ∈ more, Proper y ∧ y.n.natAbs ≤ 1000000000000000 ∧ y.t.size ≤ 2000 := by
      intro y hy
      obtain ⟨h1, h2, h3⟩ := hx y hy
      obtain ⟨g1, g2, g3, g4⟩ := tok_again h1 h2
      have ek : (tokAt s y.p).k = y.k := (congrArg Tok.k h3).symm
      have en : (tokAt s y.p).n = y.n := (congrArg Tok.n h3).symm
      have et : (tokAt s y.p).t = y.t := (congrArg Tok.t h3).symm
      rw [ek, en, et] at g1 g2
      rw [en] at g3
      rw [et] at g4
      exact ⟨⟨g1, text_of_again g1 (by omega)⟩, g3, by omega⟩
    refine ⟨hall, fun hj => ?_⟩
    have hT : (ByteArray.mk (joinT more).toArray).size = (joinT more).length := by show (joinT more).toArray.size = _; rw [List.size_toArray]
    have hb := Bs.self (ByteArray.mk (joinT more).toArray)
    obtain ⟨m2, h1, h2⟩ := lex_joined (T := ⟨(joinT more).toArray⟩) more ((ByteArray.mk (joinT more).toArray).size + 1) 0 [] (fun y hy => (hall y hy).1) hb (by omega) (by omega)
    have hl2 : lexT ⟨(joinT more).toArray⟩ = ([] ++ m2, 0, 0) := by unfold lexT; rw [if_neg (by omega)]; exact h1
    rw [hl2]
    exact ⟨rfl, h2⟩

end Go.Proofs.YtinndpnilmmmjaaGreatDoor
