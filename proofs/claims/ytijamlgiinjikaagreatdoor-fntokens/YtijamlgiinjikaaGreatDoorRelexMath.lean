import Derived.Test.YtijamlgiinjikaaGreatDoorMFit0
import Derived.Test.YtijamlgiinjikaaGreatDoorReachMath
import Derived.Test.YtijamlgiinjikaaGreatDoorTokTDefs
namespace Go.Proofs.YtijamlgiinjikaaGreatDoor
open Go.RowKit

/-- The bytes l stand in T from place i on. -/
structure Bs (T : ByteArray) (i : Nat) (l : List UInt8) : Prop where
  le : i + l.length ≤ T.size
  eq : ∀ j (h : j < l.length), bt T (i + j) = (l[j]).toNat

/-- Behind a token of kind k: the text's end, or what does not go on with it. -/
def Nx (k : Int) (T : ByteArray) (e : Nat) : Prop := e = T.size ∨ (e < T.size ∧ (k = 1 ∨ k = 3 → isLD (bt T e) = false) ∧ (k = 1 → high T e = false) ∧ (k = 2 → bt T e ≠ 39))

theorem nx_blank (k : Int) {T : ByteArray} {e : Nat} (h : e < T.size) (h32 : bt T e = 32) : Nx k T e := .inr ⟨h, fun _ => by rw [h32]; rfl, fun _ => by unfold high; exact decide_eq_false fun hh => by omega, fun _ => by omega⟩

theorem Bs.left {T : ByteArray} {i : Nat} {l m : List UInt8} (h : Bs T i (l ++ m)) : Bs T i l := by
  have h1 := h.le
  rw [List.length_append] at h1
  refine ⟨by omega, fun j hj => ?_⟩
  rw [h.eq j (by rw [List.length_append]; omega), List.getElem_append_left hj]

theorem Bs.right {T : ByteArray} {i : Nat} {l m : List UInt8} (h : Bs T i (l ++ m)) : Bs T (i + l.length) m := by
  have h1 := h.le
  rw [List.length_append] at h1
  refine ⟨by omega, fun j hj => ?_⟩
  rw [Nat.add_assoc, h.eq (l.length + j) (by rw [List.length_append]; omega), List.getElem_append_right (by omega)]
  simp

theorem Bs.sub {T : ByteArray} {i : Nat} {l : List UInt8} (h : Bs T i l) : (T.extract i (i + l.length)).data.toList = l := by
  have h1 := h.le
  rw [sub_list, Nat.add_sub_cancel_left]
  apply List.ext_getElem?
  intro j
  by_cases hj : j < l.length
  · have hl : i + j < T.data.toList.length := by rw [← Lib.size_eq]; omega
    rw [List.getElem?_take, if_pos hj, List.getElem?_drop, List.getElem?_eq_getElem hl, List.getElem?_eq_getElem hj]
    have := h.eq j hj
    rw [bt_data (by omega), List.getD_eq_getElem?_getD, List.getElem?_eq_getElem hl, Option.getD_some] at this
    rw [UInt8.toNat_inj.1 this]
  · rw [List.getElem?_eq_none (by rw [List.length_take]; omega), List.getElem?_eq_none (by omega)]

theorem Bs.self (x : ByteArray) : Bs x 0 x.data.toList := by
  refine ⟨by rw [← Lib.size_eq]; omega, fun j hj => ?_⟩
  have : j < x.size := by rw [Lib.size_eq]; exact hj
  rw [Nat.zero_add, bt_data this, List.getD_eq_getElem?_getD, List.getElem?_eq_getElem hj, Option.getD_some]

/-- A character stands where its bytes stand. -/
theorem decode_bs {s T : ByteArray} {k i : Nat} (hk : k < s.size) (hg : Utf8.decode s k ≠ (65533, 1)) (h : Bs T i (s.extract k (k + (Utf8.decode s k).2)).data.toList) : Utf8.decode T i = Utf8.decode s k := by
  have h1 := decode_width_le hk
  have h2 := Lib.decode_width_pos s k hk
  obtain ⟨n, hn⟩ : ∃ n, (Utf8.decode s k).2 = n := ⟨_, rfl⟩
  rw [hn] at h1 h2 h
  have hlen : (s.extract k (k + n)).data.toList.length = n := by rw [sub_list, List.length_take, List.length_drop, ← Lib.size_eq]; omega
  have hxb : ∀ j, j < n → bt (s.extract k (k + n)) j = bt s (k + j) := fun j hj => by
    have hs : j < (s.extract k (k + n)).size := by rw [Lib.size_eq, hlen]; exact hj
    rw [bt_data hs, bt_data (by omega), sub_list]
    simp only [List.getD_eq_getElem?_getD, List.getElem?_take, List.getElem?_drop]
    rw [if_pos (by omega)]
  have hsz : (s.extract k (k + n)).size = n := by rw [Lib.size_eq]; exact hlen
  have hc : Utf8.decode (s.extract k (k + n)) 0 = Utf8.decode s k := decode_cut hn h2 hsz (fun j hj => ⟨by omega, hxb j hj⟩) hg
  rw [← hc]
  refine decode_longer (by omega) (fun j hj => ?_) (by rw [hc]; exact hg)
  rw [Nat.zero_add] at hj ⊢
  have hle := h.le
  have he := h.eq j (by omega)
  refine ⟨by omega, ?_⟩
  rw [he, bt_data (by omega), List.getD_eq_getElem?_getD, List.getElem?_eq_getElem (by omega), Option.getD_some]

/-- No byte of a character is a quote but the quote. -/
theorem char_noq {s : ByteArray} {k : Nat} (hk : k < s.size) (h39 : bt s k ≠ 39) (hg : Utf8.decode s k ≠ (65533, 1)) : qd (s.extract k (k + (Utf8.decode s k).2)).data.toList = (s.extract k (k + (Utf8.decode s k).2)).data.toList := by
  have h1 := decode_width_le hk
  have key : ∀ j, j < (Utf8.decode s k).2 → bt s (k + j) ≠ 39 := by
    have hd := decode_is s k
    by_cases c0 : bt s k < 128
    · rw [if_pos c0] at hd
      intro j hj
      rw [hd] at hj
      have : j = 0 := by simp at hj; omega
      subst this
      exact h39
    · intro j hj
      by_cases hj0 : j = 0
      · subst hj0; exact h39
      rw [if_neg c0] at hd
      by_cases c1 : bt s k / 32 = 6 ∧ tl s (k + 1) = true
      · have t1 := tl_bd c1.2
        rw [if_pos c1] at hd
        have hw : (Utf8.decode s k).2 ≤ 2 := by rw [hd]; split <;> simp
        obtain rfl : j = 1 := by omega
        omega
      · rw [if_neg c1] at hd
        by_cases c2 : bt s k / 16 = 14 ∧ tl s (k + 1) = true ∧ tl s (k + 2) = true
        · have t1 := tl_bd c2.2.1
          have t2 := tl_bd c2.2.2
          rw [if_pos c2] at hd
          have hw : (Utf8.decode s k).2 ≤ 3 := by rw [hd]; split <;> simp
          rcases (by omega : j = 1 ∨ j = 2) with rfl | rfl <;> omega
        · rw [if_neg c2] at hd
          by_cases c3 : bt s k / 8 = 30 ∧ tl s (k + 1) = true ∧ tl s (k + 2) = true ∧ tl s (k + 3) = true
          · have t1 := tl_bd c3.2.1
            have t2 := tl_bd c3.2.2.1
            have t3 := tl_bd c3.2.2.2
            rw [if_pos c3] at hd
            have hw : (Utf8.decode s k).2 ≤ 4 := by rw [hd]; split <;> simp
            rcases (by omega : j = 1 ∨ j = 2 ∨ j = 3) with rfl | rfl | rfl <;> omega
          · rw [if_neg c3] at hd
            exact absurd hd hg
  have hall : ∀ b ∈ (s.extract k (k + (Utf8.decode s k).2)).data.toList, b ≠ 39 := by
    intro b hb e
    obtain ⟨j, hj⟩ := List.mem_iff_getElem?.1 hb
    rw [sub_list, List.getElem?_take] at hj
    split at hj
    · rename_i hjw
      have hl : k + j < s.data.toList.length := by rw [← Lib.size_eq]; omega
      rw [List.getElem?_drop, List.getElem?_eq_getElem hl] at hj
      have h2 := key j (by omega)
      rw [bt_data (by omega), List.getD_eq_getElem?_getD, List.getElem?_eq_getElem hl, Option.getD_some] at h2
      rw [Option.some.inj hj, e] at h2
      exact h2 rfl
    · cases hj
  generalize (s.extract k (k + (Utf8.decode s k).2)).data.toList = l at hall
  induction l with
  | nil => rfl
  | cons b r ih =>
    unfold qd at ih ⊢
    rw [List.flatMap_cons, if_neg (hall b (by simp)), ih (fun c hc => hall c (by simp [hc]))]
    rfl

theorem qd_app (l m : List UInt8) : qd (l ++ m) = qd l ++ qd m := by unfold qd; rw [List.flatMap_append]

/-- What was read as a text is read again where it is written. -/
theorem text_again {s : ByteArray} : ∀ (F k : Nat) (out : List UInt8), k ≤ s.size → (textTok s F k out).c = 0 →
    (textTok s F k out).k = 2 ∧ (textTok s F k out).n = 0 ∧ ∃ r, (textTok s F k out).t = ⟨(out ++ r).toArray⟩ ∧ (textTok s F k out).e = k + (qd r).length + 1 ∧
      ∀ (T : ByteArray) (i G : Nat) (o : List UInt8), Bs T i (qd r ++ [39]) → Nx 2 T (i + (qd r).length + 1) → T.size - i < G → textTok T G i o = ⟨2, 0, ⟨(o ++ r).toArray⟩, i + (qd r).length + 1, 0⟩
  | 0, k, out, _, h => by rw [textTok] at h; simp [bad] at h
  | F + 1, k, out, hk, h => by
    rw [textTok] at h ⊢
    by_cases h1 : k < s.size
    · rw [if_pos h1] at h ⊢
      by_cases h2 : bt s k = 39
      · rw [if_pos h2] at h ⊢
        by_cases h3 : quotes s k = true
        · rw [if_pos h3] at h ⊢
          have hq := of_decide_eq_true h3
          obtain ⟨a1, a2, r, a3, a4, a5⟩ := text_again F (k + 2) (out ++ [39]) (by omega) h
          refine ⟨a1, a2, 39 :: r, by rw [a3, List.append_assoc]; rfl, ?_, fun T i G o hb hn hG => ?_⟩
          · rw [a4]
            show k + 2 + (qd r).length + 1 = k + (39 :: 39 :: qd r).length + 1
            simp only [List.length_cons]
            omega
          · have hb' : Bs T i ([39, 39] ++ (qd r ++ [39])) := hb
            have e0 := hb'.left.eq 0 (by simp)
            have e1 := hb'.left.eq 1 (by simp)
            have hle := hb'.le
            simp at e0 e1 hle
            have hr := hb'.right
            simp only [List.length_cons, List.length_nil] at hr
            have hn' : Nx 2 T (i + 2 + (qd r).length + 1) := by
              have : i + (qd (39 :: r)).length + 1 = i + 2 + (qd r).length + 1 := by
                show i + (39 :: 39 :: qd r).length + 1 = _
                simp only [List.length_cons]
                omega
              rw [this] at hn
              exact hn
            cases G with
            | zero => omega
            | succ G =>
              rw [textTok, if_pos (by omega), if_pos (by rw [← Nat.add_zero i]; exact e0), if_pos (by unfold quotes; exact decide_eq_true ⟨by omega, by rw [← Nat.add_zero i]; exact e0, e1⟩)]
              rw [a5 T (i + 2) G (o ++ [39]) hr hn' (by omega), List.append_assoc]
              congr 1
              show i + 2 + (qd r).length + 1 = i + (39 :: 39 :: qd r).length + 1
              simp only [List.length_cons]
              omega
        · rw [if_neg h3]
          refine ⟨rfl, rfl, [], by simp, rfl, fun T i G o hb hn hG => ?_⟩
          have hle := hb.le
          have e0 := hb.eq 0 (by simp [qd])
          have hn' : Nx 2 T (i + 1) := hn
          simp [qd] at hle e0
          have hnq : quotes T i = false := by
            unfold quotes
            refine decide_eq_false fun hh => ?_
            rcases hn' with hn | ⟨_, _, _, hn⟩
            · omega
            · exact hn rfl hh.2.2
          cases G with
          | zero => omega
          | succ G =>
            rw [textTok, if_pos (by omega), if_pos e0, if_neg (by rw [hnq]; decide)]
            simp [qd]
      · rw [if_neg h2] at h ⊢
        by_cases h3 : (runeAt s k).2 = 0 ∨ bt s k = 10
        · rw [if_pos h3] at h; simp [bad] at h
        · rw [if_neg h3] at h ⊢
          have hg : Utf8.decode s k ≠ (65533, 1) := fun e => h3 (.inl (by rw [rune_none e]))
          have hr : runeAt s k = Utf8.decode s k := by unfold runeAt; rw [if_neg hg]
          rw [hr] at h h3 ⊢
          have hw1 := decode_width_le h1
          have hw2 := Lib.decode_width_pos s k h1
          obtain ⟨a1, a2, r, a3, a4, a5⟩ := text_again F (k + (Utf8.decode s k).2) _ hw1 h
          have hlen : (s.extract k (k + (Utf8.decode s k).2)).data.toList.length = (Utf8.decode s k).2 := by rw [sub_list, List.length_take, List.length_drop, ← Lib.size_eq]; omega
          have hqd : qd ((s.extract k (k + (Utf8.decode s k).2)).data.toList ++ r) = (s.extract k (k + (Utf8.decode s k).2)).data.toList ++ qd r := by rw [qd_app, char_noq h1 h2 hg]
          refine ⟨a1, a2, (s.extract k (k + (Utf8.decode s k).2)).data.toList ++ r, by rw [a3, List.append_assoc], ?_, fun T i G o hb hn hG => ?_⟩
          · rw [a4, hqd, List.length_append, hlen]
            omega
          · rw [hqd, List.append_assoc] at hb
            rw [hqd, List.length_append, hlen] at hn ⊢
            have hdT := decode_bs h1 hg hb.left
            have hle := hb.le
            have hrt := hb.right
            have hsub := hb.left.sub
            have e0 := hb.left.eq 0 (by omega)
            rw [hlen] at hrt hsub
            rw [List.length_append, hlen, List.length_append] at hle
            have hb0 : bt T i = bt s k := by
              rw [Nat.add_zero] at e0
              rw [e0]
              have hl : k < s.data.toList.length := by rw [← Lib.size_eq]; exact h1
              rw [bt_data h1, List.getD_eq_getElem?_getD, List.getElem?_eq_getElem hl, Option.getD_some]
              congr 1
              simp only [sub_list, List.getElem_take, List.getElem_drop, Nat.add_zero]
            have hrT : runeAt T i = Utf8.decode s k := by unfold runeAt; rw [hdT, if_neg hg]
            simp only [List.length_cons, List.length_nil] at hle
            cases G with
            | zero => omega
            | succ G =>
              rw [textTok, if_pos (by omega), if_neg (by rw [hb0]; exact h2), hrT, if_neg (by rw [hb0]; exact h3), hsub]
              rw [a5 T (i + (Utf8.decode s k).2) G _ hrt (by rw [show i + (Utf8.decode s k).2 + (qd r).length + 1 = i + ((Utf8.decode s k).2 + (qd r).length) + 1 by omega]; exact hn) (by omega), List.append_assoc]
              congr 1
              omega
    · rw [if_neg h1] at h; simp [bad] at h

end Go.Proofs.YtijamlgiinjikaaGreatDoor
