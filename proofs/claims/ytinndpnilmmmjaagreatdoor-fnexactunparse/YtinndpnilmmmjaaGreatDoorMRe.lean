import Derived.Test.YtinndpnilmmmjaaGreatDoorMCon
import Derived.Test.YtinndpnilmmmjaaGreatDoorMTb
import Derived.Test.YtinndpnilmmmjaaGreatDoorMTb
import Derived.Test.YtinndpnilmmmjaaGreatDoorMTok
namespace Go.Proofs.YtinndpnilmmmjaaGreatDoor
open Go.RowKit

theorem contains_some (s : ByteArray) (z : Int) (b : Bool) (W : World) (h : Calls Tryz.prog 214 #[.string s, .int .i32 z] W fun e w' => ∃ n : Int, e = .returned (.int .i64 n) ∧ decide (0 ≤ n) = b ∧ Below W.heap.size W w') :
    Calls Tryz.prog 190 #[.string s, .int .i32 z] W fun e w' => e = .returned (.bool b) ∧ Below W.heap.size W w' := by
  have H := hide h
  clear h
  go_enter Tryz.func190, Tryz.ntmps190
  go_wp2_with (go_at_call 214; refine (unhide H).mono ?_; rintro e w5 ⟨n, rfl, hn, hb5⟩; have HB5 := hide hb5; have HN := hide hn; clear hb5 hn)
  go_ret
  exact ⟨ret_bool (by rw [← unhide HN]), unhide HB5⟩

theorem contains_wide (v : Nat) (hv : 128 ≤ v) (hv2 : v ≠ 65533) (hval : Utf8.valid (v : Int) = true) (W : World) : Calls Tryz.prog 190 #[.string sgs, .int .i32 (v : Int)] W fun e w' => e = .returned (.bool (decide (v ∈ signCs))) ∧ Below W.heap.size W w' := by
  obtain ⟨L, hW⟩ := wide_of hval hv
  have hvr : Lib.validRune (v : Int) = true := by
    rw [valid_ok] at hval
    unfold runeOk at hval
    have := of_decide_eq_true hval
    unfold Lib.validRune
    exact decide_eq_true (by omega)
  have hsz : sgs.size ≤ 100000 := by
    have : sgs.size = 111 := by kernel_rfl
    omega
  have h := indexRune_wide sgs (Utf8.encode (v : Int)) L (bt (Utf8.encode (v : Int)) L) (v : Int) W (by omega) (by omega) hvr rfl hW.size hW.lo hW.hi rfl hsz (fun i hi => sgs_cnt hW.last.1 hW.last.2 i hi)
  refine contains_some sgs (v : Int) _ W (h.mono ?_)
  rintro e w' ⟨n, he, hn, hb⟩
  exact ⟨n, he, decide_eq_decide.2 (hn.trans (sgs_has hW hv2)), hb⟩

theorem signs_said : SignsSaid fun v => decide (v ∈ signCs) := by
  intro sg v W hsg hval
  rw [hsg]
  by_cases h1 : v < 128
  · exact contains_small v h1 W
  · by_cases h2 : v = 65533
    · rw [h2]; exact contains_bad W
    · exact contains_wide v (by omega) h2 hval W

theorem readSign_at (s : ByteArray) (i : Nat) (w : World) (hi : i < s.size) (hT : TabsAt w) :
    Calls Tryz.prog 156 #[.string (s.extract i s.size)] w fun e w' => e = .returned (readG (signTok s i) i) ∧ Below w.heap.size w w' := by
  have hts : (s.extract i s.size).size = s.size - i := tail_size s i
  have hd : Utf8.decode (s.extract i s.size) 0 = Utf8.decode s i := tail_decode (i := i) (j := 0) hi
  have hw := decode_width_le hi
  have h := readSign_of (fun v => decide (v ∈ signCs)) signs_said (s.extract i s.size) w (by omega) (by rw [hd]; omega) hT
  refine h.mono ?_
  rintro e w' ⟨he, hb⟩
  refine ⟨?_, hb⟩
  rw [he, hd]
  congr 1
  unfold signTok readG
  by_cases hg : Utf8.decode s i = (65533, 1)
  · rw [rune_none hg, hg, if_neg (by decide), if_neg (by simp)]
    show _ = readV 0 0 ⟨#[]⟩ (0 - i) 1
    rw [Nat.zero_sub]
  · have hr : runeAt s i = Utf8.decode s i := by unfold runeAt; rw [if_neg hg]
    have hp := Lib.decode_width_pos s i hi
    rw [hr]
    by_cases hm : (Utf8.decode s i).1 ∈ signCs
    · rw [if_pos (decide_eq_true hm), if_pos ⟨hp, hm⟩]
      show readV 4 0 _ _ 0 = readV 4 0 (s.extract i (i + (Utf8.decode s i).2)) (i + (Utf8.decode s i).2 - i) 0
      rw [head_tail, Nat.add_sub_cancel_left]
    · rw [if_neg (by simpa using hm), if_neg (fun h => hm h.2)]
      show _ = readV 0 0 ⟨#[]⟩ (0 - i) 1
      rw [Nat.zero_sub]

theorem readText_at (s : ByteArray) (i : Nat) (w : World) (hi : i < s.size) (hs : s.size ≤ 1000000000000) (hT : TabsAt w) :
    Calls Tryz.prog 153 #[.string (s.extract i s.size)] w fun e w' => e = .returned (readG (textTok s (s.size - i) (i + 1) []) i) ∧ Below w.heap.size w w' := by
  have hts : (s.extract i s.size).size = s.size - i := tail_size s i
  have h := readText_any (s.extract i s.size) w (by omega) (by omega) hT
  refine h.mono ?_
  rintro e w' ⟨he, hb⟩
  refine ⟨?_, hb⟩
  rw [he]
  congr 1
  rw [textR_dev (s.size - i) ((s.extract i s.size).size + 1) 1 [] (by omega) (by omega) (by omega), tok_tail (s := s) (i := i) (s.size - i) 1 [], dev_tok (s.size - i) 1 [] (by omega) rfl]
  cases devT (s.extract i s.size) (s.size - i) 1 [] with
  | none =>
    show readV 0 0 ⟨#[]⟩ 0 1 = readG (shiftG i (bad 1)) i
    rw [shift_bad]
    show _ = readV 0 0 ⟨#[]⟩ (0 - i) 1
    rw [Nat.zero_sub]
  | some x =>
    obtain ⟨e1, o⟩ := x
    show (if Lib.validD o = true then readV 2 0 ⟨o.toArray⟩ e1 0 else readV 0 0 ⟨#[]⟩ 0 1) = readG (shiftG i (if Lib.validD o = true then ⟨2, 0, ⟨o.toArray⟩, e1, 0⟩ else bad 1)) i
    by_cases hv : Lib.validD o = true
    · rw [if_pos hv, if_pos hv]
      unfold shiftG
      rw [if_pos rfl]
      show _ = readV 2 0 ⟨o.toArray⟩ (e1 + i - i) 0
      rw [Nat.add_sub_cancel]
    · rw [if_neg hv, if_neg hv, shift_bad]
      show _ = readV 0 0 ⟨#[]⟩ (0 - i) 1
      rw [Nat.zero_sub]

end Go.Proofs.YtinndpnilmmmjaaGreatDoor
namespace Go.Proofs.YtinndpnilmmmjaaGreatDoor
open Go.RowKit

/-- Reading at most f characters from a place one comes to another. -/
def ReachF (s : ByteArray) : Nat → Nat → Nat → Prop
  | 0, p, m => p = m
  | f + 1, p, m => p = m ∨ (p < s.size ∧ ReachF s f (p + (Utf8.decode s p).2) m)

/-- Reading character by character from a place one comes to another. -/
def Reach (s : ByteArray) (p m : Nat) : Prop := ∃ f, ReachF s f p m

theorem Reach.here {s : ByteArray} (p : Nat) : Reach s p p := ⟨0, rfl⟩

theorem Reach.step {s : ByteArray} {p m : Nat} (h : p < s.size) (r : Reach s (p + (Utf8.decode s p).2) m) : Reach s p m := by
  obtain ⟨f, hf⟩ := r
  exact ⟨f + 1, .inr ⟨h, hf⟩⟩

theorem reachF_le {s : ByteArray} : ∀ (f : Nat) {p m : Nat}, ReachF s f p m → p ≤ m
  | 0, _, _, h => Nat.le_of_eq h
  | f + 1, p, m, h => by
    rcases h with h | ⟨_, h⟩
    · omega
    · have := reachF_le f h
      omega

theorem Reach.le {s : ByteArray} {p m : Nat} (h : Reach s p m) : p ≤ m := by
  obtain ⟨f, hf⟩ := h
  exact reachF_le f hf

theorem Reach.next {s : ByteArray} {p m : Nat} (h : Reach s p m) (hne : p ≠ m) : p < s.size ∧ Reach s (p + (Utf8.decode s p).2) m := by
  obtain ⟨f, hf⟩ := h
  cases f with
  | zero => exact absurd hf hne
  | succ f =>
    rcases hf with h | ⟨h, r⟩
    · exact absurd h hne
    · exact ⟨h, f, r⟩

theorem Reach.small {s : ByteArray} {p m : Nat} (h : p < s.size) (hb : bt s p < 128) (r : Reach s (p + 1) m) : Reach s p m := by
  refine .step h ?_
  rw [decode_is, if_pos hb]
  exact r

theorem reach_end {q : Nat → Bool} (hq : ∀ v, q v = true → v < 128) {s : ByteArray} : ∀ (d i : Nat), s.size - i = d → Reach s i (endOf q s i)
  | d, i, hd => by
    by_cases h : i < s.size ∧ q (bt s i) = true
    · rw [endOf_go h.1 h.2]
      match d, hd with
      | 0, hd => omega
      | d + 1, hd => exact .small h.1 (hq _ h.2) (reach_end hq d (i + 1) (by omega))
    · rw [endOf_stop h]
      exact .here _

theorem reach_text {s : ByteArray} : ∀ (f p : Nat) (out : List UInt8), (textTok s f p out).c = 0 → Reach s p (textTok s f p out).e
  | 0, p, out, h => by rw [textTok] at h; simp [bad] at h
  | f + 1, p, out, h => by
    rw [textTok] at h ⊢
    by_cases h1 : p < s.size
    · rw [if_pos h1] at h ⊢
      by_cases h2 : bt s p = 39
      · rw [if_pos h2] at h ⊢
        by_cases h3 : quotes s p = true
        · rw [if_pos h3] at h ⊢
          have hqq := of_decide_eq_true h3
          exact .small h1 (by omega) (.small (by omega) (by omega) (reach_text f (p + 2) _ h))
        · rw [if_neg h3]
          exact .small h1 (by omega) (.here _)
      · rw [if_neg h2] at h ⊢
        by_cases h3 : (runeAt s p).2 = 0 ∨ bt s p = 10
        · rw [if_pos h3] at h; simp [bad] at h
        · rw [if_neg h3] at h ⊢
          have hr : runeAt s p = Utf8.decode s p := by
            by_cases hg : Utf8.decode s p = (65533, 1)
            · exact absurd (.inl (by rw [rune_none hg])) h3
            · unfold runeAt; rw [if_neg hg]
          refine .step h1 ?_
          rw [← hr]
          exact reach_text f _ _ h
    · rw [if_neg h1] at h; simp [bad] at h

theorem high_is {s : ByteArray} {i : Nat} : high s i = true ↔ (Utf8.decode s i).1 = 175 := by
  have hb := bt_lt s i
  have hb1 := bt_lt s (i + 1)
  rw [decode_is]
  unfold high
  rw [decide_eq_true_eq]
  constructor
  · rintro ⟨h1, h2, h3⟩
    have t1 : tl s (i + 1) = true := by unfold tl; exact decide_eq_true ⟨by omega, by omega, by omega⟩
    have w : v2 s i = 175 := by unfold v2; rw [h2, h3]
    rw [if_neg (by omega), if_pos ⟨by omega, t1⟩, w, if_pos (by omega)]
  · intro h
    by_cases c0 : bt s i < 128
    · rw [if_pos c0] at h
      exact absurd (show bt s i = 175 from h) (by omega)
    · rw [if_neg c0] at h
      by_cases c1 : bt s i / 32 = 6 ∧ tl s (i + 1) = true
      · rw [if_pos c1] at h
        have ht := tl_bd c1.2
        by_cases c : 128 ≤ v2 s i
        · rw [if_pos c] at h
          have h' : v2 s i = 175 := h
          unfold v2 at h'
          exact ⟨by omega, by omega, by omega⟩
        · rw [if_neg c] at h; exact absurd h (by decide)
      · rw [if_neg c1] at h
        by_cases c2 : bt s i / 16 = 14 ∧ tl s (i + 1) = true ∧ tl s (i + 2) = true
        · rw [if_pos c2] at h
          by_cases c : 2048 ≤ v3 s i ∧ Utf8.valid (v3 s i : Nat) = true
          · rw [if_pos c] at h
            exact absurd (show v3 s i = 175 from h) (by omega)
          · rw [if_neg c] at h; exact absurd h (by decide)
        · rw [if_neg c2] at h
          by_cases c3 : bt s i / 8 = 30 ∧ tl s (i + 1) = true ∧ tl s (i + 2) = true ∧ tl s (i + 3) = true
          · rw [if_pos c3] at h
            by_cases c : 65536 ≤ v4 s i ∧ Utf8.valid (v4 s i : Nat) = true
            · rw [if_pos c] at h
              exact absurd (show v4 s i = 175 from h) (by omega)
            · rw [if_neg c] at h; exact absurd h (by decide)
          · rw [if_neg c3] at h; exact absurd h (by decide)

theorem remark_is {s : ByteArray} {i : Nat} : remark s i = true ↔ (Utf8.decode s i).1 = 9053 := by
  have hb := bt_lt s i
  have hb1 := bt_lt s (i + 1)
  rw [decode_is]
  unfold remark
  rw [decide_eq_true_eq]
  constructor
  · rintro ⟨h1, h2, h3, h4⟩
    have t1 : tl s (i + 1) = true := by unfold tl; exact decide_eq_true ⟨by omega, by omega, by omega⟩
    have t2 : tl s (i + 2) = true := by unfold tl; exact decide_eq_true ⟨by omega, by omega, by omega⟩
    have w : v3 s i = 9053 := by unfold v3; rw [h2, h3, h4]
    rw [if_neg (by omega), if_neg (by omega), if_pos ⟨by omega, t1, t2⟩, w, if_pos ⟨by omega, by decide⟩]
  · intro h
    by_cases c0 : bt s i < 128
    · rw [if_pos c0] at h
      exact absurd (show bt s i = 9053 from h) (by omega)
    · rw [if_neg c0] at h
      by_cases c1 : bt s i / 32 = 6 ∧ tl s (i + 1) = true
      · rw [if_pos c1] at h
        by_cases c : 128 ≤ v2 s i
        · rw [if_pos c] at h
          have h' : v2 s i = 9053 := h
          unfold v2 at h'
          omega
        · rw [if_neg c] at h; exact absurd h (by decide)
      · rw [if_neg c1] at h
        by_cases c2 : bt s i / 16 = 14 ∧ tl s (i + 1) = true ∧ tl s (i + 2) = true
        · rw [if_pos c2] at h
          have ht1 := tl_bd c2.2.1
          have ht2 := tl_bd c2.2.2
          by_cases c : 2048 ≤ v3 s i ∧ Utf8.valid (v3 s i : Nat) = true
          · rw [if_pos c] at h
            have h' : v3 s i = 9053 := h
            unfold v3 at h'
            exact ⟨by omega, by omega, by omega, by omega⟩
          · rw [if_neg c] at h; exact absurd h (by decide)
        · rw [if_neg c2] at h
          by_cases c3 : bt s i / 8 = 30 ∧ tl s (i + 1) = true ∧ tl s (i + 2) = true ∧ tl s (i + 3) = true
          · rw [if_pos c3] at h
            by_cases c : 65536 ≤ v4 s i ∧ Utf8.valid (v4 s i : Nat) = true
            · rw [if_pos c] at h
              exact absurd (show v4 s i = 9053 from h) (by omega)
            · rw [if_neg c] at h; exact absurd h (by decide)
          · rw [if_neg c3] at h; exact absurd h (by decide)

/-- A small character is its byte. -/
theorem small_is {s : ByteArray} {i c : Nat} (hc : c < 128) : (Utf8.decode s i).1 = c ↔ bt s i = c := by
  by_cases h : bt s i < 128
  · rw [decode_is, if_pos h]
  · have := decode_ge h
    constructor
    · intro e; omega
    · intro e; omega

theorem small_of {q : Nat → Bool} (hq : ∀ v, q v = true → v < 128) {s : ByteArray} {i : Nat} : q (Utf8.decode s i).1 = q (bt s i) := by
  by_cases h : bt s i < 128
  · rw [decode_is, if_pos h]
  · have h1 := decode_ge h
    have a : q (Utf8.decode s i).1 = false := by
      cases h2 : q (Utf8.decode s i).1 with
      | false => rfl
      | true => have := hq _ h2; omega
    have b : q (bt s i) = false := by
      cases h2 : q (bt s i) with
      | false => rfl
      | true => exact absurd (hq _ h2) h
    rw [a, b]

/-- Behind a token one is where reading character by character comes by. -/
theorem reach_tok {s : ByteArray} {k : Nat} (hk : k < s.size) (h : (tokAt s k).c = 0) : Reach s (k + (Utf8.decode s k).2) (tokAt s k).e := by
  suffices hs : Reach s k (tokAt s k).e by
    have := tok_end hk h
    exact (hs.next (by omega)).2
  unfold tokAt at h ⊢
  by_cases h1 : isD (bt s k) = true ∨ high s k = true
  · rw [if_pos h1] at h ⊢
    obtain ⟨f, hf⟩ : ∃ f, (if high s k = true then k + 2 else k) = f := ⟨_, rfl⟩
    obtain ⟨e, he⟩ : ∃ e, endOf isD s f = e := ⟨_, rfl⟩
    by_cases hb : e = f ∨ (e < s.size ∧ isL (bt s e) = true) ∨ high s e = true
    · rw [numTok_bad hf he hb] at h; simp [bad] at h
    · by_cases hv : 1000000000000000 < decV s f (e - f)
      · rw [numTok_big hf he hb hv] at h; simp [bad] at h
      · rw [numTok_ok hf he hb hv]
        show Reach s k e
        have hr : Reach s f e := by rw [← he]; exact reach_end isD_small _ f rfl
        by_cases hh : high s k = true
        · rw [if_pos hh] at hf
          rw [← hf] at hr
          have hd := of_decide_eq_true hh
          refine .step hk ?_
          have t1 : tl s (k + 1) = true := by unfold tl; exact decide_eq_true ⟨by omega, by omega, by omega⟩
          have w : v2 s k = 175 := by unfold v2; rw [hd.2.1, hd.2.2]
          have hdec : Utf8.decode s k = (175, 2) := by rw [decode_is, if_neg (by omega), if_pos ⟨by omega, t1⟩, w, if_pos (by omega)]
          rw [hdec]
          exact hr
        · rw [if_neg hh] at hf
          rw [hf]
          exact hr
  · rw [if_neg h1] at h ⊢
    by_cases h2 : bt s k = 39
    · rw [if_pos h2] at h ⊢
      exact .small hk (by omega) (reach_text _ _ _ h)
    · rw [if_neg h2] at h ⊢
      by_cases h3 : isL (bt s k) = true
      · rw [if_pos h3] at h ⊢
        unfold nameTok at h ⊢
        by_cases h4 : 20 < endOf isLD s k - k
        · rw [if_pos h4] at h; simp [bad] at h
        · rw [if_neg h4]
          exact reach_end isLD_small _ k rfl
      · rw [if_neg h3] at h ⊢
        unfold signTok at h ⊢
        by_cases h4 : 0 < (runeAt s k).2 ∧ (runeAt s k).1 ∈ signCs
        · rw [if_pos h4]
          have hr : runeAt s k = Utf8.decode s k := by
            by_cases hg : Utf8.decode s k = (65533, 1)
            · have := h4.1; rw [rune_none hg] at this; simp at this
            · unfold runeAt; rw [if_neg hg]
          show Reach s k (k + (runeAt s k).2)
          rw [hr]
          exact .step hk (.here _)
        · rw [if_neg h4] at h; simp [bad] at h

/-- The reader that is taken reads the token. -/
theorem reader_any (s : ByteArray) (i v : Nat) (hv : (Utf8.decode s i).1 = v) (w : World) (hi : i < s.size) (hs : s.size ≤ 100000) (hR : RangeAt w) (hT : TabsAt w) :
    Calls Tryz.prog (readerN v) #[.string (s.extract i s.size)] w fun e w' => e = .returned (readG (tokAt s i) i) ∧ Below w.heap.size w w' := by
  unfold readerN tokAt
  have hd : isD v = isD (bt s i) := by rw [← hv]; exact small_of isD_small
  have hl : isL v = isL (bt s i) := by rw [← hv]; exact small_of isL_small
  have hh : v = 175 ↔ high s i = true := by rw [← hv]; exact high_is.symm
  have hq : v = 39 ↔ bt s i = 39 := by rw [← hv]; exact small_is (by omega)
  rw [hd, hl]
  by_cases h1 : isD (bt s i) = true ∨ high s i = true
  · rw [if_pos (h1.imp id hh.2), if_pos h1]
    exact readNumber_any s i w hi (by omega) hR
  · rw [if_neg (fun h => h1 (h.imp id hh.1)), if_neg h1]
    by_cases h2 : bt s i = 39
    · rw [if_pos (hq.2 h2), if_pos h2]
      exact readText_at s i w hi (by omega) hT
    · rw [if_neg (fun h => h2 (hq.1 h)), if_neg h2]
      by_cases h3 : isL (bt s i) = true
      · rw [if_pos h3, if_pos h3]
        exact readName_at s i w hi (by omega)
      · rw [if_neg h3, if_neg h3]
        exact readSign_at s i w hi hT

end Go.Proofs.YtinndpnilmmmjaaGreatDoor
