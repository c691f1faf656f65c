import Derived.Test.YtinndpnilmmmjaaGreatDoorMRel
import Derived.Test.YtinndpnilmmmjaaGreatDoorMTree
import Derived.Test.YtinndpnilmmmjaaGreatDoorMRune
namespace Go.Proofs.YtinndpnilmmmjaaGreatDoor
open Go.RowKit

/-- What a token that is a name is read from. -/
theorem tok_name {s : ByteArray} {i : Nat} (hc : (tokAt s i).c = 0) (h3 : (tokAt s i).k = 3) : isL (bt s i) = true ∧ ¬ 20 < endOf isLD s i - i ∧ (tokAt s i).t = s.extract i (endOf isLD s i) := by
  unfold tokAt at hc h3 ⊢
  by_cases c1 : isD (bt s i) = true ∨ high s i = true
  · rw [if_pos c1] at hc h3
    exfalso
    obtain ⟨f, hf⟩ : ∃ f, (if high s i = true then i + 2 else i) = f := ⟨_, rfl⟩
    obtain ⟨e, he⟩ : ∃ e, endOf isD s f = e := ⟨_, rfl⟩
    by_cases hb : e = f ∨ (e < s.size ∧ isL (bt s e) = true) ∨ high s e = true
    · rw [numTok_bad hf he hb] at hc; simp [bad] at hc
    · by_cases hv : 1000000000000000 < decV s f (e - f)
      · rw [numTok_big hf he hb hv] at hc; simp [bad] at hc
      · rw [numTok_ok hf he hb hv] at h3
        exact absurd (show (1 : Int) = 3 from h3) (by decide)
  · rw [if_neg c1] at hc h3 ⊢
    by_cases c2 : bt s i = 39
    · rw [if_pos c2] at hc h3
      exfalso
      have key : ∀ (f p : Nat) (out : List UInt8), (textTok s f p out).c = 0 → (textTok s f p out).k = 2 := by
        intro f
        induction f with
        | zero => intro p out h; rw [textTok] at h; simp [bad] at h
        | succ f ih =>
          intro p out h
          rw [textTok] at h ⊢
          by_cases d1 : p < s.size
          · rw [if_pos d1] at h ⊢
            by_cases d2 : bt s p = 39
            · rw [if_pos d2] at h ⊢
              by_cases d3 : quotes s p = true
              · rw [if_pos d3] at h ⊢; exact ih _ _ h
              · rw [if_neg d3]
            · rw [if_neg d2] at h ⊢
              by_cases d3 : (runeAt s p).2 = 0 ∨ bt s p = 10
              · rw [if_pos d3] at h; simp [bad] at h
              · rw [if_neg d3] at h ⊢; exact ih _ _ h
          · rw [if_neg d1] at h; simp [bad] at h
      rw [key _ _ _ hc] at h3
      exact absurd h3 (by decide)
    · rw [if_neg c2] at hc h3 ⊢
      by_cases c3 : isL (bt s i) = true
      · rw [if_pos c3] at hc ⊢
        unfold nameTok at hc ⊢
        by_cases c4 : 20 < endOf isLD s i - i
        · rw [if_pos c4] at hc; simp [bad] at hc
        · rw [if_neg c4]; exact ⟨c3, c4, rfl⟩
      · rw [if_neg c3] at hc h3
        unfold signTok at hc h3
        by_cases c4 : 0 < (runeAt s i).2 ∧ (runeAt s i).1 ∈ signCs
        · rw [if_pos c4] at h3; exact absurd (show (4 : Int) = 3 from h3) (by decide)
        · rw [if_neg c4] at hc; simp [bad] at hc

theorem back_of {k n : Int} {t x : ByteArray} (h : backB k n t (lexT x) = true) : ∃ y c p, lexT x = ([y], c, p) ∧ c = 0 ∧ y.k = k ∧ y.n = n ∧ y.t = t := by
  obtain ⟨r, hr⟩ : ∃ r, lexT x = r := ⟨_, rfl⟩
  rw [hr] at h ⊢
  unfold backB at h
  split at h
  · rename_i y c p
    simp only [Bool.and_eq_true, decide_eq_true_eq] at h
    exact ⟨y, c, p, rfl, h.1.1.1, h.1.1.2, h.1.2, h.2⟩
  · cases h

theorem name_tok (s : ByteArray) : (tokText 3 0 s).size ≠ 0 ↔ (1 ≤ s.size ∧ s.size ≤ 20 ∧ isL (bt s 0) = true ∧ ∀ i, i < s.size → isLD (bt s i) = true) := by
  have hsp : spellT 3 0 s = s := rfl
  constructor
  · intro h
    unfold tokText at h
    rw [hsp] at h
    by_cases hb : backB 3 0 s (lexT s) = true
    case neg => rw [if_neg hb] at h; exact absurd rfl h
    rw [if_pos hb] at h
    obtain ⟨y, c, p, hl, hc, hk, hn, ht⟩ := back_of hb
    subst hc
    have hs : ¬ 2000 < s.size := fun h' => by unfold lexT at hl; rw [if_pos h'] at hl; simp at hl
    have hl2 : lexR s (s.size + 1) 0 [] = ([y], 0, p) := by unfold lexT at hl; rw [if_neg hs] at hl; exact hl
    obtain ⟨more, hm, hx⟩ := lexR_pre (s := s) (s.size + 1) 0 [] (Nat.zero_le _) (by rw [hl2])
    rw [hl2] at hm
    have hm' : more = [y] := by simpa using hm.symm
    obtain ⟨h1, h2, h3⟩ := hx y (by rw [hm']; simp)
    have ek : (tokAt s y.p).k = y.k := (congrArg Tok.k h3).symm
    have et : (tokAt s y.p).t = y.t := (congrArg Tok.t h3).symm
    obtain ⟨a1, a2, a3⟩ := tok_name h2 (by rw [ek, hk])
    rw [et, ht] at a3
    have hz := congrArg ByteArray.size a3
    rw [ByteArray.size_extract] at hz
    have he := endOf_le isLD s y.p (by omega)
    have hp0 : y.p = 0 := by omega
    rw [hp0] at a1 a2 hz he
    have hee : endOf isLD s 0 = s.size := by omega
    exact ⟨by omega, by omega, a1, fun i hi => (endOf_in (p := isLD) (i := 0) (k := i) (by omega) (by omega)).2⟩
  · rintro ⟨h1, h2, h3, h4⟩
    have hee : endOf isLD s 0 = s.size := by
      have := endOf_is (p := isLD) (s := s) s.size 0 (fun j hj => ⟨by omega, by rw [Nat.zero_add]; exact h4 j hj⟩) (by omega)
      omega
    have ha := again_name (s := s) (p := 0) (e := s.size) (by omega) h3 hee (by omega)
    have hx : s.extract 0 s.size = s := ByteArray.extract_zero_size
    rw [hx] at ha
    have := text_of_again (k := 3) (n := 0) (t := s) ha (by rw [hsp]; omega)
    rw [this, hsp]
    omega

theorem name_ok (s : ByteArray) (hi : Bool) : nameB s hi = (decide ((tokText 3 0 s).size ≠ 0) && (decide (bt s 0 ≤ 90) == hi)) := by
  unfold nameB
  rw [decide_eq_decide.2 (name_tok s).symm]

/-- A text can be written. -/
def txtB (s : ByteArray) : Bool := decide ((tokText 2 0 s).size ≠ 0)

theorem txt_small {s : ByteArray} (h : 2000 < s.size) : txtB s = false := by
  unfold txtB
  refine decide_eq_false fun hh => hh ?_
  unfold tokText
  have hz : 2000 < (spellT 2 0 s).size := by
    show 2000 < (quoteL s.data.toList).toArray.size
    have := (qd_len s.data.toList).2
    rw [← Lib.size_eq] at this
    unfold quoteL
    unfold qd at this
    rw [List.size_toArray, List.length_cons, List.length_append]
    omega
  have hb : backB 2 0 s (lexT (spellT 2 0 s)) = false := by unfold lexT; rw [if_pos hz]; rfl
  rw [hb]
  rfl

end Go.Proofs.YtinndpnilmmmjaaGreatDoor
namespace Go.Proofs.YtinndpnilmmmjaaGreatDoor
open Go.RowKit

theorem letterOk (c : Nat) (r : Bool) (h : isL c = r) (W : World) : Calls Tryz.prog 115 #[.int .u8 (c : Nat)] W fun e w' => e = .returned (.bool r) ∧ w' = W := by rw [← h]; exact l1Letter_any c W
theorem digitOk (c : Nat) (r : Bool) (h : isD c = r) (W : World) : Calls Tryz.prog 116 #[.int .u8 (c : Nat)] W fun e w' => e = .returned (.bool r) ∧ w' = W := by rw [← h]; exact l1Digit_any c W

theorem nameB_no {s : ByteArray} {hi : Bool} (h : ¬ (1 ≤ s.size ∧ s.size ≤ 20 ∧ isL (bt s 0) = true ∧ ∀ i, i < s.size → isLD (bt s i) = true)) : nameB s hi = false := by
  unfold nameB
  rw [decide_eq_false h]
  rfl

set_option maxHeartbeats 4000000 in
theorem l2Name_any (s : ByteArray) (hi : Bool) (w : World) (hs : s.size ≤ 1048576) : Calls Tryz.prog 56 #[.string s, .bool hi] w fun e w' => e = .returned (.bool (nameB s hi)) ∧ w' = w := by
  obtain ⟨r, hr⟩ : ∃ r, nameB s hi = r := ⟨_, rfl⟩
  rw [hr]
  have HR := hide hr
  clear hr
  by_cases h0 : s.size < 1
  · have hg : (s.size : Int) < 1 := by omega
    have HE : Hid (false = r) := by show _ = _; rw [← unhide HR, nameB_no (by omega)]
    clear h0
    go_enter Tryz.func56, Tryz.ntmps56
    go_wp2_with fail
    go_ret
    exact ⟨ret_bool (unhide HE), rfl⟩
  have hg0 : ¬ (s.size : Int) < 1 := by omega
  by_cases h1 : 20 < s.size
  · have hg : (20 : Int) < (s.size : Int) := by omega
    have HE : Hid (false = r) := by show _ = _; rw [← unhide HR, nameB_no (by omega)]
    clear h0 h1
    go_enter Tryz.func56, Tryz.ntmps56
    go_wp2_with fail
    go_ret
    exact ⟨ret_bool (unhide HE), rfl⟩
  have hg1 : ¬ (20 : Int) < (s.size : Int) := by omega
  have hi0 : ∀ W, (Instr.index 9 (.string s) (.int .i64 0)).run Tryz.prog W = .ok (.int .u8 (bt s 0 : Nat)) W := fun W => run_idx (s := s) (k := 0) (by omega) W
  have HNO := hide (fun (h : ¬ (1 ≤ s.size ∧ s.size ≤ 20 ∧ isL (bt s 0) = true ∧ ∀ i, i < s.size → isLD (bt s i) = true)) => (nameB_no (hi := hi) h).symm.trans (unhide HR))
  have HYES : Hid ((∀ i, i < s.size → isLD (bt s i) = true) → isL (bt s 0) = true → (decide (bt s 0 ≤ 90) == hi) = r) := fun h h' => by
    rw [← unhide HR]
    unfold nameB
    rw [decide_eq_true (show 1 ≤ s.size ∧ s.size ≤ 20 ∧ isL (bt s 0) = true ∧ ∀ i, i < s.size → isLD (bt s i) = true from ⟨by omega, by omega, h', h⟩)]
    rfl
  obtain ⟨c, hc⟩ : ∃ c, bt s 0 = c := ⟨_, rfl⟩
  rw [hc] at hi0 HNO HYES
  clear hc HR
  cases h2 : isL c with
  | false =>
    have HL := hide (fun W => letterOk c false h2 W)
    have HE : Hid (false = r) := unhide HNO (by rw [h2]; simp)
    clear h0 h1 h2
    go_enter Tryz.func56, Tryz.ntmps56
    go_wp2_with (first | (go_at_call 115; refine (unhide HL _).mono ?_; rintro e w1 ⟨rfl, rfl⟩))
    go_ret
    exact ⟨ret_bool (unhide HE), rfl⟩
  | true =>
    have HL := hide (fun W => letterOk c true h2 W)
    have H2 := hide h2
    clear h2
    go_enter Tryz.func56, Tryz.ntmps56
    go_wp2_with (first | (go_at_call 115; refine (unhide HL _).mono ?_; rintro e w1 ⟨rfl, rfl⟩))
    clear HL
    go_loopw [5] (fun i wr => ∃ k : Nat, k ≤ s.size ∧ i = .int .i64 k ∧ Hid (∀ i, i < k → isLD (bt s i) = true) ∧ wr = w1) (fun i _ => s.size - (intOf i).toNat)
    case atStart => exact ⟨0, Nat.zero_le _, rfl, fun i hi => absurd hi (Nat.not_lt_zero _), rfl⟩
    case round =>
      obtain ⟨k, hk, rfl, HA, rfl⟩ := hrel
      by_cases hlt : k < s.size
      · have hlti : (k : Int) < (s.size : Int) := by omega
        have hik := fun W => run_idx (s := s) (k := k) hlt W
        have HST : Hid (isLD (bt s k) = true → ∀ i, i < k + 1 → isLD (bt s i) = true) := fun h i hi => by
          by_cases e : i = k
          · subst e; exact h
          · exact unhide HA i (by omega)
        have HBAD : Hid (isLD (bt s k) = false → false = r) := fun h => unhide HNO (fun hh => by have := hh.2.2.2 k hlt; rw [h] at this; cases this)
        obtain ⟨d, hd⟩ : ∃ d, bt s k = d := ⟨_, rfl⟩
        rw [hd] at hik HST HBAD
        clear hd HA
        cases h3 : isL d with
        | true =>
          have HL := hide (fun W => letterOk d true h3 W)
          have HT : Hid (∀ i, i < k + 1 → isLD (bt s i) = true) := unhide HST (by unfold isLD; rw [h3]; rfl)
          clear h3 HST HBAD hi0
          go_wp2_with (first | (go_at_call 115; refine (unhide HL _).mono ?_; rintro e w1 ⟨rfl, rfl⟩))
          go_roundw
          case rel => exact ⟨k + 1, by omega, by go_num, HT, trivial⟩
          case measure => simp [intOf]; omega
        | false =>
          have HL := hide (fun W => letterOk d false h3 W)
          cases h4 : isD d with
          | true =>
            have HD := hide (fun W => digitOk d true h4 W)
            have HT : Hid (∀ i, i < k + 1 → isLD (bt s i) = true) := unhide HST (by unfold isLD; rw [h3, h4]; rfl)
            clear h3 h4 HST HBAD hi0
            go_wp2_with (first | (go_at_call 115; refine (unhide HL _).mono ?_; rintro e w1 ⟨rfl, rfl⟩) | (go_at_call 116; refine (unhide HD _).mono ?_; rintro e w1 ⟨rfl, rfl⟩))
            go_roundw
            case rel => exact ⟨k + 1, by omega, by go_num, HT, trivial⟩
            case measure => simp [intOf]; omega
          | false =>
            have HD := hide (fun W => digitOk d false h4 W)
            have HE : Hid (false = r) := unhide HBAD (by unfold isLD; rw [h3, h4]; rfl)
            clear h3 h4 HST HBAD hi0
            go_wp2_with (first | (go_at_call 115; refine (unhide HL _).mono ?_; rintro e w1 ⟨rfl, rfl⟩) | (go_at_call 116; refine (unhide HD _).mono ?_; rintro e w1 ⟨rfl, rfl⟩))
            go_ret
            exact ⟨ret_bool (unhide HE), rfl⟩
      · have hkn : k = s.size := by omega
        have hlti : ¬ (k : Int) < (s.size : Int) := by omega
        have HE : Hid ((decide (c ≤ 90) == hi) = r) := unhide HYES (by rw [← hkn]; exact unhide HA) (unhide H2)
        clear HA HNO HYES H2
        go_wp2_with fail
        go_ret
        exact ⟨ret_bool (by rw [← unhide HE]; exact congrArg (· == hi) (decide_eq_decide.2 (by omega))), rfl⟩

end Go.Proofs.YtinndpnilmmmjaaGreatDoor
