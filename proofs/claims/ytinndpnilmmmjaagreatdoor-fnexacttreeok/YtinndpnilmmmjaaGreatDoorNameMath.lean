import Derived.Test.YtinndpnilmmmjaaGreatDoorMFit2
import Derived.Test.YtinndpnilmmmjaaGreatDoorMFit0
namespace Go.Proofs.YtinndpnilmmmjaaGreatDoor
open Go.RowKit

/-- What a token that is a name is read from. -/
theorem tok_name {s : ByteArray} {i : Nat} (hc : (tokAt s i).c = 0) (h3 : (tokAt s i).k = 3) : isL (bt s i) = true ∧ ¬ 20 < endOf isLD s i - i ∧ (tokAt s i).t = s.extract i (endOf isLD s i) := by
  unfold tokAt at hc h3 ⊢
  by_cases c1 : isD (bt s i) = true ∨ high s i = true
  · rw [if_pos c1] at hc h3
    exfalso
    obtain ⟨f, hf⟩ : ∃ f, (if high s i = true then i + 2 else i) = f := ⟨_, rfl⟩
    obtain ⟨e, he⟩ : ∃ e, endOf isD s f = e := ⟨_, rfl⟩
    by_cases hb : e = f ∨ (e < s.size ∧ isL (bt s e) = true) ∨ high s e = true
    · rw [numTok_bad hf he hb] at hc; simp [bad] at hc
    · by_cases hv : 1000000000000000 < decV s f (e - f)
      · rw [numTok_big hf he hb hv] at hc; simp [bad] at hc
      · rw [numTok_ok hf he hb hv] at h3
        exact absurd (show (1 : Int) = 3 from h3) (by decide)
  · rw [if_neg c1] at hc h3 ⊢
    by_cases c2 : bt s i = 39
    · rw [if_pos c2] at hc h3
      exfalso
      have key : ∀ (f p : Nat) (out : List UInt8), (textTok s f p out).c = 0 → (textTok s f p out).k = 2 := by
        intro f
        induction f with
        | zero => intro p out h; rw [textTok] at h; simp [bad] at h
        | succ f ih =>
          intro p out h
          rw [textTok] at h ⊢
          by_cases d1 : p < s.size
          · rw [if_pos d1] at h ⊢
            by_cases d2 : bt s p = 39
            · rw [if_pos d2] at h ⊢
              by_cases d3 : quotes s p = true
              · rw [if_pos d3] at h ⊢; exact ih _ _ h
              · rw [if_neg d3]
            · rw [if_neg d2] at h ⊢
              by_cases d3 : (runeAt s p).2 = 0 ∨ bt s p = 10
              · rw [if_pos d3] at h; simp [bad] at h
              · rw [if_neg d3] at h ⊢; exact ih _ _ h
          · rw [if_neg d1] at h; simp [bad] at h
      rw [key _ _ _ hc] at h3
      exact absurd h3 (by decide)
    · rw [if_neg c2] at hc h3 ⊢
      by_cases c3 : isL (bt s i) = true
      · rw [if_pos c3] at hc ⊢
        unfold nameTok at hc ⊢
        by_cases c4 : 20 < endOf isLD s i - i
        · rw [if_pos c4] at hc; simp [bad] at hc
        · rw [if_neg c4]; exact ⟨c3, c4, rfl⟩
      · rw [if_neg c3] at hc h3
        unfold signTok at hc h3
        by_cases c4 : 0 < (runeAt s i).2 ∧ (runeAt s i).1 ∈ signCs
        · rw [if_pos c4] at h3; exact absurd (show (4 : Int) = 3 from h3) (by decide)
        · rw [if_neg c4] at hc; simp [bad] at hc

theorem back_of {k n : Int} {t x : ByteArray} (h : backB k n t (lexT x) = true) : ∃ y c p, lexT x = ([y], c, p) ∧ c = 0 ∧ y.k = k ∧ y.n = n ∧ y.t = t := by
  obtain ⟨r, hr⟩ : ∃ r, lexT x = r := ⟨_, rfl⟩
  rw [hr] at h ⊢
  unfold backB at h
  split at h
  · rename_i y c p
    simp only [Bool.and_eq_true, decide_eq_true_eq] at h
    exact ⟨y, c, p, rfl, h.1.1.1, h.1.1.2, h.1.2, h.2⟩
  · cases h

theorem name_tok (s : ByteArray) : (tokText 3 0 s).size ≠ 0 ↔ (1 ≤ s.size ∧ s.size ≤ 20 ∧ isL (bt s 0) = true ∧ ∀ i, i < s.size → isLD (bt s i) = true) := by
  have hsp : spellT 3 0 s = s := rfl
  constructor
  · intro h
    unfold tokText at h
    rw [hsp] at h
    by_cases hb : backB 3 0 s (lexT s) = true
    case neg => rw [if_neg hb] at h; exact absurd rfl h
    rw [if_pos hb] at h
    obtain ⟨y, c, p, hl, hc, hk, hn, ht⟩ := back_of hb
    subst hc
    have hs : ¬ 2000 < s.size := fun h' => by unfold lexT at hl; rw [if_pos h'] at hl; simp at hl
    have hl2 : lexR s (s.size + 1) 0 [] = ([y], 0, p) := by unfold lexT at hl; rw [if_neg hs] at hl; exact hl
    obtain ⟨more, hm, hx⟩ := lexR_pre (s := s) (s.size + 1) 0 [] (Nat.zero_le _) (by rw [hl2])
    rw [hl2] at hm
    have hm' : more = [y] := by simpa using hm.symm
    obtain ⟨h1, h2, h3⟩ := hx y (by rw [hm']; simp)
    have ek : (tokAt s y.p).k = y.k := (congrArg Tok.k h3).symm
    have et : (tokAt s y.p).t = y.t := (congrArg Tok.t h3).symm
    obtain ⟨a1, a2, a3⟩ := tok_name h2 (by rw [ek, hk])
    rw [et, ht] at a3
    have hz := congrArg ByteArray.size a3
    rw [ByteArray.size_extract] at hz
    have he := endOf_le isLD s y.p (by omega)
    have hp0 : y.p = 0 := by omega
    rw [hp0] at a1 a2 hz he
    have hee : endOf isLD s 0 = s.size := by omega
    exact ⟨by omega, by omega, a1, fun i hi => (endOf_in (p := isLD) (i := 0) (k := i) (by omega) (by omega)).2⟩
  · rintro ⟨h1, h2, h3, h4⟩
    have hee : endOf isLD s 0 = s.size := by
      have := endOf_is (p := isLD) (s := s) s.size 0 (fun j hj => ⟨by omega, by rw [Nat.zero_add]; exact h4 j hj⟩) (by omega)
      omega
    have ha := again_name (s := s) (p := 0) (e := s.size) (by omega) h3 hee (by omega)
    have hx : s.extract 0 s.size = s := ByteArray.extract_zero_size
    rw [hx] at ha
    have := text_of_again (k := 3) (n := 0) (t := s) ha (by rw [hsp]; omega)
    rw [this, hsp]
    omega

theorem name_ok (s : ByteArray) (hi : Bool) : nameB s hi = (decide ((tokText 3 0 s).size ≠ 0) && (decide (bt s 0 ≤ 90) == hi)) := by
  unfold nameB
  rw [decide_eq_decide.2 (name_tok s).symm]

/-- A text can be written. -/
def txtB (s : ByteArray) : Bool := decide ((tokText 2 0 s).size ≠ 0)

theorem txt_small {s : ByteArray} (h : 2000 < s.size) : txtB s = false := by
  unfold txtB
  refine decide_eq_false fun hh => hh ?_
  unfold tokText
  have hz : 2000 < (spellT 2 0 s).size := by
    show 2000 < (quoteL s.data.toList).toArray.size
    have := (qd_len s.data.toList).2
    rw [← Lib.size_eq] at this
    unfold quoteL
    unfold qd at this
    rw [List.size_toArray, List.length_cons, List.length_append]
    omega
  have hb : backB 2 0 s (lexT (spellT 2 0 s)) = false := by unfold lexT; rw [if_pos hz]; rfl
  rw [hb]
  rfl

end Go.Proofs.YtinndpnilmmmjaaGreatDoor
