import Derived.Test.YtagomkpnmdpaiaaGreatDoorMSha
import Derived.Test.YtagomkpnmdpaiaaGreatDoorImplName
namespace Go.Proofs.YtagomkpnmdpaiaaGreatDoor
open Go.RowKit

theorem enc_one (v c : Nat) (hc : c < 128) : Utf8.encode (v : Int) = ⟨#[UInt8.ofNat c]⟩ ↔ v = c := by
  constructor
  · intro h
    have hsz := congrArg (fun b : ByteArray => b.data.toList) h
    by_cases hv : Utf8.valid (v : Int) = true
    · by_cases h1 : v < 128
      · unfold Utf8.encode at hsz
        simp only [hv, if_true, Int.toNat_natCast, if_pos h1] at hsz
        have e := congrArg (fun l : List UInt8 => (l.headD 0).toNat) hsz
        change (UInt8.ofNat v).toNat = (UInt8.ofNat c).toNat at e
        rw [UInt8.toNat_ofNat', UInt8.toNat_ofNat'] at e
        omega
      · have := (encode_facts v hv (by omega)).1
        rw [h] at this
        exact absurd this (by show ¬ 2 ≤ 1; omega)
    · unfold Utf8.encode at hsz
      simp [hv, Utf8.runeError] at hsz
  · rintro rfl
    have hv : Utf8.valid (v : Int) = true := by unfold Utf8.valid; simp; omega
    unfold Utf8.encode
    simp only [hv, if_true, Int.toNat_natCast, if_pos hc]

theorem enc_high (v : Nat) : Utf8.encode (v : Int) = ⟨#[194, 175]⟩ ↔ v = 175 := by
  constructor
  · intro h
    have hsz := congrArg (fun b : ByteArray => b.data.toList) h
    by_cases hv : Utf8.valid (v : Int) = true
    · unfold Utf8.encode at hsz
      simp only [hv, if_true, Int.toNat_natCast] at hsz
      by_cases h1 : v < 128
      · rw [if_pos h1] at hsz; simp at hsz
      · rw [if_neg h1] at hsz
        by_cases h2 : v < 2048
        · rw [if_pos h2] at hsz
          have a := congrArg (fun l : List UInt8 => (l.headD 0).toNat) hsz
          have b := congrArg (fun l : List UInt8 => (l.tail.headD 0).toNat) hsz
          change (UInt8.ofNat (192 + v / 64)).toNat = 194 at a
          change (UInt8.ofNat (128 + v % 64)).toNat = 175 at b
          rw [UInt8.toNat_ofNat'] at a b
          omega
        · rw [if_neg h2] at hsz
          split at hsz <;> simp at hsz
    · unfold Utf8.encode at hsz
      simp [hv, Utf8.runeError] at hsz
  · rintro rfl
    decide

end Go.Proofs.YtagomkpnmdpaiaaGreatDoor
namespace Go.Proofs.YtagomkpnmdpaiaaGreatDoor
open Go.RowKit

/-- A character within a text. -/
def isIn (v : Nat) : Bool := !(decide (v = 39)) && !(decide (v = 10))

theorem enc_list (v : Nat) (x b : ByteArray) (hx : Utf8.encode (v : Int) = x) (c : Nat) (he : Utf8.encode (v : Int) = b ↔ v = c) : x.toList = b.toList ↔ v = c := by
  rw [← hx, ← he, Lib.toList_data, Lib.toList_data]
  exact ⟨fun e => ByteArray.ext (Array.toList_inj.1 e), fun e => by rw [e]⟩

set_option maxRecDepth 20000 in
theorem enc39 (v : Nat) (x : ByteArray) (hx : Utf8.encode (v : Int) = x) : x.toList = [39] ↔ v = 39 := by
  have e := enc_list v x ⟨#[39]⟩ hx 39 (enc_one v 39 (by omega))
  simp only [Lib.toList_data] at e ⊢
  exact e

set_option maxRecDepth 20000 in
theorem enc175 (v : Nat) (x : ByteArray) (hx : Utf8.encode (v : Int) = x) : x.toList = [194, 175] ↔ v = 175 := by
  have e := enc_list v x ⟨#[194, 175]⟩ hx 175 (enc_high v)
  simp only [Lib.toList_data] at e ⊢
  exact e

theorem conv_any (v : Nat) (x : ByteArray) (hx : Utf8.encode (v : Int) = x) (w : World) : (convert 21 9 (.int .i32 (v : Int))).run Tryz.prog w = .ok (.string x) w := by
  rw [← hx]
  exact run_convert_int_string w _ _ .i32 _ (by kernel_rfl) (by kernel_rfl)

set_option maxRecDepth 20000 in
theorem implWithin_any (v : Nat) (w : World) : Calls Tryz.prog 45 #[.int .i32 (v : Nat)] w fun e w' => e = .returned (.bool (isIn v)) ∧ w' = w := by
  obtain ⟨r, hr⟩ : ∃ r, isIn v = r := ⟨_, rfl⟩
  rw [hr]
  have HR := hide hr
  clear hr
  obtain ⟨x, hx⟩ : ∃ x, Utf8.encode (v : Int) = x := ⟨_, rfl⟩
  have he := enc39 v x hx
  have hcv := conv_any v x hx
  clear hx
  by_cases h1 : v = 39
  · have hq := he.2 h1
    have HX := hide h1
    clear h1 he
    go_enter Tryz.func45, Tryz.ntmps45
    go_wp2
    go_ret
    exact ⟨ret_bool (by rw [← unhide HR, isIn, decide_eq_true (unhide HX)]; rfl), rfl⟩
  · have hq : ¬ x.toList = [39] := fun h => h1 (he.1 h)
    have HX := hide h1
    clear h1 he
    go_enter Tryz.func45, Tryz.ntmps45
    go_wp2
    go_ret
    refine ⟨ret_bool ?_, rfl⟩
    rw [← unhide HR, isIn, decide_eq_false (unhide HX)]
    by_cases h2 : v = 10
    · subst h2; simp
    · have h2i : ¬ (v : Int) = 10 := by omega
      rw [decide_eq_false h2]; simp [h2i, hq]

theorem eg_in : ∀ args w, (callFunc 45 args).run Tryz.prog w = .ok (.enter 45 args) w := enters_of Tryz.func45 (by kernel_rfl) rfl

/-- Which reader reads. -/
def readerN (v : Nat) : Nat := if isD v = true ∨ v = 175 then 30 else if v = 39 then 31 else if isL v = true then 33 else 34

set_option maxRecDepth 20000 in
set_option maxHeartbeats 2000000 in
theorem readerOf_any (v : Nat) (w : World) : Calls Tryz.prog 16 #[.int .i32 (v : Nat)] w fun e w' => e = .returned (.func (.func (readerN v)) #[] #[]) ∧ w' = w := by
  have HD := hide (implDigit_any v w)
  have HL := hide (implLetter_any v w)
  obtain ⟨x, hx⟩ : ∃ x, Utf8.encode (v : Int) = x := ⟨_, rfl⟩
  have he39 := enc39 v x hx
  have he175 := enc175 v x hx
  have hcv := conv_any v x hx
  clear hx
  cases hd : isD v with
  | true =>
    have HE : Hid (readerN v = 30) := hide (by unfold readerN; rw [if_pos (Or.inl hd)])
    rw [hd] at HD
    clear HL he39 he175
    go_enter Tryz.func16, Tryz.ntmps16
    go_wp2_with (go_at_call 29; refine (unhide HD).mono ?_; rintro e w1 ⟨rfl, hw⟩; obtain rfl := hw.symm)
    go_ret
    exact ⟨by rw [unhide HE]; rfl, rfl⟩
  | false =>
    rw [hd] at HD
    by_cases h1 : v = 175
    · have HE : Hid (readerN v = 30) := hide (by unfold readerN; rw [if_pos (Or.inr h1)])
      have he := he175.2 h1
      clear HL h1 hd he39 he175
      go_enter Tryz.func16, Tryz.ntmps16
      go_wp2_with (go_at_call 29; refine (unhide HD).mono ?_; rintro e w1 ⟨rfl, hw⟩; obtain rfl := hw.symm)
      go_ret
      exact ⟨by rw [unhide HE]; rfl, rfl⟩
    · have he : ¬ x.toList = [194, 175] := fun h => h1 (he175.1 h)
      have heb : (x.toList == [194, 175]) = false := beq_eq_false_iff_ne.2 he
      have hno : ¬ (isD v = true ∨ v = 175) := by rw [hd]; simp [h1]
      clear h1 hd he175
      by_cases h2 : v = 39
      · have HE : Hid (readerN v = 31) := hide (by unfold readerN; rw [if_neg hno, if_pos h2])
        have he2 := he39.2 h2
        clear HL h2 hno he39 he heb
        go_enter Tryz.func16, Tryz.ntmps16
        go_wp2_with (go_at_call 29; refine (unhide HD).mono ?_; rintro e w1 ⟨rfl, hw⟩; obtain rfl := hw.symm)
        go_ret
        exact ⟨by rw [unhide HE]; rfl, rfl⟩
      · have he2 : ¬ x.toList = [39] := fun h => h2 (he39.1 h)
        have heb2 : (x.toList == [39]) = false := beq_eq_false_iff_ne.2 he2
        cases hl : isL v with
        | true =>
          have HE : Hid (readerN v = 33) := hide (by unfold readerN; rw [if_neg hno, if_neg h2, if_pos hl])
          rw [hl] at HL
          clear h2 hno hl he39
          go_enter Tryz.func16, Tryz.ntmps16
          go_wp2_with (first | (go_at_call 29; refine (unhide HD).mono ?_; rintro e w1 ⟨rfl, hw⟩; obtain rfl := hw.symm) | (go_at_call 32; refine (unhide HL).mono ?_; rintro e w1 ⟨rfl, hw⟩; obtain rfl := hw.symm))
          go_ret
          exact ⟨by rw [unhide HE]; rfl, rfl⟩
        | false =>
          have HE : Hid (readerN v = 34) := hide (by unfold readerN; rw [if_neg hno, if_neg h2, if_neg (by rw [hl]; decide)])
          rw [hl] at HL
          clear h2 hno hl he39
          go_enter Tryz.func16, Tryz.ntmps16
          go_wp2_with (first | (go_at_call 29; refine (unhide HD).mono ?_; rintro e w1 ⟨rfl, hw⟩; obtain rfl := hw.symm) | (go_at_call 32; refine (unhide HL).mono ?_; rintro e w1 ⟨rfl, hw⟩; obtain rfl := hw.symm))
          go_ret
          exact ⟨by rw [unhide HE]; rfl, rfl⟩

end Go.Proofs.YtagomkpnmdpaiaaGreatDoor
namespace Go.Proofs.YtagomkpnmdpaiaaGreatDoor
open Go

theorem tail_list (s : ByteArray) (i : Nat) : (s.extract i s.size).data.toList = s.data.toList.drop i := by
  rw [sub_list, List.take_of_length_le]
  rw [List.length_drop, ← Lib.size_eq]
  exact Nat.le_refl _

theorem tail_tail (s : ByteArray) (i j : Nat) : (s.extract i s.size).extract j (s.extract i s.size).size = s.extract (i + j) s.size := by
  refine ByteArray.ext (Array.toList_inj.1 ?_)
  rw [tail_list, tail_list, tail_list, List.drop_drop]

/-- A quote stands at a place. -/
def quote1 (s : ByteArray) (i : Nat) : Bool := decide (i + 1 ≤ s.size ∧ bt s i = 39)

/-- Where the characters from a place on that stand within a text end. -/
def inEnd (s : ByteArray) (p : Nat) : Nat := p + stretchN isIn (s.extract p s.size)

/-- How a text is read from a place on: where it ends, and its bytes; none: it does not end. -/
def textR (s : ByteArray) : Nat → Nat → List UInt8 → Option (Nat × List UInt8)
  | 0, _, _ => none
  | f + 1, p, out =>
    if quote1 s (inEnd s p) = true then
      (if quote1 s (inEnd s p + 1) = true then textR s f (inEnd s p + 2) (out ++ (s.extract p (inEnd s p)).data.toList ++ [39]) else some (inEnd s p + 1, out ++ (s.extract p (inEnd s p)).data.toList))
    else none

end Go.Proofs.YtagomkpnmdpaiaaGreatDoor
