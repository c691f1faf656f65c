import Derived.Test.YtijamlgiinjikaaGreatDoorMFit1
import Derived.Test.YtijamlgiinjikaaGreatDoorMFit1
namespace Go.Proofs.YtijamlgiinjikaaGreatDoor
open Go.RowKit

/-- A character within a text. -/
def isIn (v : Nat) : Bool := !(decide (v = 39)) && !(decide (v = 10))

theorem enc_list (v : Nat) (x b : ByteArray) (hx : Utf8.encode (v : Int) = x) (c : Nat) (he : Utf8.encode (v : Int) = b ↔ v = c) : x.toList = b.toList ↔ v = c := by
  rw [← hx, ← he, Lib.toList_data, Lib.toList_data]
  exact ⟨fun e => ByteArray.ext (Array.toList_inj.1 e), fun e => by rw [e]⟩

set_option maxRecDepth 20000 in
theorem enc39 (v : Nat) (x : ByteArray) (hx : Utf8.encode (v : Int) = x) : x.toList = [39] ↔ v = 39 := by
  have e := enc_list v x ⟨#[39]⟩ hx 39 (enc_one v 39 (by omega))
  simp only [Lib.toList_data] at e ⊢
  exact e

set_option maxRecDepth 20000 in
theorem enc175 (v : Nat) (x : ByteArray) (hx : Utf8.encode (v : Int) = x) : x.toList = [194, 175] ↔ v = 175 := by
  have e := enc_list v x ⟨#[194, 175]⟩ hx 175 (enc_high v)
  simp only [Lib.toList_data] at e ⊢
  exact e

theorem conv_any (v : Nat) (x : ByteArray) (hx : Utf8.encode (v : Int) = x) (w : World) : (convert 21 9 (.int .i32 (v : Int))).run Tryz.prog w = .ok (.string x) w := by
  rw [← hx]
  exact run_convert_int_string w _ _ .i32 _ (by kernel_rfl) (by kernel_rfl)

set_option maxRecDepth 20000 in
theorem implWithin_any (v : Nat) (w : World) : Calls Tryz.prog 45 #[.int .i32 (v : Nat)] w fun e w' => e = .returned (.bool (isIn v)) ∧ w' = w := by
  obtain ⟨r, hr⟩ : ∃ r, isIn v = r := ⟨_, rfl⟩
  rw [hr]
  have HR := hide hr
  clear hr
  obtain ⟨x, hx⟩ : ∃ x, Utf8.encode (v : Int) = x := ⟨_, rfl⟩
  have he := enc39 v x hx
  have hcv := conv_any v x hx
  clear hx
  by_cases h1 : v = 39
  · have hq := he.2 h1
    have HX := hide h1
    clear h1 he
    go_enter Tryz.func45, Tryz.ntmps45
    go_wp2
    go_ret
    exact ⟨ret_bool (by rw [← unhide HR, isIn, decide_eq_true (unhide HX)]; rfl), rfl⟩
  · have hq : ¬ x.toList = [39] := fun h => h1 (he.1 h)
    have HX := hide h1
    clear h1 he
    go_enter Tryz.func45, Tryz.ntmps45
    go_wp2
    go_ret
    refine ⟨ret_bool ?_, rfl⟩
    rw [← unhide HR, isIn, decide_eq_false (unhide HX)]
    by_cases h2 : v = 10
    · subst h2; simp
    · have h2i : ¬ (v : Int) = 10 := by omega
      rw [decide_eq_false h2]; simp [h2i, hq]

theorem eg_in : ∀ args w, (callFunc 45 args).run Tryz.prog w = .ok (.enter 45 args) w := enters_of Tryz.func45 (by kernel_rfl) rfl

/-- Which reader reads. -/
def readerN (v : Nat) : Nat := if isD v = true ∨ v = 175 then 30 else if v = 39 then 31 else if isL v = true then 33 else 34

set_option maxRecDepth 20000 in
set_option maxHeartbeats 2000000 in
theorem readerOf_any (v : Nat) (w : World) : Calls Tryz.prog 16 #[.int .i32 (v : Nat)] w fun e w' => e = .returned (.func (.func (readerN v)) #[] #[]) ∧ w' = w := by
  have HD := hide (implDigit_any v w)
  have HL := hide (implLetter_any v w)
  obtain ⟨x, hx⟩ : ∃ x, Utf8.encode (v : Int) = x := ⟨_, rfl⟩
  have he39 := enc39 v x hx
  have he175 := enc175 v x hx
  have hcv := conv_any v x hx
  clear hx
  cases hd : isD v with
  | true =>
    have HE : Hid (readerN v = 30) := hide (by unfold readerN; rw [if_pos (Or.inl hd)])
    rw [hd] at HD
    clear HL he39 he175
    go_enter Tryz.func16, Tryz.ntmps16
    go_wp2_with (go_at_call 29; refine (unhide HD).mono ?_; rintro e w1 ⟨rfl, hw⟩; obtain rfl := hw.symm)
    go_ret
    exact ⟨by rw [unhide HE]; rfl, rfl⟩
  | false =>
    rw [hd] at HD
    by_cases h1 : v = 175
    · have HE : Hid (readerN v = 30) := hide (by unfold readerN; rw [if_pos (Or.inr h1)])
      have he := he175.2 h1
      clear HL h1 hd he39 he175
      go_enter Tryz.func16, Tryz.ntmps16
      go_wp2_with (go_at_call 29; refine (unhide HD).mono ?_; rintro e w1 ⟨rfl, hw⟩; obtain rfl := hw.symm)
      go_ret
      exact ⟨by rw [unhide HE]; rfl, rfl⟩
    · have he : ¬ x.toList = [194, 175] := fun h => h1 (he175.1 h)
      have heb : (x.toList == [194, 175]) = false := beq_eq_false_iff_ne.2 he
      have hno : ¬ (isD v = true ∨ v = 175) := by rw [hd]; simp [h1]
      clear h1 hd he175
      by_cases h2 : v = 39
      · have HE : Hid (readerN v = 31) := hide (by unfold readerN; rw [if_neg hno, if_pos h2])
        have he2 := he39.2 h2
        clear HL h2 hno he39 he heb
        go_enter Tryz.func16, Tryz.ntmps16
        go_wp2_with (go_at_call 29; refine (unhide HD).mono ?_; rintro e w1 ⟨rfl, hw⟩; obtain rfl := hw.symm)
        go_ret
        exact ⟨by rw [unhide HE]; rfl, rfl⟩
      · have he2 : ¬ x.toList = [39] := fun h => h2 (he39.1 h)
        have heb2 : (x.toList == [39]) = false := beq_eq_false_iff_ne.2 he2
        cases hl : isL v with
        | true =>
          have HE : Hid (readerN v = 33) := hide (by unfold readerN; rw [if_neg hno, if_neg h2, if_pos hl])
          rw [hl] at HL
          clear h2 hno hl he39
          go_enter Tryz.func16, Tryz.ntmps16
          go_wp2_with (first | (go_at_call 29; refine (unhide HD).mono ?_; rintro e w1 ⟨rfl, hw⟩; obtain rfl := hw.symm) | (go_at_call 32; refine (unhide HL).mono ?_; rintro e w1 ⟨rfl, hw⟩; obtain rfl := hw.symm))
          go_ret
          exact ⟨by rw [unhide HE]; rfl, rfl⟩
        | false =>
          have HE : Hid (readerN v = 34) := hide (by unfold readerN; rw [if_neg hno, if_neg h2, if_neg (by rw [hl]; decide)])
          rw [hl] at HL
          clear h2 hno hl he39
          go_enter Tryz.func16, Tryz.ntmps16
          go_wp2_with (first | (go_at_call 29; refine (unhide HD).mono ?_; rintro e w1 ⟨rfl, hw⟩; obtain rfl := hw.symm) | (go_at_call 32; refine (unhide HL).mono ?_; rintro e w1 ⟨rfl, hw⟩; obtain rfl := hw.symm))
          go_ret
          exact ⟨by rw [unhide HE]; rfl, rfl⟩

end Go.Proofs.YtijamlgiinjikaaGreatDoor
