import Derived.Test.YtkjpgbecbggcoaaDoorMFit0
import Derived.Test.YtkjpgbecbggcoaaDoorMFit0
import Derived.Shelf.Abstract
import Derived.Laws.RangeAny
import Derived.Laws.Runes
import Derived.Lib.RuneCount
namespace Go.Proofs.YtkjpgbecbggcoaaDoor
open Go.RowKit

theorem implDigit_any (v : Nat) (w : World) : Calls Tryd.prog 35 #[.int .i32 (v : Nat)] w fun e w' => e = .returned (.bool (isD v)) ∧ w' = w := by
  obtain ⟨r, hr⟩ : ∃ r, isD v = r := ⟨_, rfl⟩
  rw [hr]
  have HR : Hid (decide (48 ≤ v ∧ v ≤ 57) = r) := hr
  clear hr
  by_cases h1 : 48 ≤ v
  · have h1i : (48 : Int) ≤ (v : Int) := by omega
    go_enter Tryd.func35, Tryd.ntmps35
    go_wp2
    go_ret
    refine ⟨ret_bool ?_, rfl⟩
    rw [← unhide HR]
    by_cases h2 : v ≤ 57
    · rw [decide_eq_true (by omega), decide_eq_true ⟨h1, h2⟩]
    · rw [decide_eq_false (by omega), decide_eq_false (by omega)]
  · have h1i : ¬ (48 : Int) ≤ (v : Int) := by omega
    go_enter Tryd.func35, Tryd.ntmps35
    go_wp2
    go_ret
    refine ⟨ret_bool ?_, rfl⟩
    rw [← unhide HR, decide_eq_false (by omega)]

theorem implLetter_any (v : Nat) (w : World) : Calls Tryd.prog 38 #[.int .i32 (v : Nat)] w fun e w' => e = .returned (.bool (isL v)) ∧ w' = w := by
  obtain ⟨r, hr⟩ : ∃ r, isL v = r := ⟨_, rfl⟩
  rw [hr]
  have HR : Hid ((decide (97 ≤ v ∧ v ≤ 122) || decide (65 ≤ v ∧ v ≤ 90)) = r) := hr
  clear hr
  by_cases h1 : 65 ≤ v
  · have h1i : (65 : Int) ≤ (v : Int) := by omega
    by_cases h2 : v ≤ 90
    · have h2i : (v : Int) ≤ 90 := by omega
      go_enter Tryd.func38, Tryd.ntmps38
      go_wp2
      go_ret
      refine ⟨ret_bool ?_, rfl⟩
      rw [← unhide HR, decide_eq_false (by omega), decide_eq_true ⟨h1, h2⟩]
      rfl
    · have h2i : ¬ (v : Int) ≤ 90 := by omega
      by_cases h3 : 97 ≤ v
      · have h3i : (97 : Int) ≤ (v : Int) := by omega
        go_enter Tryd.func38, Tryd.ntmps38
        go_wp2
        go_ret
        refine ⟨ret_bool ?_, rfl⟩
        rw [← unhide HR]
        by_cases h4 : v ≤ 122
        · rw [decide_eq_true (by omega), decide_eq_true ⟨h3, h4⟩]; rfl
        · rw [decide_eq_false (by omega), decide_eq_false (by omega), decide_eq_false (by omega)]; rfl
      · have h3i : ¬ (97 : Int) ≤ (v : Int) := by omega
        go_enter Tryd.func38, Tryd.ntmps38
        go_wp2
        go_ret
        refine ⟨ret_bool ?_, rfl⟩
        rw [← unhide HR, decide_eq_false (by omega), decide_eq_false (by omega)]
        rfl
  · have h1i : ¬ (65 : Int) ≤ (v : Int) := by omega
    have h3i : ¬ (97 : Int) ≤ (v : Int) := by omega
    go_enter Tryd.func38, Tryd.ntmps38
    go_wp2
    go_ret
    refine ⟨ret_bool ?_, rfl⟩
    rw [← unhide HR, decide_eq_false (by omega), decide_eq_false (by omega)]
    rfl

theorem implLD_any (v : Nat) (w : World) : Calls Tryd.prog 56 #[.int .i32 (v : Nat)] w fun e w' => e = .returned (.bool (isLD v)) ∧ w' = w := by
  have HL := hide (implLetter_any v w)
  have HD := hide (implDigit_any v w)
  have HE : Hid (isLD v = (isL v || isD v)) := rfl
  cases hl : isL v with
  | true =>
    rw [hl] at HL HE
    go_enter Tryd.func56, Tryd.ntmps56
    go_wp2_with (go_at_call 38; refine (unhide HL).mono ?_; rintro e w1 ⟨rfl, hw⟩; obtain rfl := hw.symm)
    go_ret
    exact ⟨ret_bool (by rw [unhide HE]; rfl), rfl⟩
  | false =>
    rw [hl] at HL HE
    go_enter Tryd.func56, Tryd.ntmps56
    go_wp2_with (first | (go_at_call 38; refine (unhide HL).mono ?_; rintro e w1 ⟨rfl, hw⟩; obtain rfl := hw.symm) | (go_at_call 35; refine (unhide HD).mono ?_; rintro e w1 ⟨rfl, hw⟩; obtain rfl := hw.symm))
    go_ret
    exact ⟨ret_bool (by rw [unhide HE]; rfl), rfl⟩

theorem implBlank_any (v : Nat) (w : World) : Calls Tryd.prog 19 #[.int .i32 (v : Nat)] w fun e w' => e = .returned (.bool (decide (v = 32 ∨ v = 9))) ∧ w' = w := by
  obtain ⟨r, hr⟩ : ∃ r, decide (v = 32 ∨ v = 9) = r := ⟨_, rfl⟩
  rw [hr]
  have HR := hide hr
  clear hr
  by_cases h1 : v = 32
  · subst h1
    go_enter Tryd.func19, Tryd.ntmps19
    go_wp2
    go_ret
    exact ⟨ret_bool (by rw [← unhide HR]; rfl), rfl⟩
  · have h1i : ¬ (v : Int) = 32 := by omega
    go_enter Tryd.func19, Tryd.ntmps19
    go_wp2
    go_ret
    refine ⟨ret_bool ?_, rfl⟩
    rw [← unhide HR]
    by_cases h2 : v = 9
    · subst h2; rfl
    · rw [decide_eq_false (show ¬ (v = 32 ∨ v = 9) by omega)]
      simp
      omega

/-- Where the characters of a text no longer belong. -/
def strTo (p : Nat → Bool) (s : ByteArray) : Nat → Nat → Nat
  | 0, _ => s.size
  | f + 1, i => if i < s.size then (if p (Utf8.decode s i).1 = true then strTo p s f (i + (Utf8.decode s i).2) else i) else s.size

def stretchN (p : Nat → Bool) (s : ByteArray) : Nat := strTo p s (s.size + 1) 0

set_option maxRecDepth 20000 in
set_option maxHeartbeats 2000000 in
theorem stretch_any (g : Nat) (eg : ∀ args w, (callFunc g args).run Tryd.prog w = .ok (.enter g args) w) (p : Nat → Bool) (hp : ∀ v W, Calls Tryd.prog g #[.int .i32 ((v : Nat) : Int)] W fun e w' => e = .returned (.bool (p v)) ∧ w' = W) (s : ByteArray) (w : World) (hs : s.size ≤ 17592186044416) :
    Calls Tryd.prog 48 #[.string s, .func (.func g) #[] #[]] w fun e w' => e = .returned (.int .i64 (stretchN p s : Nat)) ∧ Below w.heap.size w w' := by
  have HP := hide hp
  clear hp
  obtain ⟨tgt, htgt⟩ : ∃ t, strTo p s (s.size + 1) 0 = t := ⟨_, rfl⟩
  have e : stretchN p s = tgt := htgt
  rw [e]
  have HT := hide htgt
  clear e htgt
  go_enter Tryd.func48, Tryd.ntmps48
  go_wp2_with fail
  go_loopw [5] (fun _ w' => ∃ (pos F : Nat), w' = w.iter s pos ∧ s.size - pos < F ∧ Hid (strTo p s F pos = tgt)) (fun _ w' => s.size - w'.iterPos w.heap.size)
  case atStart => exact ⟨0, s.size + 1, rfl, by omega, HT⟩
  case round =>
    obtain ⟨pos, F, rfl, hF, HK⟩ := hrel
    obtain ⟨F', rfl⟩ : ∃ f, F = f + 1 := ⟨F - 1, by omega⟩
    by_cases hlt : pos < s.size
    · have hnx : ∀ ty, (Instr.next (.pointer (some ⟨w.heap.size, 0, none⟩)) true ty).run Tryd.prog (w.iter s pos) = _ := fun ty => run_next_any w s pos ty hlt
      have hwd := Lib.decode_width_pos s pos hlt
      have HK2 : Hid ((if p (Utf8.decode s pos).1 = true then strTo p s F' (pos + (Utf8.decode s pos).2) else pos) = tgt) := by
        have := unhide HK
        rw [strTo, if_pos hlt] at this
        exact this
      have HC := hide (fun W => unhide HP (Utf8.decode s pos).1 W)
      obtain ⟨v, hv⟩ : ∃ v, (Utf8.decode s pos).1 = v := ⟨_, rfl⟩
      obtain ⟨wd, hw⟩ : ∃ n, (Utf8.decode s pos).2 = n := ⟨_, rfl⟩
      rw [hv, hw] at hnx HK2
      rw [hv] at HC
      rw [hw] at hwd
      clear HK hv hw
      cases hq : p v with
      | true =>
        rw [hq] at HC HK2
        rw [if_pos rfl] at HK2
        go_wp2_with (go_at_fn g; refine (unhide HC _).mono ?_; rintro e w1 ⟨rfl, hw⟩; obtain rfl := hw.symm)
        go_roundw
        case rel => exact ⟨pos + wd, F', rfl, by omega, HK2⟩
        case measure => simp; omega
      | false =>
        rw [hq] at HC HK2
        rw [if_neg (by decide)] at HK2
        go_wp2_with (go_at_fn g; refine (unhide HC _).mono ?_; rintro e w1 ⟨rfl, hw⟩; obtain rfl := hw.symm)
        go_ret
        exact ⟨by rw [← unhide HK2]; rfl, (Below.refl _ _).alloc (Nat.le_refl _) _⟩
    · have hnx : ∀ ty, (Instr.next (.pointer (some ⟨w.heap.size, 0, none⟩)) true ty).run Tryd.prog (w.iter s pos) = _ := fun ty => run_next_end w s pos ty hlt
      have HK2 : Hid (s.size = tgt) := by
        have := unhide HK
        rw [strTo, if_neg hlt] at this
        exact this
      clear HK
      go_wp2_with fail
      go_ret
      exact ⟨by rw [← unhide HK2]; rfl, (Below.refl _ _).alloc (Nat.le_refl _) _⟩

end Go.Proofs.YtkjpgbecbggcoaaDoor
