import Derived.Test.YtinndpnilmmmjaaGreatDoorNameMath
import Derived.Test.YtinndpnilmmmjaaGreatDoorImplKind
import Derived.Test.YtinndpnilmmmjaaGreatDoorImplTokT
import Derived.Test.YtinndpnilmmmjaaGreatDoorMFit0
namespace Go.Proofs.YtinndpnilmmmjaaGreatDoor
open Go.RowKit

theorem empty_is {s : ByteArray} (h : s.size = 0) : s = ⟨#[]⟩ := ByteArray.ext (Array.eq_empty_of_size_eq_zero h)
theorem str_some {s : ByteArray} (h : s.size ≠ 0) : s.toList.isEmpty = false := by
  rw [Lib.toList_data]
  cases hl : s.data.toList with
  | nil => exact absurd (by rw [Lib.size_eq, hl]; rfl) h
  | cons a r => rfl

set_option maxHeartbeats 2000000 in
theorem isLow_any (s : ByteArray) (h : 0 < s.size) (w : World) : Calls Tryz.prog 60 #[.agg #[.int .i64 3, .int .i64 0, .string s, .int .i64 0]] w fun e w' => e = .returned (.bool (decide (97 ≤ bt s 0))) ∧ Below w.heap.size w w' := by
  have hi0 : ∀ W, (Instr.index 9 (.string s) (.int .i64 0)).run Tryz.prog W = .ok (.int .u8 (bt s 0 : Nat)) W := fun W => run_idx (s := s) (k := 0) h W
  obtain ⟨c, hc⟩ : ∃ c, bt s 0 = c := ⟨_, rfl⟩
  rw [hc] at hi0 ⊢
  clear hc
  go_enter Tryz.func60, Tryz.ntmps60
  go_wp2
  go_ret
  refine ⟨ret_bool ?_, (Below.refl _ _).alloc (Nat.le_refl _) _⟩
  first | exact decide_eq_decide.2 (by omega) | (simp; omega)

set_option maxHeartbeats 2000000 in
theorem isHigh_any (s : ByteArray) (h : 0 < s.size) (w : World) : Calls Tryz.prog 61 #[.agg #[.int .i64 3, .int .i64 0, .string s, .int .i64 0]] w fun e w' => e = .returned (.bool (decide (bt s 0 ≤ 90))) ∧ Below w.heap.size w w' := by
  have hi0 : ∀ W, (Instr.index 9 (.string s) (.int .i64 0)).run Tryz.prog W = .ok (.int .u8 (bt s 0 : Nat)) W := fun W => run_idx (s := s) (k := 0) h W
  obtain ⟨c, hc⟩ : ∃ c, bt s 0 = c := ⟨_, rfl⟩
  rw [hc] at hi0 ⊢
  clear hc
  go_enter Tryz.func61, Tryz.ntmps61
  go_wp2
  go_ret
  refine ⟨ret_bool ?_, (Below.refl _ _).alloc (Nat.le_refl _) _⟩
  first | exact decide_eq_decide.2 (by omega) | (simp; omega)

theorem eg_low : ∀ args w, (callFunc 60 args).run Tryz.prog w = .ok (.enter 60 args) w := enters_of Tryz.func60 (by kernel_rfl) rfl
theorem eg_high : ∀ args w, (callFunc 61 args).run Tryz.prog w = .ok (.enter 61 args) w := enters_of Tryz.func61 (by kernel_rfl) rfl

/-- What the walks want of the package's variables. -/
def GlTree (w : World) : Prop := GlT w ∧ RangeAt w ∧ TabsAt w
theorem GlTree.below {w w' : World} (h : GlTree w) (hb : Below w.heap.size w w') : GlTree w' := ⟨h.1.below hb, h.2.1.below hb, h.2.2.below hb⟩

set_option maxHeartbeats 4000000 in
theorem isName_of (g : Nat) (eg : ∀ args w, (callFunc g args).run Tryz.prog w = .ok (.enter g args) w) (p : Nat → Bool) (hg : ∀ (s : ByteArray) (_ : 0 < s.size) (w : World), Calls Tryz.prog g #[.agg #[.int .i64 3, .int .i64 0, .string s, .int .i64 0]] w fun e w' => e = .returned (.bool (p (bt s 0))) ∧ Below w.heap.size w w') (s : ByteArray) (w : World) (hs : s.size ≤ 1048576) (hG : GlTree w) :
    Calls Tryz.prog 59 #[.string s, .func (.func g) #[] #[]] w fun e w' => e = .returned (.bool (decide ((tokText 3 0 s).size ≠ 0) && p (bt s 0))) ∧ Below w.heap.size w w' := by
  obtain ⟨r, hr⟩ : ∃ r, (decide ((tokText 3 0 s).size ≠ 0) && p (bt s 0)) = r := ⟨_, rfl⟩
  rw [hr]
  have HR := hide hr
  obtain ⟨Q, hQ⟩ : ∃ Q, Q = w.alloc (.cells #[.int .i64 3, .int .i64 0, .string s, .int .i64 0] 64) := ⟨_, rfl⟩
  have HQ := hide hQ
  have HBQ : Hid (Below w.heap.size w Q) := by rw [hQ]; exact (Below.refl _ _).alloc (Nat.le_refl _) _
  have HXQ : Hid (TBox Q w.heap.size (.int .i64 3) (.int .i64 0) (.string s) (.int .i64 0)) := by rw [hQ]; exact TBox.new w _ _ _ _
  have hGQ := hG.below (unhide HBQ)
  have HC := hide (implTok_any 3 0 0 s Q (by omega) hs hGQ.1 hGQ.2.1 hGQ.2.2)
  have HG := hide (fun (h : 0 < s.size) (W : World) => hg s h W)
  have HSZ := hide (fun h => ((name_tok s).1 h).1)
  obtain ⟨y, hy⟩ : ∃ y, tokText 3 0 s = y := ⟨_, rfl⟩
  rw [hy] at HC HR HSZ
  clear hr hQ hG hGQ hg hy
  by_cases hy0 : y.size = 0
  · have hye := empty_is hy0
    have HE : Hid (false = r) := by show _ = _; rw [← unhide HR, decide_eq_false (by omega)]; rfl
    subst hye
    clear HR HG HSZ hy0
    go_enter Tryz.func59, Tryz.ntmps59
    go_wp2_with (first | (go_at_call 38; rw [← unhide HQ]; refine (unhide HC).mono ?_; rintro e w1 ⟨rfl, hb1⟩; have HB1 := hide ((unhide HBQ).trans (hb1.mono (unhide HBQ).size)); clear hb1))
    go_ret
    exact ⟨ret_bool (unhide HE), unhide HB1⟩
  · have hyf := str_some hy0
    have HP := hide (unhide HG (unhide HSZ hy0))
    have HE : Hid (p (bt s 0) = r) := by show _ = _; rw [← unhide HR, decide_eq_true hy0]; rfl
    rw [unhide HE] at HP
    clear HR HG HSZ hy0
    go_enter Tryz.func59, Tryz.ntmps59
    go_wp2_with (first | (go_at_call 38; rw [← unhide HQ]; refine (unhide HC).mono ?_; rintro e w1 ⟨rfl, hb1⟩; have HB1 := hide ((unhide HBQ).trans (hb1.mono (unhide HBQ).size)); obtain ⟨q0, q1, q2, q3, -, -, -, -⟩ := ((unhide HXQ).below (Nat.le_refl _) hb1).all; clear hb1) | (go_at_fn g; refine (unhide HP _).mono ?_; rintro e w2 ⟨rfl, hb2⟩; have HB2 := hide ((unhide HB1).trans (hb2.mono (unhide HB1).size)); clear hb2))
    go_ret
    exact ⟨rfl, unhide HB2⟩

theorem low_high {s : ByteArray} : (decide ((tokText 3 0 s).size ≠ 0) && decide (97 ≤ bt s 0)) = nameB s false := by
  rw [name_ok]
  by_cases h : (tokText 3 0 s).size ≠ 0
  · rw [decide_eq_true h, Bool.true_and, Bool.true_and]
    have hL := ((name_tok s).1 h).2.2.1
    unfold isL at hL
    by_cases h1 : 97 ≤ bt s 0
    · rw [decide_eq_true h1, decide_eq_false (by omega)]; rfl
    · have : bt s 0 ≤ 90 := by
        rcases Bool.or_eq_true _ _ ▸ hL with h' | h'
        · have := of_decide_eq_true h'; omega
        · have := of_decide_eq_true h'; omega
      rw [decide_eq_false h1, decide_eq_true this]; rfl
  · rw [decide_eq_false h]; rfl

theorem isNameLow_any (s : ByteArray) (w : World) (hs : s.size ≤ 1048576) (hG : GlTree w) : Calls Tryz.prog 59 #[.string s, .func (.func 60) #[] #[]] w fun e w' => e = .returned (.bool (nameB s false)) ∧ Below w.heap.size w w' := by
  rw [← low_high]
  exact isName_of _ eg_low (fun c => decide (97 ≤ c)) isLow_any s w hs hG

theorem isNameHigh_any (s : ByteArray) (w : World) (hs : s.size ≤ 1048576) (hG : GlTree w) : Calls Tryz.prog 59 #[.string s, .func (.func 61) #[] #[]] w fun e w' => e = .returned (.bool (nameB s true)) ∧ Below w.heap.size w w' := by
  have e : nameB s true = (decide ((tokText 3 0 s).size ≠ 0) && decide (bt s 0 ≤ 90)) := by rw [name_ok]; cases decide (bt s 0 ≤ 90) <;> rfl
  rw [e]
  exact isName_of _ eg_high (fun c => decide (c ≤ 90)) isHigh_any s w hs hG

set_option maxHeartbeats 4000000 in
theorem areNumbers_any (a : Option Addr) (n cap : Nat) (zs : List Int) (w : World) (h : Row w a n zs) : Calls Tryz.prog 58 #[.slice a n cap] w fun e w' => e = .returned (.bool (zs.all isNum && decide (0 < zs.length))) ∧ w' = w := by
  have hlen := h.len
  have hsm := h.small
  have H := hide h
  clear h
  have HI := hide (fun (k : Int) (r : Bool) (hr : isNum k = r) (W : World) => (by rw [← hr]; exact number_any k W : Calls Tryz.prog 118 #[.int .i64 k] W fun e w' => e = .returned (.bool r) ∧ w' = W))
  go_enter Tryz.func58, Tryz.ntmps58
  go_wp2_with fail
  go_loopw [7] (fun i wr => ∃ k : Nat, k ≤ n ∧ i = .int .i64 k ∧ Hid ((zs.take k).all isNum = true) ∧ wr = w) (fun i _ => n - (intOf i).toNat)
  case atStart => exact ⟨0, Nat.zero_le _, rfl, rfl, rfl⟩
  case round =>
    obtain ⟨k, hk, rfl, HA, rfl⟩ := hrel
    by_cases hlt : k < n
    · obtain ⟨b, off, rfl, hbl, hcell⟩ := (unhide H).get hlt
      have hlti : (k : Int) < (n : Int) := by omega
      have HT0 : Hid (isNum (zs.getD k 0) = true → (zs.take (k + 1)).all isNum = true) := fun hh => by
        have e : zs.getD k 0 = zs[k] := by simp [hlen, hlt]
        rw [e] at hh
        rw [List.take_succ_eq_append_getElem (by omega), List.all_append, unhide HA]
        simp [hh]
      have HF0 : Hid (isNum (zs.getD k 0) = false → false = (zs.all isNum && decide (0 < zs.length))) := fun hh => by
        have e : zs.getD k 0 = zs[k] := by simp [hlen, hlt]
        rw [e] at hh
        rw [List.all_eq_false.2 ⟨zs[k], List.getElem_mem (by omega), by simp [hh]⟩]
        rfl
      obtain ⟨x, hx⟩ : ∃ x, zs.getD k 0 = x := ⟨_, rfl⟩
      rw [hx] at hcell HT0 HF0
      clear hx HA
      cases hq : isNum x with
      | true =>
        have HC := hide (fun W => unhide HI x true hq W)
        have HT := hide (unhide HT0 hq)
        clear hq HT0 HF0
        go_wp2_with (go_at_call 118; refine (unhide HC _).mono ?_; rintro e w1 ⟨rfl, hw1⟩; obtain rfl := hw1.symm)
        go_roundw
        case rel => exact ⟨k + 1, by omega, by go_num, HT, by first | rfl | trivial⟩
        case measure => simp [intOf]; omega
      | false =>
        have HC := hide (fun W => unhide HI x false hq W)
        have HT := hide (unhide HF0 hq)
        clear hq HT0 HF0
        go_wp2_with (go_at_call 118; refine (unhide HC _).mono ?_; rintro e w1 ⟨rfl, hw1⟩; obtain rfl := hw1.symm)
        go_ret
        exact ⟨ret_bool (unhide HT), rfl⟩
    · have hkn : k = n := by omega
      have hlti : ¬ (k : Int) < (n : Int) := by omega
      have HT : Hid (zs.all isNum = true) := by
        have := unhide HA
        rwa [List.take_of_length_le (by omega)] at this
      go_wp2
      go_ret
      refine ⟨ret_bool ?_, rfl⟩
      rw [unhide HT, Bool.true_and]

end Go.Proofs.YtinndpnilmmmjaaGreatDoor
