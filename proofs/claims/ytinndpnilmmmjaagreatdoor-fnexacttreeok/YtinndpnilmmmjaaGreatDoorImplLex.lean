import Derived.Test.YtinndpnilmmmjaaGreatDoorImplLexS
import Derived.BigQuiet
namespace Go.Proofs.YtinndpnilmmmjaaGreatDoor
open Go.RowKit

set_option maxRecDepth 100000 in
set_option maxHeartbeats 2000000 in
theorem implLex_long (b off cap : Nat) (s : ByteArray) (w : World) (hl : 2000 < s.size) (hs : s.size ≤ 17592186044416) :
    Calls Tryz.prog 47 #[.slice (some ⟨b, off, none⟩) s.size cap] w (GivesLexI w (lexT s)) := by
  have HE : Hid (lexT s = ([], 7, 0)) := by show _ = _; unfold lexT; rw [if_pos hl]
  have hli : (2000 : Int) < (s.size : Int) := by omega
  go_enter Tryz.func47, Tryz.ntmps47
  go_wp2_with fail
  go_ret3
  rw [unhide HE]
  exact gives_none 7 0 (Below.refl _ _)

set_option maxRecDepth 100000 in
set_option maxHeartbeats 8000000 in
theorem implLex_any (b off cap : Nat) (s : ByteArray) (w : World) (h : RowB w (some ⟨b, off, none⟩) s.size (bz s)) (hs : s.size ≤ 17592186044416) (hR : RangeAt w) (hT : TabsAt w) :
    Calls Tryz.prog 47 #[.slice (some ⟨b, off, none⟩) s.size cap] w (GivesLexI w (lexT s)) := by
  by_cases hl : 2000 < s.size
  · exact implLex_long b off cap s w hl hs
  have hli : ¬ (2000 : Int) < (s.size : Int) := by omega
  have hsz : s.size ≤ 2000 := by omega
  obtain ⟨tgt, htgt⟩ : ∃ t, lexR s (s.size + 1) 0 [] = t := ⟨_, rfl⟩
  have e : lexT s = tgt := by unfold lexT; rw [if_neg hl]; exact htgt
  rw [e]
  have HTG := hide htgt
  have hcb : (convert 33 9 (.slice (some ⟨b, off, none⟩) s.size cap)).run Tryz.prog w = .ok (.string s) w := by
    have hlen : s.data.toList.length = s.size := by rw [← Lib.size_eq]
    have := conv_back (w := w) (b := b) (off := off) (cap := cap) (l := s.data.toList) (by rw [hlen]; exact h)
    rw [hlen, str_self] at this
    exact this
  have HR := hide hR
  have HTB := hide hT
  have HS0 := hide (LexS.start w s)
  obtain ⟨i0, hi, hz0, hz2, hz3⟩ := info_parts info_tok
  clear e htgt hl hs h hR hT
  go_enter Tryz.func47, Tryz.ntmps47
  go_wp2_with fail
  clear hcb
  go_loopw [6, 7] (fun u e wr => ∃ (n k F pos m : Nat) (acc : List Tok), e = .int .i64 (k : Nat) ∧ pos ≤ m ∧ m ≤ s.size ∧ k ≤ m ∧ (pos = m ∨ m = k) ∧ n ≤ m ∧ s.size - m < F ∧ Hid (lexR s F m acc = tgt) ∧ Hid (Reach s pos m) ∧ Hid (LexS w s wr pos u n acc)) (fun _ _ wr => s.size - wr.iterPos w.heap.size)
  case atStart => exact ⟨0, 0, s.size + 1, 0, 0, [], rfl, Nat.le_refl _, Nat.zero_le _, Nat.le_refl _, .inl rfl, Nat.le_refl _, by omega, HTG, Reach.here _, HS0⟩
  case round =>
    obtain ⟨n, k, F, pos, m, acc, rfl, hpm, hms, hkm, hpk, hnm, hF, HT, HRE, HS⟩ := hrel
    clear HTG HS0
    have HIP : Hid (wr.iterPos w.heap.size = pos) := iterPos_of (unhide HS).iter
    by_cases hlt : pos < s.size
    case neg =>
      have hnx : ∀ ty, (Instr.next (.pointer (some ⟨w.heap.size, 0, none⟩)) true ty).run Tryz.prog wr = _ := fun ty => Lib.run_next_end_at wr w.heap.size s pos ty (unhide HS).iter hlt
      have HE : Hid (tgt = (acc, 0, 0)) := by show _ = _; rw [← unhide HT, lex_stop (fun h => by omega)]
      go_wp2_with fail
      go_ret3
      rw [unhide HE]
      exact (unhide HS).gives
    have hnx : ∀ ty, (Instr.next (.pointer (some ⟨w.heap.size, 0, none⟩)) true ty).run Tryz.prog wr = _ := fun ty => Lib.run_next_any_at wr w.heap.size s pos ty (unhide HS).iter hlt
    have hwd := Lib.decode_width_pos s pos hlt
    have hwe := decode_width_le hlt
    have HS1 := hide ((unhide HS).move (pos + (Utf8.decode s pos).2))
    have HNXT := hide (fun h => (unhide HRE).next h)
    obtain ⟨v, hv⟩ : ∃ v, (Utf8.decode s pos).1 = v := ⟨_, rfl⟩
    obtain ⟨wd, hw⟩ : ∃ n, (Utf8.decode s pos).2 = n := ⟨_, rfl⟩
    rw [hv, hw] at hnx
    obtain ⟨z, hz⟩ : ∃ z : Int, ((v : Nat) : Int) = z := ⟨_, rfl⟩
    rw [hz] at hnx
    have HZ := hide hz
    rw [hw] at hwd hwe HS1 HNXT
    have HV := hide hv
    have HW := hide hw
    clear hv hw hz
    obtain ⟨wr1, hw1⟩ : ∃ W, wr.iterAt w.heap.size s (pos + wd) = W := ⟨_, rfl⟩
    rw [hw1] at HS1 hnx
    clear hw1
    have HIP1 : Hid (wr1.iterPos w.heap.size = pos + wd) := iterPos_of (unhide HS1).iter
    by_cases hsk : pos < m
    case pos =>
      have hkp : (pos : Int) < (k : Int) := by omega
      have HRN : Hid (Reach s (pos + wd) m) := (unhide HNXT (by omega)).2
      have hle := (unhide HRN).le
      go_wp2_with fail
      go_roundw
      case rel => exact ⟨n, k, F, pos + wd, m, acc, rfl, hle, hms, hkm, .inr (by omega), hnm, hF, HT, HRN, HS1⟩
      case measure => rw [unhide HIP, unhide HIP1]; omega
    obtain rfl : pos = m := by omega
    have hkp : ¬ (pos : Int) < (k : Int) := by omega
    clear HNXT HRE hsk
    have HBL : Hid (∀ W, Calls Tryz.prog 99 #[.int .i32 z] W fun e w' => e = .returned (.bool (decide (v = 32 ∨ v = 9))) ∧ w' = W) := by rw [← unhide HZ]; exact hide (fun W => implBlank_any v W)
    by_cases hbl : v = 32 ∨ v = 9
    case pos =>
      have hb32 : bt s pos = 32 ∨ bt s pos = 9 := hbl.imp (fun h => (small_is (by omega)).1 ((unhide HV).trans h)) (fun h => (small_is (by omega)).1 ((unhide HV).trans h))
      have hwd1 : wd = 1 := by rw [← unhide HW, decode_is, if_pos (by omega)]
      have hrm : remark s pos = false := by
        cases h : remark s pos with
        | false => rfl
        | true => have := remark_is.1 h; rw [unhide HV] at this; omega
      have HNX : Hid (lexR s (F - 1) (pos + wd) acc = tgt) := by show _ = _; rw [hwd1, ← lex_blank hF ⟨hlt, hrm⟩ hb32]; exact unhide HT
      rw [decide_eq_true hbl] at HBL
      clear hbl hb32 hrm hwd1
      go_wp2_with (go_at_call 99; refine (unhide HBL _).mono ?_; rintro e w5 ⟨rfl, hw⟩; obtain rfl := hw.symm)
      go_roundw
      case rel => exact ⟨n, k, F - 1, pos + wd, pos + wd, acc, rfl, Nat.le_refl _, hwe, by omega, .inl rfl, by omega, by omega, HNX, Reach.here _, HS1⟩
      case measure => rw [unhide HIP, unhide HIP1]; omega
    rw [decide_eq_false hbl] at HBL
    by_cases hrk : v = 9053
    case pos =>
      have hrm : remark s pos = true := remark_is.2 ((unhide HV).trans hrk)
      have HE : Hid (tgt = (acc, 0, 0)) := by show _ = _; rw [← unhide HT, lex_stop (fun h => by rw [hrm] at h; cases h.2)]
      have hrki : z = 9053 := by rw [← unhide HZ, hrk]; rfl
      rw [hrki] at HBL hnx
      clear hbl hrm hrk hrki HZ
      go_wp2_with (go_at_call 99; refine (unhide HBL _).mono ?_; rintro e w5 ⟨rfl, hw⟩; obtain rfl := hw.symm)
      go_ret3
      rw [unhide HE]
      exact (unhide HS1).gives
    have hrki : ¬ z = 9053 := by rw [← unhide HZ]; omega
    have HM : Hid (pos < s.size ∧ remark s pos = false) := by
      refine ⟨hlt, ?_⟩
      cases h : remark s pos with
      | false => rfl
      | true => have := remark_is.1 h; rw [unhide HV] at this; exact absurd this hrk
    have HNB : Hid (¬ (bt s pos = 32 ∨ bt s pos = 9)) := fun h => hbl (h.imp (fun h => (unhide HV).symm.trans ((small_is (by omega)).2 h)) (fun h => (unhide HV).symm.trans ((small_is (by omega)).2 h)))
    have HC0 := hide (reader_any s pos v (unhide HV) wr1 hlt (by omega) ((unhide HR).below ((unhide HS1).low)) ((unhide HTB).below (unhide HS1).low))
    have heg := eg_reader v
    have HRO : Hid (∀ W, Calls Tryz.prog 100 #[.int .i32 z] W fun e w' => e = .returned (.func (.func (readerN v)) #[] #[]) ∧ w' = W) := by rw [← unhide HZ]; exact hide (fun W => readerOf_any v W)
    have HTE := hide (fun h => tok_end hlt h)
    have HRT := hide (fun h => reach_tok hlt h)
    have HLB := hide (fun h => lex_bad (acc := acc) hF (unhide HM) (unhide HNB) h)
    have HLT := hide (fun h => lex_tok (acc := acc) hF (unhide HM) (unhide HNB) h)
    have hsl := fun W => run_subT (s := s) (q := pos) (by omega) W
    rw [unhide HW] at HRT
    obtain ⟨rd, hrd⟩ : ∃ r, readerN v = r := ⟨_, rfl⟩
    rw [hrd] at HC0 heg HRO
    obtain ⟨x, hx⟩ : ∃ x, s.extract pos s.size = x := ⟨_, rfl⟩
    rw [hx] at HC0
    simp only [hx] at hsl
    obtain ⟨gt, hgt⟩ : ∃ g, tokAt s pos = g := ⟨_, rfl⟩
    rw [hgt] at HC0 HTE HLB HLT HRT
    clear hgt hx hrd hbl hrk
    obtain ⟨tk, tn, tt, te, tc⟩ := gt
    have HC : Hid (Calls Tryz.prog rd #[.string x] wr1 fun e' w' => e' = .returned (.tuple #[.agg #[.int .i64 tk, .int .i64 tn, .string tt, .int .i64 0], .int .i64 ((te - pos : Nat) : Int), .int .i64 tc]) ∧ Below wr1.heap.size wr1 w') := unhide HC0
    clear HC0
    obtain ⟨wt, hwt⟩ : ∃ x, te - pos = x := ⟨_, rfl⟩
    rw [hwt] at HC
    have HWT := hide hwt
    clear hwt
    by_cases hc : tc = 0
    case neg =>
      have hci : (tc == 0) = false := by simpa using hc
      have HE : Hid (tgt = ([], tc, pos)) := by show _ = _; rw [← unhide HT]; exact unhide HLB hc
      clear HTE HLT HLB HRT
      go_wp2_with (first | (go_at_call 99; refine (unhide HBL _).mono ?_; rintro e w5 ⟨rfl, hw⟩; obtain rfl := hw.symm) | (go_at_call 100; refine (unhide HRO _).mono ?_; rintro e w5 ⟨rfl, hw⟩; obtain rfl := hw.symm) | (go_at_fn rd; refine (unhide HC).mono ?_; rintro e w5 ⟨rfl, hb5⟩; have HS5 := hide ((unhide HS1).below hb5); clear hb5))
      go_ret3
      rw [unhide HE]
      exact gives_none tc pos ((unhide HS5).low.alloc (Nat.le_of_lt (unhide HS5).lt) _)
    case pos =>
      subst hc
      have hte := unhide HTE rfl
      have HRN := hide (unhide HRT rfl)
      have HNX : Hid (lexR s (F - 1) te (acc ++ [⟨tk, tn, tt, pos⟩]) = tgt) := by show _ = _; rw [← unhide HT]; exact (unhide HLT rfl).symm
      have hte1 : pos < te := hte.1
      have hte2 : te ≤ s.size := hte.2
      have ewt : (pos : Int) + (wt : Int) = (te : Int) := by have := unhide HWT; omega
      have hwte : IntKind.i64.wrap (te : Int) = (te : Int) := by rw [IntKind.wrap_i64]; omega
      have hle := (unhide HRN).le
      clear HTE HLT HLB hte HRT
      go_wp2_with (first | (go_at_call 99; refine (unhide HBL _).mono ?_; rintro e w5 ⟨rfl, hw⟩; obtain rfl := hw.symm) | (go_at_call 100; refine (unhide HRO _).mono ?_; rintro e w5 ⟨rfl, hw⟩; obtain rfl := hw.symm) | (go_at_fn rd; refine (unhide HC).mono ?_; rintro e w5 ⟨rfl, hb5⟩; have HS5 := hide ((unhide HS1).below hb5); have hz5 := (unhide HS5).lt; clear hb5) | (at_builtin; refine wpList_append_lies _ rfl _ _ 76 rfl (w.heap.size + 1) 64 i0 (.agg #[.int .i64 0, .int .i64 0, .string ⟨#[]⟩, .int .i64 0]) 4 40 Tryz.underlying76 hi hz0 hz2 hz3 rfl (by decide) _ _ _ rfl ((unhide HS5).below (((Below.refl _ w5).alloc (Nat.le_refl _) _).alloc (by simp) _)).own ⟨w5.heap.size + 1, 0, none⟩ 1 1 (tokCells ⟨tk, tn, tt, pos⟩) rfl rfl (newsTA (w5.alloc (.cells #[.int .i64 tk, .int .i64 tn, .string tt, .int .i64 (pos : Nat)] 64)) (w5.heap.size + 1) (by simp) ⟨tk, tn, tt, pos⟩) (one_tok _) (by omega) (by unfold maxLen; omega) (by omega) (by simp; omega) (w5.heap.size + 1 + 1) (by simp) ?_; intro g' cap' w7 hown' hgrow hat hlt7; have HF7 := hide (LexS.push ((unhide HS5).below (((Below.refl _ w5).alloc (Nat.le_refl _) _).alloc (by simp) _)) hown' hgrow); clear hgrow hat hown' hlt7))
      have HIP7 : Hid (w7.iterPos w.heap.size = pos + wd) := iterPos_of (unhide HF7).iter
      go_roundw
      case rel => exact ⟨n + 1, te, F - 1, pos + wd, te, acc ++ [⟨tk, tn, tt, pos⟩], rfl, hle, hte2, Nat.le_refl _, .inr rfl, by omega, by omega, HNX, HRN, HF7⟩
      case measure => rw [unhide HIP, unhide HIP7]; omega

end Go.Proofs.YtinndpnilmmmjaaGreatDoor
