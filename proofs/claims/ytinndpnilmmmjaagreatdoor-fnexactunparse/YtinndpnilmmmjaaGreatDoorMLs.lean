import Derived.Lib.OthersKept
import Derived.Test.YtinndpnilmmmjaaGreatDoorMRe
import Derived.Test.YtinndpnilmmmjaaGreatDoorSpecLex
import Derived.BigQuiet
import Derived.Test.YtinndpnilmmmjaaGreatDoorMTok
import Derived.Test.YtinndpnilmmmjaaGreatDoorMBase
namespace Go.Proofs.YtinndpnilmmmjaaGreatDoor
open Go.RowKit

theorem iterPos_of {w : World} {k : Nat} {s : ByteArray} {pos : Nat} (h : w.heap[k]? = some (.stringIter s pos)) : w.iterPos k = pos := by
  unfold World.iterPos
  rw [h]

theorem owns_base {w : World} {B B' e size n : Nat} {v : Value} {xs : List Value} (h : w.ownsRow B e size v n xs) (hB : B' ≤ B) : w.ownsRow B' e size v n xs := by
  refine ⟨h.1, h.2.imp id ?_⟩
  rintro ⟨g, cap, cur, hv, hg, r⟩
  exact ⟨g, cap, cur, hv, Nat.le_trans hB hg, r⟩

/-- How Lex stands: the iterator of the line at a place, the tokens so far in a slice of the call's own. -/
structure LexS (w : World) (s : ByteArray) (wr : World) (pos : Nat) (v : Value) (n : Nat) (acc : List Tok) : Prop where
  iter : wr.heap[w.heap.size]? = some (.stringIter s pos)
  own : wr.ownsRow (w.heap.size + 1) 64 4 v n (acc.flatMap tokCells)
  low : Below w.heap.size w wr

theorem LexS.start (w : World) (s : ByteArray) : LexS w s (w.iter s 0) 0 (.slice none 0 0) 0 [] := by
  refine ⟨?_, ⟨rfl, .inl ⟨rfl, rfl⟩⟩, (Below.refl _ _).alloc (Nat.le_refl _) _⟩
  show (w.heap.push _)[w.heap.size]? = _
  simp

theorem LexS.lt {w wr : World} {s : ByteArray} {pos n : Nat} {v : Value} {acc : List Tok} (h : LexS w s wr pos v n acc) : w.heap.size < wr.heap.size := lt_of_block h.iter

theorem LexS.len {w wr : World} {s : ByteArray} {pos n : Nat} {v : Value} {acc : List Tok} (h : LexS w s wr pos v n acc) : acc.length = n := by
  have := h.own.1
  rw [cells_len] at this
  omega

theorem LexS.move {w wr : World} {s : ByteArray} {pos n : Nat} {v : Value} {acc : List Tok} (h : LexS w s wr pos v n acc) (pos' : Nat) : LexS w s (wr.iterAt w.heap.size s pos') pos' v n acc := by
  refine ⟨Lib.iterAt_heap _ _ _ _ _ h.iter, ⟨h.own.1, h.own.2.imp id ?_⟩, Lib.below_iterAt h.low (Nat.le_refl _) _ _⟩
  rintro ⟨g, cap, cur, hv, hg, hh, r⟩
  exact ⟨g, cap, cur, hv, hg, (Lib.iterAt_other _ _ _ _ _ (by omega)).trans hh, r⟩

theorem LexS.below {w wr w' : World} {s : ByteArray} {pos n : Nat} {v : Value} {acc : List Tok} (h : LexS w s wr pos v n acc) (hb : Below wr.heap.size wr w') : LexS w s w' pos v n acc :=
  ⟨(hb.block _ h.lt).trans h.iter, ownsB_below h.own (Nat.le_refl _) hb, h.low.trans (hb.mono (Nat.le_of_lt h.lt))⟩

theorem LexS.push {w wr w1 : World} {s : ByteArray} {pos n g' cap' : Nat} {v : Value} {acc : List Tok} {t : Tok} (h : LexS w s wr pos v n acc)
    (hown : w1.ownsRow (w.heap.size + 1) 64 4 (.slice (some ⟨g', 0, none⟩) (n + 1) cap') (n + 1) (acc.flatMap tokCells ++ tokCells t)) (hg : wr.grownBy w1 v.ownBlock) :
    LexS w s w1 pos (.slice (some ⟨g', 0, none⟩) (n + 1) cap') (n + 1) (acc ++ [t]) := by
  have hob := own_block h.own
  refine ⟨(hg.block _ h.lt (fun e => by have := hob _ e.symm; omega)).trans h.iter, by rw [List.flatMap_append]; simpa using hown, h.low.grown hg (Nat.le_of_lt h.lt) (fun k hk => by have := hob k hk; omega)⟩

/-- What Lex gives: the tokens in a slice of the call's own. -/
def GivesLexI (w : World) (r : List Tok × Int × Nat) (e : Ending) (w' : World) : Prop := ∃ v, e = .returned (.tuple #[v, .int .i64 r.2.1, .int .i64 (r.2.2 : Nat)]) ∧ w'.ownsRow w.heap.size 64 4 v r.1.length (r.1.flatMap tokCells) ∧ Below w.heap.size w w'

theorem LexS.gives {w wr : World} {s : ByteArray} {pos n : Nat} {v : Value} {acc : List Tok} (h : LexS w s wr pos v n acc) : GivesLexI w (acc, 0, 0) (.returned (.tuple #[v, .int .i64 0, .int .i64 0])) wr := by
  refine ⟨v, rfl, ?_, h.low⟩
  have := owns_base h.own (Nat.le_succ _)
  rw [← h.len] at this
  exact this

theorem gives_none {w w' : World} (c : Int) (p : Nat) (h : Below w.heap.size w w') : GivesLexI w ([], c, p) (.returned (.tuple #[.slice none 0 0, .int .i64 c, .int .i64 (p : Nat)])) w' := ⟨_, rfl, ⟨rfl, .inl ⟨rfl, rfl⟩⟩, h⟩

theorem eg_reader (v : Nat) : ∀ args w, (callFunc (readerN v) args).run Tryz.prog w = .ok (.enter (readerN v) args) w := by
  unfold readerN
  split
  · exact enters_of Tryz.func152 (by kernel_rfl) rfl
  · split
    · exact enters_of Tryz.func153 (by kernel_rfl) rfl
    · split
      · exact enters_of Tryz.func155 (by kernel_rfl) rfl
      · exact enters_of Tryz.func156 (by kernel_rfl) rfl

end Go.Proofs.YtinndpnilmmmjaaGreatDoor
namespace Go.Proofs.YtinndpnilmmmjaaGreatDoor
open Go.RowKit

set_option maxRecDepth 100000 in
set_option maxHeartbeats 2000000 in
theorem implLex_long (b off cap : Nat) (s : ByteArray) (w : World) (hl : 2000 < s.size) (hs : s.size ≤ 17592186044416) :
    Calls Tryz.prog 47 #[.slice (some ⟨b, off, none⟩) s.size cap] w (GivesLexI w (lexT s)) := by
  have HE : Hid (lexT s = ([], 7, 0)) := by show _ = _; unfold lexT; rw [if_pos hl]
  have hli : (2000 : Int) < (s.size : Int) := by omega
  go_enter Tryz.func47, Tryz.ntmps47
  go_wp2_with fail
  go_ret3
  rw [unhide HE]
  exact gives_none 7 0 (Below.refl _ _)

set_option maxRecDepth 100000 in
set_option maxHeartbeats 8000000 in
theorem implLex_any (b off cap : Nat) (s : ByteArray) (w : World) (h : RowB w (some ⟨b, off, none⟩) s.size (bz s)) (hs : s.size ≤ 17592186044416) (hR : RangeAt w) (hT : TabsAt w) :
    Calls Tryz.prog 47 #[.slice (some ⟨b, off, none⟩) s.size cap] w (GivesLexI w (lexT s)) := by
  by_cases hl : 2000 < s.size
  · exact implLex_long b off cap s w hl hs
  have hli : ¬ (2000 : Int) < (s.size : Int) := by omega
  have hsz : s.size ≤ 2000 := by omega
  obtain ⟨tgt, htgt⟩ : ∃ t, lexR s (s.size + 1) 0 [] = t := ⟨_, rfl⟩
  have e : lexT s = tgt := by unfold lexT; rw [if_neg hl]; exact htgt
  rw [e]
  have HTG := hide htgt
  have hcb : (convert 33 9 (.slice (some ⟨b, off, none⟩) s.size cap)).run Tryz.prog w = .ok (.string s) w := by
    have hlen : s.data.toList.length = s.size := by rw [← Lib.size_eq]
    have := conv_back (w := w) (b := b) (off := off) (cap := cap) (l := s.data.toList) (by rw [hlen]; exact h)
    rw [hlen, str_self] at this
    exact this
  have HR := hide hR
  have HTB := hide hT
  have HS0 := hide (LexS.start w s)
  obtain ⟨i0, hi, hz0, hz2, hz3⟩ := info_parts info_tok
  clear e htgt hl hs h hR hT
  go_enter Tryz.func47, Tryz.ntmps47
  go_wp2_with fail
  clear hcb
  go_loopw [6, 7] (fun u e wr => ∃ (n k F pos m : Nat) (acc : List Tok), e = .int .i64 (k : Nat) ∧ pos ≤ m ∧ m ≤ s.size ∧ k ≤ m ∧ (pos = m ∨ m = k) ∧ n ≤ m ∧ s.size - m < F ∧ Hid (lexR s F m acc = tgt) ∧ Hid (Reach s pos m) ∧ Hid (LexS w s wr pos u n acc)) (fun _ _ wr => s.size - wr.iterPos w.heap.size)
  case atStart => exact ⟨0, 0, s.size + 1, 0, 0, [], rfl, Nat.le_refl _, Nat.zero_le _, Nat.le_refl _, .inl rfl, Nat.le_refl _, by omega, HTG, Reach.here _, HS0⟩
  case round =>
    obtain ⟨n, k, F, pos, m, acc, rfl, hpm, hms, hkm, hpk, hnm, hF, HT, HRE, HS⟩ := hrel
    clear HTG HS0
    have HIP : Hid (wr.iterPos w.heap.size = pos) := iterPos_of (unhide HS).iter
    by_cases hlt : pos < s.size
    case neg =>
      have hnx : ∀ ty, (Instr.next (.pointer (some ⟨w.heap.size, 0, none⟩)) true ty).run Tryz.prog wr = _ := fun ty => Lib.run_next_end_at wr w.heap.size s pos ty (unhide HS).iter hlt
      have HE : Hid (tgt = (acc, 0, 0)) := by show _ = _; rw [← unhide HT, lex_stop (fun h => by omega)]
      go_wp2_with fail
      go_ret3
      rw [unhide HE]
      exact (unhide HS).gives
    have hnx : ∀ ty, (Instr.next (.pointer (some ⟨w.heap.size, 0, none⟩)) true ty).run Tryz.prog wr = _ := fun ty => Lib.run_next_any_at wr w.heap.size s pos ty (unhide HS).iter hlt
    have hwd := Lib.decode_width_pos s pos hlt
    have hwe := decode_width_le hlt
    have HS1 := hide ((unhide HS).move (pos + (Utf8.decode s pos).2))
    have HNXT := hide (fun h => (unhide HRE).next h)
    obtain ⟨v, hv⟩ : ∃ v, (Utf8.decode s pos).1 = v := ⟨_, rfl⟩
    obtain ⟨wd, hw⟩ : ∃ n, (Utf8.decode s pos).2 = n := ⟨_, rfl⟩
    rw [hv, hw] at hnx
    obtain ⟨z, hz⟩ : ∃ z : Int, ((v : Nat) : Int) = z := ⟨_, rfl⟩
    rw [hz] at hnx
    have HZ := hide hz
    rw [hw] at hwd hwe HS1 HNXT
    have HV := hide hv
    have HW := hide hw
    clear hv hw hz
    obtain ⟨wr1, hw1⟩ : ∃ W, wr.iterAt w.heap.size s (pos + wd) = W := ⟨_, rfl⟩
    rw [hw1] at HS1 hnx
    clear hw1
    have HIP1 : Hid (wr1.iterPos w.heap.size = pos + wd) := iterPos_of (unhide HS1).iter
    by_cases hsk : pos < m
    case pos =>
      have hkp : (pos : Int) < (k : Int) := by omega
      have HRN : Hid (Reach s (pos + wd) m) := (unhide HNXT (by omega)).2
      have hle := (unhide HRN).le
      go_wp2_with fail
      go_roundw
      case rel => exact ⟨n, k, F, pos + wd, m, acc, rfl, hle, hms, hkm, .inr (by omega), hnm, hF, HT, HRN, HS1⟩
      case measure => rw [unhide HIP, unhide HIP1]; omega
    obtain rfl : pos = m := by omega
    have hkp : ¬ (pos : Int) < (k : Int) := by omega
    clear HNXT HRE hsk
    have HBL : Hid (∀ W, Calls Tryz.prog 99 #[.int .i32 z] W fun e w' => e = .returned (.bool (decide (v = 32 ∨ v = 9))) ∧ w' = W) := by rw [← unhide HZ]; exact hide (fun W => implBlank_any v W)
    by_cases hbl : v = 32 ∨ v = 9
    case pos =>
      have hb32 : bt s pos = 32 ∨ bt s pos = 9 := hbl.imp (fun h => (small_is (by omega)).1 ((unhide HV).trans h)) (fun h => (small_is (by omega)).1 ((unhide HV).trans h))
      have hwd1 : wd = 1 := by rw [← unhide HW, decode_is, if_pos (by omega)]
      have hrm : remark s pos = false := by
        cases h : remark s pos with
        | false => rfl
        | true => have := remark_is.1 h; rw [unhide HV] at this; omega
      have HNX : Hid (lexR s (F - 1) (pos + wd) acc = tgt) := by show _ = _; rw [hwd1, ← lex_blank hF ⟨hlt, hrm⟩ hb32]; exact unhide HT
      rw [decide_eq_true hbl] at HBL
      clear hbl hb32 hrm hwd1
      go_wp2_with (go_at_call 99; refine (unhide HBL _).mono ?_; rintro e w5 ⟨rfl, hw⟩; obtain rfl := hw.symm)
      go_roundw
      case rel => exact ⟨n, k, F - 1, pos + wd, pos + wd, acc, rfl, Nat.le_refl _, hwe, by omega, .inl rfl, by omega, by omega, HNX, Reach.here _, HS1⟩
      case measure => rw [unhide HIP, unhide HIP1]; omega
    rw [decide_eq_false hbl] at HBL
    by_cases hrk : v = 9053
    case pos =>
      have hrm : remark s pos = true := remark_is.2 ((unhide HV).trans hrk)
      have HE : Hid (tgt = (acc, 0, 0)) := by show _ = _; rw [← unhide HT, lex_stop (fun h => by rw [hrm] at h; cases h.2)]
      have hrki : z = 9053 := by rw [← unhide HZ, hrk]; rfl
      rw [hrki] at HBL hnx
      clear hbl hrm hrk hrki HZ
      go_wp2_with (go_at_call 99; refine (unhide HBL _).mono ?_; rintro e w5 ⟨rfl, hw⟩; obtain rfl := hw.symm)
      go_ret3
      rw [unhide HE]
      exact (unhide HS1).gives
    have hrki : ¬ z = 9053 := by rw [← unhide HZ]; omega
    have HM : Hid (pos < s.size ∧ remark s pos = false) := by
      refine ⟨hlt, ?_⟩
      cases h : remark s pos with
      | false => rfl
      | true => have := remark_is.1 h; rw [unhide HV] at this; exact absurd this hrk
    have HNB : Hid (¬ (bt s pos = 32 ∨ bt s pos = 9)) := fun h => hbl (h.imp (fun h => (unhide HV).symm.trans ((small_is (by omega)).2 h)) (fun h => (unhide HV).symm.trans ((small_is (by omega)).2 h)))
    have HC0 := hide (reader_any s pos v (unhide HV) wr1 hlt (by omega) ((unhide HR).below ((unhide HS1).low)) ((unhide HTB).below (unhide HS1).low))
    have heg := eg_reader v
    have HRO : Hid (∀ W, Calls Tryz.prog 100 #[.int .i32 z] W fun e w' => e = .returned (.func (.func (readerN v)) #[] #[]) ∧ w' = W) := by rw [← unhide HZ]; exact hide (fun W => readerOf_any v W)
    have HTE := hide (fun h => tok_end hlt h)
    have HRT := hide (fun h => reach_tok hlt h)
    have HLB := hide (fun h => lex_bad (acc := acc) hF (unhide HM) (unhide HNB) h)
    have HLT := hide (fun h => lex_tok (acc := acc) hF (unhide HM) (unhide HNB) h)
    have hsl := fun W => run_subT (s := s) (q := pos) (by omega) W
    rw [unhide HW] at HRT
    obtain ⟨rd, hrd⟩ : ∃ r, readerN v = r := ⟨_, rfl⟩
    rw [hrd] at HC0 heg HRO
    obtain ⟨x, hx⟩ : ∃ x, s.extract pos s.size = x := ⟨_, rfl⟩
    rw [hx] at HC0
    simp only [hx] at hsl
    obtain ⟨gt, hgt⟩ : ∃ g, tokAt s pos = g := ⟨_, rfl⟩
    rw [hgt] at HC0 HTE HLB HLT HRT
    clear hgt hx hrd hbl hrk
    obtain ⟨tk, tn, tt, te, tc⟩ := gt
    have HC : Hid (Calls Tryz.prog rd #[.string x] wr1 fun e' w' => e' = .returned (.tuple #[.agg #[.int .i64 tk, .int .i64 tn, .string tt, .int .i64 0], .int .i64 ((te - pos : Nat) : Int), .int .i64 tc]) ∧ Below wr1.heap.size wr1 w') := unhide HC0
    clear HC0
    obtain ⟨wt, hwt⟩ : ∃ x, te - pos = x := ⟨_, rfl⟩
    rw [hwt] at HC
    have HWT := hide hwt
    clear hwt
    by_cases hc : tc = 0
    case neg =>
      have hci : (tc == 0) = false := by simpa using hc
      have HE : Hid (tgt = ([], tc, pos)) := by show _ = _; rw [← unhide HT]; exact unhide HLB hc
      clear HTE HLT HLB HRT
      go_wp2_with (first | (go_at_call 99; refine (unhide HBL _).mono ?_; rintro e w5 ⟨rfl, hw⟩; obtain rfl := hw.symm) | (go_at_call 100; refine (unhide HRO _).mono ?_; rintro e w5 ⟨rfl, hw⟩; obtain rfl := hw.symm) | (go_at_fn rd; refine (unhide HC).mono ?_; rintro e w5 ⟨rfl, hb5⟩; have HS5 := hide ((unhide HS1).below hb5); clear hb5))
      go_ret3
      rw [unhide HE]
      exact gives_none tc pos ((unhide HS5).low.alloc (Nat.le_of_lt (unhide HS5).lt) _)
    case pos =>
      subst hc
      have hte := unhide HTE rfl
      have HRN := hide (unhide HRT rfl)
      have HNX : Hid (lexR s (F - 1) te (acc ++ [⟨tk, tn, tt, pos⟩]) = tgt) := by show _ = _; rw [← unhide HT]; exact (unhide HLT rfl).symm
      have hte1 : pos < te := hte.1
      have hte2 : te ≤ s.size := hte.2
      have ewt : (pos : Int) + (wt : Int) = (te : Int) := by have := unhide HWT; omega
      have hwte : IntKind.i64.wrap (te : Int) = (te : Int) := by rw [IntKind.wrap_i64]; omega
      have hle := (unhide HRN).le
      clear HTE HLT HLB hte HRT
      go_wp2_with (first | (go_at_call 99; refine (unhide HBL _).mono ?_; rintro e w5 ⟨rfl, hw⟩; obtain rfl := hw.symm) | (go_at_call 100; refine (unhide HRO _).mono ?_; rintro e w5 ⟨rfl, hw⟩; obtain rfl := hw.symm) | (go_at_fn rd; refine (unhide HC).mono ?_; rintro e w5 ⟨rfl, hb5⟩; have HS5 := hide ((unhide HS1).below hb5); have hz5 := (unhide HS5).lt; clear hb5) | (at_builtin; refine wpList_append_lies _ rfl _ _ 76 rfl (w.heap.size + 1) 64 i0 (.agg #[.int .i64 0, .int .i64 0, .string ⟨#[]⟩, .int .i64 0]) 4 40 Tryz.underlying76 hi hz0 hz2 hz3 rfl (by decide) _ _ _ rfl ((unhide HS5).below (((Below.refl _ w5).alloc (Nat.le_refl _) _).alloc (by simp) _)).own ⟨w5.heap.size + 1, 0, none⟩ 1 1 (tokCells ⟨tk, tn, tt, pos⟩) rfl rfl (newsTA (w5.alloc (.cells #[.int .i64 tk, .int .i64 tn, .string tt, .int .i64 (pos : Nat)] 64)) (w5.heap.size + 1) (by simp) ⟨tk, tn, tt, pos⟩) (one_tok _) (by omega) (by unfold maxLen; omega) (by omega) (by simp; omega) (w5.heap.size + 1 + 1) (by simp) ?_; intro g' cap' w7 hown' hgrow hat hlt7; have HF7 := hide (LexS.push ((unhide HS5).below (((Below.refl _ w5).alloc (Nat.le_refl _) _).alloc (by simp) _)) hown' hgrow); clear hgrow hat hown' hlt7))
      have HIP7 : Hid (w7.iterPos w.heap.size = pos + wd) := iterPos_of (unhide HF7).iter
      go_roundw
      case rel => exact ⟨n + 1, te, F - 1, pos + wd, te, acc ++ [⟨tk, tn, tt, pos⟩], rfl, hle, hte2, Nat.le_refl _, .inr rfl, by omega, by omega, HNX, HRN, HF7⟩
      case measure => rw [unhide HIP, unhide HIP7]; omega

end Go.Proofs.YtinndpnilmmmjaaGreatDoor
namespace Go.Proofs.YtinndpnilmmmjaaGreatDoor
open Go.RowKit

/-- The slice (a, n, _) reads as these tokens, lies in a block from B on, and may be written. -/
structure OwnT (w : World) (B : Nat) (a : Option Addr) (n : Nat) (ts : List Tok) : Prop where
  len : ts.length = n
  at_ : n = 0 ∨ ∃ g off, a = some ⟨g, off, none⟩ ∧ B ≤ g ∧ g < w.heap.size ∧ (∀ i, i < 4 * n → w.cell? ⟨g, off + i, none⟩ = (ts.flatMap tokCells)[i]?) ∧ (∀ i, i < 4 * n → w.frozen? ⟨g, off + i, none⟩ = false)

theorem OwnT.row {w : World} {B : Nat} {a : Option Addr} {n : Nat} {ts : List Tok} (h : OwnT w B a n ts) : RowT w a n ts := by
  refine ⟨h.len, ?_⟩
  rcases h.at_ with h0 | ⟨g, off, rfl, _, hlt, hc, _⟩
  · exact .inl h0
  · exact .inr ⟨g, off, rfl, hlt, hc⟩

theorem OwnT.low {w : World} {B : Nat} {a : Option Addr} {n : Nat} {ts : List Tok} (h : OwnT w B a n ts) {k : Nat} (hk : At a n k) : B ≤ k := by
  rcases h.at_ with h0 | ⟨g, off, rfl, hg, _⟩
  · exact absurd h0 hk.1
  · have := at_eq hk; omega

theorem OwnT.below {w w' : World} {a : Option Addr} {n : Nat} {ts : List Tok} {B C : Nat} (h : OwnT w C a n ts) (hB : w.heap.size ≤ B) (hb : Below B w w') : OwnT w' C a n ts := by
  refine ⟨h.len, ?_⟩
  rcases h.at_ with h0 | ⟨g, off, rfl, hg, hlt, hc, hf⟩
  · exact .inl h0
  · exact .inr ⟨g, off, rfl, hg, Nat.lt_of_lt_of_le hlt hb.size, fun i hi => (hb.cell (p := ⟨g, off + i, none⟩) (Nat.lt_of_lt_of_le hlt hB)).trans (hc i hi), fun i hi => (hb.frozen (p := ⟨g, off + i, none⟩) (Nat.lt_of_lt_of_le hlt hB)).trans (hf i hi)⟩

theorem But.ownT {S : Nat → Prop} {b : Option Addr} {m B : Nat} {w w' : World} {ts : List Tok} (h : But S w w') (ho : OwnT w B b m ts) (hap : ∀ k, S k → ¬ At b m k) : OwnT w' B b m ts := by
  refine ⟨ho.len, ?_⟩
  rcases ho.at_ with h0 | ⟨g, off, rfl, hg, hlt, hc, hf⟩
  · exact .inl h0
  · by_cases hm : m = 0
    · exact .inl hm
    have hb := h.block g hlt (fun e => hap g e ⟨hm, _, rfl, rfl⟩)
    exact .inr ⟨g, off, rfl, hg, Nat.lt_of_lt_of_le hlt h.size, fun i hi => (World.cell?_of_block (w := w) (a := ⟨g, off + i, none⟩) hb).trans (hc i hi), fun i hi => (World.frozen?_of_block (w := w) (a := ⟨g, off + i, none⟩) hb).trans (hf i hi)⟩

theorem But.rowT {S : Nat → Prop} {b : Option Addr} {m : Nat} {w w' : World} {ts : List Tok} (h : But S w w') (ho : RowT w b m ts) (hap : ∀ k, S k → ¬ At b m k) : RowT w' b m ts := by
  refine ⟨ho.len, ?_⟩
  rcases ho.at_ with h0 | ⟨g, off, rfl, hlt, hc⟩
  · exact .inl h0
  · by_cases hm : m = 0
    · exact .inl hm
    have hb := h.block g hlt (fun e => hap g e ⟨hm, _, rfl, rfl⟩)
    exact .inr ⟨g, off, rfl, Nat.lt_of_lt_of_le hlt h.size, fun i hi => (World.cell?_of_block (w := w) (a := ⟨g, off + i, none⟩) hb).trans (hc i hi)⟩

theorem RowT.hi {w : World} {a : Option Addr} {n : Nat} {ts : List Tok} (h : RowT w a n ts) {k : Nat} (hk : At a n k) : k < w.heap.size := by
  rcases h.at_ with h0 | ⟨g, off, rfl, hg, _⟩
  · exact absurd h0 hk.1
  · have := at_eq hk; omega

theorem ownT_of {w : World} {B n : Nat} {v : Value} {ts : List Tok} (h : w.ownsRow B 64 4 v n (ts.flatMap tokCells)) : ∃ a cap, v = .slice a n cap ∧ OwnT w B a n ts := by
  have hl : ts.length = n := by have := h.1; rw [cells_len] at this; omega
  rcases h.2 with ⟨h', h0⟩ | ⟨g, cap, cur, h', hb, hg, _, _, hcs, ht⟩
  · subst h0
    exact ⟨none, 0, h', hl, .inl rfl⟩
  · refine ⟨some ⟨g, 0, none⟩, cap, h', hl, .inr ⟨g, 0, rfl, hb, lt_of_block hg, fun i hi => ?_, fun i _ => ?_⟩⟩
    · rw [Nat.zero_add]
      have e : cur.toList[i]? = (ts.flatMap tokCells)[i]? := by rw [← ht, List.getElem?_take, if_pos (by omega)]
      simpa [World.cell?, hg] using e
    · exact frozen_of_row w g _ _ _ hg

end Go.Proofs.YtinndpnilmmmjaaGreatDoor
