import Derived.Test.YtkjpgbecbggcoaaDoorMFit0
import Derived.Deep.DeepCutAuto
import Derived.Deep.RegionHeld
import Derived.BigQuiet
import Derived.Shelf.Abstract
import Derived.Laws.RangeAny
import Derived.Laws.Runes
import Derived.Lib.RuneCount
import Derived.Lib.ItoaNum
import Derived.Lib.Replace
namespace Go.Proofs.YtkjpgbecbggcoaaDoor
open Go.RowKit

theorem newsT (w : World) (t : Tok) : ∀ (j : Nat) u, (tokCells t)[j]? = some u → (w.alloc (.cells (tokCells t).toArray 36)).cell? ((⟨w.heap.size, 0, none⟩ : Addr).add j) = some u := by
  intro j u hj
  have hb : (w.alloc (.cells (tokCells t).toArray 36)).heap[w.heap.size]? = some (.cells (tokCells t).toArray 36) := by
    show (w.heap.push _)[w.heap.size]? = _
    simp
  have h2 : (⟨w.heap.size, 0, none⟩ : Addr).add j = ⟨w.heap.size, j, none⟩ := by by_cases h : j = 0 <;> simp [Addr.add, h]
  obtain ⟨W, hW⟩ : ∃ W, w.alloc (.cells (tokCells t).toArray 36) = W := ⟨_, rfl⟩
  rw [hW] at hb ⊢
  rw [h2]
  simp [World.cell?, hb, hj]

theorem newsTA (w : World) (g : Nat) (hg : g = w.heap.size) (t : Tok) : ∀ (j : Nat) u, (tokCells t)[j]? = some u → (w.alloc (.cells #[.int .i64 t.k, .int .i64 t.n, .string t.t, .int .i64 (t.p : Nat)] 36)).cell? ((⟨g, 0, none⟩ : Addr).add j) = some u := by
  subst hg
  exact newsT w t

theorem one_tok (t : Tok) : ∀ u ∈ tokCells t, u.oneCell' = true := by
  intro u hu
  simp [tokCells] at hu
  rcases hu with rfl | rfl | rfl | rfl <;> rfl

theorem GrowT.lt {Q w : World} {g cap j : Nat} {ts : List Tok} (h : GrowT Q w g cap j ts) : g < w.heap.size := by
  rcases h.own.2 with ⟨h', _⟩ | ⟨g', cap', cur, h', _, hg, _⟩
  · simp at h'
  · cases h'; exact lt_of_block hg

theorem box_kept {w5 w7 : World} {o : Obj} {cs : Array Value} {T : TypeId} {g n cp : Nat} (hg : g < w5.heap.size) (h : ((w5.alloc (.cells cs T)).alloc o).grownBy w7 (Value.ownBlock (.slice (some ⟨g, 0, none⟩) n cp))) : w7.heap[w5.heap.size]? = some (.cells cs T) := by
  refine (h.block w5.heap.size (by simp; omega) (fun e => by have := (Option.some.inj e : w5.heap.size = g); omega)).trans ?_
  refine (Below.heap_alloc _ _ _ (by simp)).trans ?_
  show (w5.heap.push _)[w5.heap.size]? = _
  simp

theorem str_self (s : ByteArray) : (⟨s.data.toList.toArray⟩ : ByteArray) = s := rfl

set_option maxRecDepth 20000 in
set_option maxHeartbeats 2000000 in
theorem specLex_long (b off cap : Nat) (s : ByteArray) (w : World) (hl : 2000 < s.size) (hs : s.size ≤ 17592186044416) :
    Calls Tryd.prog 5 #[.slice (some ⟨b, off, none⟩) s.size cap] w (GivesLex w (lexT s)) := by
  have HE : Hid (lexT s = ([], 7, 0)) := by show _ = _; unfold lexT; rw [if_pos hl]
  have hli : (2000 : Int) < (s.size : Int) := by omega
  have HG := hide (GrowT.start w)
  go_enter Tryd.func5, Tryd.ntmps5
  go_wp2_with fail
  go_ret3
  refine ⟨w.heap.size, 0, 0, by rw [unhide HE]; rfl, ?_, (unhide HG).low⟩
  rw [unhide HE]
  exact (unhide HG).row

set_option maxRecDepth 20000 in
set_option maxHeartbeats 8000000 in
theorem specLex_any (b off cap : Nat) (s : ByteArray) (w : World) (h : RowB w (some ⟨b, off, none⟩) s.size (bz s)) (hs : s.size ≤ 17592186044416) :
    Calls Tryd.prog 5 #[.slice (some ⟨b, off, none⟩) s.size cap] w (GivesLex w (lexT s)) := by
  by_cases hl : 2000 < s.size
  · exact specLex_long b off cap s w hl hs
  have hli : ¬ (2000 : Int) < (s.size : Int) := by omega
  have hsz : s.size ≤ 2000 := by omega
  obtain ⟨tgt, htgt⟩ : ∃ t, lexR s (s.size + 1) 0 [] = t := ⟨_, rfl⟩
  have e : lexT s = tgt := by unfold lexT; rw [if_neg hl]; exact htgt
  rw [e]
  have HTG := hide htgt
  clear e htgt hl hs
  obtain ⟨W1, hW1⟩ : ∃ W, W = w.alloc (.cells #[] 36) := ⟨_, rfl⟩
  have HW1 := hide hW1
  have HG1 : Hid (RowT W1 (some ⟨w.heap.size, 0, none⟩) 0 []) := by rw [hW1]; exact (GrowT.start w).row
  have HBW : Hid (Below w.heap.size w W1) := by rw [hW1]; exact (Below.refl _ _).alloc (Nat.le_refl _) _
  have hz1 : W1.heap.size = w.heap.size + 1 := by rw [hW1]; simp
  have hwl : w.heap.size < W1.heap.size := by omega
  have hcb : (convert 22 9 (.slice (some ⟨b, off, none⟩) s.size cap)).run Tryd.prog W1 = .ok (.string s) W1 := by
    have hr : RowB W1 (some ⟨b, off, none⟩) s.size (bz s) := h.below (Nat.le_refl _) (unhide HBW)
    have hlen : s.data.toList.length = s.size := by rw [← Lib.size_eq]
    have := conv_back (w := W1) (b := b) (off := off) (cap := cap) (l := s.data.toList) (by rw [hlen]; exact hr)
    rw [hlen, str_self] at this
    exact this
  rw [unhide HW1] at hcb
  have HG0 := hide (GrowT.start W1)
  have HST : Hid (∀ k W, k ≤ s.size → Calls Tryd.prog 17 #[.string s, .int .i64 (k : Nat), .string ⟨#[226, 141, 157]⟩] W fun e w' => e = .returned (.bool (remark s k)) ∧ w' = W) := fun k W hk => by
    rw [← starts_remark]
    exact l1Starts_any s ⟨#[226, 141, 157]⟩ k hk (by omega) (by decide) W
  obtain ⟨i0, hi, hz0, hz2, hz3⟩ := info_parts info_tok
  have HZ1 := hide hz1
  clear h hW1 hz1
  go_enter Tryd.func5, Tryd.ntmps5
  go_wp2_with fail
  rw [← unhide HW1]
  rw [show w.heap.size + 1 = W1.heap.size from (unhide HZ1).symm]
  clear hcb
  go_loopw [7, 8] (fun u i wr => ∃ (g cp k F : Nat) (acc : List Tok), u = .slice (some ⟨g, 0, none⟩) acc.length cp ∧ i = .int .i64 (k : Nat) ∧ k ≤ s.size ∧ acc.length ≤ k ∧ s.size - k < F ∧ Hid (lexR s F k acc = tgt) ∧ Hid (GrowT W1 wr g cp acc.length acc)) (fun _ i _ => s.size - (intOf i).toNat)
  case atStart => exact ⟨W1.heap.size, 0, 0, s.size + 1, [], rfl, rfl, by omega, Nat.le_refl _, by omega, HTG, HG0⟩
  case round =>
    obtain ⟨g, cp, k, F, acc, rfl, rfl, hk, hal, hF, HT, HG⟩ := hrel
    clear HTG HG0
    obtain ⟨n, hn⟩ : ∃ n, acc.length = n := ⟨_, rfl⟩
    rw [hn] at hal HG ⊢
    have HN := hide hn
    clear hn
    have hzr := (unhide HG).low.size
    by_cases hmore : k < s.size ∧ remark s k = false
    case neg =>
      have HE : Hid (tgt = (acc, 0, 0)) := by show _ = _; rw [← unhide HT, lex_stop hmore]
      have hcs : ¬ k < s.size ∨ (k < s.size ∧ remark s k = true) := by
        by_cases h : k < s.size
        · right
          refine ⟨h, ?_⟩
          cases h2 : remark s k with
          | true => rfl
          | false => exact absurd ⟨h, h2⟩ hmore
        · exact .inl h
      rcases hcs with h1 | ⟨h1, h2⟩
      · have h1i : ¬ (k : Int) < (s.size : Int) := by omega
        go_wp2_with fail
        go_ret3
        refine ⟨g, n, cp, by rw [unhide HE]; rfl, ?_, (unhide HBW).trans ((unhide HG).low.mono (by omega))⟩
        rw [unhide HE]
        exact (unhide HG).row
      · have h1i : (k : Int) < (s.size : Int) := by omega
        have HSQ := hide (fun W => unhide HST k W hk)
        rw [h2] at HSQ
        clear h2
        go_wp2_with (go_at_call 17; refine (unhide HSQ _).mono ?_; rintro e w5 ⟨rfl, hw⟩; obtain rfl := hw.symm)
        go_ret3
        refine ⟨g, n, cp, by rw [unhide HE]; rfl, ?_, (unhide HBW).trans ((unhide HG).low.mono (by omega))⟩
        rw [unhide HE]
        exact (unhide HG).row
    case pos =>
      have hlt := hmore.1
      have hlti : (k : Int) < (s.size : Int) := by omega
      have HSQ := hide (fun W => unhide HST k W hk)
      rw [hmore.2] at HSQ
      have hix := fun W => run_idx hlt W
      have HM := hide hmore
      clear hmore
      obtain ⟨y, hy⟩ : ∃ y, bt s k = y := ⟨_, rfl⟩
      rw [hy] at hix
      have HY := hide hy
      clear hy
      by_cases hbl : y = 32 ∨ y = 9
      case pos =>
        have HNX : Hid (lexR s (F - 1) (k + 1) acc = tgt) := by show _ = _; rw [← lex_blank hF (unhide HM) (by rw [unhide HY]; exact hbl)]; exact unhide HT
        rcases hbl with rfl | rfl
        · go_wp2_with (go_at_call 17; refine (unhide HSQ _).mono ?_; rintro e w5 ⟨rfl, hw⟩; obtain rfl := hw.symm)
          go_roundw
          case rel => exact ⟨g, cp, k + 1, F - 1, acc, by rw [unhide HN], by go_num, by omega, by rw [unhide HN]; omega, by omega, HNX, by rw [unhide HN]; exact HG⟩
          case measure => simp [intOf]; omega
        · go_wp2_with (go_at_call 17; refine (unhide HSQ _).mono ?_; rintro e w5 ⟨rfl, hw⟩; obtain rfl := hw.symm)
          go_roundw
          case rel => exact ⟨g, cp, k + 1, F - 1, acc, by rw [unhide HN], by go_num, by omega, by rw [unhide HN]; omega, by omega, HNX, by rw [unhide HN]; exact HG⟩
          case measure => simp [intOf]; omega
      case neg =>
        have hb1 : ((y : Int) == 32) = false := by simp; omega
        have hb2 : ((y : Int) == 9) = false := by simp; omega
        have HNB : Hid (¬ (bt s k = 32 ∨ bt s k = 9)) := by rw [unhide HY]; exact hbl
        clear hbl
        have HC0 := hide (l1Token_any s k wr hlt (by omega))
        have HTE := hide (fun h => tok_end hlt h)
        have HLB := hide (fun h => lex_bad (acc := acc) hF (unhide HM) (unhide HNB) h)
        have HLT := hide (fun h => lex_tok (acc := acc) hF (unhide HM) (unhide HNB) h)
        obtain ⟨gt, hgt⟩ : ∃ g, tokAt s k = g := ⟨_, rfl⟩
        rw [hgt] at HC0 HTE HLB HLT
        clear hgt
        obtain ⟨tk, tn, tt, te, tc⟩ := gt
        have HC : Hid (Calls Tryd.prog 18 #[.string s, .int .i64 (k : Nat)] wr fun e' w' => e' = .returned (.agg #[.int .i64 tk, .int .i64 tn, .string tt, .int .i64 0, .int .i64 (te : Nat), .int .i64 tc]) ∧ Below wr.heap.size wr w') := unhide HC0
        clear HC0
        by_cases hc : tc = 0
        case neg =>
          have hci : (tc == 0) = false := by simpa using hc
          have HE : Hid (tgt = ([], tc, k)) := by show _ = _; rw [← unhide HT]; exact unhide HLB hc
          clear hc HTE HLT HLB
          go_wp2_with (first | (go_at_call 17; refine (unhide HSQ _).mono ?_; rintro e w5 ⟨rfl, hw⟩; obtain rfl := hw.symm) | (go_at_call 18; refine (unhide HC).mono ?_; rintro e w5 ⟨rfl, hb5⟩; have HB5 := hide hb5; clear hb5))
          go_quiet (fail)
          go_wp2_with fail
          go_ret3
          refine ⟨w.heap.size, 0, 0, by rw [unhide HE]; rfl, ⟨by rw [unhide HE]; rfl, .inl rfl⟩, ?_⟩
          have h5 := (unhide HBW).trans (((unhide HG).low.trans ((unhide HB5).mono hzr)).mono (Nat.le_of_lt hwl))
          exact Below.drewN (h5.alloc h5.size _) _
        case pos =>
          subst hc
          have hte := unhide HTE rfl
          have HNX : Hid (lexR s (F - 1) te (acc ++ [⟨tk, tn, tt, k⟩]) = tgt) := by show _ = _; rw [← unhide HT]; exact (unhide HLT rfl).symm
          have hte1 : k < te := hte.1
          have hte2 : te ≤ s.size := hte.2
          clear HTE HLT HLB hte
          go_wp2_with (first | (go_at_call 17; refine (unhide HSQ _).mono ?_; rintro e w5 ⟨rfl, hw⟩; obtain rfl := hw.symm) | (go_at_call 18; refine (unhide HC).mono ?_; rintro e w5 ⟨rfl, hb5⟩; have HG5 := hide ((unhide HG).below hb5); have hz5 := (unhide HG5).low.size; clear hb5) | (at_builtin; refine wpList_append_lies _ rfl _ _ 23 rfl W1.heap.size 36 i0 (.agg #[.int .i64 0, .int .i64 0, .string ⟨#[]⟩, .int .i64 0]) 4 40 Tryd.underlying23 hi hz0 hz2 hz3 rfl (by decide) _ _ _ rfl ((unhide HG5).below (((Below.refl _ w5).alloc (Nat.le_refl _) _).alloc (by simp) _)).own ⟨w5.heap.size + 1, 0, none⟩ 1 1 (tokCells ⟨tk, tn, tt, k⟩) rfl rfl (newsTA (w5.alloc (.cells #[.int .i64 tk, .int .i64 tn, .string tt, .int .i64 (k : Nat), .int .i64 (te : Nat), .int .i64 0] 41)) (w5.heap.size + 1) (by simp) ⟨tk, tn, tt, k⟩) (one_tok _) (by omega) (by unfold maxLen; omega) (by omega) (by simp; omega) (w5.heap.size + 1 + 1) (by simp) ?_; intro g' cap' w7 hown' hgrow hat hlt7; have hb7 := box_kept (unhide HG5).lt hgrow; have hc7 : w7.cell? ⟨w5.heap.size, 4, none⟩ = some (.int .i64 (te : Nat)) := (by simp [World.cell?, hb7]); clear hb7; have HF7 := hide (GrowT.push ((unhide HG5).below (((Below.refl _ w5).alloc (Nat.le_refl _) _).alloc (by simp) _)) hown' hgrow); clear hgrow hat hown' hlt7))
          go_roundw
          case rel =>
            refine ⟨g', cap', te, F - 1, acc ++ [⟨tk, tn, tt, k⟩], ?_, rfl, hte2, by rw [List.length_append, unhide HN]; simp; omega, by omega, HNX, ?_⟩
            · rw [List.length_append, unhide HN]; rfl
            · show GrowT _ _ _ _ _ _
              rw [List.length_append, unhide HN]
              exact unhide HF7
          case measure => simp [intOf]; omega

end Go.Proofs.YtkjpgbecbggcoaaDoor
namespace Go.Proofs.YtkjpgbecbggcoaaDoor
open Go.RowKit

/-- A token's value. -/
def tokV (t : Tok) : Value := .agg #[.int .i64 t.k, .int .i64 t.n, .string t.t, .int .i64 (t.p : Nat)]

theorem flat_get : ∀ (ts : List Tok) (j f : Nat) (hj : j < ts.length), f < 4 → (ts.flatMap tokCells)[4 * j + f]? = (tokCells ts[j])[f]?
  | [], j, f, hj, _ => absurd hj (Nat.not_lt_zero _)
  | t :: r, 0, f, _, hf => by
    rw [List.flatMap_cons, List.getElem?_append_left (by simp [tokCells]; omega)]
    simp
  | t :: r, j + 1, f, hj, hf => by
    have hl : (tokCells t).length = 4 := rfl
    rw [List.flatMap_cons, List.getElem?_append_right (by rw [hl]; omega), hl, show 4 * (j + 1) + f - 4 = 4 * j + f by omega]
    exact flat_get r j f (by simpa using hj) hf

/-- The token that stands at a place. -/
theorem RowT.get {w : World} {a : Option Addr} {n : Nat} {ts : List Tok} (h : RowT w a n ts) {j : Nat} (hj : j < n) : ∃ b off t, a = some ⟨b, off, none⟩ ∧ b < w.heap.size ∧ ts[j]? = some t ∧ w.cell? ⟨b, off + j * 4, none⟩ = some (.int .i64 t.k) ∧ w.cell? ⟨b, off + j * 4 + 1, none⟩ = some (.int .i64 t.n) ∧ w.cell? ⟨b, off + j * 4 + 2, none⟩ = some (.string t.t) ∧ w.cell? ⟨b, off + j * 4 + 3, none⟩ = some (.int .i64 (t.p : Nat)) := by
  have hl := h.len
  rcases h.at_ with h0 | ⟨b, off, rfl, hb, hc⟩
  · omega
  · have hj' : j < ts.length := by omega
    refine ⟨b, off, ts[j], rfl, hb, List.getElem?_eq_getElem hj', ?_, ?_, ?_, ?_⟩
    · rw [show off + j * 4 = off + (4 * j + 0) by omega, hc (4 * j + 0) (by omega)]; exact flat_get ts j 0 hj' (by omega)
    · rw [show off + j * 4 + 1 = off + (4 * j + 1) by omega, hc (4 * j + 1) (by omega)]; exact flat_get ts j 1 hj' (by omega)
    · rw [show off + j * 4 + 2 = off + (4 * j + 2) by omega, hc (4 * j + 2) (by omega)]; exact flat_get ts j 2 hj' (by omega)
    · rw [show off + j * 4 + 3 = off + (4 * j + 3) by omega, hc (4 * j + 3) (by omega)]; exact flat_get ts j 3 hj' (by omega)

theorem RowT.below {w w' : World} {a : Option Addr} {n B : Nat} {ts : List Tok} (h : RowT w a n ts) (hB : w.heap.size ≤ B) (hb : Below B w w') : RowT w' a n ts := by
  refine ⟨h.len, ?_⟩
  rcases h.at_ with h0 | ⟨b, off, rfl, hlt, hc⟩
  · exact .inl h0
  · exact .inr ⟨b, off, rfl, Nat.lt_of_lt_of_le hlt hb.size, fun i hi => (hb.cell (p := ⟨b, off + i, none⟩) (Nat.lt_of_lt_of_le hlt hB)).trans (hc i hi)⟩

end Go.Proofs.YtkjpgbecbggcoaaDoor
namespace Go.Proofs.YtkjpgbecbggcoaaDoor
open Go.RowKit

set_option maxRecDepth 20000 in
set_option maxHeartbeats 2000000 in
theorem l1Dec_pos (m : Nat) (hm : m ≤ 1000000000000000) (w : World) : Calls Tryd.prog 23 #[.int .i64 (m : Nat)] w fun e w' => e = .returned (.string (bstr (decZ m))) ∧ Below w.heap.size w w' := by
  have h0 : ¬ (m : Int) < 0 := by omega
  go_enter Tryd.func23, Tryd.ntmps23
  go_wp2_with fail
  go_loopw [0, 3] (fun a b wr => ∃ (x : Nat) (l : List Int), a = .int .i64 x ∧ b = .string (bstr l) ∧ x ≤ 1000000000000000 ∧ Hid (decZ m = decZ x ++ l) ∧ Hid (Below w.heap.size w wr)) (fun a _ _ => (intOf a).toNat)
  case atStart => exact ⟨m, [], rfl, rfl, hm, (by show _ = _; simp), Below.refl _ _⟩
  case round =>
    obtain ⟨x, l, rfl, rfl, hx, HK, HB⟩ := hrel
    by_cases h10 : x < 10
    · have h10i : ¬ (10 : Int) ≤ (x : Int) := by omega
      obtain ⟨A, hA⟩ : ∃ A, 48 + x = A := ⟨_, rfl⟩
      have eA : 48 + (x : Int) = (A : Int) := by omega
      have hA8 : A < 256 := by omega
      have wA : IntKind.u8.wrap (A : Int) = (A : Int) := byteN rfl hA8
      have hcv := conv_one wr A hA8
      have hln : l.length ≤ 16 := by
        have h1 := congrArg List.length (unhide HK)
        have h2 := decZ_le 15 m (by omega)
        rw [List.length_append] at h1
        omega
      have hno : ¬ 9223372036854775807 < (bstr [(A : Int)]).size + (bstr l).size := by rw [bstr_size, bstr_size]; simp; omega
      have hap : bstr [(A : Int)] ++ bstr l = bstr ((A : Int) :: l) := bstr_app _ _
      have HR : Hid (bstr ((A : Int) :: l) = bstr (decZ m)) := by show _ = _; rw [unhide HK, decZ_small h10, eA]; rfl
      have hsz := (unhide HB).size
      clear hA
      go_wp2_with fail
      go_ret
      exact ⟨by rw [unhide HR]; rfl, (unhide HB).alloc hsz _⟩
    · have h10i : (10 : Int) ≤ (x : Int) := by omega
      obtain ⟨y, hy⟩ : ∃ y, x / 10 = y := ⟨_, rfl⟩
      obtain ⟨r, hr⟩ : ∃ r, x % 10 = r := ⟨_, rfl⟩
      have ey : (x : Int).tdiv 10 = (y : Int) := by rw [Int.tdiv_eq_ediv_of_nonneg (by omega)]; omega
      have ey2 : (x : Int) / 10 = (y : Int) := by omega
      have er : (x : Int).tmod 10 = (r : Int) := by rw [Int.tmod_eq_emod_of_nonneg (by omega)]; omega
      have er2 : (x : Int) % 10 = (r : Int) := by omega
      obtain ⟨A, hA⟩ : ∃ A, 48 + r = A := ⟨_, rfl⟩
      have eA : 48 + (r : Int) = (A : Int) := by omega
      have hA8 : A < 256 := by omega
      have wA : IntKind.u8.wrap (A : Int) = (A : Int) := byteN rfl hA8
      have hcv := conv_one wr A hA8
      have hln : l.length ≤ 16 := by
        have h1 := congrArg List.length (unhide HK)
        have h2 := decZ_le 15 m (by omega)
        rw [List.length_append] at h1
        omega
      have hno : ¬ 9223372036854775807 < (bstr [(A : Int)]).size + (bstr l).size := by rw [bstr_size, bstr_size]; simp; omega
      have hap : bstr [(A : Int)] ++ bstr l = bstr ((A : Int) :: l) := bstr_app _ _
      have HN : Hid (decZ m = decZ y ++ ((A : Int) :: l)) := by show _ = _; rw [unhide HK, decZ_big h10, hy, hr, eA]; simp
      have hsz := (unhide HB).size
      have hyx : y < x := by omega
      clear hA hy hr
      go_wp2_with fail
      go_roundw
      case rel => exact ⟨y, (A : Int) :: l, by go_num, rfl, by omega, HN, (unhide HB).alloc hsz _⟩
      case measure => simp [intOf]; omega

theorem l1HighD_any (w : World) : Calls Tryd.prog 27 #[] w fun e w' => e = .returned (.string ⟨#[194, 175]⟩) ∧ w' = w := by
  go_enter Tryd.func27, Tryd.ntmps27
  go_wp2
  go_ret
  exact ⟨rfl, rfl⟩

set_option maxRecDepth 20000 in
set_option maxHeartbeats 2000000 in
theorem l1Dec_any (v : Int) (hv : -1000000000000000 ≤ v ∧ v ≤ 1000000000000000) (w : World) : Calls Tryd.prog 23 #[.int .i64 v] w fun e w' => e = .returned (.string (bstr (numT v))) ∧ Below w.heap.size w w' := by
  by_cases hn : v < 0
  · obtain ⟨m, rfl⟩ : ∃ m : Nat, v = -(m : Int) := ⟨v.natAbs, by omega⟩
    have hw : IntKind.i64.wrap (-(-(m : Int))) = (m : Int) := by rw [IntKind.wrap_i64]; omega
    have HR : Hid (bstr [194, 175] ++ bstr (decZ m) = bstr (numT (-(m : Int)))) := by
      show _ = _
      rw [bstr_app]
      unfold numT
      rw [if_pos hn]
      congr 2
      simp
    have hhigh : bstr [194, 175] = ⟨#[194, 175]⟩ := rfl
    have hno : ¬ 9223372036854775807 < (⟨#[194, 175]⟩ : ByteArray).size + (bstr (decZ m)).size := by
      have h2 := decZ_le 15 m (by omega)
      rw [← hhigh, bstr_size, bstr_size]
      simp
      omega
    have hc := l1Dec_pos m (by omega) w
    rw [hhigh] at HR
    have hmb : m ≤ 1000000000000000 := by omega
    clear hhigh hv
    go_enter Tryd.func23, Tryd.ntmps23
    go_wp2_with fail
    refine (l1HighD_any _).mono ?_
    rintro e w1 ⟨he, hw⟩
    subst hw
    subst he
    go_wp2_with fail
    refine hc.mono ?_
    rintro e w2 ⟨he, hb⟩
    subst he
    have HB := hide hb
    clear hb hc
    go_wp2_with fail
    go_ret
    exact ⟨by rw [← unhide HR]; rfl, unhide HB⟩
  · obtain ⟨m, rfl⟩ : ∃ m : Nat, v = (m : Int) := ⟨v.toNat, by omega⟩
    have e : numT (m : Int) = decZ m := by unfold numT; rw [if_neg hn]; simp
    rw [e]
    exact l1Dec_pos m (by omega) w

end Go.Proofs.YtkjpgbecbggcoaaDoor
namespace Go.Proofs.YtkjpgbecbggcoaaDoor
open Go.RowKit

theorem implDigit_any (v : Nat) (w : World) : Calls Tryd.prog 35 #[.int .i32 (v : Nat)] w fun e w' => e = .returned (.bool (isD v)) ∧ w' = w := by
  obtain ⟨r, hr⟩ : ∃ r, isD v = r := ⟨_, rfl⟩
  rw [hr]
  have HR : Hid (decide (48 ≤ v ∧ v ≤ 57) = r) := hr
  clear hr
  by_cases h1 : 48 ≤ v
  · have h1i : (48 : Int) ≤ (v : Int) := by omega
    go_enter Tryd.func35, Tryd.ntmps35
    go_wp2
    go_ret
    refine ⟨ret_bool ?_, rfl⟩
    rw [← unhide HR]
    by_cases h2 : v ≤ 57
    · rw [decide_eq_true (by omega), decide_eq_true ⟨h1, h2⟩]
    · rw [decide_eq_false (by omega), decide_eq_false (by omega)]
  · have h1i : ¬ (48 : Int) ≤ (v : Int) := by omega
    go_enter Tryd.func35, Tryd.ntmps35
    go_wp2
    go_ret
    refine ⟨ret_bool ?_, rfl⟩
    rw [← unhide HR, decide_eq_false (by omega)]

theorem implLetter_any (v : Nat) (w : World) : Calls Tryd.prog 38 #[.int .i32 (v : Nat)] w fun e w' => e = .returned (.bool (isL v)) ∧ w' = w := by
  obtain ⟨r, hr⟩ : ∃ r, isL v = r := ⟨_, rfl⟩
  rw [hr]
  have HR : Hid ((decide (97 ≤ v ∧ v ≤ 122) || decide (65 ≤ v ∧ v ≤ 90)) = r) := hr
  clear hr
  by_cases h1 : 65 ≤ v
  · have h1i : (65 : Int) ≤ (v : Int) := by omega
    by_cases h2 : v ≤ 90
    · have h2i : (v : Int) ≤ 90 := by omega
      go_enter Tryd.func38, Tryd.ntmps38
      go_wp2
      go_ret
      refine ⟨ret_bool ?_, rfl⟩
      rw [← unhide HR, decide_eq_false (by omega), decide_eq_true ⟨h1, h2⟩]
      rfl
    · have h2i : ¬ (v : Int) ≤ 90 := by omega
      by_cases h3 : 97 ≤ v
      · have h3i : (97 : Int) ≤ (v : Int) := by omega
        go_enter Tryd.func38, Tryd.ntmps38
        go_wp2
        go_ret
        refine ⟨ret_bool ?_, rfl⟩
        rw [← unhide HR]
        by_cases h4 : v ≤ 122
        · rw [decide_eq_true (by omega), decide_eq_true ⟨h3, h4⟩]; rfl
        · rw [decide_eq_false (by omega), decide_eq_false (by omega), decide_eq_false (by omega)]; rfl
      · have h3i : ¬ (97 : Int) ≤ (v : Int) := by omega
        go_enter Tryd.func38, Tryd.ntmps38
        go_wp2
        go_ret
        refine ⟨ret_bool ?_, rfl⟩
        rw [← unhide HR, decide_eq_false (by omega), decide_eq_false (by omega)]
        rfl
  · have h1i : ¬ (65 : Int) ≤ (v : Int) := by omega
    have h3i : ¬ (97 : Int) ≤ (v : Int) := by omega
    go_enter Tryd.func38, Tryd.ntmps38
    go_wp2
    go_ret
    refine ⟨ret_bool ?_, rfl⟩
    rw [← unhide HR, decide_eq_false (by omega), decide_eq_false (by omega)]
    rfl

theorem implLD_any (v : Nat) (w : World) : Calls Tryd.prog 56 #[.int .i32 (v : Nat)] w fun e w' => e = .returned (.bool (isLD v)) ∧ w' = w := by
  have HL := hide (implLetter_any v w)
  have HD := hide (implDigit_any v w)
  have HE : Hid (isLD v = (isL v || isD v)) := rfl
  cases hl : isL v with
  | true =>
    rw [hl] at HL HE
    go_enter Tryd.func56, Tryd.ntmps56
    go_wp2_with (go_at_call 38; refine (unhide HL).mono ?_; rintro e w1 ⟨rfl, hw⟩; obtain rfl := hw.symm)
    go_ret
    exact ⟨ret_bool (by rw [unhide HE]; rfl), rfl⟩
  | false =>
    rw [hl] at HL HE
    go_enter Tryd.func56, Tryd.ntmps56
    go_wp2_with (first | (go_at_call 38; refine (unhide HL).mono ?_; rintro e w1 ⟨rfl, hw⟩; obtain rfl := hw.symm) | (go_at_call 35; refine (unhide HD).mono ?_; rintro e w1 ⟨rfl, hw⟩; obtain rfl := hw.symm))
    go_ret
    exact ⟨ret_bool (by rw [unhide HE]; rfl), rfl⟩

theorem implBlank_any (v : Nat) (w : World) : Calls Tryd.prog 19 #[.int .i32 (v : Nat)] w fun e w' => e = .returned (.bool (decide (v = 32 ∨ v = 9))) ∧ w' = w := by
  obtain ⟨r, hr⟩ : ∃ r, decide (v = 32 ∨ v = 9) = r := ⟨_, rfl⟩
  rw [hr]
  have HR := hide hr
  clear hr
  by_cases h1 : v = 32
  · subst h1
    go_enter Tryd.func19, Tryd.ntmps19
    go_wp2
    go_ret
    exact ⟨ret_bool (by rw [← unhide HR]; rfl), rfl⟩
  · have h1i : ¬ (v : Int) = 32 := by omega
    go_enter Tryd.func19, Tryd.ntmps19
    go_wp2
    go_ret
    refine ⟨ret_bool ?_, rfl⟩
    rw [← unhide HR]
    by_cases h2 : v = 9
    · subst h2; rfl
    · rw [decide_eq_false (show ¬ (v = 32 ∨ v = 9) by omega)]
      simp
      omega

/-- Where the characters of a text no longer belong. -/
def strTo (p : Nat → Bool) (s : ByteArray) : Nat → Nat → Nat
  | 0, _ => s.size
  | f + 1, i => if i < s.size then (if p (Utf8.decode s i).1 = true then strTo p s f (i + (Utf8.decode s i).2) else i) else s.size

def stretchN (p : Nat → Bool) (s : ByteArray) : Nat := strTo p s (s.size + 1) 0

set_option maxRecDepth 20000 in
set_option maxHeartbeats 2000000 in
theorem stretch_any (g : Nat) (eg : ∀ args w, (callFunc g args).run Tryd.prog w = .ok (.enter g args) w) (p : Nat → Bool) (hp : ∀ v W, Calls Tryd.prog g #[.int .i32 ((v : Nat) : Int)] W fun e w' => e = .returned (.bool (p v)) ∧ w' = W) (s : ByteArray) (w : World) (hs : s.size ≤ 17592186044416) :
    Calls Tryd.prog 48 #[.string s, .func (.func g) #[] #[]] w fun e w' => e = .returned (.int .i64 (stretchN p s : Nat)) ∧ Below w.heap.size w w' := by
  have HP := hide hp
  clear hp
  obtain ⟨tgt, htgt⟩ : ∃ t, strTo p s (s.size + 1) 0 = t := ⟨_, rfl⟩
  have e : stretchN p s = tgt := htgt
  rw [e]
  have HT := hide htgt
  clear e htgt
  go_enter Tryd.func48, Tryd.ntmps48
  go_wp2_with fail
  go_loopw [5] (fun _ w' => ∃ (pos F : Nat), w' = w.iter s pos ∧ s.size - pos < F ∧ Hid (strTo p s F pos = tgt)) (fun _ w' => s.size - w'.iterPos w.heap.size)
  case atStart => exact ⟨0, s.size + 1, rfl, by omega, HT⟩
  case round =>
    obtain ⟨pos, F, rfl, hF, HK⟩ := hrel
    obtain ⟨F', rfl⟩ : ∃ f, F = f + 1 := ⟨F - 1, by omega⟩
    by_cases hlt : pos < s.size
    · have hnx : ∀ ty, (Instr.next (.pointer (some ⟨w.heap.size, 0, none⟩)) true ty).run Tryd.prog (w.iter s pos) = _ := fun ty => run_next_any w s pos ty hlt
      have hwd := Lib.decode_width_pos s pos hlt
      have HK2 : Hid ((if p (Utf8.decode s pos).1 = true then strTo p s F' (pos + (Utf8.decode s pos).2) else pos) = tgt) := by
        have := unhide HK
        rw [strTo, if_pos hlt] at this
        exact this
      have HC := hide (fun W => unhide HP (Utf8.decode s pos).1 W)
      obtain ⟨v, hv⟩ : ∃ v, (Utf8.decode s pos).1 = v := ⟨_, rfl⟩
      obtain ⟨wd, hw⟩ : ∃ n, (Utf8.decode s pos).2 = n := ⟨_, rfl⟩
      rw [hv, hw] at hnx HK2
      rw [hv] at HC
      rw [hw] at hwd
      clear HK hv hw
      cases hq : p v with
      | true =>
        rw [hq] at HC HK2
        rw [if_pos rfl] at HK2
        go_wp2_with (go_at_fn g; refine (unhide HC _).mono ?_; rintro e w1 ⟨rfl, hw⟩; obtain rfl := hw.symm)
        go_roundw
        case rel => exact ⟨pos + wd, F', rfl, by omega, HK2⟩
        case measure => simp; omega
      | false =>
        rw [hq] at HC HK2
        rw [if_neg (by decide)] at HK2
        go_wp2_with (go_at_fn g; refine (unhide HC _).mono ?_; rintro e w1 ⟨rfl, hw⟩; obtain rfl := hw.symm)
        go_ret
        exact ⟨by rw [← unhide HK2]; rfl, (Below.refl _ _).alloc (Nat.le_refl _) _⟩
    · have hnx : ∀ ty, (Instr.next (.pointer (some ⟨w.heap.size, 0, none⟩)) true ty).run Tryd.prog (w.iter s pos) = _ := fun ty => run_next_end w s pos ty hlt
      have HK2 : Hid (s.size = tgt) := by
        have := unhide HK
        rw [strTo, if_neg hlt] at this
        exact this
      clear HK
      go_wp2_with fail
      go_ret
      exact ⟨by rw [← unhide HK2]; rfl, (Below.refl _ _).alloc (Nat.le_refl _) _⟩

end Go.Proofs.YtkjpgbecbggcoaaDoor
namespace Go.Proofs.YtkjpgbecbggcoaaDoor
open Go

/-- The end of a text from place i on. -/
theorem tail_size (s : ByteArray) (i : Nat) : (s.extract i s.size).size = s.size - i := by
  rw [Lib.size_eq, sub_list, List.length_take, List.length_drop, ← Lib.size_eq]; omega

theorem tail_bt {s : ByteArray} {i j : Nat} (h : i + j < s.size) : bt (s.extract i s.size) j = bt s (i + j) := by
  have h1 : j < (s.extract i s.size).size := by rw [tail_size]; omega
  rw [bt_data h1, bt_data h, sub_list]
  simp only [List.getD_eq_getElem?_getD, List.getElem?_take, List.getElem?_drop]
  rw [if_pos (by omega)]

theorem tail_tl (s : ByteArray) (i j : Nat) : tl (s.extract i s.size) j = tl s (i + j) := by
  unfold tl
  by_cases h : i + j < s.size
  · rw [tail_bt h, tail_size]
    congr 1
    exact propext ⟨fun ⟨a, b⟩ => ⟨by omega, b⟩, fun ⟨a, b⟩ => ⟨by omega, b⟩⟩
  · rw [decide_eq_false (by rw [tail_size]; omega), decide_eq_false (by omega)]

/-- A character is read in the rest of a text as in the text. -/
theorem tail_decode {s : ByteArray} {i j : Nat} (h : i + j < s.size) : Utf8.decode (s.extract i s.size) j = Utf8.decode s (i + j) := by
  rw [decode_is, decode_is]
  have t1 : tl (s.extract i s.size) (j + 1) = tl s (i + j + 1) := by rw [tail_tl]; rfl
  have t2 : tl (s.extract i s.size) (j + 2) = tl s (i + j + 2) := by rw [tail_tl]; rfl
  have t3 : tl (s.extract i s.size) (j + 3) = tl s (i + j + 3) := by rw [tail_tl]; rfl
  have b : ∀ {k}, tl s (i + j + k) = true → bt (s.extract i s.size) (j + k) = bt s (i + j + k) := fun {k} hk => by
    have := (tl_bd hk).1
    rw [tail_bt (by omega), ← Nat.add_assoc]
  rw [tail_bt h, t1, t2, t3]
  by_cases c0 : bt s (i + j) < 128
  · rw [if_pos c0, if_pos c0]
  · rw [if_neg c0, if_neg c0]
    by_cases c1 : bt s (i + j) / 32 = 6 ∧ tl s (i + j + 1) = true
    · rw [if_pos c1, if_pos c1]
      have : v2 (s.extract i s.size) j = v2 s (i + j) := by unfold v2; rw [tail_bt h, b c1.2]
      rw [this]
    · rw [if_neg c1, if_neg c1]
      by_cases c2 : bt s (i + j) / 16 = 14 ∧ tl s (i + j + 1) = true ∧ tl s (i + j + 2) = true
      · rw [if_pos c2, if_pos c2]
        have : v3 (s.extract i s.size) j = v3 s (i + j) := by unfold v3; rw [tail_bt h, b c2.2.1, b c2.2.2]
        rw [this]
      · rw [if_neg c2, if_neg c2]
        by_cases c3 : bt s (i + j) / 8 = 30 ∧ tl s (i + j + 1) = true ∧ tl s (i + j + 2) = true ∧ tl s (i + j + 3) = true
        · rw [if_pos c3, if_pos c3]
          have : v4 (s.extract i s.size) j = v4 s (i + j) := by unfold v4; rw [tail_bt h, b c3.2.1, b c3.2.2.1, b c3.2.2.2]
          rw [this]
        · rw [if_neg c3, if_neg c3]

theorem decode_ge {s : ByteArray} {i : Nat} (h : ¬ bt s i < 128) : 128 ≤ (Utf8.decode s i).1 := by
  rw [decode_is, if_neg h]
  split
  · split
    · assumption
    · decide
  · split
    · split
      · rename_i h'; show 128 ≤ v3 s i; have := h'.1; omega
      · decide
    · split
      · split
        · rename_i h'; show 128 ≤ v4 s i; have := h'.1; omega
        · decide
      · decide

/-- Where only small characters belong, a stretch ends as the bytes say. -/
theorem strTo_end {p : Nat → Bool} (hp : ∀ v, p v = true → v < 128) {s : ByteArray} : ∀ (F i : Nat), s.size - i < F → i ≤ s.size → strTo p s F i = endOf p s i
  | 0, i, h, _ => by omega
  | F + 1, i, h, hi => by
    rw [strTo]
    by_cases h1 : i < s.size
    · rw [if_pos h1]
      by_cases h2 : bt s i < 128
      · have hd : Utf8.decode s i = (bt s i, 1) := by rw [decode_is, if_pos h2]
        rw [hd]
        by_cases h3 : p (bt s i) = true
        · rw [if_pos h3, endOf_go h1 h3]
          exact strTo_end hp F (i + 1) (by omega) (by omega)
        · rw [if_neg h3, endOf_stop (fun h => h3 h.2)]
      · have hge := decode_ge (s := s) (i := i) h2
        have h3 : ¬ p (Utf8.decode s i).1 = true := fun e => by have := hp _ e; omega
        have h4 : ¬ p (bt s i) = true := fun e => h2 (hp _ e)
        rw [if_neg h3, endOf_stop (fun h => h4 h.2)]
    · rw [if_neg h1, endOf_stop (fun h => h1 h.1)]
      omega

theorem isD_small (v : Nat) (h : isD v = true) : v < 128 := by unfold isD at h; have := of_decide_eq_true h; omega
theorem isL_small (v : Nat) (h : isL v = true) : v < 128 := by
  unfold isL at h
  rcases Bool.or_eq_true _ _ ▸ h with h | h <;> have := of_decide_eq_true h <;> omega
theorem isLD_small (v : Nat) (h : isLD v = true) : v < 128 := by
  unfold isLD at h
  rcases Bool.or_eq_true _ _ ▸ h with h | h
  · exact isL_small v h
  · exact isD_small v h

theorem endOf_tail {p : Nat → Bool} {s : ByteArray} {i : Nat} (hi : i ≤ s.size) : ∀ (d j : Nat), s.size - (i + j) = d → i + j ≤ s.size → endOf p (s.extract i s.size) j + i = endOf p s (i + j)
  | d, j, hd, hj => by
    by_cases h : i + j < s.size ∧ p (bt s (i + j)) = true
    · rw [endOf_go h.1 h.2, endOf_go (s := s.extract i s.size) (i := j) (by rw [tail_size]; omega) (by rw [tail_bt h.1]; exact h.2)]
      match d, hd with
      | 0, hd => omega
      | d + 1, hd => exact endOf_tail hi d (j + 1) (by omega) (by omega)
    · rw [endOf_stop h, endOf_stop (s := s.extract i s.size) (i := j) (fun h' => h (by
        have h1 : i + j < s.size := by have := h'.1; rw [tail_size] at this; omega
        exact ⟨h1, by rw [← tail_bt h1]; exact h'.2⟩))]
      omega

/-- A stretch of small characters at the rest of a text. -/
theorem stretch_tail {p : Nat → Bool} (hp : ∀ v, p v = true → v < 128) {s : ByteArray} {i : Nat} (hi : i ≤ s.size) : stretchN p (s.extract i s.size) + i = endOf p s i := by
  unfold stretchN
  rw [strTo_end hp _ 0 (by omega) (by omega)]
  exact endOf_tail hi _ 0 rfl hi

end Go.Proofs.YtkjpgbecbggcoaaDoor
namespace Go.Proofs.YtkjpgbecbggcoaaDoor
open Go.RowKit

/-- Block p holds a token. -/
def TBox (w : World) (p : Nat) (v0 v1 v2 v3 : Value) : Prop := w.heap[p]? = some (.cells #[v0, v1, v2, v3] 36 (0, 0))

theorem TBox.all {w : World} {p : Nat} {v0 v1 v2 v3 : Value} (h : TBox w p v0 v1 v2 v3) : w.cell? ⟨p, 0, none⟩ = some v0 ∧ w.cell? ⟨p, 1, none⟩ = some v1 ∧ w.cell? ⟨p, 2, none⟩ = some v2 ∧ w.cell? ⟨p, 3, none⟩ = some v3 ∧ w.frozen? ⟨p, 0, none⟩ = false ∧ w.frozen? ⟨p, 1, none⟩ = false ∧ w.frozen? ⟨p, 2, none⟩ = false ∧ w.frozen? ⟨p, 3, none⟩ = false := by
  unfold TBox at h
  refine ⟨?_, ?_, ?_, ?_, frozen_of_row w p 0 _ _ h, frozen_of_row w p 1 _ _ h, frozen_of_row w p 2 _ _ h, frozen_of_row w p 3 _ _ h⟩ <;> simp [World.cell?, h]

theorem TBox.lt {w : World} {p : Nat} {v0 v1 v2 v3 : Value} (h : TBox w p v0 v1 v2 v3) : p < w.heap.size := lt_of_block h

theorem TBox.below {w w' : World} {p B : Nat} {v0 v1 v2 v3 : Value} (h : TBox w p v0 v1 v2 v3) (hB : w.heap.size ≤ B) (hb : Below B w w') : TBox w' p v0 v1 v2 v3 := (hb.block p (Nat.lt_of_lt_of_le h.lt hB)).trans h

theorem TBox.new (w : World) (v0 v1 v2 v3 : Value) : TBox (w.alloc (.cells #[v0, v1, v2, v3] 36 (0, 0))) w.heap.size v0 v1 v2 v3 := by
  show (w.heap.push _)[w.heap.size]? = _
  simp

/-- What a reader of a token gives: the token, how many bytes it has, and a code. -/
def readV (k n : Int) (t : ByteArray) (wd : Nat) (c : Int) : Value := .tuple #[.agg #[.int .i64 k, .int .i64 n, .string t, .int .i64 0], .int .i64 (wd : Nat), .int .i64 c]

theorem run_sub0 {s : ByteArray} {q : Nat} (h2 : q ≤ s.size) (W : World) : (Instr.slice 9 (.string s) none (some (.int .i64 (q : Nat))) none).run Tryd.prog W = .ok (.string (s.extract 0 q)) W := by
  have h3 : (q : Int) ≤ (s.size : Int) := by omega
  go_simp

theorem strTo_le {p : Nat → Bool} {s : ByteArray} : ∀ (F i : Nat), strTo p s F i ≤ s.size
  | 0, _ => Nat.le_refl _
  | F + 1, i => by
    rw [strTo]
    split
    · split
      · exact strTo_le F _
      · omega
    · exact Nat.le_refl _

theorem eg_ld : ∀ args w, (callFunc 56 args).run Tryd.prog w = .ok (.enter 56 args) w := enters_of Tryd.func56 (by kernel_rfl) rfl
theorem eg_d : ∀ args w, (callFunc 35 args).run Tryd.prog w = .ok (.enter 35 args) w := enters_of Tryd.func35 (by kernel_rfl) rfl
theorem eg_l : ∀ args w, (callFunc 38 args).run Tryd.prog w = .ok (.enter 38 args) w := enters_of Tryd.func38 (by kernel_rfl) rfl

set_option maxRecDepth 20000 in
set_option maxHeartbeats 2000000 in
theorem readName_any (t : ByteArray) (w : World) (hs : t.size ≤ 17592186044416) :
    Calls Tryd.prog 39 #[.string t] w fun e w' => e = .returned (if 20 < stretchN isLD t then readV 0 0 ⟨#[]⟩ 0 1 else readV 3 0 (t.extract 0 (stretchN isLD t)) (stretchN isLD t) 0) ∧ Below w.heap.size w w' := by
  obtain ⟨Q, hQ⟩ : ∃ Q, Q = w.alloc (.cells #[.int .i64 0, .int .i64 0, .string ⟨#[]⟩, .int .i64 0] 36) := ⟨_, rfl⟩
  have HQ := hide hQ
  have HBX : Hid (TBox Q w.heap.size (.int .i64 0) (.int .i64 0) (.string ⟨#[]⟩) (.int .i64 0)) := by rw [hQ]; exact TBox.new w _ _ _ _
  have HBQ : Hid (Below w.heap.size w Q) := by rw [hQ]; exact (Below.refl _ _).alloc (Nat.le_refl _) _
  clear hQ
  have HST := hide (stretch_any 56 eg_ld isLD (fun v W => implLD_any v W) t Q hs)
  have hle : stretchN isLD t ≤ t.size := strTo_le _ _
  have hsl := fun W => run_sub0 (s := t) (q := stretchN isLD t) hle W
  obtain ⟨c, hc⟩ : ∃ c, stretchN isLD t = c := ⟨_, rfl⟩
  rw [hc] at HST hsl hle ⊢
  clear hc
  obtain ⟨x, hx⟩ : ∃ x, t.extract 0 c = x := ⟨_, rfl⟩
  rw [hx] at hsl ⊢
  clear hx
  by_cases h20 : 20 < c
  · rw [if_pos h20]
    have h20i : (20 : Int) < (c : Int) := by omega
    go_enter Tryd.func39, Tryd.ntmps39
    go_wp2_with (go_at_call 48; rw [← unhide HQ]; refine (unhide HST).mono ?_; rintro e w5 ⟨rfl, hb5⟩; obtain ⟨q0, q1, q2, q3, f0, f1, f2, f3⟩ := ((unhide HBX).below (Nat.le_refl _) hb5).all; have HB5 := hide ((unhide HBQ).trans (hb5.mono (unhide HBQ).size)); clear hb5)
    refine bodyPost_ret (v := readV 0 0 ⟨#[]⟩ 0 1) (by simp [results, Tryd.results39, go_sem, q0, q1, q2, q3, readV]) rfl ?_
    exact ⟨rfl, (((((unhide HB5).setCell (Nat.le_refl _) _).setCell (Nat.le_refl _) _).setCell (Nat.le_refl _) _).setCell (Nat.le_refl _) _)⟩
  · rw [if_neg h20]
    have h20i : ¬ (20 : Int) < (c : Int) := by omega
    go_enter Tryd.func39, Tryd.ntmps39
    go_wp2_with (go_at_call 48; rw [← unhide HQ]; refine (unhide HST).mono ?_; rintro e w5 ⟨rfl, hb5⟩; obtain ⟨q0, q1, q2, q3, f0, f1, f2, f3⟩ := ((unhide HBX).below (Nat.le_refl _) hb5).all; have HB5 := hide ((unhide HBQ).trans (hb5.mono (unhide HBQ).size)); clear hb5)
    refine bodyPost_ret (v := readV 3 0 x c 0) (by simp [results, Tryd.results39, go_sem, q0, q1, q2, q3, readV]) rfl ?_
    exact ⟨rfl, (((((unhide HB5).setCell (Nat.le_refl _) _).setCell (Nat.le_refl _) _).setCell (Nat.le_refl _) _).setCell (Nat.le_refl _) _)⟩

end Go.Proofs.YtkjpgbecbggcoaaDoor
namespace Go.Proofs.YtkjpgbecbggcoaaDoor
open Go.RowKit

theorem RowT.one {w : World} {g : Nat} {y : Tok} (h : RowT w (some ⟨g, 0, none⟩) 1 [y]) : w.cell? ⟨g, 0, none⟩ = some (.int .i64 y.k) ∧ w.cell? ⟨g, 1, none⟩ = some (.int .i64 y.n) ∧ w.cell? ⟨g, 2, none⟩ = some (.string y.t) ∧ w.cell? ⟨g, 3, none⟩ = some (.int .i64 (y.p : Nat)) := by
  obtain ⟨b, off, t, e, _, et, a0, a1, a2, a3⟩ := h.get (j := 0) (by omega)
  cases e
  have : y = t := by simpa using et
  subst this
  exact ⟨by simpa using a0, by simpa using a1, by simpa using a2, by simpa using a3⟩

set_option maxRecDepth 20000 in
set_option maxHeartbeats 4000000 in
theorem specTok_num (n at' : Int) (t : ByteArray) (w : World) (hn : -1000000000000000 ≤ n ∧ n ≤ 1000000000000000) :
    Calls Tryd.prog 14 #[.agg #[.int .i64 1, .int .i64 n, .string t, .int .i64 at']] w fun e w' => e = .returned (.string (if backB 1 n t (lexT (bstr (numT n))) = true then (bstr (numT n)) else ⟨#[]⟩)) ∧ Below w.heap.size w w' := by
  obtain ⟨x, hx⟩ : ∃ x : ByteArray, (bstr (numT n)) = x := ⟨_, rfl⟩
  rw [hx]
  obtain ⟨r, hr⟩ : ∃ r, lexT x = r := ⟨_, rfl⟩
  rw [hr]
  have HRR := hide hr
  obtain ⟨ts, cd, pl⟩ := r
  obtain ⟨res, hres⟩ : ∃ res, (if backB 1 n t (ts, cd, pl) = true then x else ⟨#[]⟩) = res := ⟨_, rfl⟩
  rw [hres]
  have HRES := hide hres
  clear hr hres
  obtain ⟨Q, hQ⟩ : ∃ Q, Q = w.alloc (.cells #[.int .i64 1, .int .i64 n, .string t, .int .i64 at'] 36) := ⟨_, rfl⟩
  have HQ := hide hQ
  have HXQ : Hid (TBox Q w.heap.size (.int .i64 1) (.int .i64 n) (.string t) (.int .i64 at')) := by rw [hQ]; exact TBox.new w _ _ _ _
  have HBQ : Hid (Below w.heap.size w Q) := by rw [hQ]; exact (Below.refl _ _).alloc (Nat.le_refl _) _
  clear hQ
  have hxs : x.size ≤ 21 := by rw [← hx, bstr_size]; exact (numT_parts n (by omega)).1
  have HD : Hid (∀ W, Calls Tryd.prog 23 #[.int .i64 n] W fun e w' => e = .returned (.string x) ∧ Below W.heap.size W w') := hide fun W => by rw [← hx]; exact l1Dec_any n hn W
  have hg1 : ¬ 1000000000000000 < n := by omega
  have hg2 : ¬ n < -1000000000000000 := by omega
  clear hx hn
  go_enter Tryd.func14, Tryd.ntmps14
  go_wp2_with (first | (go_at_call 23; refine (unhide HD _).mono ?_; rintro e w5 ⟨rfl, hb5⟩; rw [← unhide HQ] at hb5; have HB0 := hide ((unhide HBQ).trans (hb5.mono (unhide HBQ).size)); have HX0 := hide ((unhide HXQ).below (Nat.le_refl _) hb5); obtain ⟨cap, W1, hcv, hcap, hrow, hbW, hzW⟩ := conv_str w5 x; have HL := hide (specLex_any w5.heap.size 0 cap x W1 hrow (by omega)); have HB1 := hide ((unhide HB0).trans (hbW.mono (unhide HB0).size)); have HX1 := hide ((unhide HX0).below (Nat.le_refl _) hbW); clear hcap hrow hbW hzW hb5) | (go_at_call 5; refine (unhide HL).mono ?_; rintro e w6 ⟨g6, n6, c6, he, hR6, hb6⟩; rw [unhide HRR] at he hR6; have he' : e = .returned (.tuple #[.slice (some ⟨g6, 0, none⟩) n6 c6, .int .i64 cd, .int .i64 (pl : Nat)]) := he; subst he'; have HB6 := hide ((unhide HB1).trans (hb6.mono (unhide HB1).size)); have HX6 := hide ((unhide HX1).below (Nat.le_refl _) hb6); have HR6 : Hid (RowT w6 (some ⟨g6, 0, none⟩) n6 ts) := hR6; obtain ⟨q0, q1, q2, q3, f0, f1, f2, f3⟩ := (unhide HX6).all; clear he hR6 hb6))
  have HX6 := HX6
  by_cases hcd : cd = 0
  case neg =>
    have hd : (cd != 0) = true := by simpa using hcd
    have HE : Hid (backB 1 n t (ts, cd, pl) = false) := backB_code hcd
    clear hcd
    go_quiet (fail)
    go_wp2_with fail
    go_ret
    exact ⟨by rw [← unhide HRES, unhide HE]; rfl, Below.drewN (unhide HB6) _⟩
  subst hcd
  by_cases hn1 : n6 = 1
  case neg =>
    have hd : ((n6 : Int) != 1) = true := by simp; omega
    have HE : Hid (backB 1 n t (ts, 0, pl) = false) := backB_many (fun e => hn1 (by rw [← (unhide HR6).len]; exact e))
    clear hn1
    go_quiet (fail)
    go_wp2_with fail
    go_ret
    exact ⟨by rw [← unhide HRES, unhide HE]; rfl, Below.drewN (unhide HB6) _⟩
  subst hn1
  obtain ⟨y, rfl⟩ : ∃ y, ts = [y] := by
    have h := (unhide HR6).len
    match ts, h with
    | [y], _ => exact ⟨y, rfl⟩
  obtain ⟨y0, y1, y2, y3⟩ := (unhide HR6).one
  have HBB : Hid (backB 1 n t ([y], 0, pl) = (decide (y.k = 1) && decide (y.n = n) && decide (y.t = t))) := by show _ = _; unfold backB; simp
  obtain ⟨yk, yn, yt, yp⟩ := y
  by_cases e1 : yk = 1
  case neg =>
    have hd : (yk != 1) = true := by simpa using e1
    have HE : Hid (backB 1 n t ([⟨yk, yn, yt, yp⟩], 0, pl) = false) := by show _ = _; rw [unhide HBB, decide_eq_false e1]; rfl
    clear e1
    go_quiet (fail)
    go_wp2_with fail
    go_ret
    exact ⟨by rw [← unhide HRES, unhide HE]; rfl, Below.drewN (unhide HB6) _⟩
  subst e1
  by_cases e3 : yt = t
  case neg =>
    have hd := bytes_ne e3
    have HE : Hid (backB 1 n t ([⟨1, yn, yt, yp⟩], 0, pl) = false) := by show _ = _; rw [unhide HBB, decide_eq_false e3, Bool.and_false]
    clear e3
    go_quiet (fail)
    go_wp2_with fail
    go_ret
    exact ⟨by rw [← unhide HRES, unhide HE]; rfl, Below.drewN (unhide HB6) _⟩
  subst e3
  by_cases e2 : yn = n
  case neg =>
    have hd : (yn != n) = true := by simpa using e2
    have HE : Hid (backB 1 n yt ([⟨1, yn, yt, yp⟩], 0, pl) = false) := by show _ = _; rw [unhide HBB, decide_eq_false e2]; simp
    clear e2
    go_quiet (fail)
    go_wp2_with fail
    go_ret
    exact ⟨by rw [← unhide HRES, unhide HE]; rfl, Below.drewN (unhide HB6) _⟩
  subst e2
  have HE : Hid (backB 1 yn yt ([⟨1, yn, yt, yp⟩], 0, pl) = true) := by show _ = _; rw [unhide HBB]; simp
  go_quiet (fail)
  go_wp2_with fail
  go_ret
  exact ⟨by rw [← unhide HRES, unhide HE]; rfl, Below.drewN (unhide HB6) _⟩

set_option maxRecDepth 20000 in
set_option maxHeartbeats 4000000 in
theorem specTok_text (n at' : Int) (t : ByteArray) (w : World) (hn : t.size ≤ 2000) :
    Calls Tryd.prog 14 #[.agg #[.int .i64 2, .int .i64 n, .string t, .int .i64 at']] w fun e w' => e = .returned (.string (if backB 2 n t (lexT ⟨(quoteL t.data.toList).toArray⟩) = true then ⟨(quoteL t.data.toList).toArray⟩ else ⟨#[]⟩)) ∧ Below w.heap.size w w' := by
  obtain ⟨x, hx⟩ : ∃ x : ByteArray, ⟨(quoteL t.data.toList).toArray⟩ = x := ⟨_, rfl⟩
  rw [hx]
  obtain ⟨r, hr⟩ : ∃ r, lexT x = r := ⟨_, rfl⟩
  rw [hr]
  have HRR := hide hr
  obtain ⟨ts, cd, pl⟩ := r
  obtain ⟨res, hres⟩ : ∃ res, (if backB 2 n t (ts, cd, pl) = true then x else ⟨#[]⟩) = res := ⟨_, rfl⟩
  rw [hres]
  have HRES := hide hres
  clear hr hres
  obtain ⟨Q, hQ⟩ : ∃ Q, Q = w.alloc (.cells #[.int .i64 2, .int .i64 n, .string t, .int .i64 at'] 36) := ⟨_, rfl⟩
  have HQ := hide hQ
  have HXQ : Hid (TBox Q w.heap.size (.int .i64 2) (.int .i64 n) (.string t) (.int .i64 at')) := by rw [hQ]; exact TBox.new w _ _ _ _
  have HBQ : Hid (Below w.heap.size w Q) := by rw [hQ]; exact (Below.refl _ _).alloc (Nat.le_refl _) _
  clear hQ
  have hxs : x.size ≤ 4002 := by
    rw [← hx]
    show (quoteL t.data.toList).toArray.size ≤ 4002
    have := (qd_len t.data.toList).1
    rw [← Lib.size_eq] at this
    unfold quoteL
    unfold qd at this
    rw [List.size_toArray, List.length_cons, List.length_append]
    simp only [List.length_cons, List.length_nil]
    omega
  have HD : Hid (∀ W, Calls Tryd.prog 24 #[.string t] W fun e w' => e = .returned (.string x) ∧ Below W.heap.size W w') := hide fun W => by rw [← hx]; exact l1Quote_any t W (by omega)
  have hg1 : ¬ (2000 : Int) < (t.size : Int) := by omega
  clear hx hn
  go_enter Tryd.func14, Tryd.ntmps14
  go_wp2_with (first | (go_at_call 24; refine (unhide HD _).mono ?_; rintro e w5 ⟨rfl, hb5⟩; rw [← unhide HQ] at hb5; have HB0 := hide ((unhide HBQ).trans (hb5.mono (unhide HBQ).size)); have HX0 := hide ((unhide HXQ).below (Nat.le_refl _) hb5); obtain ⟨cap, W1, hcv, hcap, hrow, hbW, hzW⟩ := conv_str w5 x; have HL := hide (specLex_any w5.heap.size 0 cap x W1 hrow (by omega)); have HB1 := hide ((unhide HB0).trans (hbW.mono (unhide HB0).size)); have HX1 := hide ((unhide HX0).below (Nat.le_refl _) hbW); clear hcap hrow hbW hzW hb5) | (go_at_call 5; refine (unhide HL).mono ?_; rintro e w6 ⟨g6, n6, c6, he, hR6, hb6⟩; rw [unhide HRR] at he hR6; have he' : e = .returned (.tuple #[.slice (some ⟨g6, 0, none⟩) n6 c6, .int .i64 cd, .int .i64 (pl : Nat)]) := he; subst he'; have HB6 := hide ((unhide HB1).trans (hb6.mono (unhide HB1).size)); have HX6 := hide ((unhide HX1).below (Nat.le_refl _) hb6); have HR6 : Hid (RowT w6 (some ⟨g6, 0, none⟩) n6 ts) := hR6; obtain ⟨q0, q1, q2, q3, f0, f1, f2, f3⟩ := (unhide HX6).all; clear he hR6 hb6))
  have HX6 := HX6
  by_cases hcd : cd = 0
  case neg =>
    have hd : (cd != 0) = true := by simpa using hcd
    have HE : Hid (backB 2 n t (ts, cd, pl) = false) := backB_code hcd
    clear hcd
    go_quiet (fail)
    go_wp2_with fail
    go_ret
    exact ⟨by rw [← unhide HRES, unhide HE]; rfl, Below.drewN (unhide HB6) _⟩
  subst hcd
  by_cases hn1 : n6 = 1
  case neg =>
    have hd : ((n6 : Int) != 1) = true := by simp; omega
    have HE : Hid (backB 2 n t (ts, 0, pl) = false) := backB_many (fun e => hn1 (by rw [← (unhide HR6).len]; exact e))
    clear hn1
    go_quiet (fail)
    go_wp2_with fail
    go_ret
    exact ⟨by rw [← unhide HRES, unhide HE]; rfl, Below.drewN (unhide HB6) _⟩
  subst hn1
  obtain ⟨y, rfl⟩ : ∃ y, ts = [y] := by
    have h := (unhide HR6).len
    match ts, h with
    | [y], _ => exact ⟨y, rfl⟩
  obtain ⟨y0, y1, y2, y3⟩ := (unhide HR6).one
  have HBB : Hid (backB 2 n t ([y], 0, pl) = (decide (y.k = 2) && decide (y.n = n) && decide (y.t = t))) := by show _ = _; unfold backB; simp
  obtain ⟨yk, yn, yt, yp⟩ := y
  by_cases e1 : yk = 2
  case neg =>
    have hd : (yk != 2) = true := by simpa using e1
    have HE : Hid (backB 2 n t ([⟨yk, yn, yt, yp⟩], 0, pl) = false) := by show _ = _; rw [unhide HBB, decide_eq_false e1]; rfl
    clear e1
    go_quiet (fail)
    go_wp2_with fail
    go_ret
    exact ⟨by rw [← unhide HRES, unhide HE]; rfl, Below.drewN (unhide HB6) _⟩
  subst e1
  by_cases e3 : yt = t
  case neg =>
    have hd := bytes_ne e3
    have HE : Hid (backB 2 n t ([⟨2, yn, yt, yp⟩], 0, pl) = false) := by show _ = _; rw [unhide HBB, decide_eq_false e3, Bool.and_false]
    clear e3
    go_quiet (fail)
    go_wp2_with fail
    go_ret
    exact ⟨by rw [← unhide HRES, unhide HE]; rfl, Below.drewN (unhide HB6) _⟩
  subst e3
  by_cases e2 : yn = n
  case neg =>
    have hd : (yn != n) = true := by simpa using e2
    have HE : Hid (backB 2 n yt ([⟨2, yn, yt, yp⟩], 0, pl) = false) := by show _ = _; rw [unhide HBB, decide_eq_false e2]; simp
    clear e2
    go_quiet (fail)
    go_wp2_with fail
    go_ret
    exact ⟨by rw [← unhide HRES, unhide HE]; rfl, Below.drewN (unhide HB6) _⟩
  subst e2
  have HE : Hid (backB 2 yn yt ([⟨2, yn, yt, yp⟩], 0, pl) = true) := by show _ = _; rw [unhide HBB]; simp
  go_quiet (fail)
  go_wp2_with fail
  go_ret
  exact ⟨by rw [← unhide HRES, unhide HE]; rfl, Below.drewN (unhide HB6) _⟩

set_option maxRecDepth 20000 in
set_option maxHeartbeats 4000000 in
theorem specTok_other (k n at' : Int) (t : ByteArray) (w : World) (hk1 : k ≠ 1) (hk2 : k ≠ 2) (hs : t.size ≤ 1048576) :
    Calls Tryd.prog 14 #[.agg #[.int .i64 k, .int .i64 n, .string t, .int .i64 at']] w fun e w' => e = .returned (.string (if backB k n t (lexT t) = true then t else ⟨#[]⟩)) ∧ Below w.heap.size w w' := by
  obtain ⟨r, hr⟩ : ∃ r, lexT t = r := ⟨_, rfl⟩
  rw [hr]
  have HRR := hide hr
  obtain ⟨ts, cd, pl⟩ := r
  obtain ⟨res, hres⟩ : ∃ res, (if backB k n t (ts, cd, pl) = true then t else ⟨#[]⟩) = res := ⟨_, rfl⟩
  rw [hres]
  have HRES := hide hres
  clear hr hres
  obtain ⟨Q, hQ⟩ : ∃ Q, Q = w.alloc (.cells #[.int .i64 k, .int .i64 n, .string t, .int .i64 at'] 36) := ⟨_, rfl⟩
  have HQ := hide hQ
  have HXQ : Hid (TBox Q w.heap.size (.int .i64 k) (.int .i64 n) (.string t) (.int .i64 at')) := by rw [hQ]; exact TBox.new w _ _ _ _
  have HBQ : Hid (Below w.heap.size w Q) := by rw [hQ]; exact (Below.refl _ _).alloc (Nat.le_refl _) _
  clear hQ
  have e1 : (k == 1) = false := by simpa using hk1
  have e2 : (k == 2) = false := by simpa using hk2
  have HB0 := HBQ
  have HX0 := HXQ
  obtain ⟨cap, W1, hcv, hcap, hrow, hbW, hzW⟩ := conv_str Q t; have HL := hide (specLex_any Q.heap.size 0 cap t W1 hrow (by omega)); have HB1 := hide ((unhide HB0).trans (hbW.mono (unhide HB0).size)); have HX1 := hide ((unhide HX0).below (Nat.le_refl _) hbW)
  have hqz : Q.heap.size = w.heap.size + 1 := by rw [unhide HQ]; simp
  rw [hqz] at hcv HL
  rw [unhide HQ] at hcv
  clear hcap hrow hbW hzW hk1 hk2 hqz
  go_enter Tryd.func14, Tryd.ntmps14
  go_wp2_with (first | (go_at_call 5; refine (unhide HL).mono ?_; rintro e w6 ⟨g6, n6, c6, he, hR6, hb6⟩; rw [unhide HRR] at he hR6; have he' : e = .returned (.tuple #[.slice (some ⟨g6, 0, none⟩) n6 c6, .int .i64 cd, .int .i64 (pl : Nat)]) := he; subst he'; have HB6 := hide ((unhide HB1).trans (hb6.mono (unhide HB1).size)); have HX6 := hide ((unhide HX1).below (Nat.le_refl _) hb6); have HR6 : Hid (RowT w6 (some ⟨g6, 0, none⟩) n6 ts) := hR6; obtain ⟨q0, q1, q2, q3, f0, f1, f2, f3⟩ := (unhide HX6).all; clear he hR6 hb6))
  have HX6 := HX6
  by_cases hcd : cd = 0
  case neg =>
    have hd : (cd != 0) = true := by simpa using hcd
    have HE : Hid (backB k n t (ts, cd, pl) = false) := backB_code hcd
    clear hcd
    go_quiet (fail)
    go_wp2_with fail
    go_ret
    exact ⟨by rw [← unhide HRES, unhide HE]; rfl, Below.drewN (unhide HB6) _⟩
  subst hcd
  by_cases hn1 : n6 = 1
  case neg =>
    have hd : ((n6 : Int) != 1) = true := by simp; omega
    have HE : Hid (backB k n t (ts, 0, pl) = false) := backB_many (fun e => hn1 (by rw [← (unhide HR6).len]; exact e))
    clear hn1
    go_quiet (fail)
    go_wp2_with fail
    go_ret
    exact ⟨by rw [← unhide HRES, unhide HE]; rfl, Below.drewN (unhide HB6) _⟩
  subst hn1
  obtain ⟨y, rfl⟩ : ∃ y, ts = [y] := by
    have h := (unhide HR6).len
    match ts, h with
    | [y], _ => exact ⟨y, rfl⟩
  obtain ⟨y0, y1, y2, y3⟩ := (unhide HR6).one
  have HBB : Hid (backB k n t ([y], 0, pl) = (decide (y.k = k) && decide (y.n = n) && decide (y.t = t))) := by show _ = _; unfold backB; simp
  obtain ⟨yk, yn, yt, yp⟩ := y
  by_cases e1 : yk = k
  case neg =>
    have hd : (yk != k) = true := by simpa using e1
    have HE : Hid (backB k n t ([⟨yk, yn, yt, yp⟩], 0, pl) = false) := by show _ = _; rw [unhide HBB, decide_eq_false e1]; rfl
    clear e1
    go_quiet (fail)
    go_wp2_with fail
    go_ret
    exact ⟨by rw [← unhide HRES, unhide HE]; rfl, Below.drewN (unhide HB6) _⟩
  subst e1
  by_cases e3 : yt = t
  case neg =>
    have hd := bytes_ne e3
    have HE : Hid (backB yk n t ([⟨yk, yn, yt, yp⟩], 0, pl) = false) := by show _ = _; rw [unhide HBB, decide_eq_false e3, Bool.and_false]
    clear e3
    go_quiet (fail)
    go_wp2_with fail
    go_ret
    exact ⟨by rw [← unhide HRES, unhide HE]; rfl, Below.drewN (unhide HB6) _⟩
  subst e3
  by_cases e2 : yn = n
  case neg =>
    have hd : (yn != n) = true := by simpa using e2
    have HE : Hid (backB yk n yt ([⟨yk, yn, yt, yp⟩], 0, pl) = false) := by show _ = _; rw [unhide HBB, decide_eq_false e2]; simp
    clear e2
    go_quiet (fail)
    go_wp2_with fail
    go_ret
    exact ⟨by rw [← unhide HRES, unhide HE]; rfl, Below.drewN (unhide HB6) _⟩
  subst e2
  have HE : Hid (backB yk yn yt ([⟨yk, yn, yt, yp⟩], 0, pl) = true) := by show _ = _; rw [unhide HBB]; simp
  go_quiet (fail)
  go_wp2_with fail
  go_ret
  exact ⟨by rw [← unhide HRES, unhide HE]; rfl, Below.drewN (unhide HB6) _⟩

set_option maxRecDepth 20000 in
set_option maxHeartbeats 2000000 in
theorem specTok_big (n at' : Int) (t : ByteArray) (w : World) (hn : 1000000000000000 < n ∨ n < -1000000000000000) :
    Calls Tryd.prog 14 #[.agg #[.int .i64 1, .int .i64 n, .string t, .int .i64 at']] w fun e w' => e = .returned (.string ⟨#[]⟩) ∧ Below w.heap.size w w' := by
  by_cases h1 : 1000000000000000 < n
  · clear hn
    go_enter Tryd.func14, Tryd.ntmps14
    go_wp2_with fail
    go_ret
    exact ⟨rfl, (Below.refl _ _).alloc (Nat.le_refl _) _⟩
  · have h2 : n < -1000000000000000 := by omega
    clear hn
    go_enter Tryd.func14, Tryd.ntmps14
    go_wp2_with fail
    go_ret
    exact ⟨rfl, (Below.refl _ _).alloc (Nat.le_refl _) _⟩

set_option maxRecDepth 20000 in
set_option maxHeartbeats 2000000 in
theorem specTok_long (n at' : Int) (t : ByteArray) (w : World) (hn : 2000 < t.size) :
    Calls Tryd.prog 14 #[.agg #[.int .i64 2, .int .i64 n, .string t, .int .i64 at']] w fun e w' => e = .returned (.string ⟨#[]⟩) ∧ Below w.heap.size w w' := by
  have h1 : (2000 : Int) < (t.size : Int) := by omega
  go_enter Tryd.func14, Tryd.ntmps14
  go_wp2_with fail
  go_ret
  exact ⟨rfl, (Below.refl _ _).alloc (Nat.le_refl _) _⟩

end Go.Proofs.YtkjpgbecbggcoaaDoor
namespace Go.Proofs.YtkjpgbecbggcoaaDoor

/-- Numbers as bytes. -/
def zb (l : List Int) : List UInt8 := l.map fun x => x.toNat.toUInt8

theorem zb_app (l m : List Int) : zb (l ++ m) = zb l ++ zb m := by simp [zb]

theorem dec_digits (u : Nat) : Lib.decDigits u = zb (decZ u) := by
  induction u using Nat.strongRecOn with
  | _ u ih =>
    by_cases h : u < 10
    · rw [Lib.decDigits, dif_pos h, decZ_small h]
      simp only [zb, List.map_cons, List.map_nil]
      rw [show (48 + (u : Int)).toNat = 48 + u by omega]
    · rw [Lib.decDigits, dif_neg h, decZ_big h, zb_app, ih (u / 10) (by omega)]
      simp only [zb, List.map_cons, List.map_nil]
      rw [show (48 + ((u % 10 : Nat) : Int)).toNat = 48 + u % 10 by omega]

theorem zb_digit {l : List Int} (h : ∀ x ∈ l, 48 ≤ x ∧ x ≤ 57) : ∀ b ∈ zb l, 48 ≤ b.toNat ∧ b.toNat ≤ 57 := by
  intro b hb
  obtain ⟨x, hx, rfl⟩ := List.mem_map.1 hb
  have := h x hx
  show 48 ≤ (UInt8.ofNat x.toNat).toNat ∧ _
  rw [UInt8.toNat_ofNat_of_lt' (by simp [UInt8.size]; omega)]
  omega

theorem index_none {l : List UInt8} (h : ∀ b ∈ l, 48 ≤ b.toNat ∧ b.toNat ≤ 57) : Lib.index l [45] = -1 := by
  induction l with
  | nil => rfl
  | cons b l ih =>
    have hb := h b (by simp)
    have hne : ¬ (45 : UInt8) = b := fun e => by rw [← e] at hb; exact absurd hb (by decide)
    rw [Lib.index, ih (fun x hx => h x (by simp [hx]))]
    simp [List.isPrefixOf, hne]

end Go.Proofs.YtkjpgbecbggcoaaDoor
