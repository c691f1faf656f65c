import Derived.Test.YtinndpnilmmmjaaGreatDoorMTok
import Derived.Deep.DeepCutAuto
namespace Go.Proofs.YtinndpnilmmmjaaGreatDoor
open Go.RowKit

theorem newsT (w : World) (t : Tok) : ∀ (j : Nat) u, (tokCells t)[j]? = some u → (w.alloc (.cells (tokCells t).toArray 64)).cell? ((⟨w.heap.size, 0, none⟩ : Addr).add j) = some u := by
  intro j u hj
  have hb : (w.alloc (.cells (tokCells t).toArray 64)).heap[w.heap.size]? = some (.cells (tokCells t).toArray 64) := by
    show (w.heap.push _)[w.heap.size]? = _
    simp
  have h2 : (⟨w.heap.size, 0, none⟩ : Addr).add j = ⟨w.heap.size, j, none⟩ := by by_cases h : j = 0 <;> simp [Addr.add, h]
  obtain ⟨W, hW⟩ : ∃ W, w.alloc (.cells (tokCells t).toArray 64) = W := ⟨_, rfl⟩
  rw [hW] at hb ⊢
  rw [h2]
  simp [World.cell?, hb, hj]

theorem newsTA (w : World) (g : Nat) (hg : g = w.heap.size) (t : Tok) : ∀ (j : Nat) u, (tokCells t)[j]? = some u → (w.alloc (.cells #[.int .i64 t.k, .int .i64 t.n, .string t.t, .int .i64 (t.p : Nat)] 64)).cell? ((⟨g, 0, none⟩ : Addr).add j) = some u := by
  subst hg
  exact newsT w t

theorem one_tok (t : Tok) : ∀ u ∈ tokCells t, u.oneCell' = true := by
  intro u hu
  simp [tokCells] at hu
  rcases hu with rfl | rfl | rfl | rfl <;> rfl

theorem GrowT.lt {Q w : World} {g cap j : Nat} {ts : List Tok} (h : GrowT Q w g cap j ts) : g < w.heap.size := by
  rcases h.own.2 with ⟨h', _⟩ | ⟨g', cap', cur, h', _, hg, _⟩
  · simp at h'
  · cases h'; exact lt_of_block hg

theorem box_kept {w5 w7 : World} {o : Obj} {cs : Array Value} {T : TypeId} {g n cp : Nat} (hg : g < w5.heap.size) (h : ((w5.alloc (.cells cs T)).alloc o).grownBy w7 (Value.ownBlock (.slice (some ⟨g, 0, none⟩) n cp))) : w7.heap[w5.heap.size]? = some (.cells cs T) := by
  refine (h.block w5.heap.size (by simp; omega) (fun e => by have := (Option.some.inj e : w5.heap.size = g); omega)).trans ?_
  refine (Below.heap_alloc _ _ _ (by simp)).trans ?_
  show (w5.heap.push _)[w5.heap.size]? = _
  simp

theorem str_self (s : ByteArray) : (⟨s.data.toList.toArray⟩ : ByteArray) = s := rfl

set_option maxRecDepth 20000 in
set_option maxHeartbeats 2000000 in
theorem specLex_long (b off cap : Nat) (s : ByteArray) (w : World) (hl : 2000 < s.size) (hs : s.size ≤ 17592186044416) :
    Calls Tryz.prog 42 #[.slice (some ⟨b, off, none⟩) s.size cap] w (GivesLex w (lexT s)) := by
  have HE : Hid (lexT s = ([], 7, 0)) := by show _ = _; unfold lexT; rw [if_pos hl]
  have hli : (2000 : Int) < (s.size : Int) := by omega
  have HG := hide (GrowT.start w)
  go_enter Tryz.func42, Tryz.ntmps42
  go_wp2_with fail
  go_ret3
  refine ⟨w.heap.size, 0, 0, by rw [unhide HE]; rfl, ?_, (unhide HG).low⟩
  rw [unhide HE]
  exact (unhide HG).row

set_option maxRecDepth 20000 in
set_option maxHeartbeats 8000000 in
theorem specLex_any (b off cap : Nat) (s : ByteArray) (w : World) (h : RowB w (some ⟨b, off, none⟩) s.size (bz s)) (hs : s.size ≤ 17592186044416) :
    Calls Tryz.prog 42 #[.slice (some ⟨b, off, none⟩) s.size cap] w (GivesLex w (lexT s)) := by
  by_cases hl : 2000 < s.size
  · exact specLex_long b off cap s w hl hs
  have hli : ¬ (2000 : Int) < (s.size : Int) := by omega
  have hsz : s.size ≤ 2000 := by omega
  obtain ⟨tgt, htgt⟩ : ∃ t, lexR s (s.size + 1) 0 [] = t := ⟨_, rfl⟩
  have e : lexT s = tgt := by unfold lexT; rw [if_neg hl]; exact htgt
  rw [e]
  have HTG := hide htgt
  clear e htgt hl hs
  obtain ⟨W1, hW1⟩ : ∃ W, W = w.alloc (.cells #[] 64) := ⟨_, rfl⟩
  have HW1 := hide hW1
  have HG1 : Hid (RowT W1 (some ⟨w.heap.size, 0, none⟩) 0 []) := by rw [hW1]; exact (GrowT.start w).row
  have HBW : Hid (Below w.heap.size w W1) := by rw [hW1]; exact (Below.refl _ _).alloc (Nat.le_refl _) _
  have hz1 : W1.heap.size = w.heap.size + 1 := by rw [hW1]; simp
  have hwl : w.heap.size < W1.heap.size := by omega
  have hcb : (convert 33 9 (.slice (some ⟨b, off, none⟩) s.size cap)).run Tryz.prog W1 = .ok (.string s) W1 := by
    have hr : RowB W1 (some ⟨b, off, none⟩) s.size (bz s) := h.below (Nat.le_refl _) (unhide HBW)
    have hlen : s.data.toList.length = s.size := by rw [← Lib.size_eq]
    have := conv_back (w := W1) (b := b) (off := off) (cap := cap) (l := s.data.toList) (by rw [hlen]; exact hr)
    rw [hlen, str_self] at this
    exact this
  rw [unhide HW1] at hcb
  have HG0 := hide (GrowT.start W1)
  have HST : Hid (∀ k W, k ≤ s.size → Calls Tryz.prog 88 #[.string s, .int .i64 (k : Nat), .string ⟨#[226, 141, 157]⟩] W fun e w' => e = .returned (.bool (remark s k)) ∧ w' = W) := fun k W hk => by
    rw [← starts_remark]
    exact l1Starts_any s ⟨#[226, 141, 157]⟩ k hk (by omega) (by decide) W
  obtain ⟨i0, hi, hz0, hz2, hz3⟩ := info_parts info_tok
  have HZ1 := hide hz1
  clear h hW1 hz1
  go_enter Tryz.func42, Tryz.ntmps42
  go_wp2_with fail
  rw [← unhide HW1]
  rw [show w.heap.size + 1 = W1.heap.size from (unhide HZ1).symm]
  clear hcb
  go_loopw [7, 8] (fun u i wr => ∃ (g cp k F : Nat) (acc : List Tok), u = .slice (some ⟨g, 0, none⟩) acc.length cp ∧ i = .int .i64 (k : Nat) ∧ k ≤ s.size ∧ acc.length ≤ k ∧ s.size - k < F ∧ Hid (lexR s F k acc = tgt) ∧ Hid (GrowT W1 wr g cp acc.length acc)) (fun _ i _ => s.size - (intOf i).toNat)
  case atStart => exact ⟨W1.heap.size, 0, 0, s.size + 1, [], rfl, rfl, by omega, Nat.le_refl _, by omega, HTG, HG0⟩
  case round =>
    obtain ⟨g, cp, k, F, acc, rfl, rfl, hk, hal, hF, HT, HG⟩ := hrel
    clear HTG HG0
    obtain ⟨n, hn⟩ : ∃ n, acc.length = n := ⟨_, rfl⟩
    rw [hn] at hal HG ⊢
    have HN := hide hn
    clear hn
    have hzr := (unhide HG).low.size
    by_cases hmore : k < s.size ∧ remark s k = false
    case neg =>
      have HE : Hid (tgt = (acc, 0, 0)) := by show _ = _; rw [← unhide HT, lex_stop hmore]
      have hcs : ¬ k < s.size ∨ (k < s.size ∧ remark s k = true) := by
        by_cases h : k < s.size
        · right
          refine ⟨h, ?_⟩
          cases h2 : remark s k with
          | true => rfl
          | false => exact absurd ⟨h, h2⟩ hmore
        · exact .inl h
      rcases hcs with h1 | ⟨h1, h2⟩
      · have h1i : ¬ (k : Int) < (s.size : Int) := by omega
        go_wp2_with fail
        go_ret3
        refine ⟨g, n, cp, by rw [unhide HE]; rfl, ?_, (unhide HBW).trans ((unhide HG).low.mono (by omega))⟩
        rw [unhide HE]
        exact (unhide HG).row
      · have h1i : (k : Int) < (s.size : Int) := by omega
        have HSQ := hide (fun W => unhide HST k W hk)
        rw [h2] at HSQ
        clear h2
        go_wp2_with (go_at_call 88; refine (unhide HSQ _).mono ?_; rintro e w5 ⟨rfl, hw⟩; obtain rfl := hw.symm)
        go_ret3
        refine ⟨g, n, cp, by rw [unhide HE]; rfl, ?_, (unhide HBW).trans ((unhide HG).low.mono (by omega))⟩
        rw [unhide HE]
        exact (unhide HG).row
    case pos =>
      have hlt := hmore.1
      have hlti : (k : Int) < (s.size : Int) := by omega
      have HSQ := hide (fun W => unhide HST k W hk)
      rw [hmore.2] at HSQ
      have hix := fun W => run_idx hlt W
      have HM := hide hmore
      clear hmore
      obtain ⟨y, hy⟩ : ∃ y, bt s k = y := ⟨_, rfl⟩
      rw [hy] at hix
      have HY := hide hy
      clear hy
      by_cases hbl : y = 32 ∨ y = 9
      case pos =>
        have HNX : Hid (lexR s (F - 1) (k + 1) acc = tgt) := by show _ = _; rw [← lex_blank hF (unhide HM) (by rw [unhide HY]; exact hbl)]; exact unhide HT
        rcases hbl with rfl | rfl
        · go_wp2_with (go_at_call 88; refine (unhide HSQ _).mono ?_; rintro e w5 ⟨rfl, hw⟩; obtain rfl := hw.symm)
          go_roundw
          case rel => exact ⟨g, cp, k + 1, F - 1, acc, by rw [unhide HN], by go_num, by omega, by rw [unhide HN]; omega, by omega, HNX, by rw [unhide HN]; exact HG⟩
          case measure => simp [intOf]; omega
        · go_wp2_with (go_at_call 88; refine (unhide HSQ _).mono ?_; rintro e w5 ⟨rfl, hw⟩; obtain rfl := hw.symm)
          go_roundw
          case rel => exact ⟨g, cp, k + 1, F - 1, acc, by rw [unhide HN], by go_num, by omega, by rw [unhide HN]; omega, by omega, HNX, by rw [unhide HN]; exact HG⟩
          case measure => simp [intOf]; omega
      case neg =>
        have hb1 : ((y : Int) == 32) = false := by simp; omega
        have hb2 : ((y : Int) == 9) = false := by simp; omega
        have HNB : Hid (¬ (bt s k = 32 ∨ bt s k = 9)) := by rw [unhide HY]; exact hbl
        clear hbl
        have HC0 := hide (l1Token_any s k wr hlt (by omega))
        have HTE := hide (fun h => tok_end hlt h)
        have HLB := hide (fun h => lex_bad (acc := acc) hF (unhide HM) (unhide HNB) h)
        have HLT := hide (fun h => lex_tok (acc := acc) hF (unhide HM) (unhide HNB) h)
        obtain ⟨gt, hgt⟩ : ∃ g, tokAt s k = g := ⟨_, rfl⟩
        rw [hgt] at HC0 HTE HLB HLT
        clear hgt
        obtain ⟨tk, tn, tt, te, tc⟩ := gt
        have HC : Hid (Calls Tryz.prog 89 #[.string s, .int .i64 (k : Nat)] wr fun e' w' => e' = .returned (.agg #[.int .i64 tk, .int .i64 tn, .string tt, .int .i64 0, .int .i64 (te : Nat), .int .i64 tc]) ∧ Below wr.heap.size wr w') := unhide HC0
        clear HC0
        by_cases hc : tc = 0
        case neg =>
          have hci : (tc == 0) = false := by simpa using hc
          have HE : Hid (tgt = ([], tc, k)) := by show _ = _; rw [← unhide HT]; exact unhide HLB hc
          clear hc HTE HLT HLB
          go_wp2_with (first | (go_at_call 88; refine (unhide HSQ _).mono ?_; rintro e w5 ⟨rfl, hw⟩; obtain rfl := hw.symm) | (go_at_call 89; refine (unhide HC).mono ?_; rintro e w5 ⟨rfl, hb5⟩; have HB5 := hide hb5; clear hb5))
          go_quiet (fail)
          go_wp2_with fail
          go_ret3
          refine ⟨w.heap.size, 0, 0, by rw [unhide HE]; rfl, ⟨by rw [unhide HE]; rfl, .inl rfl⟩, ?_⟩
          have h5 := (unhide HBW).trans (((unhide HG).low.trans ((unhide HB5).mono hzr)).mono (Nat.le_of_lt hwl))
          exact Below.drewN (h5.alloc h5.size _) _
        case pos =>
          subst hc
          have hte := unhide HTE rfl
          have HNX : Hid (lexR s (F - 1) te (acc ++ [⟨tk, tn, tt, k⟩]) = tgt) := by show _ = _; rw [← unhide HT]; exact (unhide HLT rfl).symm
          have hte1 : k < te := hte.1
          have hte2 : te ≤ s.size := hte.2
          clear HTE HLT HLB hte
          go_wp2_with (first | (go_at_call 88; refine (unhide HSQ _).mono ?_; rintro e w5 ⟨rfl, hw⟩; obtain rfl := hw.symm) | (go_at_call 89; refine (unhide HC).mono ?_; rintro e w5 ⟨rfl, hb5⟩; have HG5 := hide ((unhide HG).below hb5); have hz5 := (unhide HG5).low.size; clear hb5) | (at_builtin; refine wpList_append_lies _ rfl _ _ 76 rfl W1.heap.size 64 i0 (.agg #[.int .i64 0, .int .i64 0, .string ⟨#[]⟩, .int .i64 0]) 4 40 Tryz.underlying76 hi hz0 hz2 hz3 rfl (by decide) _ _ _ rfl ((unhide HG5).below (((Below.refl _ w5).alloc (Nat.le_refl _) _).alloc (by simp) _)).own ⟨w5.heap.size + 1, 0, none⟩ 1 1 (tokCells ⟨tk, tn, tt, k⟩) rfl rfl (newsTA (w5.alloc (.cells #[.int .i64 tk, .int .i64 tn, .string tt, .int .i64 (k : Nat), .int .i64 (te : Nat), .int .i64 0] 119)) (w5.heap.size + 1) (by simp) ⟨tk, tn, tt, k⟩) (one_tok _) (by omega) (by unfold maxLen; omega) (by omega) (by simp; omega) (w5.heap.size + 1 + 1) (by simp) ?_; intro g' cap' w7 hown' hgrow hat hlt7; have hb7 := box_kept (unhide HG5).lt hgrow; have hc7 : w7.cell? ⟨w5.heap.size, 4, none⟩ = some (.int .i64 (te : Nat)) := (by simp [World.cell?, hb7]); clear hb7; have HF7 := hide (GrowT.push ((unhide HG5).below (((Below.refl _ w5).alloc (Nat.le_refl _) _).alloc (by simp) _)) hown' hgrow); clear hgrow hat hown' hlt7))
          go_roundw
          case rel =>
            refine ⟨g', cap', te, F - 1, acc ++ [⟨tk, tn, tt, k⟩], ?_, rfl, hte2, by rw [List.length_append, unhide HN]; simp; omega, by omega, HNX, ?_⟩
            · rw [List.length_append, unhide HN]; rfl
            · show GrowT _ _ _ _ _ _
              rw [List.length_append, unhide HN]
              exact unhide HF7
          case measure => simp [intOf]; omega

end Go.Proofs.YtinndpnilmmmjaaGreatDoor
