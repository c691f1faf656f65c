import Derived.Test.YtmgjicgojlkpcaaGreatDoorRuneMath3
namespace Go.Proofs.YtmgjicgojlkpcaaGreatDoor
open Go.RowKit

/-- All signs, with a blank behind each. -/
def signS : ByteArray := ⟨(signCs.flatMap fun c => ((encZ (c : Nat)).map fun x => x.toNat.toUInt8) ++ [32]).toArray⟩

set_option maxRecDepth 100000 in
theorem l1Signs_any (w : World) : Calls Tryz.prog 142 #[] w fun e w' => e = .returned (.string signS) ∧ w' = w := by
  have hs : ∀ x : ByteArray, x = signS → Ending.returned (.string x) = .returned (.string signS) := fun x h => by rw [h]
  go_enter Tryz.func142, Tryz.ntmps142
  go_wp2
  go_ret
  exact ⟨hs _ (by kernel_rfl), rfl⟩

/-- The pieces that blanks end, behind k bytes: where the next begins, and those that are there. -/
def pcN (s : ByteArray) : Nat → Nat × List ByteArray
  | 0 => (0, [])
  | k + 1 => if bt s k = 32 then (k + 1, (pcN s k).2 ++ [s.extract (pcN s k).1 k]) else pcN s k

theorem pcN_le (s : ByteArray) : ∀ k, (pcN s k).1 ≤ k ∧ (pcN s k).2.length ≤ k
  | 0 => by simp [pcN]
  | k + 1 => by
    have ih := pcN_le s k
    rw [pcN]
    split
    · simp; omega
    · omega

/-- The slice (a, n, _) reads as these texts. -/
structure RowS (w : World) (a : Option Addr) (n : Nat) (ps : List ByteArray) : Prop where
  len : ps.length = n
  at_ : n = 0 ∨ ∃ b off, a = some ⟨b, off, none⟩ ∧ b < w.heap.size ∧ ∀ i, i < n → w.cell? ⟨b, off + i, none⟩ = some (.string (ps.getD i ⟨#[]⟩))

theorem RowS.below {w w' : World} {a : Option Addr} {n : Nat} {ps : List ByteArray} {B : Nat} (h : RowS w a n ps) (hB : w.heap.size ≤ B) (hb : Below B w w') : RowS w' a n ps := by
  refine ⟨h.len, ?_⟩
  rcases h.at_ with h0 | ⟨b, off, rfl, hlt, hc⟩
  · exact .inl h0
  · exact .inr ⟨b, off, rfl, Nat.lt_of_lt_of_le hlt hb.size, fun i hi => (hb.cell (p := ⟨b, off + i, none⟩) (Nat.lt_of_lt_of_le hlt hB)).trans (hc i hi)⟩

theorem info_str : (Tryz.prog.info? 9).map (fun i => (i.zero, i.size, i.bytes)) = some (some (.string ⟨#[]⟩), 1, 16) := by kernel_rfl

/-- An own list of texts that grows, made in the world Q. -/
structure GrowS (Q w : World) (g cap j : Nat) (ps : List ByteArray) : Prop where
  own : w.ownsRow Q.heap.size 9 1 (.slice (some ⟨g, 0, none⟩) j cap) j (ps.map Value.string)
  low : Below Q.heap.size Q w

theorem GrowS.start (Q : World) : GrowS Q (Q.alloc (.cells #[] 9)) Q.heap.size 0 0 [] := by
  refine ⟨⟨by simp, .inr ⟨Q.heap.size, 0, #[], rfl, Nat.le_refl _, ?_, by simp, by unfold maxLen; omega, by simp, by simp⟩⟩, (Below.refl _ _).alloc (Nat.le_refl _) _⟩
  show (Q.heap.push _)[Q.heap.size]? = _
  simp

theorem GrowS.below {Q w w' : World} {g cap j : Nat} {ps : List ByteArray} (h : GrowS Q w g cap j ps) (hb : Below w.heap.size w w') : GrowS Q w' g cap j ps := ⟨ownsB_below h.own (Nat.le_refl _) hb, h.low.trans (hb.mono h.low.size)⟩

theorem GrowS.len {Q w : World} {g cap j : Nat} {ps : List ByteArray} (h : GrowS Q w g cap j ps) : ps.length = j := by simpa using h.own.1

theorem GrowS.ge {Q w : World} {g cap j : Nat} {ps : List ByteArray} (h : GrowS Q w g cap j ps) : Q.heap.size ≤ g := by
  rcases h.own.2 with ⟨h', _⟩ | ⟨g', cap', cur, h', hb, _⟩
  · simp at h'
  · cases h'; exact hb

theorem GrowS.push {Q w w1 : World} {g cap j m g' cap' : Nat} {ps qs : List ByteArray} (h : GrowS Q w g cap j ps)
    (hown : w1.ownsRow Q.heap.size 9 1 (.slice (some ⟨g', 0, none⟩) (j + m) cap') (j + m) (ps.map Value.string ++ qs.map Value.string)) (hg : w.grownBy w1 (Value.ownBlock (.slice (some ⟨g, 0, none⟩) j cap))) :
    GrowS Q w1 g' cap' (j + m) (ps ++ qs) := by
  have hge := h.ge
  refine ⟨by rw [List.map_append]; exact hown, ⟨hg.os.trans h.low.os, hg.tape.trans h.low.tape, hg.output.trans h.low.output, Nat.le_trans h.low.size hg.size, fun k hk => (hg.block k (by have := h.low.size; omega) (fun e => by have := (Option.some.inj e : k = g); omega)).trans (h.low.block k hk)⟩⟩

theorem GrowS.row {Q w : World} {g cap j : Nat} {ps : List ByteArray} (h : GrowS Q w g cap j ps) : RowS w (some ⟨g, 0, none⟩) j ps := by
  refine ⟨h.len, ?_⟩
  rcases h.own.2 with ⟨h', _⟩ | ⟨g', cap', cur, h', _, hg, _, _, hcs, ht⟩
  · simp at h'
  · cases h'
    refine .inr ⟨g, 0, rfl, lt_of_block hg, fun i hi => ?_⟩
    have hl := h.len
    have e : cur.toList[i]? = some (.string (ps.getD i ⟨#[]⟩)) := by
      have : (cur.toList.take (j * 1))[i]? = (ps.map Value.string)[i]? := by rw [ht]
      rw [List.getElem?_take, if_pos (by omega)] at this
      rw [this]
      simp [hl, hi]
    simpa [World.cell?, hg] using e

theorem newStr (w : World) (x : ByteArray) : ∀ (j : Nat) u, ([x].map Value.string)[j]? = some u → (w.alloc (.cells #[.string x] 9)).cell? ((⟨w.heap.size, 0, none⟩ : Addr).add j) = some u := by
  intro j u hj
  have hj0 : j = 0 := by
    have := (List.getElem?_eq_some_iff.1 hj).1
    simpa using this
  subst hj0
  simp at hj
  subst hj
  have h2 : (⟨w.heap.size, 0, none⟩ : Addr).add 0 = ⟨w.heap.size, 0, none⟩ := by simp [Addr.add]
  rw [h2]
  have hb : (w.alloc (.cells #[.string x] 9)).heap[w.heap.size]? = some (.cells #[.string x] 9) := by
    show (w.heap.push _)[w.heap.size]? = _
    simp
  obtain ⟨W, hW⟩ : ∃ W, w.alloc (.cells #[.string x] 9) = W := ⟨_, rfl⟩
  rw [hW] at hb ⊢
  simp [World.cell?, hb]

theorem one_strs (ps : List ByteArray) : ∀ u ∈ ps.map Value.string, u.oneCell' = true := by
  intro u hu
  obtain ⟨x, _, rfl⟩ := List.mem_map.1 hu
  rfl

theorem run_sub {s : ByteArray} {p q : Nat} (h1 : p ≤ q) (h2 : q ≤ s.size) (W : World) : (Instr.slice 9 (.string s) (some (.int .i64 (p : Nat))) (some (.int .i64 (q : Nat))) none).run Tryz.prog W = .ok (.string (s.extract p q)) W := by
  have h3 : (q : Int) ≤ (s.size : Int) := by omega
  have h4 : (p : Int) ≤ (q : Int) := by omega
  go_simp

/-- What l1List gives. -/
def GivesStrs (w : World) (ps : List ByteArray) (e : Ending) (w' : World) : Prop := ∃ g cap, e = .returned (.slice (some ⟨g, 0, none⟩) ps.length cap) ∧ RowS w' (some ⟨g, 0, none⟩) ps.length ps ∧ Below w.heap.size w w'

set_option maxRecDepth 20000 in
set_option maxHeartbeats 2000000 in
theorem l1List_any (s : ByteArray) (w : World) (hs : s.size ≤ 100000) :
    Calls Tryz.prog 141 #[.string s] w (GivesStrs w (pcN s s.size).2) := by
  obtain ⟨i0, hi, hz0, hz1, hz2⟩ := info_parts info_str
  have HG0 := hide (GrowS.start w)
  go_enter Tryz.func141, Tryz.ntmps141
  go_wp2_with fail
  go_loopw [3, 4, 5] (fun u fr i wr => ∃ (k g cp : Nat), u = .slice (some ⟨g, 0, none⟩) (pcN s k).2.length cp ∧ fr = .int .i64 ((pcN s k).1 : Nat) ∧ i = .int .i64 (k : Nat) ∧ k ≤ s.size ∧ Hid (GrowS w wr g cp (pcN s k).2.length (pcN s k).2)) (fun _ _ i _ => s.size - (intOf i).toNat)
  case atStart => exact ⟨0, w.heap.size, 0, rfl, rfl, rfl, Nat.zero_le _, HG0⟩
  case round =>
    obtain ⟨k, g, cp, rfl, rfl, rfl, hk, HG⟩ := hrel
    clear HG0
    have hpl := pcN_le s k
    obtain ⟨ps, hps⟩ : ∃ p, (pcN s k).2 = p := ⟨_, rfl⟩
    obtain ⟨fr, hfr⟩ : ∃ p, (pcN s k).1 = p := ⟨_, rfl⟩
    rw [hps, hfr] at hpl
    rw [hps] at HG ⊢
    rw [hfr]
    have HPS := hide hps
    have HFR := hide hfr
    have hnl : ∃ n, ps.length = n := ⟨_, rfl⟩
    obtain ⟨n, hn⟩ := hnl
    rw [hn] at hpl HG ⊢
    have HN := hide hn
    clear hps hfr hn
    by_cases hlt : k < s.size
    · have hlti : (k : Int) < (s.size : Int) := by omega
      have hix := fun W => run_idx hlt W
      obtain ⟨y, hy⟩ : ∃ y, bt s k = y := ⟨_, rfl⟩
      rw [hy] at hix
      have HY := hide hy
      clear hy
      by_cases h32 : y = 32
      · subst h32
        have HP : Hid (pcN s (k + 1) = (k + 1, ps ++ [s.extract fr k])) := by show _ = _; rw [pcN, if_pos (unhide HY), unhide HPS, unhide HFR]
        have hsl := fun W => run_sub (s := s) (p := fr) (q := k) hpl.1 hk W
        obtain ⟨x, hx⟩ : ∃ x, s.extract fr k = x := ⟨_, rfl⟩
        rw [hx] at hsl HP
        have hgz := (unhide HG).low.size
        clear hx
        go_wp2_with (at_builtin; refine wpList_append_lies _ rfl _ _ 99 rfl w.heap.size 9 i0 (.string ⟨#[]⟩) 1 16 Tryz.underlying99 hi hz0 hz1 hz2 rfl (by decide) _ _ _ rfl ((unhide HG).below ((Below.refl _ _).alloc (Nat.le_refl _) _)).own ⟨wr.heap.size, 0, none⟩ 1 1 ([x].map Value.string) rfl rfl (newStr wr x) (one_strs _) (by omega) (by unfold maxLen; omega) (by omega) (by simp; omega) (wr.heap.size + 1) (by simp) ?_; intro g' cap' w7 hown' hgrow hat hlt7; have HF7 := hide (GrowS.push ((unhide HG).below ((Below.refl _ _).alloc (Nat.le_refl _) _)) hown' hgrow); clear hgrow hat hown' hlt7)
        go_roundw
        case rel =>
          refine ⟨k + 1, g', cap', ?_, ?_, by go_num, by omega, ?_⟩
          · rw [unhide HP]; simp [unhide HN]
          · rw [unhide HP]; go_num
          · show GrowS _ _ _ _ _ _
            rw [unhide HP]
            simp only [List.length_append, unhide HN]
            exact unhide HF7
        case measure => simp [intOf]; omega
      · have h32i : ¬ (y : Int) = 32 := by omega
        have HP : Hid (pcN s (k + 1) = pcN s k) := by show _ = _; rw [pcN, if_neg (by rw [unhide HY]; exact h32)]
        go_wp2_with fail
        go_roundw
        case rel =>
          refine ⟨k + 1, g, cp, ?_, ?_, by go_num, by omega, ?_⟩
          · rw [unhide HP, unhide HPS, unhide HN]
          · rw [unhide HP, unhide HFR]
          · show GrowS _ _ _ _ _ _
            rw [unhide HP, unhide HPS, unhide HN]
            exact unhide HG
        case measure => simp [intOf]; omega
    · have hlti : ¬ (k : Int) < (s.size : Int) := by omega
      obtain rfl : k = s.size := by omega
      go_wp2_with fail
      go_ret
      refine ⟨g, cp, ?_, ?_, (unhide HG).low⟩
      · rw [unhide HPS, unhide HN]; rfl
      · rw [unhide HPS, unhide HN]; exact (unhide HG).row

set_option maxHeartbeats 2000000 in
theorem l1In_any (a : Option Addr) (n cap : Nat) (ps : List ByteArray) (x : ByteArray) (w : World) (h : RowS w a n ps) (hn : n ≤ 100000) :
    Calls Tryz.prog 140 #[.slice a n cap, .string x] w fun e w' => e = .returned (.bool (ps.any fun p => p.toList == x.toList)) ∧ w' = w := by
  have hlen := hide h.len
  have H := hide h
  clear h
  go_enter Tryz.func140, Tryz.ntmps140
  go_wp2_with fail
  go_loop [5] (fun i => ∃ k : Nat, k ≤ n ∧ i = .int .i64 k ∧ Hid ((ps.take k).any (fun p => p.toList == x.toList) = false)) (fun i => n - (intOf i).toNat)
  case atStart => exact ⟨0, Nat.zero_le _, rfl, rfl⟩
  case round =>
    obtain ⟨k, hk, rfl, HA⟩ := hrel
    by_cases hlt : k < n
    · have hlti : (k : Int) < (n : Int) := by omega
      obtain ⟨b, off, e, hc⟩ : ∃ b off, a = some ⟨b, off, none⟩ ∧ w.cell? ⟨b, off + k, none⟩ = some (.string (ps.getD k ⟨#[]⟩)) := by
        rcases (unhide H).at_ with h0 | ⟨b, off, e, _, hc⟩
        · omega
        · exact ⟨b, off, e, hc k hlt⟩
      subst e
      have hkl : k < ps.length := by rw [unhide hlen]; exact hlt
      have htk : ps.take (k + 1) = ps.take k ++ [ps.getD k ⟨#[]⟩] := by
        rw [List.take_succ_eq_append_getElem hkl]
        simp [hkl]
      have hmem : ps.getD k ⟨#[]⟩ ∈ ps := by simp [hkl]
      obtain ⟨y, hy⟩ : ∃ y, ps.getD k ⟨#[]⟩ = y := ⟨_, rfl⟩
      rw [hy] at hc htk hmem
      cases hq : (y.toList == x.toList) with
      | true =>
        have HE : Hid ((ps.any fun p => p.toList == x.toList) = true) := List.any_eq_true.2 ⟨y, hmem, hq⟩
        have HQ := hide hq
        clear htk hmem hy
        go_wp2_with fail
        go_ret
        exact ⟨ret_bool (unhide HE).symm, rfl⟩
      | false =>
        have HA2 : Hid ((ps.take (k + 1)).any (fun p => p.toList == x.toList) = false) := by show _ = _; rw [htk, List.any_append, unhide HA]; simp [hq]
        clear htk hmem hy
        go_wp2_with fail
        go_round
        case rel => exact ⟨k + 1, by omega, by go_num, HA2⟩
        case measure => simp [intOf]; omega
    · have hlti : ¬ (k : Int) < (n : Int) := by omega
      have HE : Hid ((ps.any fun p => p.toList == x.toList) = false) := by
        have := unhide HA
        rwa [List.take_of_length_le (by rw [unhide hlen]; omega)] at this
      go_wp2_with fail
      go_ret
      exact ⟨ret_bool (unhide HE).symm, rfl⟩

set_option maxRecDepth 100000 in
theorem signs_pieces : (pcN signS signS.size).2 = signCs.map fun c => bstr (encZ (c : Nat)) := by kernel_rfl

theorem sign_size : signS.size ≤ 100000 := by
  have : decide (signS.size ≤ 100000) = true := by kernel_rfl
  exact of_decide_eq_true this

theorem signCs_le : ∀ c ∈ signCs, c ≤ 2097151 := by
  have : (signCs.all fun c => decide (c ≤ 2097151)) = true := by kernel_rfl
  intro c hc
  exact of_decide_eq_true (List.all_eq_true.1 this c hc)

/-- A character is a sign just if its bytes are in the list. -/
theorem sign_any {s : ByteArray} {i : Nat} (h : i < s.size) (hn : 0 < (runeAt s i).2) (hv : (runeAt s i).1 ≤ 2097151) : ((pcN signS signS.size).2.any fun p => p.toList == (s.extract i (i + (runeAt s i).2)).toList) = decide ((runeAt s i).1 ∈ signCs) := by
  have hb := rune_bytes h hn
  have hx : s.extract i (i + (runeAt s i).2) = bstr (encZ ((runeAt s i).1 : Nat)) := by rw [← hb, bstr_uz]
  rw [hx, signs_pieces, List.any_map]
  by_cases hm : (runeAt s i).1 ∈ signCs
  · rw [decide_eq_true hm]
    exact List.any_eq_true.2 ⟨_, hm, by simp⟩
  · rw [decide_eq_false hm, List.any_eq_false]
    intro c hc he
    have h1 : (bstr (encZ (c : Nat))).toList = (bstr (encZ ((runeAt s i).1 : Nat))).toList := by simpa using he
    rw [Lib.toList_data, Lib.toList_data] at h1
    have h2 : bstr (encZ (c : Nat)) = bstr (encZ ((runeAt s i).1 : Nat)) := ByteArray.ext (Array.toList_inj.1 h1)
    have h3 := encZ_inj (signCs_le c hc) hv (bstr_inj (encZ_byte (signCs_le c hc)) (encZ_byte hv) h2)
    exact hm (h3 ▸ hc)

end Go.Proofs.YtmgjicgojlkpcaaGreatDoor
