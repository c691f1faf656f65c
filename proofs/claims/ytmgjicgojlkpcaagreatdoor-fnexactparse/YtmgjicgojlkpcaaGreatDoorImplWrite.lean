import Derived.Test.YtmgjicgojlkpcaaGreatDoorImplPrW
namespace Go.Proofs.YtmgjicgojlkpcaaGreatDoor
open Go.RowKit

/-- What the closure is called with. -/
def tokArgs (tb fb : Nat) (k n : Int) (t : ByteArray) : Array Value := #[.agg #[.int .i64 k, .int .i64 n, .string t, .int .i64 0], .pointer (some ⟨fb, 0, none⟩), .pointer (some ⟨tb, 0, none⟩)]

theorem IB.tok {Z w w0 : World} {tb fb : Nat} {bs : List (Nat × Obj)} {st : List UInt8 × Bool} (h : IB Z tb fb w0 bs w st) (hG : GlTree Z) (k n : Int) (t : ByteArray) (hn : -9223372036854775808 ≤ n ∧ n ≤ 9223372036854775807) (ht : t.size ≤ 1048576) :
    Calls Tryz.prog 38 #[.agg #[.int .i64 k, .int .i64 n, .string t, .int .i64 0]] w fun e w' => e = .returned (.string (tokText k n t)) ∧ IB Z tb fb w0 bs w' st := by
  have hg := hG.below h.ix.low
  refine (implTok_any k n 0 t w hn ht hg.1 hg.2.1 hg.2.2).mono ?_
  rintro e w' ⟨rfl, hb⟩
  exact ⟨rfl, h.below hb⟩

theorem IB.wstr {Z w w0 : World} {tb fb : Nat} {bs : List (Nat × Obj)} {st : List UInt8 × Bool} (h : IB Z tb fb w0 bs w st) (s : ByteArray) (hl : lenP st + s.size ≤ 17592186044416) :
    Calls Tryz.prog 37 #[.pointer (some ⟨tb, 0, none⟩), .string s] w fun e w' => (∃ v, e = .returned v) ∧ IB Z tb fb w0 bs w' (st.1 ++ s.data.toList, st.2) := by
  refine (bwriteK Z tb fb w st s h.ix hl).mono ?_
  rintro e w' ⟨hv, hi, hk⟩
  exact ⟨hv, h.step hi hk⟩

theorem IB.wbyte {Z w w0 : World} {tb fb : Nat} {bs : List (Nat × Obj)} {st : List UInt8 × Bool} (h : IB Z tb fb w0 bs w st) (hl : lenP st + 1 ≤ 17592186044416) :
    Calls Tryz.prog 36 #[.pointer (some ⟨tb, 0, none⟩), .int .u8 32] w fun e w' => (∃ v, e = .returned v) ∧ IB Z tb fb w0 bs w' (st.1 ++ [32], st.2) := by
  refine (bbyteK Z tb fb w st h.ix hl).mono ?_
  rintro e w' ⟨hv, hi, hk⟩
  exact ⟨hv, h.step hi hk⟩

theorem IB.setF {Z w w0 : World} {tb fb : Nat} {bs : List (Nat × Obj)} {st : List UInt8 × Bool} (h : IB Z tb fb w0 bs w st) (b : Bool) : IB Z tb fb w0 bs (w.setCell ⟨fb, 0, none⟩ (.bool b)) (st.1, b) := by
  obtain ⟨hi, hk⟩ := h.ix.setFlag b
  exact h.step hi hk

/-- The flag's cell. -/
theorem IB.flag {Z w w0 : World} {tb fb : Nat} {bs : List (Nat × Obj)} {st : List UInt8 × Bool} (h : IB Z tb fb w0 bs w st) : w.cell? ⟨fb, 0, none⟩ = some (.bool st.2) ∧ w.frozen? ⟨fb, 0, none⟩ = false := ⟨cells1 h.ix.flag, frozen_of_row w fb 0 _ _ h.ix.flag⟩

set_option maxRecDepth 20000 in
set_option maxHeartbeats 8000000 in
theorem write_sign (Z : World) (tb fb : Nat) (hG : GlTree Z) (k n : Int) (t : ByteArray) (hk : k = 2 ∨ k = 4) (hn : -9223372036854775808 ≤ n ∧ n ≤ 9223372036854775807) (ht : t.size ≤ 1048576) (s : ByteArray) (hs : tokText k n t = s) :
    SaysI Z tb fb 35 (tokArgs tb fb k n t) (fun st => sayP st s.data.toList false) := by
  intro w st h hq
  have hq1 : lenP (sayP st s.data.toList false) ≤ mostP := hq
  have hln : lenP st + 0 + s.size ≤ 17592186044416 := by
    unfold sayP lenP at hq1
    unfold mostP at hq1
    simp only [List.length_append, dl_size] at hq1
    unfold lenP
    omega
  have HG := hide hG
  have HB0 := hide ((IB.start h).push (.cells #[.int .i64 k, .int .i64 n, .string t, .int .i64 0] 64) (noB_of (by decide)))
  obtain ⟨a0, a1, a2, a3⟩ := cells4 (unhide HB0).at0
  have alt := (unhide HB0).ix.lt
  obtain ⟨fl, fz⟩ := (unhide HB0).flag
  have HS := hide hs
  have hbq : w.heap.size ≠ fb := by have := h.lt; omega
  obtain ⟨l, b2⟩ := st
  have hln' : l.length + 0 + s.size ≤ 17592186044416 := hln
  clear h hq hq1 hG hs hln
  unfold tokArgs
  rcases hk with rfl | rfl <;>
  · go_enter Tryz.func35, Tryz.ntmps35
    go_wp2_with (first | (go_at_call 38; refine ((unhide (hide ((unhide HB0).setF false))).tok (unhide HG) _ n t hn ht).mono ?_; rintro e w5 ⟨rfl, hb5⟩; rw [unhide HS]; have HB5 := hide hb5; clear hb5) | (go_at_call 37; refine ((unhide HB5).wstr s (by show l.length + s.size ≤ 17592186044416; omega)).mono ?_; rintro e w6 ⟨⟨v6, rfl⟩, hb6⟩; have HB6 := hide hb6; clear hb6))
    go_end0
    refine ⟨⟨_, rfl⟩, ?_⟩
    have hd := unhide HB6
    exact ⟨(by have := hd.ix; simpa [sayP] using this), hd.kept⟩

set_option maxRecDepth 20000 in
set_option maxHeartbeats 8000000 in
theorem write_word (Z : World) (tb fb : Nat) (hG : GlTree Z) (k n : Int) (t : ByteArray) (hk : k = 1 ∨ k = 3) (hn : -9223372036854775808 ≤ n ∧ n ≤ 9223372036854775807) (ht : t.size ≤ 1048576) (s : ByteArray) (hs : tokText k n t = s) :
    SaysI Z tb fb 35 (tokArgs tb fb k n t) (fun st => sayP st s.data.toList true) := by
  intro w st h hq
  have hq1 : lenP (sayP st s.data.toList true) ≤ mostP := hq
  have hln : lenP st + (if st.2 = true then 1 else 0) + s.size ≤ 17592186044416 := by
    unfold sayP lenP at hq1
    unfold mostP at hq1
    simp only [List.length_append, dl_size] at hq1
    unfold lenP
    cases hb : st.2 <;> simp_all <;> omega
  have HG := hide hG
  have HB0 := hide ((IB.start h).push (.cells #[.int .i64 k, .int .i64 n, .string t, .int .i64 0] 64) (noB_of (by decide)))
  obtain ⟨a0, a1, a2, a3⟩ := cells4 (unhide HB0).at0
  have alt := (unhide HB0).ix.lt
  obtain ⟨fl, fz⟩ := (unhide HB0).flag
  have HS := hide hs
  have hbq : w.heap.size ≠ fb := by have := h.lt; omega
  obtain ⟨l, b2⟩ := st
  have hln' : l.length + (if b2 = true then 1 else 0) + s.size ≤ 17592186044416 := hln
  clear h hq hq1 hG hs hln
  unfold tokArgs
  cases b2 with
  | false =>
    rw [if_neg (by decide)] at hln'
    rcases hk with rfl | rfl <;>
    · go_enter Tryz.func35, Tryz.ntmps35
      go_wp2_with (first | (go_at_call 38; refine ((unhide (hide ((unhide HB0).setF true))).tok (unhide HG) _ n t hn ht).mono ?_; rintro e w5 ⟨rfl, hb5⟩; rw [unhide HS]; have HB5 := hide hb5; clear hb5) | (go_at_call 37; refine ((unhide HB5).wstr s (by show l.length + s.size ≤ 17592186044416; omega)).mono ?_; rintro e w6 ⟨⟨v6, rfl⟩, hb6⟩; have HB6 := hide hb6; clear hb6))
      go_end0
      refine ⟨⟨_, rfl⟩, ?_⟩
      have hd := unhide HB6
      exact ⟨(by have := hd.ix; simpa [sayP] using this), hd.kept⟩
  | true =>
    rw [if_pos rfl] at hln'
    rcases hk with rfl | rfl <;>
    · go_enter Tryz.func35, Tryz.ntmps35
      go_wp2_with (first | (go_at_call 36; refine ((unhide HB0).wbyte (by unfold lenP; show l.length + 1 ≤ _; omega)).mono ?_; rintro e w4 ⟨⟨v4, rfl⟩, hb4⟩; have HB4 := hide hb4; obtain ⟨a0, a1, a2, a3⟩ := cells4 hb4.at0; obtain ⟨fl4, fz4⟩ := hb4.flag; have alt4 := hb4.ix.lt; clear hb4 HB0) | (go_at_call 38; refine ((unhide (hide ((unhide HB4).setF true))).tok (unhide HG) _ n t hn ht).mono ?_; rintro e w5 ⟨rfl, hb5⟩; rw [unhide HS]; have HB5 := hide hb5; clear hb5) | (go_at_call 37; refine ((unhide HB5).wstr s (by show (l ++ [32]).length + s.size ≤ 17592186044416; rw [List.length_append]; show l.length + 1 + s.size ≤ 17592186044416; omega)).mono ?_; rintro e w6 ⟨⟨v6, rfl⟩, hb6⟩; have HB6 := hide hb6; clear hb6))
      go_end0
      refine ⟨⟨_, rfl⟩, ?_⟩
      have hd := unhide HB6
      exact ⟨(by have := hd.ix; simpa [sayP] using this), hd.kept⟩

end Go.Proofs.YtmgjicgojlkpcaaGreatDoor
