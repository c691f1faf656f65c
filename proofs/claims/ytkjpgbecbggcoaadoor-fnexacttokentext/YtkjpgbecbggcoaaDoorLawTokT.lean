import Derived.Test.YtkjpgbecbggcoaaDoorMFit1
import Derived.Test.YtkjpgbecbggcoaaDoorImplTokT
namespace Go.Proofs.YtkjpgbecbggcoaaDoor
open Go.RowKit

theorem tokText_no {k n : Int} {t : ByteArray} (h : (lexT (spellT k n t)).2.1 ≠ 0) : tokText k n t = ⟨#[]⟩ := by
  unfold tokText
  obtain ⟨r, hr⟩ : ∃ r, lexT (spellT k n t) = r := ⟨_, rfl⟩
  rw [hr] at h ⊢
  obtain ⟨ts, c, p⟩ := r
  rw [backB_code h]
  rfl

theorem specTok_any (k n at' : Int) (t : ByteArray) (w : World) (hn : -9223372036854775808 ≤ n ∧ n ≤ 9223372036854775807) (ht : t.size ≤ 1048576) :
    Calls Tryd.prog 14 #[.agg #[.int .i64 k, .int .i64 n, .string t, .int .i64 at']] w fun e w' => e = .returned (.string (tokText k n t)) ∧ Below w.heap.size w w' := by
  by_cases h1 : k = 1
  · subst h1
    by_cases hr : -1000000000000000 ≤ n ∧ n ≤ 1000000000000000
    · exact specTok_num n at' t w hr
    · have e : tokText 1 n t = ⟨#[]⟩ := tokText_no (by
        show (lexT (bstr (numT n))).2.1 ≠ 0
        rw [num_big n (by omega) (by omega)]
        decide)
      rw [e]
      exact specTok_big n at' t w (by omega)
  · by_cases h2 : k = 2
    · subst h2
      by_cases hs : t.size ≤ 2000
      · exact specTok_text n at' t w hs
      · have e : tokText 2 n t = ⟨#[]⟩ := tokText_no (by
          show (lexT ⟨(quoteL t.data.toList).toArray⟩).2.1 ≠ 0
          have hz : 2000 < (ByteArray.mk (quoteL t.data.toList).toArray).size := by
            show 2000 < (quoteL t.data.toList).toArray.size
            have := (qd_len t.data.toList).2
            rw [← Lib.size_eq] at this
            unfold quoteL
            unfold qd at this
            rw [List.size_toArray, List.length_cons, List.length_append]
            simp only [List.length_cons, List.length_nil]
            omega
          unfold lexT
          rw [if_pos hz]
          decide)
        rw [e]
        exact specTok_long n at' t w (by omega)
    · have e : tokText k n t = if backB k n t (lexT t) = true then t else ⟨#[]⟩ := by
        unfold tokText
        have : spellT k n t = t := by unfold spellT; rw [if_neg h1, if_neg h2]
        rw [this]
      rw [e]
      exact specTok_other k n at' t w h1 h2 ht

theorem szToken_any (k n at' : Int) (t : ByteArray) (left : Nat) (hl : left ≤ 1048576) (ht : t.size ≤ 9223372036854775807) (w : World) :
    Calls Tryd.prog 13 #[.agg #[.int .i64 k, .int .i64 n, .string t, .int .i64 at'], .int .i64 (left : Nat)] w fun e w' => e = .returned (.int .i64 (if left < t.size then -1 else ((left : Nat) : Int) - t.size)) ∧ Below w.heap.size w w' := by
  by_cases h : left < t.size
  · rw [if_pos h]
    have hi : (left : Int) - (t.size : Int) < 0 := by omega
    go_enter Tryd.func13, Tryd.ntmps13
    go_wp2_with fail
    go_ret
    exact ⟨rfl, (Below.refl _ _).alloc (Nat.le_refl _) _⟩
  · rw [if_neg h]
    have hi : ¬ (left : Int) - (t.size : Int) < 0 := by omega
    go_enter Tryd.func13, Tryd.ntmps13
    go_wp2_with fail
    go_ret
    exact ⟨by go_num, (Below.refl _ _).alloc (Nat.le_refl _) _⟩

set_option maxRecDepth 20000 in
set_option maxHeartbeats 1000000 in
theorem toToken_any (k n at' : Int) (t : ByteArray) (w : World) :
    Calls Tryd.prog 15 #[.agg #[.int .i64 k, .int .i64 n, .string t, .int .i64 at']] w fun e w' => e = .returned (.agg #[.int .i64 k, .int .i64 n, .string t, .int .i64 at']) ∧ Below w.heap.size w w' := by
  go_enter Tryd.func15, Tryd.ntmps15
  go_wp2
  refine bodyPost_ret (v := .agg #[.int .i64 k, .int .i64 n, .string t, .int .i64 at']) (by simp [results, Tryd.results15, go_sem]) rfl ⟨rfl, ?_⟩
  repeat (first | exact Below.refl _ _ | refine Below.alloc ?_ (by simp <;> omega) _ | refine Below.setCell ?_ (by simp <;> omega) _)

namespace LawTokT

set_option maxRecDepth 20000 in
set_option maxHeartbeats 4000000 in
theorem law_any (k n at' : Int) (t : ByteArray) (w : World) (hn : -9223372036854775808 ≤ n ∧ n ≤ 9223372036854775807) (ht : t.size ≤ 9223372036854775807) (hG : GlT w) (hR : RangeAt w) (hT : TabsAt w) :
    Calls Tryd.prog 4 #[.agg #[.int .i64 k, .int .i64 n, .string t, .int .i64 at']] w fun e w' => e = .returned (.bool true) ∧ Below w.heap.size w w' := by
  have HG : Hid (∀ v, Below w.heap.size w v → GlT v ∧ RangeAt v ∧ TabsAt v) := fun v hv => ⟨hG.below hv, hR.below hv, hT.below hv⟩
  have HN := hide hn
  clear hG hR hT hn
  have HSZ := hide (fun W => szToken_any k n at' t 1048576 (Nat.le_refl _) ht W)
  obtain ⟨Q, hQ⟩ : ∃ Q, Q = w.alloc (.cells #[.int .i64 k, .int .i64 n, .string t, .int .i64 at'] 33) := ⟨_, rfl⟩
  have HBQ : Hid (Below w.heap.size w Q) := by rw [hQ]; exact (Below.refl _ _).alloc (Nat.le_refl _) _
  have HXQ : Hid (Q.heap[w.heap.size]? = some (.cells #[.int .i64 k, .int .i64 n, .string t, .int .i64 at'] 33 (0, 0))) := by
    rw [hQ]
    show (w.heap.push _)[w.heap.size]? = _
    simp
  have HQ := hide hQ
  clear hQ
  have cells : ∀ (v : World), Below Q.heap.size Q v → v.cell? ⟨w.heap.size, 0, none⟩ = some (.int .i64 k) ∧ v.cell? ⟨w.heap.size, 1, none⟩ = some (.int .i64 n) ∧ v.cell? ⟨w.heap.size, 2, none⟩ = some (.string t) ∧ v.cell? ⟨w.heap.size, 3, none⟩ = some (.int .i64 at') := fun v hv => by
    have hb := (hv.block w.heap.size (lt_of_block (unhide HXQ))).trans (unhide HXQ)
    refine ⟨?_, ?_, ?_, ?_⟩ <;> simp [World.cell?, hb]
  have HC := hide cells
  clear cells
  by_cases hbig : 1048576 < t.size
  · have HSQ : Hid (∀ W, Calls Tryd.prog 13 #[.agg #[.int .i64 k, .int .i64 n, .string t, .int .i64 at'], .int .i64 1048576] W fun e w' => e = .returned (.int .i64 (-1)) ∧ Below W.heap.size W w') := hide fun W => by
      have := unhide HSZ W
      rw [if_pos hbig] at this
      exact this
    clear hbig HSZ
    go_enter Tryd.func4, Tryd.ntmps4
    go_wp2_with (go_at_call 13; refine (unhide HSQ _).mono ?_; rintro e w1 ⟨rfl, hb1⟩; rw [← unhide HQ] at hb1; have HB1 := hide ((unhide HBQ).trans (hb1.mono (unhide HBQ).size)); clear hb1)
    go_ret
    exact ⟨rfl, unhide HB1⟩
  · obtain ⟨lf, hlf⟩ : ∃ l : Nat, 1048576 - t.size = l := ⟨_, rfl⟩
    have HSQ : Hid (∀ W, Calls Tryd.prog 13 #[.agg #[.int .i64 k, .int .i64 n, .string t, .int .i64 at'], .int .i64 1048576] W fun e w' => e = .returned (.int .i64 (lf : Nat)) ∧ Below W.heap.size W w') := hide fun W => by
      have := unhide HSZ W
      rw [if_neg hbig, show ((1048576 : Nat) : Int) - (t.size : Int) = (lf : Nat) by omega] at this
      exact this
    have hts : t.size ≤ 1048576 := by omega
    have HTT := hide (fun W => toToken_any k n at' t W)
    have HSP := hide (fun W => specTok_any k n at' t W (unhide HN) hts)
    have HIM := hide (fun W (h : GlT W ∧ RangeAt W ∧ TabsAt W) => implTok_any k n at' t W (unhide HN) hts h.1 h.2.1 h.2.2)
    obtain ⟨res, hres⟩ : ∃ r, tokText k n t = r := ⟨_, rfl⟩
    rw [hres] at HSP HIM
    have hlf0 : ¬ ((lf : Nat) : Int) < 0 := by omega
    clear hbig HSZ hlf hres
    go_enter Tryd.func4, Tryd.ntmps4
    go_wp2_with (first | (go_at_call 13; refine (unhide HSQ _).mono ?_; rintro e w1 ⟨rfl, hb1⟩; rw [← unhide HQ] at hb1; have HB1 := hide hb1; obtain ⟨a0, a1, a2, a3⟩ := unhide HC _ hb1; clear hb1) | (go_at_call 15; have hz9 := HB3; clear hz9; refine (unhide HTT _).mono ?_; rintro e w4 ⟨rfl, hb4⟩; have HB4 := hide ((unhide HB3).trans (hb4.mono (unhide HB3).size)); clear hb4) | (go_at_call 15; refine (unhide HTT _).mono ?_; rintro e w2 ⟨rfl, hb2⟩; have HB2 := hide ((unhide HB1).trans (hb2.mono (unhide HB1).size)); clear hb2) | (go_at_call 14; refine (unhide HSP _).mono ?_; rintro e w3 ⟨rfl, hb3⟩; have HB3 := hide ((unhide HB2).trans (hb3.mono (unhide HB2).size)); obtain ⟨b0, b1, b2, b3⟩ := unhide HC _ (unhide HB3); clear hb3) | (go_at_call 16; refine (unhide HIM _ (unhide HG _ ((unhide HBQ).trans ((unhide HB4).mono (unhide HBQ).size)))).mono ?_; rintro e w5 ⟨rfl, hb5⟩; have HB5 := hide ((unhide HB4).trans (hb5.mono (unhide HB4).size)); clear hb5))
    go_ret
    exact ⟨rfl, (unhide HBQ).trans ((unhide HB5).mono (unhide HBQ).size)⟩

end LawTokT
end Go.Proofs.YtkjpgbecbggcoaaDoor
