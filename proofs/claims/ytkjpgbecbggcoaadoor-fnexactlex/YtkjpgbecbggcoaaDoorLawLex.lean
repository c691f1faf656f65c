import Derived.Test.YtkjpgbecbggcoaaDoorLawTokN
import Derived.Test.YtkjpgbecbggcoaaDoorMFit1
import Derived.Test.YtkjpgbecbggcoaaDoorImplLex
namespace Go.Proofs.YtkjpgbecbggcoaaDoor
open Go.RowKit

namespace LawLex

set_option maxRecDepth 20000 in
set_option maxHeartbeats 4000000 in
theorem law_small (a : Option Addr) (c : Nat) (s : ByteArray) (w : World) (h : RowB w a s.size (bz s)) (hn : s.size ≤ 1048576) (hR : RangeAt w) (hT : TabsAt w) :
    Calls Tryd.prog 3 #[.slice a s.size c] w fun e w' => e = .returned (.bool true) ∧ Below w.heap.size w w' := by
  have H := hide h
  have HG : Hid (∀ v, Below w.heap.size w v → RangeAt v ∧ TabsAt v) := fun v hv => ⟨hR.below hv, hT.below hv⟩
  have hni : ¬ (1048576 : Int) < (s.size : Int) := by omega
  have hln := lexT_len s
  obtain ⟨r, hr⟩ : ∃ r, lexT s = r := ⟨_, rfl⟩
  have HR := hide hr
  rw [hr] at hln
  clear h hR hT hr
  obtain ⟨ts, cd, pl⟩ := r
  obtain ⟨n, hnn⟩ : ∃ n, ts.length = n := ⟨_, rfl⟩
  have HN := hide hnn
  have hn2 : n ≤ 1048576 := by have : ts.length ≤ s.size := hln; omega
  clear hln hnn
  go_enter Tryd.func3, Tryd.ntmps3
  go_wp2_with fail
  refine (toByteS_any _ _ _ (bz s) _ (by exact unhide H) (by omega)).mono ?_
  rintro e w1 ⟨g1, rfl, hg1, hl1, hO1, hb1⟩
  go_wp2_with fail
  refine (specLex_any g1 0 _ s w1 (by exact hO1.row) (by omega)).mono ?_
  rintro e w2 ⟨gs, ns, cs, he, hS, hb2⟩
  rw [unhide HR] at he hS
  have hns : ns = n := by rw [← hS.len]; exact unhide HN
  subst hns
  have he' : e = .returned (.tuple #[.slice (some ⟨gs, 0, none⟩) ns cs, .int .i64 cd, .int .i64 (pl : Nat)]) := he
  subst he'
  have hK2 := hide (hb1.trans (hb2.mono hb1.size))
  have HS2 : Hid (RowT w2 (some ⟨gs, 0, none⟩) ns ts) := hS
  clear he hS hb1 hb2 hO1 hg1 hl1 w1
  have hz2 := (unhide hK2).size
  go_wp2_with fail
  refine (toByteS_any _ _ _ (bz s) _ (by exact (unhide H).below (Nat.le_refl _) (unhide hK2)) (by omega)).mono ?_
  rintro e w3 ⟨g3, rfl, hg3, hl3, hO3, hb3⟩
  have hK3 := hide ((unhide hK2).trans (hb3.mono hz2))
  have HS3 := hide ((unhide HS2).below (Nat.le_refl _) hb3)
  have HL : Hid (∀ k, At (some ⟨gs, 0, none⟩) ns k → k < g3) := fun k hk => by have := (unhide HS2).hi hk; omega
  have HO3 : Hid (OwnB w3 (w.heap.size) (some ⟨g3, 0, none⟩) s.size (bz s)) := ⟨hO3.len, hO3.small, by
    rcases hO3.at_ with h0 | ⟨g, off, e, hg, r⟩
    · exact .inl h0
    · exact .inr ⟨g, off, e, by omega, r⟩⟩
  have hg3w : w.heap.size ≤ g3 := by omega
  clear hb3 hO3 hg3 HS2 hK2 hz2 w2
  have hz3 := (unhide hK3).size
  go_wp2_with fail
  refine (implLex_any g3 0 _ s w3 (by exact (unhide HO3).row) (by omega) (unhide HG _ (unhide hK3)).1 (unhide HG _ (unhide hK3)).2).mono ?_
  rintro e w4 ⟨v4, he, hW, hb4⟩
  rw [unhide HR] at he hW
  have hW' : w4.ownsRow w3.heap.size 36 4 v4 ns (ts.flatMap tokCells) := by rw [← unhide HN]; exact hW
  obtain ⟨a4, c4, rfl, hO4⟩ := ownT_of hW'
  have he' : e = .returned (.tuple #[.slice a4 ns c4, .int .i64 cd, .int .i64 (pl : Nat)]) := he
  subst he'
  have hK4 := hide ((unhide hK3).trans (hb4.mono hz3))
  have HS4 := hide ((unhide HS3).below (Nat.le_refl _) hb4)
  have HO4 := hide ((unhide HO3).below (Nat.le_refl _) hb4)
  have HT4 : Hid (OwnT w4 (g3 + 1) a4 ns ts) := ⟨hO4.len, by
    rcases hO4.at_ with h0 | ⟨g, off, e, hg, r⟩
    · exact .inl h0
    · exact .inr ⟨g, off, e, by omega, r⟩⟩
  have hl4 : g3 < w4.heap.size := Nat.lt_of_lt_of_le hl3 hb4.size
  clear he hW hW' hb4 hO4 HS3 HO3 hK3 hz3 hl3 w3
  have hz4 := (unhide hK4).size
  go_wp2_with fail
  refine (eqTokenS_refl a4 (some ⟨gs, 0, none⟩) ns _ _ ts _ (by exact (unhide HT4).row) (by exact unhide HS4) hn2).mono ?_
  rintro e w5 ⟨rfl, hb5⟩
  have hK5 := hide ((unhide hK4).trans (hb5.mono hz4))
  have HS5 := hide ((unhide HS4).below (Nat.le_refl _) hb5)
  have HO5 := hide ((unhide HO4).below (Nat.le_refl _) hb5)
  have HT5 := hide ((unhide HT4).below (Nat.le_refl _) hb5)
  have hl5 : g3 < w5.heap.size := Nat.lt_of_lt_of_le hl4 hb5.size
  clear hb5 HS4 HO4 HT4 hK4 hz4 hl4 w4
  have hz5 := (unhide hK5).size
  go_wp2_with fail
  refine (toByteS_any _ _ _ (bz s) _ (by exact (unhide H).below (Nat.le_refl _) (unhide hK5)) (by omega)).mono ?_
  rintro e w6 ⟨g6, rfl, hg6, hl6, hO6, hb6⟩
  have hK6 := hide ((unhide hK5).trans (hb6.mono hz5))
  have HS6 := hide ((unhide HS5).below (Nat.le_refl _) hb6)
  have HO6 := hide ((unhide HO5).below (Nat.le_refl _) hb6)
  have HT6 := hide ((unhide HT5).below (Nat.le_refl _) hb6)
  have hl6' : g3 < w6.heap.size := Nat.lt_of_lt_of_le hl5 hb6.size
  have HX6 := hide hO6.row
  clear hb6 HS5 HO5 HT5 hK5 hz5 hl5 hg6 hl6 hO6 w5
  have hz6 := (unhide hK6).size
  go_wp2_with fail
  refine (eqByteS_any _ _ _ _ _ _ (bz s) (bz s) _ (by exact (unhide HO6).row) (by exact unhide HX6) (by omega)).mono ?_
  rintro e w7 ⟨rfl, q7, rfl⟩
  rw [decide_eq_true rfl]
  have hK7 := hide (Below.drewN (unhide hK6) q7)
  have HS7 := hide ((unhide HS6).below (Nat.le_refl _) (Below.drewN (Below.refl _ w6) q7))
  have HO7 := hide ((unhide HO6).below (Nat.le_refl _) (Below.drewN (Below.refl _ w6) q7))
  have HT7 := hide ((unhide HT6).below (Nat.le_refl _) (Below.drewN (Below.refl _ w6) q7))
  obtain ⟨w7, hw7⟩ : ∃ W, w6.drewN q7 = W := ⟨_, rfl⟩
  have hl7 : g3 < w7.heap.size := by rw [← hw7]; exact hl6'
  rw [hw7] at hK7 HS7 HO7 HT7 ⊢
  clear hw7 HS6 HO6 HT6 hK6 hz6 hl6' HX6 w6
  have hz7 := (unhide hK7).size
  go_wp2_with fail
  refine (markByteS_any _ _ _ w.heap.size (bz s) _ _ (by exact unhide HO7) (by omega) (by omega)).mono ?_
  rintro e w8 ⟨rfl, hM8, hbut8⟩
  clear hM8
  have hS8 : ∀ k, At (some ⟨g3, 0, none⟩) s.size k → k = g3 := fun k hk => (at_eq hk).symm
  have hK8 := hide ((unhide hK7).trans (hbut8.below hz7 (fun k hk => by have := hS8 k hk; omega)))
  have HS8 := hide (hbut8.rowT (unhide HS7) (fun k hk hk' => by have := hS8 k hk; have := unhide HL k hk'; omega))
  have HT8 := hide (hbut8.ownT (unhide HT7) (fun k hk hk' => by have := hS8 k hk; have := (unhide HT7).low hk'; omega))
  have hl8 : g3 < w8.heap.size := Nat.lt_of_lt_of_le hl7 hbut8.size
  have hk0 : ¬ ((1 : Int) + s.size < 0) := by omega
  clear hbut8 hS8 HS7 HO7 HT7 hK7 hz7 hl7 w7
  have hz8 := (unhide hK8).size
  go_wp2_with fail
  refine (eqTokenS_refl a4 (some ⟨gs, 0, none⟩) ns _ _ ts _ (by exact (unhide HT8).row) (by exact unhide HS8) hn2).mono ?_
  rintro e w9 ⟨rfl, hb9⟩
  have hK9 := hide ((unhide hK8).trans (hb9.mono hz8))
  have HS9 := hide ((unhide HS8).below (Nat.le_refl _) hb9)
  have HT9 := hide ((unhide HT8).below (Nat.le_refl _) hb9)
  have hl9 : g3 < w9.heap.size := Nat.lt_of_lt_of_le hl8 hb9.size
  clear hb9 HS8 HT8 hK8 hz8 hl8 w8
  have hz9 := (unhide hK9).size
  go_wp2_with fail
  refine (markTokenS_any a4 ns c4 (g3 + 1) ts 1 _ (by exact unhide HT9) (by omega) (by omega) hn2).mono ?_
  rintro e wa ⟨rfl, hMa, hbuta⟩
  have hSa : ∀ k, At a4 ns k → g3 + 1 ≤ k := fun k hk => (unhide HT9).low hk
  have hKa := hide ((unhide hK9).trans (hbuta.below hz9 (fun k hk => by have := hSa k hk; omega)))
  have HSa := hide (hbuta.rowT (unhide HS9) (fun k hk hk' => by have := hSa k hk; have := unhide HL k hk'; omega))
  have HMa := hide hMa.row
  clear hbuta hSa HS9 HT9 hK9 hz9 hl9 hMa w9
  have hza := (unhide hKa).size
  go_wp2_with fail
  refine (heldTokenS_marks a4 ns c4 1 _ (by exact unhide HMa) (by omega) (by omega) hn2).mono ?_
  rintro e wb ⟨rfl, hbb⟩
  have hKb := hide ((unhide hKa).trans (hbb.mono hza))
  have HSb := hide ((unhide HSa).below (Nat.le_refl _) hbb)
  have hq0 : ¬ ((1 : Int) + 4 * (ns : Int) < 0) := by omega
  clear hbb HSa HMa hKa hza wa
  have hzb := (unhide hKb).size
  go_wp2_with fail
  refine (toByteS_any _ _ _ (bz s) _ (by exact (unhide H).below (Nat.le_refl _) (unhide hKb)) (by omega)).mono ?_
  rintro e wc ⟨gc, rfl, hgc, hlc, hOc, hbc⟩
  have hKc := hide ((unhide hKb).trans (hbc.mono hzb))
  have HSc := hide ((unhide HSb).below (Nat.le_refl _) hbc)
  have HOc := hide hOc.row
  clear hbc HSb hKb hzb hgc hlc hOc wb
  have hzc := (unhide hKc).size
  go_wp2_with fail
  refine (implLex_any gc 0 _ s wc (by exact unhide HOc) (by omega) (unhide HG _ (unhide hKc)).1 (unhide HG _ (unhide hKc)).2).mono ?_
  rintro e wd ⟨vd, he, hW, hbd⟩
  rw [unhide HR] at he hW
  have hW' : wd.ownsRow wc.heap.size 36 4 vd ns (ts.flatMap tokCells) := by rw [← unhide HN]; exact hW
  obtain ⟨ad, cc, rfl, hOd⟩ := ownT_of hW'
  have he' : e = .returned (.tuple #[.slice ad ns cc, .int .i64 cd, .int .i64 (pl : Nat)]) := he
  subst he'
  have hKd := hide ((unhide hKc).trans (hbd.mono hzc))
  have HSd := hide ((unhide HSc).below (Nat.le_refl _) hbd)
  have HOd := hide hOd.row
  clear he hW hW' hbd hOd HSc HOc hKc hzc wc
  have hzd := (unhide hKd).size
  go_wp2_with fail
  refine (eqTokenS_refl ad (some ⟨gs, 0, none⟩) ns _ _ ts _ (by exact unhide HOd) (by exact unhide HSd) hn2).mono ?_
  rintro e we ⟨rfl, hbe⟩
  have hKe := hide ((unhide hKd).trans (hbe.mono hzd))
  clear hbe HSd HOd hKd hzd wd
  go_wp2_with fail
  go_ret
  exact ⟨rfl, unhide hKe⟩

set_option maxHeartbeats 2000000 in
theorem law_big (a : Option Addr) (n c : Nat) (w : World) (hn : 1048576 < n) :
    Calls Tryd.prog 3 #[.slice a n c] w fun e w' => e = .returned (.bool true) ∧ Below w.heap.size w w' := by
  have hnz : (1048576 : Int) < (n : Int) := by omega
  go_enter Tryd.func3, Tryd.ntmps3
  go_wp2_with fail
  go_ret
  exact ⟨rfl, Below.refl _ _⟩

end LawLex
end Go.Proofs.YtkjpgbecbggcoaaDoor
