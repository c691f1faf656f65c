import Derived.Test.YtijamlgiinjikaaGreatDoorRelexMath3
import Derived.Test.YtijamlgiinjikaaGreatDoorImplTokT
import Derived.Test.YtijamlgiinjikaaGreatDoorSpecLex
import Derived.Test.YtijamlgiinjikaaGreatDoorTokEq
import Derived.Test.YtijamlgiinjikaaGreatDoorDrawLexS
import Derived.Test.YtijamlgiinjikaaGreatDoorAppSome
namespace Go.Proofs.YtijamlgiinjikaaGreatDoor
open Go.RowKit

theorem size_self (l : List UInt8) : (ByteArray.mk l.toArray).size = l.length := by show l.toArray.size = _; rw [List.size_toArray]

theorem join_take {ts : List Tok} {i : Nat} {y : Tok} (h : ts[i]? = some y) : joinT (ts.take (i + 1)) = joinT (ts.take i) ++ ((tokText y.k y.n y.t).data.toList ++ [32]) := by
  have hl : i < ts.length := by
    by_cases hh : i < ts.length
    · exact hh
    · rw [List.getElem?_eq_none (by omega)] at h; cases h
  rw [List.getElem?_eq_getElem hl] at h
  rw [List.take_succ_eq_append_getElem hl, Option.some.inj h]
  unfold joinT
  rw [List.flatMap_append]
  simp

theorem append_blank (x : ByteArray) : (x ++ ByteArray.mk #[32]).data.toList = x.data.toList ++ [32] := by
  rw [ByteArray.data_append, Array.toList_append]

theorem map_at {l m : List Tok} (h : l.map (fun y => (y.k, y.n, y.t)) = m.map (fun y => (y.k, y.n, y.t))) {i : Nat} {p q : Tok} (hp : l[i]? = some p) (hq : m[i]? = some q) : p.k = q.k ∧ p.n = q.n ∧ p.t = q.t := by
  have := congrArg (·[i]?) h
  simp only [List.getElem?_map, hp, hq, Option.map_some, Option.some.injEq, Prod.mk.injEq] at this
  exact ⟨this.1, this.2.1, this.2.2⟩

theorem lexR_bad {s : ByteArray} : ∀ (F i : Nat) (acc : List Tok), (lexR s F i acc).2.1 ≠ 0 → (lexR s F i acc).1 = []
  | 0, i, acc, h => by rw [lexR] at h; exact absurd rfl h
  | F + 1, i, acc, h => by
    rw [lexR] at h ⊢
    by_cases h1 : i < s.size ∧ remark s i = false
    · rw [if_pos h1] at h ⊢
      by_cases h2 : bt s i = 32 ∨ bt s i = 9
      · rw [if_pos h2] at h ⊢; exact lexR_bad F _ _ h
      · rw [if_neg h2] at h ⊢
        by_cases h3 : (tokAt s i).c ≠ 0
        · rw [if_pos h3]
        · rw [if_neg h3] at h ⊢; exact lexR_bad F _ _ h
    · rw [if_neg h1] at h; exact absurd rfl h

theorem lexT_bad {s : ByteArray} (h : (lexT s).2.1 ≠ 0) : (lexT s).1 = [] := by
  unfold lexT at h ⊢
  split
  · rfl
  · rename_i hs
    rw [if_neg hs] at h
    exact lexR_bad _ _ _ h

theorem tokText_size {k n : Int} {t : ByteArray} (hn : n.natAbs < 10 ^ 19) (ht : t.size ≤ 2000) : (tokText k n t).size ≤ 4050 := by
  have hs : (spellT k n t).size ≤ 4050 := by
    unfold spellT
    split
    · rw [bstr_size]; have := (numT_parts n hn).1; omega
    · split
      · show (quoteL t.data.toList).toArray.size ≤ _
        have := (qd_len t.data.toList).1
        rw [← Lib.size_eq] at this
        unfold quoteL
        unfold qd at this
        rw [List.size_toArray, List.length_cons, List.length_append]
        simp only [List.length_cons, List.length_nil]
        omega
      · omega
  unfold tokText
  split
  · exact hs
  · exact Nat.zero_le _

namespace LawTokens

set_option maxRecDepth 20000 in
set_option maxHeartbeats 8000000 in
theorem law_small (hdraw : ∀ (a : Option Addr) (n0 c : Nat) (w : World), Bytes w a n0 → n0 ≤ c → n0 ≤ 1048576 → Calls Tryz.prog 4 #[.slice a n0 c] w (GivesBytes w))
    (a : Option Addr) (n0 c : Nat) (w : World) (h : Bytes w a n0) (hc : n0 ≤ c) (hn0 : n0 ≤ 1048576) (hG : GlT w) (hR : RangeAt w) (hT : TabsAt w) :
    Calls Tryz.prog 3 #[.slice a n0 c] w fun e w' => e = .returned (.bool true) ∧ Below w.heap.size w w' := by
  have HD := hide (hdraw a n0 c w h hc hn0)
  have HG : Hid (∀ v, Below w.heap.size w v → GlT v ∧ RangeAt v ∧ TabsAt v) := fun v hv => ⟨hG.below hv, hR.below hv, hT.below hv⟩
  have hni : ¬ (1048576 : Int) < (n0 : Int) := by omega
  obtain ⟨i0, hii, hz0, hz1, hz2⟩ := info_parts info_byte
  clear h hc hn0 hG hR hT hdraw
  go_enter Tryz.func3, Tryz.ntmps3
  go_wp2_with fail
  refine (unhide HD).mono ?_
  rintro e w1 ⟨g1, cap1, l, rfl, hrow1, hll, hb1⟩
  have HB1 := hide hb1
  obtain ⟨s, hs⟩ : ∃ s : ByteArray, s = ⟨l.toArray⟩ := ⟨_, rfl⟩
  have hsl : s.size = l.length := by rw [hs]; exact size_self l
  have hrow1' : RowB w1 (some ⟨g1, 0, none⟩) s.size (bz s) := by rw [hsl, hs]; exact hrow1
  have HROW1 := hide hrow1'
  have hzs : bz s = uz l := by rw [hs]; rfl
  have HZS := hide hzs
  have hs4 : s.size ≤ 4000 := by omega
  rw [← hsl]
  clear hb1 hrow1 hrow1' hll hsl hs hzs
  have hln := lexT_len s
  have HRE := hide (fun h => relex (s := s) h)
  have HBAD := hide (fun h => lexT_bad (s := s) h)
  obtain ⟨r, hr⟩ : ∃ r, lexT s = r := ⟨_, rfl⟩
  rw [hr] at hln HRE HBAD
  have HRR := hide hr
  obtain ⟨ts, cd, pl⟩ := r
  obtain ⟨n, hnn⟩ : ∃ n, ts.length = n := ⟨_, rfl⟩
  have HN := hide hnn
  have hn2 : n ≤ 4000 := by have : ts.length ≤ s.size := hln; omega
  clear hr hln hnn
  go_wp2_with fail
  refine (specLex_any g1 0 _ s w1 (by exact unhide HROW1) (by omega)).mono ?_
  rintro e w2 ⟨gs, ns, cs, he, hS, hb2⟩
  rw [unhide HRR] at he hS
  have hns : ns = n := by rw [← hS.len]; exact unhide HN
  subst hns
  have he' : e = .returned (.tuple #[.slice (some ⟨gs, 0, none⟩) ns cs, .int .i64 cd, .int .i64 (pl : Nat)]) := he
  subst he'
  have HB2 := hide ((unhide HB1).trans (hb2.mono (unhide HB1).size))
  have HS2 : Hid (RowT w2 (some ⟨gs, 0, none⟩) ns ts) := hS
  have HROW2 := hide ((unhide HROW1).below (Nat.le_refl _) hb2)
  rw [unhide HZS] at HROW2
  have hsl : l.length = s.size := by rw [← uz_len l, ← unhide HZS]; exact bz_len s
  have HSL := hide hsl
  rw [← hsl] at HROW2
  clear he hS hb2 HROW1 hsl
  have hz2' := (unhide HB2).size
  go_wp2_with (at_builtin; refine wpList_append_some rfl _ _ 22 rfl w2.heap.size 5 i0 (.int .u8 0) 1 1 Tryz.underlying22 hii hz0 hz1 hz2 rfl (by decide) w2.heap.size 0 0 ((uz []).map (Value.int .u8)) rfl (GrowB.start w2).own ⟨g1, 0, none⟩ s.size cap1 ((uz l).map (Value.int .u8)) rfl (by rw [List.length_map, uz_len, unhide HSL, Nat.mul_one]) (news_of ((unhide HROW2).below (Nat.le_refl _) ((Below.refl _ _).alloc (Nat.le_refl _) _))) (one_bytes _) (by unfold maxLen; omega) (by omega) (by simp) ?_; intro g3 cap3 w3 hown' hgrow hat; have HG3 := hide (GrowB.push (m := s.size) (GrowB.start w2) hown' hgrow); clear hown' hgrow hat)
  have HB3 := hide ((unhide HB2).trans ((unhide HG3).low.mono hz2'))
  have HS3 := hide ((unhide HS2).below (Nat.le_refl _) (unhide HG3).low)
  have HR3 : Hid (RowB w3 (some ⟨g3, 0, none⟩) s.size (bz s)) := by
    have := (unhide HG3).row
    rw [Nat.zero_add, List.nil_append] at this
    rw [unhide HZS]
    exact this
  clear HG3 HS2 HROW2 hz2'
  have hz3 := (unhide HB3).size
  have HIL := hide (implLex_any g3 0 cap3 s w3 (unhide HR3) (by omega) (unhide HG _ (unhide HB3)).2.1 (unhide HG _ (unhide HB3)).2.2)
  refine (unhide HIL).mono ?_
  rintro e w4 ⟨v4, he, hW, hb4⟩
  rw [unhide HRR] at he hW
  have hW' : w4.ownsRow w3.heap.size 30 4 v4 ns (ts.flatMap tokCells) := by rw [← unhide HN]; exact hW
  obtain ⟨a4, c4, rfl, hO4⟩ := ownT_of hW'
  have he' : e = .returned (.tuple #[.slice a4 ns c4, .int .i64 cd, .int .i64 (pl : Nat)]) := he
  subst he'
  have HB4 := hide ((unhide HB3).trans (hb4.mono hz3))
  have HS4 := hide ((unhide HS3).below (Nat.le_refl _) hb4)
  have HT4 := hide hO4.row
  clear he hW hW' hb4 hO4 HS3 HR3 HIL hz3
  have hz4 := (unhide HB4).size
  go_wp2_with fail
  refine (eqTokenS_refl a4 (some ⟨gs, 0, none⟩) ns _ _ ts _ (by exact unhide HT4) (by exact unhide HS4) (by omega)).mono ?_
  rintro e w5 ⟨rfl, hb5⟩
  have HB5 := hide ((unhide HB4).trans (hb5.mono hz4))
  have HS5 := hide ((unhide HS4).below (Nat.le_refl _) hb5)
  have HG0 := hide (GrowB.start w5)
  clear hb5 HS4 HT4 HB4 hz4
  have hz5 := (unhide HB5).size
  go_wp2_with fail
  go_loopw [10, 11] (fun u i wr => ∃ (g cap m k : Nat), u = .slice (some ⟨g, 0, none⟩) m cap ∧ i = .int .i64 (k : Nat) ∧ k ≤ ns ∧ m ≤ 4100 * k ∧ Hid (GrowB w5 wr g cap m (uz (joinT (ts.take k))))) (fun _ i _ => ns - (intOf i).toNat)
  case atStart => exact ⟨w5.heap.size, 0, 0, 0, rfl, rfl, Nat.zero_le _, by omega, HG0⟩
  case round =>
    obtain ⟨g, cap, m, k, rfl, rfl, hk, hmk, HGR⟩ := hrel
    clear HG0
    have hwr := (unhide HGR).low.size
    by_cases hlt : k < ns
    case pos =>
      have hcd : cd = 0 := by
        by_cases h0 : cd = 0
        · exact h0
        · have h1 : ts = [] := unhide HBAD h0
          have h2 := unhide HN
          rw [h1] at h2
          simp at h2
          omega
      obtain ⟨b, off, y, eb, hbl, ey, y0, y1, y2, y3⟩ := ((unhide HS5).below (Nat.le_refl _) (unhide HGR).low).get hlt
      obtain ⟨rfl, rfl⟩ : gs = b ∧ 0 = off := by simpa using eb
      simp only [Nat.zero_add] at y0 y1 y2 y3
      have hpr := (unhide HRE hcd).1 y (List.mem_of_getElem? ey)
      have HJ := hide (join_take ey)
      obtain ⟨yk, yn, yt, yp⟩ := y
      have hyn : yn.natAbs ≤ 1000000000000000 := hpr.2.1
      have hyt : yt.size ≤ 2000 := hpr.2.2
      have hxs : (tokText yk yn yt).size ≤ 4050 := tokText_size (by omega) hyt
      have HBW : Hid (Below w.heap.size w wr) := (unhide HB5).trans ((unhide HGR).low.mono hz5)
      have HTK := hide (implTok_any yk yn (yp : Nat) yt wr (by omega) (by omega) (unhide HG _ (unhide HBW)).1 (unhide HG _ (unhide HBW)).2.1 (unhide HG _ (unhide HBW)).2.2)
      have HJ' : Hid (joinT (ts.take (k + 1)) = joinT (ts.take k) ++ ((tokText yk yn yt).data.toList ++ [32])) := unhide HJ
      obtain ⟨x, hx⟩ : ∃ x, tokText yk yn yt = x := ⟨_, rfl⟩
      rw [hx] at hxs HTK HJ'
      have hno : ¬ 9223372036854775807 < x.size + (ByteArray.mk #[32]).size := by rw [show (ByteArray.mk #[32]).size = 1 from rfl]; omega
      have hz32 : (x ++ ByteArray.mk #[32]).size = x.size + 1 := by rw [ByteArray.size_append]; rfl
      have HL32 := hide (append_blank x)
      obtain ⟨z, hz⟩ : ∃ z, x ++ ByteArray.mk #[32] = z := ⟨_, rfl⟩
      rw [hz] at hz32 HL32
      have HZ := hide hz32
      have hzp : 0 < z.size := by omega
      have hzl : z.size ≤ 4051 := by omega
      clear hcd eb ey hpr hyn hyt hx HJ hz32
      go_wp2_with (first | (go_at_call 8; refine (unhide HTK).mono ?_; rintro e w6 ⟨rfl, hb6⟩; have HG6 := hide ((unhide HGR).below hb6); obtain ⟨cz, W7, hcv, hcap7, hrow7, hb7, hz7⟩ := conv_str w6 z; have HG7 := hide ((unhide HG6).below hb7); have HR7 : Hid (RowB W7 (some ⟨w6.heap.size, 0, none⟩) z.size (uz z.data.toList)) := hrow7; have hw7 := (unhide HG7).low.size; clear hb6 hcap7 hrow7 hb7) | (at_builtin; refine wpList_append_lies _ rfl _ _ 22 rfl w5.heap.size 5 i0 (.int .u8 0) 1 1 Tryz.underlying22 hii hz0 hz1 hz2 rfl (by decide) _ _ _ rfl (unhide HG7).own ⟨w6.heap.size, 0, none⟩ z.size cz ((uz z.data.toList).map (Value.int .u8)) rfl (by rw [List.length_map, uz_len, ← Lib.size_eq, Nat.mul_one]) (news_of (unhide HR7)) (one_bytes _) (by omega) (by unfold maxLen; omega) (by omega) (by omega) W7.heap.size rfl ?_; intro g8 cap8 w8 hown' hgrow hat hlt8; have HG8 := hide (GrowB.push (unhide HG7) hown' hgrow); clear hgrow hat hown' hlt8))
      go_roundw
      case rel =>
        refine ⟨g8, cap8, m + z.size, k + 1, rfl, by go_num, by omega, by omega, ?_⟩
        show GrowB _ _ _ _ _ _
        rw [unhide HJ', ← unhide HL32, uz_app]
        exact unhide HG8
      case measure => simp [intOf]; omega
    obtain rfl : k = ns := by omega
    have HJJ : Hid (joinT (ts.take k) = joinT ts) := by show _ = _; rw [List.take_of_length_le (by rw [unhide HN]; exact Nat.le_refl _)]
    rw [unhide HJJ] at HGR
    have HBW : Hid (Below w.heap.size w wr) := (unhide HB5).trans ((unhide HGR).low.mono hz5)
    by_cases hcd : cd = 0
    case neg =>
      have hd : (cd != 0) = true := by simpa using hcd
      go_wp2_with fail
      go_ret
      exact ⟨rfl, unhide HBW⟩
    subst hcd
    have hml : (joinT ts).length = m := by rw [← uz_len]; exact (unhide HGR).len
    by_cases hbig : 2000 < m
    case pos =>
      have hbi : (2000 : Int) < (m : Int) := by omega
      go_wp2_with fail
      go_ret
      exact ⟨rfl, unhide HBW⟩
    have hbi : ¬ (2000 : Int) < (m : Int) := by omega
    obtain ⟨hq1, hq2⟩ := (unhide HRE rfl).2 (by show (joinT ts).length ≤ 2000; omega)
    obtain ⟨s2, hs2⟩ : ∃ s2 : ByteArray, (⟨(joinT ts).toArray⟩ : ByteArray) = s2 := ⟨_, rfl⟩
    have hsz2 : s2.size = m := by rw [← hs2, size_self]; exact hml
    have hbz2 : bz s2 = uz (joinT ts) := by rw [← hs2]; rfl
    have hl2 : lexT (⟨(joinT ts).toArray⟩ : ByteArray) = lexT s2 := by rw [hs2]
    have hq1' : (lexT s2).2.1 = 0 := by rw [← hl2]; exact hq1
    have hq2' : (lexT s2).1.map (fun y => (y.k, y.n, y.t)) = ts.map (fun y => (y.k, y.n, y.t)) := by rw [← hl2]; exact hq2
    have HIL := hide (implLex_any g 0 cap s2 wr (by rw [hsz2, hbz2]; exact (unhide HGR).row) (by omega) (unhide HG _ (unhide HBW)).2.1 (unhide HG _ (unhide HBW)).2.2)
    rw [hsz2] at HIL
    obtain ⟨r2, hr2⟩ : ∃ r, lexT s2 = r := ⟨_, rfl⟩
    rw [hr2] at hq1' hq2' HIL
    obtain ⟨ts2, cd2, pl2⟩ := r2
    have hcd2 : cd2 = 0 := hq1'
    subst hcd2
    have hq2'' : ts2.map (fun y => (y.k, y.n, y.t)) = ts.map (fun y => (y.k, y.n, y.t)) := hq2'
    have hn22 : ts2.length = k := by
      have := congrArg List.length hq2''
      rw [List.length_map, List.length_map] at this
      rw [this]
      exact unhide HN
    have HN2 := hide hn22
    have HQ2 := hide hq2''
    clear hq1 hq2 hq1' hq2' hq2'' hr2 hl2 hbz2 hsz2 hs2 hml hbig hn22
    go_wp2_with fail
    refine (unhide HIL).mono ?_
    rintro e w9 ⟨v9, he, hW, hb9⟩
    have hW' : w9.ownsRow wr.heap.size 30 4 v9 k (ts2.flatMap tokCells) := by rw [← unhide HN2]; exact hW
    obtain ⟨a9, c9, rfl, hO9⟩ := ownT_of hW'
    have he' : e = .returned (.tuple #[.slice a9 k c9, .int .i64 0, .int .i64 (pl2 : Nat)]) := he
    subst he'
    have HB9 := hide ((unhide HBW).trans (hb9.mono (unhide HBW).size))
    have HS9 := hide (((unhide HS5).below (Nat.le_refl _) (unhide HGR).low).below (Nat.le_refl _) hb9)
    have HT9 := hide hO9.row
    clear he hW hW' hb9 hO9
    go_wp2_with fail
    go_loopw [15] (fun i wz => ∃ j : Nat, i = .int .i64 (j : Nat) ∧ j ≤ k ∧ ∃ q, wz = w9.drewN q) (fun i _ => k - (intOf i).toNat)
    case atStart => exact ⟨0, rfl, Nat.zero_le _, 0, rfl⟩
    case round =>
      obtain ⟨j, rfl, hjk, q, rfl⟩ := hrel
      by_cases hj : j < k
      case pos =>
        obtain ⟨b1, o1, p, rfl, hbl1, ep, p0, p1, p2, p3⟩ := (unhide HT9).get hj
        obtain ⟨b2, o2, y, eb, hbl2, ey, y0, y1, y2, y3⟩ := (unhide HS9).get hj
        obtain ⟨rfl, rfl⟩ : gs = b2 ∧ 0 = o2 := by simpa using eb
        simp only [Nat.zero_add] at y0 y1 y2 y3
        obtain ⟨m1, m2, m3⟩ := map_at (unhide HQ2) ep ey
        rw [m1] at p0
        rw [m2] at p1
        rw [m3] at p2
        obtain ⟨yk, yn, yt, yp⟩ := y
        have z0 : w9.cell? ⟨b1, o1 + j * 4, none⟩ = some (.int .i64 yk) := p0
        have z1 : w9.cell? ⟨b1, o1 + j * 4 + 1, none⟩ = some (.int .i64 yn) := p1
        have z2 : w9.cell? ⟨b1, o1 + j * 4 + 2, none⟩ = some (.string yt) := p2
        have x0 : w9.cell? ⟨gs, j * 4, none⟩ = some (.int .i64 yk) := y0
        have x1 : w9.cell? ⟨gs, j * 4 + 1, none⟩ = some (.int .i64 yn) := y1
        have x2 : w9.cell? ⟨gs, j * 4 + 2, none⟩ = some (.string yt) := y2
        clear p0 p1 p2 p3 y0 y1 y2 y3 m1 m2 m3 ep ey eb
        go_wp2_with fail
        go_quiet (fail)
        go_wp2_with fail
        go_roundw
        case rel => exact ⟨j + 1, by go_num, by omega, by first | exact ⟨_, rfl⟩ | (simp only [World.drewN_drewN]; exact ⟨_, rfl⟩)⟩
        case measure => simp [intOf]; omega
      have hji : ¬ (j : Int) < (k : Int) := by omega
      go_wp2_with fail
      go_ret
      exact ⟨rfl, Below.drewN (unhide HB9) _⟩

set_option maxHeartbeats 2000000 in
theorem law_big (a : Option Addr) (n c : Nat) (w : World) (hn : 1048576 < n) :
    Calls Tryz.prog 3 #[.slice a n c] w fun e w' => e = .returned (.bool true) ∧ Below w.heap.size w w' := by
  have hnz : (1048576 : Int) < (n : Int) := by omega
  go_enter Tryz.func3, Tryz.ntmps3
  go_wp2_with fail
  go_ret
  exact ⟨rfl, Below.refl _ _⟩

end LawTokens
end Go.Proofs.YtijamlgiinjikaaGreatDoor
