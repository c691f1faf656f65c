import Derived.Test.YtngbmcljhcckmaaSpecCopyO
import Derived.Test.YtngbmcljhcckmaaL3Same
import Derived.Test.YtngbmcljhcckmaaSpecNone
import Derived.Test.YtngbmcljhcckmaaMMath
import Derived.Test.YtngbmcljhcckmaaMBase
import Derived.Test.YtngbmcljhcckmaaMBase
import Derived.Test.YtngbmcljhcckmaaSpecGrow
import Derived.Deep.RegionHeld
namespace Go.Proofs.Ytngbmcljhcckmaa
open Go.RowKit

/-- The elements at a are l; all else is as in W. -/
structure IntoS (W : World) (B : Nat) (a : Option Addr) (n : Nat) (l : List Int) (wr : World) : Prop where
  own : Own wr B a n l
  but : But (fun k => At a n k) W wr

theorem own_apart {b1 : Option Addr} {n1 f1 k : Nat} (h : At b1 n1 k) : (Value.slice b1 n1 f1).ownBlock = some k := by
  obtain ⟨_, p, rfl, rfl⟩ := h
  rfl

set_option maxRecDepth 20000 in
set_option maxHeartbeats 8000000 in
theorem l5Into_any (c d : Bool) (a1 a2 b1 b2 : Addr) (n1 n2 c1 c2 m1 m2 d1 d2 ga N ca gb nb cb : Nat) (sh dt sh' dt' zs : List Int) (wh : Nat → Int) (w : World) (h1 : Row w (some a1) n1 sh) (h2 : Row w (some a2) n2 dt) (k1 : Row w (some b1) m1 sh') (k2 : Row w (some b2) m2 dt')
    (hw : Row w (some ⟨ga, 0, none⟩) N ((List.range N).map wh)) (hz : Row w (some ⟨gb, 0, none⟩) nb zs) (hwb : ∀ t, t < N → 0 ≤ wh t ∧ wh t < (n2 : Int)) (hN : N ≤ 10000) (hcnt : fitC zs sh' dt' = 0 → m2 = 1 ∨ m2 = N) :
    Calls Try.prog 88 #[.agg #[.bool c, .slice (some a1) n1 c1, .slice (some a2) n2 c2], .slice (some ⟨ga, 0, none⟩) N ca, .slice (some ⟨gb, 0, none⟩) nb cb, .agg #[.bool d, .slice (some b1) m1 d1, .slice (some b2) m2 d2]] w (GivesRow w (intoA c d sh dt sh' dt' zs wh N)) := by
  have hs2 := h2.small
  have hs3 := k1.small
  have hs4 := k2.small
  have hsz := hz.small
  have hs1 := h1.small
  have H1 := hide h1
  have H2 := hide h2
  have K1 := hide k1
  have K2 := hide k2
  have HW := hide hw
  have HZ := hide hz
  have HWB := hide hwb
  have HCN := hide hcnt
  have hl3 := hide k1.len
  have hl4 := hide k2.len
  have hlz := hide hz.len
  clear h1 h2 k1 k2 hw hz hwb hcnt
  obtain ⟨W, hW⟩ : ∃ W, W = (((w.alloc (.cells #[.bool c, .slice (some a1) n1 c1, .slice (some a2) n2 c2] 26)).alloc (.cells #[.bool d, .slice (some b1) m1 d1, .slice (some b2) m2 d2] 26)).alloc (.cells #[.bool false, .slice none 0 0, .slice none 0 0] 26)) := ⟨_, rfl⟩
  have hzW : W.heap.size = w.heap.size + 3 := by rw [hW]; simp
  have hBX := boxes3 (w := w) (c := c) (d := d) (v1 := .slice (some a1) n1 c1) (v2 := .slice (some a2) n2 c2) (u1 := .slice (some b1) m1 d1) (u2 := .slice (some b2) m2 d2) (Below.refl _ _)
  rw [← hW] at hBX
  obtain ⟨B4, B5, B6, hB⟩ := hBX
  have C4 := hide B4
  have C5 := hide B5
  have C6 := hide B6
  have HB := hide hB
  clear B4 B5 B6 hB
  go_enter Try.func88, Try.ntmps88
  go_upto_region 1 with fail
  rw [← hW]
  obtain ⟨x0, x1, x2, x3, x4, x5, x6⟩ := (unhide C4).all
  obtain ⟨y0, y1, y2, y3, y4, y5, y6⟩ := (unhide C5).all
  clear hW
  by_cases hm1 : m2 = 1
  · have HF : Hid (fitC zs sh' dt' = 0) := fit_one (by rw [unhide hl4]; exact hm1)
    have hq0 : ((m2 : Int) != 1) = false := by simp [hm1]
    clear hm1
    have HV : Hid (Below W.heap.size W W) := Below.refl _ _
    obtain ⟨V, hV⟩ : ∃ V, V = W := ⟨_, rfl⟩
    rw [← hV] at HV x0 x1 x2 x3 x4 x5 x6 y0 y1 y2 y3 y4 y5 y6
    rw [← hV]
    have HV' : Hid (Below W.heap.size W V) := by rw [hV]; exact Below.refl _ _
    clear HV hV
    have HV := HV'
    clear HV'
    by_cases hcd : c = d
    case neg =>
      have HS : Hid (intoA c d sh dt sh' dt' zs wh N = noAns 3) := into_dom (unhide HF) hcd
      have hq : (c == d) = false := by simp [hcd]
      clear hcd
      go_wp2_with fail
      refine (l4None_any _).mono ?_
      rintro e w9 ⟨rfl, hb9⟩
      have hb8 := (unhide HV).trans (hb9.mono (unhide HV).size)
      obtain ⟨q0, q1, q2, q3, q4, q5, q6⟩ := ((unhide C6).below (Nat.le_refl _) hb8).all
      have hB9 := hide ((unhide HB).trans (hb8.mono (unhide HB).size))
      clear hb8 hb9 x0 x1 x2 x3 x4 x5 x6 y0 y1 y2 y3 y4 y5 y6
      go_wp2
      refine bodyPost_ret (v := .tuple #[.agg #[.bool false, .slice none 0 0, .slice none 0 0], .int .i64 3]) (by simp [results, Try.results88, go_sem, q0, q1, q2]) rfl ?_
      rw [unhide HS]
      exact ⟨none, 0, 0, none, 0, 0, rfl, row_nil _ _, row_nil _ _, (((unhide hB9).setCell (by simp <;> omega) _).setCell (by simp <;> omega) _).setCell (by simp <;> omega) _⟩
    subst hcd
    have hq : (c == c) = true := by simp
    have HGO : Hid (intoA c c sh dt sh' dt' zs wh N = ⟨c, sh, intoN dt dt' wh N, 0⟩) := into_go (unhide HF) rfl
    have hm := unhide HCN (unhide HF)
    clear HF HCN
    have HBV := hide ((unhide HB).trans ((unhide HV).mono (unhide HB).size))
    have hcall := l3Copy_owns c a1 a2 n1 n2 c1 c2 sh dt V ((unhide H1).below (Nat.le_refl _) (unhide HBV)) ((unhide H2).below (Nat.le_refl _) (unhide HBV))
    go_wp2_with fail
    refine hcall.mono ?_
    rintro e Q ⟨s1, f1, s2, f2, rfl, ho, hr2, hap, hb2⟩
    have HO := hide ho
    have HAP := hide hap
    have HR2 := hide hr2
    have HQ := hide hb2
    clear ho hr2 hap hb2
    go_upto_region 8 with fail
    clear hcall x0 x1 x2 x3 x4 x5 x6 y0 y1 y2 y3 y4 y5 y6
    obtain ⟨X, hX⟩ : ∃ X, X = Q.alloc (.cells #[.bool c, .slice s1 n1 f1, .slice s2 n2 f2] 26) := ⟨_, rfl⟩
    have hvw := (unhide HV).size
    have hqv := (unhide HQ).size
    have HQX : Hid (Below Q.heap.size Q X) := by rw [hX]; exact (Below.refl _ _).alloc (Nat.le_refl _) _
    have D7 : Hid (Box X Q.heap.size c (.slice s1 n1 f1) (.slice s2 n2 f2)) := by rw [hX]; exact Box.new _ _ _ _
    have HWQ := hide ((unhide HV).trans ((unhide HQ).mono hvw))
    have HWX := hide ((unhide HWQ).trans ((unhide HQX).mono (unhide HWQ).size))
    have HOS : Hid (Own X V.heap.size s1 n1 sh) := by
      obtain ⟨s1', f1', e1, h⟩ := Own.of_owns (unhide HO) hs1
      cases e1
      exact (h.mono (by omega)).below (Nat.le_refl _) (unhide HQX)
    have HOD : Hid (IntoS X V.heap.size s2 n2 dt X) := ⟨(unhide HR2).below (Nat.le_refl _) (unhide HQX), But.refl _ _⟩
    have HLQ : Hid (∀ k, At s2 n2 k → V.heap.size ≤ k ∧ k < Q.heap.size) := fun k hk => ⟨(unhide HR2).low hk, (unhide HR2).row.hi hk⟩
    have HAP2 : Hid (∀ k, At s2 n2 k → ¬ At s1 n1 k) := fun k hk hk' => unhide HAP k hk (own_apart hk')
    rw [← hX]
    clear hX HO HR2 HAP HQ HQX
    go_wp2_with fail
    go_loopw [11] (fun i wr => ∃ k : Nat, k ≤ N ∧ i = .int .i64 k ∧ Hid (IntoS X V.heap.size s2 n2 (intoN dt dt' wh k) wr)) (fun i _ => N - (intOf i).toNat)
    case atStart => exact ⟨0, Nat.zero_le _, rfl, HOD⟩
    case round =>
      obtain ⟨k, hk, rfl, HI⟩ := hrel
      clear HOD
      have hbut := (unhide HI).but
      have HBL : Hid (Below W.heap.size W wr) := (unhide HWX).trans (hbut.below (unhide HWX).size (fun k hk => by have := unhide HLQ k hk; omega))
      have hpX := (unhide D7).lt
      have HD7 : Hid (Box wr Q.heap.size c (.slice s1 n1 f1) (.slice s2 n2 f2)) := (unhide D7).but hbut (fun hk => by have := unhide HLQ _ hk; omega)
      by_cases hlt : k < N
      · have hwk := unhide HWB k hlt
        obtain ⟨J, hJ⟩ : ∃ J : Nat, wh k = J := ⟨(wh k).toNat, by omega⟩
        rw [hJ] at hwk
        have hJl : J < n2 := by omega
        have hm0 : 0 < m2 := by omega
        obtain ⟨r, hr⟩ : ∃ r, k % m2 = r := ⟨_, rfl⟩
        have hrl : r < m2 := by rw [← hr]; exact Nat.mod_lt _ hm0
        have hq1 : (k : Int).tmod (m2 : Int) = (r : Int) := by rw [Int.tmod_eq_emod_of_nonneg (by omega), ← hr]; rfl
        have hq2 : (k : Int) % (m2 : Int) = (r : Int) := by rw [← hr]; rfl
        have g0' : ((m2 : Int) == 0) = false := by simp; omega
        have HBW := (unhide HB).trans ((unhide HBL).mono (unhide HB).size)
        obtain ⟨bb, ob, hab, hblt, hcx⟩ := ((unhide K2).below (Nat.le_refl _) HBW).get hrl
        cases hab
        obtain ⟨x, hx⟩ : ∃ x, x = dt'.getD r 0 := ⟨_, rfl⟩
        rw [← hx] at hcx
        obtain ⟨ga', oa', hga, hglt, hcw⟩ := ((unhide HW).below (Nat.le_refl _) HBW).get hlt
        cases hga
        rw [map_range_get _ _ _ hlt, hJ, Nat.zero_add] at hcw
        have HSTEP : Hid ((intoN dt dt' wh k).set J x = intoN dt dt' wh (k + 1)) := into_step hJ (by rw [unhide hl4, hr]) hx
        have hown := (unhide HI).own
        obtain ⟨g, off, rfl, hgl, hgl2, hcg, hfg⟩ : ∃ g off, s2 = some ⟨g, off, none⟩ ∧ V.heap.size ≤ g ∧ g < wr.heap.size ∧ (∀ i, i < n2 → wr.cell? ⟨g, off + i, none⟩ = some (.int .i64 ((intoN dt dt' wh k).getD i 0))) ∧ (∀ i, i < n2 → wr.frozen? ⟨g, off + i, none⟩ = false) := by
          rcases hown.at_ with h0 | h0
          · omega
          · exact h0
        have hcJ := hcg J hJl
        have hfJ := hfg J hJl
        have HN2 : Hid (IntoS X V.heap.size (some ⟨g, off, none⟩) n2 (intoN dt dt' wh (k + 1)) (wr.setCell ⟨g, off + J, none⟩ (.int .i64 x))) := by
          refine ⟨?_, hbut.setCell (at_self (by omega)) _⟩
          rw [← unhide HSTEP]
          exact hown.set hJl x
        obtain ⟨v0, v1, v2, v3, v4, v5, v6⟩ := (unhide HD7).all
        obtain ⟨y0, y1, y2, y3, y4, y5, y6⟩ := ((unhide C5).below (Nat.le_refl _) (unhide HBL)).all
        clear hwk hr hx hJ hcg hfg hown hbut HBW hglt hblt hgl hgl2 HI HSTEP
        go_wp2_with fail
        go_region
        all_goals go_wp2_with fail
        all_goals (go_roundw; (case rel => exact ⟨k + 1, by omega, by go_num, (unhide HN2).own.below (Nat.le_refl _) (Below.refl _ _).drew, (unhide HN2).but.drew⟩); (case measure => simp [intOf]; omega))
      · obtain rfl : k = N := by omega
        have HOE : Hid (Own wr V.heap.size s1 n1 sh) := hbut.own (unhide HOS) (fun k hk => unhide HAP2 k hk)
        have HDE := hide (unhide HI).own
        have Z6 := hide ((unhide C6).below (Nat.le_refl _) (unhide HBL))
        have HB6 := hide ((unhide HB).trans ((unhide HBL).mono (unhide HB).size))
        obtain ⟨v0, v1, v2, v3, v4, v5, v6⟩ := (unhide HD7).all
        obtain ⟨q0, q1, q2, q3, q4, q5, q6⟩ := (unhide Z6).all
        clear hbut HI hlt
        go_wp2
        have hx := (unhide Z6).sets (c' := c) (u1 := .slice s1 n1 f1) (u2 := .slice s2 n2 f2)
        obtain ⟨r0, r1, r2, _, _, _⟩ := hx.all
        refine bodyPost_ret (v := .tuple #[.agg #[.bool c, .slice s1 n1 f1, .slice s2 n2 f2], .int .i64 0]) (by simp [results, Try.results88, go_sem, r0, r1, r2]) rfl ?_
        rw [unhide HGO]
        exact ⟨_, _, _, _, _, _, rfl, (unhide HOE).row.sets (unhide Z6) _ _ _, (unhide HDE).row.sets (unhide Z6) _ _ _, (((unhide HB6).setCell (by simp <;> omega) _).setCell (by simp <;> omega) _).setCell (by simp <;> omega) _⟩
  have hq0 : ((m2 : Int) != 1) = true := by simp; omega
  by_cases hr : m1 = nb
  case neg =>
    have HS : Hid (intoA c d sh dt sh' dt' zs wh N = noAns 4) := into_fit (fit_rank (by rw [unhide hl4]; exact hm1) (by rw [unhide hl3, unhide hlz]; exact hr)) (by decide)
    have hqr : ((m1 : Int) != (nb : Int)) = true := by simp; omega
    clear hr hm1
    go_wp2_with fail
    refine (l4None_any _).mono ?_
    rintro e w9 ⟨rfl, hb9⟩
    have hb8 := hb9
    obtain ⟨q0, q1, q2, q3, q4, q5, q6⟩ := ((unhide C6).below (Nat.le_refl _) hb8).all
    have hB9 := hide ((unhide HB).trans (hb8.mono (unhide HB).size))
    clear hb8 hb9 x0 x1 x2 x3 x4 x5 x6 y0 y1 y2 y3 y4 y5 y6
    go_wp2
    refine bodyPost_ret (v := .tuple #[.agg #[.bool false, .slice none 0 0, .slice none 0 0], .int .i64 4]) (by simp [results, Try.results88, go_sem, q0, q1, q2]) rfl ?_
    rw [unhide HS]
    exact ⟨none, 0, 0, none, 0, 0, rfl, row_nil _ _, row_nil _ _, (((unhide hB9).setCell (by simp <;> omega) _).setCell (by simp <;> omega) _).setCell (by simp <;> omega) _⟩
  subst hr
  have hqr : ((m1 : Int) != (m1 : Int)) = false := by simp
  obtain ⟨rs, hrs⟩ : ∃ r, decide (sh' = zs) = r := ⟨_, rfl⟩
  have HRS := hide hrs
  clear hrs
  go_wp2_with fail
  refine (l3Same_eq _ _ _ _ _ _ sh' zs _ (by exact (unhide K1).below (Nat.le_refl _) (unhide HB)) (by exact (unhide HZ).below (Nat.le_refl _) (unhide HB)) rs HRS).mono ?_
  rintro e V ⟨rfl, qn, hV⟩
  have HV : Hid (Below W.heap.size W V) := by rw [hV]; exact Below.drewN (Below.refl _ _) _
  clear hV x0 x1 x2 x3 x4 x5 x6 y0 y1 y2 y3 y4 y5 y6
  obtain ⟨x0, x1, x2, x3, x4, x5, x6⟩ := ((unhide C4).below (Nat.le_refl _) (unhide HV)).all
  obtain ⟨y0, y1, y2, y3, y4, y5, y6⟩ := ((unhide C5).below (Nat.le_refl _) (unhide HV)).all
  cases rs with
  | false =>
    have HS : Hid (intoA c d sh dt sh' dt' zs wh N = noAns 5) := into_fit (fit_len (by rw [unhide hl4]; exact hm1) (by rw [unhide hl3, unhide hlz]) (of_decide_eq_false (unhide HRS))) (by decide)
    clear hm1
    go_wp2_with fail
    refine (l4None_any _).mono ?_
    rintro e w9 ⟨rfl, hb9⟩
    have hb8 := (unhide HV).trans (hb9.mono (unhide HV).size)
    obtain ⟨q0, q1, q2, q3, q4, q5, q6⟩ := ((unhide C6).below (Nat.le_refl _) hb8).all
    have hB9 := hide ((unhide HB).trans (hb8.mono (unhide HB).size))
    clear hb8 hb9 x0 x1 x2 x3 x4 x5 x6 y0 y1 y2 y3 y4 y5 y6
    go_wp2
    refine bodyPost_ret (v := .tuple #[.agg #[.bool false, .slice none 0 0, .slice none 0 0], .int .i64 5]) (by simp [results, Try.results88, go_sem, q0, q1, q2]) rfl ?_
    rw [unhide HS]
    exact ⟨none, 0, 0, none, 0, 0, rfl, row_nil _ _, row_nil _ _, (((unhide hB9).setCell (by simp <;> omega) _).setCell (by simp <;> omega) _).setCell (by simp <;> omega) _⟩
  | true =>
    have HF : Hid (fitC zs sh' dt' = 0) := fit_same (of_decide_eq_true (unhide HRS))
    by_cases hcd : c = d
    case neg =>
      have HS : Hid (intoA c d sh dt sh' dt' zs wh N = noAns 3) := into_dom (unhide HF) hcd
      have hq : (c == d) = false := by simp [hcd]
      clear hcd
      go_wp2_with fail
      refine (l4None_any _).mono ?_
      rintro e w9 ⟨rfl, hb9⟩
      have hb8 := (unhide HV).trans (hb9.mono (unhide HV).size)
      obtain ⟨q0, q1, q2, q3, q4, q5, q6⟩ := ((unhide C6).below (Nat.le_refl _) hb8).all
      have hB9 := hide ((unhide HB).trans (hb8.mono (unhide HB).size))
      clear hb8 hb9 x0 x1 x2 x3 x4 x5 x6 y0 y1 y2 y3 y4 y5 y6
      go_wp2
      refine bodyPost_ret (v := .tuple #[.agg #[.bool false, .slice none 0 0, .slice none 0 0], .int .i64 3]) (by simp [results, Try.results88, go_sem, q0, q1, q2]) rfl ?_
      rw [unhide HS]
      exact ⟨none, 0, 0, none, 0, 0, rfl, row_nil _ _, row_nil _ _, (((unhide hB9).setCell (by simp <;> omega) _).setCell (by simp <;> omega) _).setCell (by simp <;> omega) _⟩
    subst hcd
    have hq : (c == c) = true := by simp
    have HGO : Hid (intoA c c sh dt sh' dt' zs wh N = ⟨c, sh, intoN dt dt' wh N, 0⟩) := into_go (unhide HF) rfl
    have hm := unhide HCN (unhide HF)
    clear HF HCN
    have HBV := hide ((unhide HB).trans ((unhide HV).mono (unhide HB).size))
    have hcall := l3Copy_owns c a1 a2 n1 n2 c1 c2 sh dt V ((unhide H1).below (Nat.le_refl _) (unhide HBV)) ((unhide H2).below (Nat.le_refl _) (unhide HBV))
    go_wp2_with fail
    refine hcall.mono ?_
    rintro e Q ⟨s1, f1, s2, f2, rfl, ho, hr2, hap, hb2⟩
    have HO := hide ho
    have HAP := hide hap
    have HR2 := hide hr2
    have HQ := hide hb2
    clear ho hr2 hap hb2
    go_upto_region 8 with fail
    clear hcall x0 x1 x2 x3 x4 x5 x6 y0 y1 y2 y3 y4 y5 y6
    obtain ⟨X, hX⟩ : ∃ X, X = Q.alloc (.cells #[.bool c, .slice s1 n1 f1, .slice s2 n2 f2] 26) := ⟨_, rfl⟩
    have hvw := (unhide HV).size
    have hqv := (unhide HQ).size
    have HQX : Hid (Below Q.heap.size Q X) := by rw [hX]; exact (Below.refl _ _).alloc (Nat.le_refl _) _
    have D7 : Hid (Box X Q.heap.size c (.slice s1 n1 f1) (.slice s2 n2 f2)) := by rw [hX]; exact Box.new _ _ _ _
    have HWQ := hide ((unhide HV).trans ((unhide HQ).mono hvw))
    have HWX := hide ((unhide HWQ).trans ((unhide HQX).mono (unhide HWQ).size))
    have HOS : Hid (Own X V.heap.size s1 n1 sh) := by
      obtain ⟨s1', f1', e1, h⟩ := Own.of_owns (unhide HO) hs1
      cases e1
      exact (h.mono (by omega)).below (Nat.le_refl _) (unhide HQX)
    have HOD : Hid (IntoS X V.heap.size s2 n2 dt X) := ⟨(unhide HR2).below (Nat.le_refl _) (unhide HQX), But.refl _ _⟩
    have HLQ : Hid (∀ k, At s2 n2 k → V.heap.size ≤ k ∧ k < Q.heap.size) := fun k hk => ⟨(unhide HR2).low hk, (unhide HR2).row.hi hk⟩
    have HAP2 : Hid (∀ k, At s2 n2 k → ¬ At s1 n1 k) := fun k hk hk' => unhide HAP k hk (own_apart hk')
    rw [← hX]
    clear hX HO HR2 HAP HQ HQX
    go_wp2_with fail
    go_loopw [11] (fun i wr => ∃ k : Nat, k ≤ N ∧ i = .int .i64 k ∧ Hid (IntoS X V.heap.size s2 n2 (intoN dt dt' wh k) wr)) (fun i _ => N - (intOf i).toNat)
    case atStart => exact ⟨0, Nat.zero_le _, rfl, HOD⟩
    case round =>
      obtain ⟨k, hk, rfl, HI⟩ := hrel
      clear HOD
      have hbut := (unhide HI).but
      have HBL : Hid (Below W.heap.size W wr) := (unhide HWX).trans (hbut.below (unhide HWX).size (fun k hk => by have := unhide HLQ k hk; omega))
      have hpX := (unhide D7).lt
      have HD7 : Hid (Box wr Q.heap.size c (.slice s1 n1 f1) (.slice s2 n2 f2)) := (unhide D7).but hbut (fun hk => by have := unhide HLQ _ hk; omega)
      by_cases hlt : k < N
      · have hwk := unhide HWB k hlt
        obtain ⟨J, hJ⟩ : ∃ J : Nat, wh k = J := ⟨(wh k).toNat, by omega⟩
        rw [hJ] at hwk
        have hJl : J < n2 := by omega
        have hm0 : 0 < m2 := by omega
        obtain ⟨r, hr⟩ : ∃ r, k % m2 = r := ⟨_, rfl⟩
        have hrl : r < m2 := by rw [← hr]; exact Nat.mod_lt _ hm0
        have hq1 : (k : Int).tmod (m2 : Int) = (r : Int) := by rw [Int.tmod_eq_emod_of_nonneg (by omega), ← hr]; rfl
        have hq2 : (k : Int) % (m2 : Int) = (r : Int) := by rw [← hr]; rfl
        have g0' : ((m2 : Int) == 0) = false := by simp; omega
        have HBW := (unhide HB).trans ((unhide HBL).mono (unhide HB).size)
        obtain ⟨bb, ob, hab, hblt, hcx⟩ := ((unhide K2).below (Nat.le_refl _) HBW).get hrl
        cases hab
        obtain ⟨x, hx⟩ : ∃ x, x = dt'.getD r 0 := ⟨_, rfl⟩
        rw [← hx] at hcx
        obtain ⟨ga', oa', hga, hglt, hcw⟩ := ((unhide HW).below (Nat.le_refl _) HBW).get hlt
        cases hga
        rw [map_range_get _ _ _ hlt, hJ, Nat.zero_add] at hcw
        have HSTEP : Hid ((intoN dt dt' wh k).set J x = intoN dt dt' wh (k + 1)) := into_step hJ (by rw [unhide hl4, hr]) hx
        have hown := (unhide HI).own
        obtain ⟨g, off, rfl, hgl, hgl2, hcg, hfg⟩ : ∃ g off, s2 = some ⟨g, off, none⟩ ∧ V.heap.size ≤ g ∧ g < wr.heap.size ∧ (∀ i, i < n2 → wr.cell? ⟨g, off + i, none⟩ = some (.int .i64 ((intoN dt dt' wh k).getD i 0))) ∧ (∀ i, i < n2 → wr.frozen? ⟨g, off + i, none⟩ = false) := by
          rcases hown.at_ with h0 | h0
          · omega
          · exact h0
        have hcJ := hcg J hJl
        have hfJ := hfg J hJl
        have HN2 : Hid (IntoS X V.heap.size (some ⟨g, off, none⟩) n2 (intoN dt dt' wh (k + 1)) (wr.setCell ⟨g, off + J, none⟩ (.int .i64 x))) := by
          refine ⟨?_, hbut.setCell (at_self (by omega)) _⟩
          rw [← unhide HSTEP]
          exact hown.set hJl x
        obtain ⟨v0, v1, v2, v3, v4, v5, v6⟩ := (unhide HD7).all
        obtain ⟨y0, y1, y2, y3, y4, y5, y6⟩ := ((unhide C5).below (Nat.le_refl _) (unhide HBL)).all
        clear hwk hr hx hJ hcg hfg hown hbut HBW hglt hblt hgl hgl2 HI HSTEP
        go_wp2_with fail
        go_region
        all_goals go_wp2_with fail
        all_goals (go_roundw; (case rel => exact ⟨k + 1, by omega, by go_num, (unhide HN2).own.below (Nat.le_refl _) (Below.refl _ _).drew, (unhide HN2).but.drew⟩); (case measure => simp [intOf]; omega))
      · obtain rfl : k = N := by omega
        have HOE : Hid (Own wr V.heap.size s1 n1 sh) := hbut.own (unhide HOS) (fun k hk => unhide HAP2 k hk)
        have HDE := hide (unhide HI).own
        have Z6 := hide ((unhide C6).below (Nat.le_refl _) (unhide HBL))
        have HB6 := hide ((unhide HB).trans ((unhide HBL).mono (unhide HB).size))
        obtain ⟨v0, v1, v2, v3, v4, v5, v6⟩ := (unhide HD7).all
        obtain ⟨q0, q1, q2, q3, q4, q5, q6⟩ := (unhide Z6).all
        clear hbut HI hlt
        go_wp2
        have hx := (unhide Z6).sets (c' := c) (u1 := .slice s1 n1 f1) (u2 := .slice s2 n2 f2)
        obtain ⟨r0, r1, r2, _, _, _⟩ := hx.all
        refine bodyPost_ret (v := .tuple #[.agg #[.bool c, .slice s1 n1 f1, .slice s2 n2 f2], .int .i64 0]) (by simp [results, Try.results88, go_sem, r0, r1, r2]) rfl ?_
        rw [unhide HGO]
        exact ⟨_, _, _, _, _, _, rfl, (unhide HOE).row.sets (unhide Z6) _ _ _, (unhide HDE).row.sets (unhide Z6) _ _ _, (((unhide HB6).setCell (by simp <;> omega) _).setCell (by simp <;> omega) _).setCell (by simp <;> omega) _⟩

end Go.Proofs.Ytngbmcljhcckmaa
