import Derived.Test.YtngbmcljhcckmaaMStage
import Derived.Deep.RegionHeld
import Derived.Test.YtngbmcljhcckmaaMBase
import Derived.Test.YtngbmcljhcckmaaSpecNone
import Derived.Test.YtngbmcljhcckmaaMMath
import Derived.Test.YtngbmcljhcckmaaSpecWhere
namespace Go.Proofs.Ytngbmcljhcckmaa
open Go.RowKit

set_option maxRecDepth 20000 in
set_option maxHeartbeats 2000000 in
theorem l3Copy_owns (c : Bool) (a1 a2 : Addr) (n1 n2 c1 c2 : Nat) (sh dt : List Int) (w : World) (h1 : Row w (some a1) n1 sh) (h2 : Row w (some a2) n2 dt) :
    Calls Try.prog 115 #[.agg #[.bool c, .slice (some a1) n1 c1, .slice (some a2) n2 c2]] w fun e w' => ∃ b1 d1 b2 d2, e = .returned (.agg #[.bool c, .slice b1 n1 d1, .slice b2 n2 d2]) ∧ w'.ownsRow (w.heap.size + 2) 3 1 (.slice b1 n1 d1) n1 (sh.map (Value.int .i64)) ∧ Own w' w.heap.size b2 n2 dt ∧ (∀ x, At b2 n2 x → (Value.slice b1 n1 d1).ownBlock ≠ some x) ∧ Below w.heap.size w w' := by
  have H1 := hide h1
  have H2 := hide h2
  clear h1 h2
  obtain ⟨W0, hW0⟩ : ∃ W0, ((w.alloc (.cells #[.bool c, .slice (some a1) n1 c1, .slice (some a2) n2 c2] 26)).alloc (.cells #[.bool false, .slice none 0 0, .slice none 0 0] 26)) = W0 := ⟨_, rfl⟩
  have hz0 : W0.heap.size = w.heap.size + 2 := by rw [← hW0]; simp
  have HBX : Hid (∀ wx, Below W0.heap.size W0 wx → Box wx w.heap.size c (.slice (some a1) n1 c1) (.slice (some a2) n2 c2) ∧ Box wx (w.heap.size + 1) false (.slice none 0 0) (.slice none 0 0) ∧ Below w.heap.size w wx) := by
    intro wx hwx
    rw [← hW0] at hwx
    exact boxes2 hwx
  have HK0 : Hid (Box W0 w.heap.size c (.slice (some a1) n1 c1) (.slice (some a2) n2 c2)) := (unhide HBX _ (Below.refl _ _)).1
  have HKEEP : ∀ wx, Below (w.heap.size + 1) W0 wx → Below (w.heap.size + 1) W0 wx ∧ wx.cell? ⟨w.heap.size, 0, none⟩ = some (.bool c) ∧ wx.cell? ⟨w.heap.size, 1, none⟩ = some (.slice (some a1) n1 c1) ∧ wx.cell? ⟨w.heap.size, 2, none⟩ = some (.slice (some a2) n2 c2) := fun wx hwx => ⟨hwx, ((unhide HK0).low (by omega) hwx).cells⟩
  obtain ⟨B0, B1, hB0⟩ := unhide HBX _ (Below.refl _ _)
  obtain ⟨x0, x1, x2, x3, x4, x5, x6⟩ := B0.all
  clear B0 B1
  go_enter Try.func115, Try.ntmps115
  go_wp2_with fail
  go_region_held (fun wx => Below (w.heap.size + 1) W0 wx ∧ wx.cell? ⟨w.heap.size, 0, none⟩ = some (.bool c) ∧ wx.cell? ⟨w.heap.size, 1, none⟩ = some (.slice (some a1) n1 c1) ∧ wx.cell? ⟨w.heap.size, 2, none⟩ = some (.slice (some a2) n2 c2)) (first | exact HKEEP _ (hKB.mono (by omega)) | exact HKEEP _ ((((hKB.mono (by omega)).setCell (by simp) _).setCell (by simp) _).setCell (by simp) _) | exact HKEEP _ (hKA.mono (by omega)) | exact HKEEP _ (Below.refl _ _).drew)
    (first
    | (go_at_call_of 40 (Value.slice (some a1) n1 c1); refine (l3Ints_owns _ _ _ sh _ (by exact (unhide H1).below (Nat.le_refl _) hB0.drew)).mono ?_; rintro e wA ⟨b1, d1, rfl, hOA, hbA⟩; have hKA : Below W0.heap.size W0 wA := (Below.refl _ _).drew.trans (hbA.mono (by simp)); have HOA : Hid (wA.ownsRow (w.heap.size + 2) 3 1 (.slice b1 n1 d1) n1 (sh.map (Value.int .i64))) := owns_mono hOA (by simp; omega); obtain ⟨t0, t1, t2, t3, t4, t5, t6⟩ := (unhide HBX _ hKA).2.1.all; clear hOA)
    | (go_at_call_of 40 (Value.slice (some a2) n2 c2); refine (l3Ints_any _ _ _ dt _ (by exact (unhide H2).below (Nat.le_refl _) (unhide HBX _ hKA).2.2)).mono ?_; rintro e wB ⟨b2, d2, rfl, hOB, hbB⟩; have hKB : Below W0.heap.size W0 wB := hKA.trans (hbB.mono hKA.size); have HOB : Hid (Own wB W0.heap.size b2 n2 dt) := hOB.mono hKA.size; have HAP : Hid (∀ x, At b2 n2 x → (Value.slice b1 n1 d1).ownBlock ≠ some x) := (fun x hx e => by have h1 := hOB.low hx; have h2 := owns_lt (unhide HOA) e; omega); have HOA' := hide (owns_below (unhide HOA) (Nat.le_refl _) hbB); obtain ⟨s0, s1, s2, s3, s4, s5, s6⟩ := (unhide HBX _ hKB).2.1.all; clear hOB))
  go_wp2_with fail
  have hp2 : ∀ x, At b2 n2 x → x ≠ w.heap.size + 1 := fun x hx => by have := (unhide HOB).low hx; omega
  refine bodyPost_ret (v := .agg #[.bool c, .slice b1 n1 d1, .slice b2 n2 d2]) (by simp [results, Try.results115, go_sem, s0, s1, s2]) rfl ?_
  exact ⟨b1, d1, b2, d2, rfl, owns_low_set (owns_low_set (owns_low_set (unhide HOA') (by omega) _) (by omega) _) (by omega) _, ((((unhide HOB).mono (by omega)).other hp2 _).other hp2 _).other hp2 _, unhide HAP, (((unhide HBX _ hKB).2.2.setCell (by simp) _).setCell (by simp) _).setCell (by simp) _⟩

end Go.Proofs.Ytngbmcljhcckmaa
namespace Go.Proofs.Ytngbmcljhcckmaa
open Go.RowKit

set_option maxHeartbeats 400000 in
theorem l3Same_any (a b : Option Addr) (n m ca cb : Nat) (xs ys : List Int) (w : World) (hx : Row w a n xs) (hy : Row w b m ys) :
    Calls Try.prog 114 #[.slice a n ca, .slice b m cb] w fun e w' => e = .returned (.bool (decide (xs = ys))) ∧ ∃ q, w' = w.drewN q := by
  obtain ⟨hxl, hxs, hxa⟩ := hx
  obtain ⟨hyl, hys, hya⟩ := hy
  by_cases hne : n = m
  · subst hne
    have hn : ((n : Int) != (n : Int)) = false := by simp
    go_enter Try.func114, Try.ntmps114
    go_wp2
    go_loopw [5] (fun i wr => ∃ k : Nat, k ≤ n ∧ i = .int .i64 k ∧ xs.take k = ys.take k ∧ ∃ q, wr = w.drewN q) (fun i _ => n - (intOf i).toNat)
    case atStart => exact ⟨0, Nat.zero_le _, rfl, rfl, 0, rfl⟩
    case round =>
      obtain ⟨k, hk, rfl, htk, q, rfl⟩ := hrel
      by_cases hlt : k < n
      · have ha : ∃ b off, a = some ⟨b, off, none⟩ ∧ w.cell? ⟨b, off + k, none⟩ = some (.int .i64 (xs.getD k 0)) := by
          rcases hxa with h0 | ⟨b, off, rfl, hlt', hc⟩
          · omega
          · exact ⟨b, off, rfl, hc k hlt⟩
        have hb : ∃ b' off, b = some ⟨b', off, none⟩ ∧ w.cell? ⟨b', off + k, none⟩ = some (.int .i64 (ys.getD k 0)) := by
          rcases hya with h0 | ⟨b, off, rfl, hlt', hc⟩
          · omega
          · exact ⟨b, off, rfl, hc k hlt⟩
        obtain ⟨b1, o1, rfl, hc1⟩ := ha
        obtain ⟨b2, o2, rfl, hc2⟩ := hb
        clear hxa hya
        obtain ⟨x, hx⟩ : ∃ x, x = xs.getD k 0 := ⟨_, rfl⟩
        obtain ⟨y, hy⟩ : ∃ y, y = ys.getD k 0 := ⟨_, rfl⟩
        rw [← hx] at hc1
        rw [← hy] at hc2
        have HX : Hid (x = xs.getD k 0) := hx
        have HY : Hid (y = ys.getD k 0) := hy
        have HT : Hid (xs.take k = ys.take k) := htk
        have HL : Hid (xs.length = n ∧ ys.length = n) := ⟨hxl, hyl⟩
        clear hx hy htk hxl hyl
        by_cases hxy : x = y
        · have hb : (x != y) = false := by simp [hxy]
          have HXY : Hid (x = y) := hxy
          clear hxy
          go_wp2
          go_quiet (fail)
          go_wp2
          go_roundw
          case rel => exact ⟨k + 1, by omega, by go_num, take_step HL.out.1 HL.out.2 hlt HT.out (HX.out.symm.trans (HXY.out.trans HY.out)), _, by first | rfl | exact World.drewN_drewN _ _ _⟩
          case measure => simp [intOf]; omega
        · have hb : (x != y) = true := by simp [hxy]
          have HN : Hid (¬ xs = ys) := fun e => hxy (by rw [HX.out, HY.out, e])
          clear hxy
          go_wp2
          go_quiet (fail)
          go_wp2
          go_ret
          exact ⟨ret_bool (decide_eq_false HN.out).symm, _, World.drewN_drewN _ _ _⟩
      · have hkn : k = n := by omega
        have HE : Hid (xs = ys) := by
          show xs = ys
          rwa [List.take_of_length_le (by omega), List.take_of_length_le (by omega)] at htk
        clear htk
        subst hkn
        go_wp2
        go_ret
        exact ⟨ret_bool (decide_eq_true HE.out).symm, _, rfl⟩
  · have hn : ((n : Int) != (m : Int)) = true := by simp; omega
    have HN : Hid (¬ xs = ys) := fun e => hne (by rw [← hxl, ← hyl, e])
    clear hne
    go_enter Try.func114, Try.ntmps114
    go_wp2
    go_ret
    exact ⟨ret_bool (decide_eq_false HN.out).symm, 0, rfl⟩

theorem l3Same_eq (a b : Option Addr) (n m ca cb : Nat) (xs ys : List Int) (w : World) (hx : Row w a n xs) (hy : Row w b m ys) (r : Bool) (hr : Hid (decide (xs = ys) = r)) :
    Calls Try.prog 114 #[.slice a n ca, .slice b m cb] w fun e w' => e = .returned (.bool r) ∧ ∃ q, w' = w.drewN q := by
  rw [← hr.out]; exact l3Same_any a b n m ca cb xs ys w hx hy

end Go.Proofs.Ytngbmcljhcckmaa
namespace Go.Proofs.Ytngbmcljhcckmaa
open Go.RowKit

/-- The elements at a are l; all else is as in W. -/
structure IntoS (W : World) (B : Nat) (a : Option Addr) (n : Nat) (l : List Int) (wr : World) : Prop where
  own : Own wr B a n l
  but : But (fun k => At a n k) W wr

theorem own_apart {b1 : Option Addr} {n1 f1 k : Nat} (h : At b1 n1 k) : (Value.slice b1 n1 f1).ownBlock = some k := by
  obtain ⟨_, p, rfl, rfl⟩ := h
  rfl

set_option maxRecDepth 20000 in
set_option maxHeartbeats 8000000 in
theorem l5Into_any (c d : Bool) (a1 a2 b1 b2 : Addr) (n1 n2 c1 c2 m1 m2 d1 d2 ga N ca gb nb cb : Nat) (sh dt sh' dt' zs : List Int) (wh : Nat → Int) (w : World) (h1 : Row w (some a1) n1 sh) (h2 : Row w (some a2) n2 dt) (k1 : Row w (some b1) m1 sh') (k2 : Row w (some b2) m2 dt')
    (hw : Row w (some ⟨ga, 0, none⟩) N ((List.range N).map wh)) (hz : Row w (some ⟨gb, 0, none⟩) nb zs) (hwb : ∀ t, t < N → 0 ≤ wh t ∧ wh t < (n2 : Int)) (hN : N ≤ 10000) (hcnt : fitC zs sh' dt' = 0 → m2 = 1 ∨ m2 = N) :
    Calls Try.prog 88 #[.agg #[.bool c, .slice (some a1) n1 c1, .slice (some a2) n2 c2], .slice (some ⟨ga, 0, none⟩) N ca, .slice (some ⟨gb, 0, none⟩) nb cb, .agg #[.bool d, .slice (some b1) m1 d1, .slice (some b2) m2 d2]] w (GivesRow w (intoA c d sh dt sh' dt' zs wh N)) := by
  have hs2 := h2.small
  have hs3 := k1.small
  have hs4 := k2.small
  have hsz := hz.small
  have hs1 := h1.small
  have H1 := hide h1
  have H2 := hide h2
  have K1 := hide k1
  have K2 := hide k2
  have HW := hide hw
  have HZ := hide hz
  have HWB := hide hwb
  have HCN := hide hcnt
  have hl3 := hide k1.len
  have hl4 := hide k2.len
  have hlz := hide hz.len
  clear h1 h2 k1 k2 hw hz hwb hcnt
  obtain ⟨W, hW⟩ : ∃ W, W = (((w.alloc (.cells #[.bool c, .slice (some a1) n1 c1, .slice (some a2) n2 c2] 26)).alloc (.cells #[.bool d, .slice (some b1) m1 d1, .slice (some b2) m2 d2] 26)).alloc (.cells #[.bool false, .slice none 0 0, .slice none 0 0] 26)) := ⟨_, rfl⟩
  have hzW : W.heap.size = w.heap.size + 3 := by rw [hW]; simp
  have hBX := boxes3 (w := w) (c := c) (d := d) (v1 := .slice (some a1) n1 c1) (v2 := .slice (some a2) n2 c2) (u1 := .slice (some b1) m1 d1) (u2 := .slice (some b2) m2 d2) (Below.refl _ _)
  rw [← hW] at hBX
  obtain ⟨B4, B5, B6, hB⟩ := hBX
  have C4 := hide B4
  have C5 := hide B5
  have C6 := hide B6
  have HB := hide hB
  clear B4 B5 B6 hB
  go_enter Try.func88, Try.ntmps88
  go_upto_region 1 with fail
  rw [← hW]
  obtain ⟨x0, x1, x2, x3, x4, x5, x6⟩ := (unhide C4).all
  obtain ⟨y0, y1, y2, y3, y4, y5, y6⟩ := (unhide C5).all
  clear hW
  by_cases hm1 : m2 = 1
  · have HF : Hid (fitC zs sh' dt' = 0) := fit_one (by rw [unhide hl4]; exact hm1)
    have hq0 : ((m2 : Int) != 1) = false := by simp [hm1]
    clear hm1
    have HV : Hid (Below W.heap.size W W) := Below.refl _ _
    obtain ⟨V, hV⟩ : ∃ V, V = W := ⟨_, rfl⟩
    rw [← hV] at HV x0 x1 x2 x3 x4 x5 x6 y0 y1 y2 y3 y4 y5 y6
    rw [← hV]
    have HV' : Hid (Below W.heap.size W V) := by rw [hV]; exact Below.refl _ _
    clear HV hV
    have HV := HV'
    clear HV'
    by_cases hcd : c = d
    case neg =>
      have HS : Hid (intoA c d sh dt sh' dt' zs wh N = noAns 3) := into_dom (unhide HF) hcd
      have hq : (c == d) = false := by simp [hcd]
      clear hcd
      go_wp2_with fail
      refine (l4None_any _).mono ?_
      rintro e w9 ⟨rfl, hb9⟩
      have hb8 := (unhide HV).trans (hb9.mono (unhide HV).size)
      obtain ⟨q0, q1, q2, q3, q4, q5, q6⟩ := ((unhide C6).below (Nat.le_refl _) hb8).all
      have hB9 := hide ((unhide HB).trans (hb8.mono (unhide HB).size))
      clear hb8 hb9 x0 x1 x2 x3 x4 x5 x6 y0 y1 y2 y3 y4 y5 y6
      go_wp2
      refine bodyPost_ret (v := .tuple #[.agg #[.bool false, .slice none 0 0, .slice none 0 0], .int .i64 3]) (by simp [results, Try.results88, go_sem, q0, q1, q2]) rfl ?_
      rw [unhide HS]
      exact ⟨none, 0, 0, none, 0, 0, rfl, row_nil _ _, row_nil _ _, (((unhide hB9).setCell (by simp <;> omega) _).setCell (by simp <;> omega) _).setCell (by simp <;> omega) _⟩
    subst hcd
    have hq : (c == c) = true := by simp
    have HGO : Hid (intoA c c sh dt sh' dt' zs wh N = ⟨c, sh, intoN dt dt' wh N, 0⟩) := into_go (unhide HF) rfl
    have hm := unhide HCN (unhide HF)
    clear HF HCN
    have HBV := hide ((unhide HB).trans ((unhide HV).mono (unhide HB).size))
    have hcall := l3Copy_owns c a1 a2 n1 n2 c1 c2 sh dt V ((unhide H1).below (Nat.le_refl _) (unhide HBV)) ((unhide H2).below (Nat.le_refl _) (unhide HBV))
    go_wp2_with fail
    refine hcall.mono ?_
    rintro e Q ⟨s1, f1, s2, f2, rfl, ho, hr2, hap, hb2⟩
    have HO := hide ho
    have HAP := hide hap
    have HR2 := hide hr2
    have HQ := hide hb2
    clear ho hr2 hap hb2
    go_upto_region 8 with fail
    clear hcall x0 x1 x2 x3 x4 x5 x6 y0 y1 y2 y3 y4 y5 y6
    obtain ⟨X, hX⟩ : ∃ X, X = Q.alloc (.cells #[.bool c, .slice s1 n1 f1, .slice s2 n2 f2] 26) := ⟨_, rfl⟩
    have hvw := (unhide HV).size
    have hqv := (unhide HQ).size
    have HQX : Hid (Below Q.heap.size Q X) := by rw [hX]; exact (Below.refl _ _).alloc (Nat.le_refl _) _
    have D7 : Hid (Box X Q.heap.size c (.slice s1 n1 f1) (.slice s2 n2 f2)) := by rw [hX]; exact Box.new _ _ _ _
    have HWQ := hide ((unhide HV).trans ((unhide HQ).mono hvw))
    have HWX := hide ((unhide HWQ).trans ((unhide HQX).mono (unhide HWQ).size))
    have HOS : Hid (Own X V.heap.size s1 n1 sh) := by
      obtain ⟨s1', f1', e1, h⟩ := Own.of_owns (unhide HO) hs1
      cases e1
      exact (h.mono (by omega)).below (Nat.le_refl _) (unhide HQX)
    have HOD : Hid (IntoS X V.heap.size s2 n2 dt X) := ⟨(unhide HR2).below (Nat.le_refl _) (unhide HQX), But.refl _ _⟩
    have HLQ : Hid (∀ k, At s2 n2 k → V.heap.size ≤ k ∧ k < Q.heap.size) := fun k hk => ⟨(unhide HR2).low hk, (unhide HR2).row.hi hk⟩
    have HAP2 : Hid (∀ k, At s2 n2 k → ¬ At s1 n1 k) := fun k hk hk' => unhide HAP k hk (own_apart hk')
    rw [← hX]
    clear hX HO HR2 HAP HQ HQX
    go_wp2_with fail
    go_loopw [11] (fun i wr => ∃ k : Nat, k ≤ N ∧ i = .int .i64 k ∧ Hid (IntoS X V.heap.size s2 n2 (intoN dt dt' wh k) wr)) (fun i _ => N - (intOf i).toNat)
    case atStart => exact ⟨0, Nat.zero_le _, rfl, HOD⟩
    case round =>
      obtain ⟨k, hk, rfl, HI⟩ := hrel
      clear HOD
      have hbut := (unhide HI).but
      have HBL : Hid (Below W.heap.size W wr) := (unhide HWX).trans (hbut.below (unhide HWX).size (fun k hk => by have := unhide HLQ k hk; omega))
      have hpX := (unhide D7).lt
      have HD7 : Hid (Box wr Q.heap.size c (.slice s1 n1 f1) (.slice s2 n2 f2)) := (unhide D7).but hbut (fun hk => by have := unhide HLQ _ hk; omega)
      by_cases hlt : k < N
      · have hwk := unhide HWB k hlt
        obtain ⟨J, hJ⟩ : ∃ J : Nat, wh k = J := ⟨(wh k).toNat, by omega⟩
        rw [hJ] at hwk
        have hJl : J < n2 := by omega
        have hm0 : 0 < m2 := by omega
        obtain ⟨r, hr⟩ : ∃ r, k % m2 = r := ⟨_, rfl⟩
        have hrl : r < m2 := by rw [← hr]; exact Nat.mod_lt _ hm0
        have hq1 : (k : Int).tmod (m2 : Int) = (r : Int) := by rw [Int.tmod_eq_emod_of_nonneg (by omega), ← hr]; rfl
        have hq2 : (k : Int) % (m2 : Int) = (r : Int) := by rw [← hr]; rfl
        have g0' : ((m2 : Int) == 0) = false := by simp; omega
        have HBW := (unhide HB).trans ((unhide HBL).mono (unhide HB).size)
        obtain ⟨bb, ob, hab, hblt, hcx⟩ := ((unhide K2).below (Nat.le_refl _) HBW).get hrl
        cases hab
        obtain ⟨x, hx⟩ : ∃ x, x = dt'.getD r 0 := ⟨_, rfl⟩
        rw [← hx] at hcx
        obtain ⟨ga', oa', hga, hglt, hcw⟩ := ((unhide HW).below (Nat.le_refl _) HBW).get hlt
        cases hga
        rw [map_range_get _ _ _ hlt, hJ, Nat.zero_add] at hcw
        have HSTEP : Hid ((intoN dt dt' wh k).set J x = intoN dt dt' wh (k + 1)) := into_step hJ (by rw [unhide hl4, hr]) hx
        have hown := (unhide HI).own
        obtain ⟨g, off, rfl, hgl, hgl2, hcg, hfg⟩ : ∃ g off, s2 = some ⟨g, off, none⟩ ∧ V.heap.size ≤ g ∧ g < wr.heap.size ∧ (∀ i, i < n2 → wr.cell? ⟨g, off + i, none⟩ = some (.int .i64 ((intoN dt dt' wh k).getD i 0))) ∧ (∀ i, i < n2 → wr.frozen? ⟨g, off + i, none⟩ = false) := by
          rcases hown.at_ with h0 | h0
          · omega
          · exact h0
        have hcJ := hcg J hJl
        have hfJ := hfg J hJl
        have HN2 : Hid (IntoS X V.heap.size (some ⟨g, off, none⟩) n2 (intoN dt dt' wh (k + 1)) (wr.setCell ⟨g, off + J, none⟩ (.int .i64 x))) := by
          refine ⟨?_, hbut.setCell (at_self (by omega)) _⟩
          rw [← unhide HSTEP]
          exact hown.set hJl x
        obtain ⟨v0, v1, v2, v3, v4, v5, v6⟩ := (unhide HD7).all
        obtain ⟨y0, y1, y2, y3, y4, y5, y6⟩ := ((unhide C5).below (Nat.le_refl _) (unhide HBL)).all
        clear hwk hr hx hJ hcg hfg hown hbut HBW hglt hblt hgl hgl2 HI HSTEP
        go_wp2_with fail
        go_region
        all_goals go_wp2_with fail
        all_goals (go_roundw; (case rel => exact ⟨k + 1, by omega, by go_num, (unhide HN2).own.below (Nat.le_refl _) (Below.refl _ _).drew, (unhide HN2).but.drew⟩); (case measure => simp [intOf]; omega))
      · obtain rfl : k = N := by omega
        have HOE : Hid (Own wr V.heap.size s1 n1 sh) := hbut.own (unhide HOS) (fun k hk => unhide HAP2 k hk)
        have HDE := hide (unhide HI).own
        have Z6 := hide ((unhide C6).below (Nat.le_refl _) (unhide HBL))
        have HB6 := hide ((unhide HB).trans ((unhide HBL).mono (unhide HB).size))
        obtain ⟨v0, v1, v2, v3, v4, v5, v6⟩ := (unhide HD7).all
        obtain ⟨q0, q1, q2, q3, q4, q5, q6⟩ := (unhide Z6).all
        clear hbut HI hlt
        go_wp2
        have hx := (unhide Z6).sets (c' := c) (u1 := .slice s1 n1 f1) (u2 := .slice s2 n2 f2)
        obtain ⟨r0, r1, r2, _, _, _⟩ := hx.all
        refine bodyPost_ret (v := .tuple #[.agg #[.bool c, .slice s1 n1 f1, .slice s2 n2 f2], .int .i64 0]) (by simp [results, Try.results88, go_sem, r0, r1, r2]) rfl ?_
        rw [unhide HGO]
        exact ⟨_, _, _, _, _, _, rfl, (unhide HOE).row.sets (unhide Z6) _ _ _, (unhide HDE).row.sets (unhide Z6) _ _ _, (((unhide HB6).setCell (by simp <;> omega) _).setCell (by simp <;> omega) _).setCell (by simp <;> omega) _⟩
  have hq0 : ((m2 : Int) != 1) = true := by simp; omega
  by_cases hr : m1 = nb
  case neg =>
    have HS : Hid (intoA c d sh dt sh' dt' zs wh N = noAns 4) := into_fit (fit_rank (by rw [unhide hl4]; exact hm1) (by rw [unhide hl3, unhide hlz]; exact hr)) (by decide)
    have hqr : ((m1 : Int) != (nb : Int)) = true := by simp; omega
    clear hr hm1
    go_wp2_with fail
    refine (l4None_any _).mono ?_
    rintro e w9 ⟨rfl, hb9⟩
    have hb8 := hb9
    obtain ⟨q0, q1, q2, q3, q4, q5, q6⟩ := ((unhide C6).below (Nat.le_refl _) hb8).all
    have hB9 := hide ((unhide HB).trans (hb8.mono (unhide HB).size))
    clear hb8 hb9 x0 x1 x2 x3 x4 x5 x6 y0 y1 y2 y3 y4 y5 y6
    go_wp2
    refine bodyPost_ret (v := .tuple #[.agg #[.bool false, .slice none 0 0, .slice none 0 0], .int .i64 4]) (by simp [results, Try.results88, go_sem, q0, q1, q2]) rfl ?_
    rw [unhide HS]
    exact ⟨none, 0, 0, none, 0, 0, rfl, row_nil _ _, row_nil _ _, (((unhide hB9).setCell (by simp <;> omega) _).setCell (by simp <;> omega) _).setCell (by simp <;> omega) _⟩
  subst hr
  have hqr : ((m1 : Int) != (m1 : Int)) = false := by simp
  obtain ⟨rs, hrs⟩ : ∃ r, decide (sh' = zs) = r := ⟨_, rfl⟩
  have HRS := hide hrs
  clear hrs
  go_wp2_with fail
  refine (l3Same_eq _ _ _ _ _ _ sh' zs _ (by exact (unhide K1).below (Nat.le_refl _) (unhide HB)) (by exact (unhide HZ).below (Nat.le_refl _) (unhide HB)) rs HRS).mono ?_
  rintro e V ⟨rfl, qn, hV⟩
  have HV : Hid (Below W.heap.size W V) := by rw [hV]; exact Below.drewN (Below.refl _ _) _
  clear hV x0 x1 x2 x3 x4 x5 x6 y0 y1 y2 y3 y4 y5 y6
  obtain ⟨x0, x1, x2, x3, x4, x5, x6⟩ := ((unhide C4).below (Nat.le_refl _) (unhide HV)).all
  obtain ⟨y0, y1, y2, y3, y4, y5, y6⟩ := ((unhide C5).below (Nat.le_refl _) (unhide HV)).all
  cases rs with
  | false =>
    have HS : Hid (intoA c d sh dt sh' dt' zs wh N = noAns 5) := into_fit (fit_len (by rw [unhide hl4]; exact hm1) (by rw [unhide hl3, unhide hlz]) (of_decide_eq_false (unhide HRS))) (by decide)
    clear hm1
    go_wp2_with fail
    refine (l4None_any _).mono ?_
    rintro e w9 ⟨rfl, hb9⟩
    have hb8 := (unhide HV).trans (hb9.mono (unhide HV).size)
    obtain ⟨q0, q1, q2, q3, q4, q5, q6⟩ := ((unhide C6).below (Nat.le_refl _) hb8).all
    have hB9 := hide ((unhide HB).trans (hb8.mono (unhide HB).size))
    clear hb8 hb9 x0 x1 x2 x3 x4 x5 x6 y0 y1 y2 y3 y4 y5 y6
    go_wp2
    refine bodyPost_ret (v := .tuple #[.agg #[.bool false, .slice none 0 0, .slice none 0 0], .int .i64 5]) (by simp [results, Try.results88, go_sem, q0, q1, q2]) rfl ?_
    rw [unhide HS]
    exact ⟨none, 0, 0, none, 0, 0, rfl, row_nil _ _, row_nil _ _, (((unhide hB9).setCell (by simp <;> omega) _).setCell (by simp <;> omega) _).setCell (by simp <;> omega) _⟩
  | true =>
    have HF : Hid (fitC zs sh' dt' = 0) := fit_same (of_decide_eq_true (unhide HRS))
    by_cases hcd : c = d
    case neg =>
      have HS : Hid (intoA c d sh dt sh' dt' zs wh N = noAns 3) := into_dom (unhide HF) hcd
      have hq : (c == d) = false := by simp [hcd]
      clear hcd
      go_wp2_with fail
      refine (l4None_any _).mono ?_
      rintro e w9 ⟨rfl, hb9⟩
      have hb8 := (unhide HV).trans (hb9.mono (unhide HV).size)
      obtain ⟨q0, q1, q2, q3, q4, q5, q6⟩ := ((unhide C6).below (Nat.le_refl _) hb8).all
      have hB9 := hide ((unhide HB).trans (hb8.mono (unhide HB).size))
      clear hb8 hb9 x0 x1 x2 x3 x4 x5 x6 y0 y1 y2 y3 y4 y5 y6
      go_wp2
      refine bodyPost_ret (v := .tuple #[.agg #[.bool false, .slice none 0 0, .slice none 0 0], .int .i64 3]) (by simp [results, Try.results88, go_sem, q0, q1, q2]) rfl ?_
      rw [unhide HS]
      exact ⟨none, 0, 0, none, 0, 0, rfl, row_nil _ _, row_nil _ _, (((unhide hB9).setCell (by simp <;> omega) _).setCell (by simp <;> omega) _).setCell (by simp <;> omega) _⟩
    subst hcd
    have hq : (c == c) = true := by simp
    have HGO : Hid (intoA c c sh dt sh' dt' zs wh N = ⟨c, sh, intoN dt dt' wh N, 0⟩) := into_go (unhide HF) rfl
    have hm := unhide HCN (unhide HF)
    clear HF HCN
    have HBV := hide ((unhide HB).trans ((unhide HV).mono (unhide HB).size))
    have hcall := l3Copy_owns c a1 a2 n1 n2 c1 c2 sh dt V ((unhide H1).below (Nat.le_refl _) (unhide HBV)) ((unhide H2).below (Nat.le_refl _) (unhide HBV))
    go_wp2_with fail
    refine hcall.mono ?_
    rintro e Q ⟨s1, f1, s2, f2, rfl, ho, hr2, hap, hb2⟩
    have HO := hide ho
    have HAP := hide hap
    have HR2 := hide hr2
    have HQ := hide hb2
    clear ho hr2 hap hb2
    go_upto_region 8 with fail
    clear hcall x0 x1 x2 x3 x4 x5 x6 y0 y1 y2 y3 y4 y5 y6
    obtain ⟨X, hX⟩ : ∃ X, X = Q.alloc (.cells #[.bool c, .slice s1 n1 f1, .slice s2 n2 f2] 26) := ⟨_, rfl⟩
    have hvw := (unhide HV).size
    have hqv := (unhide HQ).size
    have HQX : Hid (Below Q.heap.size Q X) := by rw [hX]; exact (Below.refl _ _).alloc (Nat.le_refl _) _
    have D7 : Hid (Box X Q.heap.size c (.slice s1 n1 f1) (.slice s2 n2 f2)) := by rw [hX]; exact Box.new _ _ _ _
    have HWQ := hide ((unhide HV).trans ((unhide HQ).mono hvw))
    have HWX := hide ((unhide HWQ).trans ((unhide HQX).mono (unhide HWQ).size))
    have HOS : Hid (Own X V.heap.size s1 n1 sh) := by
      obtain ⟨s1', f1', e1, h⟩ := Own.of_owns (unhide HO) hs1
      cases e1
      exact (h.mono (by omega)).below (Nat.le_refl _) (unhide HQX)
    have HOD : Hid (IntoS X V.heap.size s2 n2 dt X) := ⟨(unhide HR2).below (Nat.le_refl _) (unhide HQX), But.refl _ _⟩
    have HLQ : Hid (∀ k, At s2 n2 k → V.heap.size ≤ k ∧ k < Q.heap.size) := fun k hk => ⟨(unhide HR2).low hk, (unhide HR2).row.hi hk⟩
    have HAP2 : Hid (∀ k, At s2 n2 k → ¬ At s1 n1 k) := fun k hk hk' => unhide HAP k hk (own_apart hk')
    rw [← hX]
    clear hX HO HR2 HAP HQ HQX
    go_wp2_with fail
    go_loopw [11] (fun i wr => ∃ k : Nat, k ≤ N ∧ i = .int .i64 k ∧ Hid (IntoS X V.heap.size s2 n2 (intoN dt dt' wh k) wr)) (fun i _ => N - (intOf i).toNat)
    case atStart => exact ⟨0, Nat.zero_le _, rfl, HOD⟩
    case round =>
      obtain ⟨k, hk, rfl, HI⟩ := hrel
      clear HOD
      have hbut := (unhide HI).but
      have HBL : Hid (Below W.heap.size W wr) := (unhide HWX).trans (hbut.below (unhide HWX).size (fun k hk => by have := unhide HLQ k hk; omega))
      have hpX := (unhide D7).lt
      have HD7 : Hid (Box wr Q.heap.size c (.slice s1 n1 f1) (.slice s2 n2 f2)) := (unhide D7).but hbut (fun hk => by have := unhide HLQ _ hk; omega)
      by_cases hlt : k < N
      · have hwk := unhide HWB k hlt
        obtain ⟨J, hJ⟩ : ∃ J : Nat, wh k = J := ⟨(wh k).toNat, by omega⟩
        rw [hJ] at hwk
        have hJl : J < n2 := by omega
        have hm0 : 0 < m2 := by omega
        obtain ⟨r, hr⟩ : ∃ r, k % m2 = r := ⟨_, rfl⟩
        have hrl : r < m2 := by rw [← hr]; exact Nat.mod_lt _ hm0
        have hq1 : (k : Int).tmod (m2 : Int) = (r : Int) := by rw [Int.tmod_eq_emod_of_nonneg (by omega), ← hr]; rfl
        have hq2 : (k : Int) % (m2 : Int) = (r : Int) := by rw [← hr]; rfl
        have g0' : ((m2 : Int) == 0) = false := by simp; omega
        have HBW := (unhide HB).trans ((unhide HBL).mono (unhide HB).size)
        obtain ⟨bb, ob, hab, hblt, hcx⟩ := ((unhide K2).below (Nat.le_refl _) HBW).get hrl
        cases hab
        obtain ⟨x, hx⟩ : ∃ x, x = dt'.getD r 0 := ⟨_, rfl⟩
        rw [← hx] at hcx
        obtain ⟨ga', oa', hga, hglt, hcw⟩ := ((unhide HW).below (Nat.le_refl _) HBW).get hlt
        cases hga
        rw [map_range_get _ _ _ hlt, hJ, Nat.zero_add] at hcw
        have HSTEP : Hid ((intoN dt dt' wh k).set J x = intoN dt dt' wh (k + 1)) := into_step hJ (by rw [unhide hl4, hr]) hx
        have hown := (unhide HI).own
        obtain ⟨g, off, rfl, hgl, hgl2, hcg, hfg⟩ : ∃ g off, s2 = some ⟨g, off, none⟩ ∧ V.heap.size ≤ g ∧ g < wr.heap.size ∧ (∀ i, i < n2 → wr.cell? ⟨g, off + i, none⟩ = some (.int .i64 ((intoN dt dt' wh k).getD i 0))) ∧ (∀ i, i < n2 → wr.frozen? ⟨g, off + i, none⟩ = false) := by
          rcases hown.at_ with h0 | h0
          · omega
          · exact h0
        have hcJ := hcg J hJl
        have hfJ := hfg J hJl
        have HN2 : Hid (IntoS X V.heap.size (some ⟨g, off, none⟩) n2 (intoN dt dt' wh (k + 1)) (wr.setCell ⟨g, off + J, none⟩ (.int .i64 x))) := by
          refine ⟨?_, hbut.setCell (at_self (by omega)) _⟩
          rw [← unhide HSTEP]
          exact hown.set hJl x
        obtain ⟨v0, v1, v2, v3, v4, v5, v6⟩ := (unhide HD7).all
        obtain ⟨y0, y1, y2, y3, y4, y5, y6⟩ := ((unhide C5).below (Nat.le_refl _) (unhide HBL)).all
        clear hwk hr hx hJ hcg hfg hown hbut HBW hglt hblt hgl hgl2 HI HSTEP
        go_wp2_with fail
        go_region
        all_goals go_wp2_with fail
        all_goals (go_roundw; (case rel => exact ⟨k + 1, by omega, by go_num, (unhide HN2).own.below (Nat.le_refl _) (Below.refl _ _).drew, (unhide HN2).but.drew⟩); (case measure => simp [intOf]; omega))
      · obtain rfl : k = N := by omega
        have HOE : Hid (Own wr V.heap.size s1 n1 sh) := hbut.own (unhide HOS) (fun k hk => unhide HAP2 k hk)
        have HDE := hide (unhide HI).own
        have Z6 := hide ((unhide C6).below (Nat.le_refl _) (unhide HBL))
        have HB6 := hide ((unhide HB).trans ((unhide HBL).mono (unhide HB).size))
        obtain ⟨v0, v1, v2, v3, v4, v5, v6⟩ := (unhide HD7).all
        obtain ⟨q0, q1, q2, q3, q4, q5, q6⟩ := (unhide Z6).all
        clear hbut HI hlt
        go_wp2
        have hx := (unhide Z6).sets (c' := c) (u1 := .slice s1 n1 f1) (u2 := .slice s2 n2 f2)
        obtain ⟨r0, r1, r2, _, _, _⟩ := hx.all
        refine bodyPost_ret (v := .tuple #[.agg #[.bool c, .slice s1 n1 f1, .slice s2 n2 f2], .int .i64 0]) (by simp [results, Try.results88, go_sem, r0, r1, r2]) rfl ?_
        rw [unhide HGO]
        exact ⟨_, _, _, _, _, _, rfl, (unhide HOE).row.sets (unhide Z6) _ _ _, (unhide HDE).row.sets (unhide Z6) _ _ _, (((unhide HB6).setCell (by simp <;> omega) _).setCell (by simp <;> omega) _).setCell (by simp <;> omega) _⟩

end Go.Proofs.Ytngbmcljhcckmaa
namespace Go.Proofs.Ytngbmcljhcckmaa
open Go.RowKit

set_option maxRecDepth 20000 in
set_option maxHeartbeats 8000000 in
theorem Replace_any (c d : Bool) (a1 a2 b1 b2 : Addr) (ap : Option Addr) (n1 n2 c1 c2 np cp m1 m2 d1 d2 : Nat) (sh dt : List Int) (ps : List PartD) (sh' dt' : List Int) (w : World) (h1 : Row w (some a1) n1 sh) (h2 : Row w (some a2) n2 dt) (hp : PRowN w ap np ps) (k1 : Row w (some b1) m1 sh') (k2 : Row w (some b2) m2 dt') :
    Calls Try.prog 32 #[.agg #[.bool c, .slice (some a1) n1 c1, .slice (some a2) n2 c2], .slice ap np cp, .agg #[.bool d, .slice (some b1) m1 d1, .slice (some b2) m2 d2]] w (GivesRow w (replaceA c sh dt ps d sh' dt')) := by
  have hl1 := hide h1.len
  have hl2 := hide h2.len
  have H1 := hide h1
  have H2 := hide h2
  have K1 := hide k1
  have K2 := hide k2
  have hl4 := hide k2.len
  have HP := hide hp
  clear h1 h2 hp k1 k2
  obtain ⟨r1, hr1⟩ : ∃ r, arrOk c sh dt = r := ⟨_, rfl⟩
  have HR1 := hide hr1
  obtain ⟨r2, hr2⟩ : ∃ r, arrOk d sh' dt' = r := ⟨_, rfl⟩
  have HR2 := hide hr2
  clear hr1 hr2
  go_enter Try.func32, Try.ntmps32
  go_wp2_with fail
  refine (ArrayOk_eq _ _ _ _ _ _ _ sh dt _ ((((unhide H1).alloc _).alloc _).alloc _) ((((unhide H2).alloc _).alloc _).alloc _) _ HR1).mono ?_
  rintro e V ⟨rfl, hb1⟩
  obtain ⟨B4, B5, B6, hB1⟩ := boxes3 hb1
  have C4 := hide B4
  have C5 := hide B5
  have C6 := hide B6
  have HB := hide hB1
  clear hb1 B4 B5 B6 hB1
  obtain ⟨x0, x1, x2, x3, x4, x5, x6⟩ := (unhide C4).all
  obtain ⟨y0, y1, y2, y3, y4, y5, y6⟩ := (unhide C5).all
  cases r1 with
  | false =>
    have HS : Hid (replaceA c sh dt ps d sh' dt' = noAns 3) := repl_bad1 (unhide HR1)
    go_wp2_with fail
    refine (l4None_any _).mono ?_
    rintro e w9 ⟨rfl, hb9⟩
    obtain ⟨q0, q1, q2, q3, q4, q5, q6⟩ := ((unhide C6).below (Nat.le_refl _) hb9).all
    have hB9 := hide ((unhide HB).trans (hb9.mono (unhide HB).size))
    clear hb9 x0 x1 x2 x3 x4 x5 x6 y0 y1 y2 y3 y4 y5 y6
    go_wp2
    refine bodyPost_ret (v := .tuple #[.agg #[.bool false, .slice none 0 0, .slice none 0 0], .int .i64 3]) (by simp [results, Try.results32, go_sem, q0, q1, q2]) rfl ?_
    rw [unhide HS]
    exact ⟨none, 0, 0, none, 0, 0, rfl, row_nil _ _, row_nil _ _, (((unhide hB9).setCell (by simp <;> omega) _).setCell (by simp <;> omega) _).setCell (by simp <;> omega) _⟩
  | true =>
    go_wp2_with fail
    refine (ArrayOk_eq _ _ _ _ _ _ _ sh' dt' _ (by exact (unhide K1).below (Nat.le_refl _) (unhide HB)) (by exact (unhide K2).below (Nat.le_refl _) (unhide HB)) _ HR2).mono ?_
    rintro e Y ⟨rfl, hbY⟩
    replace C4 := hide ((unhide C4).below (Nat.le_refl _) hbY)
    replace C5 := hide ((unhide C5).below (Nat.le_refl _) hbY)
    replace C6 := hide ((unhide C6).below (Nat.le_refl _) hbY)
    replace HB := hide ((unhide HB).trans (hbY.mono (unhide HB).size))
    clear hbY x0 x1 x2 x3 x4 x5 x6 y0 y1 y2 y3 y4 y5 y6
    clear V
    obtain ⟨x0, x1, x2, x3, x4, x5, x6⟩ := (unhide C4).all
    obtain ⟨y0, y1, y2, y3, y4, y5, y6⟩ := (unhide C5).all
    cases r2 with
    | false =>
      have HS : Hid (replaceA c sh dt ps d sh' dt' = noAns 3) := repl_bad2 (unhide HR2)
      go_wp2_with fail
      refine (l4None_any _).mono ?_
      rintro e w9 ⟨rfl, hb9⟩
      obtain ⟨q0, q1, q2, q3, q4, q5, q6⟩ := ((unhide C6).below (Nat.le_refl _) hb9).all
      have hB9 := hide ((unhide HB).trans (hb9.mono (unhide HB).size))
      clear hb9 x0 x1 x2 x3 x4 x5 x6 y0 y1 y2 y3 y4 y5 y6
      go_wp2
      refine bodyPost_ret (v := .tuple #[.agg #[.bool false, .slice none 0 0, .slice none 0 0], .int .i64 3]) (by simp [results, Try.results32, go_sem, q0, q1, q2]) rfl ?_
      rw [unhide HS]
      exact ⟨none, 0, 0, none, 0, 0, rfl, row_nil _ _, row_nil _ _, (((unhide hB9).setCell (by simp <;> omega) _).setCell (by simp <;> omega) _).setCell (by simp <;> omega) _⟩
    | true =>
      obtain ⟨code, hcode⟩ : ∃ x, partsCode sh ps = x := ⟨_, rfl⟩
      have HCODE := hide hcode
      obtain ⟨hsi, hpd, h5'⟩ := shapeIn_of (unhide HR1)
      have h5 : n1 ≤ 5 := by rw [← unhide hl1]; exact h5'
      obtain ⟨N, hN⟩ : ∃ N : Nat, code = 0 → prodAll (pSh sh ps) = (N : Int) := ⟨(prodAll (pSh sh ps)).toNat, fun h0 => by
        obtain ⟨ho, hb⟩ := parts_ok (by rw [hcode]; exact h0)
        have := (counts_in ho hsi hb).2.2
        omega⟩
      have HN := hide hN
      have HSI := hide hsi
      have HPD : Hid (prodAll sh = (n2 : Int)) := hpd.trans (by rw [unhide hl2])
      clear hcode hN hsi hpd h5'
      go_wp2_with fail
      refine (l5Where_any _ _ _ _ _ _ _ _ _ _ sh ps _ (by exact (unhide H1).below (Nat.le_refl _) (unhide HB)) (by exact (unhide HP).below (Nat.le_refl _) (unhide HB)) (unhide HSI) h5 code HCODE N (unhide HN)).mono ?_
      rintro e Q ⟨v, u, rfl, hbQ, hpl⟩
      have HPL := hide hpl
      clear hpl
      replace C4 := hide ((unhide C4).below (Nat.le_refl _) hbQ)
      replace C5 := hide ((unhide C5).below (Nat.le_refl _) hbQ)
      replace C6 := hide ((unhide C6).below (Nat.le_refl _) hbQ)
      replace HB := hide ((unhide HB).trans (hbQ.mono (unhide HB).size))
      clear hbQ x0 x1 x2 x3 x4 x5 x6 y0 y1 y2 y3 y4 y5 y6
      clear Y
      obtain ⟨x0, x1, x2, x3, x4, x5, x6⟩ := (unhide C4).all
      obtain ⟨y0, y1, y2, y3, y4, y5, y6⟩ := (unhide C5).all
      by_cases hc0 : code = 0
      case neg =>
        have HS : Hid (replaceA c sh dt ps d sh' dt' = noAns code) := repl_code (unhide HR1) (unhide HR2) code (unhide HCODE) hc0
        have hcb : (code != 0) = true := by simp [hc0]
        clear hc0 HPL HN
        go_wp2_with fail
        refine (l4None_any _).mono ?_
        rintro e w9 ⟨rfl, hb9⟩
        obtain ⟨q0, q1, q2, q3, q4, q5, q6⟩ := ((unhide C6).below (Nat.le_refl _) hb9).all
        have hB9 := hide ((unhide HB).trans (hb9.mono (unhide HB).size))
        clear hb9 x0 x1 x2 x3 x4 x5 x6 y0 y1 y2 y3 y4 y5 y6
        go_wp2
        refine bodyPost_ret (v := .tuple #[.agg #[.bool false, .slice none 0 0, .slice none 0 0], .int .i64 code]) (by simp [results, Try.results32, go_sem, q0, q1, q2]) rfl ?_
        rw [unhide HS]
        exact ⟨none, 0, 0, none, 0, 0, rfl, row_nil _ _, row_nil _ _, (((unhide hB9).setCell (by simp <;> omega) _).setCell (by simp <;> omega) _).setCell (by simp <;> omega) _⟩
      subst hc0
      obtain ⟨ga, ca, gb, nb, cb, rfl, rfl, hca, hcb, hra, hrb⟩ := unhide HPL rfl
      have hNv := unhide HN rfl
      obtain ⟨ho, hsb⟩ := parts_ok (unhide HCODE)
      have hNb : N ≤ 10000 := by have := (counts_in ho (unhide HSI) hsb).2.2; omega
      have HGO : Hid (replaceA c sh dt ps d sh' dt' = intoA c d sh dt sh' dt' (pSh sh ps) (whereAt sh ps) N) := repl_into (unhide HR1) (unhide HR2) (unhide HCODE) N hNv
      have HWB : Hid (∀ t, t < N → 0 ≤ whereAt sh ps t ∧ whereAt sh ps t < (n2 : Int)) := fun t ht => by
        have := (where_bd ho (unhide HSI) hsb (t := t) (by rw [hNv]; omega)).2
        rw [unhide HPD] at this
        exact this
      have HCT : Hid (fitC (pSh sh ps) sh' dt' = 0 → m2 = 1 ∨ m2 = N) := fun h => by
        have := fit_count (unhide HR2) h hNv
        rw [unhide hl4] at this
        exact this
      have HRA := hide hra
      have HRB := hide hrb
      clear hra hrb ho hsb hNv HN HPL HCODE HR1 HR2 HPD HSI hca hcb
      go_wp2_with fail
      refine (l5Into_any _ _ _ _ _ _ _ _ _ _ _ _ _ _ _ _ _ _ _ _ sh dt sh' dt' (pSh sh ps) (whereAt sh ps) _ (by exact (unhide H1).below (Nat.le_refl _) (unhide HB)) (by exact (unhide H2).below (Nat.le_refl _) (unhide HB)) (by exact (unhide K1).below (Nat.le_refl _) (unhide HB)) (by exact (unhide K2).below (Nat.le_refl _) (unhide HB)) (by exact unhide HRA) (by exact unhide HRB) (unhide HWB) hNb (unhide HCT)).mono ?_
      rw [← unhide HGO]
      rintro e Z ⟨e1, k1, f1, e2, k2, f2, rfl, hE1, hE2, hbZ⟩
      have HZ6 := hide ((unhide C6).below (Nat.le_refl _) hbZ)
      have HBZ := hide ((unhide HB).trans (hbZ.mono (unhide HB).size))
      have HE1 := hide hE1
      have HE2 := hide hE2
      clear hE1 hE2 hbZ x0 x1 x2 x3 x4 x5 x6 y0 y1 y2 y3 y4 y5 y6
      obtain ⟨q0, q1, q2, q3, q4, q5, q6⟩ := (unhide HZ6).all
      go_wp2
      have hx := (unhide HZ6).sets (c' := (replaceA c sh dt ps d sh' dt').c) (u1 := .slice e1 k1 f1) (u2 := .slice e2 k2 f2)
      obtain ⟨r0, r1, r2, _, _, _⟩ := hx.all
      refine bodyPost_ret (v := .tuple #[.agg #[.bool (replaceA c sh dt ps d sh' dt').c, .slice e1 k1 f1, .slice e2 k2 f2], .int .i64 (replaceA c sh dt ps d sh' dt').code]) (by simp [results, Try.results32, go_sem, r0, r1, r2]) rfl ?_
      exact ⟨_, _, _, _, _, _, rfl, (unhide HE1).sets (unhide HZ6) _ _ _, (unhide HE2).sets (unhide HZ6) _ _ _, (((unhide HBZ).setCell (by simp <;> omega) _).setCell (by simp <;> omega) _).setCell (by simp <;> omega) _⟩

end Go.Proofs.Ytngbmcljhcckmaa
namespace Go.Proofs.Ytngbmcljhcckmaa
open Go.RowKit

/-- What Where gives: the places, where there are any. -/
def WhereGives (w : World) (c : Bool) (sh dt : List Int) (ps : List PartD) (N : Nat) (e : Ending) (w' : World) : Prop :=
  ∃ v b, e = .returned (.tuple #[v, .bool b]) ∧ Below w.heap.size w w' ∧ (arrOk c sh dt = true → partsCode sh ps = 0 → ∃ ga ca, v = .slice (some ⟨ga, 0, none⟩) N ca ∧ Row w' (some ⟨ga, 0, none⟩) N (whereL sh ps N))

set_option maxRecDepth 20000 in
set_option maxHeartbeats 4000000 in
theorem Where_any (c : Bool) (a1 a2 : Addr) (ap : Option Addr) (n1 n2 c1 c2 np cp : Nat) (sh dt : List Int) (ps : List PartD) (w : World) (h1 : Row w (some a1) n1 sh) (h2 : Row w (some a2) n2 dt) (hp : PRowN w ap np ps) (N : Nat) (hN : partsCode sh ps = 0 → prodAll (pSh sh ps) = (N : Int)) :
    Calls Try.prog 33 #[.agg #[.bool c, .slice (some a1) n1 c1, .slice (some a2) n2 c2], .slice ap np cp] w (WhereGives w c sh dt ps N) := by
  have hl1 := hide h1.len
  have H1 := hide h1
  have H2 := hide h2
  have HP := hide hp
  have HNN := hide hN
  clear h1 h2 hp hN
  obtain ⟨r1, hr1⟩ : ∃ r, arrOk c sh dt = r := ⟨_, rfl⟩
  have HR1 := hide hr1
  clear hr1
  have HB0 : Hid (Below w.heap.size w (w.alloc (.cells #[.bool c, .slice (some a1) n1 c1, .slice (some a2) n2 c2] 26))) := (Below.refl _ _).alloc (Nat.le_refl _) _
  go_enter Try.func33, Try.ntmps33
  go_wp2_with fail
  refine (ArrayOk_eq _ _ _ _ _ _ _ sh dt _ ((unhide H1).alloc _) ((unhide H2).alloc _) _ HR1).mono ?_
  rintro e w1 ⟨rfl, hb1⟩
  have HB1 := hide ((unhide HB0).trans (hb1.mono (by simp)))
  have HX := hide ((Box.new w c (.slice (some a1) n1 c1) (.slice (some a2) n2 c2)).below (Nat.le_refl _) hb1)
  clear hb1
  obtain ⟨x0, x1, x2, x3, x4, x5, x6⟩ := (unhide HX).all
  cases r1 with
  | false =>
    go_wp2
    refine bodyPost_ret (v := .tuple #[.slice (some ⟨w1.heap.size, 0, none⟩) 0 0, .bool false]) (by simp [results, Try.results33, go_sem]) rfl ?_
    exact ⟨_, _, rfl, (unhide HB1).alloc (unhide HB1).size _, fun h => by rw [unhide HR1] at h; cases h⟩
  | true =>
    obtain ⟨code, hcode⟩ : ∃ x, partsCode sh ps = x := ⟨_, rfl⟩
    have HCODE := hide hcode
    obtain ⟨hsi, hpd, h5'⟩ := shapeIn_of (unhide HR1)
    have h5 : n1 ≤ 5 := by rw [← unhide hl1]; exact h5'
    have HSI := hide hsi
    have hN : code = 0 → prodAll (pSh sh ps) = (N : Int) := fun h => unhide HNN (by rw [hcode]; exact h)
    have HN := hide hN
    clear hcode hsi hpd h5' hN HNN
    go_wp2_with fail
    refine (l5Where_any _ _ _ _ _ _ _ _ _ _ sh ps _ (by exact (unhide H1).below (Nat.le_refl _) (unhide HB1)) (by exact (unhide HP).below (Nat.le_refl _) (unhide HB1)) (unhide HSI) h5 code HCODE N (unhide HN)).mono ?_
    rintro e Q ⟨v, u, rfl, hbQ, hpl⟩
    have HPL := hide hpl
    have HBQ := hide ((unhide HB1).trans (hbQ.mono (unhide HB1).size))
    clear hbQ hpl x0 x1 x2 x3 x4 x5 x6
    obtain ⟨bq, hbq⟩ : ∃ b : Bool, ((code : Int) == 0) = b := ⟨_, rfl⟩
    go_wp2
    refine bodyPost_ret (v := .tuple #[v, .bool bq]) (by simp [results, Try.results33, go_sem]) rfl ?_
    refine ⟨_, _, rfl, unhide HBQ, fun _ hp0 => ?_⟩
    obtain ⟨ga, ca, gb, nb, cb, rfl, rfl, _, _, hra, _⟩ := unhide HPL (by rw [← unhide HCODE]; exact hp0)
    exact ⟨ga, ca, rfl, hra⟩

end Go.Proofs.Ytngbmcljhcckmaa
