import Derived.Test.YtngbmcljhcckmaaSpecWhere
import Derived.Test.YtngbmcljhcckmaaSpecIdxR
import Derived.Test.YtngbmcljhcckmaaRepStage
import Derived.Test.YtngbmcljhcckmaaSpecGrow
import Derived.Test.YtngbmcljhcckmaaSpecNone
namespace Go.Proofs.Ytngbmcljhcckmaa
open Go.RowKit

/-- An array in box p, its elements so far l; all made behind the world Q. -/
structure GatQ (Q : World) (p : Nat) (c : Bool) (v1 : Value) (l : List Int) (n : Nat) (wr : World) (g cap : Nat) : Prop where
  box : Box wr p c v1 (.slice (some ⟨g, 0, none⟩) n cap)
  owns : wr.ownsRow Q.heap.size 3 1 (.slice (some ⟨g, 0, none⟩) n cap) n (l.map (Value.int .i64))
  low : Below Q.heap.size Q wr
  place : Q.heap.size ≤ p

section
variable {Q w w7 : World} {p g g' cap cap' n : Nat} {c : Bool} {v1 : Value} {l : List Int}

theorem GatQ.grew1 (h : GatQ Q p c v1 l n w g cap) {x : Int} (hg : (w.drew.alloc (.cells #[.int .i64 x] 3)).grownBy w7 (some g)) :
    Box w7 p c v1 (.slice (some ⟨g, 0, none⟩) n cap) ∧ Below Q.heap.size Q w7 := by
  have hb : Below w.heap.size w (w.drew.alloc (.cells #[.int .i64 x] 3)) := (Below.refl _ _).drew.alloc (Nat.le_refl _) _
  have ho := owns_below h.owns (Nat.le_refl _) hb
  exact ⟨(h.box.below (Nat.le_refl _) hb).grown0 ho hg, (h.low.trans (hb.mono h.low.size)).grown hg (by have := h.low.size; simp; omega) (by intro k hk; cases hk; exact owns_ge h.owns)⟩

theorem GatQ.push1 (h : GatQ Q p c v1 l n w g cap) {x : Int} (hown : w7.ownsRow Q.heap.size 3 1 (.slice (some ⟨g', 0, none⟩) (n + 1) cap') (n + 1) (l.map (Value.int .i64) ++ [.int .i64 x]))
    (hg : (w.drew.alloc (.cells #[.int .i64 x] 3)).grownBy w7 (Value.ownBlock (.slice (some ⟨g, 0, none⟩) n cap))) :
    GatQ Q p c v1 (l ++ [x]) (n + 1) (w7.setCell ⟨p, 2, none⟩ (.slice (some ⟨g', 0, none⟩) (n + 1) cap')) g' cap' := by
  obtain ⟨hb, hl⟩ := h.grew1 (x := x) hg
  refine ⟨hb.set2 _, ?_, hl.setCell h.place _, h.place⟩
  rw [List.map_append]
  exact owns_box_set hown hb _ _
end

set_option maxRecDepth 20000 in
set_option maxHeartbeats 8000000 in
theorem Index_any (c : Bool) (a1 a2 : Addr) (ap : Option Addr) (n1 n2 c1 c2 np cp : Nat) (sh dt : List Int) (ps : List PartD) (w : World) (h1 : Row w (some a1) n1 sh) (h2 : Row w (some a2) n2 dt) (hp : PRowN w ap np ps) :
    Calls Try.prog 26 #[.agg #[.bool c, .slice (some a1) n1 c1, .slice (some a2) n2 c2], .slice ap np cp] w (GivesRow w (indexA c sh dt ps)) := by
  have hl1 := hide h1.len
  have hl2 := hide h2.len
  have hs1 := h1.small
  have hs2 := h2.small
  have H1 := hide h1
  have H2 := hide h2
  have HP := hide hp
  clear h1 h2 hp
  obtain ⟨r1, hr1⟩ : ∃ r, arrOk c sh dt = r := ⟨_, rfl⟩
  have HR1 := hide hr1
  clear hr1
  go_enter Try.func26, Try.ntmps26
  go_wp2_with fail
  refine (ArrayOk_eq _ _ _ _ _ _ _ sh dt _ (((unhide H1).alloc _).alloc _) (((unhide H2).alloc _).alloc _) _ HR1).mono ?_
  rintro e w1 ⟨rfl, hb1⟩
  obtain ⟨B4, B6, hB1⟩ := boxes2 hb1
  have hz1 := B6.lt
  clear hb1
  obtain ⟨x0, x1, x2, x3, x4, x5, x6⟩ := B4.all
  cases r1 with
  | false =>
    have HS : Hid (indexA c sh dt ps = noAns 3) := index_bad (unhide HR1)
    go_wp2_with fail
    refine (l4None_any _).mono ?_
    rintro e w9 ⟨rfl, hb9⟩
    obtain ⟨q0, q1, q2, q3, q4, q5, q6⟩ := ((B6).below (Nat.le_refl _) hb9).all
    have hB9 := hide ((hB1).trans (hb9.mono (hB1).size))
    clear hb9 hB1 B4 B6 hz1 x0 x1 x2 x3 x4 x5 x6
    go_wp2
    refine bodyPost_ret (v := .tuple #[.agg #[.bool false, .slice none 0 0, .slice none 0 0], .int .i64 3]) (by simp [results, Try.results26, go_sem, q0, q1, q2]) rfl ?_
    rw [unhide HS]
    exact ⟨none, 0, 0, none, 0, 0, rfl, row_nil _ _, row_nil _ _, (((unhide hB9).setCell (by simp <;> omega) _).setCell (by simp <;> omega) _).setCell (by simp <;> omega) _⟩
  | true =>
    obtain ⟨code, hcode⟩ : ∃ x, partsCode sh ps = x := ⟨_, rfl⟩
    have HCODE := hide hcode
    obtain ⟨hsi, hpd, h5'⟩ := shapeIn_of (unhide HR1)
    have h5 : n1 ≤ 5 := by rw [← unhide hl1]; exact h5'
    obtain ⟨N, hN⟩ : ∃ N : Nat, code = 0 → prodAll (pSh sh ps) = (N : Int) := ⟨(prodAll (pSh sh ps)).toNat, fun h0 => by
      obtain ⟨ho, hb⟩ := parts_ok (by rw [hcode]; exact h0)
      have := (counts_in ho hsi hb).2.2
      omega⟩
    have HN := hide hN
    have HSI := hide hsi
    have HPD : Hid (prodAll sh = (n2 : Int)) := hpd.trans (by rw [unhide hl2])
    clear hcode hN hsi hpd h5'
    go_wp2_with fail
    refine (l5Where_any _ _ _ _ _ _ _ _ _ _ sh ps _ (by exact (unhide H1).below (Nat.le_refl _) hB1) (by exact (unhide HP).below (Nat.le_refl _) hB1) (unhide HSI) h5 code HCODE N (unhide HN)).mono ?_
    rintro e Q ⟨v, u, rfl, hbQ, hpl⟩
    have C4 := hide (B4.below (Nat.le_refl _) hbQ)
    have C6 := hide (B6.below (Nat.le_refl _) hbQ)
    have HBQ := hide (hB1.trans (hbQ.mono hB1.size))
    have HPL := hide hpl
    have hzQ : w.heap.size + 1 < Q.heap.size := by have := (unhide C6).lt; omega
    clear hbQ hpl B4 B6 hB1 hz1 x0 x1 x2 x3 x4 x5 x6
    clear w1
    obtain ⟨x0, x1, x2, x3, x4, x5, x6⟩ := (unhide C4).all
    by_cases hc0 : code = 0
    case neg =>
      have HS : Hid (indexA c sh dt ps = noAns code) := index_code (unhide HR1) code (unhide HCODE) hc0
      have hcb : (code != 0) = true := by simp [hc0]
      clear hc0 HPL HN
      go_wp2_with fail
      refine (l4None_any _).mono ?_
      rintro e w9 ⟨rfl, hb9⟩
      obtain ⟨q0, q1, q2, q3, q4, q5, q6⟩ := ((unhide C6).below (Nat.le_refl _) hb9).all
      have hB9 := hide ((unhide HBQ).trans (hb9.mono (unhide HBQ).size))
      clear hb9 C4 C6 x0 x1 x2 x3 x4 x5 x6
      go_wp2
      refine bodyPost_ret (v := .tuple #[.agg #[.bool false, .slice none 0 0, .slice none 0 0], .int .i64 code]) (by simp [results, Try.results26, go_sem, q0, q1, q2]) rfl ?_
      rw [unhide HS]
      exact ⟨none, 0, 0, none, 0, 0, rfl, row_nil _ _, row_nil _ _, (((unhide hB9).setCell (by simp <;> omega) _).setCell (by simp <;> omega) _).setCell (by simp <;> omega) _⟩
    subst hc0
    obtain ⟨ga, ca, gb, nb, cb, rfl, rfl, hca, hcb, hra, hrb⟩ := unhide HPL rfl
    have hNv := unhide HN rfl
    obtain ⟨ho, hsb⟩ := parts_ok (unhide HCODE)
    have hNb : N ≤ 10000 := by have := (counts_in ho (unhide HSI) hsb).2.2; omega
    have HGO : Hid (indexA c sh dt ps = ⟨c, pSh sh ps, vals (pickedAt dt sh ps) N, 0⟩) := index_go (unhide HR1) (unhide HCODE) N hNv
    have HWB : Hid (∀ t, t < N → 0 ≤ whereAt sh ps t ∧ whereAt sh ps t < (n2 : Int)) := fun t ht => by
      have := (where_bd ho (unhide HSI) hsb (t := t) (by rw [hNv]; omega)).2
      rw [unhide HPD] at this
      exact this
    have HRA := hide hra
    have HRB := hide hrb
    have HQ2 : Hid (Row Q (some a2) n2 dt) := (unhide H2).below (Nat.le_refl _) (unhide HBQ)
    clear hra hrb ho hsb hNv HN HPL HCODE HR1 HPD HSI hca hcb
    go_upto_region 7 with fail
    have HST : Hid (GatQ Q (Q.heap.size + 1) c (.slice (some ⟨gb, 0, none⟩) nb cb) [] 0 ((Q.alloc (.cells #[] 3)).alloc (.cells #[.bool c, .slice (some ⟨gb, 0, none⟩) nb cb, .slice (some ⟨Q.heap.size, 0, none⟩) 0 0] 26)) Q.heap.size 0) := by
      refine ⟨?_, owns_below (owns_empty Q) (Nat.le_refl _) ((Below.refl _ _).alloc (Nat.le_refl _) _), ((Below.refl _ _).alloc (Nat.le_refl _) _).alloc (by simp) _, by omega⟩
      have := Box.new (Q.alloc (.cells #[] 3)) c (.slice (some ⟨gb, 0, none⟩) nb cb) (.slice (some ⟨Q.heap.size, 0, none⟩) 0 0)
      simpa using this
    clear x0 x1 x2 x3 x4 x5 x6
    go_wp2_with fail
    go_loopw [10] (fun i wr => ∃ (k g cap : Nat), k ≤ N ∧ i = .int .i64 k ∧ Hid (GatQ Q (Q.heap.size + 1) c (.slice (some ⟨gb, 0, none⟩) nb cb) (vals (pickedAt dt sh ps) k) k wr g cap)) (fun i _ => N - (intOf i).toNat)
    case atStart => exact ⟨0, _, _, Nat.zero_le _, rfl, unhide HST⟩
    case round =>
      obtain ⟨k, g, cap, hk, rfl, HG⟩ := hrel
      clear HST
      by_cases hlt : k < N
      · have hst := unhide HG
        obtain ⟨ad1, o1, hbo, hb1, hcw⟩ := ((unhide HRA).below (Nat.le_refl _) hst.low).get hlt
        cases hbo
        rw [whereL_get _ _ hlt] at hcw
        have hwb := unhide HWB k hlt
        obtain ⟨J, hJ⟩ : ∃ J : Nat, whereAt sh ps k = J := ⟨(whereAt sh ps k).toNat, by omega⟩
        rw [hJ] at hcw hwb
        have hJl : J < n2 := by omega
        obtain ⟨bd, od, hbd, hb2, hcd⟩ := ((unhide HQ2).below (Nat.le_refl _) hst.low).get hJl
        cases hbd
        obtain ⟨x, hx⟩ : ∃ x, x = dt.getD J 0 := ⟨_, rfl⟩
        rw [← hx] at hcd
        have HSTEP : Hid (vals (pickedAt dt sh ps) (k + 1) = vals (pickedAt dt sh ps) k ++ [x]) := by
          have e : (pickedAt dt sh ps k).1 = x := by unfold pickedAt; rw [hJ, hx]; simp
          show vals _ _ = _
          unfold vals
          rw [List.range_succ, List.map_append]
          simp [e]
        have HSX : ∀ wx, Box wx (Q.heap.size + 1) c (.slice (some ⟨gb, 0, none⟩) nb cb) (.slice (some ⟨g, 0, none⟩) k cap) → Below Q.heap.size Q wx → wx.cell? ⟨Q.heap.size + 1, 2, none⟩ = some (.slice (some ⟨g, 0, none⟩) k cap) ∧ wx.frozen? ⟨Q.heap.size + 1, 2, none⟩ = false ∧ wx.cell? ⟨w.heap.size, 2, none⟩ = some (.slice (some ⟨bd, od, none⟩) n2 c2) ∧ wx.cell? ⟨ga, 0 + k, none⟩ = some (.int .i64 (J : Nat)) ∧ wx.cell? ⟨bd, od + J, none⟩ = some (.int .i64 x) := fun wx hbx hlx => by
          obtain ⟨z0, z1, z2, z3, z4, z5, z6⟩ := hbx.all
          have hgl := (unhide HRA).hi (k := ga) (at_self (by omega))
          have hbl := (unhide HQ2).hi (k := bd) (at_self (by omega))
          refine ⟨z2, by assumption, ((unhide C4).below (Nat.le_refl _) hlx).cells.2.2, ?_, ?_⟩
          · have := (hlx.cell (p := ⟨ga, 0 + k, none⟩) hgl).trans ((hst.low.cell (p := ⟨ga, 0 + k, none⟩) hgl).symm.trans (by simpa using hcw))
            simpa using this
          · exact (hlx.cell (p := ⟨bd, od + J, none⟩) hbl).trans ((hst.low.cell (p := ⟨bd, od + J, none⟩) hbl).symm.trans hcd)
        clear hcw hcd hb1 hb2 hx hwb hJ
        go_wp2_with fail
        refine regionIx _ wr (by simp) (Q.heap.size + 1) w.heap.size ga N ca k J g k cap bd od n2 c2 x rfl rfl rfl rfl hlt hJl ((vals (pickedAt dt sh ps) k).map (Value.int .i64)) Q.heap.size hst.owns hst.low.size (by omega)
          (fun wx => wx.cell? ⟨Q.heap.size + 1, 2, none⟩ = some (.slice (some ⟨g, 0, none⟩) k cap) ∧ wx.frozen? ⟨Q.heap.size + 1, 2, none⟩ = false ∧ wx.cell? ⟨w.heap.size, 2, none⟩ = some (.slice (some ⟨bd, od, none⟩) n2 c2) ∧ wx.cell? ⟨ga, 0 + k, none⟩ = some (.int .i64 (J : Nat)) ∧ wx.cell? ⟨bd, od + J, none⟩ = some (.int .i64 x)) (fun wx h => h)
          (fun wx hb => HSX wx (hst.box.below (Nat.le_refl _) hb) (hst.low.trans (hb.mono hst.low.size))) (fun w7 hg => HSX w7 (hst.grew1 hg).1 (hst.grew1 hg).2) (fun _ _ _ _ _ h => h) ?_
        intro g' cap' w7 hown' hgrow hat
        have hst6 : Hid (GatQ Q (Q.heap.size + 1) c (.slice (some ⟨gb, 0, none⟩) nb cb) (vals (pickedAt dt sh ps) (k + 1)) (k + 1) (w7.setCell ⟨Q.heap.size + 1, 2, none⟩ (.slice (some ⟨g', 0, none⟩) (k + 1) cap')) g' cap') := by
          show GatQ _ _ _ _ _ _ _ _ _
          rw [unhide HSTEP]
          exact hst.push1 hown' hgrow
        clear hst hown' hgrow hat HSX HG
        simp only [outIx, Act.put, List.setIfInBounds_toArray, List.set_cons_zero, List.set_cons_succ]
        go_wp2_with fail
        go_roundw
        case rel => exact ⟨k + 1, g', cap', by omega, by go_num, hst6⟩
        case measure => simp [intOf]; omega
      · obtain rfl : k = N := by omega
        have hst := unhide HG
        obtain ⟨ad', cd, hv, hD⟩ := Own.of_owns hst.owns (by omega)
        cases hv
        have Z6 := hide ((unhide C6).below (Nat.le_refl _) hst.low)
        obtain ⟨v0, v1, v2, v3, v4, v5, v6⟩ := hst.box.all
        obtain ⟨q0, q1, q2, q3, q4, q5, q6⟩ := (unhide Z6).all
        have HW6 := hide ((unhide HBQ).trans (hst.low.mono (unhide HBQ).size))
        have HO6 := hide ((unhide HRB).below (Nat.le_refl _) hst.low)
        have HD := hide hD
        clear hst hD HG hlt
        go_wp2
        have hx := (unhide Z6).sets (c' := c) (u1 := .slice (some ⟨gb, 0, none⟩) nb cb) (u2 := .slice (some ⟨g, 0, none⟩) k cap)
        obtain ⟨r0, r1, r2, _, _, _⟩ := hx.all
        refine bodyPost_ret (v := .tuple #[.agg #[.bool c, .slice (some ⟨gb, 0, none⟩) nb cb, .slice (some ⟨g, 0, none⟩) k cap], .int .i64 0]) (by simp [results, Try.results26, go_sem, r0, r1, r2]) rfl ?_
        rw [unhide HGO]
        exact ⟨_, _, _, _, _, _, rfl, (unhide HO6).sets (unhide Z6) _ _ _, (unhide HD).row.sets (unhide Z6) _ _ _, (((unhide HW6).setCell (by simp <;> omega) _).setCell (by simp <;> omega) _).setCell (by simp <;> omega) _⟩

end Go.Proofs.Ytngbmcljhcckmaa
