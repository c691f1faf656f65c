import Derived.Test.YtogmcecnckgcpaaMMath
import Derived.Test.YtogmcecnckgcpaaCatStage
import Derived.Test.YtogmcecnckgcpaaSpecCatR
import Derived.Test.YtogmcecnckgcpaaSpecBeside
import Derived.Test.YtogmcecnckgcpaaSpecTailC
import Derived.Test.YtogmcecnckgcpaaSpecNone
import Derived.Test.YtogmcecnckgcpaaSpecShapeOk
import Derived.Test.YtogmcecnckgcpaaL3Same
import Derived.Test.YtogmcecnckgcpaaMBase
import Derived.Test.YtogmcecnckgcpaaMWith
import Derived.Deep.RegionHeld3
import Derived.Deep.DeepCutAuto
namespace Go.Proofs.Ytogmcecnckgcpaa
open Go.RowKit

theorem box_set0 {w : World} {p : Nat} {c c' : Bool} {v1 v2 : Value} (h : Box w p c v1 v2) : Box (w.setCell ⟨p, 0, none⟩ (.bool c')) p c' v1 v2 := by
  unfold Box at h ⊢
  rw [heap_setCell_same w p 0 _ _ _ h]
  simp

theorem blk_notBox {w : World} {g p : Nat} {zs : List Int} {c : Bool} {v1 v2 : Value} (h : Blk w g zs) (hb : Box w p c v1 v2) : g ≠ p := by
  intro e
  subst e
  unfold Blk at h
  unfold Box at hb
  rw [h] at hb
  have := congrArg (fun o => match o with | some (.cells _ t _) => t | _ => 0) hb
  simp at this

theorem row_owns {w : World} {base n cap : Nat} {a : Option Addr} {zs : List Int} (h : w.ownsRow base 3 1 (.slice a n cap) n (zs.map (Value.int .i64))) (hs : n ≤ 17592186044416) : Row w a n zs := by
  obtain ⟨a', cap', hv, ho⟩ := Own.of_owns h hs
  cases hv
  exact ho.row

theorem row_at {w : World} {a : Addr} {n : Nat} {zs : List Int} (h : Row w (some a) n zs) (hn : 0 < n) : a = ⟨a.block, a.off, none⟩ := by
  obtain ⟨b, o, e, _⟩ := h.get hn
  cases e
  rfl

theorem front_without (sh : List Int) : front sh = without sh false := by simp [front, without]

theorem side_nil (sh' : List Int) : sideSh [] sh' = front sh' ++ [1] := by unfold sideSh; rw [if_pos rfl]
theorem side_more {sh sh' : List Int} (h0 : sh ≠ []) (h : sh.length + 1 = sh'.length) : sideSh sh sh' = sh ++ [1] := by unfold sideSh; rw [if_neg h0, if_pos h]
theorem side_as {sh sh' : List Int} (h0 : sh ≠ []) (h : sh.length + 1 ≠ sh'.length) : sideSh sh sh' = sh := by unfold sideSh; rw [if_neg h0, if_neg h]
theorem data_as {sh dt sh' : List Int} (h0 : sh ≠ []) : sideDt sh dt sh' = dt := by unfold sideDt; rw [if_neg h0]
theorem data_nil (dt sh' : List Int) : sideDt [] dt sh' = List.replicate (countOf (front sh' ++ [1])).toNat (dt.getD 0 0) := by unfold sideDt; rw [if_pos rfl, side_nil]

theorem l5Beside_eq (c d : Bool) (s1 s2 : Option Addr) (l1 l2 q1' q2' bd od n2 c2 b1 o1 m1 k1 : Nat) (dt sh : List Int) (w : World) (hx : w.cell? ⟨bd, od, none⟩ = some (.int .i64 (dt.getD 0 0))) (hbd : bd < w.heap.size) (hn2 : 0 < n2) (h1 : Row w (some ⟨b1, o1, none⟩) m1 sh) (hm : 0 < m1) (hk1 : m1 ≤ k1) (hm5 : m1 ≤ 5) (hN : 0 ≤ countOf (front sh ++ [1]) ∧ countOf (front sh ++ [1]) ≤ 10000) :
    Calls Try.prog 54 #[.agg #[.bool c, .slice s1 l1 q1', .slice (some ⟨bd, od, none⟩) n2 c2], .agg #[.bool d, .slice (some ⟨b1, o1, none⟩) m1 k1, .slice s2 l2 q2']] w fun e w' => ∃ g1 csh g2 N cd, (m1 ≤ csh ∧ N ≤ cd) ∧ e = .returned (.agg #[.bool c, .slice (some ⟨g1, 0, none⟩) m1 csh, .slice (some ⟨g2, 0, none⟩) N cd]) ∧ Row w' (some ⟨g1, 0, none⟩) m1 (sideSh [] sh) ∧ Row w' (some ⟨g2, 0, none⟩) N (sideDt [] dt sh) ∧ Below w.heap.size w w' := by
  obtain ⟨nf, rfl⟩ : ∃ nf, m1 = nf + 1 := ⟨m1 - 1, by omega⟩
  refine (l5Beside_any c d s1 s2 l1 l2 q1' q2' bd od n2 c2 b1 o1 nf k1 (dt.getD 0 0) sh (countOf (front sh ++ [1])).toNat w hx hbd hn2 h1 hk1 (by omega) (by rw [← front_without]; omega) (by omega)).mono ?_
  rintro e w' ⟨g1, csh, g2, cd, h1, rfl, h2, h3, h4⟩
  refine ⟨g1, csh, g2, _, cd, h1, rfl, ?_, ?_, h4⟩
  · rw [side_nil, front_without]; exact h2.row
  · rw [data_nil]; exact h3.row

theorem side_count {d : Bool} {sh' dt' : List Int} (h2 : arrOk d sh' dt' = true) : 0 ≤ countOf (front sh' ++ [1]) ∧ countOf (front sh' ++ [1]) ≤ 10000 := by
  obtain ⟨i2, _, l2⟩ := shapeIn_of h2
  obtain ⟨ha, m, hm⟩ := shapeIn_snoc1 (i2.take (sh'.length - 1))
  have hb : shapeB (front sh' ++ [1]) = true := shape_good (n := (front sh' ++ [1]).length) rfl (by simp [front]; omega) m ha hm
  have := shapeB_count hb
  omega

theorem data_one {dt : List Int} (h : dt.length = 1) : sideDt [] dt [] = dt := by
  rw [data_nil]
  match dt, h with
  | [x], _ => rfl

/-- The two arrays as they are taken lie in the boxes. -/
def Sides (w : World) (c d : Bool) (L X R Y : List Int) (wx : World) : Prop :=
  ∃ a1 p1 e1 a2 p2 e2 b1 q1 f1 b2 q2 f2, Box wx w.heap.size c (.slice (some a1) p1 e1) (.slice (some a2) p2 e2) ∧ Box wx (w.heap.size + 1) d (.slice (some b1) q1 f1) (.slice (some b2) q2 f2) ∧ Box wx (w.heap.size + 2) false (.slice none 0 0) (.slice none 0 0) ∧ Row wx (some a1) p1 L ∧ Row wx (some a2) p2 X ∧ Row wx (some b1) q1 R ∧ Row wx (some b2) q2 Y ∧ p1 ≤ e1 ∧ q1 ≤ f1 ∧ Below w.heap.size w wx ∧ p1 = q1 ∧ p2 ≤ e2 ∧ q2 ≤ f2

set_option maxRecDepth 20000 in
set_option maxHeartbeats 8000000 in
theorem Catenate_any (c d : Bool) (a1 a2 b1 b2 : Addr) (n1 n2 m1 m2 c1 c2 d1 d2 : Nat) (sh dt sh' dt' : List Int) (hc1 : n1 ≤ c1) (hd1 : m1 ≤ d1) (hc2 : n2 ≤ c2) (hd2 : m2 ≤ d2) (w : World) (h1 : Row w (some a1) n1 sh) (h2 : Row w (some a2) n2 dt) (k1 : Row w (some b1) m1 sh') (k2 : Row w (some b2) m2 dt') :
    Calls Try.prog 24 #[.agg #[.bool c, .slice (some a1) n1 c1, .slice (some a2) n2 c2], .agg #[.bool d, .slice (some b1) m1 d1, .slice (some b2) m2 d2]] w (GivesRow w (catenate c d sh dt sh' dt')) := by
  have hl1 := hide h1.len
  have hl2 := hide h2.len
  have hl3 := hide k1.len
  have hl4 := hide k2.len
  have hs1 := h1.small
  have hs2 := h2.small
  have hs3 := k1.small
  have hs4 := k2.small
  have H1 := hide h1
  have H2 := hide h2
  have K1 := hide k1
  have K2 := hide k2
  clear h1 h2 k1 k2
  obtain ⟨r1, hr1⟩ : ∃ r, arrOk c sh dt = r := ⟨_, rfl⟩
  obtain ⟨r2, hr2⟩ : ∃ r, arrOk d sh' dt' = r := ⟨_, rfl⟩
  have HR1 := hide hr1
  have HR2 := hide hr2
  clear hr1 hr2
  go_enter Try.func24, Try.ntmps24
  go_wp2_with fail
  refine (ArrayOk_eq _ _ _ _ _ _ _ sh dt _ ((((unhide H1).alloc _).alloc _).alloc _) ((((unhide H2).alloc _).alloc _).alloc _) _ HR1).mono ?_
  rintro e w1 ⟨rfl, hb1⟩
  obtain ⟨B4, B5, B6, hB1⟩ := boxes3 hb1
  have hz1 := B6.lt
  clear hb1
  obtain ⟨x0, x1, x2, x3, x4, x5, x6⟩ := B4.all
  obtain ⟨y0, y1, y2, y3, y4, y5, y6⟩ := B5.all
  cases r1 with
  | false =>
    have HS : Hid (catenate c d sh dt sh' dt' = noAns 3) := cat_bad1 (unhide HR1)
    go_wp2_with fail
    refine (l4None_any _).mono ?_
    rintro e w9 ⟨rfl, hb9⟩
    obtain ⟨q0, q1, q2, q3, q4, q5, q6⟩ := ((B6).below (Nat.le_refl _) hb9).all
    have hB9 := hide ((hB1).trans (hb9.mono (hB1).size))
    clear hb9 hB1 B4 B5 B6 hz1 x0 x1 x2 x3 x4 x5 x6 y0 y1 y2 y3 y4 y5 y6
    go_wp2
    refine bodyPost_ret (v := .tuple #[.agg #[.bool false, .slice none 0 0, .slice none 0 0], .int .i64 3]) (by simp [results, Try.results24, go_sem, q0, q1, q2]) rfl ?_
    rw [unhide HS]
    exact ⟨none, 0, 0, none, 0, 0, rfl, row_nil _ _, row_nil _ _, (((unhide hB9).setCell (by simp <;> omega) _).setCell (by simp <;> omega) _).setCell (by simp <;> omega) _⟩
  | true =>
    go_wp2_with fail
    refine (ArrayOk_eq _ _ _ _ _ _ _ sh' dt' _ ((unhide K1).below (Nat.le_refl _) hB1) ((unhide K2).below (Nat.le_refl _) hB1) _ HR2).mono ?_
    rintro e w2 ⟨rfl, hb2⟩
    have C4 := hide (B4.below (Nat.le_refl _) hb2)
    have C5 := hide (B5.below (Nat.le_refl _) hb2)
    have C6 := hide (B6.below (Nat.le_refl _) hb2)
    have hB2 := hide (hB1.trans (hb2.mono hB1.size))
    clear hb2 hB1 B4 B5 B6 hz1 x0 x1 x2 x3 x4 x5 x6 y0 y1 y2 y3 y4 y5 y6 w1
    cases r2 with
    | false =>
      have HS : Hid (catenate c d sh dt sh' dt' = noAns 3) := cat_bad2 (unhide HR2)
      go_wp2_with fail
      refine (l4None_any _).mono ?_
      rintro e w9 ⟨rfl, hb9⟩
      obtain ⟨q0, q1, q2, q3, q4, q5, q6⟩ := ((unhide C6).below (Nat.le_refl _) hb9).all
      have hB9 := hide ((unhide hB2).trans (hb9.mono (unhide hB2).size))
      clear hb9 C4 C5 C6 hB2
      go_wp2
      refine bodyPost_ret (v := .tuple #[.agg #[.bool false, .slice none 0 0, .slice none 0 0], .int .i64 3]) (by simp [results, Try.results24, go_sem, q0, q1, q2]) rfl ?_
      rw [unhide HS]
      exact ⟨none, 0, 0, none, 0, 0, rfl, row_nil _ _, row_nil _ _, (((unhide hB9).setCell (by simp <;> omega) _).setCell (by simp <;> omega) _).setCell (by simp <;> omega) _⟩
    | true =>
      obtain ⟨hIN1, hP1, hn5⟩ := shapeIn_of (unhide HR1)
      obtain ⟨hIN2, hP2, hm5⟩ := shapeIn_of (unhide HR2)
      rw [unhide hl1] at hn5
      rw [unhide hl3] at hm5
      rw [unhide hl2] at hP1
      rw [unhide hl4] at hP2
      have HI1 := hide hIN1
      have HI2 := hide hIN2
      clear hIN1 hIN2
      obtain ⟨x0, x1, x2, x3, x4, x5, x6⟩ := (unhide C4).all
      obtain ⟨y0, y1, y2, y3, y4, y5, y6⟩ := (unhide C5).all
      obtain ⟨bz, hbz⟩ : ∃ b, b = decide (n1 = 0 ∧ m1 = 0) := ⟨_, rfl⟩
      go_upto_region 5 with fail
      go_cut [36] (fun v wx => w2 = wx ∧ v = .bool bz)
      case first => as_aux_lemma =>
        by_cases hn0 : n1 = 0
        · have g1 : ((n1 : Int) == 0) = true := by simp [hn0]
          by_cases hm0 : m1 = 0
          · have g2 : ((m1 : Int) == 0) = true := by simp [hm0]
            have HZ : Hid (bz = true) := by show _ = _; rw [hbz]; simp [hn0, hm0]
            clear hn0 hm0 hbz
            go_wp2
            go_meet
            case rel => exact ⟨rfl, by rw [unhide HZ]⟩
          · have g2 : ((m1 : Int) == 0) = false := by simp; omega
            have HZ : Hid (bz = false) := by show _ = _; rw [hbz]; simp [hm0]
            clear hn0 hm0 hbz
            go_wp2
            go_meet
            case rel => exact ⟨rfl, by rw [unhide HZ]⟩
        · have g1 : ((n1 : Int) == 0) = false := by simp; omega
          have HZ : Hid (bz = false) := by show _ = _; rw [hbz]; simp [hn0]
          clear hn0 hbz
          go_wp2
          go_meet
          case rel => exact ⟨rfl, by rw [unhide HZ]⟩
      case rest =>
        obtain ⟨rfl, rfl⟩ := hcut
        go_upto_if 36 with fail
        go_cut [] (fun wx => Sides w c d (sideSh sh sh') (sideDt sh dt sh') (sideSh sh' sh) (sideDt sh' dt' sh) wx)
        case first => as_aux_lemma =>
          by_cases hn0 : n1 = 0
          · have e1 : sh = [] := List.length_eq_zero_iff.mp ((unhide hl1).trans hn0)
            have hn2 : n2 = 1 := by rw [e1] at hP1; simp [prodAll] at hP1; omega
            have g1 : ((n1 : Int) == 0) = true := by simp [hn0]
            by_cases hm0 : m1 = 0
            · have e2 : sh' = [] := List.length_eq_zero_iff.mp ((unhide hl3).trans hm0)
              have hm2 : m2 = 1 := by rw [e2] at hP2; simp [prodAll] at hP2; omega
              obtain rfl : bz = true := by rw [hbz]; simp [hn0, hm0]
              have ED1 : Hid (sideDt sh dt sh' = dt) := by show _ = _; rw [e1, e2]; exact data_one ((unhide hl2).trans hn2)
              have ED2 : Hid (sideDt sh' dt' sh = dt') := by show _ = _; rw [e1, e2]; exact data_one ((unhide hl4).trans hm2)
              have ES1 : Hid (sideSh sh sh' = sh ++ [1]) := by show _ = _; rw [e1, e2]; rfl
              have ES2 : Hid (sideSh sh' sh = sh' ++ [1]) := by show _ = _; rw [e1, e2]; rfl
              have HPQ : Hid (n1 + 1 = m1 + 1) := by show _ = _; omega
              clear hn0 hm0 e1 e2 hbz hP1 hP2 hn2 hm2
              go_wp2_with fail
              refine (l5Wider_any c a1 (some a2) n1 n2 c1 c2 sh _ ((unhide H1).below (Nat.le_refl _) (unhide hB2)) (by omega)).mono ?_
              rintro e w3 ⟨g, cap, rfl, ho3, hb3⟩
              have D4 := hide ((unhide C4).below (Nat.le_refl _) hb3)
              have D5 := hide ((unhide C5).below (Nat.le_refl _) hb3)
              have D6 := hide ((unhide C6).below (Nat.le_refl _) hb3)
              have HB3 := hide ((unhide hB2).trans (hb3.mono (unhide hB2).size))
              have HO := hide (row_owns ho3 (by omega))
              have hcap := owns_cap ho3
              clear hb3 ho3 x0 x1 x2 x3 x4 x5 x6 y0 y1 y2 y3 y4 y5 y6
              obtain ⟨x0, x1, x2, x3, x4, x5, x6⟩ := (unhide D4).all
              obtain ⟨y0, y1, y2, y3, y4, y5, y6⟩ := (unhide D5).all
              go_wp2_with fail
              have F4 := hide ((unhide D4).sets (c' := c) (u1 := .slice (some ⟨g, 0, none⟩) (n1 + 1) cap) (u2 := .slice (some a2) n2 c2))
              have F5 := hide ((((unhide D5).other (q := ⟨w.heap.size, 0, none⟩) (by simp) (.bool c)).other (q := ⟨w.heap.size, 1, none⟩) (by simp) (.slice (some ⟨g, 0, none⟩) (n1 + 1) cap)).other (q := ⟨w.heap.size, 2, none⟩) (by simp) (.slice (some a2) n2 c2))
              have F6 := hide ((((unhide D6).other (q := ⟨w.heap.size, 0, none⟩) (by simp) (.bool c)).other (q := ⟨w.heap.size, 1, none⟩) (by simp) (.slice (some ⟨g, 0, none⟩) (n1 + 1) cap)).other (q := ⟨w.heap.size, 2, none⟩) (by simp) (.slice (some a2) n2 c2))
              have FB := hide ((((unhide HB3).setCell (p := ⟨w.heap.size, 0, none⟩) (by simp) (.bool c)).setCell (p := ⟨w.heap.size, 1, none⟩) (by simp) (.slice (some ⟨g, 0, none⟩) (n1 + 1) cap)).setCell (p := ⟨w.heap.size, 2, none⟩) (by simp) (.slice (some a2) n2 c2))
              have FO := hide ((unhide HO).sets (unhide D4) (.bool c) (.slice (some ⟨g, 0, none⟩) (n1 + 1) cap) (.slice (some a2) n2 c2))
              obtain ⟨w4, hw4⟩ : ∃ x, x = ((w3.setCell ⟨w.heap.size, 0, none⟩ (.bool c)).setCell ⟨w.heap.size, 1, none⟩ (.slice (some ⟨g, 0, none⟩) (n1 + 1) cap)).setCell ⟨w.heap.size, 2, none⟩ (.slice (some a2) n2 c2) := ⟨_, rfl⟩
              rw [← hw4] at F4 F5 F6 FB FO ⊢
              clear hw4 D4 D5 D6 HB3 HO x0 x1 x2 x3 x4 x5 x6 y0 y1 y2 y3 y4 y5 y6
              refine (l5Wider_any d b1 (some b2) m1 m2 d1 d2 sh' _ ((unhide K1).below (Nat.le_refl _) (unhide FB)) (by omega)).mono ?_
              rintro e w5 ⟨g', cap', rfl, ho5, hb5⟩
              have D4 := hide ((unhide F4).below (Nat.le_refl _) hb5)
              have D5 := hide ((unhide F5).below (Nat.le_refl _) hb5)
              have D6 := hide ((unhide F6).below (Nat.le_refl _) hb5)
              have HB5 := hide ((unhide FB).trans (hb5.mono (unhide FB).size))
              have HO := hide ((unhide FO).below (Nat.le_refl _) hb5)
              have HP := hide (row_owns ho5 (by omega))
              have hcap' := owns_cap ho5
              clear hb5 ho5 F4 F5 F6 FB FO
              obtain ⟨x0, x1, x2, x3, x4, x5, x6⟩ := (unhide D5).all
              go_wp2_with fail
              go_meet
              case rel =>
                rw [unhide ED1, unhide ED2, unhide ES1, unhide ES2]
                exact ⟨⟨g, 0, none⟩, n1 + 1, cap, a2, n2, c2, ⟨g', 0, none⟩, m1 + 1, cap', b2, m2, d2, (((unhide D4).other (by simp) _).other (by simp) _).other (by simp) _, (unhide D5).sets, (((unhide D6).other (by simp) _).other (by simp) _).other (by simp) _, (unhide HO).sets (unhide D5) _ _ _, ((unhide H2).below (Nat.le_refl _) (unhide HB5)).sets (unhide D5) _ _ _, (unhide HP).sets (unhide D5) _ _ _, ((unhide K2).below (Nat.le_refl _) (unhide HB5)).sets (unhide D5) _ _ _, hcap, hcap', (((unhide HB5).setCell (by simp) _).setCell (by simp) _).setCell (by simp) _, unhide HPQ, hc2, hd2⟩
            · have e2 : sh' ≠ [] := fun e => hm0 (by rw [← unhide hl3, e]; rfl)
              have g2 : ((m1 : Int) == 0) = false := by simp; omega
              obtain rfl : bz = false := by rw [hbz]; simp [hm0]
              have ED2 := hide (data_as (dt := dt') (sh' := sh) e2)
              have ES2 := hide (side_as e2 (sh' := sh) (by rw [e1, unhide hl3]; simp))
              have ES1 : Hid (sideSh sh sh' = sideSh [] sh') := by show _ = _; rw [e1]
              have ED1 : Hid (sideDt sh dt sh' = sideDt [] dt sh') := by show _ = _; rw [e1]
              obtain ⟨bd, od, hab, hblt, hcc⟩ := (unhide H2).get (show 0 < n2 by omega)
              cases hab
              rw [Nat.add_zero] at hcc
              obtain ⟨bs, os, hab, _, _⟩ := (unhide K1).get (show 0 < m1 by omega)
              cases hab
              have HX := hide (((unhide hB2).cell (p := ⟨bd, od, none⟩) hblt).trans hcc)
              have hm1 : 0 < m1 := by omega
              have hn2' : 0 < n2 := by omega
              clear hn0 hm0 e1 e2 hbz hP1 hP2 hcc hn2
              go_wp2_with fail
              refine (l5Beside_eq c d (some a1) (some b2) n1 m2 c1 d2 bd od n2 c2 bs os m1 d1 dt sh' _ (unhide HX) (Nat.lt_of_lt_of_le hblt (unhide hB2).size) (by omega) ((unhide K1).below (Nat.le_refl _) (unhide hB2)) hm1 hd1 hm5 (side_count (unhide HR2))).mono ?_
              rintro e w3 ⟨g, cap, g2', N, cd, ⟨hcap, hcd⟩, rfl, ho3, hp3, hb3⟩
              have D4 := hide ((unhide C4).below (Nat.le_refl _) hb3)
              have D5 := hide ((unhide C5).below (Nat.le_refl _) hb3)
              have D6 := hide ((unhide C6).below (Nat.le_refl _) hb3)
              have HB3 := hide ((unhide hB2).trans (hb3.mono (unhide hB2).size))
              have HO := hide ho3
              have HP := hide hp3
              clear hb3 ho3 hp3 x0 x1 x2 x3 x4 x5 x6 y0 y1 y2 y3 y4 y5 y6
              obtain ⟨x0, x1, x2, x3, x4, x5, x6⟩ := (unhide D4).all
              go_wp2_with fail
              go_meet
              case rel =>
                rw [unhide ED1, unhide ED2, unhide ES1, unhide ES2]
                exact ⟨⟨g, 0, none⟩, m1, cap, ⟨g2', 0, none⟩, N, cd, ⟨bs, os, none⟩, m1, d1, b2, m2, d2, (unhide D4).sets, (((unhide D5).other (by simp) _).other (by simp) _).other (by simp) _, (((unhide D6).other (by simp) _).other (by simp) _).other (by simp) _, (unhide HO).sets (unhide D4) _ _ _, (unhide HP).sets (unhide D4) _ _ _, ((unhide K1).below (Nat.le_refl _) (unhide HB3)).sets (unhide D4) _ _ _, ((unhide K2).below (Nat.le_refl _) (unhide HB3)).sets (unhide D4) _ _ _, hcap, hd1, (((unhide HB3).setCell (by simp) _).setCell (by simp) _).setCell (by simp) _, rfl, hcd, hd2⟩
          · have e1 : sh ≠ [] := fun e => hn0 (by rw [← unhide hl1, e]; rfl)
            by_cases hm0 : m1 = 0
            · have e2 : sh' = [] := List.length_eq_zero_iff.mp ((unhide hl3).trans hm0)
              have hm2 : m2 = 1 := by rw [e2] at hP2; simp [prodAll] at hP2; omega
              have g1 : ((n1 : Int) == 0) = false := by simp; omega
              have g2 : ((m1 : Int) == 0) = true := by simp [hm0]
              obtain rfl : bz = false := by rw [hbz]; simp [hn0]
              have ED1 := hide (data_as (dt := dt) (sh' := sh') e1)
              have ES1 := hide (side_as e1 (sh' := sh') (by rw [e2, unhide hl1]; simp))
              have ES2 : Hid (sideSh sh' sh = sideSh [] sh) := by show _ = _; rw [e2]
              have ED2 : Hid (sideDt sh' dt' sh = sideDt [] dt' sh) := by show _ = _; rw [e2]
              obtain ⟨bd, od, hab, hblt, hcc⟩ := (unhide K2).get (show 0 < m2 by omega)
              cases hab
              rw [Nat.add_zero] at hcc
              obtain ⟨bs, os, hab, _, _⟩ := (unhide H1).get (show 0 < n1 by omega)
              cases hab
              have HX := hide (((unhide hB2).cell (p := ⟨bd, od, none⟩) hblt).trans hcc)
              have hn1 : 0 < n1 := by omega
              have hm2' : 0 < m2 := by omega
              clear hn0 hm0 e1 e2 hbz hP1 hP2 hcc hm2
              go_wp2_with fail
              refine (l5Beside_eq d c (some b1) (some a2) m1 n2 d1 c2 bd od m2 d2 bs os n1 c1 dt' sh _ (unhide HX) (Nat.lt_of_lt_of_le hblt (unhide hB2).size) (by omega) ((unhide H1).below (Nat.le_refl _) (unhide hB2)) hn1 hc1 hn5 (side_count (unhide HR1))).mono ?_
              rintro e w3 ⟨g, cap, g2', N, cd, ⟨hcap, hcd⟩, rfl, ho3, hp3, hb3⟩
              have D4 := hide ((unhide C4).below (Nat.le_refl _) hb3)
              have D5 := hide ((unhide C5).below (Nat.le_refl _) hb3)
              have D6 := hide ((unhide C6).below (Nat.le_refl _) hb3)
              have HB3 := hide ((unhide hB2).trans (hb3.mono (unhide hB2).size))
              have HO := hide ho3
              have HP := hide hp3
              clear hb3 ho3 hp3 x0 x1 x2 x3 x4 x5 x6 y0 y1 y2 y3 y4 y5 y6
              obtain ⟨x0, x1, x2, x3, x4, x5, x6⟩ := (unhide D5).all
              go_wp2_with fail
              go_meet
              case rel =>
                rw [unhide ED1, unhide ED2, unhide ES1, unhide ES2]
                exact ⟨⟨bs, os, none⟩, n1, c1, a2, n2, c2, ⟨g, 0, none⟩, n1, cap, ⟨g2', 0, none⟩, N, cd, (((unhide D4).other (by simp) _).other (by simp) _).other (by simp) _, (unhide D5).sets, (((unhide D6).other (by simp) _).other (by simp) _).other (by simp) _, ((unhide H1).below (Nat.le_refl _) (unhide HB3)).sets (unhide D5) _ _ _, ((unhide H2).below (Nat.le_refl _) (unhide HB3)).sets (unhide D5) _ _ _, (unhide HO).sets (unhide D5) _ _ _, (unhide HP).sets (unhide D5) _ _ _, hc1, hcap, (((unhide HB3).setCell (by simp) _).setCell (by simp) _).setCell (by simp) _, rfl, hc2, hcd⟩
            · have e2 : sh' ≠ [] := fun e => hm0 (by rw [← unhide hl3, e]; rfl)
              have g1 : ((n1 : Int) == 0) = false := by simp; omega
              have g2 : ((m1 : Int) == 0) = false := by simp; omega
              obtain rfl : bz = false := by rw [hbz]; simp [hn0]
              have ED1 := hide (data_as (dt := dt) (sh' := sh') e1)
              have ED2 := hide (data_as (dt := dt') (sh' := sh) e2)
              by_cases hA : n1 + 1 = m1
              · have ES1 := hide (side_more e1 (sh' := sh') (by rw [unhide hl1, unhide hl3]; exact hA))
                have ES2 := hide (side_as e2 (sh' := sh) (by rw [unhide hl1, unhide hl3]; omega))
                have g3 : ((n1 : Int) + 1 == (m1 : Int)) = true := by simp; omega
                have HPQ : Hid (n1 + 1 = m1) := by show _ = _; omega
                clear hn0 hm0 hA e1 e2 hbz
                go_wp2_with fail
                refine (l5Wider_any c a1 (some a2) n1 n2 c1 c2 sh _ ((unhide H1).below (Nat.le_refl _) (unhide hB2)) (by omega)).mono ?_
                rintro e w3 ⟨g, cap, rfl, ho3, hb3⟩
                have D4 := hide ((unhide C4).below (Nat.le_refl _) hb3)
                have D5 := hide ((unhide C5).below (Nat.le_refl _) hb3)
                have D6 := hide ((unhide C6).below (Nat.le_refl _) hb3)
                have HB3 := hide ((unhide hB2).trans (hb3.mono (unhide hB2).size))
                have HO := hide (row_owns ho3 (by omega))
                have hcap := owns_cap ho3
                clear hb3 ho3 x0 x1 x2 x3 x4 x5 x6 y0 y1 y2 y3 y4 y5 y6
                obtain ⟨x0, x1, x2, x3, x4, x5, x6⟩ := (unhide D4).all
                go_wp2_with fail
                go_meet
                case rel =>
                  rw [unhide ED1, unhide ED2, unhide ES1, unhide ES2]
                  exact ⟨⟨g, 0, none⟩, n1 + 1, cap, a2, n2, c2, b1, m1, d1, b2, m2, d2, (unhide D4).sets, (((unhide D5).other (by simp) _).other (by simp) _).other (by simp) _, (((unhide D6).other (by simp) _).other (by simp) _).other (by simp) _, (unhide HO).sets (unhide D4) _ _ _, ((unhide H2).below (Nat.le_refl _) (unhide HB3)).sets (unhide D4) _ _ _, ((unhide K1).below (Nat.le_refl _) (unhide HB3)).sets (unhide D4) _ _ _, ((unhide K2).below (Nat.le_refl _) (unhide HB3)).sets (unhide D4) _ _ _, hcap, hd1, (((unhide HB3).setCell (by simp) _).setCell (by simp) _).setCell (by simp) _, unhide HPQ, hc2, hd2⟩
              · by_cases hB : m1 + 1 = n1
                · have ES1 := hide (side_as e1 (sh' := sh') (by rw [unhide hl1, unhide hl3]; omega))
                  have ES2 := hide (side_more e2 (sh' := sh) (by rw [unhide hl1, unhide hl3]; exact hB))
                  have g3 : ((n1 : Int) + 1 == (m1 : Int)) = false := by simp; omega
                  have g4 : ((m1 : Int) + 1 == (n1 : Int)) = true := by simp; omega
                  have HPQ : Hid (n1 = m1 + 1) := by show _ = _; omega
                  clear hn0 hm0 hA hB e1 e2 hbz
                  go_wp2_with fail
                  refine (l5Wider_any d b1 (some b2) m1 m2 d1 d2 sh' _ ((unhide K1).below (Nat.le_refl _) (unhide hB2)) (by omega)).mono ?_
                  rintro e w3 ⟨g, cap, rfl, ho3, hb3⟩
                  have D4 := hide ((unhide C4).below (Nat.le_refl _) hb3)
                  have D5 := hide ((unhide C5).below (Nat.le_refl _) hb3)
                  have D6 := hide ((unhide C6).below (Nat.le_refl _) hb3)
                  have HB3 := hide ((unhide hB2).trans (hb3.mono (unhide hB2).size))
                  have HO := hide (row_owns ho3 (by omega))
                  have hcap := owns_cap ho3
                  clear hb3 ho3 x0 x1 x2 x3 x4 x5 x6 y0 y1 y2 y3 y4 y5 y6
                  obtain ⟨x0, x1, x2, x3, x4, x5, x6⟩ := (unhide D5).all
                  go_wp2_with fail
                  go_meet
                  case rel =>
                    rw [unhide ED1, unhide ED2, unhide ES1, unhide ES2]
                    exact ⟨a1, n1, c1, a2, n2, c2, ⟨g, 0, none⟩, m1 + 1, cap, b2, m2, d2, (((unhide D4).other (by simp) _).other (by simp) _).other (by simp) _, (unhide D5).sets, (((unhide D6).other (by simp) _).other (by simp) _).other (by simp) _, ((unhide H1).below (Nat.le_refl _) (unhide HB3)).sets (unhide D5) _ _ _, ((unhide H2).below (Nat.le_refl _) (unhide HB3)).sets (unhide D5) _ _ _, (unhide HO).sets (unhide D5) _ _ _, ((unhide K2).below (Nat.le_refl _) (unhide HB3)).sets (unhide D5) _ _ _, hc1, hcap, (((unhide HB3).setCell (by simp) _).setCell (by simp) _).setCell (by simp) _, unhide HPQ, hc2, hd2⟩
                · have ES1 := hide (side_as e1 (sh' := sh') (by rw [unhide hl1, unhide hl3]; omega))
                  have ES2 := hide (side_as e2 (sh' := sh) (by rw [unhide hl1, unhide hl3]; omega))
                  have g3 : ((n1 : Int) + 1 == (m1 : Int)) = false := by simp; omega
                  have g4 : ((m1 : Int) + 1 == (n1 : Int)) = false := by simp; omega
                  by_cases hE : n1 = m1
                  · have g5 : ((n1 : Int) != (m1 : Int)) = false := by simp; omega
                    have HPQ : Hid (n1 = m1) := by show _ = _; omega
                    clear hn0 hm0 hA hB hE e1 e2 hbz
                    go_wp2_with fail
                    go_meet
                    case rel =>
                      rw [unhide ED1, unhide ED2, unhide ES1, unhide ES2]
                      exact ⟨a1, n1, c1, a2, n2, c2, b1, m1, d1, b2, m2, d2, unhide C4, unhide C5, unhide C6, (unhide H1).below (Nat.le_refl _) (unhide hB2), (unhide H2).below (Nat.le_refl _) (unhide hB2), (unhide K1).below (Nat.le_refl _) (unhide hB2), (unhide K2).below (Nat.le_refl _) (unhide hB2), hc1, hd1, unhide hB2, unhide HPQ, hc2, hd2⟩
                  · have g5 : ((n1 : Int) != (m1 : Int)) = true := by simp; omega
                    have HS : Hid (catenate c d sh dt sh' dt' = noAns 4) := cat_rank (unhide HR1) (unhide HR2) (by rw [unhide ES1, unhide ES2, unhide hl1, unhide hl3]; exact hE)
                    clear hn0 hm0 hA hB hE e1 e2 hbz x0 x1 x2 x3 x4 x5 x6 y0 y1 y2 y3 y4 y5 y6
                    go_wp2_with fail
                    refine (l4None_any _).mono ?_
                    rintro e w9 ⟨rfl, hb9⟩
                    obtain ⟨q0, q1, q2, q3, q4, q5, q6⟩ := ((unhide C6).below (Nat.le_refl _) hb9).all
                    have hB9 := hide ((unhide hB2).trans (hb9.mono (unhide hB2).size))
                    clear hb9 C4 C5 C6 hB2
                    go_wp2
                    refine bodyPost_ret (v := .tuple #[.agg #[.bool false, .slice none 0 0, .slice none 0 0], .int .i64 4]) (by simp [results, Try.results24, go_sem, q0, q1, q2]) rfl ?_
                    rw [unhide HS]
                    exact ⟨none, 0, 0, none, 0, 0, rfl, row_nil _ _, row_nil _ _, (((unhide hB9).setCell (by simp <;> omega) _).setCell (by simp <;> omega) _).setCell (by simp <;> omega) _⟩
        case rest =>
          obtain ⟨w4, hw4⟩ : ∃ x, x = wc := ⟨_, rfl⟩
          subst hw4
          obtain ⟨A1, p1, e1, A2, p2, e2, B1, q1, f1, B2, q2, f2, hba, hbb, hbr, r1, r2, r3, r4, le1, le2, hB4, hpq, le3, le4⟩ := hcut
          have HPQ := hide hpq
          clear hpq
          have hs1 := side_in (unhide HR1) (unhide HR2)
          have hs2 := side_in (unhide HR2) (unhide HR1)
          obtain ⟨L, hL⟩ : ∃ L, sideSh sh sh' = L := ⟨_, rfl⟩
          obtain ⟨R, hR⟩ : ∃ R, sideSh sh' sh = R := ⟨_, rfl⟩
          obtain ⟨X, hX⟩ : ∃ X, sideDt sh dt sh' = X := ⟨_, rfl⟩
          obtain ⟨Y, hY⟩ : ∃ Y, sideDt sh' dt' sh = Y := ⟨_, rfl⟩
          rw [hL, hX] at hs1
          rw [hR, hY] at hs2
          rw [hL] at r1
          rw [hX] at r2
          rw [hR] at r3
          rw [hY] at r4
          obtain ⟨hLi, hL5, hL0, hLp⟩ := hs1
          obtain ⟨hRi, hR5, hR0, hRp⟩ := hs2
          have lL := r1.len
          have lX := r2.len
          have lR := r3.len
          have lY := r4.len
          have hL0' := hL0
          have hR0' := hR0
          rw [lL] at hL5 hL0
          rw [lR] at hR5 hR0
          rw [lX] at hLp
          rw [lY] at hRp
          obtain ⟨ba, oa, hab, _, _⟩ := r1.get hL0
          cases hab
          obtain ⟨bb, ob, hab, _, _⟩ := r3.get hR0
          cases hab
          have HLI := hide hLi
          have HRI := hide hRi
          have HLP := hide hLp
          have HRP := hide hRp
          have HEL := hide hL
          have HER := hide hR
          have HEX := hide hX
          have HEY := hide hY
          have E4 := hide hba
          have E5 := hide hbb
          have E6 := hide hbr
          have F1 := hide r1
          have F2 := hide r2
          have F3 := hide r3
          have F4 := hide r4
          have HLL := hide lL
          have HLX := hide lX
          have HLR := hide lR
          have HLY := hide lY
          have HB4 := hide hB4
          clear hLi hRi hLp hRp hL hR hX hY hba hbb hbr r1 r2 r3 r4 lL lX lR lY hB4 hs1 hs2 HI1 HI2 C4 C5 C6 hB2 x0 x1 x2 x3 x4 x5 x6 y0 y1 y2 y3 y4 y5 y6 hP1 hP2 hbz
          obtain ⟨rf, hrf⟩ : ∃ r, decide (without L false = without R false) = r := ⟨_, rfl⟩
          have HRF := hide hrf
          clear hrf
          go_upto_region 18 with fail
          go_cut [74] (fun v wx => v = .bool (!rf) ∧ Below w4.heap.size w4 wx)
          case first => as_aux_lemma =>
            have HKEEP : ∀ wx, Below w4.heap.size w4 wx → Below w4.heap.size w4 wx ∧ wx.cell? ⟨w.heap.size, 1, none⟩ = some (.slice (some ⟨ba, oa, none⟩) p1 e1) ∧ wx.cell? ⟨w.heap.size + 1, 1, none⟩ = some (.slice (some ⟨bb, ob, none⟩) q1 f1) := fun wx hwx => ⟨hwx, ((unhide E4).below (Nat.le_refl _) hwx).cells.2.1, ((unhide E5).below (Nat.le_refl _) hwx).cells.2.1⟩
            go_region_held3 (fun wx => Below w4.heap.size w4 wx ∧ wx.cell? ⟨w.heap.size, 1, none⟩ = some (.slice (some ⟨ba, oa, none⟩) p1 e1) ∧ wx.cell? ⟨w.heap.size + 1, 1, none⟩ = some (.slice (some ⟨bb, ob, none⟩) q1 f1)) (first | (refine HKEEP _ ?_; first | exact hKC | exact hKB | exact hKA | exact (Below.refl _ _).drew))
              (first
              | (go_at_call_of 55 (Value.slice (some ⟨ba, oa, none⟩) p1 e1); refine (l4Without_any ba oa p1 e1 L false _ ((unhide F1).below (Nat.le_refl _) (Below.refl _ _).drew) hL0 le1).mono ?_; rintro e wA ⟨ga, ca, rfl, hOA, hbA⟩; have hKA : Below w4.heap.size w4 wA := (Below.refl _ _).drew.trans (hbA.mono (by first | exact Nat.le_refl _ | (simp <;> omega))))
              | (go_at_call_of 55 (Value.slice (some ⟨bb, ob, none⟩) q1 f1); refine (l4Without_any bb ob q1 f1 R false _ ((unhide F3).below (Nat.le_refl _) hKA) hR0 le2).mono ?_; rintro e wB ⟨gb, cb, rfl, hOB, hbB⟩; have hKB : Below w4.heap.size w4 wB := hKA.trans (hbB.mono hKA.size); have hOA' := hOA.below (Nat.le_refl _) hbB)
              | (go_at_call 34; refine (l3Same_eq _ _ _ _ _ _ (without L false) (without R false) _ hOA'.row hOB.row rf HRF).mono ?_; rintro e wC ⟨rfl, qq, rfl⟩; have hKC : Below w4.heap.size w4 (wB.drewN qq) := Below.drewN hKB qq))
            all_goals go_wp2_with fail
            all_goals go_meet
            all_goals case rel => exact ⟨rfl, hKC⟩
          case rest =>
            obtain ⟨w5, hw5⟩ : ∃ x, x = wc := ⟨_, rfl⟩
            subst hw5
            obtain ⟨rfl, hb5⟩ := hcut
            have G4 := hide ((unhide E4).below (Nat.le_refl _) hb5)
            have G5 := hide ((unhide E5).below (Nat.le_refl _) hb5)
            have G6 := hide ((unhide E6).below (Nat.le_refl _) hb5)
            have R1 := hide ((unhide F1).below (Nat.le_refl _) hb5)
            have R2 := hide ((unhide F2).below (Nat.le_refl _) hb5)
            have R3 := hide ((unhide F3).below (Nat.le_refl _) hb5)
            have R4 := hide ((unhide F4).below (Nat.le_refl _) hb5)
            have HB5 := hide ((unhide HB4).trans (hb5.mono (unhide HB4).size))
            clear hb5 E4 E5 E6 F1 F2 F3 F4 HB4
            have HLE : Hid (L.length = R.length) := by show _ = _; rw [unhide HLL, unhide HLR]; exact unhide HPQ
            cases rf with
            | false =>
              have HS : Hid (catenate c d sh dt sh' dt' = noAns 5) := cat_len (unhide HR1) (unhide HR2) (unhide HEL) (unhide HER) (unhide HLE) (by rw [front_without, front_without]; exact of_decide_eq_false (unhide HRF))
              go_wp2_with fail
              refine (l4None_any _).mono ?_
              rintro e w9 ⟨rfl, hb9⟩
              obtain ⟨q0, q1, q2, q3, q4, q5, q6⟩ := ((unhide G6).below (Nat.le_refl _) hb9).all
              have hB9 := hide ((unhide HB5).trans (hb9.mono (unhide HB5).size))
              clear hb9 G4 G5 G6 HB5
              go_wp2
              refine bodyPost_ret (v := .tuple #[.agg #[.bool false, .slice none 0 0, .slice none 0 0], .int .i64 5]) (by simp [results, Try.results24, go_sem, q0, q1, q2]) rfl ?_
              rw [unhide HS]
              exact ⟨none, 0, 0, none, 0, 0, rfl, row_nil _ _, row_nil _ _, (((unhide hB9).setCell (by simp <;> omega) _).setCell (by simp <;> omega) _).setCell (by simp <;> omega) _⟩
            | true =>
              have HFR : Hid (front L = front R) := by show _ = _; rw [front_without, front_without]; exact of_decide_eq_true (unhide HRF)
              obtain ⟨bd, hbd⟩ : ∃ b, b = decide (c ≠ d ∧ 0 < p2 ∧ 0 < q2) := ⟨_, rfl⟩
              obtain ⟨x0, x1, x2, x3, x4, x5, x6⟩ := (unhide G4).all
              obtain ⟨y0, y1, y2, y3, y4, y5, y6⟩ := (unhide G5).all
              go_upto_region 20 with fail
              go_cut [92] (fun v wx => w5 = wx ∧ v = .bool bd)
              case first => as_aux_lemma =>
                by_cases hcd : c = d
                · have HZ : Hid (bd = false) := by show _ = _; rw [hbd]; simp [hcd]
                  have g1 : (c == d) = true := by simp [hcd]
                  clear hcd hbd
                  go_wp2
                  go_meet
                  case rel => exact ⟨rfl, by rw [unhide HZ]⟩
                · have g1 : (c == d) = false := by simp [hcd]
                  by_cases h2 : 0 < p2
                  · by_cases h3 : 0 < q2
                    · have HZ : Hid (bd = true) := by show _ = _; rw [hbd]; simp [hcd, h2, h3]
                      clear hcd hbd
                      go_wp2
                      go_meet
                      case rel => exact ⟨rfl, by rw [unhide HZ]⟩
                    · have HZ : Hid (bd = false) := by show _ = _; rw [hbd]; simp [h3]
                      obtain rfl : q2 = 0 := by omega
                      clear hcd hbd h3
                      go_wp2
                      go_meet
                      case rel => exact ⟨rfl, by rw [unhide HZ]⟩
                  · have HZ : Hid (bd = false) := by show _ = _; rw [hbd]; simp [h2]
                    obtain rfl : p2 = 0 := by omega
                    clear hcd hbd h2
                    go_wp2
                    go_meet
                    case rel => exact ⟨rfl, by rw [unhide HZ]⟩
              case rest =>
                obtain ⟨rfl, rfl⟩ := hcut
                have hXe : X = [] ↔ ¬ 0 < p2 := by
                  have := unhide HLX
                  constructor
                  · intro h; rw [h] at this; simp at this; omega
                  · intro h; exact List.eq_nil_of_length_eq_zero (by omega)
                have hYe : Y = [] ↔ ¬ 0 < q2 := by
                  have := unhide HLY
                  constructor
                  · intro h; rw [h] at this; simp at this; omega
                  · intro h; exact List.eq_nil_of_length_eq_zero (by omega)
                have HXE := hide hXe
                have HYE := hide hYe
                have HBD := hide hbd
                clear hXe hYe hbd x0 x1 x2 x3 x4 x5 x6 y0 y1 y2 y3 y4 y5 y6
                cases bd with
                | true =>
                  have HS : Hid (catenate c d sh dt sh' dt' = noAns 3) := cat_dom (unhide HR1) (unhide HR2) (unhide HEL) (unhide HER) (unhide HEX) (unhide HEY) (unhide HLE) (unhide HFR) (by
                    have h := of_decide_eq_true (unhide HBD).symm
                    exact ⟨h.1, fun e => ((unhide HXE).1 e) h.2.1, fun e => ((unhide HYE).1 e) h.2.2⟩)
                  go_wp2_with fail
                  refine (l4None_any _).mono ?_
                  rintro e w9 ⟨rfl, hb9⟩
                  obtain ⟨q0, q1, q2, q3, q4, q5, q6⟩ := ((unhide G6).below (Nat.le_refl _) hb9).all
                  have hB9 := hide ((unhide HB5).trans (hb9.mono (unhide HB5).size))
                  clear hb9 G4 G5 G6 HB5
                  go_wp2
                  refine bodyPost_ret (v := .tuple #[.agg #[.bool false, .slice none 0 0, .slice none 0 0], .int .i64 3]) (by simp [results, Try.results24, go_sem, q0, q1, q2]) rfl ?_
                  rw [unhide HS]
                  exact ⟨none, 0, 0, none, 0, 0, rfl, row_nil _ _, row_nil _ _, (((unhide hB9).setCell (by simp <;> omega) _).setCell (by simp <;> omega) _).setCell (by simp <;> omega) _⟩
                | false =>
                  have HND : Hid (¬ (c ≠ d ∧ X ≠ [] ∧ Y ≠ [])) := fun h => (of_decide_eq_false (unhide HBD).symm) ⟨h.1, by
                    have := h.2.1
                    rw [ne_eq, unhide HXE] at this
                    omega, by
                    have := h.2.2
                    rw [ne_eq, unhide HYE] at this
                    omega⟩
                  obtain ⟨B, hB⟩ : ∃ B, axisB L false = B := ⟨_, rfl⟩
                  obtain ⟨x, hx⟩ : ∃ x, axisN L false = x := ⟨_, rfl⟩
                  obtain ⟨y, hy⟩ : ∃ y, axisN R false = y := ⟨_, rfl⟩
                  have hxb : 0 ≤ x ∧ x ≤ 10000 := by rw [← hx]; exact (unhide HLI).cell _
                  have hyb : 0 ≤ y ∧ y ≤ 10000 := by rw [← hy]; exact (unhide HRI).cell _
                  have hAX1 := l4Axis_any (some ⟨ba, oa, none⟩) p1 e1 L false
                  have hAX2 := l4Axis_any (some ⟨bb, ob, none⟩) q1 f1 R false
                  rw [hB, hx] at hAX1
                  rw [hy] at hAX2
                  have HAX1 := hide hAX1
                  have HAX2 := hide hAX2
                  have HEB : Hid (prodAll (front L) = B) := by rw [← hB]; rfl
                  have HEx : Hid (last L = x) := by rw [← hx]; rfl
                  have HEy : Hid (last R = y) := by rw [← hy]; rfl
                  have hadd : IntKind.i64.wrap (x + y) = x + y := by rw [IntKind.wrap_i64]; omega
                  obtain ⟨x0, x1, x2, x3, x4, x5, x6⟩ := (unhide G4).all
                  clear hB hx hy hAX1 hAX2
                  go_upto_region 24 with (first
                    | (go_at_call_of 56 (Value.slice (some ⟨ba, oa, none⟩) p1 e1); refine (unhide HAX1 _ (unhide R1) (unhide HLI) hL0).mono ?_; rintro e w6 ⟨rfl, hb6⟩; have I4 := hide ((unhide G4).below (Nat.le_refl _) hb6); have I5 := hide ((unhide G5).below (Nat.le_refl _) hb6); have HBW6 := hide hb6; obtain ⟨y0, y1, y2, y3, y4, y5, y6⟩ := (unhide I5).all; clear hb6)
                    | (go_at_call_of 56 (Value.slice (some ⟨bb, ob, none⟩) q1 f1); refine (unhide HAX2 _ ((unhide R3).below (Nat.le_refl _) (unhide HBW6)) (unhide HRI) hR0).mono ?_; rintro e w7 ⟨rfl, hb7⟩; have HBW7 := hide ((unhide HBW6).trans (hb7.mono (unhide HBW6).size)); clear hb7))
                  have J4 := hide ((unhide G4).below (Nat.le_refl _) (unhide HBW7))
                  have J5 := hide ((unhide G5).below (Nat.le_refl _) (unhide HBW7))
                  have J6 := hide ((unhide G6).below (Nat.le_refl _) (unhide HBW7))
                  have S1 := hide ((unhide R1).below (Nat.le_refl _) (unhide HBW7))
                  have S2 := hide ((unhide R2).below (Nat.le_refl _) (unhide HBW7))
                  have S4 := hide ((unhide R4).below (Nat.le_refl _) (unhide HBW7))
                  have HB7 := hide ((unhide HB5).trans ((unhide HBW7).mono (unhide HB5).size))
                  clear x0 x1 x2 x3 x4 x5 x6 G4 G5 G6 R1 R2 R3 R4 HB5 I4 I5 HBW6 HBW7 HAX1 HAX2
                  obtain ⟨nf, hnf⟩ : ∃ nf, p1 = nf + 1 := ⟨p1 - 1, by omega⟩
                  subst hnf
                  go_cut [14] (fun r wx => LaidT w7 c (nf + 1) (without L false ++ [x + y]) r wx)
                  case first => as_aux_lemma =>
                    have HC : ∀ wx, Below w7.heap.size w7 wx → Calls Try.prog 55 #[.slice (some ⟨ba, oa, none⟩) (nf + 1) e1, .bool false] wx fun e w' => ∃ a' cap', e = .returned (.slice a' nf cap') ∧ w'.ownsRow wx.heap.size 3 1 (.slice a' nf cap') nf ((without L false).map (Value.int .i64)) ∧ Below wx.heap.size wx w' := fun wx hwx => l4Without_owns ba oa (nf + 1) e1 L wx ((unhide S1).below (Nat.le_refl _) hwx) hL0 le1
                    refine regionTC _ w7 (by simp) w.heap.size w.heap.size rfl rfl c (some ⟨ba, oa, none⟩) (nf + 1) e1 x y rfl rfl hadd nf (by omega) (without L false) (fun wx hwx => ⟨((unhide J4).below (Nat.le_refl _) hwx).cells.1, ((unhide J4).below (Nat.le_refl _) hwx).cells.2.1⟩) HC (fun _ _ _ _ _ h => h) ?_
                    intro z e pg pc m cv wx hLd
                    simp only [outTC, frTC, pt, if_true, Act.put, List.setIfInBounds_toArray, List.set_cons_zero, List.set_cons_succ]
                    go_wp2_with fail
                    go_meet
                    case rel => exact hLd
                  case rest =>
                    clear y0 y1 y2 y3 y4 y5 y6
                    obtain ⟨w8, hw8⟩ : ∃ x, x = wc := ⟨_, rfl⟩
                    subst hw8
                    obtain ⟨P, G, b8, csh, rfl, hbx, hbg, hOb, hBel, hPl, hGl, hbG, hcs⟩ := hcut
                    obtain ⟨chr, hchr⟩ : ∃ r, (if X = [] ∧ Y ≠ [] then d else c) = r := ⟨_, rfl⟩
                    obtain ⟨ZS, hZS⟩ : ∃ z, without L false ++ [x + y] = z := ⟨_, rfl⟩
                    rw [hZS] at hOb
                    have HZS := hide hZS
                    have HCHR := hide hchr
                    have hnP : ∀ k, At (some ⟨b8, 0, none⟩) (nf + 1) k → k ≠ P := fun k hk => hOb.row.notBox hbx hk
                    have hGP : G ≠ P := blk_notBox hbg hbx
                    have M4 := hide ((unhide J4).below (Nat.le_refl _) hBel)
                    have M5 := hide ((unhide J5).below (Nat.le_refl _) hBel)
                    obtain ⟨x0, x1, x2, x3, x4, x5, x6⟩ := (unhide M4).all
                    obtain ⟨y0, y1, y2, y3, y4, y5, y6⟩ := (unhide M5).all
                    obtain ⟨z0, z1, z2, z3, z4, z5, z6⟩ := hbx.all
                    have HBX := hide hbx
                    have HBG := hide hbg
                    have HOB := hide hOb
                    have HBEL := hide hBel
                    clear hZS hchr hbx hbg hOb hBel
                    obtain ⟨bc, hbc⟩ : ∃ b, b = decide (p2 = 0 ∧ 0 < q2) := ⟨_, rfl⟩
                    go_upto_region 25 with fail
                    go_cut [129] (fun v wx => w8 = wx ∧ v = .bool bc)
                    case first => as_aux_lemma =>
                      by_cases h2 : p2 = 0
                      · by_cases h3 : 0 < q2
                        · have HZ : Hid (bc = true) := by show _ = _; rw [hbc]; simp [h2, h3]
                          subst h2
                          clear hbc
                          go_wp2
                          go_meet
                          case rel => exact ⟨rfl, by rw [unhide HZ]⟩
                        · have HZ : Hid (bc = false) := by show _ = _; rw [hbc]; simp [h3]
                          obtain rfl : q2 = 0 := by omega
                          subst h2
                          clear h3 hbc
                          go_wp2
                          go_meet
                          case rel => exact ⟨rfl, by rw [unhide HZ]⟩
                      · have HZ : Hid (bc = false) := by show _ = _; rw [hbc]; simp [h2]
                        have g1 : ((p2 : Int) == 0) = false := by simp; omega
                        clear hbc
                        go_wp2
                        go_meet
                        case rel => exact ⟨rfl, by rw [unhide HZ]⟩
                    case rest =>
                      obtain ⟨rfl, rfl⟩ := hcut
                      have HBC := hide hbc
                      clear hbc
                      go_upto_if 129 with fail
                      go_cut [] (fun wx => Box wx P chr (.slice (some ⟨b8, 0, none⟩) (nf + 1) csh) (.slice (some ⟨G, 0, none⟩) 0 0) ∧ Blk wx G [] ∧ Own wx w7.heap.size (some ⟨b8, 0, none⟩) (nf + 1) ZS ∧ Below w7.heap.size w7 wx)
                      case first => as_aux_lemma =>
                        cases bc with
                        | true =>
                          have hb := of_decide_eq_true (unhide HBC).symm
                          have HZ : Hid (d = chr) := by show _ = _; rw [← unhide HCHR, if_pos ⟨(unhide HXE).2 (by omega), fun e => (unhide HYE).1 e hb.2⟩]
                          clear hb
                          go_wp2
                          go_meet
                          case rel => rw [← unhide HZ]; exact ⟨box_set0 (unhide HBX), (unhide HBG).other hGP _, (unhide HOB).other (fun k hk => hnP k hk) _, (unhide HBEL).setCell (by simp <;> omega) _⟩
                        | false =>
                          have hb := of_decide_eq_false (unhide HBC).symm
                          have HZ : Hid (c = chr) := by show _ = _; rw [← unhide HCHR, if_neg (fun h => hb ⟨by have := (unhide HXE).1 h.1; omega, Nat.pos_of_ne_zero (fun e => h.2 ((unhide HYE).2 (by omega)))⟩)]
                          clear hb
                          go_wp2
                          go_meet
                          case rel => rw [← unhide HZ]; exact ⟨unhide HBX, unhide HBG, unhide HOB, unhide HBEL⟩
                      case rest =>
                        clear x0 x1 x2 x3 x4 x5 x6 y0 y1 y2 y3 y4 y5 y6 z0 z1 z2 z3 z4 z5 z6 M4 M5 HBX HBG HOB HBEL
                        obtain ⟨wk, hwk⟩ : ∃ x, x = wc := ⟨_, rfl⟩
                        subst hwk
                        obtain ⟨hbx, hbg, hOb, hbk⟩ := hcut
                        have N4 := hide ((unhide J4).below (Nat.le_refl _) hbk)
                        have N5 := hide ((unhide J5).below (Nat.le_refl _) hbk)
                        have N6 := hide ((unhide J6).below (Nat.le_refl _) hbk)
                        have HBK := hide ((unhide HB7).trans (hbk.mono (unhide HB7).size))
                        obtain ⟨z0, z1, z2, z3, z4, z5, z6⟩ := hbx.all
                        have HBX := hide hbx
                        have HBG := hide hbg
                        have HOB := hide hOb
                        have HLOW := hide hbk
                        obtain ⟨sb, hsb⟩ : ∃ r, shapeB ZS = r := ⟨_, rfl⟩
                        have HSB := hide hsb
                        clear hsb hbx hbg hOb hbk
                        cases sb with
                        | false =>
                          have HS : Hid (catenate c d sh dt sh' dt' = noAns 7) := cat_big (unhide HR1) (unhide HR2) (unhide HEL) (unhide HER) (unhide HEX) (unhide HEY) (unhide HLE) (unhide HFR) (unhide HND) (by rw [unhide HEx, unhide HEy, front_without, unhide HZS]; exact unhide HSB)
                          go_upto_region 28 with (go_at_call 57; refine (l3ShapeOk_eq _ _ _ ZS _ (unhide HOB).row _ HSB).mono ?_; rintro e wq ⟨rfl, hw⟩; obtain rfl := hw.symm)
                          go_wp2_with fail
                          refine (l4None_any _).mono ?_
                          rintro e w9 ⟨rfl, hb9⟩
                          obtain ⟨q0, q1, q2, q3, q4, q5, q6⟩ := ((unhide N6).below (Nat.le_refl _) hb9).all
                          have hB9 := hide ((unhide HBK).trans (hb9.mono (unhide HBK).size))
                          clear hb9 N4 N5 N6 HBK
                          go_wp2
                          refine bodyPost_ret (v := .tuple #[.agg #[.bool false, .slice none 0 0, .slice none 0 0], .int .i64 7]) (by simp [results, Try.results24, go_sem, q0, q1, q2]) rfl ?_
                          rw [unhide HS]
                          exact ⟨none, 0, 0, none, 0, 0, rfl, row_nil _ _, row_nil _ _, (((unhide hB9).setCell (by simp <;> omega) _).setCell (by simp <;> omega) _).setCell (by simp <;> omega) _⟩
                        | true =>
                          obtain ⟨Bn, hBn⟩ : ∃ n : Nat, B = (n : Int) := ⟨B.toNat, by have := ((unhide HLI).take (L.length - 1)).bd.1; have e : prodAll (L.take (L.length - 1)) = B := unhide HEB; omega⟩
                          obtain ⟨xn, hxn⟩ : ∃ n : Nat, x = (n : Int) := ⟨x.toNat, by omega⟩
                          obtain ⟨yn, hyn⟩ : ∃ n : Nat, y = (n : Int) := ⟨y.toNat, by omega⟩
                          subst hBn
                          subst hxn
                          subst hyn
                          have HPX : Hid (Bn * xn = p2) := by
                            show _ = _
                            have h := unhide HLP
                            rw [front_last (l := L) (by intro e; rw [e] at hL0'; simp at hL0'), prodAll_append, unhide HEB, unhide HEx] at h
                            simp [prodAll] at h
                            have : ((Bn * xn : Nat) : Int) = (p2 : Int) := by rw [← h]; simp
                            omega
                          have HPY : Hid (Bn * yn = q2) := by
                            show _ = _
                            have h := unhide HRP
                            rw [front_last (l := R) (by intro e; rw [e] at hR0'; simp at hR0'), prodAll_append, ← unhide HFR, unhide HEB, unhide HEy] at h
                            simp [prodAll] at h
                            have : ((Bn * yn : Nat) : Int) = (q2 : Int) := by rw [← h]; simp
                            omega
                          have hBb : Bn ≤ 10000 := by have := ((unhide HLI).take (L.length - 1)).bd.2; have e : prodAll (L.take (L.length - 1)) = (Bn : Int) := unhide HEB; omega
                          have hp2 : p2 ≤ 10000 := by have := (unhide HLI).bd.2; have := unhide HLP; omega
                          have hq2 : q2 ≤ 10000 := by have := (unhide HRI).bd.2; have := unhide HRP; omega
                          have HS : Hid (catenate c d sh dt sh' dt' = ⟨chr, ZS, catN X Y xn yn Bn, 0⟩) := by
                            show _ = _
                            rw [cat_go (unhide HR1) (unhide HR2) (unhide HEL) (unhide HER) (unhide HEX) (unhide HEY) (unhide HLE) (unhide HFR) (unhide HND) (by rw [unhide HEx, unhide HEy, front_without, unhide HZS]; exact unhide HSB), unhide HEx, unhide HEy, unhide HEB, front_without, unhide HZS, unhide HCHR]
                            simp
                          have hGA : Gat w7 P chr (some ⟨b8, 0, none⟩) (nf + 1) csh ZS [] 0 wk G 0 := ⟨unhide HBX, (unhide HBG).owns hGl, unhide HOB, hbG, unhide HLOW, hPl⟩
                          have HGA := hide hGA
                          clear hGA
                          have hz7 := (unhide HLOW).size
                          have hB7z := (unhide HB7).size
                          go_wp2_with (go_at_call 57; refine (l3ShapeOk_eq _ _ _ ZS _ (unhide HOB).row _ HSB).mono ?_; rintro e wq ⟨rfl, hw⟩; obtain rfl := hw.symm)
                          clear z0 z1 z2 z3 z4 z5 z6 HBX HBG HOB N4 N5 N6 HBK
                          go_loopw [15] (fun i wr => ∃ k g cap n, k ≤ Bn ∧ i = .int .i64 (k : Nat) ∧ Hid (Gat w7 P chr (some ⟨b8, 0, none⟩) (nf + 1) csh ZS (catN X Y xn yn k) n wr g cap) ∧ Hid (n ≤ k * (xn + yn))) (fun i _ => Bn - (intOf i).toNat)
                          case atStart => exact ⟨0, G, 0, 0, Nat.zero_le _, rfl, HGA, Nat.zero_le _⟩
                          case round =>
                            obtain ⟨k, g, cap, n, hk, rfl, hst, HN⟩ := hrel
                            have hst' := unhide hst
                            by_cases hlt : k < Bn
                            · obtain ⟨hu1, hu2, hu3⟩ := cat_bounds hlt (unhide HPX) (unhide HPY) (unhide HN)
                              have HNX := hide (cat_next (x := xn) (y := yn) (unhide HN))
                              have HK1 : Hid (k + 1 ≤ Bn) := hlt
                              obtain ⟨u, hu⟩ : ∃ u, k * xn = u := ⟨_, rfl⟩
                              obtain ⟨t, ht⟩ : ∃ t, k * yn = t := ⟨_, rfl⟩
                              rw [hu] at hu1
                              rw [ht] at hu2
                              have HU := hide hu
                              have HT := hide ht
                              have hm1 : IntKind.i64.wrap ((k : Int) * (xn : Int)) = (u : Int) := by
                                have : ((k : Int) * (xn : Int)) = (u : Int) := by rw [← hu]; simp
                                rw [this, IntKind.wrap_i64]; omega
                              have hm2 : IntKind.i64.wrap ((k : Int) * (yn : Int)) = (t : Int) := by
                                have : ((k : Int) * (yn : Int)) = (t : Int) := by rw [← ht]; simp
                                rw [this, IntKind.wrap_i64]; omega
                              obtain ⟨v, hv⟩ : ∃ v, u + xn = v := ⟨_, rfl⟩
                              obtain ⟨r, hr⟩ : ∃ r, t + yn = r := ⟨_, rfl⟩
                              have ha1 : IntKind.i64.wrap ((u : Int) + (xn : Int)) = (v : Int) := by rw [IntKind.wrap_i64]; omega
                              have hb1 : v ≤ e2 := by omega
                              have hc1' : u ≤ v := by omega
                              have hd1' : v - u = xn := by omega
                              obtain ⟨AX, hAX⟩ : ∃ A, (if e2 = u then some A2 else some (A2.add u)) = some A := by by_cases h : e2 = u <;> simp [h]
                              have ha2 : IntKind.i64.wrap ((t : Int) + (yn : Int)) = (r : Int) := by rw [IntKind.wrap_i64]; omega
                              have hb2 : r ≤ f2 := by omega
                              have hc2' : t ≤ r := by omega
                              have hd2' : r - t = yn := by omega
                              obtain ⟨AY, hAY⟩ : ∃ A, (if f2 = t then some B2 else some (B2.add t)) = some A := by by_cases h : f2 = t <;> simp [h]
                              clear hu ht hv hr
                              have RX := hide ((unhide S2).below (Nat.le_refl _) hst'.low)
                              go_upto_region 32 with fail
                              go_cut [] (fun wx => ∃ g' cap', Gat w7 P chr (some ⟨b8, 0, none⟩) (nf + 1) csh ZS (catN X Y xn yn k ++ (X.drop u).take xn) (n + xn) wx g' cap')
                              case first => as_aux_lemma =>
                                refine regionC32 _ wr (by simp) P w.heap.size rfl rfl k xn u v rfl rfl hm1 ha1 g n cap ((catN X Y xn yn k).map (Value.int .i64)) (((X.drop u).take xn).map (Value.int .i64)) A2 AX p2 e2 hb1 hc1' hd1' hAX (sub_len (unhide HLX) hu1) (one_ints _) (sub_cells' hAX ((unhide RX).below (Nat.le_refl _) (Below.refl _ _).drew) hu1 le3) w7.heap.size hst'.drew.owns (by omega) hst'.low.size
                                  (fun wx => wx.cell? ⟨P, 2, none⟩ = some (.slice (some ⟨g, 0, none⟩) n cap) ∧ wx.cell? ⟨w.heap.size, 2, none⟩ = some (.slice (some A2) p2 e2) ∧ wx.frozen? ⟨P, 2, none⟩ = false) (fun wx h => h)
                                  (hst'.drew.holds ((unhide J4).below (Nat.le_refl _) hst'.drew.low)) (fun wx hg => holds_of (hst'.drew.grew hg).1 ((unhide J4).below (Nat.le_refl _) (hst'.drew.grew hg).2)) (fun _ _ _ _ _ h => h) ?_
                                intro g' cap' w6 hown' hgrow hat
                                obtain ⟨_, hst6⟩ := hst'.drew.push hown' hgrow hat
                                simp only [outC32, Act.put, List.setIfInBounds_toArray, List.set_cons_zero, List.set_cons_succ]
                                go_wp2_with fail
                                go_meet
                                case rel => exact ⟨g', cap', hst6⟩
                              case rest =>
                                obtain ⟨wp, hwp⟩ : ∃ x, x = wc := ⟨_, rfl⟩
                                subst hwp
                                obtain ⟨g1, cap1, hst1⟩ := hcut
                                clear RX hst hst'
                                have RY := hide ((unhide S4).below (Nat.le_refl _) hst1.low)
                                go_wp2_with fail
                                refine regionC33 _ wp (by simp) P (w.heap.size + 1) rfl rfl k yn t r rfl rfl hm2 ha2 g1 (n + xn) cap1 ((catN X Y xn yn k ++ (X.drop u).take xn).map (Value.int .i64)) (((Y.drop t).take yn).map (Value.int .i64)) B2 AY q2 f2 hb2 hc2' hd2' hAY (sub_len (unhide HLY) hu2) (one_ints _) (sub_cells' hAY ((unhide RY).below (Nat.le_refl _) (Below.refl _ _).drew) hu2 le4) w7.heap.size hst1.drew.owns (by omega) hst1.low.size
                                  (fun wx => wx.cell? ⟨P, 2, none⟩ = some (.slice (some ⟨g1, 0, none⟩) (n + xn) cap1) ∧ wx.cell? ⟨w.heap.size + 1, 2, none⟩ = some (.slice (some B2) q2 f2) ∧ wx.frozen? ⟨P, 2, none⟩ = false) (fun wx h => h)
                                  (hst1.drew.holds ((unhide J5).below (Nat.le_refl _) hst1.drew.low)) (fun wx hg => holds_of (hst1.drew.grew hg).1 ((unhide J5).below (Nat.le_refl _) (hst1.drew.grew hg).2)) (fun _ _ _ _ _ h => h) ?_
                                intro g' cap' w6 hown' hgrow hat
                                obtain ⟨_, hst6⟩ := hst1.drew.push hown' hgrow hat
                                have HST : Hid (Gat w7 P chr (some ⟨b8, 0, none⟩) (nf + 1) csh ZS (catN X Y xn yn (k + 1)) (n + xn + yn) (w6.setCell ⟨P, 2, none⟩ (.slice (some ⟨g', 0, none⟩) (n + xn + yn) cap')) g' cap') := by
                                  show Gat _ _ _ _ _ _ _ (catN X Y xn yn k ++ (X.drop (k * xn)).take xn ++ (Y.drop (k * yn)).take yn) _ _ _ _
                                  rw [unhide HU, unhide HT]
                                  exact hst6
                                clear hst1 hst6 RY hown' hgrow hat
                                simp only [outC33, Act.put, List.setIfInBounds_toArray, List.set_cons_zero, List.set_cons_succ]
                                go_wp2_with fail
                                go_roundw
                                case rel => exact ⟨k + 1, g', cap', n + xn + yn, unhide HK1, by go_num, HST, HNX⟩
                                case measure => have hk1 := unhide HK1; simp [intOf]; omega
                            · have hkB : k = Bn := by omega
                              subst hkB
                              have hlen := hst'.len
                              have hn2 : n ≤ 20000 := by
                                have h1 := unhide HN
                                rw [Nat.mul_add, unhide HPX, unhide HPY] at h1
                                omega
                              obtain ⟨ad', cd, hv, hD⟩ := Own.of_owns hst'.owns (by omega)
                              cases hv
                              have G6 := hide ((unhide J6).below (Nat.le_refl _) hst'.low)
                              obtain ⟨q0, q1', q2', q3, q4, q5, q6⟩ := (unhide G6).all
                              obtain ⟨z0, z1, z2, z3, z4, z5, z6⟩ := hst'.box.all
                              have HW6 := hide ((unhide HB7).trans (hst'.low.mono hB7z))
                              have HO6 := hide hst'.own
                              have HD := hide hD
                              clear hst hst' hD
                              go_wp2
                              have hx := (unhide G6).sets (c' := chr) (u1 := .slice (some ⟨b8, 0, none⟩) (nf + 1) csh) (u2 := .slice (some ⟨g, 0, none⟩) n cap)
                              obtain ⟨r0, r1, r2, _, _, _⟩ := hx.all
                              refine bodyPost_ret (v := .tuple #[.agg #[.bool chr, .slice (some ⟨b8, 0, none⟩) (nf + 1) csh, .slice (some ⟨g, 0, none⟩) n cap], .int .i64 0]) (by simp [results, Try.results24, go_sem, r0, r1, r2]) rfl ?_
                              rw [unhide HS]
                              exact ⟨some ⟨b8, 0, none⟩, nf + 1, csh, some ⟨g, 0, none⟩, n, cap, rfl, (unhide HO6).row.sets (unhide G6) _ _ _, (unhide HD).row.sets (unhide G6) _ _ _, (((unhide HW6).setCell (by simp <;> omega) _).setCell (by simp <;> omega) _).setCell (by simp <;> omega) _⟩

end Go.Proofs.Ytogmcecnckgcpaa
