import Derived.Test.YtgjpchnkodnieaaGreatDoorImplRep
import Derived.Test.YtgjpchnkodnieaaGreatDoorImplAxisZ
import Derived.Test.YtgjpchnkodnieaaGreatDoorImplAxLen
import Derived.Test.YtgjpchnkodnieaaGreatDoorMFit0
import Derived.Deep.RegionWith
import Derived.Deep.RegionHeld3
namespace Go.Proofs.YtgjpchnkodnieaaGreatDoor
open Go.RowKit

theorem stSh_pos {n : Int} {sh : List Int} (h : sh ≠ []) : stSh n sh = sh := by unfold stSh; rw [if_neg h]
theorem stDt_pos {n : Int} {sh dt : List Int} (h : sh ≠ []) : stDt n sh dt = dt := by unfold stDt; rw [if_neg h]

/-- The length of the first axis, where the other array is a scalar. -/
theorem innN_first {sh' : List Int} {N : Nat} (h : innN [] sh' = N) : sh' ≠ [] → axisN sh' true = N := fun hne => by
  unfold innN at h; rw [if_neg hne] at h; simpa [axisN, axisAt] using h
theorem innN_none {N : Nat} (h : innN [] [] = N) : N = 1 := by unfold innN at h; simp at h; omega
theorem innN_last {sh : List Int} {N : Nat} (h : innN sh [] = N) : axisN (stSh (N : Int) sh) false = N := by
  unfold innN at h
  rw [if_pos rfl] at h
  by_cases hs : sh = []
  · rw [if_pos hs] at h; subst hs; simp [stSh, axisN, axisAt]
  · rw [if_neg hs] at h; rw [stSh_pos hs]; simpa [axisN, axisAt] using h

theorem But.drw {S : Nat → Prop} {w w' : World} (h : But S w w') : But S w w'.drew := (h.trans (T := fun _ => False) (But.of_below (Below.refl _ _).drew)).mono (fun _ hk => hk.elim id False.elim)

theorem four_boxesS (w : World) (c d : Bool) (v1 v2 u1 u2 : Value) :
    let W := (((w.alloc (.cells #[.bool c, v1, v2] 25)).alloc (.cells #[.bool d, u1, u2] 25)).alloc (.cells #[.bool false, .slice none 0 0, .slice none 0 0] 25)).alloc (.cells #[.bool false, .slice none 0 0, .slice none 0 0] 25)
    Box W w.heap.size c v1 v2 ∧ Box W (w.heap.size + 1) d u1 u2 ∧ Box W (w.heap.size + 2) false (.slice none 0 0) (.slice none 0 0) ∧ Box W (w.heap.size + 3) false (.slice none 0 0) (.slice none 0 0) ∧ Below w.heap.size w W ∧ W.heap.size = w.heap.size + 4 := by
  refine ⟨(((Box.new w c v1 v2).alloc _).alloc _).alloc _, ?_, ?_, ?_, ((((Below.refl _ _).alloc (Nat.le_refl _) _).alloc (by simp) _).alloc (by simp <;> omega) _).alloc (by simp <;> omega) _, by simp⟩
  · have := ((Box.new (w.alloc (.cells #[.bool c, v1, v2] 25)) d u1 u2).alloc (.cells #[.bool false, .slice none 0 0, .slice none 0 0] 25)).alloc (.cells #[.bool false, .slice none 0 0, .slice none 0 0] 25)
    simpa using this
  · have := (Box.new ((w.alloc (.cells #[.bool c, v1, v2] 25)).alloc (.cells #[.bool d, u1, u2] 25)) false (.slice none 0 0) (.slice none 0 0)).alloc (.cells #[.bool false, .slice none 0 0, .slice none 0 0] 25)
    simpa using this
  · have := Box.new (((w.alloc (.cells #[.bool c, v1, v2] 25)).alloc (.cells #[.bool d, u1, u2] 25)).alloc (.cells #[.bool false, .slice none 0 0, .slice none 0 0] 25)) false (.slice none 0 0) (.slice none 0 0)
    simpa using this

/-- Two arrays stored into two boxes. -/
def Both (w : World) (P Q : Nat) (c d : Bool) (a1 a2 b1 b2 : Addr) (p1 p2 q1 q2 e1 e2 f1 f2 : Nat) (s x s' y : List Int) (wx : World) : Prop :=
  Box wx P c (.slice (some a1) p1 e1) (.slice (some a2) p2 e2) ∧ Box wx Q d (.slice (some b1) q1 f1) (.slice (some b2) q2 f2) ∧ Row wx (some a1) p1 s ∧ Row wx (some a2) p2 x ∧ Row wx (some b1) q1 s' ∧ Row wx (some b2) q2 y ∧ Below w.heap.size w wx

theorem Both.swap {w wx : World} {P Q : Nat} {c d : Bool} {a1 a2 b1 b2 : Addr} {p1 p2 q1 q2 e1 e2 f1 f2 : Nat} {s x s' y : List Int} (h : Both w Q P d c b1 b2 a1 a2 q1 q2 p1 p2 f1 f2 e1 e2 s' y s x wx) : Both w P Q c d a1 a2 b1 b2 p1 p2 q1 q2 e1 e2 f1 f2 s x s' y wx := by
  obtain ⟨h1, h2, h3, h4, h5, h6, h7⟩ := h
  exact ⟨h2, h1, h5, h6, h3, h4, h7⟩

theorem both_stored {w W : World} {P Q : Nat} {c d c' d' : Bool} {a1 a2 b1 b2 : Addr} {p1 p2 q1 q2 e1 e2 f1 f2 : Nat} {s x s' y : List Int} {o1 o2 o3 o4 : Option Addr} {l1 l2 l3 l4 k1 k2 k3 k4 : Nat} (hP : Box W P c' (.slice o1 l1 k1) (.slice o2 l2 k2)) (hQ : Box W Q d' (.slice o3 l3 k3) (.slice o4 l4 k4)) (hne : P ≠ Q) (hp : w.heap.size ≤ P) (hq : w.heap.size ≤ Q)
    (h1 : Row W (some a1) p1 s) (h2 : Row W (some a2) p2 x) (h3 : Row W (some b1) q1 s') (h4 : Row W (some b2) q2 y) (hb : Below w.heap.size w W) :
    Both w P Q c d a1 a2 b1 b2 p1 p2 q1 q2 e1 e2 f1 f2 s x s' y ((((((W.setCell ⟨P, 0, none⟩ (.bool c)).setCell ⟨P, 1, none⟩ (.slice (some a1) p1 e1)).setCell ⟨P, 2, none⟩ (.slice (some a2) p2 e2)).setCell ⟨Q, 0, none⟩ (.bool d)).setCell ⟨Q, 1, none⟩ (.slice (some b1) q1 f1)).setCell ⟨Q, 2, none⟩ (.slice (some b2) q2 f2)).drew := by
  have hQ1 := ((hQ.other (q := ⟨P, 0, none⟩) hne.symm (.bool c)).other (q := ⟨P, 1, none⟩) hne.symm (.slice (some a1) p1 e1)).other (q := ⟨P, 2, none⟩) hne.symm (.slice (some a2) p2 e2)
  have hP1 := (((hP.sets (c' := c) (u1 := .slice (some a1) p1 e1) (u2 := .slice (some a2) p2 e2)).other (q := ⟨Q, 0, none⟩) hne (.bool d)).other (q := ⟨Q, 1, none⟩) hne (.slice (some b1) q1 f1)).other (q := ⟨Q, 2, none⟩) hne (.slice (some b2) q2 f2)
  exact ⟨hP1.drew, hQ1.sets.drew, ((h1.sets hP _ _ _).sets hQ1 _ _ _).below (Nat.le_refl _) (Below.refl _ _).drew, ((h2.sets hP _ _ _).sets hQ1 _ _ _).below (Nat.le_refl _) (Below.refl _ _).drew, ((h3.sets hP _ _ _).sets hQ1 _ _ _).below (Nat.le_refl _) (Below.refl _ _).drew, ((h4.sets hP _ _ _).sets hQ1 _ _ _).below (Nat.le_refl _) (Below.refl _ _).drew, ((((((hb.setCell hp _).setCell hp _).setCell hp _).setCell hq _).setCell hq _).setCell hq _).drew⟩

set_option maxRecDepth 20000 in
set_option maxHeartbeats 8000000 in
theorem spread_any (c d : Bool) (a1 a2 b1 b2 : Addr) (n1 n2 m1 m2 c1 c2 d1 d2 N : Nat) (sh dt sh' dt' : List Int) (w : World) (h1 : Row w (some a1) n1 sh) (h2 : Row w (some a2) n2 dt) (k1 : Row w (some b1) m1 sh') (k2 : Row w (some b2) m2 dt') (hc1 : n1 ≤ c1) (hd1 : m1 ≤ d1) (hok : arrOk c sh dt = true) (hok' : arrOk d sh' dt' = true) (hN : innN sh sh' = N) (hN10 : N ≤ 10000) :
    Calls Tryz.prog 111 #[.agg #[.bool c, .slice (some a1) n1 c1, .slice (some a2) n2 c2], .agg #[.bool d, .slice (some b1) m1 d1, .slice (some b2) m2 d2]] w fun e w' => ∃ a1' p1 e1 a2' p2 e2 b1' q1 f1 b2' q2 f2, e = .returned (.tuple #[.agg #[.bool c, .slice (some a1') p1 e1, .slice (some a2') p2 e2], .agg #[.bool d, .slice (some b1') q1 f1, .slice (some b2') q2 f2]]) ∧ Row w' (some a1') p1 (stSh N sh) ∧ Row w' (some a2') p2 (stDt N sh dt) ∧ Row w' (some b1') q1 (stSh N sh') ∧ Row w' (some b2') q2 (stDt N sh' dt') ∧ p1 ≤ e1 ∧ q1 ≤ f1 ∧ Below w.heap.size w w' := by
  have H1 := hide h1
  have H2 := hide h2
  have K1 := hide k1
  have K2 := hide k2
  have HOK := hide hok
  have HOK' := hide hok'
  have HN := hide hN
  have hl1 := hide h1.len
  have hl2 := hide h2.len
  have hl3 := hide k1.len
  have hl4 := hide k2.len
  have hs1 := h1.small
  have hs3 := k1.small
  clear h1 h2 k1 k2 hok hok' hN
  obtain ⟨hB0, hB1, hB2, hB3, hbw, hW⟩ := four_boxesS w c d (.slice (some a1) n1 c1) (.slice (some a2) n2 c2) (.slice (some b1) m1 d1) (.slice (some b2) m2 d2)
  go_enter Tryz.func111, Tryz.ntmps111
  go_upto_region 1 with fail
  generalize (((w.alloc (.cells #[.bool c, .slice (some a1) n1 c1, .slice (some a2) n2 c2] 25)).alloc (.cells #[.bool d, .slice (some b1) m1 d1, .slice (some b2) m2 d2] 25)).alloc (.cells #[.bool false, .slice none 0 0, .slice none 0 0] 25)).alloc (.cells #[.bool false, .slice none 0 0, .slice none 0 0] 25) = W at *
  have HB0 := hide hB0
  have HB1 := hide hB1
  have HB2 := hide hB2
  have HB3 := hide hB3
  have HBW := hide hbw
  clear hB0 hB1 hB2 hB3 hbw
  obtain ⟨x0, x1, x2, x3, x4, x5, x6⟩ := (unhide HB0).all
  obtain ⟨y0, y1, y2, y3, y4, y5, y6⟩ := (unhide HB1).all
  go_upto_if 9 with fail
  go_cut [] (fun wx => ∃ a1' p1 e1 a2' p2 e2, Box wx w.heap.size c (.slice (some a1') p1 e1) (.slice (some a2') p2 e2) ∧ Box wx (w.heap.size + 1) d (.slice (some b1) m1 d1) (.slice (some b2) m2 d2) ∧ Box wx (w.heap.size + 2) false (.slice none 0 0) (.slice none 0 0) ∧ Box wx (w.heap.size + 3) false (.slice none 0 0) (.slice none 0 0) ∧ Row wx (some a1') p1 (stSh N sh) ∧ Row wx (some a2') p2 (stDt N sh dt) ∧ p1 ≤ e1 ∧ Below w.heap.size w wx)
  case first =>
    as_aux_lemma =>
      by_cases hn0 : n1 = 0
      · have hs0 : sh = [] := List.length_eq_zero_iff.mp ((unhide hl1).trans hn0)
        subst hs0
        have hn2 : n2 = 1 := by
          have := (shapeIn_of (unhide HOK)).2.1
          rw [unhide hl2] at this
          simp [prodAll] at this
          omega
        subst hn0 hn2
        obtain ⟨v, hv⟩ : ∃ v, dt = [v] := List.length_eq_one_iff.mp (unhide hl2)
        have HAX : Hid (∀ wx, Below w.heap.size w wx → Calls Tryz.prog 112 #[.slice (some b1) m1 d1, .bool true] wx (LenIs N wx)) := fun wx hwx => axisOf_len true b1 m1 d1 N sh' d dt' wx ((unhide K1).below (Nat.le_refl _) hwx) hd1 (unhide HOK') (innN_first (unhide HN)) (fun e => by have := unhide HN; rw [e] at this; exact innN_none this)
        have HV : Hid (Row w (some a2) 1 [v]) := by rw [← hv]; exact unhide H2
        have HST : Hid (stSh (N : Int) [] = [(N : Int)] ∧ stDt (N : Int) [] dt = List.replicate N v) := ⟨rfl, by rw [hv]; simp [stDt]⟩
        clear hv
        have hfld := field_len
        go_upto_region 2 with fail
        go_region_with
          (first
          | (go_at_call 112; refine (unhide HAX _ (unhide HBW).drew).mono ?_; rintro e w1 ⟨B, A, oa, ol, oc, rfl, hb1⟩; have HKA : Hid (Below W.heap.size W w1) := (Below.refl _ _).drew.trans (hb1.mono (by simp)); obtain ⟨x0, x1, x2, x3, x4, x5, x6⟩ := ((unhide HB0).below (Nat.le_refl _) (unhide HKA)).all; clear hb1)
          | (go_at_call 184; refine (repeated_any c a1 a2 0 c1 c2 N v _ ((unhide HV).below (Nat.le_refl _) ((unhide HBW).trans ((unhide HKA).mono (by omega)))) hN10).mono ?_; rintro e w2 ⟨s, g, cap, rfl, hr1, hr2, hb2⟩; have HKB : Hid (Below W.heap.size W w2) := (unhide HKA).trans (hb2.mono (unhide HKA).size); have HR1 := hide hr1; have HR2 := hide hr2; obtain ⟨x0, x1, x2, x3, x4, x5, x6⟩ := ((unhide HB0).below (Nat.le_refl _) (unhide HKB)).all; clear hb2 hr1 hr2))
        all_goals go_wp2_with fail
        all_goals go_meet
        all_goals case rel =>
          have hD0 := (unhide HB0).below (Nat.le_refl _) (unhide HKB)
          have hD1 := (unhide HB1).below (Nat.le_refl _) (unhide HKB)
          have hD2 := (unhide HB2).below (Nat.le_refl _) (unhide HKB)
          have hD3 := (unhide HB3).below (Nat.le_refl _) (unhide HKB)
          rw [(unhide HST).1, (unhide HST).2]
          exact ⟨_, 1, 1, _, N, cap, hD0.sets, ((hD1.other (by simp) _).other (by simp) _).other (by simp) _, ((hD2.other (by simp) _).other (by simp) _).other (by simp) _, ((hD3.other (by simp) _).other (by simp) _).other (by simp) _, (unhide HR1).sets hD0 _ _ _, (unhide HR2).sets hD0 _ _ _, Nat.le_refl _, ((((unhide HBW).trans ((unhide HKB).mono (by omega))).setCell (Nat.le_refl _) _).setCell (Nat.le_refl _) _).setCell (Nat.le_refl _) _⟩
      · have g0 : ((n1 : Int) == 0) = false := by simp; omega
        have HNE : Hid (sh ≠ []) := fun e => hn0 (by rw [← unhide hl1, e]; rfl)
        clear hn0
        go_wp2_with fail
        go_meet
        case rel => exact ⟨a1, n1, c1, a2, n2, c2, unhide HB0, unhide HB1, unhide HB2, unhide HB3, by rw [stSh_pos (unhide HNE)]; exact (unhide H1).below (Nat.le_refl _) (unhide HBW), by rw [stDt_pos (unhide HNE)]; exact (unhide H2).below (Nat.le_refl _) (unhide HBW), hc1, unhide HBW⟩
  case rest =>
    clear x0 x1 x2 x3 x4 x5 x6 y0 y1 y2 y3 y4 y5 y6 HB0 HB1 HB2 HB3 HBW hW W
    obtain ⟨W, hWe⟩ : ∃ x, x = wc := ⟨_, rfl⟩
    subst hWe
    obtain ⟨a1', p1, e1, a2', p2, e2, hB0, hB1, hB2, hB3, hR1, hR2, hpe, hbw⟩ := hcut
    have HB0 := hide hB0
    have HB1 := hide hB1
    have HB2 := hide hB2
    have HB3 := hide hB3
    have HBW := hide hbw
    have HX1 := hide hR1
    have HX2 := hide hR2
    have hW := hB3.lt
    clear hB0 hB1 hB2 hB3 hbw hR1 hR2
    obtain ⟨y0, y1, y2, y3, y4, y5, y6⟩ := (unhide HB1).all
    obtain ⟨x0, x1, x2, x3, x4, x5, x6⟩ := (unhide HB0).all
    go_upto_if 19 with fail
    go_cut [] (fun wx => ∃ b1' q1 f1 b2' q2 f2, Box wx w.heap.size c (.slice (some a1') p1 e1) (.slice (some a2') p2 e2) ∧ Box wx (w.heap.size + 1) d (.slice (some b1') q1 f1) (.slice (some b2') q2 f2) ∧ Box wx (w.heap.size + 2) false (.slice none 0 0) (.slice none 0 0) ∧ Box wx (w.heap.size + 3) false (.slice none 0 0) (.slice none 0 0) ∧ Row wx (some a1') p1 (stSh N sh) ∧ Row wx (some a2') p2 (stDt N sh dt) ∧ Row wx (some b1') q1 (stSh N sh') ∧ Row wx (some b2') q2 (stDt N sh' dt') ∧ q1 ≤ f1 ∧ Below w.heap.size w wx)
    case first =>
      as_aux_lemma =>
        by_cases hn0 : m1 = 0
        · have hs0 : sh' = [] := List.length_eq_zero_iff.mp ((unhide hl3).trans hn0)
          subst hs0
          have hn2 : m2 = 1 := by
            have := (shapeIn_of (unhide HOK')).2.1
            rw [unhide hl4] at this
            simp [prodAll] at this
            omega
          subst hn0 hn2
          obtain ⟨v, hv⟩ : ∃ v, dt' = [v] := List.length_eq_one_iff.mp (unhide hl4)
          have HAX : Hid (∀ wx, Below W.heap.size W wx → Calls Tryz.prog 112 #[.slice (some a1') p1 e1, .bool false] wx (LenIs N wx)) := fun wx hwx => axisOf_len false a1' p1 e1 N (stSh N sh) c (stDt N sh dt) wx ((unhide HX1).below (Nat.le_refl _) hwx) hpe (st_ok (unhide HOK) (Int.natCast_nonneg N) (by omega)) (fun _ => innN_last (unhide HN)) (fun e => absurd e (stSh_ne _ _))
          have HV : Hid (Row w (some b2) 1 [v]) := by rw [← hv]; exact unhide K2
          have HST : Hid (stSh (N : Int) [] = [(N : Int)] ∧ stDt (N : Int) [] dt' = List.replicate N v) := ⟨rfl, by rw [hv]; simp [stDt]⟩
          clear hv
          have hfld := field_len
          go_upto_region 4 with fail
          go_region_with
            (first
            | (go_at_call 112; refine (unhide HAX _ (Below.refl _ _).drew).mono ?_; rintro e w1 ⟨B, A, oa, ol, oc, rfl, hb1⟩; have HKA : Hid (Below W.heap.size W w1) := (Below.refl _ _).drew.trans (hb1.mono (by simp)); obtain ⟨y0, y1, y2, y3, y4, y5, y6⟩ := ((unhide HB1).below (Nat.le_refl _) (unhide HKA)).all; clear hb1)
            | (go_at_call 184; refine (repeated_any d b1 b2 0 d1 d2 N v _ ((unhide HV).below (Nat.le_refl _) ((unhide HBW).trans ((unhide HKA).mono (by omega)))) hN10).mono ?_; rintro e w2 ⟨s, g, cap, rfl, hr1, hr2, hb2⟩; have HKB : Hid (Below W.heap.size W w2) := (unhide HKA).trans (hb2.mono (unhide HKA).size); have HR1 := hide hr1; have HR2 := hide hr2; obtain ⟨y0, y1, y2, y3, y4, y5, y6⟩ := ((unhide HB1).below (Nat.le_refl _) (unhide HKB)).all; clear hb2 hr1 hr2))
          all_goals go_wp2_with fail
          all_goals go_meet
          all_goals case rel =>
            have hD0 := (unhide HB0).below (Nat.le_refl _) (unhide HKB)
            have hD1 := (unhide HB1).below (Nat.le_refl _) (unhide HKB)
            have hD2 := (unhide HB2).below (Nat.le_refl _) (unhide HKB)
            have hD3 := (unhide HB3).below (Nat.le_refl _) (unhide HKB)
            rw [(unhide HST).1, (unhide HST).2]
            exact ⟨_, 1, 1, _, N, cap, ((hD0.other (by simp) _).other (by simp) _).other (by simp) _, hD1.sets, ((hD2.other (by simp) _).other (by simp) _).other (by simp) _, ((hD3.other (by simp) _).other (by simp) _).other (by simp) _, ((unhide HX1).below (Nat.le_refl _) (unhide HKB)).sets hD1 _ _ _, ((unhide HX2).below (Nat.le_refl _) (unhide HKB)).sets hD1 _ _ _, (unhide HR1).sets hD1 _ _ _, (unhide HR2).sets hD1 _ _ _, Nat.le_refl _, ((((unhide HBW).trans ((unhide HKB).mono (by omega))).setCell (by simp) _).setCell (by simp) _).setCell (by simp) _⟩
        · have g0 : ((m1 : Int) == 0) = false := by simp; omega
          have HNE : Hid (sh' ≠ []) := fun e => hn0 (by rw [← unhide hl3, e]; rfl)
          clear hn0
          go_wp2_with fail
          go_meet
          case rel => exact ⟨b1, m1, d1, b2, m2, d2, unhide HB0, unhide HB1, unhide HB2, unhide HB3, unhide HX1, unhide HX2, by rw [stSh_pos (unhide HNE)]; exact (unhide K1).below (Nat.le_refl _) (unhide HBW), by rw [stDt_pos (unhide HNE)]; exact (unhide K2).below (Nat.le_refl _) (unhide HBW), hd1, unhide HBW⟩
    case rest =>
      clear x0 x1 x2 x3 x4 x5 x6 y0 y1 y2 y3 y4 y5 y6 HB0 HB1 HB2 HB3 HBW HX1 HX2 hW W
      obtain ⟨W, hWe⟩ : ∃ x, x = wc := ⟨_, rfl⟩
      subst hWe
      obtain ⟨b1', q1, f1, b2', q2, f2, hB0, hB1, hB2, hB3, hR1, hR2, hS1, hS2, hqf, hbw⟩ := hcut
      have HB0 := hide hB0
      have HB1 := hide hB1
      have HB2 := hide hB2
      have HB3 := hide hB3
      have HBW := hide hbw
      have HX1 := hide hR1
      have HX2 := hide hR2
      have HY1 := hide hS1
      have HY2 := hide hS2
      have hW := hB3.lt
      clear hB0 hB1 hB2 hB3 hbw hR1 hR2 hS1 hS2
      have ne1 : ¬ (w.heap.size + 1 + 1 = w.heap.size) := by omega
      have ne2 : ¬ (w.heap.size + 1 + 1 + 1 = w.heap.size) := by omega
      obtain ⟨x0, x1, x2⟩ := (unhide HB0).cells
      obtain ⟨y0, y1, y2⟩ := (unhide HB1).cells
      obtain ⟨r0, r1, r2, r3, r4, r5, r6⟩ := (unhide HB2).all
      obtain ⟨t0, t1, t2, t3, t4, t5, t6⟩ := (unhide HB3).all
      go_upto_region 5 with fail
      go_cut [] (fun wx => Both w (w.heap.size + 1 + 1) (w.heap.size + 1 + 1 + 1) c d a1' a2' b1' b2' p1 p2 q1 q2 e1 e2 f1 f2 (stSh N sh) (stDt N sh dt) (stSh N sh') (stDt N sh' dt') wx)
      case first =>
        go_region_held3 (fun wx => wx.cell? ⟨w.heap.size, 0, none⟩ = some (.bool c) ∧ wx.cell? ⟨w.heap.size, 1, none⟩ = some (.slice (some a1') p1 e1) ∧ wx.cell? ⟨w.heap.size, 2, none⟩ = some (.slice (some a2') p2 e2) ∧ wx.cell? ⟨w.heap.size + 1, 0, none⟩ = some (.bool d) ∧ wx.cell? ⟨w.heap.size + 1, 1, none⟩ = some (.slice (some b1') q1 f1) ∧ wx.cell? ⟨w.heap.size + 1, 2, none⟩ = some (.slice (some b2') q2 f2)) (first | (refine ⟨?_, ?_, ?_, ?_, ?_, ?_⟩ <;> (simp [World.cell?_setCell_far, ne1, ne2]; assumption)) | go_keep) (first | fail)
        all_goals go_wp2_with fail
        all_goals have HP2 : Box W (w.heap.size + 1 + 1) false (.slice none 0 0) (.slice none 0 0) := unhide HB2
        all_goals have HP3 : Box W (w.heap.size + 1 + 1 + 1) false (.slice none 0 0) (.slice none 0 0) := unhide HB3
        all_goals have hne : w.heap.size + 1 + 1 ≠ w.heap.size + 1 + 1 + 1 := by omega
        all_goals have hp2 : w.heap.size ≤ w.heap.size + 1 + 1 := by omega
        all_goals have hp3 : w.heap.size ≤ w.heap.size + 1 + 1 + 1 := by omega
        all_goals go_meet
        all_goals case rel =>
          first
          | with_reducible exact both_stored HP2 HP3 hne hp2 hp3 (unhide HX1) (unhide HX2) (unhide HY1) (unhide HY2) (unhide HBW)
          | with_reducible exact Both.swap (both_stored HP3 HP2 hne.symm hp3 hp2 (unhide HY1) (unhide HY2) (unhide HX1) (unhide HX2) (unhide HBW))
      case rest =>
        clear x0 x1 x2 y0 y1 y2 r0 r1 r2 r3 r4 r5 r6 t0 t1 t2 t3 t4 t5 t6
        obtain ⟨w9, hw9⟩ : ∃ x, x = wc := ⟨_, rfl⟩
        subst hw9
        obtain ⟨hE2, hE3, g1, g2, g3, g4, gb⟩ := hcut
        obtain ⟨r0, r1, r2, r3, r4, r5, r6⟩ := hE2.all
        obtain ⟨t0, t1, t2, t3, t4, t5, t6⟩ := hE3.all
        clear hE2 hE3
        go_wp2
        refine bodyPost_ret (v := .tuple #[.agg #[.bool c, .slice (some a1') p1 e1, .slice (some a2') p2 e2], .agg #[.bool d, .slice (some b1') q1 f1, .slice (some b2') q2 f2]]) (by simp [results, Tryz.results111, go_sem, r0, r1, r2, t0, t1, t2]) rfl ?_
        exact ⟨a1', p1, e1, a2', p2, e2, b1', q1, f1, b2', q2, f2, rfl, g1, g2, g3, g4, hpe, hqf, gb⟩

end Go.Proofs.YtgjpchnkodnieaaGreatDoor
