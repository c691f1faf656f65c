import Derived.Test.YtgjpchnkodnieaaGreatDoorZv37
import Derived.Test.YtgjpchnkodnieaaGreatDoorZv21
import Derived.Test.YtgjpchnkodnieaaGreatDoorZv22
import Derived.Test.YtgjpchnkodnieaaGreatDoorZv31
import Derived.Test.YtgjpchnkodnieaaGreatDoorZv17
import Derived.Deep.RegionHeld3
import Derived.Deep.DeepCutAuto
namespace Go.Proofs.YtgjpchnkodnieaaGreatDoor
open Go.RowKit Go.Shelf
namespace Cuttaking
theorem boxNew (w : World) (p : Nat) (c : Bool) (v1 v2 : Value) (hp : p = w.heap.size) : Box (w.alloc (.cells #[.bool c, v1, v2] 25)) p c v1 v2 := by subst hp; exact Box.new w c v1 v2
theorem setS1 {w : World} {p : Nat} {c : Bool} {v1 v2 : Value} (h : Box w p c v1 v2) (v : Value) : Box (w.setCell ⟨p, 1, none⟩ v) p c v v2 := by
  unfold Box at h ⊢
  rw [heap_setCell_same w p 1 _ _ _ h]
  simp
set_option maxRecDepth 20000 in
set_option maxHeartbeats 4000000 in
theorem code (c d : Bool) (a1 a2 b1 b2 : Option Addr) (n1 n2 m1 m2 c1 c2 d1 d2 : Nat) (sh dt sh' dt' : List Int) (w : World) (h1 : Row w a1 n1 sh) (h2 : Row w a2 n2 dt) (k1 : Row w b1 m1 sh') (k2 : Row w b2 m2 dt') (r : Int) (hrc : codeList c d sh dt sh' dt' = r) (hr : r ≠ 0) :
    Calls Tryz.prog 93 #[.agg #[], .agg #[.bool c, .slice a1 n1 c1, .slice a2 n2 c2], .agg #[.bool d, .slice b1 m1 d1, .slice b2 m2 d2]] w (GivesCap w (noAns r)) := by
  have q : (r != 0) = true := by simp [hr]
  have HCN := hide hr
  clear hr
  obtain ⟨W0, hW0⟩ : ∃ W0, W0 = (((w.alloc (.cells #[] 115)).alloc (.cells #[.bool c, .slice a1 n1 c1, .slice a2 n2 c2] 25)).alloc (.cells #[.bool d, .slice b1 m1 d1, .slice b2 m2 d2] 25)).alloc (.cells #[.bool false, .slice none 0 0, .slice none 0 0] 25) := ⟨_, rfl⟩
  have hz0 : w.heap.size + 4 ≤ W0.heap.size := by rw [hW0]; simp
  have HB0 : Hid (Below w.heap.size w W0) := by rw [hW0]; exact ((((Below.refl _ w).alloc (Nat.le_refl _) _).alloc (by simp) _).alloc (by simp; omega) _).alloc (by simp; omega) _
  have HXH : Hid (W0.heap[w.heap.size]? = some (.cells #[] 115 (0, 0))) := by
    rw [hW0]
    exact (Below.heap_alloc _ _ _ (by simp; omega)).trans ((Below.heap_alloc _ _ _ (by simp; omega)).trans ((Below.heap_alloc _ _ _ (by simp)).trans (World.alloc_heap_new w _)))
  have HX0 : Hid (Box W0 (w.heap.size + 1) c (.slice a1 n1 c1) (.slice a2 n2 c2)) := by
    rw [hW0]; exact ((boxNew _ _ _ _ _ (by simp)).alloc _).alloc _
  have HX1 : Hid (Box W0 (w.heap.size + 1 + 1) d (.slice b1 m1 d1) (.slice b2 m2 d2)) := by
    rw [hW0]; exact (boxNew _ _ _ _ _ (by simp)).alloc _
  have HX2 : Hid (Box W0 (w.heap.size + 1 + 1 + 1) false (.slice none 0 0) (.slice none 0 0)) := by
    rw [hW0]; exact boxNew _ _ _ _ _ (by simp)
  have H1 := hide (h1.below (Nat.le_refl _) HB0.out)
  have H2 := hide (h2.below (Nat.le_refl _) HB0.out)
  have K1 := hide (k1.below (Nat.le_refl _) HB0.out)
  have K2 := hide (k2.below (Nat.le_refl _) HB0.out)
  have HP2 : Hid (∀ k, At a2 n2 k → k < w.heap.size) := fun k h => h2.hi h
  have HP4 : Hid (∀ k, At b2 m2 k → k < w.heap.size) := fun k h => k2.hi h
  have hs2 := h2.small
  have hs4 := k2.small
  have hs3 := k1.small
  have HW0 := hide hW0
  have HRC := hide hrc
  clear h1 h2 k1 k2 hrc hW0
  go_enter Tryz.func93, Tryz.ntmps93
  go_wp2_with (first | (go_at_call 57; rw [← HW0.out]; refine (implListCode_any c d a1 a2 b1 b2 n1 n2 m1 m2 c1 c2 d1 d2 sh dt sh' dt' _ H1.out H2.out K1.out K2.out _ HRC).mono ?_; rintro e w1 ⟨rfl, hb1⟩; have HE1 := hide hb1; clear hb1; obtain ⟨x0, x1, x2, x3, x4, x5, x6⟩ := (HX0.out.below (Nat.le_refl _) HE1.out).all; obtain ⟨y0, y1, y2, y3, y4, y5, y6⟩ := (HX1.out.below (Nat.le_refl _) HE1.out).all; obtain ⟨q0, q1, q2, q3, q4, q5, q6⟩ := (HX2.out.below (Nat.le_refl _) HE1.out).all))
  refine bodyPost_ret (v := .tuple #[.agg #[.bool false, .slice none 0 0, .slice none 0 0], .int .i64 r]) (by simp [results, Tryz.results93, go_sem, q0, q1, q2]) rfl ?_
  exact cap_none HCN.out ((((HB0.out.trans (HE1.out.mono (by omega))).setCell (by simp <;> omega) _).setCell (by simp <;> omega) _).setCell (by simp <;> omega) _)
set_option maxRecDepth 20000 in
set_option maxHeartbeats 4000000 in
theorem rest (c d : Bool) (a1 a2 b1 b2 : Option Addr) (n1 n2 m1 m2 c1 c2 d1 d2 : Nat) (sh dt sh' dt' : List Int) (w : World) (h1 : Row w a1 n1 sh) (h2 : Row w a2 n2 dt) (k1 : Row w b1 m1 sh') (k2 : Row w b2 m2 dt') (hrc : codeList c d sh dt sh' dt' = 0) (hok : arrOk c sh dt = true) (hok' : arrOk d sh' dt' = true) (bs : List Int) (hbs : bs = countedSh n2 sh') (R : Ans) (hR5 : bs.length ≠ n2 → R = noAns 5) (hR7 : bs.length = n2 → shapeB (made Z1taking dt bs n2) = false → R = noAns 7) (hRG : bs.length = n2 → shapeB (made Z1taking dt bs n2) = true → R = ⟨d, made Z1taking dt bs n2, vals (gatherAt d bs dt' (cutF (made S1taking dt bs n2)) (made Z1taking dt bs n2)) (countOf (made Z1taking dt bs n2)).toNat, 0⟩) :
    Calls Tryz.prog 93 #[.agg #[], .agg #[.bool c, .slice a1 n1 c1, .slice a2 n2 c2], .agg #[.bool d, .slice b1 m1 d1, .slice b2 m2 d2]] w (GivesCap w R) := by
  have HR5 : Hid (bs.length ≠ n2 → R = noAns 5) := hR5
  have HR7 : Hid (bs.length = n2 → shapeB (made Z1taking dt bs n2) = false → R = noAns 7) := hR7
  have HRG : Hid (bs.length = n2 → shapeB (made Z1taking dt bs n2) = true → R = ⟨d, made Z1taking dt bs n2, vals (gatherAt d bs dt' (cutF (made S1taking dt bs n2)) (made Z1taking dt bs n2)) (countOf (made Z1taking dt bs n2)).toNat, 0⟩) := hRG
  clear hR5 hR7 hRG
  have hl1 := k1.len
  have HPB : Hid (prodAll bs = (m2 : Int)) := by
    obtain ⟨_, hpr, _⟩ := shapeIn_of hok'
    rw [k2.len] at hpr
    rw [hbs]; unfold countedSh
    split
    · rename_i e; rw [e] at hpr; rw [(ones_in n2).2]; exact hpr
    · exact hpr
  have HSI : Hid (ShapeIn bs) := by rw [hbs]; unfold countedSh; split; exact (ones_in n2).1; exact (shapeIn_of hok').1
  have hn2 : n2 ≤ 10000 := by obtain ⟨hin, hp, _⟩ := shapeIn_of hok; have := hin.bd; rw [hp, h2.len] at this; omega
  obtain ⟨W0, hW0⟩ : ∃ W0, W0 = (((w.alloc (.cells #[] 115)).alloc (.cells #[.bool c, .slice a1 n1 c1, .slice a2 n2 c2] 25)).alloc (.cells #[.bool d, .slice b1 m1 d1, .slice b2 m2 d2] 25)).alloc (.cells #[.bool false, .slice none 0 0, .slice none 0 0] 25) := ⟨_, rfl⟩
  have hz0 : w.heap.size + 4 ≤ W0.heap.size := by rw [hW0]; simp
  have HB0 : Hid (Below w.heap.size w W0) := by rw [hW0]; exact ((((Below.refl _ w).alloc (Nat.le_refl _) _).alloc (by simp) _).alloc (by simp; omega) _).alloc (by simp; omega) _
  have HXH : Hid (W0.heap[w.heap.size]? = some (.cells #[] 115 (0, 0))) := by
    rw [hW0]
    exact (Below.heap_alloc _ _ _ (by simp; omega)).trans ((Below.heap_alloc _ _ _ (by simp; omega)).trans ((Below.heap_alloc _ _ _ (by simp)).trans (World.alloc_heap_new w _)))
  have HX0 : Hid (Box W0 (w.heap.size + 1) c (.slice a1 n1 c1) (.slice a2 n2 c2)) := by
    rw [hW0]; exact ((boxNew _ _ _ _ _ (by simp)).alloc _).alloc _
  have HX1 : Hid (Box W0 (w.heap.size + 1 + 1) d (.slice b1 m1 d1) (.slice b2 m2 d2)) := by
    rw [hW0]; exact (boxNew _ _ _ _ _ (by simp)).alloc _
  have HX2 : Hid (Box W0 (w.heap.size + 1 + 1 + 1) false (.slice none 0 0) (.slice none 0 0)) := by
    rw [hW0]; exact boxNew _ _ _ _ _ (by simp)
  have H1 := hide (h1.below (Nat.le_refl _) HB0.out)
  have H2 := hide (h2.below (Nat.le_refl _) HB0.out)
  have K1 := hide (k1.below (Nat.le_refl _) HB0.out)
  have K2 := hide (k2.below (Nat.le_refl _) HB0.out)
  have HP2 : Hid (∀ k, At a2 n2 k → k < w.heap.size) := fun k h => h2.hi h
  have HP4 : Hid (∀ k, At b2 m2 k → k < w.heap.size) := fun k h => k2.hi h
  have hs2 := h2.small
  have hs4 := k2.small
  have hs3 := k1.small
  have HW0 := hide hW0
  have HRC := hide hrc
  clear h1 h2 k1 k2 hrc hW0
  go_enter Tryz.func93, Tryz.ntmps93
  go_upto_if 21 with (first | (go_at_call 57; rw [← HW0.out]; refine (implListCode_any c d a1 a2 b1 b2 n1 n2 m1 m2 c1 c2 d1 d2 sh dt sh' dt' _ H1.out H2.out K1.out K2.out _ HRC).mono ?_; rintro e w1 ⟨rfl, hb1⟩; have HE1 := hide hb1; clear hb1; obtain ⟨x0, x1, x2, x3, x4, x5, x6⟩ := (HX0.out.below (Nat.le_refl _) HE1.out).all; obtain ⟨y0, y1, y2, y3, y4, y5, y6⟩ := (HX1.out.below (Nat.le_refl _) HE1.out).all; obtain ⟨q0, q1, q2, q3, q4, q5, q6⟩ := (HX2.out.below (Nat.le_refl _) HE1.out).all))
  obtain ⟨L, hL⟩ : ∃ L, L = bs.length := ⟨_, rfl⟩
  go_cut [] (fun wx => ∃ sa ca, Box wx (w.heap.size + 1 + 1) d (.slice sa L ca) (.slice b2 m2 d2) ∧ Row wx sa L bs ∧ But (fun k => k = w.heap.size + 1 + 1) w1 wx)
  case first =>
    by_cases hm0 : m1 = 0
    · have hb2 : bs = List.replicate n2 1 := by rw [hbs]; unfold countedSh; rw [if_pos (List.length_eq_zero_iff.1 (by rw [hl1]; exact hm0))]
      have hL2 : L = n2 := by rw [hL, hb2]; simp
      have hq : ((m1 : Int) == 0) = true := by simp [hm0]
      have HB2 := hide hb2
      have HL2 := hide hL2
      clear hb2 hL2 hL hbs hm0
      go_wp2_with (go_at_call 148; refine (Repeat_any ⟨w1.heap.size, 0, none⟩ _ n2 1 _ (Row.one w1 1) hn2).mono ?_; rintro e wR ⟨rfl, hR1, hR2⟩; have HR1 := hide hR1; have HR2 := hide (((Below.refl _ w1).alloc (Nat.le_refl _) _).trans (hR2.mono (by simp))); clear hR1 hR2 y0 y1 y2 y3 y4 y5; obtain ⟨y0, y1, y2, y3, y4, y5, y7⟩ := ((HX1.out.below (Nat.le_refl _) HE1.out).below (Nat.le_refl _) HR2.out).all)
      go_meet
      case rel =>
        have hbox := (HX1.out.below (Nat.le_refl _) HE1.out).below (Nat.le_refl _) HR2.out
        refine ⟨some ⟨w1.heap.size + 1, 0, none⟩, n2, ?_, ?_, ?_⟩
        · rw [HL2.out]; exact setS1 hbox _
        · rw [HL2.out, HB2.out]
          have h3 := HR1.out
          rw [World.size_alloc] at h3
          exact (h3.other (p := ⟨w.heap.size + 1 + 1, 1, none⟩) (by have := HE1.out.size; show w1.heap.size + 1 ≠ w.heap.size + 1 + 1; omega) _).row (by simp) (by omega)
        · exact (But.of_below (S := fun k => k = w.heap.size + 1 + 1) HR2.out).setCell (p := ⟨w.heap.size + 1 + 1, 1, none⟩) rfl _
    · have hb2 : bs = sh' := by rw [hbs]; unfold countedSh; rw [if_neg (fun e => hm0 (by rw [← hl1, e]; rfl))]
      have hL2 : L = m1 := by rw [hL, hb2, hl1]
      have hq : ((m1 : Int) == 0) = false := by simp [hm0]
      have HB2 := hide hb2
      have HL2 := hide hL2
      clear hb2 hL2 hL hbs hm0
      go_wp2_with fail
      go_meet
      case rel => exact ⟨b1, d1, by rw [HL2.out]; exact HX1.out.below (Nat.le_refl _) HE1.out, by rw [HL2.out, HB2.out]; exact K1.out.below (Nat.le_refl _) HE1.out, But.refl _ _⟩
  case rest =>
    obtain ⟨w2, hw2⟩ : ∃ x, x = wc := ⟨_, rfl⟩
    subst hw2
    obtain ⟨sa, ca, hbox, hrow, hbut⟩ := hcut
    clear x0 x1 x2 x3 x4 x5 x6 y0 y1 y2 y3 y4 y5 y6 q0 q1 q2 q3 q4 q5 q6
    have hz1 := HE1.out.size
    have hz2 := hbut.size
    have hb2 : But (fun k => k = w.heap.size + 1 + 1) W0 w2 := ((But.of_below (S := fun k => k = w.heap.size + 1 + 1) HE1.out).trans hbut).mono (by rintro k (h | h) <;> exact h)
    have HY0 : Hid (Box w2 (w.heap.size + 1) c (.slice a1 n1 c1) (.slice a2 n2 c2)) := (hb2.block _ (by omega) (by omega)).trans HX0.out
    have HY2 : Hid (Box w2 (w.heap.size + 1 + 1 + 1) false (.slice none 0 0) (.slice none 0 0)) := (hb2.block _ (by omega) (by omega)).trans HX2.out
    have HYH : Hid (w2.heap[w.heap.size]? = some (.cells #[] 115 (0, 0))) := (hb2.block _ (by omega) (by omega)).trans HXH.out
    have HB2 : Hid (Below w.heap.size w w2) := HB0.out.trans (hb2.below (by omega) (by rintro k rfl; omega))
    have H22 := hide (hb2.row H2.out (by rintro k rfl h; have := HP2.out _ h; omega))
    have K22 := hide (hb2.row K2.out (by rintro k rfl h; have := HP4.out _ h; omega))
    have hzz : w.heap.size + 4 ≤ w2.heap.size := by omega
    have HY1 := hide hbox
    have HROW := hide hrow
    obtain ⟨bx, hbx⟩ : ∃ bx, bx = w.heap.size + 1 + 1 + 1 := ⟨_, rfl⟩
    rw [← hbx] at HY2 ⊢
    have hwb : w.heap.size + 1 + 1 < bx := by omega
    have hbz : bx < w2.heap.size := by omega
    have hbxl : bx = w.heap.size + 3 := by omega
    have HBXL := hide hbxl
    obtain ⟨x0, x1, x2, x3, x4, x5, x6⟩ := HY0.out.all
    obtain ⟨y0, y1, y2, y3, y4, y5, y6⟩ := HY1.out.all
    obtain ⟨q0, q1, q2, q3, q4, q5, q6⟩ := HY2.out.all
    have hsL := hrow.small
    have HLEN := hide hrow.len
    clear hbxl hbx hbox hrow hbut hb2 HX0 HX1 HX2 HXH HB0 HE1 H1 H2 K1 K2 HW0 HP2 HP4 HRC hz0 hz1 hz2 hbs hL hl1
    by_cases hne : L = n2
    · subst hne
      clear HR5
      have HDB : Hid (∀ k, k < L → -1000000000000000 ≤ dt.getD k 0 ∧ dt.getD k 0 ≤ 1000000000000000) := fun k hk => dataOk_bd hok (by rw [H22.out.len]; exact hk)
      have HSB : Hid (∀ k, 0 ≤ bs.getD k 0 ∧ bs.getD k 0 ≤ 10000) := fun k => HSI.out.cell k
      have hyh := HYH.out
      go_upto_region 9 with (go_at_call 165; refine (Spanstaking.any a2 sa L c2 ca dt bs _ H22.out HROW.out hn2 HDB.out HSB.out).mono ?_; rintro e wS ⟨gf, gs, rfl, hf, hs, bgf, bgs, nfs, hbl⟩; have HFS := hide hf; have HGSS := hide hs; have HBS := hide hbl; have HB1 := hide bgf; have HB3 := hide bgs; have HNF := hide nfs; clear hf hs hbl bgf bgs nfs)
      have bgf := HB1.out
      have bgs := HB3.out
      have nfs := HNF.out
      obtain ⟨pf, hpf⟩ : ∃ p, p = wS.heap.size := ⟨_, rfl⟩
      obtain ⟨w3, hw3⟩ : ∃ W, W = wS.alloc (.cells #[.slice (some ⟨gf, 0, none⟩) L L] 23) := ⟨_, rfl⟩
      have HPFR : Hid (w3.heap[pf]? = some (.cells #[.slice (some ⟨gf, 0, none⟩) L L] 23 (0, 0))) := by rw [hw3, hpf]; exact World.alloc_heap_new wS _
      have HFF : Hid (Blk w3 gf (made S1taking dt bs L)) := by rw [hw3]; exact HFS.out.alloc _
      have HGG : Hid (Blk w3 gs (made Z1taking dt bs L)) := by rw [hw3]; exact HGSS.out.alloc _
      have HBW : Hid (Below w2.heap.size w2 w3) := by rw [hw3]; exact HBS.out.alloc HBS.out.size _
      have hzr := HBW.out.size
      rw [← hw3, ← hpf]
      clear hw3 hpf HFS HGSS HBS HB1 HB3 HNF hyh x0 x1 x2 x3 x4 x5 x6 y0 y1 y2 y3 y4 y5 y6 q0 q1 q2 q3 q4 q5 q6
      obtain ⟨zz, hzz'⟩ : ∃ zz, zz = made Z1taking dt bs L := ⟨_, rfl⟩
      obtain ⟨ss, hss⟩ : ∃ ss, ss = made S1taking dt bs L := ⟨_, rfl⟩
      have HG : Hid (Blk w3 gs zz) := by rw [hzz']; exact HGG.out
      have HF : Hid (Blk w3 gf ss) := by rw [hss]; exact HFF.out
      have HZL : Hid (zz.length = L) := by rw [hzz']; exact made_len _ _ _ _
      have HSL : Hid (ss.length = L) := by rw [hss]; exact made_len _ _ _ _
      have HSBD : Hid (∀ i, i < L → -1000000000010000 ≤ ss.getD i 0 ∧ ss.getD i 0 ≤ 1000000000010000) := fun i hi => by rw [hss, made_get _ _ _ _ _ hi]; exact S1taking_bd (HDB.out i hi) (HSB.out i)
      have HA1 : Hid (Box w3 (w.heap.size + 1 + 1) d (.slice sa L ca) (.slice b2 m2 d2)) := HY1.out.below (Nat.le_refl _) HBW.out
      have HA2 : Hid (Box w3 bx false (.slice none 0 0) (.slice none 0 0)) := HY2.out.below (Nat.le_refl _) HBW.out
      have HRB := hide (HROW.out.below (Nat.le_refl _) HBW.out)
      have HRD := hide (K22.out.below (Nat.le_refl _) HBW.out)
      obtain ⟨z0, z1, z2, z3, z4, z5, z6⟩ := HA1.out.all
      obtain ⟨q0, q1, q2, q3, q4, q5, q6⟩ := HA2.out.all
      rw [← hzz'] at HR7 HRG
      rw [← hss] at HRG
      clear hzz' hss HFF HGG
      cases hsb : shapeB zz with
      | false =>
        have HR := hide (HR7.out HLEN.out hsb)
        have HSBQ := hide hsb
        clear hsb HR7 HRG
        go_wp2_with (go_at_call 114; refine (shapeOk_eq _ _ _ zz _ (HG.out.row HZL.out (by omega)) _ HSBQ).mono ?_; rintro e w5 ⟨rfl, hw⟩; obtain rfl := hw.symm)
        refine bodyPost_ret (v := .tuple #[.agg #[.bool false, .slice none 0 0, .slice none 0 0], .int .i64 7]) (by simp [results, Tryz.results93, go_sem, q0, q1, q2]) rfl ?_
        rw [HR.out]
        exact cap_none (by decide) ((((HB2.out.trans (HBW.out.mono (by omega))).setCell (by simp <;> omega) _).setCell (by simp <;> omega) _).setCell (by simp <;> omega) _)
      | true =>
        have HR := hide (HRG.out HLEN.out hsb)
        have HSBQ := hide hsb
        obtain ⟨hzi, hz5⟩ := shapeB_in hsb
        have hcn := shapeB_count hsb
        obtain ⟨N, hN⟩ : ∃ N : Nat, countOf zz = (N : Int) := ⟨(countOf zz).toNat, by omega⟩
        have HPN : Hid (prodAll zz = (N : Int)) := by rw [prodAll_count zz hsb]; exact hN
        have hNb : N ≤ 10000 := by omega
        have HTN : Hid ((countOf zz).toNat = N) := by rw [hN]; exact Int.toNat_natCast N
        have HZI := hide hzi
        have h5 : L ≤ 5 := by rw [← HZL.out]; exact hz5
        clear hsb HR7 HRG hzi hz5 hcn hN
        go_wp2_with (first | (go_at_call 114; refine (shapeOk_eq _ _ _ zz _ (HG.out.row HZL.out (by omega)) _ HSBQ).mono ?_; rintro e w5 ⟨rfl, hw⟩; obtain rfl := hw.symm) | (go_at_call 59; refine (gathered_any d sa b2 (some ⟨gs, 0, none⟩) L m2 ca d2 L L bs dt' zz 166 _ eg_cuttaking (cutF ss) _ N HRB.out HRD.out (HG.out.row HZL.out (by omega)) HSI.out HZI.out h5 HPN.out HPB.out (cutClotaking pf L L (some ⟨gf, 0, none⟩) ss zz _ (by simp [World.cell?, HPFR.out]) (HF.out.row HSL.out (by omega)) HSBD.out HZL.out (fun i => (HZI.out.cell i).2))).mono ?_; rintro e wG ⟨gd, rfl, hgd, hBG, hbG⟩; have HKG := hide hbG; have HBG := hide hBG; have HGD := hide hgd; clear hgd hBG hbG z0 z1 z2 z3 z4 z5 q0 q1 q2 q3 q4 q5 q6; obtain ⟨q0, q1, q2, q3, q4, q5, q6⟩ := (HA2.out.below (Nat.le_refl _) HKG.out).all))
        have hGl := HG.out.lt
        have hzG := HKG.out.size
        have hres := Res5.setC (w := w) (d := d) (zs := zz) (n := L) (N := N) (csh := L) (ash := some ⟨gs, 0, none⟩) (HA2.out.below (Nat.le_refl _) HKG.out) (((HG.out.below (Nat.le_refl _) HKG.out).own HZL.out (by omega) (by omega))) (by have := HGD.out; omega) HBG.out (fun h => by have := at_eq h; have := HGD.out; omega) ((HB2.out.trans (HBW.out.mono (by omega))).trans (HKG.out.mono (by omega))) (fun h => by have := at_eq h; omega) (by have := HGD.out; omega) (by omega) (Nat.le_refl _)
        obtain ⟨ash', csh', gd', hb, hO', hgd', hB', hne', hbl', hcp'⟩ := hres
        obtain ⟨r0, r1, r2, r3, r4, r5, r6⟩ := hb.all
        refine bodyPost_ret (v := .tuple #[.agg #[.bool d, .slice ash' L csh', .slice (some ⟨gd', 0, none⟩) N N], .int .i64 0]) (by simp [results, Tryz.results93, go_sem, r0, r1, r2]) rfl ?_
        rw [HR.out, HTN.out]
        exact cap_res (by simp [vals]) (by omega) hO' hgd' hB' hne' hbl' hcp'
    · have HR := hide (HR5.out (by rw [HLEN.out]; exact hne))
      have hq : ((n2 : Int) != (L : Int)) = true := by simp; omega
      go_wp2_with fail
      refine bodyPost_ret (v := .tuple #[.agg #[.bool false, .slice none 0 0, .slice none 0 0], .int .i64 5]) (by simp [results, Tryz.results93, go_sem, q0, q1, q2]) rfl ?_
      rw [HR.out]
      exact cap_none (by decide) (((HB2.out.setCell (by simp <;> omega) _).setCell (by simp <;> omega) _).setCell (by simp <;> omega) _)
end Cuttaking
end Go.Proofs.YtgjpchnkodnieaaGreatDoor
