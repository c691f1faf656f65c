import Derived.Test.YtgjpchnkodnieaaGreatDoorZv37
import Derived.Test.YtgjpchnkodnieaaGreatDoorZv21
import Derived.Test.YtgjpchnkodnieaaGreatDoorZv31
import Derived.Test.YtgjpchnkodnieaaGreatDoorZv07
import Derived.Test.YtgjpchnkodnieaaGreatDoorZv15
import Derived.Deep.RegionHeld3
import Derived.Deep.DeepCutAuto
import Derived.Test.YtgjpchnkodnieaaGreatDoorZv39
import Derived.Test.YtgjpchnkodnieaaGreatDoorZv34
import Derived.Test.YtgjpchnkodnieaaGreatDoorZv38
import Derived.WalkKit
import Derived.Shelf.Slices.Reverse
import Derived.Ground.NamesProg
import Derived.Test.YtgjpchnkodnieaaGreatDoorProg
import Derived.Sort.OwnSortedInts
namespace Go.Proofs.YtgjpchnkodnieaaGreatDoor
open Go.RowKit Go.Shelf
set_option maxRecDepth 20000 in
set_option maxHeartbeats 4000000 in
theorem implReshape_code (c d : Bool) (a1 a2 b1 b2 : Addr) (n1 n2 m1 m2 c1 c2 d1 d2 : Nat) (sh dt sh' dt' : List Int) (w : World) (h1 : Row w (some a1) n1 sh) (h2 : Row w (some a2) n2 dt) (k1 : Row w (some b1) m1 sh') (k2 : Row w (some b2) m2 dt') (r : Int) (hrc : codeList c d sh dt sh' dt' = r) (hr : r ≠ 0) :
    Calls Tryz.prog 98 #[.agg #[.bool c, .slice (some a1) n1 c1, .slice (some a2) n2 c2], .agg #[.bool d, .slice (some b1) m1 d1, .slice (some b2) m2 d2]] w (GivesOwn w (noAns r)) := by
  have HRC := hide hrc
  have hs2 := h2.small
  have hs4 := k2.small
  have H1 := hide h1
  have H2 := hide h2
  have K1 := hide k1
  have K2 := hide k2
  have q : (r != 0) = true := by simp [hr]
  clear h1 h2 k1 k2 hrc hr
  go_enter Tryz.func98, Tryz.ntmps98
  go_wp2_with (first | (go_at_call 57; refine (implListCode_any c d (some a1) (some a2) (some b1) (some b2) n1 n2 m1 m2 c1 c2 d1 d2 sh dt sh' dt' _ ((((unhide H1).alloc _).alloc _).alloc _) ((((unhide H2).alloc _).alloc _).alloc _) ((((unhide K1).alloc _).alloc _).alloc _) ((((unhide K2).alloc _).alloc _).alloc _) _ HRC).mono ?_; rintro e w1 ⟨rfl, hb1⟩; obtain ⟨B0, B1, B2, hB1⟩ := boxes3 hb1; have HB0 := hide B0; have HB1 := hide B1; have HB2 := hide B2; have HB := hide hB1; obtain ⟨x0, x1, x2, x3, x4, x5, x6⟩ := B0.all; obtain ⟨y0, y1, y2, y3, y4, y5, y6⟩ := B1.all; obtain ⟨q0, q1, q2, q3, q4, q5, q6⟩ := B2.all; clear hb1 hB1 B0 B1 B2))
  refine bodyPost_ret (v := .tuple #[.agg #[.bool false, .slice none 0 0, .slice none 0 0], .int .i64 r]) (by simp [results, Tryz.results98, go_sem, q0, q1, q2]) rfl ?_
  exact gives_none ((((unhide HB).setCell (by simp <;> omega) _).setCell (by simp <;> omega) _).setCell (by simp <;> omega) _)
set_option maxRecDepth 20000 in
set_option maxHeartbeats 4000000 in
theorem implReshape_neg (c d : Bool) (a1 a2 b1 b2 : Addr) (n1 n2 m1 m2 c1 c2 d1 d2 : Nat) (sh dt sh' dt' : List Int) (w : World) (h1 : Row w (some a1) n1 sh) (h2 : Row w (some a2) n2 dt) (k1 : Row w (some b1) m1 sh') (k2 : Row w (some b2) m2 dt') (hrc : codeList c d sh dt sh' dt' = 0) (hn : dt.all nonNeg = false) :
    Calls Tryz.prog 98 #[.agg #[.bool c, .slice (some a1) n1 c1, .slice (some a2) n2 c2], .agg #[.bool d, .slice (some b1) m1 d1, .slice (some b2) m2 d2]] w (GivesOwn w (noAns 3)) := by
  have HRC := hide hrc
  have HNG : Hid ((!dt.all nonNeg) = true) := by rw [hn]; exact hide rfl
  have hs2 := h2.small
  have hs4 := k2.small
  have H1 := hide h1
  have H2 := hide h2
  have K1 := hide k1
  have K2 := hide k2
  clear h1 h2 k1 k2 hrc hn
  go_enter Tryz.func98, Tryz.ntmps98
  go_wp2_with (first | (go_at_call 57; refine (implListCode_any c d (some a1) (some a2) (some b1) (some b2) n1 n2 m1 m2 c1 c2 d1 d2 sh dt sh' dt' _ ((((unhide H1).alloc _).alloc _).alloc _) ((((unhide H2).alloc _).alloc _).alloc _) ((((unhide K1).alloc _).alloc _).alloc _) ((((unhide K2).alloc _).alloc _).alloc _) _ HRC).mono ?_; rintro e w1 ⟨rfl, hb1⟩; obtain ⟨B0, B1, B2, hB1⟩ := boxes3 hb1; have HB0 := hide B0; have HB1 := hide B1; have HB2 := hide B2; have HB := hide hB1; obtain ⟨x0, x1, x2, x3, x4, x5, x6⟩ := B0.all; obtain ⟨y0, y1, y2, y3, y4, y5, y6⟩ := B1.all; obtain ⟨q0, q1, q2, q3, q4, q5, q6⟩ := B2.all; clear hb1 hB1 B0 B1 B2) | (go_at_call 169; refine (hasBelow0_eq _ _ _ dt _ ((unhide H2).below (Nat.le_refl _) (unhide HB)) _ HNG).mono ?_; rintro e w2 ⟨rfl, hw⟩; obtain rfl := hw.symm))
  refine bodyPost_ret (v := .tuple #[.agg #[.bool false, .slice none 0 0, .slice none 0 0], .int .i64 3]) (by simp [results, Tryz.results98, go_sem, q0, q1, q2]) rfl ?_
  exact gives_none ((((unhide HB).setCell (by simp <;> omega) _).setCell (by simp <;> omega) _).setCell (by simp <;> omega) _)
set_option maxRecDepth 20000 in
set_option maxHeartbeats 4000000 in
theorem implReshape_big (c d : Bool) (a1 a2 b1 b2 : Addr) (n1 n2 m1 m2 c1 c2 d1 d2 : Nat) (sh dt sh' dt' : List Int) (w : World) (h1 : Row w (some a1) n1 sh) (h2 : Row w (some a2) n2 dt) (k1 : Row w (some b1) m1 sh') (k2 : Row w (some b2) m2 dt') (hrc : codeList c d sh dt sh' dt' = 0) (hn : dt.all nonNeg = true) (hs : shapeB dt = false) :
    Calls Tryz.prog 98 #[.agg #[.bool c, .slice (some a1) n1 c1, .slice (some a2) n2 c2], .agg #[.bool d, .slice (some b1) m1 d1, .slice (some b2) m2 d2]] w (GivesOwn w (noAns 7)) := by
  have HRC := hide hrc
  have HNG : Hid ((!dt.all nonNeg) = false) := by rw [hn]; exact hide rfl
  have HSB := hide hs
  have hs2 := h2.small
  have hs4 := k2.small
  have H1 := hide h1
  have H2 := hide h2
  have K1 := hide k1
  have K2 := hide k2
  clear h1 h2 k1 k2 hrc hn hs
  go_enter Tryz.func98, Tryz.ntmps98
  go_wp2_with (first | (go_at_call 57; refine (implListCode_any c d (some a1) (some a2) (some b1) (some b2) n1 n2 m1 m2 c1 c2 d1 d2 sh dt sh' dt' _ ((((unhide H1).alloc _).alloc _).alloc _) ((((unhide H2).alloc _).alloc _).alloc _) ((((unhide K1).alloc _).alloc _).alloc _) ((((unhide K2).alloc _).alloc _).alloc _) _ HRC).mono ?_; rintro e w1 ⟨rfl, hb1⟩; obtain ⟨B0, B1, B2, hB1⟩ := boxes3 hb1; have HB0 := hide B0; have HB1 := hide B1; have HB2 := hide B2; have HB := hide hB1; obtain ⟨x0, x1, x2, x3, x4, x5, x6⟩ := B0.all; obtain ⟨y0, y1, y2, y3, y4, y5, y6⟩ := B1.all; obtain ⟨q0, q1, q2, q3, q4, q5, q6⟩ := B2.all; clear hb1 hB1 B0 B1 B2) | (go_at_call 169; refine (hasBelow0_eq _ _ _ dt _ ((unhide H2).below (Nat.le_refl _) (unhide HB)) _ HNG).mono ?_; rintro e w2 ⟨rfl, hw⟩; obtain rfl := hw.symm) | (go_at_call 114; refine (shapeOk_eq _ _ _ dt _ ((unhide H2).below (Nat.le_refl _) (unhide HB)) _ HSB).mono ?_; rintro e w3 ⟨rfl, hw⟩; obtain rfl := hw.symm))
  refine bodyPost_ret (v := .tuple #[.agg #[.bool false, .slice none 0 0, .slice none 0 0], .int .i64 7]) (by simp [results, Tryz.results98, go_sem, q0, q1, q2]) rfl ?_
  exact gives_none ((((unhide HB).setCell (by simp <;> omega) _).setCell (by simp <;> omega) _).setCell (by simp <;> omega) _)
theorem line_box1 (wz : World) {wL : World} (h : Below (wz.drew.alloc (.cells #[.bool false, .slice none 0 0, .slice none 0 0] 25)).heap.size (wz.drew.alloc (.cells #[.bool false, .slice none 0 0, .slice none 0 0] 25)) wL) : Box wL wz.heap.size false (.slice none 0 0) (.slice none 0 0) := (Box.new wz.drew false _ _).below (Nat.le_refl _) h
theorem line_box2 (wz : World) {wL : World} (h : Below ((wz.alloc (.cells #[.bool false, .slice none 0 0, .slice none 0 0] 25)).drew).heap.size ((wz.alloc (.cells #[.bool false, .slice none 0 0, .slice none 0 0] 25)).drew) wL) : Box wL wz.heap.size false (.slice none 0 0) (.slice none 0 0) := (Box.new wz false _ _).drew.below (Nat.le_refl _) h
def Got5 (wz : World) (d : Bool) (ys : List Int) (N : Nat) (v : Value) (wx : World) : Prop :=
  ∃ pb gd u, v = .pointer (some ⟨pb, 0, none⟩) ∧ wz.heap.size ≤ pb ∧ Box wx pb d u (.slice (some ⟨gd, 0, none⟩) N N) ∧ wz.heap.size ≤ gd ∧ gd ≠ pb ∧ Blk wx gd ys ∧ Below wz.heap.size wz wx
theorem Box.setG1 {w : World} {p : Nat} {c : Bool} {v1 v2 : Value} (h : Box w p c v1 v2) (v : Value) : Box (w.setCell ⟨p, 1, none⟩ v) p c v v2 := by
  unfold Box at h ⊢
  rw [heap_setCell_same w p 1 _ _ _ h]
  simp
theorem Got5.new {wz W : World} {d : Bool} {ys : List Int} {N gd : Nat} {u : Value} (hpb : wz.heap.size ≤ W.heap.size) (hg : wz.heap.size ≤ gd) (hB : Blk W gd ys) (hbl : Below wz.heap.size wz W) :
    Got5 wz d ys N (.pointer (some ⟨W.heap.size, 0, none⟩)) (W.alloc (.cells #[.bool d, u, .slice (some ⟨gd, 0, none⟩) N N] 25)) :=
  ⟨W.heap.size, gd, u, rfl, hpb, Box.new W _ _ _, hg, by have := hB.lt; omega, hB.alloc _, hbl.alloc hpb _⟩
theorem Got5.set {wz W : World} {d c : Bool} {ys : List Int} {N pb gd : Nat} {v1 v2 u : Value} (hb : Box W pb c v1 v2) (hpb : wz.heap.size ≤ pb) (hg : wz.heap.size ≤ gd) (hne : gd ≠ pb) (hB : Blk W gd ys) (hbl : Below wz.heap.size wz W) :
    Got5 wz d ys N (.pointer (some ⟨pb, 0, none⟩)) (((W.setCell ⟨pb, 0, none⟩ (.bool d)).setCell ⟨pb, 1, none⟩ u).setCell ⟨pb, 2, none⟩ (.slice (some ⟨gd, 0, none⟩) N N)) :=
  ⟨pb, gd, u, rfl, hpb, hb.sets, hg, hne, ((hB.other (p := ⟨pb, 0, none⟩) hne _).other (p := ⟨pb, 1, none⟩) hne _).other (p := ⟨pb, 2, none⟩) hne _, ((hbl.setCell (p := ⟨pb, 0, none⟩) hpb _).setCell (p := ⟨pb, 1, none⟩) hpb _).setCell (p := ⟨pb, 2, none⟩) hpb _⟩
theorem Row.one' (w : World) (x : Int) (g : Nat) (hg : g = w.heap.size) : Row (w.alloc (.cells #[.int .i64 x] 3)) (some ⟨g, 0, none⟩) 1 [x] := by subst hg; exact Row.one w x
set_option maxRecDepth 20000 in
set_option maxHeartbeats 4000000 in
theorem implReshape_good (c d : Bool) (a1 a2 b1 b2 : Addr) (n1 n2 m1 m2 c1 c2 d1 d2 : Nat) (sh dt sh' dt' : List Int) (w : World) (h1 : Row w (some a1) n1 sh) (h2 : Row w (some a2) n2 dt) (k1 : Row w (some b1) m1 sh') (k2 : Row w (some b2) m2 dt') (hrc : codeList c d sh dt sh' dt' = 0) (hn : dt.all nonNeg = true) (hs : shapeB dt = true) (N : Nat) (hN : prodAll dt = (N : Int)) (hm : m2 ≤ 10000) :
    Calls Tryz.prog 98 #[.agg #[.bool c, .slice (some a1) n1 c1, .slice (some a2) n2 c2], .agg #[.bool d, .slice (some b1) m1 d1, .slice (some b2) m2 d2]] w (GivesOwn w ⟨d, dt, vals (gatherAt d [(m2 : Int)] dt' (modF (max m2 1)) [(N : Int)]) N, 0⟩) := by
  have HRC := hide hrc
  have HNG : Hid ((!dt.all nonNeg) = false) := by rw [hn]; exact hide rfl
  have HSB := hide hs
  have HN := hide hN
  have HIN := hide (shapeB_in hs).1
  have hNb : N ≤ 10000 := by have := HIN.out.bd; omega
  have hs2 := h2.small
  have hs4 := k2.small
  have H1 := hide h1
  have H2 := hide h2
  have K1 := hide k1
  have K2 := hide k2
  clear h1 h2 k1 k2 hrc hn hs hN
  go_enter Tryz.func98, Tryz.ntmps98
  go_upto_region 9 with (first | (go_at_call 57; refine (implListCode_any c d (some a1) (some a2) (some b1) (some b2) n1 n2 m1 m2 c1 c2 d1 d2 sh dt sh' dt' _ ((((unhide H1).alloc _).alloc _).alloc _) ((((unhide H2).alloc _).alloc _).alloc _) ((((unhide K1).alloc _).alloc _).alloc _) ((((unhide K2).alloc _).alloc _).alloc _) _ HRC).mono ?_; rintro e w1 ⟨rfl, hb1⟩; obtain ⟨B0, B1, B2, hB1⟩ := boxes3 hb1; have HB0 := hide B0; have HB1 := hide B1; have HB2 := hide B2; have HB := hide hB1; obtain ⟨x0, x1, x2, x3, x4, x5, x6⟩ := B0.all; obtain ⟨y0, y1, y2, y3, y4, y5, y6⟩ := B1.all; obtain ⟨q0, q1, q2, q3, q4, q5, q6⟩ := B2.all; clear hb1 hB1 B0 B1 B2) | (go_at_call 169; refine (hasBelow0_eq _ _ _ dt _ ((unhide H2).below (Nat.le_refl _) (unhide HB)) _ HNG).mono ?_; rintro e w2 ⟨rfl, hw⟩; obtain rfl := hw.symm) | (go_at_call 114; refine (shapeOk_eq _ _ _ dt _ ((unhide H2).below (Nat.le_refl _) (unhide HB)) _ HSB).mono ?_; rintro e w3 ⟨rfl, hw⟩; obtain rfl := hw.symm))
  obtain ⟨cnt, hcnt⟩ : ∃ cnt : Nat, cnt = max m2 1 := ⟨_, rfl⟩
  have hmx : (if (m2 : Int) < 1 then 1 else (m2 : Int)) = (cnt : Int) := by rw [hcnt]; split <;> omega
  have hc0 : 0 < cnt := by omega
  have hcb : cnt ≤ 10000 := by omega
  have hmx2 : max (m2 : Int) 1 = (cnt : Int) := by rw [hcnt]; omega
  first | simp only [hmx] | simp only [hmx2]
  have HCNT := hide hcnt
  clear hcnt hmx hmx2
  obtain ⟨pc, hpc⟩ : ∃ pc, pc = w1.heap.size := ⟨_, rfl⟩
  obtain ⟨bx, hbx⟩ : ∃ bx, bx = w.heap.size + 1 + 1 := ⟨_, rfl⟩
  obtain ⟨wz, hwz⟩ : ∃ wz, wz = w1.alloc (.cells #[.int .i64 (cnt : Nat)] 3) := ⟨_, rfl⟩
  have hzz : wz.heap.size = pc + 1 := by rw [hwz, hpc]; simp
  have hzb : bx < pc := by rw [hbx, hpc]; exact q6
  have HZ0 : Hid (Box wz w.heap.size c (.slice (some a1) n1 c1) (.slice (some a2) n2 c2)) := by rw [hwz]; exact (unhide HB0).alloc _
  have HZ1 : Hid (Box wz (w.heap.size + 1) d (.slice (some b1) m1 d1) (.slice (some b2) m2 d2)) := by rw [hwz]; exact (unhide HB1).alloc _
  have HZ2 : Hid (Box wz bx false (.slice none 0 0) (.slice none 0 0)) := by rw [hwz, hbx]; exact (unhide HB2).alloc _
  have HZT : Hid (wz.cell? ⟨pc, 0, none⟩ = some (.int .i64 (cnt : Nat))) := by
    have h3 := World.alloc_heap_new w1 (.cells #[.int .i64 (cnt : Nat)] 3)
    rw [← hwz, ← hpc] at h3
    show _ = _
    simp [World.cell?, h3]
  have HBZ : Hid (Below w.heap.size w wz) := by rw [hwz]; exact (unhide HB).alloc (by omega) _
  rw [← hwz, ← hpc, ← hbx]
  have hwb : w.heap.size + 1 < bx := by omega
  have hzp : pc < wz.heap.size := by omega
  clear hzz
  clear hwz hpc hbx HB0 HB1 HB2 HB x0 x1 x2 x3 x4 x5 x6 y0 y1 y2 y3 y4 y5 y6 q0 q1 q2 q3 q4 q5 q6 HRC HNG HSB
  have K2Z := hide ((unhide K2).below (Nat.le_refl _) (unhide HBZ))
  have H2Z := hide ((unhide H2).below (Nat.le_refl _) (unhide HBZ))
  clear H1 H2 K1 K2
  go_cut [8] (fun v wx => Got5 wz d (vals (gatherAt d [(m2 : Int)] dt' (modF cnt) [(N : Int)]) N) N v wx)
  case first =>
    have HKEEP : ∀ wx, Below wz.heap.size wz wx → wx.cell? ⟨w.heap.size + 1, 0, none⟩ = some (.bool d) ∧ wx.cell? ⟨w.heap.size + 1, 1, none⟩ = some (.slice (some b1) m1 d1) ∧ wx.cell? ⟨w.heap.size + 1, 2, none⟩ = some (.slice (some b2) m2 d2) ∧ wx.cell? ⟨w.heap.size, 2, none⟩ = some (.slice (some a2) n2 c2) := fun wx hwx => by
      obtain ⟨y0, y1, y2, _, _, _⟩ := (unhide HZ1).all
      obtain ⟨x0, x1, x2, _, _, _⟩ := (unhide HZ0).all
      exact ⟨(hwx.cell (p := ⟨w.heap.size + 1, 0, none⟩) (by show w.heap.size + 1 < _; omega)).trans y0, (hwx.cell (p := ⟨w.heap.size + 1, 1, none⟩) (by show w.heap.size + 1 < _; omega)).trans y1, (hwx.cell (p := ⟨w.heap.size + 1, 2, none⟩) (by show w.heap.size + 1 < _; omega)).trans y2, (hwx.cell (p := ⟨w.heap.size, 2, none⟩) (by show w.heap.size < _; omega)).trans x2⟩
    obtain ⟨y0, y1, y2, x2⟩ := HKEEP _ (Below.refl _ _)
    go_region_held3 (fun wx => wx.cell? ⟨w.heap.size + 1, 0, none⟩ = some (.bool d) ∧ wx.cell? ⟨w.heap.size + 1, 1, none⟩ = some (.slice (some b1) m1 d1) ∧ wx.cell? ⟨w.heap.size + 1, 2, none⟩ = some (.slice (some b2) m2 d2) ∧ wx.cell? ⟨w.heap.size, 2, none⟩ = some (.slice (some a2) n2 c2)) (first | (refine HKEEP _ ?_; repeat (first | exact hKG | exact hKL | exact Below.refl _ _ | refine Below.drew ?_ | refine Below.alloc ?_ (by first | exact Nat.le_refl _ | exact hKL.size | exact hKG.size | (simp <;> omega)) _ | refine Below.setCell ?_ (by first | exact hPg | (simp <;> omega)) _)))
      (first
      | (go_at_call 170; go_loud (refine (lineOf_any d _ (some b2) m2 d2 _).mono ?_); rintro e wL ⟨s, rfl, hsl, hBs, hbL⟩; have hKL : Below wz.heap.size wz wL := (by refine Below.trans ?_ (hbL.mono (by first | exact Nat.le_refl _ | (simp <;> omega))); repeat (first | exact Below.refl _ _ | refine Below.drew ?_ | refine Below.alloc ?_ (by first | exact Nat.le_refl _ | (simp <;> omega)) _)); have hzL := hKL.size; have HBS := hide hBs; (first | (have hPL := hide (line_box1 wz hbL)) | (have hPL := hide (line_box2 wz hbL)) | skip); clear hBs hbL hsl y0 y1 y2 x2; obtain ⟨y0, y1, y2, x2⟩ := HKEEP _ hKL)
      | (go_at_call 116; go_loud (refine (cellsOf_n _ _ _ dt _ (by first | exact (unhide H2Z).below (Nat.le_refl _) hKL | exact ((unhide H2Z).below (Nat.le_refl _) hKL).alloc _) (unhide HIN) N HN).mono ?_); rintro e wN ⟨rfl, hwN⟩; obtain rfl := hwN.symm)
      | (go_at_call 59; go_loud (refine (gathered_any d (some ⟨s, 0, none⟩) (some b2) _ 1 m2 1 d2 1 1 [(m2 : Int)] dt' [(N : Int)] 171 _ eg_mod (modF cnt) _ N (by first | exact ((unhide HBS).alloc _).row rfl (by omega) | exact (((unhide HBS).alloc _).alloc _).row rfl (by omega)) (by first | exact ((unhide K2Z).below (Nat.le_refl _) hKL).alloc _ | exact (((unhide K2Z).below (Nat.le_refl _) hKL).alloc _).alloc _) (by first | exact Row.one' _ _ _ rfl | exact (Row.one' _ _ _ rfl).alloc _ | exact Row.one' _ _ _ (by simp) | exact (Row.one' _ _ _ (by simp)).alloc _) (shapeInG_one (by omega)) (shapeInG_one (by omega)) (by omega) (prodAllG_one _) (prodAllG_one _) (modClo pc cnt N _ (by first | exact ((hKL.alloc hKL.size _).cell (p := ⟨pc, 0, none⟩) (by show pc < _; omega)).trans (unhide HZT) | exact (((hKL.alloc hKL.size _).alloc (by have := hKL.size; simp; omega) _).cell (p := ⟨pc, 0, none⟩) (by show pc < _; omega)).trans (unhide HZT)) hc0 hcb 1 (Nat.le_refl _))).mono ?_); rintro e wG ⟨gd, rfl, hgd, hBG, hbG⟩; have hKG : Below wz.heap.size wz wG := (by refine Below.trans ?_ (hbG.mono (by have := hKL.size; simp; omega)); repeat (first | exact hKL | refine Below.alloc ?_ (by have := hKL.size; first | exact hKL.size | (simp <;> omega)) _)); have hzG := hKG.size; have hgz : wz.heap.size ≤ gd := (by have := hKL.size; simp at hgd; omega); have HBG := hide hBG; (first | (have hPG0 := ((unhide hPL).alloc _).below (Nat.le_refl _) hbG) | (have hPG0 := (Box.new _ _ _ _).below (Nat.le_refl _) hbG) | (have hPG0 := ((Box.new _ _ _ _).alloc _).below (Nat.le_refl _) hbG) | skip); (first | (simp only [World.size_alloc] at hPG0; have hPG := hide hPG0; clear hPG0) | (have hPG := hide hPG0; clear hPG0) | skip); (first | (obtain ⟨r0, r1, r2, r3, r4, r5, r6⟩ := (unhide hPG).all; (try simp at r0 r1 r2 r3 r4 r5 r6)) | skip); clear hBG hbG y0 y1 y2 x2; obtain ⟨y0, y1, y2, x2⟩ := HKEEP _ hKG))
    all_goals go_wp2_with fail
    all_goals (go_meet; case rel => first | exact Got5.set (unhide hPG) (by omega) hgz (by simp at hgd; omega) (unhide HBG) hKG | exact Got5.new hKG.size hgz (unhide HBG) hKG | exact Got5.set (Box.new _ _ _ _) hKG.size hgz (by have := (unhide HBG).lt; omega) ((unhide HBG).alloc _) (hKG.alloc hKG.size _))
  case rest =>
    obtain ⟨w3, hw3⟩ : ∃ x, x = wc := ⟨_, rfl⟩
    subst hw3
    obtain ⟨pb, gd, u, rfl, hpb, hbx, hgz, hne, hB, hbl⟩ := hcut
    obtain ⟨x0, x1, x2, _, _, _⟩ := ((unhide HZ0).below (Nat.le_refl _) hbl).all
    have H23 := hide ((unhide H2Z).below (Nat.le_refl _) hbl)
    have HBL := hide hbl
    have HBX := hide hbx
    have HB := hide hB
    have hz3 := hbl.size
    have hlb := hbx.all.2.2.2.2.2.2
    have hlg := hB.lt
    clear hbl hbx hB
    go_wp2_with (go_at_call 63; refine (Clone_any a2 n2 c2 dt _ (unhide H23)).mono ?_; rintro e wC ⟨ash, csh, rfl, hcap, hO, hbC⟩; have HO := hide hO; have HKC := hide hbC; have HXC := hide ((unhide HBX).below (Nat.le_refl _) hbC); have HX1 := hide ((unhide HXC).setG1 (.slice ash n2 csh)); have HZC := hide (((unhide HZ2).below (Nat.le_refl _) (unhide HBL)).below (Nat.le_refl _) hbC); have HZX := hide ((unhide HZC).other (q := ⟨pb, 1, none⟩) (by show bx ≠ pb; omega) (.slice ash n2 csh)); obtain ⟨b0, b1, b2, b3, b4, b5, b6⟩ := (unhide HXC).all; obtain ⟨e0, e1, e2, e3, e4, e5, e6⟩ := (unhide HX1).all; obtain ⟨r0, r1, r2, r3, r4, r5, r6⟩ := (unhide HZX).all; clear hcap hO hbC)
    have HKC' := unhide HKC
    have hsz := HKC'.size
    have hres := Res5.set (w := w) (W := wC.setCell ⟨pb, 1, none⟩ (.slice ash n2 csh)) (d := d) (zs := dt) (ys := vals (gatherAt d [(m2 : Int)] dt' (modF cnt) [(N : Int)]) N) (n := n2) (N := N) (box := bx) (gd := gd) (csh := csh) (ash := ash) (unhide HZX) (((unhide HO).mono (by omega)).other (fun k hk => by have := (unhide HO).low hk; show k ≠ pb; omega) _) (by omega) (((unhide HB).below (Nat.le_refl _) HKC').other (p := ⟨pb, 1, none⟩) hne _) (fun h => by have := (unhide HO).low h; omega) (((unhide HBZ).trans (((unhide HBL).mono (by omega)).trans (HKC'.mono (by omega)))).setCell (p := ⟨pb, 1, none⟩) (by show w.heap.size ≤ pb; omega) _) (fun h => by have := (unhide HO).low h; omega) (by omega) (by omega)
    obtain ⟨ash', csh', gd', hb, hO', hgd', hB', hne', hbl'⟩ := hres
    obtain ⟨q0, q1, q2, q3, q4, q5, q6⟩ := hb.all
    refine bodyPost_ret (v := .tuple #[.agg #[.bool d, .slice ash' n2 csh', .slice (some ⟨gd', 0, none⟩) N N], .int .i64 0]) (by simp [results, Tryz.results98, go_sem, q0, q1, q2]) rfl ?_
    rw [← HCNT.out]
    exact gives_res (by simp [vals]) (by omega) hO' hgd' hB' hne' hbl'
end Go.Proofs.YtgjpchnkodnieaaGreatDoor
namespace Go.Proofs.YtgjpchnkodnieaaGreatDoor
open Go.RowKit
theorem codeList_bad1 {c d : Bool} {sh dt sh' dt' : List Int} (h : arrOk c sh dt = false) : codeList c d sh dt sh' dt' = 3 := by unfold codeList; rw [if_neg (by simp [h])]
theorem codeList_bad2 {c d : Bool} {sh dt sh' dt' : List Int} (h : arrOk d sh' dt' = false) : codeList c d sh dt sh' dt' = 3 := by unfold codeList; rw [if_neg (by simp [h])]
theorem codeList_ok {c d : Bool} {sh dt sh' dt' : List Int} (h : arrOk c sh dt = true) (h' : arrOk d sh' dt' = true) : codeList c d sh dt sh' dt' = listCode c sh.length := by unfold codeList; rw [if_pos ⟨h, h'⟩]
theorem implReshape_any (c d : Bool) (a1 a2 b1 b2 : Addr) (n1 n2 m1 m2 c1 c2 d1 d2 : Nat) (sh dt sh' dt' : List Int) (w : World) (h1 : Row w (some a1) n1 sh) (h2 : Row w (some a2) n2 dt) (k1 : Row w (some b1) m1 sh') (k2 : Row w (some b2) m2 dt') :
    Calls Tryz.prog 98 #[.agg #[.bool c, .slice (some a1) n1 c1, .slice (some a2) n2 c2], .agg #[.bool d, .slice (some b1) m1 d1, .slice (some b2) m2 d2]] w (GivesOwn w (reshape c d sh dt sh' dt')) := by
  cases hok : arrOk c sh dt with
  | false => rw [reshape_bad1 hok]; exact implReshape_code c d a1 a2 b1 b2 n1 n2 m1 m2 c1 c2 d1 d2 sh dt sh' dt' w h1 h2 k1 k2 3 (codeList_bad1 hok) (by omega)
  | true =>
    cases hok' : arrOk d sh' dt' with
    | false => rw [reshape_bad2 hok']; exact implReshape_code c d a1 a2 b1 b2 n1 n2 m1 m2 c1 c2 d1 d2 sh dt sh' dt' w h1 h2 k1 k2 3 (codeList_bad2 hok') (by omega)
    | true =>
      have hcl := codeList_ok hok hok'
      by_cases h0 : listCode c sh.length = 0
      · rw [h0] at hcl
        cases hn : dt.all nonNeg with
        | false => rw [reshape_neg hok hok' h0 hn]; exact implReshape_neg c d a1 a2 b1 b2 n1 n2 m1 m2 c1 c2 d1 d2 sh dt sh' dt' w h1 h2 k1 k2 hcl hn
        | true =>
          cases hs : shapeB dt with
          | false => rw [reshape_big hok hok' h0 hn hs]; exact implReshape_big c d a1 a2 b1 b2 n1 n2 m1 m2 c1 c2 d1 d2 sh dt sh' dt' w h1 h2 k1 k2 hcl hn hs
          | true =>
            have hc := shapeB_count hs
            obtain ⟨N, hN⟩ : ∃ N : Nat, countOf dt = (N : Int) := ⟨(countOf dt).toNat, by omega⟩
            obtain ⟨hin, hpr, _⟩ := shapeIn_of hok'
            have hb := hin.bd
            rw [hpr, k2.len] at hb
            rw [reshape_go hok hok' h0 hn hs m2 N k2.len hN, ← resh_vals]
            exact implReshape_good c d a1 a2 b1 b2 n1 n2 m1 m2 c1 c2 d1 d2 sh dt sh' dt' w h1 h2 k1 k2 hcl hn hs N (by rw [prodAll_count dt hs]; exact hN) (by omega)
      · rw [reshape_list hok hok' _ rfl h0]
        exact implReshape_code c d a1 a2 b1 b2 n1 n2 m1 m2 c1 c2 d1 d2 sh dt sh' dt' w h1 h2 k1 k2 _ hcl h0
end Go.Proofs.YtgjpchnkodnieaaGreatDoor
namespace Go.Proofs.YtgjpchnkodnieaaGreatDoor
open Go.RowKit
theorem cut_taking (c d : Bool) (a1 a2 b1 b2 : Option Addr) (n1 n2 m1 m2 c1 c2 d1 d2 : Nat) (sh dt sh' dt' : List Int) (w : World) (h1 : Row w a1 n1 sh) (h2 : Row w a2 n2 dt) (k1 : Row w b1 m1 sh') (k2 : Row w b2 m2 dt') :
    Calls Tryz.prog 93 #[.agg #[], .agg #[.bool c, .slice a1 n1 c1, .slice a2 n2 c2], .agg #[.bool d, .slice b1 m1 d1, .slice b2 m2 d2]] w (GivesCap w (take c d sh dt sh' dt')) := by
  unfold take
  cases hok : arrOk c sh dt with
  | false => rw [window_bad1 hok]; exact Cuttaking.code c d a1 a2 b1 b2 n1 n2 m1 m2 c1 c2 d1 d2 sh dt sh' dt' w h1 h2 k1 k2 3 (codeList_bad1' hok) (by omega)
  | true =>
    cases hok' : arrOk d sh' dt' with
    | false => rw [window_bad2 hok']; exact Cuttaking.code c d a1 a2 b1 b2 n1 n2 m1 m2 c1 c2 d1 d2 sh dt sh' dt' w h1 h2 k1 k2 3 (codeList_bad2' hok') (by omega)
    | true =>
      have hcl := codeList_ok' hok hok'
      by_cases h0 : listCode c sh.length = 0
      · rw [h0] at hcl
        have hl := h2.len
        subst hl
        refine Cuttaking.rest c d a1 a2 b1 b2 n1 dt.length m1 m2 c1 c2 d1 d2 sh dt sh' dt' w h1 h2 k1 k2 hcl hok hok' _ rfl _ (fun h => cut_5 hok hok' h0 h) (fun h hz => ?_) (fun h hz => ?_)
        · show window true (fun _ => takeZ) takeSt c d sh dt sh' dt' = _
          have hz' : shapeB (takeZ dt) = false := by rw [take_z dt (countedSh dt.length sh')]; exact hz
          by_cases h5 : dt.length ≤ 5
          · exact window_big hok hok' (cut_count h0 h h5) rfl hz'
          · exact cut_long hok hok' h0 h (by omega)
        · have hz' : shapeB (takeZ dt) = true := by rw [take_z dt (countedSh dt.length sh')]; exact hz
          rw [cut_go hok hok' h0 h hz' (takeZ_len dt), ← take_z, ← take_st]
      · rw [window_code' hok hok' _ (counted_list rfl h0) h0]
        exact Cuttaking.code c d a1 a2 b1 b2 n1 n2 m1 m2 c1 c2 d1 d2 sh dt sh' dt' w h1 h2 k1 k2 _ hcl h0
end Go.Proofs.YtgjpchnkodnieaaGreatDoor
namespace Go.Proofs.YtgjpchnkodnieaaGreatDoor
open Go.RowKit
theorem cut_dropping (c d : Bool) (a1 a2 b1 b2 : Option Addr) (n1 n2 m1 m2 c1 c2 d1 d2 : Nat) (sh dt sh' dt' : List Int) (w : World) (h1 : Row w a1 n1 sh) (h2 : Row w a2 n2 dt) (k1 : Row w b1 m1 sh') (k2 : Row w b2 m2 dt') :
    Calls Tryz.prog 92 #[.agg #[], .agg #[.bool c, .slice a1 n1 c1, .slice a2 n2 c2], .agg #[.bool d, .slice b1 m1 d1, .slice b2 m2 d2]] w (GivesCap w (drop c d sh dt sh' dt')) := by
  unfold drop
  cases hok : arrOk c sh dt with
  | false => rw [window_bad1 hok]; exact Cutdropping.code c d a1 a2 b1 b2 n1 n2 m1 m2 c1 c2 d1 d2 sh dt sh' dt' w h1 h2 k1 k2 3 (codeList_bad1' hok) (by omega)
  | true =>
    cases hok' : arrOk d sh' dt' with
    | false => rw [window_bad2 hok']; exact Cutdropping.code c d a1 a2 b1 b2 n1 n2 m1 m2 c1 c2 d1 d2 sh dt sh' dt' w h1 h2 k1 k2 3 (codeList_bad2' hok') (by omega)
    | true =>
      have hcl := codeList_ok' hok hok'
      by_cases h0 : listCode c sh.length = 0
      · rw [h0] at hcl
        have hl := h2.len
        subst hl
        refine Cutdropping.rest c d a1 a2 b1 b2 n1 dt.length m1 m2 c1 c2 d1 d2 sh dt sh' dt' w h1 h2 k1 k2 hcl hok hok' _ rfl _ (fun h => cut_5 hok hok' h0 h) (fun h hz => ?_) (fun h hz => ?_)
        · show window false dropZ (fun _ => dropSt) c d sh dt sh' dt' = _
          by_cases h5 : dt.length ≤ 5
          · have := drop_fits hok' h h5
            rw [drop_z] at this
            rw [this] at hz
            cases hz
          · exact cut_long hok hok' h0 h (by omega)
        · have hz' : shapeB (dropZ (countedSh dt.length sh') dt) = true := hz
          rw [cut_go hok hok' h0 h hz' (dropZ_len _ dt), ← drop_z, ← drop_st]
      · rw [window_code' hok hok' _ (counted_list rfl h0) h0]
        exact Cutdropping.code c d a1 a2 b1 b2 n1 n2 m1 m2 c1 c2 d1 d2 sh dt sh' dt' w h1 h2 k1 k2 _ hcl h0
end Go.Proofs.YtgjpchnkodnieaaGreatDoor
namespace Go.Proofs.YtgjpchnkodnieaaGreatDoor
open Go.RowKit Go.Shelf
theorem own_end {w W : World} {p : Nat} {c d : Bool} {y1 y2 : Option Addr} {l1 k1 l2 k2 : Nat} {code : Int} {b1 b2 : Option Addr} {m1 d1 m2 d2 : Nat} {sh dt : List Int} (hx : Box W p c (.slice y1 l1 k1) (.slice y2 l2 k2)) (h1 : Own W w.heap.size b1 m1 sh) (h2 : Own W w.heap.size b2 m2 dt) (hap : Apart b1 m1 b2 m2) (hb : Below w.heap.size w W) (hp : w.heap.size ≤ p) :
    GivesOwn w ⟨d, sh, dt, code⟩ (.returned (.tuple #[.agg #[.bool d, .slice b1 m1 d1, .slice b2 m2 d2], .int .i64 code])) (((W.setCell ⟨p, 0, none⟩ (.bool d)).setCell ⟨p, 1, none⟩ (.slice b1 m1 d1)).setCell ⟨p, 2, none⟩ (.slice b2 m2 d2)) := by
  have e1 : ∀ k, At b1 m1 k → k ≠ p := fun k hk => h1.row.notBox hx hk
  have e2 : ∀ k, At b2 m2 k → k ≠ p := fun k hk => h2.row.notBox hx hk
  exact ⟨_, _, _, _, _, _, rfl, ((h1.other (q := ⟨p, 0, none⟩) e1 _).other (q := ⟨p, 1, none⟩) e1 _).other (q := ⟨p, 2, none⟩) e1 _, ((h2.other (q := ⟨p, 0, none⟩) e2 _).other (q := ⟨p, 1, none⟩) e2 _).other (q := ⟨p, 2, none⟩) e2 _, hap, ((hb.setCell (p := ⟨p, 0, none⟩) hp _).setCell (p := ⟨p, 1, none⟩) hp _).setCell (p := ⟨p, 2, none⟩) hp _⟩
end Go.Proofs.YtgjpchnkodnieaaGreatDoor
