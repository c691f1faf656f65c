import Derived.Test.YtlnangnimbgpoaaImplSought
import Derived.Shelf.Abstract
namespace Go.Proofs.Ytlnangnimbgpoaa
open Go.RowKit Go.Shelf Go.Maps

/-- The map that v is says of each number what placeAmong says. -/
def MapOf (wz : World) (c d : Bool) (dt' : List Int) (v : Value) (wx : World) : Prop :=
  ∃ B N D, v = .map (some B) ∧ wx.ownsMap Try.prog 3 (plainElem (H := Unit) Try.prog 3) B N D ∧ (∀ x : Int, D.atKey (.int .i64 x) (.lit (.int .i64 0)) = .lit (.int .i64 (placeAmong c d dt' x))) ∧ Below wz.heap.size wz wx

theorem ownsMap_below {w w' : World} {p k B : Nat} {D : DataW Unit} (h : w.ownsMap Try.prog 3 (plainElem Try.prog 3) p k D) (hB : p < B) (hb : Below B w w') : w'.ownsMap Try.prog 3 (plainElem Try.prog 3) p k D := by
  obtain ⟨es, clock, h1, r⟩ := h
  exact ⟨es, clock, (hb.block p hB).trans h1, r⟩

theorem ownsMap_but {S : Nat → Prop} {w w' : World} {p k : Nat} {D : DataW Unit} (h : w.ownsMap Try.prog 3 (plainElem Try.prog 3) p k D) (hp : p < w.heap.size) (hS : ¬ S p) (hb : But S w w') : w'.ownsMap Try.prog 3 (plainElem Try.prog 3) p k D := by
  obtain ⟨es, clock, h1, r⟩ := h
  exact ⟨es, clock, (hb.block p hp hS).trans h1, r⟩

theorem map_look {w : World} {p k : Nat} {D : DataW Unit} {x v : Int} (h : w.ownsMap Try.prog 3 (plainElem Try.prog 3) p k D) (hx : -1000000000000000 ≤ x ∧ x ≤ 1000000000000000) (hv : D.atKey (.int .i64 x) (.lit (.int .i64 0)) = .lit (.int .i64 v)) : (Instr.lookup 101 (.map (some p)) (.int .i64 x) false).run Try.prog w = .ok (.int .i64 v) w := by
  obtain ⟨c, hrun, hat, _⟩ := h.lookup_int lawInt Try.underlying101 Try.underlying3 (zeroInt _) (keyOf_int_mk Try.underlying3 (a := x) (WalkArith.wf_i64 (by omega)))
  rw [hv] at hat
  cases hat
  exact hrun

theorem cl_box1 (w : World) {wC : World} (h : Below (w.drew.alloc (boxB (.slice none 0 0) (.slice none 0 0))).heap.size (w.drew.alloc (boxB (.slice none 0 0) (.slice none 0 0))) wC) : Box wC w.heap.size false (.slice none 0 0) (.slice none 0 0) := (Box.new w.drew false _ _).below (Nat.le_refl _) h
theorem cl_box2 (w : World) (N : Nat) {wC : World} (h : Below ((w.drew.alloc (boxB (.slice none 0 0) (.slice none 0 0))).alloc (madeB N)).heap.size ((w.drew.alloc (boxB (.slice none 0 0) (.slice none 0 0))).alloc (madeB N)) wC) : Box wC w.heap.size false (.slice none 0 0) (.slice none 0 0) := ((Box.new w.drew false _ _).alloc _).below (Nat.le_refl _) h
theorem cl_box3 (w : World) (N : Nat) {wC : World} (h : Below ((w.drew.alloc (madeB N)).alloc (boxB (.slice none 0 0) (.slice none 0 0))).heap.size ((w.drew.alloc (madeB N)).alloc (boxB (.slice none 0 0) (.slice none 0 0))) wC) : Box wC (w.heap.size + 1) false (.slice none 0 0) (.slice none 0 0) := by
  have := Box.new (w.drew.alloc (madeB N)) false (.slice none 0 0) (.slice none 0 0)
  rw [World.size_alloc] at this
  exact this.below (Nat.le_refl _) h

theorem Row.drew' {w : World} {a : Option Addr} {n : Nat} {zs : List Int} (h : Row w a n zs) : Row w.drew a n zs := ⟨h.len, h.small, h.at_⟩

set_option maxRecDepth 20000 in
set_option maxHeartbeats 4000000 in
theorem sought_any (c d : Bool) (a1 : Addr) (a2 b1 b2 : Option Addr) (n1 n2 m1 m2 c1 c2 d1 d2 : Nat) (sh dt dt' : List Int) (g : Nat) (lb : Array Value) (eg : ∀ args w, (callFunc g args).run Try.prog w = .ok (.enter g args) w) (f : Nat → Int) (w : World)
    (h1 : Row w (some a1) n1 sh) (h2 : Row w a2 n2 dt) (k2 : Row w b2 m2 dt') (hn2 : n2 ≤ 10000) (hm2 : m2 ≤ 10000)
    (hdt : ∀ k, k < dt.length → -1000000000000000 ≤ dt.getD k 0 ∧ dt.getD k 0 ≤ 1000000000000000) (hdt' : ∀ k, k < dt'.length → -1000000000000000 ≤ dt'.getD k 0 ∧ dt'.getD k 0 ≤ 1000000000000000)
    (hsaid : ∀ k W, k < n2 → Below w.heap.size w W → Calls Try.prog g (#[.int .i64 (placeAmong c d dt' (dt.getD k 0))] ++ lb) W fun e w' => e = .returned (.int .i64 (f k)) ∧ Below W.heap.size W w') :
    Calls Try.prog 59 #[.agg #[.bool c, .slice (some a1) n1 c1, .slice a2 n2 c2], .agg #[.bool d, .slice b1 m1 d1, .slice b2 m2 d2], .func (.func g) #[] lb] w fun e w' => ∃ ash csh gd, e = .returned (.agg #[.bool false, .slice ash n1 csh, .slice (some ⟨gd, 0, none⟩) n2 n2]) ∧ Own w' w.heap.size ash n1 sh ∧ w.heap.size ≤ gd ∧ Blk w' gd ((List.range n2).map f) ∧ ¬ At ash n1 gd ∧ Below w.heap.size w w' := by
  have hl2 := hide h2.len
  have H1 := hide h1
  have H2 := hide h2
  have K2 := hide k2
  have HDT := hide hdt
  have HDT' := hide hdt'
  have HSD := hide hsaid
  clear h1 h2 k2 hdt hdt' hsaid
  obtain ⟨wz, hwz⟩ : ∃ wz, wz = (((w.alloc (.cells #[.bool c, .slice (some a1) n1 c1, .slice a2 n2 c2] 26)).alloc (.cells #[.bool d, .slice b1 m1 d1, .slice b2 m2 d2] 26)).alloc (.cells #[.bool false, .slice none 0 0, .slice none 0 0] 26)).alloc (.map #[] 0) := ⟨_, rfl⟩
  obtain ⟨p, hp⟩ : ∃ p, p = w.heap.size := ⟨_, rfl⟩
  have hzz : wz.heap.size = p + 1 + 1 + 1 + 1 := by rw [hwz, hp]; simp
  have HZ0 : Hid (Box wz p c (.slice (some a1) n1 c1) (.slice a2 n2 c2)) := by rw [hwz, hp]; exact (((Box.new w _ _ _).alloc _).alloc _).alloc _
  have HZ1 : Hid (Box wz (p + 1) d (.slice b1 m1 d1) (.slice b2 m2 d2)) := by
    rw [hwz, hp]
    have := Box.new (w.alloc (.cells #[.bool c, .slice (some a1) n1 c1, .slice a2 n2 c2] 26)) d (.slice b1 m1 d1) (.slice b2 m2 d2)
    rw [World.size_alloc] at this
    exact (this.alloc _).alloc _
  have HZ2 : Hid (Box wz (p + 1 + 1) false (.slice none 0 0) (.slice none 0 0)) := by
    rw [hwz, hp]
    have := Box.new ((w.alloc (.cells #[.bool c, .slice (some a1) n1 c1, .slice a2 n2 c2] 26)).alloc (.cells #[.bool d, .slice b1 m1 d1, .slice b2 m2 d2] 26)) false (.slice none 0 0) (.slice none 0 0)
    rw [World.size_alloc, World.size_alloc] at this
    exact this.alloc _
  have HZM : Hid (wz.ownsMap Try.prog 3 (plainElem (H := Unit) Try.prog 3) (p + 1 + 1 + 1) 0 (.map [])) := by
    rw [hwz, hp]
    have := World.ownsMap_made (H := Unit) (((w.alloc (.cells #[.bool c, .slice (some a1) n1 c1, .slice a2 n2 c2] 26)).alloc (.cells #[.bool d, .slice b1 m1 d1, .slice b2 m2 d2] 26)).alloc (.cells #[.bool false, .slice none 0 0, .slice none 0 0] 26)) Try.prog 3 (plainElem Try.prog 3)
    rw [World.size_alloc, World.size_alloc, World.size_alloc] at this
    exact this
  have HZB : Hid (Below p w wz) := by rw [hwz, hp]; exact ((((Below.refl _ w).alloc (Nat.le_refl _) _).alloc (by simp) _).alloc (by simp; omega) _).alloc (by simp; omega) _
  have HWZ := hide hwz
  have HP := hide hp
  have hmm := @run_makeMap Try.prog
  clear hwz
  go_enter Try.func59, Try.ntmps59
  go_upto_if 16 with fail
  rw [← hp, ← HWZ.out]
  have hzl : p + 1 + 1 + 1 < wz.heap.size := by omega
  have hmk := run_make_row' (P := Try.prog) 22 3 (.int .i64 0) 8 Try.underlying22 info_int rfl .i64 .i64 n2 (by omega) (by omega)
  have H1Z := hide (H1.out.below (by omega) HZB.out)
  have H2Z := hide (H2.out.below (by omega) HZB.out)
  have K2Z := hide (K2.out.below (by omega) HZB.out)
  have HP1 : Hid (∀ q, At (some a1) n1 q → q < p) := fun q h => by rw [hp]; exact H1.out.hi h
  have HP2 : Hid (∀ q, At a2 n2 q → q < p) := fun q h => by rw [hp]; exact H2.out.hi h
  clear hp hzz HWZ hmm H1 H2 K2
  go_cut [7] (fun v wx => MapOf wz c d dt' v wx)
  case first =>
    obtain ⟨y0, y1, y2, _, _, _⟩ := HZ1.out.all
    by_cases hcd : c = d
    · subst hcd
      rw [show (c == c) = true by simp]
      go_wp2_with (go_at_call 90; refine (firstPlaces_any b2 m2 d2 dt' _ K2Z.out hm2 HDT'.out).mono ?_; rintro e wF ⟨B, rfl, hB, hown, hbl⟩)
      go_meet
      case rel => exact ⟨B, m2, _, rfl, hown, fun x => by rw [placesD_at]; unfold placeAmong; rw [if_pos rfl, K2Z.out.len], hbl⟩
    · rw [show (c == d) = false by simp [hcd]]
      go_wp2_with fail
      go_meet
      case rel => exact ⟨_, 0, _, rfl, HZM.out, fun x => by unfold placeAmong; rw [if_neg hcd]; rfl, Below.refl _ _⟩
  case rest =>
    obtain ⟨w3, hw3⟩ : ∃ x, x = wc := ⟨_, rfl⟩
    subst hw3
    obtain ⟨B, N, D, rfl, hM, hD, hB3⟩ := hcut
    have hz3 := hB3.size
    have hBl := hM.lt
    have HM := hide hM
    have HD := hide hD
    have HB3 := hide hB3
    have HX0 : Hid (Box w3 p c (.slice (some a1) n1 c1) (.slice a2 n2 c2)) := HZ0.out.below (Nat.le_refl _) hB3
    have HX2 : Hid (Box w3 (p + 1 + 1) false (.slice none 0 0) (.slice none 0 0)) := HZ2.out.below (Nat.le_refl _) hB3
    have H13 := hide (H1Z.out.below (Nat.le_refl _) hB3)
    have H23 := hide (H2Z.out.below (Nat.le_refl _) hB3)
    have HWB : Hid (Below p w w3) := HZB.out.trans (hB3.mono (by omega))
    clear hM hD hB3 HZ0 HZ1 HZ2 HZM HZB H1Z H2Z K2Z HDT'
    go_upto_region 4 with fail
    go_cut [8] (fun v wx => GotS w3 sh n1 n2 v wx)
    case first =>
      have HKEEP : ∀ wx, Below w3.heap.size w3 wx → wx.cell? ⟨p, 1, none⟩ = some (.slice (some a1) n1 c1) ∧ wx.cell? ⟨p, 2, none⟩ = some (.slice a2 n2 c2) := fun wx hwx => by
        obtain ⟨x0, x1, x2, _, _, _⟩ := HX0.out.all
        exact ⟨(hwx.cell (p := ⟨p, 1, none⟩) (by show p < _; omega)).trans x1, (hwx.cell (p := ⟨p, 2, none⟩) (by show p < _; omega)).trans x2⟩
      obtain ⟨x1, x2⟩ := HKEEP _ (Below.refl _ _)
      have hyz : w3.drew.heap.size = w3.heap.size := rfl
      have HYB : Hid (Below w3.heap.size w3 w3.drew) := (Below.refl _ _).drew
      have HYS := hide hyz
      clear hyz
      go_region_held3 (fun wx => wx.cell? ⟨p, 1, none⟩ = some (.slice (some a1) n1 c1) ∧ wx.cell? ⟨p, 2, none⟩ = some (.slice a2 n2 c2)) (first | (refine HKEEP _ ?_; repeat (first | exact hKC | exact Below.refl _ _ | refine Below.drew ?_ | refine Below.alloc ?_ (by first | exact Nat.le_refl _ | exact hKC.size | (have := hKC.size; simp <;> omega) | (simp <;> omega)) _ | refine Below.setCell ?_ (by first | exact hKC.size | (have := hKC.size; simp <;> omega) | (simp <;> omega)) _)))
        (first
        | (go_at_call 66; go_loud (refine (Clone_any a1 n1 c1 sh _ (by first | exact H13.out.drew' | exact H13.out.drew'.alloc _ | exact (H13.out.drew'.alloc _).alloc _)).mono ?_); rintro e wC ⟨ash, csh, rfl, hcap, hO, hbC⟩; have hKC : Below w3.heap.size w3 wC := (by refine Below.trans ?_ (hbC.mono (by first | exact Nat.le_refl _ | (simp <;> omega))); repeat (first | exact Below.refl _ _ | refine Below.drew ?_ | refine Below.alloc ?_ (by first | exact Nat.le_refl _ | (simp <;> omega)) _)); have HO := hide hO; have HBC := hide hbC; (first | (have hPC := hide (cl_box1 w3 hbC)) | (have hPC := hide (cl_box2 w3 n2 hbC)) | (have hPC := hide (cl_box3 w3 n2 hbC)) | skip); (first | (obtain ⟨r0, r1, r2, r3, r4, r5, r6⟩ := hPC.out.all) | skip); clear hcap hO hbC x1 x2; obtain ⟨x1, x2⟩ := HKEEP _ hKC))
      all_goals go_wp2_with fail
      · go_meet
        case rel => exact ordCMA HO.out hKC
      · go_meet
        case rel => exact ordCAM HO.out hKC
      · go_meet
        case rel => exact ordMCA (wy := w3) (HO.out.mono (by simp)) rfl (Below.refl _ _) (Below.undrew HBC.out)
      · go_meet
        case rel => exact ordMAC (wy := w3) (HO.out.mono (by simp)) rfl (Below.refl _ _) (Below.undrew HBC.out)
      · go_meet
        case rel => exact ordACM (wy := w3) (HO.out.mono (by simp)) rfl (Below.refl _ _) (Below.undrew HBC.out)
      · go_meet
        case rel => exact ordAMC (wy := w3) (HO.out.mono (by simp)) rfl (Below.refl _ _) (Below.undrew HBC.out)
    case rest =>
      obtain ⟨w4, hw4⟩ : ∃ x, x = wc := ⟨_, rfl⟩
      subst hw4
      obtain ⟨pb, gd, ash, csh, rfl, hpb, hbx, hgz, hne, hBk, hO, hag, hap, hb4⟩ := hcut
      have hz4 := hb4.size
      have hpl := hbx.all.2.2.2.2.2.2
      have hgl := hBk.lt
      have HBX := hide hbx
      have HBK : Hid (Blk w4 gd (soFar f n2 0)) := by show Blk _ _ _; rw [soFar_zero]; exact hBk
      have HO := hide hO
      have HAG := hide hag
      have HAP := hide hap
      have HB4 := hide hb4
      have HX04 : Hid (Box w4 p c (.slice (some a1) n1 c1) (.slice a2 n2 c2)) := HX0.out.below (Nat.le_refl _) hb4
      have HX24 : Hid (Box w4 (p + 1 + 1) false (.slice none 0 0) (.slice none 0 0)) := HX2.out.below (Nat.le_refl _) hb4
      have H24 := hide (H23.out.below (Nat.le_refl _) hb4)
      have HM4 := hide (ownsMap_below HM.out hBl hb4)
      have HW4 : Hid (Below p w w4) := HWB.out.trans (hb4.mono (by omega))
      have hBg : B < gd := by omega
      clear hbx hBk hO hag hap hb4 HX0 HX2 H23 H13 HM HWB hmk
      obtain ⟨x0, x1, x2, _, _, _⟩ := HX04.out.all
      go_wp2_with fail
      clear x0 x1 x2
      go_loopw [31] (fun i wr => ∃ k : Nat, k ≤ n2 ∧ i = .int .i64 (k : Nat) ∧ Hid (Blk wr gd (soFar f n2 k)) ∧ Hid (But (fun x => x = gd) w4 wr)) (fun i _ => n2 - (intOf i).toNat)
      case atStart => exact ⟨0, Nat.zero_le _, rfl, HBK, hide (But.refl _ _)⟩
      case round =>
        obtain ⟨k, hk, rfl, hb, hbut⟩ := hrel
        have hzr := hbut.out.size
        by_cases hkn : k < n2
        · have hr2 := hbut.out.row H24.out (by rintro x rfl h; have := HP2.out _ h; omega)
          obtain ⟨bb, ob, hbb, _, cb⟩ := hr2.get hkn
          cases hbb
          obtain ⟨x, hx⟩ : ∃ x, dt.getD k 0 = x := ⟨_, rfl⟩
          rw [hx] at cb
          have hxb : -1000000000000000 ≤ x ∧ x ≤ 1000000000000000 := by rw [← hx]; exact HDT.out k (by rw [hl2.out]; exact hkn)
          obtain ⟨q, hq⟩ : ∃ q, placeAmong c d dt' x = q := ⟨_, rfl⟩
          have hMr : wr.ownsMap Try.prog 3 (plainElem (H := Unit) Try.prog 3) B N D := by
            obtain ⟨es, clock, e1, e2⟩ := HM4.out
            exact ⟨es, clock, (hbut.out.block B (by omega) (by omega)).trans e1, e2⟩
          have hBr : B < wr.heap.size := by omega
          have hDx := HD.out x
          rw [hq] at hDx
          have hZr : Box wr pb false (.slice ash n1 csh) (.slice (some ⟨gd, 0, none⟩) n2 n2) := (hbut.out.block _ (by omega) (by omega)).trans HBX.out
          have hplr : pb < wr.heap.size := by omega
          have HSY : Hid (∀ W, Below w.heap.size w W → Calls Try.prog g (#[.int .i64 q] ++ lb) W fun e w' => e = .returned (.int .i64 (f k)) ∧ Below W.heap.size W w') := fun W hW => by have := HSD.out k W hkn hW; rw [hx, hq] at this; exact this
          have HWR : Hid (Below w.heap.size w wr) := by rw [← HP.out]; exact HW4.out.trans (hbut.out.below (B := p) (by omega) (by rintro x rfl; omega))
          have HKEEP : ∀ wx, But (fun b => b = gd) wr wx → wx.cell? ⟨pb, 2, none⟩ = some (.slice (some ⟨gd, 0, none⟩) n2 n2) ∧ (Instr.lookup 101 (.map (some B)) (.int .i64 x) false).run Try.prog wx = .ok (.int .i64 q) wx := fun wx hwx =>
            ⟨(hwx.cellAt (b := pb) (o := 2) hplr (by omega)).trans hZr.all.2.2.1, map_look (ownsMap_but hMr hBr (by omega) hwx) hxb hDx⟩
          obtain ⟨fk, hfk⟩ : ∃ fk, fk = f k := ⟨_, rfl⟩
          have HFK := hide hfk
          rw [← hfk] at HSY
          clear hx hq hfk hMr hDx hZr hr2
          obtain ⟨z2, zl⟩ := HKEEP _ (But.refl (fun b => b = gd) _)
          go_upto_region 8 with fail
          go_region_held3 (fun wx => wx.cell? ⟨pb, 2, none⟩ = some (.slice (some ⟨gd, 0, none⟩) n2 n2) ∧ (Instr.lookup 101 (.map (some B)) (.int .i64 x) false).run Try.prog wx = .ok (.int .i64 q) wx) (first | exact HKEEP _ (But.refl (fun b => b = gd) wr).drew | exact HKEEP _ hKT | exact HKEEP _ (hKT.setCell (p := ⟨gd, k, none⟩) rfl _))
            (first
            | (go_at_fn g; go_loud (refine (HSY.out _ (by first | exact HWR.out.drew | exact HWR.out)).mono ?_); rintro e wS ⟨rfl, hbS⟩; have hKS : Below wr.heap.size wr wS := (by refine Below.trans ?_ (hbS.mono (Nat.le_refl _)); exact (Below.refl _ _).drew); have hKT : But (fun b => b = gd) wr wS := But.of_below hKS; have HGS := hide (hb.out.below (Nat.le_refl _) hKS); have cg := HGS.out.cell (i := k) (by rw [soFar_len]; exact hkn); have cf := HGS.out.free k; clear hbS z2 zl; obtain ⟨z2, zl⟩ := HKEEP _ hKT))
          all_goals go_wp2_with fail
          all_goals go_roundw
          all_goals first
            | (refine ⟨k + 1, by omega, by go_num, ?_, hide ((hbut.out.trans ((But.of_below (S := fun b => b = gd) hKS).setCell (p := ⟨gd, k, none⟩) rfl _)).mono (by rintro x (h | h) <;> exact h))⟩
               show Blk _ _ _
               rw [← soFar_step, ← HFK.out]
               exact HGS.out.set k fk)
            | (simp [intOf]; omega)
        · have hke : k = n2 := by omega
          subst hke
          have hZr : Box wr pb false (.slice ash n1 csh) (.slice (some ⟨gd, 0, none⟩) k k) := (hbut.out.block _ (by omega) (by omega)).trans HBX.out
          obtain ⟨z0, z1, z2, z3, z4, z5, z6⟩ := hZr.all
          have hB2 : Box wr (p + 1 + 1) false (.slice none 0 0) (.slice none 0 0) := (hbut.out.block _ (by omega) (by omega)).trans HX24.out
          obtain ⟨q0, q1, q2, q3, q4, q5, q6⟩ := hB2.all
          have HB2 := hide hB2
          clear hB2 hZr
          go_wp2_with fail
          have hOr : Own wr w3.heap.size ash n1 sh := hbut.out.own HO.out (by rintro q rfl h; exact HAG.out h)
          have hk2 : ∀ q, At ash n1 q → q ≠ p + 1 + 1 := fun q h e => by have := hOr.low h; omega
          obtain ⟨WX, hWX⟩ : ∃ WX, WX = ((wr.setCell ⟨p + 1 + 1, 0, none⟩ (.bool false)).setCell ⟨p + 1 + 1, 1, none⟩ (.slice ash n1 csh)).setCell ⟨p + 1 + 1, 2, none⟩ (.slice (some ⟨gd, 0, none⟩) k k) := ⟨_, rfl⟩
          have hX : Box WX (p + 1 + 1) false (.slice ash n1 csh) (.slice (some ⟨gd, 0, none⟩) k k) := by rw [hWX]; exact HB2.out.sets
          obtain ⟨q0, q1, q2, q3, q4, q5, q6⟩ := hX.all
          have hOX : Own WX w3.heap.size ash n1 sh := by rw [hWX]; exact ((hOr.other (q := ⟨p + 1 + 1, 0, none⟩) hk2 _).other (q := ⟨p + 1 + 1, 1, none⟩) hk2 _).other (q := ⟨p + 1 + 1, 2, none⟩) hk2 _
          have hGX : Blk WX gd (soFar f k k) := by rw [hWX]; exact ((hb.out.other (p := ⟨p + 1 + 1, 0, none⟩) (by show gd ≠ p + 1 + 1; omega) _).other (p := ⟨p + 1 + 1, 1, none⟩) (by show gd ≠ p + 1 + 1; omega) _).other (p := ⟨p + 1 + 1, 2, none⟩) (by show gd ≠ p + 1 + 1; omega) _
          have hLX : Below p w WX := by rw [hWX]; exact (((HW4.out.trans (hbut.out.below (B := p) (by omega) (by rintro x rfl; omega))).setCell (p := ⟨p + 1 + 1, 0, none⟩) (by show p ≤ p + 1 + 1; omega) _).setCell (p := ⟨p + 1 + 1, 1, none⟩) (by show p ≤ p + 1 + 1; omega) _).setCell (p := ⟨p + 1 + 1, 2, none⟩) (by show p ≤ p + 1 + 1; omega) _
          rw [← hWX]
          refine bodyPost_ret (v := .agg #[.bool false, .slice ash n1 csh, .slice (some ⟨gd, 0, none⟩) k k]) (by simp [results, Try.results59, go_sem, q0, q1, q2]) rfl ?_
          rw [← HP.out, ← soFar_all]
          exact ⟨ash, csh, gd, rfl, hOX.mono (by omega), by omega, hGX, HAG.out, hLX⟩

end Go.Proofs.Ytlnangnimbgpoaa
