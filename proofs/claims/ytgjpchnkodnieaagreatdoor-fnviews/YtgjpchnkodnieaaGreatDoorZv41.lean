import Derived.WalkKit
import Derived.Test.YtgjpchnkodnieaaGreatDoorZv07
import Derived.Test.YtgjpchnkodnieaaGreatDoorZv03
import Derived.Test.YtgjpchnkodnieaaGreatDoorZv00
import Derived.Test.YtgjpchnkodnieaaGreatDoorZv05
import Derived.Test.YtgjpchnkodnieaaGreatDoorZv14
import Derived.Test.YtgjpchnkodnieaaGreatDoorZv02
import Derived.Test.YtgjpchnkodnieaaGreatDoorZv01
import Derived.Test.YtgjpchnkodnieaaGreatDoorZv09
import Derived.Test.YtgjpchnkodnieaaGreatDoorZv04
import Derived.Test.YtgjpchnkodnieaaGreatDoorChecked
import Derived.Test.YtgjpchnkodnieaaGreatDoorZv40
import Derived.Test.YtgjpchnkodnieaaGreatDoorZv11
import Derived.Test.YtgjpchnkodnieaaGreatDoorZv12
import Derived.Test.YtgjpchnkodnieaaGreatDoorZv13
import Derived.BigQuiet
import Derived.Laws.EntriesVeiled
import Derived.Deep.WholeRow
import Derived.Test.YtgjpchnkodnieaaGreatDoorZv30
import Derived.Test.YtgjpchnkodnieaaGreatDoorZv32
import Derived.Test.YtgjpchnkodnieaaGreatDoorZv15
import Derived.Test.YtgjpchnkodnieaaGreatDoorZv37
import Derived.Test.YtgjpchnkodnieaaGreatDoorZv38
import Derived.Shelf.Slices.Reverse
import Derived.Ground.NamesProg
import Derived.Test.YtgjpchnkodnieaaGreatDoorProg
import Derived.Test.YtgjpchnkodnieaaGreatDoorZv20
import Derived.Test.YtgjpchnkodnieaaGreatDoorZv19
import Derived.RangeFuncRecord
import Derived.Sort.OwnSortedInts
import Derived.Deep.DeepCutAuto
import Derived.Test.YtgjpchnkodnieaaGreatDoorZv22
import Derived.Deep.RegionHeld
import Derived.Deep.RegionHeld3
namespace Go.Proofs.YtgjpchnkodnieaaGreatDoor
open Go.RowKit Go.Shelf
theorem eg_rev : ∀ args w, (callFunc 220 args).run Tryz.prog w = .ok (.enter 220 args) w := enters_of Tryz.func220 (by kernel_rfl) rfl
def revZ (sh : List Int) (z : Int) (D : List Int) (i : Nat) : Int := if (i : Int) = z then sh.getD i 0 - 1 - D.getD i 0 else D.getD i 0
set_option maxRecDepth 20000 in
set_option maxHeartbeats 2000000 in
theorem revMoved (pt pa a : Nat) (v s : Int) (ca : Bool) (va : Value) (b1 : Option Addr) (m1 d1 : Nat) (sh : List Int) (W : World) (ht : W.cell? ⟨pt, 0, none⟩ = some (.int .i64 (a : Nat))) (hpa : Box W pa ca (.slice b1 m1 d1) va) (hr : Row W b1 m1 sh) (ham : a < m1) (hs : sh.getD a 0 = s) (hv : 0 ≤ v ∧ v < s) (hsb : s ≤ 10000) :
    Calls Tryz.prog 220 #[.int .i64 v, .pointer (some ⟨pa, 0, none⟩), .pointer (some ⟨pt, 0, none⟩)] W fun e w' => e = .returned (.int .i64 (s - 1 - v)) ∧ ∃ q, w' = W.drewN q := by
  obtain ⟨a0, a1, a2, _, _, _⟩ := hpa.all
  obtain ⟨bs, os, rfl, _, cs⟩ := hr.get ham
  rw [hs] at cs
  have hw1 : IntKind.i64.wrap (s - 1) = s - 1 := by rw [IntKind.wrap_i64]; omega
  have hw2 : IntKind.i64.wrap (s - 1 - v) = s - 1 - v := by rw [IntKind.wrap_i64]; omega
  have hamz : (a : Int) < (m1 : Int) := by omega
  clear hpa hr hs a0 a2
  go_enter Tryz.func220, Tryz.ntmps220
  go_wp2_with fail
  go_ret
  exact ⟨rfl, 0, rfl⟩
theorem revClo (pa' pf pt pa : Nat) (z : Int) (ca : Bool) (va : Value) (b1 : Option Addr) (m1 d1 : Nat) (sh : List Int) (w : World) (h1 : w.cell? ⟨pa', 0, none⟩ = some (.int .i64 z)) (h2 : w.cell? ⟨pf, 0, none⟩ = some (.func (.func 220) #[] #[.pointer (some ⟨pa, 0, none⟩), .pointer (some ⟨pt, 0, none⟩)]))
    (ht : w.cell? ⟨pt, 0, none⟩ = some (.int .i64 z)) (hz : 0 < m1 → 0 ≤ z ∧ z < m1) (hpa : Box w pa ca (.slice b1 m1 d1) va) (hr : Row w b1 m1 sh) (hs : ShapeIn sh) :
    NumOk 152 #[.pointer (some ⟨pa', 0, none⟩), .pointer (some ⟨pf, 0, none⟩)] (revZ sh z) sh m1 w := by
  have hl := hr.len
  by_cases hm : 0 < m1
  · obtain ⟨hz0, hz1⟩ := hz hm
    obtain ⟨a, rfl⟩ : ∃ a : Nat, z = a := ⟨z.toNat, by omega⟩
    have hc := axisClo sh m1 pa' pf a 220 #[.pointer (some ⟨pa, 0, none⟩), .pointer (some ⟨pt, 0, none⟩)] eg_rev (fun v => sh.getD a 0 - 1 - v) w (by omega) (by omega) h1 h2 (fun v hv0 hv1 W hW => revMoved pt pa a v _ ca va b1 m1 d1 sh W ((hW.cell (p := ⟨pt, 0, none⟩) (World.block_lt_of_cell? _ _ ht)).trans ht) (hpa.below (Nat.le_refl _) hW) (hr.below (Nat.le_refl _) hW) (by omega) rfl ⟨hv0, hv1⟩ (hs.cell a).2)
    intro D hD hDl k hkk ib W hW hB
    have := hc D hD hDl k hkk ib W hW hB
    have e : axisF a (fun v => sh.getD a 0 - 1 - v) D k = revZ sh (a : Int) D k := by
      unfold axisF revZ
      by_cases h : k = a
      · subst h; rw [if_pos rfl, if_pos rfl]
      · rw [if_neg h, if_neg (by omega)]
    rwa [e] at this
  · intro D _ _ k hkk
    omega
theorem isFirst_any (op : Int) (fl : Bool) (ho : (op = 21 ∧ fl = false) ∨ (op = 22 ∧ fl = true)) (w : World) : Calls Tryz.prog 219 #[.int .i64 op] w fun e w' => e = .returned (.bool fl) ∧ w' = w := by
  rcases ho with ⟨rfl, rfl⟩ | ⟨rfl, rfl⟩
  all_goals
    go_enter Tryz.func219, Tryz.ntmps219
    go_wp2
    go_ret
    exact ⟨rfl, rfl⟩
def turnedZ (sh : List Int) (fl : Bool) : Int := if fl then 0 else (sh.length : Int) - 1
theorem rev_vals {c : Bool} {sh dt : List Int} {fl : Bool} (h : arrOk c sh dt = true) :
    revA c sh dt fl = ⟨c, sh, vals (gatherAt c sh dt (revZ sh (turnedZ sh fl)) sh) dt.length, 0⟩ := by
  obtain ⟨hin, hpr, _⟩ := shapeIn_of h
  by_cases hs : sh = []
  · subst hs
    rw [revA_none (.inl rfl)]
    have hl : dt.length = 1 := by simp [prodAll] at hpr; omega
    obtain ⟨x, rfl⟩ := List.length_eq_one_iff.1 hl
    simp [vals, gatherAt, insideN, place, placeN]
  · by_cases hd : dt = []
    · subst hd
      rw [revA_none (.inr rfl)]
      simp [vals]
    · have hpos : 0 < dt.length := List.length_pos_iff.mpr hd
      have hf : Full sh := full_of hin (by rw [hpr]; omega)
      have hl : 0 < sh.length := List.length_pos_iff.mpr hs
      have hat : axisAt sh fl < sh.length := by unfold axisAt; split <;> omega
      have hz : turnedZ sh fl = (axisAt sh fl : Nat) := by unfold turnedZ axisAt; cases fl <;> simp; omega
      have hn0 := hf _ hat
      have hA0 := (hin.drop (axisAt sh fl + 1)).bd.1
      obtain ⟨n, hn⟩ : ∃ n : Nat, axisN sh fl = n := ⟨(axisN sh fl).toNat, by unfold axisN; omega⟩
      obtain ⟨A, hA⟩ : ∃ A : Nat, axisA sh fl = A := ⟨(axisA sh fl).toNat, by unfold axisA; omega⟩
      have hf2 : revZ sh (axisAt sh fl : Nat) = revF (axisAt sh fl) n := by
        funext D k
        unfold revZ revF
        by_cases e : k = axisAt sh fl
        · subst e; rw [if_pos rfl, if_pos rfl]; unfold axisN at hn; rw [hn]
        · rw [if_neg (by omega), if_neg e]
      rw [revA_go hs hd n A hn hA, hz, hf2]
      congr 1
      exact vals_same fun t ht => by rw [rev_gather hf hat t (by rw [hpr]; omega) n A hn hA]
set_option maxRecDepth 20000 in
set_option maxHeartbeats 8000000 in
theorem mon_reverse (op : Int) (fl : Bool) (ho : (op = 21 ∧ fl = false) ∨ (op = 22 ∧ fl = true)) (c : Bool) (a1 a2 : Option Addr) (n1 n2 c1 c2 : Nat) (sh dt : List Int) (w : World) (h1 : Row w a1 n1 sh) (h2 : Row w a2 n2 dt) (hok : arrOk c sh dt = true) :
    Calls Tryz.prog 141 #[.int .i64 op, .agg #[.bool c, .slice a1 n1 c1, .slice a2 n2 c2]] w (GivesOwn w (revA c sh dt fl)) := by
  obtain ⟨hin, hpr, h5⟩ := shapeIn_of hok
  have hs4 := h2.small
  have hl2 := h2.len
  have hl1 := h1.len
  rw [rev_vals hok, hl2]
  rw [hl2] at hpr
  rw [hl1] at h5
  obtain ⟨z, hz⟩ : ∃ z, turnedZ sh fl = z := ⟨_, rfl⟩
  rw [hz]
  unfold turnedZ at hz
  rw [hl1] at hz
  have HZ : Hid ((if fl then 0 else (n1 : Int) - 1) = z) := hz
  have HZM : Hid (0 < n1 → 0 ≤ z ∧ z < n1) := fun h => by rw [← hz]; split <;> omega
  have H1 := hide h1
  have H2 := hide h2
  have HIN := hide hin
  have HPR := hide hpr
  have hisf := fun wx => isFirst_any op fl ho wx
  have hax := fun wx => axisAt_int a1 n1 c1 fl wx (by omega) z HZ
  clear h1 h2 hok hin hpr hl1 hl2 hz ho
  obtain ⟨W0, hW0⟩ : ∃ W0, W0 = (w.alloc (.cells #[.bool c, .slice a1 n1 c1, .slice a2 n2 c2] 25)).alloc (.cells #[.bool false, .slice none 0 0, .slice none 0 0] 25) := ⟨_, rfl⟩
  obtain ⟨B4, B5, hB0⟩ := boxes2 (w := w) (c := c) (v1 := .slice a1 n1 c1) (v2 := .slice a2 n2 c2) (Below.refl _ _)
  rw [← hW0] at B4 B5 hB0
  have E4 := hide B4
  have E6 := hide B5
  have HB := hide hB0
  have hz6 := (unhide E6).lt
  obtain ⟨x0, x1, x2, x3, x4, x5, x6⟩ := B4.all
  clear B4 B5 hB0
  go_enter Tryz.func141, Tryz.ntmps141
  go_upto_region 1 with fail
  rw [← hW0]
  clear hW0
  go_cut [6] (fun v wx => ∃ pt, v = .pointer (some ⟨pt, 0, none⟩) ∧ W0.heap.size ≤ pt ∧ wx.cell? ⟨pt, 0, none⟩ = some (.int .i64 z) ∧ Below W0.heap.size W0 wx)
  case first =>
    have HKEEP : ∀ wx, Below (w.heap.size + 1) W0 wx → Below (w.heap.size + 1) W0 wx ∧ wx.cell? ⟨w.heap.size, 1, none⟩ = some (.slice a1 n1 c1) := fun wx hwx => ⟨hwx, ((unhide E4).low (by omega) hwx).cells.2.1⟩
    go_region_with (first | (go_at_call 219; refine (hisf _).mono ?_; rintro e w' ⟨rfl, hw⟩; obtain rfl := hw.symm) | (go_at_call 62; refine (hax _).mono ?_; rintro e w' ⟨rfl, hw⟩; obtain rfl := hw.symm))
    all_goals go_wp2_with fail
    all_goals (go_meet; case rel => first | exact ⟨_, rfl, by simp, by simp, ((Below.refl _ _).alloc (Nat.le_refl _) _).drew⟩ | exact ⟨_, rfl, by simp, by simp, ((Below.refl _ _).drew).alloc (by simp) _⟩)
  case rest =>
  obtain ⟨wz, hwz⟩ : ∃ x, x = wc := ⟨_, rfl⟩
  subst hwz
  obtain ⟨pt, rfl, hpt, hcz, hKz⟩ := hcut
  have hz0 := (unhide HB).size
  obtain ⟨bx, hbx⟩ : ∃ bx, bx = w.heap.size + 1 := ⟨_, rfl⟩
  have hzz : pt < wz.heap.size := World.block_lt_of_cell? _ _ hcz
  have hzb : bx < pt := by rw [hbx]; omega
  have HZ1 := hide ((unhide E4).below (Nat.le_refl _) hKz)
  have HZ2 : Hid (Box wz bx false (.slice none 0 0) (.slice none 0 0)) := by rw [hbx]; exact (unhide E6).below (Nat.le_refl _) hKz
  have HZT : Hid (wz.cell? ⟨pt, 0, none⟩ = some (.int .i64 z)) := hcz
  have HBZ := hide ((unhide HB).trans (hKz.mono (unhide HB).size))
  have K1Z := hide ((unhide H1).below (Nat.le_refl _) (unhide HBZ))
  have K2Z := hide ((unhide H2).below (Nat.le_refl _) (unhide HBZ))
  rw [← hbx]
  clear hcz hKz hpt E4 E6 HB H1 H2 x0 x1 x2 x3 x4 x5 x6 hisf hax HZ
  go_upto_region 2 with fail
  go_cut [5] (fun v wx => v = .int .i64 0 ∧ Res5 w c sh (vals (gatherAt c sh dt (revZ sh z) sh) n2) n1 n2 bx wx)
  case first =>
    have HKEEP : ∀ wx, But (fun k => k = bx) wz wx → wx.cell? ⟨w.heap.size, 0, none⟩ = some (.bool c) ∧ wx.cell? ⟨w.heap.size, 1, none⟩ = some (.slice a1 n1 c1) ∧ wx.cell? ⟨w.heap.size, 2, none⟩ = some (.slice a2 n2 c2) ∧ wx.cell? ⟨pt, 0, none⟩ = some (.int .i64 z) := fun wx hwx => by
      obtain ⟨y0, y1, y2, _, _, _⟩ := (unhide HZ1).all
      exact ⟨(hwx.cellAt (by omega) (by omega)).trans y0, (hwx.cellAt (by omega) (by omega)).trans y1, (hwx.cellAt (by omega) (by omega)).trans y2, (hwx.cellAt (by omega) (by omega)).trans (unhide HZT)⟩
    obtain ⟨y0, y1, y2, y3⟩ := HKEEP _ (But.refl _ _)
    obtain ⟨r0, r1, r2, r3, r4, r5, r6⟩ := (unhide HZ2).all
    have hwb : w.heap.size < bx := by omega
    clear hbx
    go_region_held3 (fun wx => wx.cell? ⟨w.heap.size, 0, none⟩ = some (.bool c) ∧ wx.cell? ⟨w.heap.size, 1, none⟩ = some (.slice a1 n1 c1) ∧ wx.cell? ⟨w.heap.size, 2, none⟩ = some (.slice a2 n2 c2) ∧ wx.cell? ⟨pt, 0, none⟩ = some (.int .i64 z)) (first | exact HKEEP _ ((((But.of_below (S := fun k => k = bx) (unhide HKG)).setCell (p := ⟨bx, 0, none⟩) rfl _).setCell (p := ⟨bx, 1, none⟩) rfl _).setCell (p := ⟨bx, 2, none⟩) rfl _) | exact HKEEP _ (But.of_below (unhide HKG)) | exact HKEEP _ (But.of_below (unhide HKB)) | exact HKEEP _ (But.of_below (unhide HKC)) | exact HKEEP _ (But.of_below (unhide HKO)) | exact HKEEP _ (But.refl _ _).drew)
      (first
      | (go_at_call 63; (first | (have hP := unhide HKO) | (have hP : Below wz.heap.size wz wz.drew := (Below.refl _ wz).drew)); refine (Clone_opt a1 n1 c1 sh _ ((unhide K1Z).below (Nat.le_refl _) hP)).mono ?_; rintro e wC ⟨ash, csh, rfl, hcap, hO, hbC⟩; have HKC : Hid (Below wz.heap.size wz wC) := hP.trans (hbC.mono hP.size); have HKB := HKC; have HO := hide (hO.mono hP.size); have HOH : Hid (∀ x, At ash n1 x → x < wC.heap.size) := (fun x hx => hO.row.hi hx); (first | (have HA2 : Hid (wC.cell? ⟨wz.heap.size, 0, none⟩ = some (.int .i64 z) ∧ wC.cell? ⟨wz.heap.size + 1, 0, none⟩ = some (.func (.func 220) #[] #[.pointer (some ⟨w.heap.size, 0, none⟩), .pointer (some ⟨pt, 0, none⟩)])) := ⟨(hbC.cell (p := ⟨wz.heap.size, 0, none⟩) (World.block_lt_of_cell? _ _ (unhide HA1).1)).trans (unhide HA1).1, (hbC.cell (p := ⟨wz.heap.size + 1, 0, none⟩) (World.block_lt_of_cell? _ _ (unhide HA1).2)).trans (unhide HA1).2⟩) | skip); clear hcap hO hbC r0 r1 r2 r3 r4 r5 r6 y0 y1 y2 y3; obtain ⟨y0, y1, y2, y3⟩ := HKEEP _ (But.of_below (unhide HKC)); obtain ⟨r0, r1, r2, r3, r4, r5, r6⟩ := ((unhide HZ2).below (Nat.le_refl _) (unhide HKC)).all)
      | (go_at_call 64; refine (onAxis_int z _ _ 220 #[.pointer (some ⟨w.heap.size, 0, none⟩), .pointer (some ⟨pt, 0, none⟩)] rfl).mono ?_; rintro e wO ⟨rfl, hwO⟩; (first | (have HKB : Hid (Below wz.heap.size wz wO) := (by rw [hwO]; exact (((unhide HKC).alloc (unhide HKC).size _).alloc (by have := (unhide HKC).size; simp; omega) _)); have HA2 : Hid (wO.cell? ⟨wC.heap.size, 0, none⟩ = some (.int .i64 z) ∧ wO.cell? ⟨wC.heap.size + 1, 0, none⟩ = some (.func (.func 220) #[] #[.pointer (some ⟨w.heap.size, 0, none⟩), .pointer (some ⟨pt, 0, none⟩)])) := (by rw [hwO]; exact two_cellsR wC _ _); have HO := hide (show Own wO wz.heap.size ash n1 sh by rw [hwO]; exact ((unhide HO).alloc _).alloc _); have HOH : Hid (∀ x, At ash n1 x → x < wO.heap.size) := (fun x hx => by have := unhide HOH x hx; rw [hwO]; simp; omega)) | (have HKO : Hid (Below wz.heap.size wz wO) := (by rw [hwO]; exact (((Below.refl _ wz).drew.alloc (Nat.le_refl _) _).alloc (by simp) _)); have HA1 : Hid (wO.cell? ⟨wz.heap.size, 0, none⟩ = some (.int .i64 z) ∧ wO.cell? ⟨wz.heap.size + 1, 0, none⟩ = some (.func (.func 220) #[] #[.pointer (some ⟨w.heap.size, 0, none⟩), .pointer (some ⟨pt, 0, none⟩)])) := (by rw [hwO]; exact two_cellsR wz.drew _ _); have HKB := HKO)); clear hwO r0 r1 r2 r3 r4 r5 r6 y0 y1 y2 y3; obtain ⟨y0, y1, y2, y3⟩ := HKEEP _ (But.of_below (unhide HKB)); obtain ⟨r0, r1, r2, r3, r4, r5, r6⟩ := ((unhide HZ2).below (Nat.le_refl _) (unhide HKB)).all)
      | (go_at_call 59; refine (gathered_any c a1 a2 ash n1 n2 c1 c2 n1 csh sh dt sh 152 _ eg_onAxis (revZ sh z) _ n2 ((unhide K1Z).below (Nat.le_refl _) (unhide HKB)) ((unhide K2Z).below (Nat.le_refl _) (unhide HKB)) (unhide HO).row (unhide HIN) (unhide HIN) h5 (unhide HPR) (unhide HPR) (revClo _ _ pt w.heap.size z c (.slice a2 n2 c2) a1 n1 c1 sh _ (unhide HA2).1 (unhide HA2).2 (((unhide HKB).cell (p := ⟨pt, 0, none⟩) hzz).trans (unhide HZT)) (unhide HZM) ((unhide HZ1).below (Nat.le_refl _) (unhide HKB)) ((unhide K1Z).below (Nat.le_refl _) (unhide HKB)) (unhide HIN))).mono ?_; rintro e wG ⟨gd, rfl, hgd, hBG, hbG⟩; have HKG : Hid (Below wz.heap.size wz wG) := (unhide HKB).trans (hbG.mono (unhide HKB).size); have HBG := hide hBG; have HGD := hide hgd; have HOG := hide ((unhide HO).below (Nat.le_refl _) hbG); have HKS := hide ((unhide HKB).size); clear hgd hBG hbG r0 r1 r2 r3 r4 r5 r6 y0 y1 y2 y3; obtain ⟨y0, y1, y2, y3⟩ := HKEEP _ (But.of_below (unhide HKG)); obtain ⟨r0, r1, r2, r3, r4, r5, r6⟩ := ((unhide HZ2).below (Nat.le_refl _) (unhide HKG)).all))
    all_goals go_wp2_with fail
    all_goals (go_meet; case rel => exact ⟨rfl, Res5.set ((unhide HZ2).below (Nat.le_refl _) (unhide HKG)) ((unhide HOG).mono (by have := (unhide HBZ).size; omega)) (by have := unhide HGD; have := unhide HKS; omega) (unhide HBG) (fun h => by have := unhide HOH _ h; have := unhide HGD; omega) ((unhide HBZ).trans ((unhide HKG).mono (unhide HBZ).size)) (fun h => by have := (unhide HO).low h; omega) (by have := unhide HGD; have := unhide HKS; omega) (by omega)⟩)
  case rest =>
    obtain ⟨w3, hw3⟩ : ∃ x, x = wc := ⟨_, rfl⟩
    subst hw3
    obtain ⟨rfl, ash, csh, gd, hb, hO, hgd, hB, hne, hbl⟩ := hcut
    obtain ⟨q0, q1, q2, q3, q4, q5, q6⟩ := hb.all
    clear hb
    go_wp2_with fail
    refine bodyPost_ret (v := .tuple #[.agg #[.bool c, .slice ash n1 csh, .slice (some ⟨gd, 0, none⟩) n2 n2], .int .i64 0]) (by simp [results, Tryz.results141, go_sem, q0, q1, q2]) rfl ?_
    exact gives_res (by simp [vals]) hs4 hO hgd hB hne hbl
end Go.Proofs.YtgjpchnkodnieaaGreatDoor
