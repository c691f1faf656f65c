import Derived.Test.YtinndpnilmmmjaaGreatDoorMBr
import Derived.Test.YtinndpnilmmmjaaGreatDoorMBr
import Derived.Deep.RegionHeld3
namespace Go.Proofs.YtinndpnilmmmjaaGreatDoor
open Go.RowKit

theorem prim_signs : (List.range 33).all (fun q => decide (primCs.getD q 0 ∈ signCs)) = true := by kernel_rfl

theorem primT_at : (List.range 33).all (fun q => decide ((primT q).data.toList = sgL (primCs.getD q 0))) = true := by kernel_rfl

/-- A primitive's sign written. -/
theorem saysI_prim (Z : World) (tb fb : Nat) (hG : GlTree Z) (a : Option Addr) (n cap : Nat) (N : Nat) (hN : 1 ≤ N ∧ N ≤ 33) : SaysI Z tb fb 128 #[prV a n cap tb fb, .string (primT (N - 1))] (fun st => sayP st (looksD.prim ((N : Nat) : Int)) false) := by
  have h1 := List.all_eq_true.mp prim_signs (N - 1) (by simp; omega)
  have h2 := List.all_eq_true.mp primT_at (N - 1) (by simp; omega)
  rw [decide_eq_true_eq] at h1 h2
  have e : looksD.sg (primCs.getD (N - 1) 0) = sgL (primCs.getD (N - 1) 0) := by simp only [looksD]
  refine saysI_congr (saysI_sgn Z tb fb hG a n cap (primT (N - 1)) (primCs.getD (N - 1) 0) h1 (by rw [e]; exact h2)) (fun st => ?_)
  unfold sayS
  rw [looks_prim, e, ← h2]
  have e2 : (((N : Nat) : Int) - 1).toNat = N - 1 := by omega
  rw [e2]

set_option maxRecDepth 20000 in
set_option maxHeartbeats 2000000 in
theorem fnI_11 (Z : World) (tb fb : Nat) (hG : GlTree Z) (a : Option Addr) (n cap : Nat) (k xm : Int) (hk : k = 11) (xs : ByteArray) (s1 : Option Addr) (n1 c1 : Nat) (s2 : Option Addr) (n2 c2 : Nat) (N : Nat) (hN : 1 ≤ N ∧ N ≤ 33) :
    SaysI Z tb fb 84 #[prV a n cap tb fb, .agg #[.int .i64 k, .int .i64 ((N : Nat) : Int), .int .i64 xm, .string xs, .slice s1 n1 c1, .slice s2 n2 c2]] (fun st => sayP (st) (looksD.prim ((N : Nat) : Int)) false) := by
  intro w st h hq
  have HP := hide (saysI_prim Z tb fb hG a n cap N hN)
  have hq1 : lenP (sayP (st) (looksD.prim ((N : Nat) : Int)) false) ≤ mostP := hq
  have HQ1 := hide hq1
  clear hq1
  have HB0 := hide (IB.two h a n cap (.int .i64 k) (.int .i64 ((N : Nat) : Int)) (.int .i64 xm) (.string xs) (.slice s1 n1 c1) (.slice s2 n2 c2))
  have HKEEP : Hid (∀ wx stx, IB Z tb fb w [(w.heap.size + 1, .cells #[.int .i64 k, .int .i64 ((N : Nat) : Int), .int .i64 xm, .string xs, .slice s1 n1 c1, .slice s2 n2 c2] 47 (0, 0)), (w.heap.size, prO a n cap tb fb)] wx stx → wx.cell? ⟨w.heap.size, 0, none⟩ = some (.slice a n cap) ∧ wx.cell? ⟨w.heap.size, 1, none⟩ = some (.func (.func 35) #[] #[.pointer (some ⟨fb, 0, none⟩), .pointer (some ⟨tb, 0, none⟩)]) ∧ wx.cell? ⟨w.heap.size + 1, 1, none⟩ = some (.int .i64 ((N : Nat) : Int)) ∧ wx.cell? ⟨w.heap.size + 1, 2, none⟩ = some (.int .i64 xm) ∧ wx.cell? ⟨w.heap.size + 1, 5, none⟩ = some (.slice s2 n2 c2)) := fun wx stx hs => by
    obtain ⟨_, y1, y2, _, _, y5⟩ := cells6 hs.at0
    obtain ⟨z0, z1⟩ := cells2 hs.at1
    exact ⟨z0, z1, y1, y2, y5⟩
  obtain ⟨e0, e1, e2, e3, e4, e5⟩ := cells6 (unhide HB0).at0
  obtain ⟨p0, p1⟩ := cells2 (unhide HB0).at1
  clear h hq hG
  subst hk
  go_enter Tryz.func84, Tryz.ntmps84
  go_wp2_with fail
  go_region_held3 (fun wx => wx.cell? ⟨w.heap.size, 0, none⟩ = some (.slice a n cap) ∧ wx.cell? ⟨w.heap.size, 1, none⟩ = some (.func (.func 35) #[] #[.pointer (some ⟨fb, 0, none⟩), .pointer (some ⟨tb, 0, none⟩)]) ∧ wx.cell? ⟨w.heap.size + 1, 1, none⟩ = some (.int .i64 ((N : Nat) : Int)) ∧ wx.cell? ⟨w.heap.size + 1, 2, none⟩ = some (.int .i64 xm) ∧ wx.cell? ⟨w.heap.size + 1, 5, none⟩ = some (.slice s2 n2 c2)) (first | exact unhide HKEEP _ _ (unhide HB1) | exact unhide HKEEP _ _ (unhide HBq) | exact unhide HKEEP _ _ ((unhide HB0).below (Below.refl _ _).drew)) (first | (go_at_call 132; refine (primSign_any N hN _).mono ?_; rintro e wq ⟨rfl, hbq⟩; have HBq := hide ((unhide HB0).below ((Below.refl _ _).drew.trans hbq)); clear hbq) | (go_at_call 128; refine ((unhide HBq).call (unhide HP) (unhide HQ1)).mono ?_; rintro e w1 ⟨⟨v1, rfl⟩, hb1⟩; have HB1 := hide hb1; clear hb1))
  obtain ⟨e0, e1, e2, e3, e4, e5⟩ := cells6 (unhide HB1).at0
  obtain ⟨p0, p1⟩ := cells2 (unhide HB1).at1
  clear HB0 HBq
  go_wp2_with fail
  go_end0
  exact ⟨⟨_, rfl⟩, (unhide HB1).ix, (unhide HB1).kept⟩

set_option maxRecDepth 20000 in
set_option maxHeartbeats 2000000 in
theorem fnI_12 (Z : World) (tb fb : Nat) (hG : GlTree Z) (a : Option Addr) (n cap : Nat) (k xm : Int) (hk : k = 12) (xs : ByteArray) (s1 : Option Addr) (n1 c1 : Nat) (s2 : Option Addr) (n2 c2 : Nat) (N : Nat) (hN : 1 ≤ N ∧ N ≤ 33) (hm : 0 ≤ xm ∧ xm ≤ 1) (c : Nat) (hcc : c = if xm = 0 then 47 else 9023) :
    SaysI Z tb fb 84 #[prV a n cap tb fb, .agg #[.int .i64 k, .int .i64 ((N : Nat) : Int), .int .i64 xm, .string xs, .slice s1 n1 c1, .slice s2 n2 c2]] (fun st => sayS looksD (sayP (st) (looksD.prim ((N : Nat) : Int)) false) c) := by
  intro w st h hq
  have HP := hide (saysI_prim Z tb fb hG a n cap N hN)
  have HA := hide (saysI_congr (saysI_along Z tb fb a n cap xm ⟨#[47]⟩ ⟨#[226, 140, 191]⟩ 47 9023 hm (saysI_sgn Z tb fb hG a n cap _ 47 (by decide) (by kernel_rfl)) (saysI_sgn Z tb fb hG a n cap _ 9023 (by decide) (by kernel_rfl))) (F' := fun st => sayS looksD st c) (fun st => by rw [hcc]))
  have hq2 : lenP (sayS looksD (sayP (st) (looksD.prim ((N : Nat) : Int)) false) c) ≤ mostP := hq
  have hq1 : lenP (sayP (st) (looksD.prim ((N : Nat) : Int)) false) ≤ mostP := Nat.le_trans ((say_len _ _ _).1) hq2
  have HQ1 := hide hq1
  have HQ2 := hide hq2
  clear hq1 hq2
  have HB0 := hide (IB.two h a n cap (.int .i64 k) (.int .i64 ((N : Nat) : Int)) (.int .i64 xm) (.string xs) (.slice s1 n1 c1) (.slice s2 n2 c2))
  have HKEEP : Hid (∀ wx stx, IB Z tb fb w [(w.heap.size + 1, .cells #[.int .i64 k, .int .i64 ((N : Nat) : Int), .int .i64 xm, .string xs, .slice s1 n1 c1, .slice s2 n2 c2] 47 (0, 0)), (w.heap.size, prO a n cap tb fb)] wx stx → wx.cell? ⟨w.heap.size, 0, none⟩ = some (.slice a n cap) ∧ wx.cell? ⟨w.heap.size, 1, none⟩ = some (.func (.func 35) #[] #[.pointer (some ⟨fb, 0, none⟩), .pointer (some ⟨tb, 0, none⟩)]) ∧ wx.cell? ⟨w.heap.size + 1, 1, none⟩ = some (.int .i64 ((N : Nat) : Int)) ∧ wx.cell? ⟨w.heap.size + 1, 2, none⟩ = some (.int .i64 xm) ∧ wx.cell? ⟨w.heap.size + 1, 5, none⟩ = some (.slice s2 n2 c2)) := fun wx stx hs => by
    obtain ⟨_, y1, y2, _, _, y5⟩ := cells6 hs.at0
    obtain ⟨z0, z1⟩ := cells2 hs.at1
    exact ⟨z0, z1, y1, y2, y5⟩
  obtain ⟨e0, e1, e2, e3, e4, e5⟩ := cells6 (unhide HB0).at0
  obtain ⟨p0, p1⟩ := cells2 (unhide HB0).at1
  clear h hq hG hcc
  subst hk
  go_enter Tryz.func84, Tryz.ntmps84
  go_wp2_with fail
  go_region_held3 (fun wx => wx.cell? ⟨w.heap.size, 0, none⟩ = some (.slice a n cap) ∧ wx.cell? ⟨w.heap.size, 1, none⟩ = some (.func (.func 35) #[] #[.pointer (some ⟨fb, 0, none⟩), .pointer (some ⟨tb, 0, none⟩)]) ∧ wx.cell? ⟨w.heap.size + 1, 1, none⟩ = some (.int .i64 ((N : Nat) : Int)) ∧ wx.cell? ⟨w.heap.size + 1, 2, none⟩ = some (.int .i64 xm) ∧ wx.cell? ⟨w.heap.size + 1, 5, none⟩ = some (.slice s2 n2 c2)) (first | exact unhide HKEEP _ _ (unhide HB1) | exact unhide HKEEP _ _ (unhide HBq) | exact unhide HKEEP _ _ ((unhide HB0).below (Below.refl _ _).drew)) (first | (go_at_call 132; refine (primSign_any N hN _).mono ?_; rintro e wq ⟨rfl, hbq⟩; have HBq := hide ((unhide HB0).below ((Below.refl _ _).drew.trans hbq)); clear hbq) | (go_at_call 128; refine ((unhide HBq).call (unhide HP) (unhide HQ1)).mono ?_; rintro e w1 ⟨⟨v1, rfl⟩, hb1⟩; have HB1 := hide hb1; clear hb1))
  obtain ⟨e0, e1, e2, e3, e4, e5⟩ := cells6 (unhide HB1).at0
  obtain ⟨p0, p1⟩ := cells2 (unhide HB1).at1
  clear HB0 HBq
  go_wp2_with (first | (go_at_call 133; refine ((unhide HB1).call (unhide HA) (unhide HQ2)).mono ?_; rintro e w2 ⟨⟨v2, rfl⟩, hb2⟩; obtain ⟨e0, e1, e2, e3, e4, e5⟩ := cells6 hb2.at0; obtain ⟨p0, p1⟩ := cells2 hb2.at1; have HB2 := hide hb2; clear hb2 HB1))
  go_end0
  exact ⟨⟨_, rfl⟩, (unhide HB2).ix, (unhide HB2).kept⟩

set_option maxRecDepth 20000 in
set_option maxHeartbeats 2000000 in
theorem fnI_13 (Z : World) (tb fb : Nat) (hG : GlTree Z) (a : Option Addr) (n cap : Nat) (k xm : Int) (hk : k = 13) (xs : ByteArray) (s1 : Option Addr) (n1 c1 : Nat) (s2 : Option Addr) (n2 c2 : Nat) (N : Nat) (hN : 1 ≤ N ∧ N ≤ 33) (hm : 0 ≤ xm ∧ xm ≤ 1) (c : Nat) (hcc : c = if xm = 0 then 92 else 9024) :
    SaysI Z tb fb 84 #[prV a n cap tb fb, .agg #[.int .i64 k, .int .i64 ((N : Nat) : Int), .int .i64 xm, .string xs, .slice s1 n1 c1, .slice s2 n2 c2]] (fun st => sayS looksD (sayP (st) (looksD.prim ((N : Nat) : Int)) false) c) := by
  intro w st h hq
  have HP := hide (saysI_prim Z tb fb hG a n cap N hN)
  have HA := hide (saysI_congr (saysI_along Z tb fb a n cap xm ⟨#[92]⟩ ⟨#[226, 141, 128]⟩ 92 9024 hm (saysI_sgn Z tb fb hG a n cap _ 92 (by decide) (by kernel_rfl)) (saysI_sgn Z tb fb hG a n cap _ 9024 (by decide) (by kernel_rfl))) (F' := fun st => sayS looksD st c) (fun st => by rw [hcc]))
  have hq2 : lenP (sayS looksD (sayP (st) (looksD.prim ((N : Nat) : Int)) false) c) ≤ mostP := hq
  have hq1 : lenP (sayP (st) (looksD.prim ((N : Nat) : Int)) false) ≤ mostP := Nat.le_trans ((say_len _ _ _).1) hq2
  have HQ1 := hide hq1
  have HQ2 := hide hq2
  clear hq1 hq2
  have HB0 := hide (IB.two h a n cap (.int .i64 k) (.int .i64 ((N : Nat) : Int)) (.int .i64 xm) (.string xs) (.slice s1 n1 c1) (.slice s2 n2 c2))
  have HKEEP : Hid (∀ wx stx, IB Z tb fb w [(w.heap.size + 1, .cells #[.int .i64 k, .int .i64 ((N : Nat) : Int), .int .i64 xm, .string xs, .slice s1 n1 c1, .slice s2 n2 c2] 47 (0, 0)), (w.heap.size, prO a n cap tb fb)] wx stx → wx.cell? ⟨w.heap.size, 0, none⟩ = some (.slice a n cap) ∧ wx.cell? ⟨w.heap.size, 1, none⟩ = some (.func (.func 35) #[] #[.pointer (some ⟨fb, 0, none⟩), .pointer (some ⟨tb, 0, none⟩)]) ∧ wx.cell? ⟨w.heap.size + 1, 1, none⟩ = some (.int .i64 ((N : Nat) : Int)) ∧ wx.cell? ⟨w.heap.size + 1, 2, none⟩ = some (.int .i64 xm) ∧ wx.cell? ⟨w.heap.size + 1, 5, none⟩ = some (.slice s2 n2 c2)) := fun wx stx hs => by
    obtain ⟨_, y1, y2, _, _, y5⟩ := cells6 hs.at0
    obtain ⟨z0, z1⟩ := cells2 hs.at1
    exact ⟨z0, z1, y1, y2, y5⟩
  obtain ⟨e0, e1, e2, e3, e4, e5⟩ := cells6 (unhide HB0).at0
  obtain ⟨p0, p1⟩ := cells2 (unhide HB0).at1
  clear h hq hG hcc
  subst hk
  go_enter Tryz.func84, Tryz.ntmps84
  go_wp2_with fail
  go_region_held3 (fun wx => wx.cell? ⟨w.heap.size, 0, none⟩ = some (.slice a n cap) ∧ wx.cell? ⟨w.heap.size, 1, none⟩ = some (.func (.func 35) #[] #[.pointer (some ⟨fb, 0, none⟩), .pointer (some ⟨tb, 0, none⟩)]) ∧ wx.cell? ⟨w.heap.size + 1, 1, none⟩ = some (.int .i64 ((N : Nat) : Int)) ∧ wx.cell? ⟨w.heap.size + 1, 2, none⟩ = some (.int .i64 xm) ∧ wx.cell? ⟨w.heap.size + 1, 5, none⟩ = some (.slice s2 n2 c2)) (first | exact unhide HKEEP _ _ (unhide HB1) | exact unhide HKEEP _ _ (unhide HBq) | exact unhide HKEEP _ _ ((unhide HB0).below (Below.refl _ _).drew)) (first | (go_at_call 132; refine (primSign_any N hN _).mono ?_; rintro e wq ⟨rfl, hbq⟩; have HBq := hide ((unhide HB0).below ((Below.refl _ _).drew.trans hbq)); clear hbq) | (go_at_call 128; refine ((unhide HBq).call (unhide HP) (unhide HQ1)).mono ?_; rintro e w1 ⟨⟨v1, rfl⟩, hb1⟩; have HB1 := hide hb1; clear hb1))
  obtain ⟨e0, e1, e2, e3, e4, e5⟩ := cells6 (unhide HB1).at0
  obtain ⟨p0, p1⟩ := cells2 (unhide HB1).at1
  clear HB0 HBq
  go_wp2_with (first | (go_at_call 133; refine ((unhide HB1).call (unhide HA) (unhide HQ2)).mono ?_; rintro e w2 ⟨⟨v2, rfl⟩, hb2⟩; obtain ⟨e0, e1, e2, e3, e4, e5⟩ := cells6 hb2.at0; obtain ⟨p0, p1⟩ := cells2 hb2.at1; have HB2 := hide hb2; clear hb2 HB1))
  go_end0
  exact ⟨⟨_, rfl⟩, (unhide HB2).ix, (unhide HB2).kept⟩

set_option maxRecDepth 20000 in
set_option maxHeartbeats 2000000 in
theorem fnI_14 (Z : World) (tb fb : Nat) (hG : GlTree Z) (a : Option Addr) (n cap : Nat) (k xm : Int) (hk : k = 14) (xs : ByteArray) (s1 : Option Addr) (n1 c1 : Nat) (s2 : Option Addr) (n2 c2 : Nat) (N : Nat) (hN : 1 ≤ N ∧ N ≤ 33) :
    SaysI Z tb fb 84 #[prV a n cap tb fb, .agg #[.int .i64 k, .int .i64 ((N : Nat) : Int), .int .i64 xm, .string xs, .slice s1 n1 c1, .slice s2 n2 c2]] (fun st => sayP (sayS looksD (sayS looksD (st) 8728) 46) (looksD.prim ((N : Nat) : Int)) false) := by
  intro w st h hq
  have H1 := hide (saysI_sgn Z tb fb hG a n cap ⟨#[226, 136, 152]⟩ 8728 (by decide) (by kernel_rfl))
  have H2 := hide (saysI_sgn Z tb fb hG a n cap ⟨#[46]⟩ 46 (by decide) (by kernel_rfl))
  have HP := hide (saysI_prim Z tb fb hG a n cap N hN)
  have hq3 : lenP (sayP (sayS looksD (sayS looksD (st) 8728) 46) (looksD.prim ((N : Nat) : Int)) false) ≤ mostP := hq
  have hq2 : lenP (sayS looksD (sayS looksD (st) 8728) 46) ≤ mostP := Nat.le_trans ((say_len _ _ _).1) hq3
  have hq1 : lenP (sayS looksD (st) 8728) ≤ mostP := Nat.le_trans ((say_len _ _ _).1) hq2
  have HQ1 := hide hq1
  have HQ2 := hide hq2
  have HQ3 := hide hq3
  clear hq1 hq2 hq3
  have HB0 := hide (IB.two h a n cap (.int .i64 k) (.int .i64 ((N : Nat) : Int)) (.int .i64 xm) (.string xs) (.slice s1 n1 c1) (.slice s2 n2 c2))
  have HKEEP : Hid (∀ wx stx, IB Z tb fb w [(w.heap.size + 1, .cells #[.int .i64 k, .int .i64 ((N : Nat) : Int), .int .i64 xm, .string xs, .slice s1 n1 c1, .slice s2 n2 c2] 47 (0, 0)), (w.heap.size, prO a n cap tb fb)] wx stx → wx.cell? ⟨w.heap.size, 0, none⟩ = some (.slice a n cap) ∧ wx.cell? ⟨w.heap.size, 1, none⟩ = some (.func (.func 35) #[] #[.pointer (some ⟨fb, 0, none⟩), .pointer (some ⟨tb, 0, none⟩)]) ∧ wx.cell? ⟨w.heap.size + 1, 1, none⟩ = some (.int .i64 ((N : Nat) : Int)) ∧ wx.cell? ⟨w.heap.size + 1, 2, none⟩ = some (.int .i64 xm) ∧ wx.cell? ⟨w.heap.size + 1, 5, none⟩ = some (.slice s2 n2 c2)) := fun wx stx hs => by
    obtain ⟨_, y1, y2, _, _, y5⟩ := cells6 hs.at0
    obtain ⟨z0, z1⟩ := cells2 hs.at1
    exact ⟨z0, z1, y1, y2, y5⟩
  obtain ⟨e0, e1, e2, e3, e4, e5⟩ := cells6 (unhide HB0).at0
  obtain ⟨p0, p1⟩ := cells2 (unhide HB0).at1
  clear h hq hG
  subst hk
  go_enter Tryz.func84, Tryz.ntmps84
  go_wp2_with (first | (go_at_call 128; refine ((unhide HB0).call (unhide H1) (unhide HQ1)).mono ?_; rintro e w1 ⟨⟨v1, rfl⟩, hb1⟩; obtain ⟨e0, e1, e2, e3, e4, e5⟩ := cells6 hb1.at0; obtain ⟨p0, p1⟩ := cells2 hb1.at1; have HB1 := hide hb1; clear hb1 HB0) | (go_at_call 128; refine ((unhide HB1).call (unhide H2) (unhide HQ2)).mono ?_; rintro e w2 ⟨⟨v2, rfl⟩, hb2⟩; obtain ⟨e0, e1, e2, e3, e4, e5⟩ := cells6 hb2.at0; obtain ⟨p0, p1⟩ := cells2 hb2.at1; have HB2 := hide hb2; clear hb2 HB1))
  go_region_held3 (fun wx => wx.cell? ⟨w.heap.size, 0, none⟩ = some (.slice a n cap) ∧ wx.cell? ⟨w.heap.size, 1, none⟩ = some (.func (.func 35) #[] #[.pointer (some ⟨fb, 0, none⟩), .pointer (some ⟨tb, 0, none⟩)]) ∧ wx.cell? ⟨w.heap.size + 1, 1, none⟩ = some (.int .i64 ((N : Nat) : Int)) ∧ wx.cell? ⟨w.heap.size + 1, 2, none⟩ = some (.int .i64 xm) ∧ wx.cell? ⟨w.heap.size + 1, 5, none⟩ = some (.slice s2 n2 c2)) (first | exact unhide HKEEP _ _ (unhide HB3) | exact unhide HKEEP _ _ (unhide HBq) | exact unhide HKEEP _ _ ((unhide HB2).below (Below.refl _ _).drew)) (first | (go_at_call 132; refine (primSign_any N hN _).mono ?_; rintro e wq ⟨rfl, hbq⟩; have HBq := hide ((unhide HB2).below ((Below.refl _ _).drew.trans hbq)); clear hbq) | (go_at_call 128; refine ((unhide HBq).call (unhide HP) (unhide HQ3)).mono ?_; rintro e w3 ⟨⟨v3, rfl⟩, hb3⟩; have HB3 := hide hb3; clear hb3))
  obtain ⟨e0, e1, e2, e3, e4, e5⟩ := cells6 (unhide HB3).at0
  obtain ⟨p0, p1⟩ := cells2 (unhide HB3).at1
  clear HB2 HBq
  go_wp2_with fail
  go_end0
  exact ⟨⟨_, rfl⟩, (unhide HB3).ix, (unhide HB3).kept⟩

set_option maxRecDepth 20000 in
set_option maxHeartbeats 2000000 in
theorem fnI_15 (Z : World) (tb fb : Nat) (hG : GlTree Z) (a : Option Addr) (n cap : Nat) (k : Int) (hk : k = 15) (xs : ByteArray) (s1 : Option Addr) (n1 c1 : Nat) (s2 : Option Addr) (n2 c2 : Nat) (N : Nat) (hN : 1 ≤ N ∧ N ≤ 33) (M : Nat) (hM : 1 ≤ M ∧ M ≤ 33) :
    SaysI Z tb fb 84 #[prV a n cap tb fb, .agg #[.int .i64 k, .int .i64 ((N : Nat) : Int), .int .i64 ((M : Nat) : Int), .string xs, .slice s1 n1 c1, .slice s2 n2 c2]] (fun st => sayP (sayS looksD (sayP (st) (looksD.prim ((N : Nat) : Int)) false) 46) (looksD.prim ((M : Nat) : Int)) false) := by
  intro w st h hq
  have HP := hide (saysI_prim Z tb fb hG a n cap N hN)
  have H2 := hide (saysI_sgn Z tb fb hG a n cap ⟨#[46]⟩ 46 (by decide) (by kernel_rfl))
  have HR := hide (saysI_prim Z tb fb hG a n cap M hM)
  have hq3 : lenP (sayP (sayS looksD (sayP (st) (looksD.prim ((N : Nat) : Int)) false) 46) (looksD.prim ((M : Nat) : Int)) false) ≤ mostP := hq
  have hq2 : lenP (sayS looksD (sayP (st) (looksD.prim ((N : Nat) : Int)) false) 46) ≤ mostP := Nat.le_trans ((say_len _ _ _).1) hq3
  have hq1 : lenP (sayP (st) (looksD.prim ((N : Nat) : Int)) false) ≤ mostP := Nat.le_trans ((say_len _ _ _).1) hq2
  have HQ1 := hide hq1
  have HQ2 := hide hq2
  have HQ3 := hide hq3
  clear hq1 hq2 hq3
  have HB0 := hide (IB.two h a n cap (.int .i64 k) (.int .i64 ((N : Nat) : Int)) (.int .i64 ((M : Nat) : Int)) (.string xs) (.slice s1 n1 c1) (.slice s2 n2 c2))
  have HKEEP : Hid (∀ wx stx, IB Z tb fb w [(w.heap.size + 1, .cells #[.int .i64 k, .int .i64 ((N : Nat) : Int), .int .i64 ((M : Nat) : Int), .string xs, .slice s1 n1 c1, .slice s2 n2 c2] 47 (0, 0)), (w.heap.size, prO a n cap tb fb)] wx stx → wx.cell? ⟨w.heap.size, 0, none⟩ = some (.slice a n cap) ∧ wx.cell? ⟨w.heap.size, 1, none⟩ = some (.func (.func 35) #[] #[.pointer (some ⟨fb, 0, none⟩), .pointer (some ⟨tb, 0, none⟩)]) ∧ wx.cell? ⟨w.heap.size + 1, 1, none⟩ = some (.int .i64 ((N : Nat) : Int)) ∧ wx.cell? ⟨w.heap.size + 1, 2, none⟩ = some (.int .i64 ((M : Nat) : Int)) ∧ wx.cell? ⟨w.heap.size + 1, 5, none⟩ = some (.slice s2 n2 c2)) := fun wx stx hs => by
    obtain ⟨_, y1, y2, _, _, y5⟩ := cells6 hs.at0
    obtain ⟨z0, z1⟩ := cells2 hs.at1
    exact ⟨z0, z1, y1, y2, y5⟩
  obtain ⟨e0, e1, e2, e3, e4, e5⟩ := cells6 (unhide HB0).at0
  obtain ⟨p0, p1⟩ := cells2 (unhide HB0).at1
  clear h hq hG
  subst hk
  go_enter Tryz.func84, Tryz.ntmps84
  go_wp2_with fail
  go_region_held3 (fun wx => wx.cell? ⟨w.heap.size, 0, none⟩ = some (.slice a n cap) ∧ wx.cell? ⟨w.heap.size, 1, none⟩ = some (.func (.func 35) #[] #[.pointer (some ⟨fb, 0, none⟩), .pointer (some ⟨tb, 0, none⟩)]) ∧ wx.cell? ⟨w.heap.size + 1, 1, none⟩ = some (.int .i64 ((N : Nat) : Int)) ∧ wx.cell? ⟨w.heap.size + 1, 2, none⟩ = some (.int .i64 ((M : Nat) : Int)) ∧ wx.cell? ⟨w.heap.size + 1, 5, none⟩ = some (.slice s2 n2 c2)) (first | exact unhide HKEEP _ _ (unhide HB1) | exact unhide HKEEP _ _ (unhide HBq) | exact unhide HKEEP _ _ ((unhide HB0).below (Below.refl _ _).drew)) (first | (go_at_call 132; refine (primSign_any N hN _).mono ?_; rintro e wq ⟨rfl, hbq⟩; have HBq := hide ((unhide HB0).below ((Below.refl _ _).drew.trans hbq)); clear hbq) | (go_at_call 128; refine ((unhide HBq).call (unhide HP) (unhide HQ1)).mono ?_; rintro e w1 ⟨⟨v1, rfl⟩, hb1⟩; have HB1 := hide hb1; clear hb1))
  obtain ⟨e0, e1, e2, e3, e4, e5⟩ := cells6 (unhide HB1).at0
  obtain ⟨p0, p1⟩ := cells2 (unhide HB1).at1
  clear HB0 HBq
  go_wp2_with (first | (go_at_call 128; refine ((unhide HB1).call (unhide H2) (unhide HQ2)).mono ?_; rintro e w2 ⟨⟨v2, rfl⟩, hb2⟩; obtain ⟨e0, e1, e2, e3, e4, e5⟩ := cells6 hb2.at0; obtain ⟨p0, p1⟩ := cells2 hb2.at1; have HB2 := hide hb2; clear hb2 HB1))
  go_region_held3 (fun wx => wx.cell? ⟨w.heap.size, 0, none⟩ = some (.slice a n cap) ∧ wx.cell? ⟨w.heap.size, 1, none⟩ = some (.func (.func 35) #[] #[.pointer (some ⟨fb, 0, none⟩), .pointer (some ⟨tb, 0, none⟩)]) ∧ wx.cell? ⟨w.heap.size + 1, 1, none⟩ = some (.int .i64 ((N : Nat) : Int)) ∧ wx.cell? ⟨w.heap.size + 1, 2, none⟩ = some (.int .i64 ((M : Nat) : Int)) ∧ wx.cell? ⟨w.heap.size + 1, 5, none⟩ = some (.slice s2 n2 c2)) (first | exact unhide HKEEP _ _ (unhide HB3) | exact unhide HKEEP _ _ (unhide HBq) | exact unhide HKEEP _ _ ((unhide HB2).below (Below.refl _ _).drew)) (first | (go_at_call 132; refine (primSign_any M hM _).mono ?_; rintro e wq ⟨rfl, hbq⟩; have HBq := hide ((unhide HB2).below ((Below.refl _ _).drew.trans hbq)); clear hbq) | (go_at_call 128; refine ((unhide HBq).call (unhide HR) (unhide HQ3)).mono ?_; rintro e w3 ⟨⟨v3, rfl⟩, hb3⟩; have HB3 := hide hb3; clear hb3))
  obtain ⟨e0, e1, e2, e3, e4, e5⟩ := cells6 (unhide HB3).at0
  obtain ⟨p0, p1⟩ := cells2 (unhide HB3).at1
  clear HB2 HBq
  go_wp2_with fail
  go_end0
  exact ⟨⟨_, rfl⟩, (unhide HB3).ix, (unhide HB3).kept⟩

set_option maxRecDepth 20000 in
set_option maxHeartbeats 2000000 in
theorem fnI_16 (Z : World) (tb fb : Nat) (hG : GlTree Z) (a : Option Addr) (n cap : Nat) (k xn xm : Int) (hk : k = 16) (xs : ByteArray) (s1 : Option Addr) (n1 c1 : Nat) (s2 : Option Addr) (n2 c2 : Nat) (F : List UInt8 × Bool → List UInt8 × Bool) (hS : SaysI Z tb fb 134 #[prV a n cap tb fb, .string ⟨#[226, 139, 132]⟩, .slice s2 n2 c2] F) (hF : ∀ st, lenP st ≤ lenP (F st)) :
    SaysI Z tb fb 84 #[prV a n cap tb fb, .agg #[.int .i64 k, .int .i64 xn, .int .i64 xm, .string xs, .slice s1 n1 c1, .slice s2 n2 c2]] (fun st => sayS looksD (F (sayS looksD (st) 123)) 125) := by
  intro w st h hq
  have H1 := hide (saysI_sgn Z tb fb hG a n cap ⟨#[123]⟩ 123 (by decide) (by kernel_rfl))
  have HS := hide hS
  have H2 := hide (saysI_sgn Z tb fb hG a n cap ⟨#[125]⟩ 125 (by decide) (by kernel_rfl))
  have hq3 : lenP (sayS looksD (F (sayS looksD (st) 123)) 125) ≤ mostP := hq
  have hq2 : lenP (F (sayS looksD (st) 123)) ≤ mostP := Nat.le_trans ((say_len _ _ _).1) hq3
  have hq1 : lenP (sayS looksD (st) 123) ≤ mostP := Nat.le_trans (hF _) hq2
  have HQ1 := hide hq1
  have HQ2 := hide hq2
  have HQ3 := hide hq3
  clear hq1 hq2 hq3
  have HB0 := hide (IB.two h a n cap (.int .i64 k) (.int .i64 xn) (.int .i64 xm) (.string xs) (.slice s1 n1 c1) (.slice s2 n2 c2))
  have HKEEP : Hid (∀ wx stx, IB Z tb fb w [(w.heap.size + 1, .cells #[.int .i64 k, .int .i64 xn, .int .i64 xm, .string xs, .slice s1 n1 c1, .slice s2 n2 c2] 47 (0, 0)), (w.heap.size, prO a n cap tb fb)] wx stx → wx.cell? ⟨w.heap.size, 0, none⟩ = some (.slice a n cap) ∧ wx.cell? ⟨w.heap.size, 1, none⟩ = some (.func (.func 35) #[] #[.pointer (some ⟨fb, 0, none⟩), .pointer (some ⟨tb, 0, none⟩)]) ∧ wx.cell? ⟨w.heap.size + 1, 1, none⟩ = some (.int .i64 xn) ∧ wx.cell? ⟨w.heap.size + 1, 2, none⟩ = some (.int .i64 xm) ∧ wx.cell? ⟨w.heap.size + 1, 5, none⟩ = some (.slice s2 n2 c2)) := fun wx stx hs => by
    obtain ⟨_, y1, y2, _, _, y5⟩ := cells6 hs.at0
    obtain ⟨z0, z1⟩ := cells2 hs.at1
    exact ⟨z0, z1, y1, y2, y5⟩
  obtain ⟨e0, e1, e2, e3, e4, e5⟩ := cells6 (unhide HB0).at0
  obtain ⟨p0, p1⟩ := cells2 (unhide HB0).at1
  clear h hq hG hS hF
  subst hk
  go_enter Tryz.func84, Tryz.ntmps84
  go_wp2_with (first | (go_at_call 128; refine ((unhide HB0).call (unhide H1) (unhide HQ1)).mono ?_; rintro e w1 ⟨⟨v1, rfl⟩, hb1⟩; obtain ⟨e0, e1, e2, e3, e4, e5⟩ := cells6 hb1.at0; obtain ⟨p0, p1⟩ := cells2 hb1.at1; have HB1 := hide hb1; clear hb1 HB0) | (go_at_call 134; refine ((unhide HB1).call (unhide HS) (unhide HQ2)).mono ?_; rintro e w2 ⟨⟨v2, rfl⟩, hb2⟩; obtain ⟨e0, e1, e2, e3, e4, e5⟩ := cells6 hb2.at0; obtain ⟨p0, p1⟩ := cells2 hb2.at1; have HB2 := hide hb2; clear hb2 HB1) | (go_at_call 128; refine ((unhide HB2).call (unhide H2) (unhide HQ3)).mono ?_; rintro e w3 ⟨⟨v3, rfl⟩, hb3⟩; obtain ⟨e0, e1, e2, e3, e4, e5⟩ := cells6 hb3.at0; obtain ⟨p0, p1⟩ := cells2 hb3.at1; have HB3 := hide hb3; clear hb3 HB2))
  go_end0
  exact ⟨⟨_, rfl⟩, (unhide HB3).ix, (unhide HB3).kept⟩

set_option maxRecDepth 20000 in
set_option maxHeartbeats 2000000 in
theorem fnI_17 (Z : World) (tb fb : Nat) (a : Option Addr) (n cap : Nat) (k xn xm : Int) (hk : k = 17) (xs : ByteArray) (s1 : Option Addr) (n1 c1 : Nat) (s2 : Option Addr) (n2 c2 : Nat) (hN : SaysI Z tb fb 127 #[prV a n cap tb fb, .string xs] (fun st => sayP st xs.data.toList true)) :
    SaysI Z tb fb 84 #[prV a n cap tb fb, .agg #[.int .i64 k, .int .i64 xn, .int .i64 xm, .string xs, .slice s1 n1 c1, .slice s2 n2 c2]] (fun st => sayP st xs.data.toList true) := by
  intro w st h hq
  have HN := hide hN
  have hq1 : lenP (sayP st xs.data.toList true) ≤ mostP := hq
  have HQ1 := hide hq1
  clear hq1
  have HB0 := hide (IB.two h a n cap (.int .i64 k) (.int .i64 xn) (.int .i64 xm) (.string xs) (.slice s1 n1 c1) (.slice s2 n2 c2))
  have HKEEP : Hid (∀ wx stx, IB Z tb fb w [(w.heap.size + 1, .cells #[.int .i64 k, .int .i64 xn, .int .i64 xm, .string xs, .slice s1 n1 c1, .slice s2 n2 c2] 47 (0, 0)), (w.heap.size, prO a n cap tb fb)] wx stx → wx.cell? ⟨w.heap.size, 0, none⟩ = some (.slice a n cap) ∧ wx.cell? ⟨w.heap.size, 1, none⟩ = some (.func (.func 35) #[] #[.pointer (some ⟨fb, 0, none⟩), .pointer (some ⟨tb, 0, none⟩)]) ∧ wx.cell? ⟨w.heap.size + 1, 1, none⟩ = some (.int .i64 xn) ∧ wx.cell? ⟨w.heap.size + 1, 2, none⟩ = some (.int .i64 xm) ∧ wx.cell? ⟨w.heap.size + 1, 5, none⟩ = some (.slice s2 n2 c2)) := fun wx stx hs => by
    obtain ⟨_, y1, y2, _, _, y5⟩ := cells6 hs.at0
    obtain ⟨z0, z1⟩ := cells2 hs.at1
    exact ⟨z0, z1, y1, y2, y5⟩
  obtain ⟨e0, e1, e2, e3, e4, e5⟩ := cells6 (unhide HB0).at0
  obtain ⟨p0, p1⟩ := cells2 (unhide HB0).at1
  clear h hq hN
  subst hk
  go_enter Tryz.func84, Tryz.ntmps84
  go_wp2_with (first | (go_at_call 127; refine ((unhide HB0).call (unhide HN) (unhide HQ1)).mono ?_; rintro e w1 ⟨⟨v1, rfl⟩, hb1⟩; obtain ⟨e0, e1, e2, e3, e4, e5⟩ := cells6 hb1.at0; obtain ⟨p0, p1⟩ := cells2 hb1.at1; have HB1 := hide hb1; clear hb1 HB0))
  go_end0
  exact ⟨⟨_, rfl⟩, (unhide HB1).ix, (unhide HB1).kept⟩

set_option maxRecDepth 20000 in
set_option maxHeartbeats 2000000 in
theorem fnI_18 (Z : World) (tb fb : Nat) (hG : GlTree Z) (a : Option Addr) (n cap : Nat) (k xn xm : Int) (hk : k = 18) (xs : ByteArray) (s1 : Option Addr) (n1 c1 : Nat) (s2 : Option Addr) (n2 c2 : Nat)  :
    SaysI Z tb fb 84 #[prV a n cap tb fb, .agg #[.int .i64 k, .int .i64 xn, .int .i64 xm, .string xs, .slice s1 n1 c1, .slice s2 n2 c2]] (fun st => sayS looksD st 8711) := by
  intro w st h hq
  have H1 := hide (saysI_sgn Z tb fb hG a n cap ⟨#[226, 136, 135]⟩ 8711 (by decide) (by kernel_rfl))
  have hq1 : lenP (sayS looksD st 8711) ≤ mostP := hq
  have HQ1 := hide hq1
  clear hq1
  have HB0 := hide (IB.two h a n cap (.int .i64 k) (.int .i64 xn) (.int .i64 xm) (.string xs) (.slice s1 n1 c1) (.slice s2 n2 c2))
  have HKEEP : Hid (∀ wx stx, IB Z tb fb w [(w.heap.size + 1, .cells #[.int .i64 k, .int .i64 xn, .int .i64 xm, .string xs, .slice s1 n1 c1, .slice s2 n2 c2] 47 (0, 0)), (w.heap.size, prO a n cap tb fb)] wx stx → wx.cell? ⟨w.heap.size, 0, none⟩ = some (.slice a n cap) ∧ wx.cell? ⟨w.heap.size, 1, none⟩ = some (.func (.func 35) #[] #[.pointer (some ⟨fb, 0, none⟩), .pointer (some ⟨tb, 0, none⟩)]) ∧ wx.cell? ⟨w.heap.size + 1, 1, none⟩ = some (.int .i64 xn) ∧ wx.cell? ⟨w.heap.size + 1, 2, none⟩ = some (.int .i64 xm) ∧ wx.cell? ⟨w.heap.size + 1, 5, none⟩ = some (.slice s2 n2 c2)) := fun wx stx hs => by
    obtain ⟨_, y1, y2, _, _, y5⟩ := cells6 hs.at0
    obtain ⟨z0, z1⟩ := cells2 hs.at1
    exact ⟨z0, z1, y1, y2, y5⟩
  obtain ⟨e0, e1, e2, e3, e4, e5⟩ := cells6 (unhide HB0).at0
  obtain ⟨p0, p1⟩ := cells2 (unhide HB0).at1
  clear h hq hG
  subst hk
  go_enter Tryz.func84, Tryz.ntmps84
  go_wp2_with (first | (go_at_call 128; refine ((unhide HB0).call (unhide H1) (unhide HQ1)).mono ?_; rintro e w1 ⟨⟨v1, rfl⟩, hb1⟩; obtain ⟨e0, e1, e2, e3, e4, e5⟩ := cells6 hb1.at0; obtain ⟨p0, p1⟩ := cells2 hb1.at1; have HB1 := hide hb1; clear hb1 HB0))
  go_end0
  exact ⟨⟨_, rfl⟩, (unhide HB1).ix, (unhide HB1).kept⟩

end Go.Proofs.YtinndpnilmmmjaaGreatDoor
namespace Go.Proofs.YtinndpnilmmmjaaGreatDoor
open Go.RowKit

set_option maxRecDepth 20000 in
set_option maxHeartbeats 2000000 in
theorem exI_3 (Z : World) (tb fb : Nat) (a : Option Addr) (n cap : Nat) (k xn xm : Int) (hk : k = 3) (xs : ByteArray) (s1 : Option Addr) (n1 c1 : Nat) (s2 : Option Addr) (n2 c2 : Nat) (hN : SaysI Z tb fb 127 #[prV a n cap tb fb, .string xs] (fun st => sayP st xs.data.toList true))  :
    SaysI Z tb fb 83 #[prV a n cap tb fb, .agg #[.int .i64 k, .int .i64 xn, .int .i64 xm, .string xs, .slice s1 n1 c1, .slice s2 n2 c2]] (fun st => sayP st xs.data.toList true) := by
  intro w st h hq
  have HN := hide hN
  have hq1 : lenP (sayP st xs.data.toList true) ≤ mostP := hq
  have HQ1 := hide hq1
  clear hq1
  have HB0 := hide (IB.two h a n cap (.int .i64 k) (.int .i64 xn) (.int .i64 xm) (.string xs) (.slice s1 n1 c1) (.slice s2 n2 c2))
  have HKEEP : Hid (∀ wx stx, IB Z tb fb w [(w.heap.size + 1, .cells #[.int .i64 k, .int .i64 xn, .int .i64 xm, .string xs, .slice s1 n1 c1, .slice s2 n2 c2] 47 (0, 0)), (w.heap.size, prO a n cap tb fb)] wx stx → wx.cell? ⟨w.heap.size, 0, none⟩ = some (.slice a n cap) ∧ wx.cell? ⟨w.heap.size, 1, none⟩ = some (.func (.func 35) #[] #[.pointer (some ⟨fb, 0, none⟩), .pointer (some ⟨tb, 0, none⟩)]) ∧ wx.cell? ⟨w.heap.size + 1, 1, none⟩ = some (.int .i64 xn) ∧ wx.cell? ⟨w.heap.size + 1, 2, none⟩ = some (.int .i64 xm) ∧ wx.cell? ⟨w.heap.size + 1, 5, none⟩ = some (.slice s2 n2 c2)) := fun wx stx hs => by
    obtain ⟨_, y1, y2, _, _, y5⟩ := cells6 hs.at0
    obtain ⟨z0, z1⟩ := cells2 hs.at1
    exact ⟨z0, z1, y1, y2, y5⟩
  obtain ⟨e0, e1, e2, e3, e4, e5⟩ := cells6 (unhide HB0).at0
  obtain ⟨p0, p1⟩ := cells2 (unhide HB0).at1
  clear h hq hN
  subst hk
  go_enter Tryz.func83, Tryz.ntmps83
  go_wp2_with (first | (go_at_call 127; refine ((unhide HB0).call (unhide HN) (unhide HQ1)).mono ?_; rintro e w1 ⟨⟨v1, rfl⟩, hb1⟩; obtain ⟨e0, e1, e2, e3, e4, e5⟩ := cells6 hb1.at0; obtain ⟨p0, p1⟩ := cells2 hb1.at1; have HB1 := hide hb1; clear hb1 HB0))
  go_end0
  exact ⟨⟨_, rfl⟩, (unhide HB1).ix, (unhide HB1).kept⟩

set_option maxRecDepth 20000 in
set_option maxHeartbeats 2000000 in
theorem exI_4 (Z : World) (tb fb : Nat) (hG : GlTree Z) (a : Option Addr) (n cap : Nat) (k xn xm : Int) (hk : k = 4) (xs : ByteArray) (s1 : Option Addr) (n1 c1 : Nat) (s2 : Option Addr) (n2 c2 : Nat)  :
    SaysI Z tb fb 83 #[prV a n cap tb fb, .agg #[.int .i64 k, .int .i64 xn, .int .i64 xm, .string xs, .slice s1 n1 c1, .slice s2 n2 c2]] (fun st => sayS looksD st 9082) := by
  intro w st h hq
  have H1 := hide (saysI_sgn Z tb fb hG a n cap ⟨#[226, 141, 186]⟩ 9082 (by decide) (by kernel_rfl))
  have hq1 : lenP (sayS looksD st 9082) ≤ mostP := hq
  have HQ1 := hide hq1
  clear hq1
  have HB0 := hide (IB.two h a n cap (.int .i64 k) (.int .i64 xn) (.int .i64 xm) (.string xs) (.slice s1 n1 c1) (.slice s2 n2 c2))
  have HKEEP : Hid (∀ wx stx, IB Z tb fb w [(w.heap.size + 1, .cells #[.int .i64 k, .int .i64 xn, .int .i64 xm, .string xs, .slice s1 n1 c1, .slice s2 n2 c2] 47 (0, 0)), (w.heap.size, prO a n cap tb fb)] wx stx → wx.cell? ⟨w.heap.size, 0, none⟩ = some (.slice a n cap) ∧ wx.cell? ⟨w.heap.size, 1, none⟩ = some (.func (.func 35) #[] #[.pointer (some ⟨fb, 0, none⟩), .pointer (some ⟨tb, 0, none⟩)]) ∧ wx.cell? ⟨w.heap.size + 1, 1, none⟩ = some (.int .i64 xn) ∧ wx.cell? ⟨w.heap.size + 1, 2, none⟩ = some (.int .i64 xm) ∧ wx.cell? ⟨w.heap.size + 1, 5, none⟩ = some (.slice s2 n2 c2)) := fun wx stx hs => by
    obtain ⟨_, y1, y2, _, _, y5⟩ := cells6 hs.at0
    obtain ⟨z0, z1⟩ := cells2 hs.at1
    exact ⟨z0, z1, y1, y2, y5⟩
  obtain ⟨e0, e1, e2, e3, e4, e5⟩ := cells6 (unhide HB0).at0
  obtain ⟨p0, p1⟩ := cells2 (unhide HB0).at1
  clear h hq hG
  subst hk
  go_enter Tryz.func83, Tryz.ntmps83
  go_wp2_with (first | (go_at_call 128; refine ((unhide HB0).call (unhide H1) (unhide HQ1)).mono ?_; rintro e w1 ⟨⟨v1, rfl⟩, hb1⟩; obtain ⟨e0, e1, e2, e3, e4, e5⟩ := cells6 hb1.at0; obtain ⟨p0, p1⟩ := cells2 hb1.at1; have HB1 := hide hb1; clear hb1 HB0))
  go_end0
  exact ⟨⟨_, rfl⟩, (unhide HB1).ix, (unhide HB1).kept⟩

set_option maxRecDepth 20000 in
set_option maxHeartbeats 2000000 in
theorem exI_5 (Z : World) (tb fb : Nat) (hG : GlTree Z) (a : Option Addr) (n cap : Nat) (k xn xm : Int) (hk : k = 5) (xs : ByteArray) (s1 : Option Addr) (n1 c1 : Nat) (s2 : Option Addr) (n2 c2 : Nat)  :
    SaysI Z tb fb 83 #[prV a n cap tb fb, .agg #[.int .i64 k, .int .i64 xn, .int .i64 xm, .string xs, .slice s1 n1 c1, .slice s2 n2 c2]] (fun st => sayS looksD st 9077) := by
  intro w st h hq
  have H1 := hide (saysI_sgn Z tb fb hG a n cap ⟨#[226, 141, 181]⟩ 9077 (by decide) (by kernel_rfl))
  have hq1 : lenP (sayS looksD st 9077) ≤ mostP := hq
  have HQ1 := hide hq1
  clear hq1
  have HB0 := hide (IB.two h a n cap (.int .i64 k) (.int .i64 xn) (.int .i64 xm) (.string xs) (.slice s1 n1 c1) (.slice s2 n2 c2))
  have HKEEP : Hid (∀ wx stx, IB Z tb fb w [(w.heap.size + 1, .cells #[.int .i64 k, .int .i64 xn, .int .i64 xm, .string xs, .slice s1 n1 c1, .slice s2 n2 c2] 47 (0, 0)), (w.heap.size, prO a n cap tb fb)] wx stx → wx.cell? ⟨w.heap.size, 0, none⟩ = some (.slice a n cap) ∧ wx.cell? ⟨w.heap.size, 1, none⟩ = some (.func (.func 35) #[] #[.pointer (some ⟨fb, 0, none⟩), .pointer (some ⟨tb, 0, none⟩)]) ∧ wx.cell? ⟨w.heap.size + 1, 1, none⟩ = some (.int .i64 xn) ∧ wx.cell? ⟨w.heap.size + 1, 2, none⟩ = some (.int .i64 xm) ∧ wx.cell? ⟨w.heap.size + 1, 5, none⟩ = some (.slice s2 n2 c2)) := fun wx stx hs => by
    obtain ⟨_, y1, y2, _, _, y5⟩ := cells6 hs.at0
    obtain ⟨z0, z1⟩ := cells2 hs.at1
    exact ⟨z0, z1, y1, y2, y5⟩
  obtain ⟨e0, e1, e2, e3, e4, e5⟩ := cells6 (unhide HB0).at0
  obtain ⟨p0, p1⟩ := cells2 (unhide HB0).at1
  clear h hq hG
  subst hk
  go_enter Tryz.func83, Tryz.ntmps83
  go_wp2_with (first | (go_at_call 128; refine ((unhide HB0).call (unhide H1) (unhide HQ1)).mono ?_; rintro e w1 ⟨⟨v1, rfl⟩, hb1⟩; obtain ⟨e0, e1, e2, e3, e4, e5⟩ := cells6 hb1.at0; obtain ⟨p0, p1⟩ := cells2 hb1.at1; have HB1 := hide hb1; clear hb1 HB0))
  go_end0
  exact ⟨⟨_, rfl⟩, (unhide HB1).ix, (unhide HB1).kept⟩

set_option maxRecDepth 20000 in
set_option maxHeartbeats 2000000 in
theorem exI_6 (Z : World) (tb fb : Nat) (hG : GlTree Z) (a : Option Addr) (n cap : Nat) (k xn xm : Int) (hk : k = 6) (xs : ByteArray) (s1 : Option Addr) (n1 c1 : Nat) (s2 : Option Addr) (n2 c2 : Nat)  :
    SaysI Z tb fb 83 #[prV a n cap tb fb, .agg #[.int .i64 k, .int .i64 xn, .int .i64 xm, .string xs, .slice s1 n1 c1, .slice s2 n2 c2]] (fun st => sayS looksD st 9068) := by
  intro w st h hq
  have H1 := hide (saysI_sgn Z tb fb hG a n cap ⟨#[226, 141, 172]⟩ 9068 (by decide) (by kernel_rfl))
  have hq1 : lenP (sayS looksD st 9068) ≤ mostP := hq
  have HQ1 := hide hq1
  clear hq1
  have HB0 := hide (IB.two h a n cap (.int .i64 k) (.int .i64 xn) (.int .i64 xm) (.string xs) (.slice s1 n1 c1) (.slice s2 n2 c2))
  have HKEEP : Hid (∀ wx stx, IB Z tb fb w [(w.heap.size + 1, .cells #[.int .i64 k, .int .i64 xn, .int .i64 xm, .string xs, .slice s1 n1 c1, .slice s2 n2 c2] 47 (0, 0)), (w.heap.size, prO a n cap tb fb)] wx stx → wx.cell? ⟨w.heap.size, 0, none⟩ = some (.slice a n cap) ∧ wx.cell? ⟨w.heap.size, 1, none⟩ = some (.func (.func 35) #[] #[.pointer (some ⟨fb, 0, none⟩), .pointer (some ⟨tb, 0, none⟩)]) ∧ wx.cell? ⟨w.heap.size + 1, 1, none⟩ = some (.int .i64 xn) ∧ wx.cell? ⟨w.heap.size + 1, 2, none⟩ = some (.int .i64 xm) ∧ wx.cell? ⟨w.heap.size + 1, 5, none⟩ = some (.slice s2 n2 c2)) := fun wx stx hs => by
    obtain ⟨_, y1, y2, _, _, y5⟩ := cells6 hs.at0
    obtain ⟨z0, z1⟩ := cells2 hs.at1
    exact ⟨z0, z1, y1, y2, y5⟩
  obtain ⟨e0, e1, e2, e3, e4, e5⟩ := cells6 (unhide HB0).at0
  obtain ⟨p0, p1⟩ := cells2 (unhide HB0).at1
  clear h hq hG
  subst hk
  go_enter Tryz.func83, Tryz.ntmps83
  go_wp2_with (first | (go_at_call 128; refine ((unhide HB0).call (unhide H1) (unhide HQ1)).mono ?_; rintro e w1 ⟨⟨v1, rfl⟩, hb1⟩; obtain ⟨e0, e1, e2, e3, e4, e5⟩ := cells6 hb1.at0; obtain ⟨p0, p1⟩ := cells2 hb1.at1; have HB1 := hide hb1; clear hb1 HB0))
  go_end0
  exact ⟨⟨_, rfl⟩, (unhide HB1).ix, (unhide HB1).kept⟩

set_option maxRecDepth 20000 in
set_option maxHeartbeats 2000000 in
theorem exI_7 (Z : World) (tb fb : Nat) (a : Option Addr) (n cap : Nat) (k xn xm : Int) (hk : k = 7) (xs : ByteArray) (s1 : Option Addr) (n1 c1 : Nat) (kb ko : Nat) (c2 : Nat) (m : Nat) (hm1 : 1 ≤ m) (hm9 : m ≤ 1048576) (hc : m + 1 ≤ c2) (hkb : kb < Z.heap.size) (z0 : Nat) (hz0 : Z.cell? ⟨kb, ko, none⟩ = some (.int .i64 (z0 : Nat))) (F1 F2 : List UInt8 × Bool → List UInt8 × Bool) (hO : SaysI Z tb fb 129 #[prV a n cap tb fb, .int .i64 (z0 : Nat)] F1) (hP : SaysI Z tb fb 130 #[prV a n cap tb fb, .slice (some ⟨kb, ko + 1, none⟩) m (c2 - 1)] F2) (h2 : ∀ st, lenP st ≤ lenP (F2 st)) :
    SaysI Z tb fb 83 #[prV a n cap tb fb, .agg #[.int .i64 k, .int .i64 xn, .int .i64 xm, .string xs, .slice s1 n1 c1, .slice (some ⟨kb, ko, none⟩) (m + 1) c2]] (fun st => F2 (F1 st)) := by
  intro w st h hq
  have y1 : (0 : Int) < ((m + 1 : Nat) : Int) := by omega
  have y2 : ¬ c2 = 1 := by omega
  have y3 : (1 : Int) ≤ ((m + 1 : Nat) : Int) := by omega
  have y4 : ((m + 1 : Nat) : Int) ≤ (c2 : Int) := by omega
  have y5 : (1 : Int) ≤ (c2 : Int) := by omega
  have y6 : (m : Int) + 1 ≤ (c2 : Int) := by omega
  have y7 : (1 : Int) ≤ (m : Int) + 1 := by omega
  have y8 : m + 1 - 1 = m := by omega
  have y9 : (0 : Int) < (m : Int) + 1 := by omega
  have HO := hide hO
  have HP := hide hP
  have hq2 : lenP (F2 (F1 st)) ≤ mostP := hq
  have hq1 : lenP (F1 st) ≤ mostP := Nat.le_trans (h2 _) hq2
  have HQ1 := hide hq1
  have HQ2 := hide hq2
  clear hq1 hq2
  have HB0 := hide (IB.two h a n cap (.int .i64 k) (.int .i64 xn) (.int .i64 xm) (.string xs) (.slice s1 n1 c1) (.slice (some ⟨kb, ko, none⟩) (m + 1) c2))
  have HKEEP : Hid (∀ wx stx, IB Z tb fb w [(w.heap.size + 1, .cells #[.int .i64 k, .int .i64 xn, .int .i64 xm, .string xs, .slice s1 n1 c1, .slice (some ⟨kb, ko, none⟩) (m + 1) c2] 47 (0, 0)), (w.heap.size, prO a n cap tb fb)] wx stx → wx.cell? ⟨w.heap.size, 0, none⟩ = some (.slice a n cap) ∧ wx.cell? ⟨w.heap.size, 1, none⟩ = some (.func (.func 35) #[] #[.pointer (some ⟨fb, 0, none⟩), .pointer (some ⟨tb, 0, none⟩)]) ∧ wx.cell? ⟨w.heap.size + 1, 1, none⟩ = some (.int .i64 xn) ∧ wx.cell? ⟨w.heap.size + 1, 2, none⟩ = some (.int .i64 xm) ∧ wx.cell? ⟨w.heap.size + 1, 5, none⟩ = some (.slice (some ⟨kb, ko, none⟩) (m + 1) c2) ∧ wx.cell? ⟨kb, ko, none⟩ = some (.int .i64 (z0 : Nat))) := fun wx stx hs => by
    obtain ⟨_, y1, y2, _, _, y5⟩ := cells6 hs.at0
    obtain ⟨z0, z1⟩ := cells2 hs.at1
    exact ⟨z0, z1, y1, y2, y5, (hs.ix.low.cell (p := ⟨kb, ko, none⟩) hkb).trans hz0⟩
  obtain ⟨e0, e1, e2, e3, e4, e5⟩ := cells6 (unhide HB0).at0
  obtain ⟨p0, p1⟩ := cells2 (unhide HB0).at1
  clear h hq hO hP h2 hz0 hkb
  subst hk
  go_enter Tryz.func83, Tryz.ntmps83
  go_wp2_with fail
  go_region_held3 (fun wx => wx.cell? ⟨w.heap.size, 0, none⟩ = some (.slice a n cap) ∧ wx.cell? ⟨w.heap.size, 1, none⟩ = some (.func (.func 35) #[] #[.pointer (some ⟨fb, 0, none⟩), .pointer (some ⟨tb, 0, none⟩)]) ∧ wx.cell? ⟨w.heap.size + 1, 1, none⟩ = some (.int .i64 xn) ∧ wx.cell? ⟨w.heap.size + 1, 2, none⟩ = some (.int .i64 xm) ∧ wx.cell? ⟨w.heap.size + 1, 5, none⟩ = some (.slice (some ⟨kb, ko, none⟩) (m + 1) c2) ∧ wx.cell? ⟨kb, ko, none⟩ = some (.int .i64 (z0 : Nat))) (first | exact unhide HKEEP _ _ (unhide HB1) | exact unhide HKEEP _ _ ((unhide HB0).below (Below.refl _ _).drew)) (first | (go_at_call 129; refine (((unhide HB0).below (Below.refl _ _).drew).call (unhide HO) (unhide HQ1)).mono ?_; rintro e w1 ⟨⟨v1, rfl⟩, hb1⟩; have HB1 := hide hb1; clear hb1))
  obtain ⟨e0, e1, e2, e3, e4, e5⟩ := cells6 (unhide HB1).at0
  obtain ⟨p0, p1⟩ := cells2 (unhide HB1).at1
  clear HB0
  go_wp2_with fail
  go_region_held3 (fun wx => wx.cell? ⟨w.heap.size, 0, none⟩ = some (.slice a n cap) ∧ wx.cell? ⟨w.heap.size, 1, none⟩ = some (.func (.func 35) #[] #[.pointer (some ⟨fb, 0, none⟩), .pointer (some ⟨tb, 0, none⟩)]) ∧ wx.cell? ⟨w.heap.size + 1, 1, none⟩ = some (.int .i64 xn) ∧ wx.cell? ⟨w.heap.size + 1, 2, none⟩ = some (.int .i64 xm) ∧ wx.cell? ⟨w.heap.size + 1, 5, none⟩ = some (.slice (some ⟨kb, ko, none⟩) (m + 1) c2) ∧ wx.cell? ⟨kb, ko, none⟩ = some (.int .i64 (z0 : Nat))) (first | exact unhide HKEEP _ _ (unhide HB2) | exact unhide HKEEP _ _ ((unhide HB1).below (Below.refl _ _).drew)) (first | (go_at_call 130; refine (((unhide HB1).below (Below.refl _ _).drew).call (unhide HP) (unhide HQ2)).mono ?_; rintro e w2 ⟨⟨v2, rfl⟩, hb2⟩; have HB2 := hide hb2; clear hb2))
  obtain ⟨e0, e1, e2, e3, e4, e5⟩ := cells6 (unhide HB2).at0
  obtain ⟨p0, p1⟩ := cells2 (unhide HB2).at1
  clear HB1
  go_wp2_with fail
  go_end0
  exact ⟨⟨_, rfl⟩, (unhide HB2).ix, (unhide HB2).kept⟩

set_option maxRecDepth 20000 in
set_option maxHeartbeats 2000000 in
theorem exI_9 (Z : World) (tb fb : Nat) (a : Option Addr) (n cap : Nat) (k xn xm : Int) (hk : k = 9) (xs : ByteArray) (s1 : Option Addr) (n1 c1 : Nat) (kb ko : Nat) (c2 : Nat) (hkb : kb < Z.heap.size) (f z : Nat) (hf : Z.cell? ⟨kb, ko, none⟩ = some (.int .i64 (f : Nat))) (hz : Z.cell? ⟨kb, ko + 1, none⟩ = some (.int .i64 (z : Nat))) (F : List UInt8 × Bool → List UInt8 × Bool) (hA : SaysI Z tb fb 131 #[prV a n cap tb fb, .int .i64 (f : Nat), .int .i64 (z : Nat)] F) :
    SaysI Z tb fb 83 #[prV a n cap tb fb, .agg #[.int .i64 k, .int .i64 xn, .int .i64 xm, .string xs, .slice s1 n1 c1, .slice (some ⟨kb, ko, none⟩) 2 c2]] (F) := by
  intro w st h hq
  have HA := hide hA
  have hq1 : lenP (F st) ≤ mostP := hq
  have HQ1 := hide hq1
  clear hq1
  have HB0 := hide (IB.two h a n cap (.int .i64 k) (.int .i64 xn) (.int .i64 xm) (.string xs) (.slice s1 n1 c1) (.slice (some ⟨kb, ko, none⟩) 2 c2))
  have HKEEP : Hid (∀ wx stx, IB Z tb fb w [(w.heap.size + 1, .cells #[.int .i64 k, .int .i64 xn, .int .i64 xm, .string xs, .slice s1 n1 c1, .slice (some ⟨kb, ko, none⟩) 2 c2] 47 (0, 0)), (w.heap.size, prO a n cap tb fb)] wx stx → wx.cell? ⟨w.heap.size, 0, none⟩ = some (.slice a n cap) ∧ wx.cell? ⟨w.heap.size, 1, none⟩ = some (.func (.func 35) #[] #[.pointer (some ⟨fb, 0, none⟩), .pointer (some ⟨tb, 0, none⟩)]) ∧ wx.cell? ⟨w.heap.size + 1, 1, none⟩ = some (.int .i64 xn) ∧ wx.cell? ⟨w.heap.size + 1, 2, none⟩ = some (.int .i64 xm) ∧ wx.cell? ⟨w.heap.size + 1, 5, none⟩ = some (.slice (some ⟨kb, ko, none⟩) 2 c2) ∧ wx.cell? ⟨kb, ko, none⟩ = some (.int .i64 (f : Nat)) ∧ wx.cell? ⟨kb, ko + 1, none⟩ = some (.int .i64 (z : Nat))) := fun wx stx hs => by
    obtain ⟨_, y1, y2, _, _, y5⟩ := cells6 hs.at0
    obtain ⟨z0, z1⟩ := cells2 hs.at1
    exact ⟨z0, z1, y1, y2, y5, (hs.ix.low.cell (p := ⟨kb, ko, none⟩) hkb).trans hf, (hs.ix.low.cell (p := ⟨kb, ko + 1, none⟩) hkb).trans hz⟩
  obtain ⟨e0, e1, e2, e3, e4, e5⟩ := cells6 (unhide HB0).at0
  obtain ⟨p0, p1⟩ := cells2 (unhide HB0).at1
  clear h hq hA hf hz hkb
  subst hk
  go_enter Tryz.func83, Tryz.ntmps83
  go_wp2_with fail
  go_region_held3 (fun wx => wx.cell? ⟨w.heap.size, 0, none⟩ = some (.slice a n cap) ∧ wx.cell? ⟨w.heap.size, 1, none⟩ = some (.func (.func 35) #[] #[.pointer (some ⟨fb, 0, none⟩), .pointer (some ⟨tb, 0, none⟩)]) ∧ wx.cell? ⟨w.heap.size + 1, 1, none⟩ = some (.int .i64 xn) ∧ wx.cell? ⟨w.heap.size + 1, 2, none⟩ = some (.int .i64 xm) ∧ wx.cell? ⟨w.heap.size + 1, 5, none⟩ = some (.slice (some ⟨kb, ko, none⟩) 2 c2) ∧ wx.cell? ⟨kb, ko, none⟩ = some (.int .i64 (f : Nat)) ∧ wx.cell? ⟨kb, ko + 1, none⟩ = some (.int .i64 (z : Nat))) (first | exact unhide HKEEP _ _ (unhide HB1) | exact unhide HKEEP _ _ ((unhide HB0).below (Below.refl _ _).drew)) (first | (go_at_call 131; refine (((unhide HB0).below (Below.refl _ _).drew).call (unhide HA) (unhide HQ1)).mono ?_; rintro e w1 ⟨⟨v1, rfl⟩, hb1⟩; have HB1 := hide hb1; clear hb1))
  obtain ⟨e0, e1, e2, e3, e4, e5⟩ := cells6 (unhide HB1).at0
  obtain ⟨p0, p1⟩ := cells2 (unhide HB1).at1
  clear HB0
  go_wp2_with fail
  go_end0
  exact ⟨⟨_, rfl⟩, (unhide HB1).ix, (unhide HB1).kept⟩

set_option maxRecDepth 20000 in
set_option maxHeartbeats 2000000 in
theorem exI_10 (Z : World) (tb fb : Nat) (a : Option Addr) (n cap : Nat) (k xn xm : Int) (hk : k = 10) (xs : ByteArray) (s1 : Option Addr) (n1 c1 : Nat) (kb ko : Nat) (c2 : Nat) (hkb : kb < Z.heap.size) (z0 f z : Nat) (hz0 : Z.cell? ⟨kb, ko, none⟩ = some (.int .i64 (z0 : Nat))) (hf : Z.cell? ⟨kb, ko + 1, none⟩ = some (.int .i64 (f : Nat))) (hz : Z.cell? ⟨kb, ko + 2, none⟩ = some (.int .i64 (z : Nat))) (F1 F : List UInt8 × Bool → List UInt8 × Bool) (hO : SaysI Z tb fb 129 #[prV a n cap tb fb, .int .i64 (z0 : Nat)] F1) (hA : SaysI Z tb fb 131 #[prV a n cap tb fb, .int .i64 (f : Nat), .int .i64 (z : Nat)] F) (h2 : ∀ st, lenP st ≤ lenP (F st)) :
    SaysI Z tb fb 83 #[prV a n cap tb fb, .agg #[.int .i64 k, .int .i64 xn, .int .i64 xm, .string xs, .slice s1 n1 c1, .slice (some ⟨kb, ko, none⟩) 3 c2]] (fun st => F (F1 st)) := by
  intro w st h hq
  have HO := hide hO
  have HA := hide hA
  have hq2 : lenP (F (F1 st)) ≤ mostP := hq
  have hq1 : lenP (F1 st) ≤ mostP := Nat.le_trans (h2 _) hq2
  have HQ1 := hide hq1
  have HQ2 := hide hq2
  clear hq1 hq2
  have HB0 := hide (IB.two h a n cap (.int .i64 k) (.int .i64 xn) (.int .i64 xm) (.string xs) (.slice s1 n1 c1) (.slice (some ⟨kb, ko, none⟩) 3 c2))
  have HKEEP : Hid (∀ wx stx, IB Z tb fb w [(w.heap.size + 1, .cells #[.int .i64 k, .int .i64 xn, .int .i64 xm, .string xs, .slice s1 n1 c1, .slice (some ⟨kb, ko, none⟩) 3 c2] 47 (0, 0)), (w.heap.size, prO a n cap tb fb)] wx stx → wx.cell? ⟨w.heap.size, 0, none⟩ = some (.slice a n cap) ∧ wx.cell? ⟨w.heap.size, 1, none⟩ = some (.func (.func 35) #[] #[.pointer (some ⟨fb, 0, none⟩), .pointer (some ⟨tb, 0, none⟩)]) ∧ wx.cell? ⟨w.heap.size + 1, 1, none⟩ = some (.int .i64 xn) ∧ wx.cell? ⟨w.heap.size + 1, 2, none⟩ = some (.int .i64 xm) ∧ wx.cell? ⟨w.heap.size + 1, 5, none⟩ = some (.slice (some ⟨kb, ko, none⟩) 3 c2) ∧ wx.cell? ⟨kb, ko, none⟩ = some (.int .i64 (z0 : Nat)) ∧ wx.cell? ⟨kb, ko + 1, none⟩ = some (.int .i64 (f : Nat)) ∧ wx.cell? ⟨kb, ko + 2, none⟩ = some (.int .i64 (z : Nat))) := fun wx stx hs => by
    obtain ⟨_, y1, y2, _, _, y5⟩ := cells6 hs.at0
    obtain ⟨z0, z1⟩ := cells2 hs.at1
    exact ⟨z0, z1, y1, y2, y5, (hs.ix.low.cell (p := ⟨kb, ko, none⟩) hkb).trans hz0, (hs.ix.low.cell (p := ⟨kb, ko + 1, none⟩) hkb).trans hf, (hs.ix.low.cell (p := ⟨kb, ko + 2, none⟩) hkb).trans hz⟩
  obtain ⟨e0, e1, e2, e3, e4, e5⟩ := cells6 (unhide HB0).at0
  obtain ⟨p0, p1⟩ := cells2 (unhide HB0).at1
  clear h hq hO hA h2 hz0 hf hz hkb
  subst hk
  go_enter Tryz.func83, Tryz.ntmps83
  go_wp2_with fail
  go_region_held3 (fun wx => wx.cell? ⟨w.heap.size, 0, none⟩ = some (.slice a n cap) ∧ wx.cell? ⟨w.heap.size, 1, none⟩ = some (.func (.func 35) #[] #[.pointer (some ⟨fb, 0, none⟩), .pointer (some ⟨tb, 0, none⟩)]) ∧ wx.cell? ⟨w.heap.size + 1, 1, none⟩ = some (.int .i64 xn) ∧ wx.cell? ⟨w.heap.size + 1, 2, none⟩ = some (.int .i64 xm) ∧ wx.cell? ⟨w.heap.size + 1, 5, none⟩ = some (.slice (some ⟨kb, ko, none⟩) 3 c2) ∧ wx.cell? ⟨kb, ko, none⟩ = some (.int .i64 (z0 : Nat)) ∧ wx.cell? ⟨kb, ko + 1, none⟩ = some (.int .i64 (f : Nat)) ∧ wx.cell? ⟨kb, ko + 2, none⟩ = some (.int .i64 (z : Nat))) (first | exact unhide HKEEP _ _ (unhide HB1) | exact unhide HKEEP _ _ ((unhide HB0).below (Below.refl _ _).drew)) (first | (go_at_call 129; refine (((unhide HB0).below (Below.refl _ _).drew).call (unhide HO) (unhide HQ1)).mono ?_; rintro e w1 ⟨⟨v1, rfl⟩, hb1⟩; have HB1 := hide hb1; clear hb1))
  obtain ⟨e0, e1, e2, e3, e4, e5⟩ := cells6 (unhide HB1).at0
  obtain ⟨p0, p1⟩ := cells2 (unhide HB1).at1
  clear HB0
  go_wp2_with fail
  go_region_held3 (fun wx => wx.cell? ⟨w.heap.size, 0, none⟩ = some (.slice a n cap) ∧ wx.cell? ⟨w.heap.size, 1, none⟩ = some (.func (.func 35) #[] #[.pointer (some ⟨fb, 0, none⟩), .pointer (some ⟨tb, 0, none⟩)]) ∧ wx.cell? ⟨w.heap.size + 1, 1, none⟩ = some (.int .i64 xn) ∧ wx.cell? ⟨w.heap.size + 1, 2, none⟩ = some (.int .i64 xm) ∧ wx.cell? ⟨w.heap.size + 1, 5, none⟩ = some (.slice (some ⟨kb, ko, none⟩) 3 c2) ∧ wx.cell? ⟨kb, ko, none⟩ = some (.int .i64 (z0 : Nat)) ∧ wx.cell? ⟨kb, ko + 1, none⟩ = some (.int .i64 (f : Nat)) ∧ wx.cell? ⟨kb, ko + 2, none⟩ = some (.int .i64 (z : Nat))) (first | exact unhide HKEEP _ _ (unhide HB2) | exact unhide HKEEP _ _ ((unhide HB1).below (Below.refl _ _).drew)) (first | (go_at_call 131; refine (((unhide HB1).below (Below.refl _ _).drew).call (unhide HA) (unhide HQ2)).mono ?_; rintro e w2 ⟨⟨v2, rfl⟩, hb2⟩; have HB2 := hide hb2; clear hb2))
  obtain ⟨e0, e1, e2, e3, e4, e5⟩ := cells6 (unhide HB2).at0
  obtain ⟨p0, p1⟩ := cells2 (unhide HB2).at1
  clear HB1
  go_wp2_with fail
  go_end0
  exact ⟨⟨_, rfl⟩, (unhide HB2).ix, (unhide HB2).kept⟩

end Go.Proofs.YtinndpnilmmmjaaGreatDoor
namespace Go.Proofs.YtinndpnilmmmjaaGreatDoor
open Go.RowKit

set_option maxRecDepth 20000 in
set_option maxHeartbeats 2000000 in
theorem exI_2 (Z : World) (tb fb : Nat) (hG : GlTree Z) (a : Option Addr) (n cap : Nat) (k xn xm : Int) (hk : k = 2) (xs : ByteArray) (hx : xs.size ≤ 1048576) (hT : txtB xs = true) (s1 : Option Addr) (n1 c1 : Nat) (s2 : Option Addr) (n2 c2 : Nat) :
    SaysI Z tb fb 83 #[prV a n cap tb fb, .agg #[.int .i64 k, .int .i64 xn, .int .i64 xm, .string xs, .slice s1 n1 c1, .slice s2 n2 c2]] (fun st => sayP st (looksD.txt xs) false) := by
  obtain ⟨t, ht⟩ : ∃ t, tokText 2 0 xs = t := ⟨_, rfl⟩
  have e2 := tok_text hT
  rw [ht] at e2
  have hW := saysI_congr (write_sign Z tb fb hG 2 0 xs (.inl rfl) (by omega) hx t ht) (F' := fun st => sayP st (looksD.txt xs) false) (fun st => by rw [e2])
  unfold tokArgs at hW
  have HW := hide hW
  have eg := eg_write
  clear hW e2 ht hT hx hG
  intro w st h hq
  have HQ := hide hq
  have HB0 := hide (IB.two h a n cap (.int .i64 k) (.int .i64 xn) (.int .i64 xm) (.string xs) (.slice s1 n1 c1) (.slice s2 n2 c2))
  obtain ⟨e0, e1, e2, e3, e4, e5⟩ := cells6 (unhide HB0).at0
  obtain ⟨p0, p1⟩ := cells2 (unhide HB0).at1
  clear h hq
  subst hk
  go_enter Tryz.func83, Tryz.ntmps83
  go_wp2_with fail
  refine ((unhide HB0).call (unhide HW) (unhide HQ)).mono ?_
  rintro e w1 ⟨⟨v1, rfl⟩, hb1⟩
  have HB1 := hide hb1
  clear hb1
  go_wp2_with fail
  go_end0
  exact ⟨⟨_, rfl⟩, (unhide HB1).ix, (unhide HB1).kept⟩

theorem write_num (Z : World) (tb fb : Nat) (hG : GlTree Z) (z : Int) (h : isNum z = true) : SaysI Z tb fb 35 #[.agg #[.int .i64 1, .int .i64 z, .string ⟨#[]⟩, .int .i64 0], .pointer (some ⟨fb, 0, none⟩), .pointer (some ⟨tb, 0, none⟩)] (fun st => sayP st (looksD.num z) true) := by
  have h' : -1000000000000000 ≤ z ∧ z ≤ 1000000000000000 := by unfold isNum at h; exact of_decide_eq_true h
  obtain ⟨t, ht⟩ : ∃ t, tokText 1 z ⟨#[]⟩ = t := ⟨_, rfl⟩
  have e2 := tok_num h
  rw [ht] at e2
  exact saysI_congr (write_word Z tb fb hG 1 z ⟨#[]⟩ (.inl rfl) (by omega) (by decide) t ht) (fun st => by rw [e2])

set_option maxRecDepth 20000 in
set_option maxHeartbeats 2000000 in
theorem exI_1 (Z : World) (tb fb : Nat) (hG : GlTree Z) (a : Option Addr) (n cap : Nat) (k xn xm : Int) (hk : k = 1) (xs : ByteArray) (s1 : Option Addr) (n1 c1 : Nat) (s2 : Option Addr) (n2 c2 : Nat) (nums : List Int) (hr : Row Z s1 n1 nums) (hnum : nums.all isNum = true) :
    SaysI Z tb fb 83 #[prV a n cap tb fb, .agg #[.int .i64 k, .int .i64 xn, .int .i64 xm, .string xs, .slice s1 n1 c1, .slice s2 n2 c2]] (fun st => numsP looksD nums st) := by
  intro w st h hq
  have hlen := hr.len
  have hsm := hr.small
  have HQ := hide hq
  have HR := hide hr
  have HN : Hid (∀ j, j < n1 → isNum (nums.getD j 0) = true) := fun j hj => by
    refine List.all_eq_true.mp hnum _ ?_
    have e : nums.getD j 0 = nums[j]'(by omega) := by simp [List.getD_eq_getElem?_getD, show j < nums.length by omega]
    rw [e]
    exact List.getElem_mem _
  have HB0 := hide (IB.two h a n cap (.int .i64 k) (.int .i64 xn) (.int .i64 xm) (.string xs) (.slice s1 n1 c1) (.slice s2 n2 c2))
  obtain ⟨e0, e1, e2, e3, e4, e5⟩ := cells6 (unhide HB0).at0
  obtain ⟨p0, p1⟩ := cells2 (unhide HB0).at1
  have eg := eg_write
  clear h hq hr hnum
  subst hk
  go_enter Tryz.func83, Tryz.ntmps83
  go_wp2_with fail
  go_loopw [13] (fun u wr => ∃ (j : Nat), u = .int .i64 (j : Nat) ∧ j ≤ n1 ∧ Hid (IB Z tb fb w [(w.heap.size + 1, .cells #[.int .i64 1, .int .i64 xn, .int .i64 xm, .string xs, .slice s1 n1 c1, .slice s2 n2 c2] 47 (0, 0)), (w.heap.size, prO a n cap tb fb)] wr (numsP looksD (nums.take j) st))) (fun e _ => n1 - (intOf e).toNat)
  case atStart => exact ⟨0, rfl, Nat.zero_le _, HB0⟩
  case round =>
    clear HB0 e0 e1 e2 e3 e4 e5 p0 p1
    obtain ⟨j, rfl, hj, HX⟩ := hrel
    obtain ⟨q0, q1, q2, q3, q4, q5⟩ := cells6 (unhide HX).at0
    obtain ⟨p0, p1⟩ := cells2 (unhide HX).at1
    by_cases hlt : j < n1
    case neg =>
      have he : j = n1 := by omega
      subst he
      have hlti : ¬ (j : Int) < (j : Int) := by omega
      have HT : Hid (nums.take j = nums) := by show _ = _; exact List.take_of_length_le (by omega)
      go_wp2_with fail
      go_end0
      have hd := (unhide HX).ix
      rw [unhide HT] at hd
      exact ⟨⟨_, rfl⟩, hd, (unhide HX).kept⟩
    case pos =>
      have hlti : (j : Int) < (n1 : Int) := by omega
      obtain ⟨bb, oo, rfl, hbb, hcc⟩ := (unhide HR).get hlt
      have hcw := ((unhide HX).ix.low.cell (p := ⟨bb, oo + j, none⟩) hbb).trans hcc
      have hnm := unhide HN j hlt
      obtain ⟨hst, hle⟩ := nums_step looksD (show j < nums.length by omega) st
      have hqq := unhide HQ
      have HL : Hid (lenP (sayP (numsP looksD (nums.take j) st) (looksD.num (nums.getD j 0)) true) ≤ mostP) := by
        show _ ≤ _
        rw [← hst]
        exact Nat.le_trans hle hqq
      have HST := hide hst
      obtain ⟨z, hz⟩ : ∃ z, nums.getD j 0 = z := ⟨_, rfl⟩
      rw [hz] at hcw hnm HL HST
      have HS := hide (write_num Z tb fb hG z hnm)
      clear hst hle hqq hz hcc hnm
      go_wp2_with fail
      refine ((unhide HX).call (unhide HS) (unhide HL)).mono ?_
      rintro e w6 ⟨⟨v6, rfl⟩, hb6⟩
      have HB6 := hide hb6
      clear hb6
      go_wp2_with fail
      go_roundw
      case rel =>
        refine ⟨j + 1, by go_num, by omega, ?_⟩
        rw [unhide HST]
        exact HB6
      case measure => simp [intOf]; omega

end Go.Proofs.YtinndpnilmmmjaaGreatDoor
namespace Go.Proofs.YtinndpnilmmmjaaGreatDoor
open Go.RowKit

set_option maxRecDepth 20000 in
set_option maxHeartbeats 2000000 in
theorem stI_19 (Z : World) (tb fb : Nat) (a : Option Addr) (n cap : Nat) (k xn xm : Int) (hk : k = 19 ∨ k = 20) (xs : ByteArray) (s1 : Option Addr) (n1 c1 : Nat) (kb ko : Nat) (c2 : Nat) (m : Nat) (z : Nat) (hkb : kb < Z.heap.size) (hz : Z.cell? ⟨kb, ko + m, none⟩ = some (.int .i64 (z : Nat))) (hc : m + 1 ≤ c2) (hm9 : m ≤ 1048576) (E : List UInt8 × Bool → List UInt8 × Bool) (hE : SaysI Z tb fb 135 #[prV a n cap tb fb, .int .i64 (z : Nat)] E) (hEm : ∀ st, lenP st ≤ lenP (E st)) (hN : SaysI Z tb fb 127 #[prV a n cap tb fb, .string xs] (fun st => sayP st xs.data.toList true))  :
    SaysI Z tb fb 85 #[prV a n cap tb fb, .agg #[.int .i64 k, .int .i64 xn, .int .i64 xm, .string xs, .slice s1 n1 c1, .slice (some ⟨kb, ko, none⟩) (m + 1) c2]] (fun st => E (sayP st xs.data.toList true)) := by
  intro w st h hq
  have hsub : ((m + 1 : Nat) : Int) - 1 = (m : Nat) := by omega
  have hsub' : (m : Int) + 1 - 1 = (m : Nat) := by omega
  have hwr : IntKind.i64.wrap ((m : Int) + 1 - 1) = (m : Int) := by rw [IntKind.wrap_i64]; omega
  have hwr2 : IntKind.i64.wrap (m : Int) = (m : Int) := by rw [IntKind.wrap_i64]; omega
  have hx0 : (0 : Int) ≤ (m : Int) := by omega
  have hx1 : (m : Int) < (m : Int) + 1 := by omega
  have hx2 : (1 : Int) ≤ (c2 : Int) := by omega
  have hx3 : (m : Int) ≤ (c2 : Int) := by omega
  have hx4 : (m : Int) + 1 ≤ (c2 : Int) := by omega
  have hx5 : (m : Int) < ((m + 1 : Nat) : Int) := by omega
  have hx6 : (0 : Int) < (m : Int) + 1 := by omega
  have hx7 : m ≤ c2 := by omega
  have hx8 : m < m + 1 := by omega
  have HN := hide hN
  have HE := hide hE
  have hq2 : lenP (E (sayP st xs.data.toList true)) ≤ mostP := hq
  have hq1 : lenP (sayP st xs.data.toList true) ≤ mostP := Nat.le_trans (hEm _) hq2
  have HQ1 := hide hq1
  have HQ2 := hide hq2
  clear hq1 hq2
  have HB0 := hide (IB.two h a n cap (.int .i64 k) (.int .i64 xn) (.int .i64 xm) (.string xs) (.slice s1 n1 c1) (.slice (some ⟨kb, ko, none⟩) (m + 1) c2))
  have HKEEP : Hid (∀ wx stx, IB Z tb fb w [(w.heap.size + 1, .cells #[.int .i64 k, .int .i64 xn, .int .i64 xm, .string xs, .slice s1 n1 c1, .slice (some ⟨kb, ko, none⟩) (m + 1) c2] 47 (0, 0)), (w.heap.size, prO a n cap tb fb)] wx stx → wx.cell? ⟨w.heap.size, 0, none⟩ = some (.slice a n cap) ∧ wx.cell? ⟨w.heap.size, 1, none⟩ = some (.func (.func 35) #[] #[.pointer (some ⟨fb, 0, none⟩), .pointer (some ⟨tb, 0, none⟩)]) ∧ wx.cell? ⟨w.heap.size + 1, 1, none⟩ = some (.int .i64 xn) ∧ wx.cell? ⟨w.heap.size + 1, 2, none⟩ = some (.int .i64 xm) ∧ wx.cell? ⟨w.heap.size + 1, 5, none⟩ = some (.slice (some ⟨kb, ko, none⟩) (m + 1) c2) ∧ wx.cell? ⟨kb, ko + m, none⟩ = some (.int .i64 (z : Nat))) := fun wx stx hs => by
    obtain ⟨_, y1, y2, _, _, y5⟩ := cells6 hs.at0
    obtain ⟨z0, z1⟩ := cells2 hs.at1
    exact ⟨z0, z1, y1, y2, y5, (hs.ix.low.cell (p := ⟨kb, ko + m, none⟩) hkb).trans hz⟩
  obtain ⟨e0, e1, e2, e3, e4, e5⟩ := cells6 (unhide HB0).at0
  obtain ⟨p0, p1⟩ := cells2 (unhide HB0).at1
  clear h hq hN hE hEm hz hkb
  rcases hk with rfl | rfl <;>
  · go_enter Tryz.func85, Tryz.ntmps85
    go_wp2_with (first | (go_at_call 127; refine ((unhide HB0).call (unhide HN) (unhide HQ1)).mono ?_; rintro e w1 ⟨⟨v1, rfl⟩, hb1⟩; obtain ⟨e0, e1, e2, e3, e4, e5⟩ := cells6 hb1.at0; obtain ⟨p0, p1⟩ := cells2 hb1.at1; have HB1 := hide hb1; clear hb1 HB0))
    go_region_held3 (fun wx => wx.cell? ⟨w.heap.size, 0, none⟩ = some (.slice a n cap) ∧ wx.cell? ⟨w.heap.size, 1, none⟩ = some (.func (.func 35) #[] #[.pointer (some ⟨fb, 0, none⟩), .pointer (some ⟨tb, 0, none⟩)]) ∧ wx.cell? ⟨w.heap.size + 1, 1, none⟩ = some (.int .i64 xn) ∧ wx.cell? ⟨w.heap.size + 1, 2, none⟩ = some (.int .i64 xm) ∧ wx.cell? ⟨w.heap.size + 1, 5, none⟩ = some (.slice (some ⟨kb, ko, none⟩) (m + 1) c2) ∧ wx.cell? ⟨kb, ko + m, none⟩ = some (.int .i64 (z : Nat))) (first | exact unhide HKEEP _ _ (unhide HB2) | exact unhide HKEEP _ _ ((unhide HB1).below (Below.refl _ _).drew)) (first | (go_at_call 135; refine (((unhide HB1).below (Below.refl _ _).drew).call (unhide HE) (unhide HQ2)).mono ?_; rintro e w2 ⟨⟨v2, rfl⟩, hb2⟩; have HB2 := hide hb2; clear hb2))
    obtain ⟨e0, e1, e2, e3, e4, e5⟩ := cells6 (unhide HB2).at0
    obtain ⟨p0, p1⟩ := cells2 (unhide HB2).at1
    clear HB1
    go_wp2_with fail
    go_end0
    exact ⟨⟨_, rfl⟩, (unhide HB2).ix, (unhide HB2).kept⟩

set_option maxRecDepth 20000 in
set_option maxHeartbeats 2000000 in
theorem stI_21 (Z : World) (tb fb : Nat) (a : Option Addr) (n cap : Nat) (k xn xm : Int) (hk : k = 21) (xs : ByteArray) (s1 : Option Addr) (n1 c1 : Nat) (kb ko : Nat) (c2 : Nat) (m : Nat) (z : Nat) (hkb : kb < Z.heap.size) (hz : Z.cell? ⟨kb, ko + m, none⟩ = some (.int .i64 (z : Nat))) (hc : m + 1 ≤ c2) (hm9 : m ≤ 1048576) (E : List UInt8 × Bool → List UInt8 × Bool) (hE : SaysI Z tb fb 135 #[prV a n cap tb fb, .int .i64 (z : Nat)] E) (hEm : ∀ st, lenP st ≤ lenP (E st)) (hN : SaysI Z tb fb 127 #[prV a n cap tb fb, .string xs] (fun st => sayP st xs.data.toList true)) (F : List UInt8 × Bool → List UInt8 × Bool) (hS : SaysI Z tb fb 130 #[prV a n cap tb fb, .slice (some ⟨kb, ko, none⟩) m c2] F) (hF : ∀ st, lenP st ≤ lenP (F st)) :
    SaysI Z tb fb 85 #[prV a n cap tb fb, .agg #[.int .i64 k, .int .i64 xn, .int .i64 xm, .string xs, .slice s1 n1 c1, .slice (some ⟨kb, ko, none⟩) (m + 1) c2]] (fun st => E (F (sayP st xs.data.toList true))) := by
  intro w st h hq
  have hsub : ((m + 1 : Nat) : Int) - 1 = (m : Nat) := by omega
  have hsub' : (m : Int) + 1 - 1 = (m : Nat) := by omega
  have hwr : IntKind.i64.wrap ((m : Int) + 1 - 1) = (m : Int) := by rw [IntKind.wrap_i64]; omega
  have hwr2 : IntKind.i64.wrap (m : Int) = (m : Int) := by rw [IntKind.wrap_i64]; omega
  have hx0 : (0 : Int) ≤ (m : Int) := by omega
  have hx1 : (m : Int) < (m : Int) + 1 := by omega
  have hx2 : (1 : Int) ≤ (c2 : Int) := by omega
  have hx3 : (m : Int) ≤ (c2 : Int) := by omega
  have hx4 : (m : Int) + 1 ≤ (c2 : Int) := by omega
  have hx5 : (m : Int) < ((m + 1 : Nat) : Int) := by omega
  have hx6 : (0 : Int) < (m : Int) + 1 := by omega
  have hx7 : m ≤ c2 := by omega
  have hx8 : m < m + 1 := by omega
  have HN := hide hN
  have HE := hide hE
  have HS := hide hS
  have hq3 : lenP (E (F (sayP st xs.data.toList true))) ≤ mostP := hq
  have hq2 : lenP (F (sayP st xs.data.toList true)) ≤ mostP := Nat.le_trans (hEm _) hq3
  have hq1 : lenP (sayP st xs.data.toList true) ≤ mostP := Nat.le_trans (hF _) hq2
  have HQ1 := hide hq1
  have HQ2 := hide hq2
  have HQ3 := hide hq3
  clear hq1 hq2 hq3
  have HB0 := hide (IB.two h a n cap (.int .i64 k) (.int .i64 xn) (.int .i64 xm) (.string xs) (.slice s1 n1 c1) (.slice (some ⟨kb, ko, none⟩) (m + 1) c2))
  have HKEEP : Hid (∀ wx stx, IB Z tb fb w [(w.heap.size + 1, .cells #[.int .i64 k, .int .i64 xn, .int .i64 xm, .string xs, .slice s1 n1 c1, .slice (some ⟨kb, ko, none⟩) (m + 1) c2] 47 (0, 0)), (w.heap.size, prO a n cap tb fb)] wx stx → wx.cell? ⟨w.heap.size, 0, none⟩ = some (.slice a n cap) ∧ wx.cell? ⟨w.heap.size, 1, none⟩ = some (.func (.func 35) #[] #[.pointer (some ⟨fb, 0, none⟩), .pointer (some ⟨tb, 0, none⟩)]) ∧ wx.cell? ⟨w.heap.size + 1, 1, none⟩ = some (.int .i64 xn) ∧ wx.cell? ⟨w.heap.size + 1, 2, none⟩ = some (.int .i64 xm) ∧ wx.cell? ⟨w.heap.size + 1, 5, none⟩ = some (.slice (some ⟨kb, ko, none⟩) (m + 1) c2) ∧ wx.cell? ⟨kb, ko + m, none⟩ = some (.int .i64 (z : Nat))) := fun wx stx hs => by
    obtain ⟨_, y1, y2, _, _, y5⟩ := cells6 hs.at0
    obtain ⟨z0, z1⟩ := cells2 hs.at1
    exact ⟨z0, z1, y1, y2, y5, (hs.ix.low.cell (p := ⟨kb, ko + m, none⟩) hkb).trans hz⟩
  obtain ⟨e0, e1, e2, e3, e4, e5⟩ := cells6 (unhide HB0).at0
  obtain ⟨p0, p1⟩ := cells2 (unhide HB0).at1
  clear h hq hN hE hEm hz hkb hS hF
  subst hk
  go_enter Tryz.func85, Tryz.ntmps85
  go_wp2_with (first | (go_at_call 127; refine ((unhide HB0).call (unhide HN) (unhide HQ1)).mono ?_; rintro e w1 ⟨⟨v1, rfl⟩, hb1⟩; obtain ⟨e0, e1, e2, e3, e4, e5⟩ := cells6 hb1.at0; obtain ⟨p0, p1⟩ := cells2 hb1.at1; have HB1 := hide hb1; clear hb1 HB0))
  go_region_held3 (fun wx => wx.cell? ⟨w.heap.size, 0, none⟩ = some (.slice a n cap) ∧ wx.cell? ⟨w.heap.size, 1, none⟩ = some (.func (.func 35) #[] #[.pointer (some ⟨fb, 0, none⟩), .pointer (some ⟨tb, 0, none⟩)]) ∧ wx.cell? ⟨w.heap.size + 1, 1, none⟩ = some (.int .i64 xn) ∧ wx.cell? ⟨w.heap.size + 1, 2, none⟩ = some (.int .i64 xm) ∧ wx.cell? ⟨w.heap.size + 1, 5, none⟩ = some (.slice (some ⟨kb, ko, none⟩) (m + 1) c2) ∧ wx.cell? ⟨kb, ko + m, none⟩ = some (.int .i64 (z : Nat))) (first | exact unhide HKEEP _ _ (unhide HB2) | exact unhide HKEEP _ _ ((unhide HB1).below (Below.refl _ _).drew)) (first | (go_at_call 130; refine (((unhide HB1).below (Below.refl _ _).drew).call (unhide HS) (unhide HQ2)).mono ?_; rintro e w2 ⟨⟨v2, rfl⟩, hb2⟩; have HB2 := hide hb2; clear hb2))
  obtain ⟨e0, e1, e2, e3, e4, e5⟩ := cells6 (unhide HB2).at0
  obtain ⟨p0, p1⟩ := cells2 (unhide HB2).at1
  clear HB1
  go_wp2_with fail
  go_region_held3 (fun wx => wx.cell? ⟨w.heap.size, 0, none⟩ = some (.slice a n cap) ∧ wx.cell? ⟨w.heap.size, 1, none⟩ = some (.func (.func 35) #[] #[.pointer (some ⟨fb, 0, none⟩), .pointer (some ⟨tb, 0, none⟩)]) ∧ wx.cell? ⟨w.heap.size + 1, 1, none⟩ = some (.int .i64 xn) ∧ wx.cell? ⟨w.heap.size + 1, 2, none⟩ = some (.int .i64 xm) ∧ wx.cell? ⟨w.heap.size + 1, 5, none⟩ = some (.slice (some ⟨kb, ko, none⟩) (m + 1) c2) ∧ wx.cell? ⟨kb, ko + m, none⟩ = some (.int .i64 (z : Nat))) (first | exact unhide HKEEP _ _ (unhide HB3) | exact unhide HKEEP _ _ ((unhide HB2).below (Below.refl _ _).drew)) (first | (go_at_call 135; refine (((unhide HB2).below (Below.refl _ _).drew).call (unhide HE) (unhide HQ3)).mono ?_; rintro e w3 ⟨⟨v3, rfl⟩, hb3⟩; have HB3 := hide hb3; clear hb3))
  obtain ⟨e0, e1, e2, e3, e4, e5⟩ := cells6 (unhide HB3).at0
  obtain ⟨p0, p1⟩ := cells2 (unhide HB3).at1
  clear HB2
  go_wp2_with fail
  go_end0
  exact ⟨⟨_, rfl⟩, (unhide HB3).ix, (unhide HB3).kept⟩

set_option maxRecDepth 20000 in
set_option maxHeartbeats 2000000 in
theorem stI_22 (Z : World) (tb fb : Nat) (hG : GlTree Z) (a : Option Addr) (n cap : Nat) (k xm : Int) (hk : k = 22) (xs : ByteArray) (s1 : Option Addr) (n1 c1 : Nat) (kb ko : Nat) (c2 : Nat) (m : Nat) (z : Nat) (hkb : kb < Z.heap.size) (hz : Z.cell? ⟨kb, ko + m, none⟩ = some (.int .i64 (z : Nat))) (hc : m + 1 ≤ c2) (hm9 : m ≤ 1048576) (E : List UInt8 × Bool → List UInt8 × Bool) (hE : SaysI Z tb fb 135 #[prV a n cap tb fb, .int .i64 (z : Nat)] E) (hEm : ∀ st, lenP st ≤ lenP (E st)) (hNm : SaysI Z tb fb 127 #[prV a n cap tb fb, .string xs] (fun st => sayP st xs.data.toList true)) (N : Nat) (hN : 1 ≤ N ∧ N ≤ 33) :
    SaysI Z tb fb 85 #[prV a n cap tb fb, .agg #[.int .i64 k, .int .i64 ((N : Nat) : Int), .int .i64 xm, .string xs, .slice s1 n1 c1, .slice (some ⟨kb, ko, none⟩) (m + 1) c2]] (fun st => E (sayP (sayP st xs.data.toList true) (looksD.prim ((N : Nat) : Int)) false)) := by
  intro w st h hq
  have hsub : ((m + 1 : Nat) : Int) - 1 = (m : Nat) := by omega
  have hsub' : (m : Int) + 1 - 1 = (m : Nat) := by omega
  have hwr : IntKind.i64.wrap ((m : Int) + 1 - 1) = (m : Int) := by rw [IntKind.wrap_i64]; omega
  have hwr2 : IntKind.i64.wrap (m : Int) = (m : Int) := by rw [IntKind.wrap_i64]; omega
  have hx0 : (0 : Int) ≤ (m : Int) := by omega
  have hx1 : (m : Int) < (m : Int) + 1 := by omega
  have hx2 : (1 : Int) ≤ (c2 : Int) := by omega
  have hx3 : (m : Int) ≤ (c2 : Int) := by omega
  have hx4 : (m : Int) + 1 ≤ (c2 : Int) := by omega
  have hx5 : (m : Int) < ((m + 1 : Nat) : Int) := by omega
  have hx6 : (0 : Int) < (m : Int) + 1 := by omega
  have hx7 : m ≤ c2 := by omega
  have hx8 : m < m + 1 := by omega
  have HN := hide hNm
  have HE := hide hE
  have HP := hide (saysI_prim Z tb fb hG a n cap N hN)
  have hq3 : lenP (E (sayP (sayP st xs.data.toList true) (looksD.prim ((N : Nat) : Int)) false)) ≤ mostP := hq
  have hq2 : lenP (sayP (sayP st xs.data.toList true) (looksD.prim ((N : Nat) : Int)) false) ≤ mostP := Nat.le_trans (hEm _) hq3
  have hq1 : lenP (sayP st xs.data.toList true) ≤ mostP := Nat.le_trans ((say_len _ _ _).1) hq2
  have HQ1 := hide hq1
  have HQ2 := hide hq2
  have HQ3 := hide hq3
  clear hq1 hq2 hq3
  have HB0 := hide (IB.two h a n cap (.int .i64 k) (.int .i64 ((N : Nat) : Int)) (.int .i64 xm) (.string xs) (.slice s1 n1 c1) (.slice (some ⟨kb, ko, none⟩) (m + 1) c2))
  have HKEEP : Hid (∀ wx stx, IB Z tb fb w [(w.heap.size + 1, .cells #[.int .i64 k, .int .i64 ((N : Nat) : Int), .int .i64 xm, .string xs, .slice s1 n1 c1, .slice (some ⟨kb, ko, none⟩) (m + 1) c2] 47 (0, 0)), (w.heap.size, prO a n cap tb fb)] wx stx → wx.cell? ⟨w.heap.size, 0, none⟩ = some (.slice a n cap) ∧ wx.cell? ⟨w.heap.size, 1, none⟩ = some (.func (.func 35) #[] #[.pointer (some ⟨fb, 0, none⟩), .pointer (some ⟨tb, 0, none⟩)]) ∧ wx.cell? ⟨w.heap.size + 1, 1, none⟩ = some (.int .i64 ((N : Nat) : Int)) ∧ wx.cell? ⟨w.heap.size + 1, 2, none⟩ = some (.int .i64 xm) ∧ wx.cell? ⟨w.heap.size + 1, 5, none⟩ = some (.slice (some ⟨kb, ko, none⟩) (m + 1) c2) ∧ wx.cell? ⟨kb, ko + m, none⟩ = some (.int .i64 (z : Nat))) := fun wx stx hs => by
    obtain ⟨_, y1, y2, _, _, y5⟩ := cells6 hs.at0
    obtain ⟨z0, z1⟩ := cells2 hs.at1
    exact ⟨z0, z1, y1, y2, y5, (hs.ix.low.cell (p := ⟨kb, ko + m, none⟩) hkb).trans hz⟩
  obtain ⟨e0, e1, e2, e3, e4, e5⟩ := cells6 (unhide HB0).at0
  obtain ⟨p0, p1⟩ := cells2 (unhide HB0).at1
  clear h hq hNm hE hEm hz hkb hG
  subst hk
  go_enter Tryz.func85, Tryz.ntmps85
  go_wp2_with (first | (go_at_call 127; refine ((unhide HB0).call (unhide HN) (unhide HQ1)).mono ?_; rintro e w1 ⟨⟨v1, rfl⟩, hb1⟩; obtain ⟨e0, e1, e2, e3, e4, e5⟩ := cells6 hb1.at0; obtain ⟨p0, p1⟩ := cells2 hb1.at1; have HB1 := hide hb1; clear hb1 HB0))
  go_region_held3 (fun wx => wx.cell? ⟨w.heap.size, 0, none⟩ = some (.slice a n cap) ∧ wx.cell? ⟨w.heap.size, 1, none⟩ = some (.func (.func 35) #[] #[.pointer (some ⟨fb, 0, none⟩), .pointer (some ⟨tb, 0, none⟩)]) ∧ wx.cell? ⟨w.heap.size + 1, 1, none⟩ = some (.int .i64 ((N : Nat) : Int)) ∧ wx.cell? ⟨w.heap.size + 1, 2, none⟩ = some (.int .i64 xm) ∧ wx.cell? ⟨w.heap.size + 1, 5, none⟩ = some (.slice (some ⟨kb, ko, none⟩) (m + 1) c2) ∧ wx.cell? ⟨kb, ko + m, none⟩ = some (.int .i64 (z : Nat))) (first | exact unhide HKEEP _ _ (unhide HB2) | exact unhide HKEEP _ _ (unhide HBq) | exact unhide HKEEP _ _ ((unhide HB1).below (Below.refl _ _).drew)) (first | (go_at_call 132; refine (primSign_any N hN _).mono ?_; rintro e wq ⟨rfl, hbq⟩; have HBq := hide ((unhide HB1).below ((Below.refl _ _).drew.trans hbq)); clear hbq) | (go_at_call 128; refine ((unhide HBq).call (unhide HP) (unhide HQ2)).mono ?_; rintro e w2 ⟨⟨v2, rfl⟩, hb2⟩; have HB2 := hide hb2; clear hb2))
  obtain ⟨e0, e1, e2, e3, e4, e5⟩ := cells6 (unhide HB2).at0
  obtain ⟨p0, p1⟩ := cells2 (unhide HB2).at1
  clear HB1 HBq
  go_wp2_with fail
  go_region_held3 (fun wx => wx.cell? ⟨w.heap.size, 0, none⟩ = some (.slice a n cap) ∧ wx.cell? ⟨w.heap.size, 1, none⟩ = some (.func (.func 35) #[] #[.pointer (some ⟨fb, 0, none⟩), .pointer (some ⟨tb, 0, none⟩)]) ∧ wx.cell? ⟨w.heap.size + 1, 1, none⟩ = some (.int .i64 ((N : Nat) : Int)) ∧ wx.cell? ⟨w.heap.size + 1, 2, none⟩ = some (.int .i64 xm) ∧ wx.cell? ⟨w.heap.size + 1, 5, none⟩ = some (.slice (some ⟨kb, ko, none⟩) (m + 1) c2) ∧ wx.cell? ⟨kb, ko + m, none⟩ = some (.int .i64 (z : Nat))) (first | exact unhide HKEEP _ _ (unhide HB3) | exact unhide HKEEP _ _ ((unhide HB2).below (Below.refl _ _).drew)) (first | (go_at_call 135; refine (((unhide HB2).below (Below.refl _ _).drew).call (unhide HE) (unhide HQ3)).mono ?_; rintro e w3 ⟨⟨v3, rfl⟩, hb3⟩; have HB3 := hide hb3; clear hb3))
  obtain ⟨e0, e1, e2, e3, e4, e5⟩ := cells6 (unhide HB3).at0
  obtain ⟨p0, p1⟩ := cells2 (unhide HB3).at1
  clear HB2
  go_wp2_with fail
  go_end0
  exact ⟨⟨_, rfl⟩, (unhide HB3).ix, (unhide HB3).kept⟩

set_option maxRecDepth 20000 in
set_option maxHeartbeats 2000000 in
theorem stI_23 (Z : World) (tb fb : Nat) (a : Option Addr) (n cap : Nat) (k xn xm : Int) (hk : k = 23) (xs : ByteArray) (s1 : Option Addr) (n1 c1 : Nat) (kb ko : Nat) (c2 : Nat) (m : Nat) (z : Nat) (hkb : kb < Z.heap.size) (hz : Z.cell? ⟨kb, ko + m, none⟩ = some (.int .i64 (z : Nat))) (hc : m + 1 ≤ c2) (hm9 : m ≤ 1048576) (E : List UInt8 × Bool → List UInt8 × Bool) (hE : SaysI Z tb fb 135 #[prV a n cap tb fb, .int .i64 (z : Nat)] E) (hEm : ∀ st, lenP st ≤ lenP (E st)) (z0 : Nat) (hz0 : Z.cell? ⟨kb, ko, none⟩ = some (.int .i64 (z0 : Nat))) (F : List UInt8 × Bool → List UInt8 × Bool) (hS : SaysI Z tb fb 136 #[prV a n cap tb fb, .int .i64 (z0 : Nat), .bool true] F) :
    SaysI Z tb fb 85 #[prV a n cap tb fb, .agg #[.int .i64 k, .int .i64 xn, .int .i64 xm, .string xs, .slice s1 n1 c1, .slice (some ⟨kb, ko, none⟩) (m + 1) c2]] (fun st => E (F st)) := by
  intro w st h hq
  have hsub : ((m + 1 : Nat) : Int) - 1 = (m : Nat) := by omega
  have hsub' : (m : Int) + 1 - 1 = (m : Nat) := by omega
  have hwr : IntKind.i64.wrap ((m : Int) + 1 - 1) = (m : Int) := by rw [IntKind.wrap_i64]; omega
  have hwr2 : IntKind.i64.wrap (m : Int) = (m : Int) := by rw [IntKind.wrap_i64]; omega
  have hx0 : (0 : Int) ≤ (m : Int) := by omega
  have hx1 : (m : Int) < (m : Int) + 1 := by omega
  have hx2 : (1 : Int) ≤ (c2 : Int) := by omega
  have hx3 : (m : Int) ≤ (c2 : Int) := by omega
  have hx4 : (m : Int) + 1 ≤ (c2 : Int) := by omega
  have hx5 : (m : Int) < ((m + 1 : Nat) : Int) := by omega
  have hx6 : (0 : Int) < (m : Int) + 1 := by omega
  have hx7 : m ≤ c2 := by omega
  have hx8 : m < m + 1 := by omega
  have HE := hide hE
  have HS := hide hS
  have hq2 : lenP (E (F st)) ≤ mostP := hq
  have hq1 : lenP (F st) ≤ mostP := Nat.le_trans (hEm _) hq2
  have HQ1 := hide hq1
  have HQ2 := hide hq2
  clear hq1 hq2
  have HB0 := hide (IB.two h a n cap (.int .i64 k) (.int .i64 xn) (.int .i64 xm) (.string xs) (.slice s1 n1 c1) (.slice (some ⟨kb, ko, none⟩) (m + 1) c2))
  have HKEEP : Hid (∀ wx stx, IB Z tb fb w [(w.heap.size + 1, .cells #[.int .i64 k, .int .i64 xn, .int .i64 xm, .string xs, .slice s1 n1 c1, .slice (some ⟨kb, ko, none⟩) (m + 1) c2] 47 (0, 0)), (w.heap.size, prO a n cap tb fb)] wx stx → wx.cell? ⟨w.heap.size, 0, none⟩ = some (.slice a n cap) ∧ wx.cell? ⟨w.heap.size, 1, none⟩ = some (.func (.func 35) #[] #[.pointer (some ⟨fb, 0, none⟩), .pointer (some ⟨tb, 0, none⟩)]) ∧ wx.cell? ⟨w.heap.size + 1, 1, none⟩ = some (.int .i64 xn) ∧ wx.cell? ⟨w.heap.size + 1, 2, none⟩ = some (.int .i64 xm) ∧ wx.cell? ⟨w.heap.size + 1, 5, none⟩ = some (.slice (some ⟨kb, ko, none⟩) (m + 1) c2) ∧ wx.cell? ⟨kb, ko + m, none⟩ = some (.int .i64 (z : Nat)) ∧ wx.cell? ⟨kb, ko, none⟩ = some (.int .i64 (z0 : Nat))) := fun wx stx hs => by
    obtain ⟨_, y1, y2, _, _, y5⟩ := cells6 hs.at0
    obtain ⟨z0, z1⟩ := cells2 hs.at1
    exact ⟨z0, z1, y1, y2, y5, (hs.ix.low.cell (p := ⟨kb, ko + m, none⟩) hkb).trans hz, (hs.ix.low.cell (p := ⟨kb, ko, none⟩) hkb).trans hz0⟩
  obtain ⟨e0, e1, e2, e3, e4, e5⟩ := cells6 (unhide HB0).at0
  obtain ⟨p0, p1⟩ := cells2 (unhide HB0).at1
  clear h hq hE hEm hz hz0 hkb hS
  subst hk
  go_enter Tryz.func85, Tryz.ntmps85
  go_wp2_with fail
  go_region_held3 (fun wx => wx.cell? ⟨w.heap.size, 0, none⟩ = some (.slice a n cap) ∧ wx.cell? ⟨w.heap.size, 1, none⟩ = some (.func (.func 35) #[] #[.pointer (some ⟨fb, 0, none⟩), .pointer (some ⟨tb, 0, none⟩)]) ∧ wx.cell? ⟨w.heap.size + 1, 1, none⟩ = some (.int .i64 xn) ∧ wx.cell? ⟨w.heap.size + 1, 2, none⟩ = some (.int .i64 xm) ∧ wx.cell? ⟨w.heap.size + 1, 5, none⟩ = some (.slice (some ⟨kb, ko, none⟩) (m + 1) c2) ∧ wx.cell? ⟨kb, ko + m, none⟩ = some (.int .i64 (z : Nat)) ∧ wx.cell? ⟨kb, ko, none⟩ = some (.int .i64 (z0 : Nat))) (first | exact unhide HKEEP _ _ (unhide HB1) | exact unhide HKEEP _ _ ((unhide HB0).below (Below.refl _ _).drew)) (first | (go_at_call 136; refine (((unhide HB0).below (Below.refl _ _).drew).call (unhide HS) (unhide HQ1)).mono ?_; rintro e w1 ⟨⟨v1, rfl⟩, hb1⟩; have HB1 := hide hb1; clear hb1))
  obtain ⟨e0, e1, e2, e3, e4, e5⟩ := cells6 (unhide HB1).at0
  obtain ⟨p0, p1⟩ := cells2 (unhide HB1).at1
  clear HB0
  go_wp2_with fail
  go_region_held3 (fun wx => wx.cell? ⟨w.heap.size, 0, none⟩ = some (.slice a n cap) ∧ wx.cell? ⟨w.heap.size, 1, none⟩ = some (.func (.func 35) #[] #[.pointer (some ⟨fb, 0, none⟩), .pointer (some ⟨tb, 0, none⟩)]) ∧ wx.cell? ⟨w.heap.size + 1, 1, none⟩ = some (.int .i64 xn) ∧ wx.cell? ⟨w.heap.size + 1, 2, none⟩ = some (.int .i64 xm) ∧ wx.cell? ⟨w.heap.size + 1, 5, none⟩ = some (.slice (some ⟨kb, ko, none⟩) (m + 1) c2) ∧ wx.cell? ⟨kb, ko + m, none⟩ = some (.int .i64 (z : Nat)) ∧ wx.cell? ⟨kb, ko, none⟩ = some (.int .i64 (z0 : Nat))) (first | exact unhide HKEEP _ _ (unhide HB2) | exact unhide HKEEP _ _ ((unhide HB1).below (Below.refl _ _).drew)) (first | (go_at_call 135; refine (((unhide HB1).below (Below.refl _ _).drew).call (unhide HE) (unhide HQ2)).mono ?_; rintro e w2 ⟨⟨v2, rfl⟩, hb2⟩; have HB2 := hide hb2; clear hb2))
  obtain ⟨e0, e1, e2, e3, e4, e5⟩ := cells6 (unhide HB2).at0
  obtain ⟨p0, p1⟩ := cells2 (unhide HB2).at1
  clear HB1
  go_wp2_with fail
  go_end0
  exact ⟨⟨_, rfl⟩, (unhide HB2).ix, (unhide HB2).kept⟩

set_option maxRecDepth 20000 in
set_option maxHeartbeats 2000000 in
theorem stI_24 (Z : World) (tb fb : Nat) (a : Option Addr) (n cap : Nat) (k xn xm : Int) (hk : k = 24) (xs : ByteArray) (s1 : Option Addr) (n1 c1 : Nat) (s2 : Option Addr) (n2 c2 : Nat) (F : List UInt8 × Bool → List UInt8 × Bool) (hS : SaysI Z tb fb 134 #[prV a n cap tb fb, .string ⟨#[58]⟩, .slice s2 n2 c2] F) (hn2 : n2 ≤ 1048576) :
    SaysI Z tb fb 85 #[prV a n cap tb fb, .agg #[.int .i64 k, .int .i64 xn, .int .i64 xm, .string xs, .slice s1 n1 c1, .slice s2 n2 c2]] (F) := by
  intro w st h hq
  have HS := hide hS
  have hq1 : lenP (F st) ≤ mostP := hq
  have HQ1 := hide hq1
  clear hq1
  have HB0 := hide (IB.two h a n cap (.int .i64 k) (.int .i64 xn) (.int .i64 xm) (.string xs) (.slice s1 n1 c1) (.slice s2 n2 c2))
  have HKEEP : Hid (∀ wx stx, IB Z tb fb w [(w.heap.size + 1, .cells #[.int .i64 k, .int .i64 xn, .int .i64 xm, .string xs, .slice s1 n1 c1, .slice s2 n2 c2] 47 (0, 0)), (w.heap.size, prO a n cap tb fb)] wx stx → wx.cell? ⟨w.heap.size, 0, none⟩ = some (.slice a n cap) ∧ wx.cell? ⟨w.heap.size, 1, none⟩ = some (.func (.func 35) #[] #[.pointer (some ⟨fb, 0, none⟩), .pointer (some ⟨tb, 0, none⟩)]) ∧ wx.cell? ⟨w.heap.size + 1, 1, none⟩ = some (.int .i64 xn) ∧ wx.cell? ⟨w.heap.size + 1, 2, none⟩ = some (.int .i64 xm) ∧ wx.cell? ⟨w.heap.size + 1, 5, none⟩ = some (.slice s2 n2 c2)) := fun wx stx hs => by
    obtain ⟨_, y1, y2, _, _, y5⟩ := cells6 hs.at0
    obtain ⟨z0, z1⟩ := cells2 hs.at1
    exact ⟨z0, z1, y1, y2, y5⟩
  obtain ⟨e0, e1, e2, e3, e4, e5⟩ := cells6 (unhide HB0).at0
  obtain ⟨p0, p1⟩ := cells2 (unhide HB0).at1
  clear h hq hS
  subst hk
  go_enter Tryz.func85, Tryz.ntmps85
  go_wp2_with (first | (go_at_call 134; refine ((unhide HB0).call (unhide HS) (unhide HQ1)).mono ?_; rintro e w1 ⟨⟨v1, rfl⟩, hb1⟩; obtain ⟨e0, e1, e2, e3, e4, e5⟩ := cells6 hb1.at0; obtain ⟨p0, p1⟩ := cells2 hb1.at1; have HB1 := hide hb1; clear hb1 HB0))
  go_end0
  exact ⟨⟨_, rfl⟩, (unhide HB1).ix, (unhide HB1).kept⟩

set_option maxRecDepth 20000 in
set_option maxHeartbeats 2000000 in
theorem stI_25 (Z : World) (tb fb : Nat) (a : Option Addr) (n cap : Nat) (k xn xm : Int) (hk : k = 25) (xs : ByteArray) (s1 : Option Addr) (n1 c1 : Nat) (s2 : Option Addr) (n2 c2 : Nat) (F : List UInt8 × Bool → List UInt8 × Bool) (hS : SaysI Z tb fb 134 #[prV a n cap tb fb, .string ⟨#[226, 139, 132]⟩, .slice s2 n2 c2] F) (hn2 : n2 ≤ 1048576) :
    SaysI Z tb fb 85 #[prV a n cap tb fb, .agg #[.int .i64 k, .int .i64 xn, .int .i64 xm, .string xs, .slice s1 n1 c1, .slice s2 n2 c2]] (F) := by
  intro w st h hq
  have HS := hide hS
  have hq1 : lenP (F st) ≤ mostP := hq
  have HQ1 := hide hq1
  clear hq1
  have HB0 := hide (IB.two h a n cap (.int .i64 k) (.int .i64 xn) (.int .i64 xm) (.string xs) (.slice s1 n1 c1) (.slice s2 n2 c2))
  have HKEEP : Hid (∀ wx stx, IB Z tb fb w [(w.heap.size + 1, .cells #[.int .i64 k, .int .i64 xn, .int .i64 xm, .string xs, .slice s1 n1 c1, .slice s2 n2 c2] 47 (0, 0)), (w.heap.size, prO a n cap tb fb)] wx stx → wx.cell? ⟨w.heap.size, 0, none⟩ = some (.slice a n cap) ∧ wx.cell? ⟨w.heap.size, 1, none⟩ = some (.func (.func 35) #[] #[.pointer (some ⟨fb, 0, none⟩), .pointer (some ⟨tb, 0, none⟩)]) ∧ wx.cell? ⟨w.heap.size + 1, 1, none⟩ = some (.int .i64 xn) ∧ wx.cell? ⟨w.heap.size + 1, 2, none⟩ = some (.int .i64 xm) ∧ wx.cell? ⟨w.heap.size + 1, 5, none⟩ = some (.slice s2 n2 c2)) := fun wx stx hs => by
    obtain ⟨_, y1, y2, _, _, y5⟩ := cells6 hs.at0
    obtain ⟨z0, z1⟩ := cells2 hs.at1
    exact ⟨z0, z1, y1, y2, y5⟩
  obtain ⟨e0, e1, e2, e3, e4, e5⟩ := cells6 (unhide HB0).at0
  obtain ⟨p0, p1⟩ := cells2 (unhide HB0).at1
  clear h hq hS
  subst hk
  go_enter Tryz.func85, Tryz.ntmps85
  go_wp2_with (first | (go_at_call 134; refine ((unhide HB0).call (unhide HS) (unhide HQ1)).mono ?_; rintro e w1 ⟨⟨v1, rfl⟩, hb1⟩; obtain ⟨e0, e1, e2, e3, e4, e5⟩ := cells6 hb1.at0; obtain ⟨p0, p1⟩ := cells2 hb1.at1; have HB1 := hide hb1; clear hb1 HB0))
  go_end0
  exact ⟨⟨_, rfl⟩, (unhide HB1).ix, (unhide HB1).kept⟩

set_option maxRecDepth 20000 in
set_option maxHeartbeats 2000000 in
theorem stI_8 (Z : World) (tb fb : Nat) (a : Option Addr) (n cap : Nat) (k xn xm : Int) (hk : k = 8) (xs : ByteArray) (s1 : Option Addr) (n1 c1 : Nat) (s2 : Option Addr) (n2 c2 : Nat) (hn2 : n2 ≤ 1048576) :
    SaysI Z tb fb 85 #[prV a n cap tb fb, .agg #[.int .i64 k, .int .i64 xn, .int .i64 xm, .string xs, .slice s1 n1 c1, .slice s2 n2 c2]] (fun st => st) := by
  intro w st h hq
  have HB0 := hide (IB.two h a n cap (.int .i64 k) (.int .i64 xn) (.int .i64 xm) (.string xs) (.slice s1 n1 c1) (.slice s2 n2 c2))
  have HKEEP : Hid (∀ wx stx, IB Z tb fb w [(w.heap.size + 1, .cells #[.int .i64 k, .int .i64 xn, .int .i64 xm, .string xs, .slice s1 n1 c1, .slice s2 n2 c2] 47 (0, 0)), (w.heap.size, prO a n cap tb fb)] wx stx → wx.cell? ⟨w.heap.size, 0, none⟩ = some (.slice a n cap) ∧ wx.cell? ⟨w.heap.size, 1, none⟩ = some (.func (.func 35) #[] #[.pointer (some ⟨fb, 0, none⟩), .pointer (some ⟨tb, 0, none⟩)]) ∧ wx.cell? ⟨w.heap.size + 1, 1, none⟩ = some (.int .i64 xn) ∧ wx.cell? ⟨w.heap.size + 1, 2, none⟩ = some (.int .i64 xm) ∧ wx.cell? ⟨w.heap.size + 1, 5, none⟩ = some (.slice s2 n2 c2)) := fun wx stx hs => by
    obtain ⟨_, y1, y2, _, _, y5⟩ := cells6 hs.at0
    obtain ⟨z0, z1⟩ := cells2 hs.at1
    exact ⟨z0, z1, y1, y2, y5⟩
  obtain ⟨e0, e1, e2, e3, e4, e5⟩ := cells6 (unhide HB0).at0
  obtain ⟨p0, p1⟩ := cells2 (unhide HB0).at1
  clear h hq
  subst hk
  go_enter Tryz.func85, Tryz.ntmps85
  go_wp2_with fail
  go_end0
  exact ⟨⟨_, rfl⟩, (unhide HB0).ix, (unhide HB0).kept⟩

end Go.Proofs.YtinndpnilmmmjaaGreatDoor
