import Derived.Test.YtmgjicgojlkpcaaGreatDoorSpecStmt
import Derived.Deep.RegionWith
namespace Go.Proofs.YtmgjicgojlkpcaaGreatDoor
open Go.RowKit

set_option maxRecDepth 20000 in
set_option maxHeartbeats 8000000 in
theorem says_stmt22 (Z : World) (p : Nat) (a : Option Addr) (n cap : Nat) (k xn xm : Int) (hk : k = 22) (xs : ByteArray) (s1 : Option Addr) (n1 c1 kb ko m c2 : Nat) (kids : List Int) (hr : Row Z (some ⟨kb, ko, none⟩) (m + 1) kids) (hc : m + 1 ≤ c2) (last : Nat) (hlast : kids.getD m 0 = (last : Nat)) (G : Nat → List UInt8 × Bool → List UInt8 × Bool) (hn : SaysP Z p a n cap 34 #[.pointer (some ⟨p, 0, none⟩), .int .i64 (last : Nat)] (G last)) (hm : ∀ st, lenP st ≤ lenP (G last st)) (r : Nat) (hr33 : r < 33) (hrn : xn = (r : Int) + 1) :
    SaysP Z p a n cap 80 #[.pointer (some ⟨p, 0, none⟩), .agg #[.int .i64 k, .int .i64 xn, .int .i64 xm, .string xs, .slice s1 n1 c1, .slice (some ⟨kb, ko, none⟩) (m + 1) c2]] (fun st => G last (sayS looksD (sayP (sayP st xs.data.toList true) (primT r).data.toList false) 8592)) := by
  intro w g gc st h hq
  have hsm := hr.small
  have q0 : Z.cell? ⟨kb, ko + m, none⟩ = some (.int .i64 (last : Nat)) := by
    rcases hr.at_ with h0 | ⟨b', o', e', _, hcc⟩
    · omega
    · cases e'
      rw [hcc m (by omega), hlast]
  have hkl : kb < Z.heap.size := by
    rcases hr.at_ with h0 | ⟨b', o', e', hlt, _⟩
    · omega
    · cases e'; exact hlt
  have c0 : (w.alloc (.cells #[.int .i64 k, .int .i64 xn, .int .i64 xm, .string xs, .slice s1 n1 c1, .slice (some ⟨kb, ko, none⟩) (m + 1) c2] 47)).cell? ⟨kb, ko + m, none⟩ = some (.int .i64 (last : Nat)) := ((h.below ((Below.refl _ _).alloc (Nat.le_refl _) _)).low.cell (p := ⟨kb, ko + m, none⟩) hkl).trans q0
  have hsub : ((m + 1 : Nat) : Int) - 1 = (m : Nat) := by omega
  have hsub' : (m : Int) + 1 - 1 = (m : Nat) := by omega
  have hx1 : (m : Int) < (m : Int) + 1 := by omega
  have hx2 : (1 : Int) ≤ (c2 : Int) := by omega
  have hx3 : (m : Int) ≤ (c2 : Int) := by omega
  have hx4 : (m : Int) + 1 ≤ (c2 : Int) := by omega
  have hx5 : (m : Int) < ((m + 1 : Nat) : Int) := by omega
  have HA := hide (says_sign Z p a n cap ⟨#[226, 134, 144]⟩ 8592 (by kernel_rfl))
  have HN := hide hn
  have HS := hide (says_say Z p a n cap xs true)
  have HP := hide (says_say Z p a n cap (primT r) false)
  have hlen := primTs_len
  have hsubr : (r : Int) + 1 - 1 = (r : Int) := by omega
  have hwr : IntKind.i64.wrap ((r : Int) + 1 - 1) = (r : Int) := by rw [IntKind.wrap_i64]; omega
  have hwr2 : IntKind.i64.wrap (r : Int) = (r : Int) := by rw [IntKind.wrap_i64]; omega
  have hr0i : (0 : Int) ≤ (r : Int) := by omega
  have hr33i : (r : Int) < 33 := by omega
  have hr33l : (r : Int) < (primTs.length : Int) := by rw [hlen]; omega
  subst hrn
  have hq4 : lenP (G last (sayS looksD (sayP (sayP st xs.data.toList true) (primT r).data.toList false) 8592)) ≤ mostP := hq
  have hq3 : lenP (sayS looksD (sayP (sayP st xs.data.toList true) (primT r).data.toList false) 8592) ≤ mostP := Nat.le_trans (hm _) hq4
  have hq2 : lenP (sayP (sayP st xs.data.toList true) (primT r).data.toList false) ≤ mostP := Nat.le_trans ((say_len _ _ _).1) hq3
  have hq1 : lenP (sayP st xs.data.toList true) ≤ mostP := Nat.le_trans ((say_len _ _ _).1) hq2
  have HQ1 := hide hq1
  have HQ2 := hide hq2
  have HQ3 := hide hq3
  have HQ4 := hide hq4
  clear hq1 hq2 hq3 hq4
  clear hn hm
  have HB0 := hide (SB.new h (.int .i64 k) (.int .i64 ((r : Int) + 1)) (.int .i64 xm) (.string xs) (.slice s1 n1 c1) (.slice (some ⟨kb, ko, none⟩) (m + 1) c2))
  clear h hq hr hlast q0 hkl
  subst hk
  go_enter Tryz.func80, Tryz.ntmps80
  go_wp2_with (go_at_call 72; refine ((unhide HB0).call (unhide HS) (unhide HQ1)).mono ?_; rintro e w1 ⟨⟨v1, rfl⟩, g1, gc1, hb1⟩; obtain ⟨e0, e1, e2, e3, e4, e5⟩ := hb1.box.all; have HB1 := hide hb1; have hlt1 := hb1.box.lt; clear hb1 HB0)
  have HKEEP : Hid (∀ wx, Below w1.heap.size w1 wx → wx.cell? ⟨w.heap.size, 1, none⟩ = some (.int .i64 ((r : Int) + 1))) := fun wx hb => ((unhide HB1).below hb).box.all.2.1
  go_region_with (first | (go_at_call 122; refine (l2Prims_any _).mono ?_; rintro e w5 ⟨pg, pc, rfl, hr, hb⟩; simp only [hlen]; have hpq := prims_at hr hr33; have HB5 : Hid (Below w1.heap.size w1 w5) := (Below.refl _ _).drew.trans hb; have k1 := unhide HKEEP _ (unhide HB5); clear hr hb) | (go_at_call 72; refine ((unhide HB1).callB (unhide HB5) (unhide HP) (unhide HQ2)).mono ?_; rintro e w2 ⟨⟨v2, rfl⟩, g2, gc2, hb2⟩; obtain ⟨e0, e1, e2, e3, e4, e5⟩ := hb2.box.all; have HB2 := hide hb2; have hlt2 := hb2.box.lt; clear hb2 HB1))
  all_goals go_wp2_with (first | (go_at_call 72; refine ((unhide HB2).call (unhide HA) (unhide HQ3)).mono ?_; rintro e w3 ⟨⟨v3, rfl⟩, g3, gc3, hb3⟩; obtain ⟨e0, e1, e2, e3, e4, e5⟩ := hb3.box.all; have HB3 := hide hb3; have hlt3 := hb3.box.lt; clear hb3 HB2) | (go_at_call 34; refine ((unhide HB3).call (unhide HN) (unhide HQ4)).mono ?_; rintro e w4 ⟨⟨v4, rfl⟩, g4, gc4, hb4⟩; obtain ⟨e0, e1, e2, e3, e4, e5⟩ := hb4.box.all; have HB4 := hide hb4; have hlt4 := hb4.box.lt; clear hb4 HB3))
  all_goals go_end0
  all_goals exact ⟨⟨_, rfl⟩, (unhide HB4).done⟩

end Go.Proofs.YtmgjicgojlkpcaaGreatDoor
