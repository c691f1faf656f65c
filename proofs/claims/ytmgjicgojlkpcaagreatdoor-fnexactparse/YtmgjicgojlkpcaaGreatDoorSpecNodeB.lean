import Derived.Test.YtmgjicgojlkpcaaGreatDoorSpecNodeA
import Derived.Deep.RegionHeld3
namespace Go.Proofs.YtmgjicgojlkpcaaGreatDoor
open Go.RowKit

set_option maxRecDepth 20000 in
set_option maxHeartbeats 8000000 in
theorem says_node9 (Z : World) (p b off n cap i : Nat) (hi : i < n) (k xn xm : Int) (xs : ByteArray) (s1 : Option Addr) (n1 c1 : Nat) (kb ko : Nat) (n2 c2 : Nat) (hx : NodeIs Z b (off + i * 6) k xn xm xs (.slice s1 n1 c1) (.slice (some ⟨kb, ko, none⟩) n2 c2)) (hk : k = 9) (hn2 : n2 = 2) (f z : Nat) (hf : Z.cell? ⟨kb, ko, none⟩ = some (.int .i64 (f : Nat))) (hz : Z.cell? ⟨kb, ko + 1, none⟩ = some (.int .i64 (z : Nat))) (hkb : kb < Z.heap.size) (F : List UInt8 × Bool → List UInt8 × Bool) (hA : SaysP Z p (some ⟨b, off, none⟩) n cap 77 #[.pointer (some ⟨p, 0, none⟩), .int .i64 (f : Nat), .int .i64 (z : Nat)] F) :
    SaysP Z p (some ⟨b, off, none⟩) n cap 34 #[.pointer (some ⟨p, 0, none⟩), .int .i64 (i : Nat)] (F) := by
  intro w g gc st h hq
  obtain ⟨hbl, x0, x1, x2, x3, x4, x5⟩ := hx
  have c0' := (h.low.cell (p := ⟨b, off + i * 6, none⟩) hbl).trans x0
  have c1' := (h.low.cell (p := ⟨b, off + i * 6 + 1, none⟩) hbl).trans x1
  have c2' := (h.low.cell (p := ⟨b, off + i * 6 + 2, none⟩) hbl).trans x2
  have c3' := (h.low.cell (p := ⟨b, off + i * 6 + 3, none⟩) hbl).trans x3
  have c4' := (h.low.cell (p := ⟨b, off + i * 6 + 4, none⟩) hbl).trans x4
  have c5' := (h.low.cell (p := ⟨b, off + i * 6 + 5, none⟩) hbl).trans x5
  obtain ⟨d0, d1, d2, f0, f1, f2⟩ := h.sw.all
  have hii : (i : Int) < (n : Int) := by omega
  have hbw : b < w.heap.size := Nat.lt_of_lt_of_le hbl h.low.size
  have hpw := h.sw.lt.1
  have HB0 := hide (SB.new h (.int .i64 k) (.int .i64 xn) (.int .i64 xm) (.string xs) (.slice s1 n1 c1) (.slice (some ⟨kb, ko, none⟩) n2 c2))
  have HA := hide hA
  have HQ1 := hide hq
  subst hn2
  have HKEEP : Hid (∀ wx gx gcx stx, SB Z p (some ⟨b, off, none⟩) n cap w g w.heap.size (.int .i64 k) (.int .i64 xn) (.int .i64 xm) (.string xs) (.slice s1 n1 c1) (.slice (some ⟨kb, ko, none⟩) 2 c2) wx gx gcx stx → wx.cell? ⟨w.heap.size, 5, none⟩ = some (.slice (some ⟨kb, ko, none⟩) 2 c2) ∧ wx.cell? ⟨kb, ko, none⟩ = some (.int .i64 (f : Nat)) ∧ wx.cell? ⟨kb, ko + 1, none⟩ = some (.int .i64 (z : Nat))) := fun wx gx gcx stx hs => ⟨hs.box.all.2.2.2.2.2, (hs.sx.low.cell (p := ⟨kb, ko, none⟩) hkb).trans hf, (hs.sx.low.cell (p := ⟨kb, ko + 1, none⟩) hkb).trans hz⟩
  clear h hq x0 x1 x2 x3 x4 x5
  clear hA hf hz hkb
  subst hk
  go_enter Tryz.func34, Tryz.ntmps34
  go_wp2_with fail
  go_region_held3 (fun wx => wx.cell? ⟨w.heap.size, 5, none⟩ = some (.slice (some ⟨kb, ko, none⟩) 2 c2) ∧ wx.cell? ⟨kb, ko, none⟩ = some (.int .i64 (f : Nat)) ∧ wx.cell? ⟨kb, ko + 1, none⟩ = some (.int .i64 (z : Nat))) (first | exact unhide HKEEP _ _ _ _ (unhide HB1) | exact unhide HKEEP _ _ _ _ ((unhide HB0).below (Below.refl _ _).drew)) (first | (go_at_call 77; refine ((unhide HB0).callB (Below.refl _ _).drew (unhide HA) (unhide HQ1)).mono ?_; rintro e w1 ⟨⟨v1, rfl⟩, g1, gc1, hb1⟩; have HB1 := hide hb1; clear hb1))
  all_goals go_wp2_with fail
  all_goals go_end0
  all_goals exact ⟨⟨_, rfl⟩, (unhide HB1).done⟩

set_option maxRecDepth 20000 in
set_option maxHeartbeats 8000000 in
theorem says_node10 (Z : World) (p b off n cap i : Nat) (hi : i < n) (k xn xm : Int) (xs : ByteArray) (s1 : Option Addr) (n1 c1 : Nat) (kb ko : Nat) (n2 c2 : Nat) (hx : NodeIs Z b (off + i * 6) k xn xm xs (.slice s1 n1 c1) (.slice (some ⟨kb, ko, none⟩) n2 c2)) (hk : k = 10) (hn2 : n2 = 3) (z0 f z : Nat) (hz0 : Z.cell? ⟨kb, ko, none⟩ = some (.int .i64 (z0 : Nat))) (hf : Z.cell? ⟨kb, ko + 1, none⟩ = some (.int .i64 (f : Nat))) (hz : Z.cell? ⟨kb, ko + 2, none⟩ = some (.int .i64 (z : Nat))) (hkb : kb < Z.heap.size) (F1 F : List UInt8 × Bool → List UInt8 × Bool) (hO : SaysP Z p (some ⟨b, off, none⟩) n cap 75 #[.pointer (some ⟨p, 0, none⟩), .int .i64 (z0 : Nat)] F1) (hA : SaysP Z p (some ⟨b, off, none⟩) n cap 77 #[.pointer (some ⟨p, 0, none⟩), .int .i64 (f : Nat), .int .i64 (z : Nat)] F) (h2 : ∀ st, lenP st ≤ lenP (F st)) :
    SaysP Z p (some ⟨b, off, none⟩) n cap 34 #[.pointer (some ⟨p, 0, none⟩), .int .i64 (i : Nat)] (fun st => F (F1 st)) := by
  intro w g gc st h hq
  obtain ⟨hbl, x0, x1, x2, x3, x4, x5⟩ := hx
  have c0' := (h.low.cell (p := ⟨b, off + i * 6, none⟩) hbl).trans x0
  have c1' := (h.low.cell (p := ⟨b, off + i * 6 + 1, none⟩) hbl).trans x1
  have c2' := (h.low.cell (p := ⟨b, off + i * 6 + 2, none⟩) hbl).trans x2
  have c3' := (h.low.cell (p := ⟨b, off + i * 6 + 3, none⟩) hbl).trans x3
  have c4' := (h.low.cell (p := ⟨b, off + i * 6 + 4, none⟩) hbl).trans x4
  have c5' := (h.low.cell (p := ⟨b, off + i * 6 + 5, none⟩) hbl).trans x5
  obtain ⟨d0, d1, d2, f0, f1, f2⟩ := h.sw.all
  have hii : (i : Int) < (n : Int) := by omega
  have hbw : b < w.heap.size := Nat.lt_of_lt_of_le hbl h.low.size
  have hpw := h.sw.lt.1
  have HB0 := hide (SB.new h (.int .i64 k) (.int .i64 xn) (.int .i64 xm) (.string xs) (.slice s1 n1 c1) (.slice (some ⟨kb, ko, none⟩) n2 c2))
  have HO := hide hO
  have HA := hide hA
  have hq2 : lenP (F (F1 st)) ≤ mostP := hq
  have hq1 : lenP (F1 st) ≤ mostP := Nat.le_trans (h2 _) hq2
  have HQ1 := hide hq1
  have HQ2 := hide hq2
  subst hn2
  have zc : (w.alloc (.cells #[.int .i64 k, .int .i64 xn, .int .i64 xm, .string xs, .slice s1 n1 c1, .slice (some ⟨kb, ko, none⟩) 3 c2] 47)).cell? ⟨kb, ko, none⟩ = some (.int .i64 (z0 : Nat)) := ((h.below ((Below.refl _ _).alloc (Nat.le_refl _) _)).low.cell (p := ⟨kb, ko, none⟩) hkb).trans hz0
  have HKEEP : Hid (∀ wx gx gcx stx, SB Z p (some ⟨b, off, none⟩) n cap w g w.heap.size (.int .i64 k) (.int .i64 xn) (.int .i64 xm) (.string xs) (.slice s1 n1 c1) (.slice (some ⟨kb, ko, none⟩) 3 c2) wx gx gcx stx → wx.cell? ⟨w.heap.size, 5, none⟩ = some (.slice (some ⟨kb, ko, none⟩) 3 c2) ∧ wx.cell? ⟨kb, ko + 1, none⟩ = some (.int .i64 (f : Nat)) ∧ wx.cell? ⟨kb, ko + 2, none⟩ = some (.int .i64 (z : Nat))) := fun wx gx gcx stx hs => ⟨hs.box.all.2.2.2.2.2, (hs.sx.low.cell (p := ⟨kb, ko + 1, none⟩) hkb).trans hf, (hs.sx.low.cell (p := ⟨kb, ko + 2, none⟩) hkb).trans hz⟩
  clear h hq x0 x1 x2 x3 x4 x5
  clear hO hA hf hz hz0 hkb h2 hq1 hq2
  subst hk
  go_enter Tryz.func34, Tryz.ntmps34
  go_wp2_with (go_at_call 75; refine ((unhide HB0).call (unhide HO) (unhide HQ1)).mono ?_; rintro e w1 ⟨⟨v1, rfl⟩, g1, gc1, hb1⟩; obtain ⟨e0, e1, e2, e3, e4, e5⟩ := hb1.box.all; have HB1 := hide hb1; have hlt1 := hb1.box.lt; clear hb1 HB0)
  go_region_held3 (fun wx => wx.cell? ⟨w.heap.size, 5, none⟩ = some (.slice (some ⟨kb, ko, none⟩) 3 c2) ∧ wx.cell? ⟨kb, ko + 1, none⟩ = some (.int .i64 (f : Nat)) ∧ wx.cell? ⟨kb, ko + 2, none⟩ = some (.int .i64 (z : Nat))) (first | exact unhide HKEEP _ _ _ _ (unhide HB2) | exact unhide HKEEP _ _ _ _ ((unhide HB1).below (Below.refl _ _).drew)) (first | (go_at_call 77; refine ((unhide HB1).callB (Below.refl _ _).drew (unhide HA) (unhide HQ2)).mono ?_; rintro e w2 ⟨⟨v2, rfl⟩, g2, gc2, hb2⟩; have HB2 := hide hb2; clear hb2))
  all_goals go_wp2_with fail
  all_goals go_end0
  all_goals exact ⟨⟨_, rfl⟩, (unhide HB2).done⟩

end Go.Proofs.YtmgjicgojlkpcaaGreatDoor
