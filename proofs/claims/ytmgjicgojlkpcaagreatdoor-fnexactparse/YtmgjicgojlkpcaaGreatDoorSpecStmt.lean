import Derived.Test.YtmgjicgojlkpcaaGreatDoorSpecBoxW
import Derived.Deep.RegionHeld3
namespace Go.Proofs.YtmgjicgojlkpcaaGreatDoor
open Go.RowKit

set_option maxRecDepth 20000 in
set_option maxHeartbeats 8000000 in
theorem says_stmt19 (Z : World) (p : Nat) (a : Option Addr) (n cap : Nat) (k xn xm : Int) (hk : k = 19 ∨ k = 20) (xs : ByteArray) (s1 : Option Addr) (n1 c1 kb ko m c2 : Nat) (kids : List Int) (hr : Row Z (some ⟨kb, ko, none⟩) (m + 1) kids) (hc : m + 1 ≤ c2) (last : Nat) (hlast : kids.getD m 0 = (last : Nat)) (G : Nat → List UInt8 × Bool → List UInt8 × Bool) (hn : SaysP Z p a n cap 34 #[.pointer (some ⟨p, 0, none⟩), .int .i64 (last : Nat)] (G last)) (hm : ∀ st, lenP st ≤ lenP (G last st)) :
    SaysP Z p a n cap 80 #[.pointer (some ⟨p, 0, none⟩), .agg #[.int .i64 k, .int .i64 xn, .int .i64 xm, .string xs, .slice s1 n1 c1, .slice (some ⟨kb, ko, none⟩) (m + 1) c2]] (fun st => G last (sayS looksD (sayP st xs.data.toList true) 8592)) := by
  intro w g gc st h hq
  have hsm := hr.small
  have q0 : Z.cell? ⟨kb, ko + m, none⟩ = some (.int .i64 (last : Nat)) := by
    rcases hr.at_ with h0 | ⟨b', o', e', _, hcc⟩
    · omega
    · cases e'
      rw [hcc m (by omega), hlast]
  have hkl : kb < Z.heap.size := by
    rcases hr.at_ with h0 | ⟨b', o', e', hlt, _⟩
    · omega
    · cases e'; exact hlt
  have c0 : (w.alloc (.cells #[.int .i64 k, .int .i64 xn, .int .i64 xm, .string xs, .slice s1 n1 c1, .slice (some ⟨kb, ko, none⟩) (m + 1) c2] 47)).cell? ⟨kb, ko + m, none⟩ = some (.int .i64 (last : Nat)) := ((h.below ((Below.refl _ _).alloc (Nat.le_refl _) _)).low.cell (p := ⟨kb, ko + m, none⟩) hkl).trans q0
  have hsub : ((m + 1 : Nat) : Int) - 1 = (m : Nat) := by omega
  have hsub' : (m : Int) + 1 - 1 = (m : Nat) := by omega
  have hx1 : (m : Int) < (m : Int) + 1 := by omega
  have hx2 : (1 : Int) ≤ (c2 : Int) := by omega
  have hx3 : (m : Int) ≤ (c2 : Int) := by omega
  have hx4 : (m : Int) + 1 ≤ (c2 : Int) := by omega
  have hx5 : (m : Int) < ((m + 1 : Nat) : Int) := by omega
  have HA := hide (says_sign Z p a n cap ⟨#[226, 134, 144]⟩ 8592 (by kernel_rfl))
  have HN := hide hn
  have HS := hide (says_say Z p a n cap xs true)
  have hq3 : lenP (G last (sayS looksD (sayP st xs.data.toList true) 8592)) ≤ mostP := hq
  have hq2 : lenP (sayS looksD (sayP st xs.data.toList true) 8592) ≤ mostP := Nat.le_trans (hm _) hq3
  have hq1 : lenP (sayP st xs.data.toList true) ≤ mostP := Nat.le_trans ((say_len _ _ _).1) hq2
  have HQ1 := hide hq1
  have HQ2 := hide hq2
  have HQ3 := hide hq3
  clear hq1 hq2 hq3
  clear hn hm
  have HB0 := hide (SB.new h (.int .i64 k) (.int .i64 xn) (.int .i64 xm) (.string xs) (.slice s1 n1 c1) (.slice (some ⟨kb, ko, none⟩) (m + 1) c2))
  clear h hq hr hlast q0 hkl
  rcases hk with rfl | rfl <;>
  · go_enter Tryz.func80, Tryz.ntmps80
    go_wp2_with (first | (go_at_call 72; refine ((unhide HB0).call (unhide HS) (unhide HQ1)).mono ?_; rintro e w1 ⟨⟨v1, rfl⟩, g1, gc1, hb1⟩; obtain ⟨e0, e1, e2, e3, e4, e5⟩ := hb1.box.all; have HB1 := hide hb1; have hlt1 := hb1.box.lt; clear hb1 HB0) | (go_at_call 72; refine ((unhide HB1).call (unhide HA) (unhide HQ2)).mono ?_; rintro e w2 ⟨⟨v2, rfl⟩, g2, gc2, hb2⟩; obtain ⟨e0, e1, e2, e3, e4, e5⟩ := hb2.box.all; have HB2 := hide hb2; have hlt2 := hb2.box.lt; clear hb2 HB1) | (go_at_call 34; refine ((unhide HB2).call (unhide HN) (unhide HQ3)).mono ?_; rintro e w3 ⟨⟨v3, rfl⟩, g3, gc3, hb3⟩; obtain ⟨e0, e1, e2, e3, e4, e5⟩ := hb3.box.all; have HB3 := hide hb3; have hlt3 := hb3.box.lt; clear hb3 HB2))
    go_end0
    exact ⟨⟨_, rfl⟩, (unhide HB3).done⟩

set_option maxRecDepth 20000 in
set_option maxHeartbeats 8000000 in
theorem says_stmt24 (Z : World) (p : Nat) (a : Option Addr) (n cap : Nat) (k xn xm : Int) (hk : k = 24) (xs : ByteArray) (s1 : Option Addr) (n1 c1 kb ko m c2 : Nat) (kids : List Int) (hr : Row Z (some ⟨kb, ko, none⟩) (m + 1) kids) (hc : m + 1 ≤ c2) (last : Nat) (hlast : kids.getD m 0 = (last : Nat)) (F : List UInt8 × Bool → List UInt8 × Bool) (hl : SaysP Z p a n cap 79 #[.pointer (some ⟨p, 0, none⟩), .slice (some ⟨kb, ko, none⟩) (m + 1) c2, .string ⟨#[58]⟩] F) :
    SaysP Z p a n cap 80 #[.pointer (some ⟨p, 0, none⟩), .agg #[.int .i64 k, .int .i64 xn, .int .i64 xm, .string xs, .slice s1 n1 c1, .slice (some ⟨kb, ko, none⟩) (m + 1) c2]] (F) := by
  intro w g gc st h hq
  have hsm := hr.small
  have q0 : Z.cell? ⟨kb, ko + m, none⟩ = some (.int .i64 (last : Nat)) := by
    rcases hr.at_ with h0 | ⟨b', o', e', _, hcc⟩
    · omega
    · cases e'
      rw [hcc m (by omega), hlast]
  have hkl : kb < Z.heap.size := by
    rcases hr.at_ with h0 | ⟨b', o', e', hlt, _⟩
    · omega
    · cases e'; exact hlt
  have c0 : (w.alloc (.cells #[.int .i64 k, .int .i64 xn, .int .i64 xm, .string xs, .slice s1 n1 c1, .slice (some ⟨kb, ko, none⟩) (m + 1) c2] 47)).cell? ⟨kb, ko + m, none⟩ = some (.int .i64 (last : Nat)) := ((h.below ((Below.refl _ _).alloc (Nat.le_refl _) _)).low.cell (p := ⟨kb, ko + m, none⟩) hkl).trans q0
  have hsub : ((m + 1 : Nat) : Int) - 1 = (m : Nat) := by omega
  have hsub' : (m : Int) + 1 - 1 = (m : Nat) := by omega
  have hx1 : (m : Int) < (m : Int) + 1 := by omega
  have hx2 : (1 : Int) ≤ (c2 : Int) := by omega
  have hx3 : (m : Int) ≤ (c2 : Int) := by omega
  have hx4 : (m : Int) + 1 ≤ (c2 : Int) := by omega
  have hx5 : (m : Int) < ((m + 1 : Nat) : Int) := by omega
  have HL := hide hl
  have HQ1 := hide hq
  clear hl
  have HB0 := hide (SB.new h (.int .i64 k) (.int .i64 xn) (.int .i64 xm) (.string xs) (.slice s1 n1 c1) (.slice (some ⟨kb, ko, none⟩) (m + 1) c2))
  clear h hq hr hlast q0 hkl
  subst hk
  go_enter Tryz.func80, Tryz.ntmps80
  go_wp2_with (first | (go_at_call 79; refine ((unhide HB0).call (unhide HL) (unhide HQ1)).mono ?_; rintro e w1 ⟨⟨v1, rfl⟩, g1, gc1, hb1⟩; obtain ⟨e0, e1, e2, e3, e4, e5⟩ := hb1.box.all; have HB1 := hide hb1; have hlt1 := hb1.box.lt; clear hb1 HB0))
  (try simp only [Exit.inBlock, Exit.then])
  refine bodyPost_ret (results_none rfl _ _ _) rfl ?_
  exact ⟨⟨_, rfl⟩, (unhide HB1).done⟩

set_option maxRecDepth 20000 in
set_option maxHeartbeats 8000000 in
theorem says_stmt23 (Z : World) (p : Nat) (a : Option Addr) (n cap : Nat) (k xn xm : Int) (hk : k = 23) (xs : ByteArray) (s1 : Option Addr) (n1 c1 kb ko m c2 : Nat) (kids : List Int) (hr : Row Z (some ⟨kb, ko, none⟩) (m + 1) kids) (hc : m + 1 ≤ c2) (last : Nat) (hlast : kids.getD m 0 = (last : Nat)) (G : Nat → List UInt8 × Bool → List UInt8 × Bool) (hn : SaysP Z p a n cap 34 #[.pointer (some ⟨p, 0, none⟩), .int .i64 (last : Nat)] (G last)) (hm : ∀ st, lenP st ≤ lenP (G last st)) (F : List UInt8 × Bool → List UInt8 × Bool) (hR : SaysP Z p a n cap 76 #[.pointer (some ⟨p, 0, none⟩), .slice (some ⟨kb, ko, none⟩) 1 c2, .string ⟨#[40]⟩, .string ⟨#[]⟩, .string ⟨#[41]⟩] F) :
    SaysP Z p a n cap 80 #[.pointer (some ⟨p, 0, none⟩), .agg #[.int .i64 k, .int .i64 xn, .int .i64 xm, .string xs, .slice s1 n1 c1, .slice (some ⟨kb, ko, none⟩) (m + 1) c2]] (fun st => G last (sayS looksD (F st) 8592)) := by
  intro w g gc st h hq
  have hsm := hr.small
  have q0 : Z.cell? ⟨kb, ko + m, none⟩ = some (.int .i64 (last : Nat)) := by
    rcases hr.at_ with h0 | ⟨b', o', e', _, hcc⟩
    · omega
    · cases e'
      rw [hcc m (by omega), hlast]
  have hkl : kb < Z.heap.size := by
    rcases hr.at_ with h0 | ⟨b', o', e', hlt, _⟩
    · omega
    · cases e'; exact hlt
  have c0 : (w.alloc (.cells #[.int .i64 k, .int .i64 xn, .int .i64 xm, .string xs, .slice s1 n1 c1, .slice (some ⟨kb, ko, none⟩) (m + 1) c2] 47)).cell? ⟨kb, ko + m, none⟩ = some (.int .i64 (last : Nat)) := ((h.below ((Below.refl _ _).alloc (Nat.le_refl _) _)).low.cell (p := ⟨kb, ko + m, none⟩) hkl).trans q0
  have hsub : ((m + 1 : Nat) : Int) - 1 = (m : Nat) := by omega
  have hsub' : (m : Int) + 1 - 1 = (m : Nat) := by omega
  have hx1 : (m : Int) < (m : Int) + 1 := by omega
  have hx2 : (1 : Int) ≤ (c2 : Int) := by omega
  have hx3 : (m : Int) ≤ (c2 : Int) := by omega
  have hx4 : (m : Int) + 1 ≤ (c2 : Int) := by omega
  have hx5 : (m : Int) < ((m + 1 : Nat) : Int) := by omega
  have HA := hide (says_sign Z p a n cap ⟨#[226, 134, 144]⟩ 8592 (by kernel_rfl))
  have HN := hide hn
  have HR := hide hR
  have hq3 : lenP (G last (sayS looksD (F st) 8592)) ≤ mostP := hq
  have hq2 : lenP (sayS looksD (F st) 8592) ≤ mostP := Nat.le_trans (hm _) hq3
  have hq1 : lenP (F st) ≤ mostP := Nat.le_trans ((say_len _ _ _).1) hq2
  have HQ1 := hide hq1
  have HQ2 := hide hq2
  have HQ3 := hide hq3
  clear hq1 hq2 hq3
  clear hn hm hR
  have HB0 := hide (SB.new h (.int .i64 k) (.int .i64 xn) (.int .i64 xm) (.string xs) (.slice s1 n1 c1) (.slice (some ⟨kb, ko, none⟩) (m + 1) c2))
  clear h hq hr hlast q0 hkl
  subst hk
  go_enter Tryz.func80, Tryz.ntmps80
  go_wp2_with (first | (go_at_call 76; refine ((unhide HB0).call (unhide HR) (unhide HQ1)).mono ?_; rintro e w1 ⟨⟨v1, rfl⟩, g1, gc1, hb1⟩; obtain ⟨e0, e1, e2, e3, e4, e5⟩ := hb1.box.all; have HB1 := hide hb1; have hlt1 := hb1.box.lt; clear hb1 HB0) | (go_at_call 72; refine ((unhide HB1).call (unhide HA) (unhide HQ2)).mono ?_; rintro e w2 ⟨⟨v2, rfl⟩, g2, gc2, hb2⟩; obtain ⟨e0, e1, e2, e3, e4, e5⟩ := hb2.box.all; have HB2 := hide hb2; have hlt2 := hb2.box.lt; clear hb2 HB1) | (go_at_call 34; refine ((unhide HB2).call (unhide HN) (unhide HQ3)).mono ?_; rintro e w3 ⟨⟨v3, rfl⟩, g3, gc3, hb3⟩; obtain ⟨e0, e1, e2, e3, e4, e5⟩ := hb3.box.all; have HB3 := hide hb3; have hlt3 := hb3.box.lt; clear hb3 HB2))
  go_end0
  exact ⟨⟨_, rfl⟩, (unhide HB3).done⟩

set_option maxRecDepth 20000 in
set_option maxHeartbeats 8000000 in
theorem says_stmt21 (Z : World) (p : Nat) (a : Option Addr) (n cap : Nat) (k xn xm : Int) (hk : k = 21) (xs : ByteArray) (s1 : Option Addr) (n1 c1 kb ko m c2 : Nat) (kids : List Int) (hr : Row Z (some ⟨kb, ko, none⟩) (m + 1) kids) (hc : m + 1 ≤ c2) (last : Nat) (hlast : kids.getD m 0 = (last : Nat)) (G : Nat → List UInt8 × Bool → List UInt8 × Bool) (hn : SaysP Z p a n cap 34 #[.pointer (some ⟨p, 0, none⟩), .int .i64 (last : Nat)] (G last)) (hm : ∀ st, lenP st ≤ lenP (G last st)) (F : List UInt8 × Bool → List UInt8 × Bool) (hR : SaysP Z p a n cap 76 #[.pointer (some ⟨p, 0, none⟩), .slice (some ⟨kb, ko, none⟩) m c2, .string ⟨#[91]⟩, .string ⟨#[59]⟩, .string ⟨#[93]⟩] F) (hF : ∀ st, lenP st ≤ lenP (F st)) :
    SaysP Z p a n cap 80 #[.pointer (some ⟨p, 0, none⟩), .agg #[.int .i64 k, .int .i64 xn, .int .i64 xm, .string xs, .slice s1 n1 c1, .slice (some ⟨kb, ko, none⟩) (m + 1) c2]] (fun st => G last (sayS looksD (F (sayP st xs.data.toList true)) 8592)) := by
  intro w g gc st h hq
  have hsm := hr.small
  have q0 : Z.cell? ⟨kb, ko + m, none⟩ = some (.int .i64 (last : Nat)) := by
    rcases hr.at_ with h0 | ⟨b', o', e', _, hcc⟩
    · omega
    · cases e'
      rw [hcc m (by omega), hlast]
  have hkl : kb < Z.heap.size := by
    rcases hr.at_ with h0 | ⟨b', o', e', hlt, _⟩
    · omega
    · cases e'; exact hlt
  have c0 : (w.alloc (.cells #[.int .i64 k, .int .i64 xn, .int .i64 xm, .string xs, .slice s1 n1 c1, .slice (some ⟨kb, ko, none⟩) (m + 1) c2] 47)).cell? ⟨kb, ko + m, none⟩ = some (.int .i64 (last : Nat)) := ((h.below ((Below.refl _ _).alloc (Nat.le_refl _) _)).low.cell (p := ⟨kb, ko + m, none⟩) hkl).trans q0
  have hsub : ((m + 1 : Nat) : Int) - 1 = (m : Nat) := by omega
  have hsub' : (m : Int) + 1 - 1 = (m : Nat) := by omega
  have hx1 : (m : Int) < (m : Int) + 1 := by omega
  have hx2 : (1 : Int) ≤ (c2 : Int) := by omega
  have hx3 : (m : Int) ≤ (c2 : Int) := by omega
  have hx4 : (m : Int) + 1 ≤ (c2 : Int) := by omega
  have hx5 : (m : Int) < ((m + 1 : Nat) : Int) := by omega
  have HA := hide (says_sign Z p a n cap ⟨#[226, 134, 144]⟩ 8592 (by kernel_rfl))
  have HN := hide hn
  have HS := hide (says_say Z p a n cap xs true)
  have HR := hide hR
  have hq4 : lenP (G last (sayS looksD (F (sayP st xs.data.toList true)) 8592)) ≤ mostP := hq
  have hq3 : lenP (sayS looksD (F (sayP st xs.data.toList true)) 8592) ≤ mostP := Nat.le_trans (hm _) hq4
  have hq2 : lenP (F (sayP st xs.data.toList true)) ≤ mostP := Nat.le_trans ((say_len _ _ _).1) hq3
  have hq1 : lenP (sayP st xs.data.toList true) ≤ mostP := Nat.le_trans (hF _) hq2
  have HQ1 := hide hq1
  have HQ2 := hide hq2
  have HQ3 := hide hq3
  have HQ4 := hide hq4
  clear hq1 hq2 hq3 hq4
  clear hn hm hR hF
  have HB0 := hide (SB.new h (.int .i64 k) (.int .i64 xn) (.int .i64 xm) (.string xs) (.slice s1 n1 c1) (.slice (some ⟨kb, ko, none⟩) (m + 1) c2))
  clear h hq hr hlast q0 hkl
  subst hk
  go_enter Tryz.func80, Tryz.ntmps80
  go_wp2_with (first | (go_at_call 72; refine ((unhide HB0).call (unhide HS) (unhide HQ1)).mono ?_; rintro e w1 ⟨⟨v1, rfl⟩, g1, gc1, hb1⟩; obtain ⟨e0, e1, e2, e3, e4, e5⟩ := hb1.box.all; have HB1 := hide hb1; have hlt1 := hb1.box.lt; clear hb1 HB0) | (go_at_call 76; refine ((unhide HB1).call (unhide HR) (unhide HQ2)).mono ?_; rintro e w2 ⟨⟨v2, rfl⟩, g2, gc2, hb2⟩; obtain ⟨e0, e1, e2, e3, e4, e5⟩ := hb2.box.all; have HB2 := hide hb2; have hlt2 := hb2.box.lt; clear hb2 HB1) | (go_at_call 72; refine ((unhide HB2).call (unhide HA) (unhide HQ3)).mono ?_; rintro e w3 ⟨⟨v3, rfl⟩, g3, gc3, hb3⟩; obtain ⟨e0, e1, e2, e3, e4, e5⟩ := hb3.box.all; have HB3 := hide hb3; have hlt3 := hb3.box.lt; clear hb3 HB2) | (go_at_call 34; refine ((unhide HB3).call (unhide HN) (unhide HQ4)).mono ?_; rintro e w4 ⟨⟨v4, rfl⟩, g4, gc4, hb4⟩; obtain ⟨e0, e1, e2, e3, e4, e5⟩ := hb4.box.all; have HB4 := hide hb4; have hlt4 := hb4.box.lt; clear hb4 HB3))
  go_end0
  exact ⟨⟨_, rfl⟩, (unhide HB4).done⟩

end Go.Proofs.YtmgjicgojlkpcaaGreatDoor
