import Derived.Test.YtinndpnilmmmjaaGreatDoorMFun
import Derived.Deep.RegionHeld3
import Derived.Deep.RegionWith
import Derived.Test.YtinndpnilmmmjaaGreatDoorMTree
namespace Go.Proofs.YtinndpnilmmmjaaGreatDoor
open Go.RowKit

set_option maxRecDepth 20000 in
set_option maxHeartbeats 8000000 in
theorem says_stmt19 (Z : World) (p : Nat) (a : Option Addr) (n cap : Nat) (k xn xm : Int) (hk : k = 19 ∨ k = 20) (xs : ByteArray) (s1 : Option Addr) (n1 c1 kb ko m c2 : Nat) (kids : List Int) (hr : Row Z (some ⟨kb, ko, none⟩) (m + 1) kids) (hc : m + 1 ≤ c2) (last : Nat) (hlast : kids.getD m 0 = (last : Nat)) (G : Nat → List UInt8 × Bool → List UInt8 × Bool) (hn : SaysP Z p a n cap 34 #[.pointer (some ⟨p, 0, none⟩), .int .i64 (last : Nat)] (G last)) (hm : ∀ st, lenP st ≤ lenP (G last st)) :
    SaysP Z p a n cap 80 #[.pointer (some ⟨p, 0, none⟩), .agg #[.int .i64 k, .int .i64 xn, .int .i64 xm, .string xs, .slice s1 n1 c1, .slice (some ⟨kb, ko, none⟩) (m + 1) c2]] (fun st => G last (sayS looksD (sayP st xs.data.toList true) 8592)) := by
  intro w g gc st h hq
  have hsm := hr.small
  have q0 : Z.cell? ⟨kb, ko + m, none⟩ = some (.int .i64 (last : Nat)) := by
    rcases hr.at_ with h0 | ⟨b', o', e', _, hcc⟩
    · omega
    · cases e'
      rw [hcc m (by omega), hlast]
  have hkl : kb < Z.heap.size := by
    rcases hr.at_ with h0 | ⟨b', o', e', hlt, _⟩
    · omega
    · cases e'; exact hlt
  have c0 : (w.alloc (.cells #[.int .i64 k, .int .i64 xn, .int .i64 xm, .string xs, .slice s1 n1 c1, .slice (some ⟨kb, ko, none⟩) (m + 1) c2] 47)).cell? ⟨kb, ko + m, none⟩ = some (.int .i64 (last : Nat)) := ((h.below ((Below.refl _ _).alloc (Nat.le_refl _) _)).low.cell (p := ⟨kb, ko + m, none⟩) hkl).trans q0
  have hsub : ((m + 1 : Nat) : Int) - 1 = (m : Nat) := by omega
  have hsub' : (m : Int) + 1 - 1 = (m : Nat) := by omega
  have hx1 : (m : Int) < (m : Int) + 1 := by omega
  have hx2 : (1 : Int) ≤ (c2 : Int) := by omega
  have hx3 : (m : Int) ≤ (c2 : Int) := by omega
  have hx4 : (m : Int) + 1 ≤ (c2 : Int) := by omega
  have hx5 : (m : Int) < ((m + 1 : Nat) : Int) := by omega
  have HA := hide (says_sign Z p a n cap ⟨#[226, 134, 144]⟩ 8592 (by kernel_rfl))
  have HN := hide hn
  have HS := hide (says_say Z p a n cap xs true)
  have hq3 : lenP (G last (sayS looksD (sayP st xs.data.toList true) 8592)) ≤ mostP := hq
  have hq2 : lenP (sayS looksD (sayP st xs.data.toList true) 8592) ≤ mostP := Nat.le_trans (hm _) hq3
  have hq1 : lenP (sayP st xs.data.toList true) ≤ mostP := Nat.le_trans ((say_len _ _ _).1) hq2
  have HQ1 := hide hq1
  have HQ2 := hide hq2
  have HQ3 := hide hq3
  clear hq1 hq2 hq3
  clear hn hm
  have HB0 := hide (SB.new h (.int .i64 k) (.int .i64 xn) (.int .i64 xm) (.string xs) (.slice s1 n1 c1) (.slice (some ⟨kb, ko, none⟩) (m + 1) c2))
  clear h hq hr hlast q0 hkl
  rcases hk with rfl | rfl <;>
  · go_enter Tryz.func80, Tryz.ntmps80
    go_wp2_with (first | (go_at_call 72; refine ((unhide HB0).call (unhide HS) (unhide HQ1)).mono ?_; rintro e w1 ⟨⟨v1, rfl⟩, g1, gc1, hb1⟩; obtain ⟨e0, e1, e2, e3, e4, e5⟩ := hb1.box.all; have HB1 := hide hb1; have hlt1 := hb1.box.lt; clear hb1 HB0) | (go_at_call 72; refine ((unhide HB1).call (unhide HA) (unhide HQ2)).mono ?_; rintro e w2 ⟨⟨v2, rfl⟩, g2, gc2, hb2⟩; obtain ⟨e0, e1, e2, e3, e4, e5⟩ := hb2.box.all; have HB2 := hide hb2; have hlt2 := hb2.box.lt; clear hb2 HB1) | (go_at_call 34; refine ((unhide HB2).call (unhide HN) (unhide HQ3)).mono ?_; rintro e w3 ⟨⟨v3, rfl⟩, g3, gc3, hb3⟩; obtain ⟨e0, e1, e2, e3, e4, e5⟩ := hb3.box.all; have HB3 := hide hb3; have hlt3 := hb3.box.lt; clear hb3 HB2))
    go_end0
    exact ⟨⟨_, rfl⟩, (unhide HB3).done⟩

set_option maxRecDepth 20000 in
set_option maxHeartbeats 8000000 in
theorem says_stmt24 (Z : World) (p : Nat) (a : Option Addr) (n cap : Nat) (k xn xm : Int) (hk : k = 24) (xs : ByteArray) (s1 : Option Addr) (n1 c1 kb ko m c2 : Nat) (kids : List Int) (hr : Row Z (some ⟨kb, ko, none⟩) (m + 1) kids) (hc : m + 1 ≤ c2) (last : Nat) (hlast : kids.getD m 0 = (last : Nat)) (F : List UInt8 × Bool → List UInt8 × Bool) (hl : SaysP Z p a n cap 79 #[.pointer (some ⟨p, 0, none⟩), .slice (some ⟨kb, ko, none⟩) (m + 1) c2, .string ⟨#[58]⟩] F) :
    SaysP Z p a n cap 80 #[.pointer (some ⟨p, 0, none⟩), .agg #[.int .i64 k, .int .i64 xn, .int .i64 xm, .string xs, .slice s1 n1 c1, .slice (some ⟨kb, ko, none⟩) (m + 1) c2]] (F) := by
  intro w g gc st h hq
  have hsm := hr.small
  have q0 : Z.cell? ⟨kb, ko + m, none⟩ = some (.int .i64 (last : Nat)) := by
    rcases hr.at_ with h0 | ⟨b', o', e', _, hcc⟩
    · omega
    · cases e'
      rw [hcc m (by omega), hlast]
  have hkl : kb < Z.heap.size := by
    rcases hr.at_ with h0 | ⟨b', o', e', hlt, _⟩
    · omega
    · cases e'; exact hlt
  have c0 : (w.alloc (.cells #[.int .i64 k, .int .i64 xn, .int .i64 xm, .string xs, .slice s1 n1 c1, .slice (some ⟨kb, ko, none⟩) (m + 1) c2] 47)).cell? ⟨kb, ko + m, none⟩ = some (.int .i64 (last : Nat)) := ((h.below ((Below.refl _ _).alloc (Nat.le_refl _) _)).low.cell (p := ⟨kb, ko + m, none⟩) hkl).trans q0
  have hsub : ((m + 1 : Nat) : Int) - 1 = (m : Nat) := by omega
  have hsub' : (m : Int) + 1 - 1 = (m : Nat) := by omega
  have hx1 : (m : Int) < (m : Int) + 1 := by omega
  have hx2 : (1 : Int) ≤ (c2 : Int) := by omega
  have hx3 : (m : Int) ≤ (c2 : Int) := by omega
  have hx4 : (m : Int) + 1 ≤ (c2 : Int) := by omega
  have hx5 : (m : Int) < ((m + 1 : Nat) : Int) := by omega
  have HL := hide hl
  have HQ1 := hide hq
  clear hl
  have HB0 := hide (SB.new h (.int .i64 k) (.int .i64 xn) (.int .i64 xm) (.string xs) (.slice s1 n1 c1) (.slice (some ⟨kb, ko, none⟩) (m + 1) c2))
  clear h hq hr hlast q0 hkl
  subst hk
  go_enter Tryz.func80, Tryz.ntmps80
  go_wp2_with (first | (go_at_call 79; refine ((unhide HB0).call (unhide HL) (unhide HQ1)).mono ?_; rintro e w1 ⟨⟨v1, rfl⟩, g1, gc1, hb1⟩; obtain ⟨e0, e1, e2, e3, e4, e5⟩ := hb1.box.all; have HB1 := hide hb1; have hlt1 := hb1.box.lt; clear hb1 HB0))
  (try simp only [Exit.inBlock, Exit.then])
  refine bodyPost_ret (results_none rfl _ _ _) rfl ?_
  exact ⟨⟨_, rfl⟩, (unhide HB1).done⟩

set_option maxRecDepth 20000 in
set_option maxHeartbeats 8000000 in
theorem says_stmt23 (Z : World) (p : Nat) (a : Option Addr) (n cap : Nat) (k xn xm : Int) (hk : k = 23) (xs : ByteArray) (s1 : Option Addr) (n1 c1 kb ko m c2 : Nat) (kids : List Int) (hr : Row Z (some ⟨kb, ko, none⟩) (m + 1) kids) (hc : m + 1 ≤ c2) (last : Nat) (hlast : kids.getD m 0 = (last : Nat)) (G : Nat → List UInt8 × Bool → List UInt8 × Bool) (hn : SaysP Z p a n cap 34 #[.pointer (some ⟨p, 0, none⟩), .int .i64 (last : Nat)] (G last)) (hm : ∀ st, lenP st ≤ lenP (G last st)) (F : List UInt8 × Bool → List UInt8 × Bool) (hR : SaysP Z p a n cap 76 #[.pointer (some ⟨p, 0, none⟩), .slice (some ⟨kb, ko, none⟩) 1 c2, .string ⟨#[40]⟩, .string ⟨#[]⟩, .string ⟨#[41]⟩] F) :
    SaysP Z p a n cap 80 #[.pointer (some ⟨p, 0, none⟩), .agg #[.int .i64 k, .int .i64 xn, .int .i64 xm, .string xs, .slice s1 n1 c1, .slice (some ⟨kb, ko, none⟩) (m + 1) c2]] (fun st => G last (sayS looksD (F st) 8592)) := by
  intro w g gc st h hq
  have hsm := hr.small
  have q0 : Z.cell? ⟨kb, ko + m, none⟩ = some (.int .i64 (last : Nat)) := by
    rcases hr.at_ with h0 | ⟨b', o', e', _, hcc⟩
    · omega
    · cases e'
      rw [hcc m (by omega), hlast]
  have hkl : kb < Z.heap.size := by
    rcases hr.at_ with h0 | ⟨b', o', e', hlt, _⟩
    · omega
    · cases e'; exact hlt
  have c0 : (w.alloc (.cells #[.int .i64 k, .int .i64 xn, .int .i64 xm, .string xs, .slice s1 n1 c1, .slice (some ⟨kb, ko, none⟩) (m + 1) c2] 47)).cell? ⟨kb, ko + m, none⟩ = some (.int .i64 (last : Nat)) := ((h.below ((Below.refl _ _).alloc (Nat.le_refl _) _)).low.cell (p := ⟨kb, ko + m, none⟩) hkl).trans q0
  have hsub : ((m + 1 : Nat) : Int) - 1 = (m : Nat) := by omega
  have hsub' : (m : Int) + 1 - 1 = (m : Nat) := by omega
  have hx1 : (m : Int) < (m : Int) + 1 := by omega
  have hx2 : (1 : Int) ≤ (c2 : Int) := by omega
  have hx3 : (m : Int) ≤ (c2 : Int) := by omega
  have hx4 : (m : Int) + 1 ≤ (c2 : Int) := by omega
  have hx5 : (m : Int) < ((m + 1 : Nat) : Int) := by omega
  have HA := hide (says_sign Z p a n cap ⟨#[226, 134, 144]⟩ 8592 (by kernel_rfl))
  have HN := hide hn
  have HR := hide hR
  have hq3 : lenP (G last (sayS looksD (F st) 8592)) ≤ mostP := hq
  have hq2 : lenP (sayS looksD (F st) 8592) ≤ mostP := Nat.le_trans (hm _) hq3
  have hq1 : lenP (F st) ≤ mostP := Nat.le_trans ((say_len _ _ _).1) hq2
  have HQ1 := hide hq1
  have HQ2 := hide hq2
  have HQ3 := hide hq3
  clear hq1 hq2 hq3
  clear hn hm hR
  have HB0 := hide (SB.new h (.int .i64 k) (.int .i64 xn) (.int .i64 xm) (.string xs) (.slice s1 n1 c1) (.slice (some ⟨kb, ko, none⟩) (m + 1) c2))
  clear h hq hr hlast q0 hkl
  subst hk
  go_enter Tryz.func80, Tryz.ntmps80
  go_wp2_with (first | (go_at_call 76; refine ((unhide HB0).call (unhide HR) (unhide HQ1)).mono ?_; rintro e w1 ⟨⟨v1, rfl⟩, g1, gc1, hb1⟩; obtain ⟨e0, e1, e2, e3, e4, e5⟩ := hb1.box.all; have HB1 := hide hb1; have hlt1 := hb1.box.lt; clear hb1 HB0) | (go_at_call 72; refine ((unhide HB1).call (unhide HA) (unhide HQ2)).mono ?_; rintro e w2 ⟨⟨v2, rfl⟩, g2, gc2, hb2⟩; obtain ⟨e0, e1, e2, e3, e4, e5⟩ := hb2.box.all; have HB2 := hide hb2; have hlt2 := hb2.box.lt; clear hb2 HB1) | (go_at_call 34; refine ((unhide HB2).call (unhide HN) (unhide HQ3)).mono ?_; rintro e w3 ⟨⟨v3, rfl⟩, g3, gc3, hb3⟩; obtain ⟨e0, e1, e2, e3, e4, e5⟩ := hb3.box.all; have HB3 := hide hb3; have hlt3 := hb3.box.lt; clear hb3 HB2))
  go_end0
  exact ⟨⟨_, rfl⟩, (unhide HB3).done⟩

set_option maxRecDepth 20000 in
set_option maxHeartbeats 8000000 in
theorem says_stmt21 (Z : World) (p : Nat) (a : Option Addr) (n cap : Nat) (k xn xm : Int) (hk : k = 21) (xs : ByteArray) (s1 : Option Addr) (n1 c1 kb ko m c2 : Nat) (kids : List Int) (hr : Row Z (some ⟨kb, ko, none⟩) (m + 1) kids) (hc : m + 1 ≤ c2) (last : Nat) (hlast : kids.getD m 0 = (last : Nat)) (G : Nat → List UInt8 × Bool → List UInt8 × Bool) (hn : SaysP Z p a n cap 34 #[.pointer (some ⟨p, 0, none⟩), .int .i64 (last : Nat)] (G last)) (hm : ∀ st, lenP st ≤ lenP (G last st)) (F : List UInt8 × Bool → List UInt8 × Bool) (hR : SaysP Z p a n cap 76 #[.pointer (some ⟨p, 0, none⟩), .slice (some ⟨kb, ko, none⟩) m c2, .string ⟨#[91]⟩, .string ⟨#[59]⟩, .string ⟨#[93]⟩] F) (hF : ∀ st, lenP st ≤ lenP (F st)) :
    SaysP Z p a n cap 80 #[.pointer (some ⟨p, 0, none⟩), .agg #[.int .i64 k, .int .i64 xn, .int .i64 xm, .string xs, .slice s1 n1 c1, .slice (some ⟨kb, ko, none⟩) (m + 1) c2]] (fun st => G last (sayS looksD (F (sayP st xs.data.toList true)) 8592)) := by
  intro w g gc st h hq
  have hsm := hr.small
  have q0 : Z.cell? ⟨kb, ko + m, none⟩ = some (.int .i64 (last : Nat)) := by
    rcases hr.at_ with h0 | ⟨b', o', e', _, hcc⟩
    · omega
    · cases e'
      rw [hcc m (by omega), hlast]
  have hkl : kb < Z.heap.size := by
    rcases hr.at_ with h0 | ⟨b', o', e', hlt, _⟩
    · omega
    · cases e'; exact hlt
  have c0 : (w.alloc (.cells #[.int .i64 k, .int .i64 xn, .int .i64 xm, .string xs, .slice s1 n1 c1, .slice (some ⟨kb, ko, none⟩) (m + 1) c2] 47)).cell? ⟨kb, ko + m, none⟩ = some (.int .i64 (last : Nat)) := ((h.below ((Below.refl _ _).alloc (Nat.le_refl _) _)).low.cell (p := ⟨kb, ko + m, none⟩) hkl).trans q0
  have hsub : ((m + 1 : Nat) : Int) - 1 = (m : Nat) := by omega
  have hsub' : (m : Int) + 1 - 1 = (m : Nat) := by omega
  have hx1 : (m : Int) < (m : Int) + 1 := by omega
  have hx2 : (1 : Int) ≤ (c2 : Int) := by omega
  have hx3 : (m : Int) ≤ (c2 : Int) := by omega
  have hx4 : (m : Int) + 1 ≤ (c2 : Int) := by omega
  have hx5 : (m : Int) < ((m + 1 : Nat) : Int) := by omega
  have HA := hide (says_sign Z p a n cap ⟨#[226, 134, 144]⟩ 8592 (by kernel_rfl))
  have HN := hide hn
  have HS := hide (says_say Z p a n cap xs true)
  have HR := hide hR
  have hq4 : lenP (G last (sayS looksD (F (sayP st xs.data.toList true)) 8592)) ≤ mostP := hq
  have hq3 : lenP (sayS looksD (F (sayP st xs.data.toList true)) 8592) ≤ mostP := Nat.le_trans (hm _) hq4
  have hq2 : lenP (F (sayP st xs.data.toList true)) ≤ mostP := Nat.le_trans ((say_len _ _ _).1) hq3
  have hq1 : lenP (sayP st xs.data.toList true) ≤ mostP := Nat.le_trans (hF _) hq2
  have HQ1 := hide hq1
  have HQ2 := hide hq2
  have HQ3 := hide hq3
  have HQ4 := hide hq4
  clear hq1 hq2 hq3 hq4
  clear hn hm hR hF
  have HB0 := hide (SB.new h (.int .i64 k) (.int .i64 xn) (.int .i64 xm) (.string xs) (.slice s1 n1 c1) (.slice (some ⟨kb, ko, none⟩) (m + 1) c2))
  clear h hq hr hlast q0 hkl
  subst hk
  go_enter Tryz.func80, Tryz.ntmps80
  go_wp2_with (first | (go_at_call 72; refine ((unhide HB0).call (unhide HS) (unhide HQ1)).mono ?_; rintro e w1 ⟨⟨v1, rfl⟩, g1, gc1, hb1⟩; obtain ⟨e0, e1, e2, e3, e4, e5⟩ := hb1.box.all; have HB1 := hide hb1; have hlt1 := hb1.box.lt; clear hb1 HB0) | (go_at_call 76; refine ((unhide HB1).call (unhide HR) (unhide HQ2)).mono ?_; rintro e w2 ⟨⟨v2, rfl⟩, g2, gc2, hb2⟩; obtain ⟨e0, e1, e2, e3, e4, e5⟩ := hb2.box.all; have HB2 := hide hb2; have hlt2 := hb2.box.lt; clear hb2 HB1) | (go_at_call 72; refine ((unhide HB2).call (unhide HA) (unhide HQ3)).mono ?_; rintro e w3 ⟨⟨v3, rfl⟩, g3, gc3, hb3⟩; obtain ⟨e0, e1, e2, e3, e4, e5⟩ := hb3.box.all; have HB3 := hide hb3; have hlt3 := hb3.box.lt; clear hb3 HB2) | (go_at_call 34; refine ((unhide HB3).call (unhide HN) (unhide HQ4)).mono ?_; rintro e w4 ⟨⟨v4, rfl⟩, g4, gc4, hb4⟩; obtain ⟨e0, e1, e2, e3, e4, e5⟩ := hb4.box.all; have HB4 := hide hb4; have hlt4 := hb4.box.lt; clear hb4 HB3))
  go_end0
  exact ⟨⟨_, rfl⟩, (unhide HB4).done⟩

end Go.Proofs.YtinndpnilmmmjaaGreatDoor
namespace Go.Proofs.YtinndpnilmmmjaaGreatDoor
open Go.RowKit

set_option maxRecDepth 20000 in
set_option maxHeartbeats 8000000 in
theorem says_stmt22 (Z : World) (p : Nat) (a : Option Addr) (n cap : Nat) (k xn xm : Int) (hk : k = 22) (xs : ByteArray) (s1 : Option Addr) (n1 c1 kb ko m c2 : Nat) (kids : List Int) (hr : Row Z (some ⟨kb, ko, none⟩) (m + 1) kids) (hc : m + 1 ≤ c2) (last : Nat) (hlast : kids.getD m 0 = (last : Nat)) (G : Nat → List UInt8 × Bool → List UInt8 × Bool) (hn : SaysP Z p a n cap 34 #[.pointer (some ⟨p, 0, none⟩), .int .i64 (last : Nat)] (G last)) (hm : ∀ st, lenP st ≤ lenP (G last st)) (r : Nat) (hr33 : r < 33) (hrn : xn = (r : Int) + 1) :
    SaysP Z p a n cap 80 #[.pointer (some ⟨p, 0, none⟩), .agg #[.int .i64 k, .int .i64 xn, .int .i64 xm, .string xs, .slice s1 n1 c1, .slice (some ⟨kb, ko, none⟩) (m + 1) c2]] (fun st => G last (sayS looksD (sayP (sayP st xs.data.toList true) (primT r).data.toList false) 8592)) := by
  intro w g gc st h hq
  have hsm := hr.small
  have q0 : Z.cell? ⟨kb, ko + m, none⟩ = some (.int .i64 (last : Nat)) := by
    rcases hr.at_ with h0 | ⟨b', o', e', _, hcc⟩
    · omega
    · cases e'
      rw [hcc m (by omega), hlast]
  have hkl : kb < Z.heap.size := by
    rcases hr.at_ with h0 | ⟨b', o', e', hlt, _⟩
    · omega
    · cases e'; exact hlt
  have c0 : (w.alloc (.cells #[.int .i64 k, .int .i64 xn, .int .i64 xm, .string xs, .slice s1 n1 c1, .slice (some ⟨kb, ko, none⟩) (m + 1) c2] 47)).cell? ⟨kb, ko + m, none⟩ = some (.int .i64 (last : Nat)) := ((h.below ((Below.refl _ _).alloc (Nat.le_refl _) _)).low.cell (p := ⟨kb, ko + m, none⟩) hkl).trans q0
  have hsub : ((m + 1 : Nat) : Int) - 1 = (m : Nat) := by omega
  have hsub' : (m : Int) + 1 - 1 = (m : Nat) := by omega
  have hx1 : (m : Int) < (m : Int) + 1 := by omega
  have hx2 : (1 : Int) ≤ (c2 : Int) := by omega
  have hx3 : (m : Int) ≤ (c2 : Int) := by omega
  have hx4 : (m : Int) + 1 ≤ (c2 : Int) := by omega
  have hx5 : (m : Int) < ((m + 1 : Nat) : Int) := by omega
  have HA := hide (says_sign Z p a n cap ⟨#[226, 134, 144]⟩ 8592 (by kernel_rfl))
  have HN := hide hn
  have HS := hide (says_say Z p a n cap xs true)
  have HP := hide (says_say Z p a n cap (primT r) false)
  have hlen := primTs_len
  have hsubr : (r : Int) + 1 - 1 = (r : Int) := by omega
  have hwr : IntKind.i64.wrap ((r : Int) + 1 - 1) = (r : Int) := by rw [IntKind.wrap_i64]; omega
  have hwr2 : IntKind.i64.wrap (r : Int) = (r : Int) := by rw [IntKind.wrap_i64]; omega
  have hr0i : (0 : Int) ≤ (r : Int) := by omega
  have hr33i : (r : Int) < 33 := by omega
  have hr33l : (r : Int) < (primTs.length : Int) := by rw [hlen]; omega
  subst hrn
  have hq4 : lenP (G last (sayS looksD (sayP (sayP st xs.data.toList true) (primT r).data.toList false) 8592)) ≤ mostP := hq
  have hq3 : lenP (sayS looksD (sayP (sayP st xs.data.toList true) (primT r).data.toList false) 8592) ≤ mostP := Nat.le_trans (hm _) hq4
  have hq2 : lenP (sayP (sayP st xs.data.toList true) (primT r).data.toList false) ≤ mostP := Nat.le_trans ((say_len _ _ _).1) hq3
  have hq1 : lenP (sayP st xs.data.toList true) ≤ mostP := Nat.le_trans ((say_len _ _ _).1) hq2
  have HQ1 := hide hq1
  have HQ2 := hide hq2
  have HQ3 := hide hq3
  have HQ4 := hide hq4
  clear hq1 hq2 hq3 hq4
  clear hn hm
  have HB0 := hide (SB.new h (.int .i64 k) (.int .i64 ((r : Int) + 1)) (.int .i64 xm) (.string xs) (.slice s1 n1 c1) (.slice (some ⟨kb, ko, none⟩) (m + 1) c2))
  clear h hq hr hlast q0 hkl
  subst hk
  go_enter Tryz.func80, Tryz.ntmps80
  go_wp2_with (go_at_call 72; refine ((unhide HB0).call (unhide HS) (unhide HQ1)).mono ?_; rintro e w1 ⟨⟨v1, rfl⟩, g1, gc1, hb1⟩; obtain ⟨e0, e1, e2, e3, e4, e5⟩ := hb1.box.all; have HB1 := hide hb1; have hlt1 := hb1.box.lt; clear hb1 HB0)
  have HKEEP : Hid (∀ wx, Below w1.heap.size w1 wx → wx.cell? ⟨w.heap.size, 1, none⟩ = some (.int .i64 ((r : Int) + 1))) := fun wx hb => ((unhide HB1).below hb).box.all.2.1
  go_region_with (first | (go_at_call 122; refine (l2Prims_any _).mono ?_; rintro e w5 ⟨pg, pc, rfl, hr, hb⟩; simp only [hlen]; have hpq := prims_at hr hr33; have HB5 : Hid (Below w1.heap.size w1 w5) := (Below.refl _ _).drew.trans hb; have k1 := unhide HKEEP _ (unhide HB5); clear hr hb) | (go_at_call 72; refine ((unhide HB1).callB (unhide HB5) (unhide HP) (unhide HQ2)).mono ?_; rintro e w2 ⟨⟨v2, rfl⟩, g2, gc2, hb2⟩; obtain ⟨e0, e1, e2, e3, e4, e5⟩ := hb2.box.all; have HB2 := hide hb2; have hlt2 := hb2.box.lt; clear hb2 HB1))
  all_goals go_wp2_with (first | (go_at_call 72; refine ((unhide HB2).call (unhide HA) (unhide HQ3)).mono ?_; rintro e w3 ⟨⟨v3, rfl⟩, g3, gc3, hb3⟩; obtain ⟨e0, e1, e2, e3, e4, e5⟩ := hb3.box.all; have HB3 := hide hb3; have hlt3 := hb3.box.lt; clear hb3 HB2) | (go_at_call 34; refine ((unhide HB3).call (unhide HN) (unhide HQ4)).mono ?_; rintro e w4 ⟨⟨v4, rfl⟩, g4, gc4, hb4⟩; obtain ⟨e0, e1, e2, e3, e4, e5⟩ := hb4.box.all; have HB4 := hide hb4; have hlt4 := hb4.box.lt; clear hb4 HB3))
  all_goals go_end0
  all_goals exact ⟨⟨_, rfl⟩, (unhide HB4).done⟩

end Go.Proofs.YtinndpnilmmmjaaGreatDoor
namespace Go.Proofs.YtinndpnilmmmjaaGreatDoor
open Go

/-- How many kids a kind has. -/
theorem kids_cnt {k : Int} {ks : List Int} (h : kidsB k ks = true) : (k = 7 → 2 ≤ ks.length) ∧ (k = 9 → ks.length = 2) ∧ (k = 10 → ks.length = 3) ∧ (k = 19 ∨ k = 20 ∨ k = 22 → ks.length = 1) ∧ (k = 21 → 2 ≤ ks.length) ∧ (k = 23 ∨ k = 24 → ks.length = 2) := by
  refine ⟨fun e => ?_, fun e => ?_, fun e => ?_, fun e => ?_, fun e => ?_, fun e => ?_⟩
  · subst e
    unfold kidsB at h
    rw [if_pos rfl, Bool.and_eq_true, decide_eq_true_eq] at h
    omega
  · subst e
    have h' : fits [102, 101] ks = true := h
    rw [kfit2, Bool.and_eq_true, decide_eq_true_eq] at h'
    omega
  · subst e
    have h' : fits [101, 102, 101] ks = true := h
    rw [kfit3, Bool.and_eq_true, decide_eq_true_eq] at h'
    omega
  · rcases e with rfl | rfl | rfl
    · have h' : fits [101] ks = true := h
      rw [kfit1, Bool.and_eq_true, decide_eq_true_eq] at h'
      omega
    · have h' : fits [98] ks = true := h
      rw [kfit1, Bool.and_eq_true, decide_eq_true_eq] at h'
      omega
    · have h' : fits [101] ks = true := h
      rw [kfit1, Bool.and_eq_true, decide_eq_true_eq] at h'
      omega
  · subst e
    unfold kidsB at h
    rw [if_neg (by decide), if_pos rfl, Bool.and_eq_true, decide_eq_true_eq] at h
    omega
  · rcases e with rfl | rfl
    · have h' : fits [101, 101] ks = true := h
      rw [kfit2, Bool.and_eq_true, decide_eq_true_eq] at h'
      omega
    · have h' : fits [101, 101] ks = true := h
      rw [kfit2, Bool.and_eq_true, decide_eq_true_eq] at h'
      omega

theorem take_getD {zs : List Int} {m q : Nat} (h : q < m) : (zs.take m).getD q 0 = zs.getD q 0 := by simp [List.getD_eq_getElem?_getD, h]
theorem drop_getD (zs : List Int) (q : Nat) : (zs.drop 1).getD q 0 = zs.getD (q + 1) 0 := by simp [List.getD_eq_getElem?_getD]

end Go.Proofs.YtinndpnilmmmjaaGreatDoor
namespace Go.Proofs.YtinndpnilmmmjaaGreatDoor
open Go.RowKit

section
variable {Z : World} {p : Nat} {a : Option Addr} {n cap : Nat}

/-- The kids of a node, in a run: their row, and that each is written. -/
structure KidsP (Z : World) (p : Nat) (a : Option Addr) (n cap : Nat) (G : Nat → List UInt8 × Bool → List UInt8 × Bool) (x : NodeD) (s2 : Option Addr) (n2 c2 : Nat) : Prop where
  row : Row Z s2 n2 x.kids
  room : n2 ≤ c2
  pos : ∀ q, q < n2 → x.kids.getD q 0 = ((kidN x q : Nat) : Int)
  says : ∀ q, q < n2 → SaysP Z p a n cap 34 #[.pointer (some ⟨p, 0, none⟩), .int .i64 (kidN x q : Nat)] (G (kidN x q))
  mono : ∀ q, q < n2 → ∀ st, lenP st ≤ lenP (G (kidN x q) st)

theorem KidsP.list {G : Nat → List UInt8 × Bool → List UInt8 × Bool} {x : NodeD} {s2 : Option Addr} {n2 c2 : Nat} (h : KidsP Z p a n cap G x s2 n2 c2) (c : Nat) (sg : ByteArray) (hsg : sg.data.toList = looksD.sg c) :
    SaysP Z p a n cap 79 #[.pointer (some ⟨p, 0, none⟩), .slice s2 n2 c2, .string sg] (listP looksD G c x.kids x.kids.length) := by
  have hl := h.row.len
  rw [hl]
  exact says_list Z p a n cap looksD G c sg s2 n2 c2 (fun _ => hsg) x.kids h.row (fun q hq => h.pos q hq) (fun q hq => h.says q hq) (fun q hq => h.mono q hq)

theorem list_mono0 {G : Nat → List UInt8 × Bool → List UInt8 × Bool} {c : Nat} {zs : List Int} {m : Nat} (hm : ∀ q, q < m → ∀ st, lenP st ≤ lenP (G (zs.getD q 0).toNat st)) (st : List UInt8 × Bool) : lenP st ≤ lenP (listP looksD G c zs m st) := by
  have := list_mono looksD G c zs st hm m 0 (by omega)
  exact this

theorem KidsP.listTo {G : Nat → List UInt8 × Bool → List UInt8 × Bool} {x : NodeD} {kb ko n2 c2 : Nat} (h : KidsP Z p a n cap G x (some ⟨kb, ko, none⟩) n2 c2) (m : Nat) (hm : m ≤ n2) (c : Nat) (sg : ByteArray) (hsg : 1 < m → sg.data.toList = looksD.sg c) (d : Nat) :
    SaysP Z p a n cap 79 #[.pointer (some ⟨p, 0, none⟩), .slice (some ⟨kb, ko, none⟩) m d, .string sg] (listP looksD G c (x.kids.take m) m) ∧ (∀ st, lenP st ≤ lenP (listP looksD G c (x.kids.take m) m st)) := by
  have hm2 : ∀ q, q < m → ∀ st, lenP st ≤ lenP (G ((x.kids.take m).getD q 0).toNat st) := fun q hq => by rw [take_getD hq]; exact h.mono q (by omega)
  refine ⟨says_list Z p a n cap looksD G c sg (some ⟨kb, ko, none⟩) m d hsg (x.kids.take m) (h.row.cutTo hm) (fun q hq => ?_) (fun q hq => ?_) hm2, list_mono0 hm2⟩
  · rw [take_getD hq]; exact h.pos q (by omega)
  · rw [take_getD hq]; exact h.says q (by omega)

theorem KidsP.listFrom {G : Nat → List UInt8 × Bool → List UInt8 × Bool} {x : NodeD} {kb ko m c2 : Nat} (h : KidsP Z p a n cap G x (some ⟨kb, ko, none⟩) (m + 1) c2) (c : Nat) (sg : ByteArray) (hsg : sg.data.toList = looksD.sg c) (d : Nat) :
    SaysP Z p a n cap 79 #[.pointer (some ⟨p, 0, none⟩), .slice (some ⟨kb, ko + 1, none⟩) m d, .string sg] (listP looksD G c (x.kids.drop 1) m) ∧ (∀ st, lenP st ≤ lenP (listP looksD G c (x.kids.drop 1) m st)) := by
  have hm2 : ∀ q, q < m → ∀ st, lenP st ≤ lenP (G ((x.kids.drop 1).getD q 0).toNat st) := fun q hq => by rw [drop_getD]; exact h.mono (q + 1) (by omega)
  refine ⟨says_list Z p a n cap looksD G c sg (some ⟨kb, ko + 1, none⟩) m d (fun _ => hsg) (x.kids.drop 1) h.row.cut1 (fun q hq => ?_) (fun q hq => ?_) hm2, list_mono0 hm2⟩
  · rw [drop_getD]; exact h.pos (q + 1) (by omega)
  · rw [drop_getD]; exact h.says (q + 1) (by omega)

theorem sg_40 : (⟨#[40]⟩ : ByteArray).data.toList = looksD.sg 40 := by kernel_rfl
theorem sg_41 : (⟨#[41]⟩ : ByteArray).data.toList = looksD.sg 41 := by kernel_rfl
theorem sg_91 : (⟨#[91]⟩ : ByteArray).data.toList = looksD.sg 91 := by kernel_rfl
theorem sg_93 : (⟨#[93]⟩ : ByteArray).data.toList = looksD.sg 93 := by kernel_rfl
theorem sg_59 : (⟨#[59]⟩ : ByteArray).data.toList = looksD.sg 59 := by kernel_rfl
theorem sg_58 : (⟨#[58]⟩ : ByteArray).data.toList = looksD.sg 58 := by kernel_rfl
theorem sg_123 : (⟨#[123]⟩ : ByteArray).data.toList = looksD.sg 123 := by kernel_rfl
theorem sg_125 : (⟨#[125]⟩ : ByteArray).data.toList = looksD.sg 125 := by kernel_rfl
theorem sg_8900 : (⟨#[226, 139, 132]⟩ : ByteArray).data.toList = looksD.sg 8900 := by kernel_rfl

theorem says_stmt (ns : List NodeD) (G : Nat → List UInt8 × Bool → List UInt8 × Bool) (T : ByteArray → Bool) (x : NodeD) (hk : 19 ≤ x.k ∧ x.k ≤ 24) (hf : fieldsS T x = true) (hkb : kidsB x.k (kinds ns x.kids) = true) (s1 s2 : Option Addr) (n1 c1 n2 c2 : Nat) (h : KidsP Z p a n cap G x s2 n2 c2) :
    SaysP Z p a n cap 80 #[.pointer (some ⟨p, 0, none⟩), .agg #[.int .i64 x.k, .int .i64 x.n, .int .i64 x.m, .string x.s, .slice s1 n1 c1, .slice s2 n2 c2]] (nodeP looksD ns G x) := by
  obtain ⟨⟨hN, hM⟩, -, -⟩ := fields_at hf
  clear hf hM
  have hl := h.row.len
  have hcn := kids_cnt hkb
  rw [kinds_len, hl] at hcn
  have hpos : 0 < n2 := by omega
  obtain ⟨kb, ko, rfl, _, _⟩ := h.row.get hpos
  obtain ⟨m, rfl⟩ : ∃ m, n2 = m + 1 := ⟨n2 - 1, by omega⟩
  have hlast := h.pos m (by omega)
  have hm1 : x.kids.length - 1 = m := by omega
  have hsn := h.says m (by omega)
  have hmn := h.mono m (by omega)
  have hcases : x.k = 19 ∨ x.k = 20 ∨ x.k = 21 ∨ x.k = 22 ∨ x.k = 23 ∨ x.k = 24 := by omega
  have hr := h.row
  have hc := h.room
  have e19 : x.k = 19 ∨ x.k = 20 → ∀ st, nodeP looksD ns G x st = G (kidN x m) (sayS looksD (sayP st x.s.data.toList true) 8592) := fun e st => by
    unfold nodeP
    rcases e with e | e <;> simp [e, hm1]
  rcases hcases with e | e | e | e | e | e
  · exact says_congr (says_stmt19 Z p a n cap x.k x.n x.m (.inl e) x.s s1 n1 c1 kb ko m c2 x.kids hr hc (kidN x m) hlast G hsn hmn) (e19 (.inl e))
  · exact says_congr (says_stmt19 Z p a n cap x.k x.n x.m (.inr e) x.s s1 n1 c1 kb ko m c2 x.kids hr hc (kidN x m) hlast G hsn hmn) (e19 (.inr e))
  · obtain ⟨hL, hLm⟩ := h.listTo m (by omega) 59 ⟨#[59]⟩ (fun _ => sg_59) c2
    have hR := says_round Z p a n cap looksD G 59 91 93 ⟨#[59]⟩ ⟨#[91]⟩ ⟨#[93]⟩ sg_91 sg_93 (some ⟨kb, ko, none⟩) m c2 (x.kids.take m) hL hLm
    refine says_congr (says_stmt21 Z p a n cap x.k x.n x.m e x.s s1 n1 c1 kb ko m c2 x.kids hr hc (kidN x m) hlast G hsn hmn _ hR (fun st => ?_)) (fun st => ?_)
    · exact Nat.le_trans (Nat.le_trans (say_len _ _ _).1 (hLm _)) (say_len _ _ _).1
    · unfold nodeP
      simp [e, hm1]
  · have h1 : 1 ≤ x.n ∧ x.n ≤ 16 := by simpa [okN, isSc, e] using hN
    obtain ⟨r, hr1, hr2⟩ := prim_at h1.1
    refine says_congr (says_stmt22 Z p a n cap x.k x.n x.m e x.s s1 n1 c1 kb ko m c2 x.kids hr hc (kidN x m) hlast G hsn hmn r (by omega) hr1) (fun st => ?_)
    unfold nodeP
    simp [e, hm1, looks_prim, hr2]
  · obtain ⟨hL, hLm⟩ := h.listTo 1 (by omega) 0 ⟨#[]⟩ (fun hh => absurd hh (by omega)) c2
    have hR := says_round Z p a n cap looksD G 0 40 41 ⟨#[]⟩ ⟨#[40]⟩ ⟨#[41]⟩ sg_40 sg_41 (some ⟨kb, ko, none⟩) 1 c2 (x.kids.take 1) hL hLm
    refine says_congr (says_stmt23 Z p a n cap x.k x.n x.m e x.s s1 n1 c1 kb ko m c2 x.kids hr hc (kidN x m) hlast G hsn hmn _ hR) (fun st => ?_)
    have e0 : ∀ s, listP looksD G 0 (x.kids.take 1) 1 s = G (kidN x 0) s := fun s => by
      rw [listP, listP, if_neg (by omega), take_getD (by omega)]
      rfl
    show _ = G (kidN x m) (sayS looksD (sayS looksD (listP looksD G 0 (x.kids.take 1) 1 (sayS looksD st 40)) 41) 8592)
    rw [e0]
    unfold nodeP
    simp [e, hm1]
  · refine says_congr (says_stmt24 Z p a n cap x.k x.n x.m e x.s s1 n1 c1 kb ko m c2 x.kids hr hc (kidN x m) hlast _ (h.list 58 ⟨#[58]⟩ sg_58)) (fun st => ?_)
    unfold nodeP
    simp [e]

end
end Go.Proofs.YtinndpnilmmmjaaGreatDoor
