import Derived.Test.YtinndpnilmmmjaaGreatDoorMStm
namespace Go.Proofs.YtinndpnilmmmjaaGreatDoor
open Go.RowKit

/-- At cell o of block b lies this node. -/
def NodeIs (Z : World) (b o : Nat) (k xn xm : Int) (xs : ByteArray) (v4 v5 : Value) : Prop :=
  b < Z.heap.size ∧ Z.cell? ⟨b, o, none⟩ = some (.int .i64 k) ∧ Z.cell? ⟨b, o + 1, none⟩ = some (.int .i64 xn) ∧ Z.cell? ⟨b, o + 2, none⟩ = some (.int .i64 xm) ∧ Z.cell? ⟨b, o + 3, none⟩ = some (.string xs) ∧ Z.cell? ⟨b, o + 4, none⟩ = some v4 ∧ Z.cell? ⟨b, o + 5, none⟩ = some v5

set_option maxRecDepth 20000 in
set_option maxHeartbeats 8000000 in
theorem says_node3 (Z : World) (p b off n cap i : Nat) (hi : i < n) (k xn xm : Int) (xs : ByteArray) (s1 : Option Addr) (n1 c1 : Nat) (s2 : Option Addr) (n2 c2 : Nat) (hx : NodeIs Z b (off + i * 6) k xn xm xs (.slice s1 n1 c1) (.slice s2 n2 c2)) (hk : k = 3) :
    SaysP Z p (some ⟨b, off, none⟩) n cap 34 #[.pointer (some ⟨p, 0, none⟩), .int .i64 (i : Nat)] (fun st => sayP st xs.data.toList true) := by
  intro w g gc st h hq
  obtain ⟨hbl, x0, x1, x2, x3, x4, x5⟩ := hx
  have c0' := (h.low.cell (p := ⟨b, off + i * 6, none⟩) hbl).trans x0
  have c1' := (h.low.cell (p := ⟨b, off + i * 6 + 1, none⟩) hbl).trans x1
  have c2' := (h.low.cell (p := ⟨b, off + i * 6 + 2, none⟩) hbl).trans x2
  have c3' := (h.low.cell (p := ⟨b, off + i * 6 + 3, none⟩) hbl).trans x3
  have c4' := (h.low.cell (p := ⟨b, off + i * 6 + 4, none⟩) hbl).trans x4
  have c5' := (h.low.cell (p := ⟨b, off + i * 6 + 5, none⟩) hbl).trans x5
  obtain ⟨d0, d1, d2, f0, f1, f2⟩ := h.sw.all
  have hii : (i : Int) < (n : Int) := by omega
  have hbw : b < w.heap.size := Nat.lt_of_lt_of_le hbl h.low.size
  have hpw := h.sw.lt.1
  have HB0 := hide (SB.new h (.int .i64 k) (.int .i64 xn) (.int .i64 xm) (.string xs) (.slice s1 n1 c1) (.slice s2 n2 c2))
  have HS := hide (says_say Z p (some ⟨b, off, none⟩) n cap xs true)
  have HQ1 := hide hq
  clear h hq x0 x1 x2 x3 x4 x5
  subst hk
  go_enter Tryz.func34, Tryz.ntmps34
  go_wp2_with (go_at_call 72; refine ((unhide HB0).call (unhide HS) (unhide HQ1)).mono ?_; rintro e w1 ⟨⟨v1, rfl⟩, g1, gc1, hb1⟩; obtain ⟨e0, e1, e2, e3, e4, e5⟩ := hb1.box.all; have HB1 := hide hb1; have hlt1 := hb1.box.lt; clear hb1 HB0)
  go_end0
  exact ⟨⟨_, rfl⟩, (unhide HB1).done⟩

set_option maxRecDepth 20000 in
set_option maxHeartbeats 8000000 in
theorem says_node2 (Z : World) (p b off n cap i : Nat) (hi : i < n) (k xn xm : Int) (xs : ByteArray) (s1 : Option Addr) (n1 c1 : Nat) (s2 : Option Addr) (n2 c2 : Nat) (hx : NodeIs Z b (off + i * 6) k xn xm xs (.slice s1 n1 c1) (.slice s2 n2 c2)) (hk : k = 2) (hs : xs.size ≤ 1048576) :
    SaysP Z p (some ⟨b, off, none⟩) n cap 34 #[.pointer (some ⟨p, 0, none⟩), .int .i64 (i : Nat)] (fun st => sayP st (looksD.txt xs) false) := by
  intro w g gc st h hq
  obtain ⟨hbl, x0, x1, x2, x3, x4, x5⟩ := hx
  have c0' := (h.low.cell (p := ⟨b, off + i * 6, none⟩) hbl).trans x0
  have c1' := (h.low.cell (p := ⟨b, off + i * 6 + 1, none⟩) hbl).trans x1
  have c2' := (h.low.cell (p := ⟨b, off + i * 6 + 2, none⟩) hbl).trans x2
  have c3' := (h.low.cell (p := ⟨b, off + i * 6 + 3, none⟩) hbl).trans x3
  have c4' := (h.low.cell (p := ⟨b, off + i * 6 + 4, none⟩) hbl).trans x4
  have c5' := (h.low.cell (p := ⟨b, off + i * 6 + 5, none⟩) hbl).trans x5
  obtain ⟨d0, d1, d2, f0, f1, f2⟩ := h.sw.all
  have hii : (i : Int) < (n : Int) := by omega
  have hbw : b < w.heap.size := Nat.lt_of_lt_of_le hbl h.low.size
  have hpw := h.sw.lt.1
  have HB0 := hide (SB.new h (.int .i64 k) (.int .i64 xn) (.int .i64 xm) (.string xs) (.slice s1 n1 c1) (.slice s2 n2 c2))
  have HS := hide (says_congr (says_say Z p (some ⟨b, off, none⟩) n cap ⟨(quoteL xs.data.toList).toArray⟩ false) (F' := fun st => sayP st (looksD.txt xs) false) (fun st => by rw [looks_txt]))
  have HQ1 := hide hq
  clear h hq x0 x1 x2 x3 x4 x5
  subst hk
  go_enter Tryz.func34, Tryz.ntmps34
  go_wp2_with (first | (go_at_call 74; refine (l1Quote_any xs _ hs).mono ?_; rintro e w5 ⟨rfl, hb5⟩; have HB5 := hide hb5; clear hb5) | (go_at_call 72; refine ((unhide HB0).callB (unhide HB5) (unhide HS) (unhide HQ1)).mono ?_; rintro e w1 ⟨⟨v1, rfl⟩, g1, gc1, hb1⟩; obtain ⟨e0, e1, e2, e3, e4, e5⟩ := hb1.box.all; have HB1 := hide hb1; have hlt1 := hb1.box.lt; clear hb1 HB0))
  go_end0
  exact ⟨⟨_, rfl⟩, (unhide HB1).done⟩

set_option maxRecDepth 20000 in
set_option maxHeartbeats 8000000 in
theorem says_node4 (Z : World) (p b off n cap i : Nat) (hi : i < n) (k xn xm : Int) (xs : ByteArray) (s1 : Option Addr) (n1 c1 : Nat) (s2 : Option Addr) (n2 c2 : Nat) (hx : NodeIs Z b (off + i * 6) k xn xm xs (.slice s1 n1 c1) (.slice s2 n2 c2)) (hk : k = 4) :
    SaysP Z p (some ⟨b, off, none⟩) n cap 34 #[.pointer (some ⟨p, 0, none⟩), .int .i64 (i : Nat)] (fun st => sayS looksD st 9082) := by
  intro w g gc st h hq
  obtain ⟨hbl, x0, x1, x2, x3, x4, x5⟩ := hx
  have c0' := (h.low.cell (p := ⟨b, off + i * 6, none⟩) hbl).trans x0
  have c1' := (h.low.cell (p := ⟨b, off + i * 6 + 1, none⟩) hbl).trans x1
  have c2' := (h.low.cell (p := ⟨b, off + i * 6 + 2, none⟩) hbl).trans x2
  have c3' := (h.low.cell (p := ⟨b, off + i * 6 + 3, none⟩) hbl).trans x3
  have c4' := (h.low.cell (p := ⟨b, off + i * 6 + 4, none⟩) hbl).trans x4
  have c5' := (h.low.cell (p := ⟨b, off + i * 6 + 5, none⟩) hbl).trans x5
  obtain ⟨d0, d1, d2, f0, f1, f2⟩ := h.sw.all
  have hii : (i : Int) < (n : Int) := by omega
  have hbw : b < w.heap.size := Nat.lt_of_lt_of_le hbl h.low.size
  have hpw := h.sw.lt.1
  have HB0 := hide (SB.new h (.int .i64 k) (.int .i64 xn) (.int .i64 xm) (.string xs) (.slice s1 n1 c1) (.slice s2 n2 c2))
  have HS := hide (says_sign Z p (some ⟨b, off, none⟩) n cap ⟨#[226, 141, 186]⟩ 9082 (by kernel_rfl))
  have HQ1 := hide hq
  clear h hq x0 x1 x2 x3 x4 x5
  subst hk
  go_enter Tryz.func34, Tryz.ntmps34
  go_wp2_with (go_at_call 72; refine ((unhide HB0).callB ((Below.refl _ _).alloc (Nat.le_refl _) _) (unhide HS) (unhide HQ1)).mono ?_; rintro e w1 ⟨⟨v1, rfl⟩, g1, gc1, hb1⟩; obtain ⟨e0, e1, e2, e3, e4, e5⟩ := hb1.box.all; have HB1 := hide hb1; have hlt1 := hb1.box.lt; clear hb1 HB0)
  go_end0
  exact ⟨⟨_, rfl⟩, (unhide HB1).done⟩

set_option maxRecDepth 20000 in
set_option maxHeartbeats 8000000 in
theorem says_node5 (Z : World) (p b off n cap i : Nat) (hi : i < n) (k xn xm : Int) (xs : ByteArray) (s1 : Option Addr) (n1 c1 : Nat) (s2 : Option Addr) (n2 c2 : Nat) (hx : NodeIs Z b (off + i * 6) k xn xm xs (.slice s1 n1 c1) (.slice s2 n2 c2)) (hk : k = 5) :
    SaysP Z p (some ⟨b, off, none⟩) n cap 34 #[.pointer (some ⟨p, 0, none⟩), .int .i64 (i : Nat)] (fun st => sayS looksD st 9077) := by
  intro w g gc st h hq
  obtain ⟨hbl, x0, x1, x2, x3, x4, x5⟩ := hx
  have c0' := (h.low.cell (p := ⟨b, off + i * 6, none⟩) hbl).trans x0
  have c1' := (h.low.cell (p := ⟨b, off + i * 6 + 1, none⟩) hbl).trans x1
  have c2' := (h.low.cell (p := ⟨b, off + i * 6 + 2, none⟩) hbl).trans x2
  have c3' := (h.low.cell (p := ⟨b, off + i * 6 + 3, none⟩) hbl).trans x3
  have c4' := (h.low.cell (p := ⟨b, off + i * 6 + 4, none⟩) hbl).trans x4
  have c5' := (h.low.cell (p := ⟨b, off + i * 6 + 5, none⟩) hbl).trans x5
  obtain ⟨d0, d1, d2, f0, f1, f2⟩ := h.sw.all
  have hii : (i : Int) < (n : Int) := by omega
  have hbw : b < w.heap.size := Nat.lt_of_lt_of_le hbl h.low.size
  have hpw := h.sw.lt.1
  have HB0 := hide (SB.new h (.int .i64 k) (.int .i64 xn) (.int .i64 xm) (.string xs) (.slice s1 n1 c1) (.slice s2 n2 c2))
  have HS := hide (says_sign Z p (some ⟨b, off, none⟩) n cap ⟨#[226, 141, 181]⟩ 9077 (by kernel_rfl))
  have HQ1 := hide hq
  clear h hq x0 x1 x2 x3 x4 x5
  subst hk
  go_enter Tryz.func34, Tryz.ntmps34
  go_wp2_with (go_at_call 72; refine ((unhide HB0).callB ((Below.refl _ _).alloc (Nat.le_refl _) _) (unhide HS) (unhide HQ1)).mono ?_; rintro e w1 ⟨⟨v1, rfl⟩, g1, gc1, hb1⟩; obtain ⟨e0, e1, e2, e3, e4, e5⟩ := hb1.box.all; have HB1 := hide hb1; have hlt1 := hb1.box.lt; clear hb1 HB0)
  go_end0
  exact ⟨⟨_, rfl⟩, (unhide HB1).done⟩

set_option maxRecDepth 20000 in
set_option maxHeartbeats 8000000 in
theorem says_node6 (Z : World) (p b off n cap i : Nat) (hi : i < n) (k xn xm : Int) (xs : ByteArray) (s1 : Option Addr) (n1 c1 : Nat) (s2 : Option Addr) (n2 c2 : Nat) (hx : NodeIs Z b (off + i * 6) k xn xm xs (.slice s1 n1 c1) (.slice s2 n2 c2)) (hk : k = 6) :
    SaysP Z p (some ⟨b, off, none⟩) n cap 34 #[.pointer (some ⟨p, 0, none⟩), .int .i64 (i : Nat)] (fun st => sayS looksD st 9068) := by
  intro w g gc st h hq
  obtain ⟨hbl, x0, x1, x2, x3, x4, x5⟩ := hx
  have c0' := (h.low.cell (p := ⟨b, off + i * 6, none⟩) hbl).trans x0
  have c1' := (h.low.cell (p := ⟨b, off + i * 6 + 1, none⟩) hbl).trans x1
  have c2' := (h.low.cell (p := ⟨b, off + i * 6 + 2, none⟩) hbl).trans x2
  have c3' := (h.low.cell (p := ⟨b, off + i * 6 + 3, none⟩) hbl).trans x3
  have c4' := (h.low.cell (p := ⟨b, off + i * 6 + 4, none⟩) hbl).trans x4
  have c5' := (h.low.cell (p := ⟨b, off + i * 6 + 5, none⟩) hbl).trans x5
  obtain ⟨d0, d1, d2, f0, f1, f2⟩ := h.sw.all
  have hii : (i : Int) < (n : Int) := by omega
  have hbw : b < w.heap.size := Nat.lt_of_lt_of_le hbl h.low.size
  have hpw := h.sw.lt.1
  have HB0 := hide (SB.new h (.int .i64 k) (.int .i64 xn) (.int .i64 xm) (.string xs) (.slice s1 n1 c1) (.slice s2 n2 c2))
  have HS := hide (says_sign Z p (some ⟨b, off, none⟩) n cap ⟨#[226, 141, 172]⟩ 9068 (by kernel_rfl))
  have HQ1 := hide hq
  clear h hq x0 x1 x2 x3 x4 x5
  subst hk
  go_enter Tryz.func34, Tryz.ntmps34
  go_wp2_with (go_at_call 72; refine ((unhide HB0).callB ((Below.refl _ _).alloc (Nat.le_refl _) _) (unhide HS) (unhide HQ1)).mono ?_; rintro e w1 ⟨⟨v1, rfl⟩, g1, gc1, hb1⟩; obtain ⟨e0, e1, e2, e3, e4, e5⟩ := hb1.box.all; have HB1 := hide hb1; have hlt1 := hb1.box.lt; clear hb1 HB0)
  go_end0
  exact ⟨⟨_, rfl⟩, (unhide HB1).done⟩

set_option maxRecDepth 20000 in
set_option maxHeartbeats 8000000 in
theorem says_node8 (Z : World) (p b off n cap i : Nat) (hi : i < n) (k xn xm : Int) (xs : ByteArray) (s1 : Option Addr) (n1 c1 : Nat) (s2 : Option Addr) (n2 c2 : Nat) (hx : NodeIs Z b (off + i * 6) k xn xm xs (.slice s1 n1 c1) (.slice s2 n2 c2)) (hk : k = 8) :
    SaysP Z p (some ⟨b, off, none⟩) n cap 34 #[.pointer (some ⟨p, 0, none⟩), .int .i64 (i : Nat)] (fun st => st) := by
  intro w g gc st h hq
  obtain ⟨hbl, x0, x1, x2, x3, x4, x5⟩ := hx
  have c0' := (h.low.cell (p := ⟨b, off + i * 6, none⟩) hbl).trans x0
  have c1' := (h.low.cell (p := ⟨b, off + i * 6 + 1, none⟩) hbl).trans x1
  have c2' := (h.low.cell (p := ⟨b, off + i * 6 + 2, none⟩) hbl).trans x2
  have c3' := (h.low.cell (p := ⟨b, off + i * 6 + 3, none⟩) hbl).trans x3
  have c4' := (h.low.cell (p := ⟨b, off + i * 6 + 4, none⟩) hbl).trans x4
  have c5' := (h.low.cell (p := ⟨b, off + i * 6 + 5, none⟩) hbl).trans x5
  obtain ⟨d0, d1, d2, f0, f1, f2⟩ := h.sw.all
  have hii : (i : Int) < (n : Int) := by omega
  have hbw : b < w.heap.size := Nat.lt_of_lt_of_le hbl h.low.size
  have hpw := h.sw.lt.1
  have HB0 := hide (SB.new h (.int .i64 k) (.int .i64 xn) (.int .i64 xm) (.string xs) (.slice s1 n1 c1) (.slice s2 n2 c2))
  clear h hq x0 x1 x2 x3 x4 x5
  subst hk
  go_enter Tryz.func34, Tryz.ntmps34
  go_wp2_with fail
  go_end0
  exact ⟨⟨_, rfl⟩, (unhide HB0).done⟩

set_option maxRecDepth 20000 in
set_option maxHeartbeats 8000000 in
theorem says_node25 (Z : World) (p b off n cap i : Nat) (hi : i < n) (k xn xm : Int) (xs : ByteArray) (s1 : Option Addr) (n1 c1 : Nat) (s2 : Option Addr) (n2 c2 : Nat) (hx : NodeIs Z b (off + i * 6) k xn xm xs (.slice s1 n1 c1) (.slice s2 n2 c2)) (hk : k = 25) (F : List UInt8 × Bool → List UInt8 × Bool) (hL : SaysP Z p (some ⟨b, off, none⟩) n cap 79 #[.pointer (some ⟨p, 0, none⟩), .slice s2 n2 c2, .string ⟨#[226, 139, 132]⟩] F) :
    SaysP Z p (some ⟨b, off, none⟩) n cap 34 #[.pointer (some ⟨p, 0, none⟩), .int .i64 (i : Nat)] (F) := by
  intro w g gc st h hq
  obtain ⟨hbl, x0, x1, x2, x3, x4, x5⟩ := hx
  have c0' := (h.low.cell (p := ⟨b, off + i * 6, none⟩) hbl).trans x0
  have c1' := (h.low.cell (p := ⟨b, off + i * 6 + 1, none⟩) hbl).trans x1
  have c2' := (h.low.cell (p := ⟨b, off + i * 6 + 2, none⟩) hbl).trans x2
  have c3' := (h.low.cell (p := ⟨b, off + i * 6 + 3, none⟩) hbl).trans x3
  have c4' := (h.low.cell (p := ⟨b, off + i * 6 + 4, none⟩) hbl).trans x4
  have c5' := (h.low.cell (p := ⟨b, off + i * 6 + 5, none⟩) hbl).trans x5
  obtain ⟨d0, d1, d2, f0, f1, f2⟩ := h.sw.all
  have hii : (i : Int) < (n : Int) := by omega
  have hbw : b < w.heap.size := Nat.lt_of_lt_of_le hbl h.low.size
  have hpw := h.sw.lt.1
  have HB0 := hide (SB.new h (.int .i64 k) (.int .i64 xn) (.int .i64 xm) (.string xs) (.slice s1 n1 c1) (.slice s2 n2 c2))
  have HL := hide hL
  have HQ1 := hide hq
  clear h hq x0 x1 x2 x3 x4 x5
  clear hL
  subst hk
  go_enter Tryz.func34, Tryz.ntmps34
  go_wp2_with (go_at_call 79; refine ((unhide HB0).call (unhide HL) (unhide HQ1)).mono ?_; rintro e w1 ⟨⟨v1, rfl⟩, g1, gc1, hb1⟩; obtain ⟨e0, e1, e2, e3, e4, e5⟩ := hb1.box.all; have HB1 := hide hb1; have hlt1 := hb1.box.lt; clear hb1 HB0)
  go_end0
  exact ⟨⟨_, rfl⟩, (unhide HB1).done⟩

set_option maxRecDepth 20000 in
set_option maxHeartbeats 8000000 in
theorem says_node7 (Z : World) (p b off n cap i : Nat) (hi : i < n) (k xn xm : Int) (xs : ByteArray) (s1 : Option Addr) (n1 c1 : Nat) (kb ko : Nat) (n2 c2 : Nat) (hx : NodeIs Z b (off + i * 6) k xn xm xs (.slice s1 n1 c1) (.slice (some ⟨kb, ko, none⟩) n2 c2)) (hk : k = 7) (m : Nat) (hm : n2 = m + 1) (hm1 : 1 ≤ m) (hc : n2 ≤ c2) (z : Nat) (hz : Z.cell? ⟨kb, ko, none⟩ = some (.int .i64 (z : Nat))) (hkb : kb < Z.heap.size) (F1 F2 : List UInt8 × Bool → List UInt8 × Bool) (hO : SaysP Z p (some ⟨b, off, none⟩) n cap 75 #[.pointer (some ⟨p, 0, none⟩), .int .i64 (z : Nat)] F1) (hR : SaysP Z p (some ⟨b, off, none⟩) n cap 76 #[.pointer (some ⟨p, 0, none⟩), .slice (some ⟨kb, ko + 1, none⟩) m (c2 - 1), .string ⟨#[91]⟩, .string ⟨#[59]⟩, .string ⟨#[93]⟩] F2) (h2 : ∀ st, lenP st ≤ lenP (F2 st)) :
    SaysP Z p (some ⟨b, off, none⟩) n cap 34 #[.pointer (some ⟨p, 0, none⟩), .int .i64 (i : Nat)] (fun st => F2 (F1 st)) := by
  intro w g gc st h hq
  obtain ⟨hbl, x0, x1, x2, x3, x4, x5⟩ := hx
  have c0' := (h.low.cell (p := ⟨b, off + i * 6, none⟩) hbl).trans x0
  have c1' := (h.low.cell (p := ⟨b, off + i * 6 + 1, none⟩) hbl).trans x1
  have c2' := (h.low.cell (p := ⟨b, off + i * 6 + 2, none⟩) hbl).trans x2
  have c3' := (h.low.cell (p := ⟨b, off + i * 6 + 3, none⟩) hbl).trans x3
  have c4' := (h.low.cell (p := ⟨b, off + i * 6 + 4, none⟩) hbl).trans x4
  have c5' := (h.low.cell (p := ⟨b, off + i * 6 + 5, none⟩) hbl).trans x5
  obtain ⟨d0, d1, d2, f0, f1, f2⟩ := h.sw.all
  have hii : (i : Int) < (n : Int) := by omega
  have hbw : b < w.heap.size := Nat.lt_of_lt_of_le hbl h.low.size
  have hpw := h.sw.lt.1
  have HB0 := hide (SB.new h (.int .i64 k) (.int .i64 xn) (.int .i64 xm) (.string xs) (.slice s1 n1 c1) (.slice (some ⟨kb, ko, none⟩) n2 c2))
  have HO := hide hO
  have HR := hide hR
  have hq2 : lenP (F2 (F1 st)) ≤ mostP := hq
  have hq1 : lenP (F1 st) ≤ mostP := Nat.le_trans (h2 _) hq2
  have HQ1 := hide hq1
  have HQ2 := hide hq2
  subst hm
  have z0 : (w.alloc (.cells #[.int .i64 k, .int .i64 xn, .int .i64 xm, .string xs, .slice s1 n1 c1, .slice (some ⟨kb, ko, none⟩) (m + 1) c2] 47)).cell? ⟨kb, ko, none⟩ = some (.int .i64 (z : Nat)) := ((h.below ((Below.refl _ _).alloc (Nat.le_refl _) _)).low.cell (p := ⟨kb, ko, none⟩) hkb).trans hz
  have y1 : (0 : Int) < ((m + 1 : Nat) : Int) := by omega
  have y2 : ¬ c2 = 1 := by omega
  have y3 : (1 : Int) ≤ ((m + 1 : Nat) : Int) := by omega
  have y4 : ((m + 1 : Nat) : Int) ≤ (c2 : Int) := by omega
  have y5 : (1 : Int) ≤ (c2 : Int) := by omega
  have y6 : (m : Int) + 1 ≤ (c2 : Int) := by omega
  have y7 : (1 : Int) ≤ (m : Int) + 1 := by omega
  have y8 : m + 1 - 1 = m := by omega
  clear h hq x0 x1 x2 x3 x4 x5
  clear hO hR h2 hq1 hq2 hz hkb
  subst hk
  go_enter Tryz.func34, Tryz.ntmps34
  go_wp2_with (first | (go_at_call 75; refine ((unhide HB0).call (unhide HO) (unhide HQ1)).mono ?_; rintro e w1 ⟨⟨v1, rfl⟩, g1, gc1, hb1⟩; obtain ⟨e0, e1, e2, e3, e4, e5⟩ := hb1.box.all; have HB1 := hide hb1; have hlt1 := hb1.box.lt; clear hb1 HB0) | (go_at_call 76; refine ((unhide HB1).call (unhide HR) (unhide HQ2)).mono ?_; rintro e w2 ⟨⟨v2, rfl⟩, g2, gc2, hb2⟩; obtain ⟨e0, e1, e2, e3, e4, e5⟩ := hb2.box.all; have HB2 := hide hb2; have hlt2 := hb2.box.lt; clear hb2 HB1))
  go_end0
  exact ⟨⟨_, rfl⟩, (unhide HB2).done⟩

set_option maxRecDepth 20000 in
set_option maxHeartbeats 8000000 in
theorem says_nodeF (Z : World) (p b off n cap i : Nat) (hi : i < n) (k xn xm : Int) (xs : ByteArray) (s1 : Option Addr) (n1 c1 : Nat) (s2 : Option Addr) (n2 c2 : Nat) (hx : NodeIs Z b (off + i * 6) k xn xm xs (.slice s1 n1 c1) (.slice s2 n2 c2)) (hk : k = 11 ∨ k = 12 ∨ k = 13 ∨ k = 14 ∨ k = 15 ∨ k = 16 ∨ k = 17 ∨ k = 18) (F : List UInt8 × Bool → List UInt8 × Bool) (hF : SaysP Z p (some ⟨b, off, none⟩) n cap 78 #[.pointer (some ⟨p, 0, none⟩), .agg #[.int .i64 k, .int .i64 xn, .int .i64 xm, .string xs, .slice s1 n1 c1, .slice s2 n2 c2]] F) :
    SaysP Z p (some ⟨b, off, none⟩) n cap 34 #[.pointer (some ⟨p, 0, none⟩), .int .i64 (i : Nat)] (F) := by
  intro w g gc st h hq
  obtain ⟨hbl, x0, x1, x2, x3, x4, x5⟩ := hx
  have c0' := (h.low.cell (p := ⟨b, off + i * 6, none⟩) hbl).trans x0
  have c1' := (h.low.cell (p := ⟨b, off + i * 6 + 1, none⟩) hbl).trans x1
  have c2' := (h.low.cell (p := ⟨b, off + i * 6 + 2, none⟩) hbl).trans x2
  have c3' := (h.low.cell (p := ⟨b, off + i * 6 + 3, none⟩) hbl).trans x3
  have c4' := (h.low.cell (p := ⟨b, off + i * 6 + 4, none⟩) hbl).trans x4
  have c5' := (h.low.cell (p := ⟨b, off + i * 6 + 5, none⟩) hbl).trans x5
  obtain ⟨d0, d1, d2, f0, f1, f2⟩ := h.sw.all
  have hii : (i : Int) < (n : Int) := by omega
  have hbw : b < w.heap.size := Nat.lt_of_lt_of_le hbl h.low.size
  have hpw := h.sw.lt.1
  have HB0 := hide (SB.new h (.int .i64 k) (.int .i64 xn) (.int .i64 xm) (.string xs) (.slice s1 n1 c1) (.slice s2 n2 c2))
  have HF := hide hF
  have HQ1 := hide hq
  clear h hq x0 x1 x2 x3 x4 x5
  clear hF
  rcases hk with rfl | rfl | rfl | rfl | rfl | rfl | rfl | rfl <;>
  · go_enter Tryz.func34, Tryz.ntmps34
    go_wp2_with (go_at_call 78; refine ((unhide HB0).call (unhide HF) (unhide HQ1)).mono ?_; rintro e w1 ⟨⟨v1, rfl⟩, g1, gc1, hb1⟩; obtain ⟨e0, e1, e2, e3, e4, e5⟩ := hb1.box.all; have HB1 := hide hb1; have hlt1 := hb1.box.lt; clear hb1 HB0)
    go_end0
    exact ⟨⟨_, rfl⟩, (unhide HB1).done⟩

set_option maxRecDepth 20000 in
set_option maxHeartbeats 8000000 in
theorem says_nodeS (Z : World) (p b off n cap i : Nat) (hi : i < n) (k xn xm : Int) (xs : ByteArray) (s1 : Option Addr) (n1 c1 : Nat) (s2 : Option Addr) (n2 c2 : Nat) (hx : NodeIs Z b (off + i * 6) k xn xm xs (.slice s1 n1 c1) (.slice s2 n2 c2)) (hk : k = 19 ∨ k = 20 ∨ k = 21 ∨ k = 22 ∨ k = 23 ∨ k = 24) (F : List UInt8 × Bool → List UInt8 × Bool) (hF : SaysP Z p (some ⟨b, off, none⟩) n cap 80 #[.pointer (some ⟨p, 0, none⟩), .agg #[.int .i64 k, .int .i64 xn, .int .i64 xm, .string xs, .slice s1 n1 c1, .slice s2 n2 c2]] F) :
    SaysP Z p (some ⟨b, off, none⟩) n cap 34 #[.pointer (some ⟨p, 0, none⟩), .int .i64 (i : Nat)] (F) := by
  intro w g gc st h hq
  obtain ⟨hbl, x0, x1, x2, x3, x4, x5⟩ := hx
  have c0' := (h.low.cell (p := ⟨b, off + i * 6, none⟩) hbl).trans x0
  have c1' := (h.low.cell (p := ⟨b, off + i * 6 + 1, none⟩) hbl).trans x1
  have c2' := (h.low.cell (p := ⟨b, off + i * 6 + 2, none⟩) hbl).trans x2
  have c3' := (h.low.cell (p := ⟨b, off + i * 6 + 3, none⟩) hbl).trans x3
  have c4' := (h.low.cell (p := ⟨b, off + i * 6 + 4, none⟩) hbl).trans x4
  have c5' := (h.low.cell (p := ⟨b, off + i * 6 + 5, none⟩) hbl).trans x5
  obtain ⟨d0, d1, d2, f0, f1, f2⟩ := h.sw.all
  have hii : (i : Int) < (n : Int) := by omega
  have hbw : b < w.heap.size := Nat.lt_of_lt_of_le hbl h.low.size
  have hpw := h.sw.lt.1
  have HB0 := hide (SB.new h (.int .i64 k) (.int .i64 xn) (.int .i64 xm) (.string xs) (.slice s1 n1 c1) (.slice s2 n2 c2))
  have HF := hide hF
  have HQ1 := hide hq
  clear h hq x0 x1 x2 x3 x4 x5
  clear hF
  rcases hk with rfl | rfl | rfl | rfl | rfl | rfl <;>
  · go_enter Tryz.func34, Tryz.ntmps34
    go_wp2_with (go_at_call 80; refine ((unhide HB0).call (unhide HF) (unhide HQ1)).mono ?_; rintro e w1 ⟨⟨v1, rfl⟩, g1, gc1, hb1⟩; obtain ⟨e0, e1, e2, e3, e4, e5⟩ := hb1.box.all; have HB1 := hide hb1; have hlt1 := hb1.box.lt; clear hb1 HB0)
    go_end0
    exact ⟨⟨_, rfl⟩, (unhide HB1).done⟩

end Go.Proofs.YtinndpnilmmmjaaGreatDoor
