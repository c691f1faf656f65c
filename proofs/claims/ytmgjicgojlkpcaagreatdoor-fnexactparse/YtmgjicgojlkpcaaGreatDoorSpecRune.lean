import Derived.Test.YtmgjicgojlkpcaaGreatDoorSpecLexA
import Derived.Test.YtmgjicgojlkpcaaGreatDoorSpecRuneOk
import Derived.Test.YtmgjicgojlkpcaaGreatDoorSpecBytes
import Derived.Test.YtmgjicgojlkpcaaGreatDoorRuneMath2
namespace Go.Proofs.YtmgjicgojlkpcaaGreatDoor
open Go.RowKit

/-- What l1Rune gives. -/
def GivesRune (w : World) (s : ByteArray) (i : Nat) (e : Ending) (w' : World) : Prop := e = .returned (.tuple #[.int .i64 ((runeAt s i).1 : Nat), .int .i64 ((runeAt s i).2 : Nat)]) ∧ Below w.heap.size w w'

set_option maxRecDepth 20000 in
set_option maxHeartbeats 2000000 in
theorem l1Rune_low (a : Option Addr) (cap : Nat) (s : ByteArray) (i : Nat) (w : World) (h : RowB w a s.size (bz s)) (hi : i < s.size) (hl : bt s i < 128) :
    Calls Tryz.prog 139 #[.slice a s.size cap, .int .i64 (i : Nat)] w (GivesRune w s i) := by
  have HE := hide (rune_ascii hl)
  have hii : (i : Int) < (s.size : Int) := by omega
  obtain ⟨b, off, rfl, -, hc⟩ := h.get hi
  rw [bz_get hi] at hc
  obtain ⟨c, hcc⟩ : ∃ c, bt s i = c := ⟨_, rfl⟩
  rw [hcc] at hc hl HE
  have hli : (c : Int) < 128 := by omega
  clear h hcc
  go_enter Tryz.func139, Tryz.ntmps139
  go_wp2
  go_ret2
  exact ⟨by rw [unhide HE]; rfl, Below.refl _ _⟩

set_option maxRecDepth 20000 in
set_option maxHeartbeats 2000000 in
theorem l1Rune_none (a : Option Addr) (cap : Nat) (s : ByteArray) (i : Nat) (w : World) (h : RowB w a s.size (bz s)) (hi : i < s.size) (hl : 128 ≤ bt s i) (hn : bt s i < 192 ∨ 248 ≤ bt s i) :
    Calls Tryz.prog 139 #[.slice a s.size cap, .int .i64 (i : Nat)] w (GivesRune w s i) := by
  have HE := hide (rune_0 hl hn)
  have hii : (i : Int) < (s.size : Int) := by omega
  obtain ⟨b, off, rfl, -, hc⟩ := h.get hi
  rw [bz_get hi] at hc
  obtain ⟨c, hcc⟩ : ∃ c, bt s i = c := ⟨_, rfl⟩
  rw [hcc] at hc hl hn
  have hli : ¬ (c : Int) < 128 := by omega
  have hcb : c < 256 := by rw [← hcc]; exact bt_lt s i
  clear h hcc
  rcases hn with hn | hn
  · have k1 : ¬ (192 : Int) ≤ (c : Int) := by omega
    have k2 : ¬ (224 : Int) ≤ (c : Int) := by omega
    have k3 : ¬ (240 : Int) ≤ (c : Int) := by omega
    go_enter Tryz.func139, Tryz.ntmps139
    go_wp2_with fail
    go_loopw [9] (fun k wr => k = .int .i64 1 ∧ wr = w) (fun _ _ => 0)
    case atStart => exact ⟨rfl, rfl⟩
    case round =>
      obtain ⟨rfl, rfl⟩ := hrel
      go_wp2_with fail
      go_ret2
      exact ⟨by rw [unhide HE]; rfl, Below.refl _ _⟩
  · have k1 : (192 : Int) ≤ (c : Int) := by omega
    have k2 : (224 : Int) ≤ (c : Int) := by omega
    have k3 : (240 : Int) ≤ (c : Int) := by omega
    have j1 : ¬ (c : Int) < 224 := by omega
    have j2 : ¬ (c : Int) < 240 := by omega
    have j3 : ¬ (c : Int) < 248 := by omega
    go_enter Tryz.func139, Tryz.ntmps139
    go_wp2_with fail
    go_loopw [9] (fun k wr => k = .int .i64 1 ∧ wr = w) (fun _ _ => 0)
    case atStart => exact ⟨rfl, rfl⟩
    case round =>
      obtain ⟨rfl, rfl⟩ := hrel
      go_wp2_with fail
      go_ret2
      exact ⟨by rw [unhide HE]; rfl, Below.refl _ _⟩

set_option maxRecDepth 20000 in
set_option maxHeartbeats 4000000 in
theorem l1Rune_2 (a : Option Addr) (cap : Nat) (s : ByteArray) (i : Nat) (w : World) (h : RowB w a s.size (bz s)) (hi : i < s.size) (hs : s.size ≤ 17592186044416) (hl : 192 ≤ bt s i) (hh : bt s i < 224) :
    Calls Tryz.prog 139 #[.slice a s.size cap, .int .i64 (i : Nat)] w (GivesRune w s i) := by
  obtain ⟨bs, hbs⟩ : ∃ b, b = bt s i - 192 := ⟨_, rfl⟩
  have HCL : Hid (cls (bt s i) 2 bs) := by show cls _ _ _; unfold cls; omega
  have hii : (i : Int) < (s.size : Int) := by omega
  have HROW := hide h
  obtain ⟨b, off, rfl, -, hc⟩ := h.get hi
  rw [bz_get hi] at hc
  obtain ⟨c, hcc⟩ : ∃ c, bt s i = c := ⟨_, rfl⟩
  rw [hcc] at hc hl hh hbs
  have hli : ¬ (c : Int) < 128 := by omega
  have k1 : (192 : Int) ≤ (c : Int) := by omega
  have j1 : (c : Int) < 224 := by omega
  have hbi : (c : Int) - 192 = (bs : Int) := by omega
  have HTL : Hid (∀ j W, Below w.heap.size w W → Calls Tryz.prog 178 #[.slice (some ⟨b, off, none⟩) s.size cap, .int .i64 (j : Nat)] W fun e w' => e = .returned (.bool (tl s j)) ∧ w' = W) := fun j W hb => l1Tail_any _ cap s j W (h.below (Nat.le_refl _) hb)
  clear h hcc hbs
  go_enter Tryz.func139, Tryz.ntmps139
  go_wp2_with fail
  go_loopw [8, 9] (fun v k wr => ∃ (x m : Nat), v = .int .i64 x ∧ k = .int .i64 m ∧ 1 ≤ m ∧ m ≤ 2 ∧ Hid (x = vP s i bs (m - 1)) ∧ Hid (∀ j, 1 ≤ j → j < m → tl s (i + j) = true) ∧ x ≤ 2097151 ∧ Hid (x < 32 * 64 ^ (m - 1)) ∧ wr = w) (fun _ k _ => 2 - (intOf k).toNat)
  case atStart => exact ⟨bs, 1, rfl, rfl, by omega, by omega, rfl, fun j h1 h2 => by omega, by omega, by show bs < 32 * 64 ^ 0; omega, rfl⟩
  case round =>
    obtain ⟨x, m, rfl, rfl, hm1, hm2, HX, HT, hxb, HXK, rfl⟩ := hrel
    by_cases hlt : m < 2
    case pos =>
      have hlti : (m : Int) < 2 := by omega
      have hw1 : IntKind.i64.wrap ((i : Int) + (m : Int)) = ((i + m : Nat) : Int) := by rw [IntKind.wrap_i64]; omega
      have hw2 : (i : Int) + (m : Int) = ((i + m : Nat) : Int) := by omega
      have HTJ := hide (unhide HTL (i + m) wr (Below.refl _ _))
      obtain ⟨q, hq⟩ : ∃ q, i + m = q := ⟨_, rfl⟩
      rw [hq] at hw1 hw2 HTJ
      have HQ := hide hq
      clear hq
      cases ht : tl s q with
      | false =>
        have HE := hide (rune_cut (unhide HCL) hm1 hlt (by rw [unhide HQ]; exact ht))
        rw [ht] at HTJ
        clear ht
        go_wp2_with fail
        refine (unhide HTJ).mono ?_
        rintro e w1 ⟨rfl, hw⟩
        obtain rfl := hw.symm
        go_wp2_with fail
        go_ret2
        exact ⟨by rw [unhide HE]; rfl, Below.refl _ _⟩
      | true =>
        have hb := tl_bd ht
        have hqi : (q : Int) < (s.size : Int) := by omega
        obtain ⟨_, _, e, -, hc2⟩ := (unhide HROW).get hb.1
        cases e
        rw [bz_get hb.1] at hc2
        obtain ⟨y, hy⟩ : ∃ y, bt s q = y := ⟨_, rfl⟩
        rw [hy] at hc2 hb
        rw [ht] at HTJ
        have HT2 : Hid (∀ j, 1 ≤ j → j < m + 1 → tl s (i + j) = true) := fun j h1 h2 => by
          by_cases hj : j = m
          · subst hj; rw [unhide HQ]; exact ht
          · exact unhide HT j h1 (by omega)
        have HX2 : Hid (x * 64 + (y - 128) = vP s i bs (m + 1 - 1)) := by
          show _ = _
          rw [show m + 1 - 1 = (m - 1) + 1 by omega]
          show _ = vP s i bs (m - 1) * 64 + (bt s (i + ((m - 1) + 1)) - 128)
          rw [← unhide HX, show i + (m - 1 + 1) = q by have := unhide HQ; omega, hy]
        have HK2 : Hid (x * 64 + (y - 128) < 32 * 64 ^ (m + 1 - 1)) := by
          have h1 := unhide HXK
          show _ < _
          rw [show m + 1 - 1 = (m - 1) + 1 by omega, Nat.pow_succ, ← Nat.mul_assoc]
          omega
        have hx2 : x * 64 + (y - 128) ≤ 2097151 := by
          have h1 := unhide HK2
          rcases (show m = 1 by omega) with rfl <;> simp at h1 <;> omega
        obtain ⟨z, hz⟩ : ∃ z, x * 64 + (y - 128) = z := ⟨_, rfl⟩
        rw [hz] at HX2 hx2 HK2
        have hzi : (x : Int) * 64 + (y : Int) - 128 = (z : Int) := by omega
        clear ht hy hz
        go_wp2_with fail
        refine (unhide HTJ).mono ?_
        rintro e w1 ⟨rfl, hw⟩
        obtain rfl := hw.symm
        go_wp2_with fail
        go_roundw
        case rel => exact ⟨z, m + 1, by go_num, by go_num, by omega, by omega, HX2, HT2, hx2, HK2, by first | trivial | rfl⟩
        case measure => simp [intOf]; omega
    case neg =>
      obtain rfl : m = 2 := by omega
      obtain ⟨hvb, hfin⟩ := rune_fin (unhide HCL) (unhide HT)
      rw [← unhide HX] at hfin
      have HF := hide hfin
      have HB := hide (fun W => l1Bytes_any x hxb W)
      have HO := hide (fun W => l1RuneOk_any (x : Int) W)
      obtain ⟨L, hL⟩ : ∃ L, encZ (x : Int) = L := ⟨_, rfl⟩
      rw [hL] at HB hfin HF
      obtain ⟨o, ho⟩ : ∃ o, runeOk (x : Int) = o := ⟨_, rfl⟩
      rw [ho] at HO HF
      clear hfin hvb hL ho HX HT HCL
      by_cases hLL : L.length = 2
      case pos =>
        have hLi : ((L.length : Nat) : Int) = 2 := by omega
        have HLL := hide hLL
        clear hLL
        cases o with
        | true =>
          have HE : Hid (runeAt s i = (x, 2)) := by show _ = _; rw [unhide HF, if_pos ⟨unhide HLL, rfl⟩]
          go_wp2_with (first | (go_at_call 179; refine (unhide HB _).mono ?_; rintro e w1 ⟨g, rfl, hrow, hb1⟩; have HB1 := hide hb1; clear hrow hb1) | (go_at_call 180; refine (unhide HO _).mono ?_; rintro e w2 ⟨rfl, hw⟩; obtain rfl := hw.symm))
          go_ret2
          exact ⟨by rw [unhide HE]; rfl, unhide HB1⟩
        | false =>
          have HE : Hid (runeAt s i = (0, 0)) := by show _ = _; rw [unhide HF, if_neg (fun h => by cases h.2)]
          go_wp2_with (first | (go_at_call 179; refine (unhide HB _).mono ?_; rintro e w1 ⟨g, rfl, hrow, hb1⟩; have HB1 := hide hb1; clear hrow hb1) | (go_at_call 180; refine (unhide HO _).mono ?_; rintro e w2 ⟨rfl, hw⟩; obtain rfl := hw.symm))
          go_ret2
          exact ⟨by rw [unhide HE]; rfl, unhide HB1⟩
      case neg =>
        have hLi : ¬ ((L.length : Nat) : Int) = 2 := by omega
        have HE : Hid (runeAt s i = (0, 0)) := by show _ = _; rw [unhide HF, if_neg (fun h => hLL h.1)]
        clear hLL
        go_wp2_with (go_at_call 179; refine (unhide HB _).mono ?_; rintro e w1 ⟨g, rfl, hrow, hb1⟩; have HB1 := hide hb1; clear hrow hb1)
        go_ret2
        exact ⟨by rw [unhide HE]; rfl, unhide HB1⟩

set_option maxRecDepth 20000 in
set_option maxHeartbeats 4000000 in
theorem l1Rune_3 (a : Option Addr) (cap : Nat) (s : ByteArray) (i : Nat) (w : World) (h : RowB w a s.size (bz s)) (hi : i < s.size) (hs : s.size ≤ 17592186044416) (hl : 224 ≤ bt s i) (hh : bt s i < 240) :
    Calls Tryz.prog 139 #[.slice a s.size cap, .int .i64 (i : Nat)] w (GivesRune w s i) := by
  obtain ⟨bs, hbs⟩ : ∃ b, b = bt s i - 224 := ⟨_, rfl⟩
  have HCL : Hid (cls (bt s i) 3 bs) := by show cls _ _ _; unfold cls; omega
  have hii : (i : Int) < (s.size : Int) := by omega
  have HROW := hide h
  obtain ⟨b, off, rfl, -, hc⟩ := h.get hi
  rw [bz_get hi] at hc
  obtain ⟨c, hcc⟩ : ∃ c, bt s i = c := ⟨_, rfl⟩
  rw [hcc] at hc hl hh hbs
  have hli : ¬ (c : Int) < 128 := by omega
  have k1 : (192 : Int) ≤ (c : Int) := by omega
  have j1 : ¬ (c : Int) < 224 := by omega
  have k2 : (224 : Int) ≤ (c : Int) := by omega
  have j2 : (c : Int) < 240 := by omega
  have hbi : (c : Int) - 224 = (bs : Int) := by omega
  have HTL : Hid (∀ j W, Below w.heap.size w W → Calls Tryz.prog 178 #[.slice (some ⟨b, off, none⟩) s.size cap, .int .i64 (j : Nat)] W fun e w' => e = .returned (.bool (tl s j)) ∧ w' = W) := fun j W hb => l1Tail_any _ cap s j W (h.below (Nat.le_refl _) hb)
  clear h hcc hbs
  go_enter Tryz.func139, Tryz.ntmps139
  go_wp2_with fail
  go_loopw [8, 9] (fun v k wr => ∃ (x m : Nat), v = .int .i64 x ∧ k = .int .i64 m ∧ 1 ≤ m ∧ m ≤ 3 ∧ Hid (x = vP s i bs (m - 1)) ∧ Hid (∀ j, 1 ≤ j → j < m → tl s (i + j) = true) ∧ x ≤ 2097151 ∧ Hid (x < 16 * 64 ^ (m - 1)) ∧ wr = w) (fun _ k _ => 3 - (intOf k).toNat)
  case atStart => exact ⟨bs, 1, rfl, rfl, by omega, by omega, rfl, fun j h1 h2 => by omega, by omega, by show bs < 16 * 64 ^ 0; omega, rfl⟩
  case round =>
    obtain ⟨x, m, rfl, rfl, hm1, hm2, HX, HT, hxb, HXK, rfl⟩ := hrel
    by_cases hlt : m < 3
    case pos =>
      have hlti : (m : Int) < 3 := by omega
      have hw1 : IntKind.i64.wrap ((i : Int) + (m : Int)) = ((i + m : Nat) : Int) := by rw [IntKind.wrap_i64]; omega
      have hw2 : (i : Int) + (m : Int) = ((i + m : Nat) : Int) := by omega
      have HTJ := hide (unhide HTL (i + m) wr (Below.refl _ _))
      obtain ⟨q, hq⟩ : ∃ q, i + m = q := ⟨_, rfl⟩
      rw [hq] at hw1 hw2 HTJ
      have HQ := hide hq
      clear hq
      cases ht : tl s q with
      | false =>
        have HE := hide (rune_cut (unhide HCL) hm1 hlt (by rw [unhide HQ]; exact ht))
        rw [ht] at HTJ
        clear ht
        go_wp2_with fail
        refine (unhide HTJ).mono ?_
        rintro e w1 ⟨rfl, hw⟩
        obtain rfl := hw.symm
        go_wp2_with fail
        go_ret2
        exact ⟨by rw [unhide HE]; rfl, Below.refl _ _⟩
      | true =>
        have hb := tl_bd ht
        have hqi : (q : Int) < (s.size : Int) := by omega
        obtain ⟨_, _, e, -, hc2⟩ := (unhide HROW).get hb.1
        cases e
        rw [bz_get hb.1] at hc2
        obtain ⟨y, hy⟩ : ∃ y, bt s q = y := ⟨_, rfl⟩
        rw [hy] at hc2 hb
        rw [ht] at HTJ
        have HT2 : Hid (∀ j, 1 ≤ j → j < m + 1 → tl s (i + j) = true) := fun j h1 h2 => by
          by_cases hj : j = m
          · subst hj; rw [unhide HQ]; exact ht
          · exact unhide HT j h1 (by omega)
        have HX2 : Hid (x * 64 + (y - 128) = vP s i bs (m + 1 - 1)) := by
          show _ = _
          rw [show m + 1 - 1 = (m - 1) + 1 by omega]
          show _ = vP s i bs (m - 1) * 64 + (bt s (i + ((m - 1) + 1)) - 128)
          rw [← unhide HX, show i + (m - 1 + 1) = q by have := unhide HQ; omega, hy]
        have HK2 : Hid (x * 64 + (y - 128) < 16 * 64 ^ (m + 1 - 1)) := by
          have h1 := unhide HXK
          show _ < _
          rw [show m + 1 - 1 = (m - 1) + 1 by omega, Nat.pow_succ, ← Nat.mul_assoc]
          omega
        have hx2 : x * 64 + (y - 128) ≤ 2097151 := by
          have h1 := unhide HK2
          rcases (show m = 1 ∨ m = 2 by omega) with rfl | rfl <;> simp at h1 <;> omega
        obtain ⟨z, hz⟩ : ∃ z, x * 64 + (y - 128) = z := ⟨_, rfl⟩
        rw [hz] at HX2 hx2 HK2
        have hzi : (x : Int) * 64 + (y : Int) - 128 = (z : Int) := by omega
        clear ht hy hz
        go_wp2_with fail
        refine (unhide HTJ).mono ?_
        rintro e w1 ⟨rfl, hw⟩
        obtain rfl := hw.symm
        go_wp2_with fail
        go_roundw
        case rel => exact ⟨z, m + 1, by go_num, by go_num, by omega, by omega, HX2, HT2, hx2, HK2, by first | trivial | rfl⟩
        case measure => simp [intOf]; omega
    case neg =>
      obtain rfl : m = 3 := by omega
      obtain ⟨hvb, hfin⟩ := rune_fin (unhide HCL) (unhide HT)
      rw [← unhide HX] at hfin
      have HF := hide hfin
      have HB := hide (fun W => l1Bytes_any x hxb W)
      have HO := hide (fun W => l1RuneOk_any (x : Int) W)
      obtain ⟨L, hL⟩ : ∃ L, encZ (x : Int) = L := ⟨_, rfl⟩
      rw [hL] at HB hfin HF
      obtain ⟨o, ho⟩ : ∃ o, runeOk (x : Int) = o := ⟨_, rfl⟩
      rw [ho] at HO HF
      clear hfin hvb hL ho HX HT HCL
      by_cases hLL : L.length = 3
      case pos =>
        have hLi : ((L.length : Nat) : Int) = 3 := by omega
        have HLL := hide hLL
        clear hLL
        cases o with
        | true =>
          have HE : Hid (runeAt s i = (x, 3)) := by show _ = _; rw [unhide HF, if_pos ⟨unhide HLL, rfl⟩]
          go_wp2_with (first | (go_at_call 179; refine (unhide HB _).mono ?_; rintro e w1 ⟨g, rfl, hrow, hb1⟩; have HB1 := hide hb1; clear hrow hb1) | (go_at_call 180; refine (unhide HO _).mono ?_; rintro e w2 ⟨rfl, hw⟩; obtain rfl := hw.symm))
          go_ret2
          exact ⟨by rw [unhide HE]; rfl, unhide HB1⟩
        | false =>
          have HE : Hid (runeAt s i = (0, 0)) := by show _ = _; rw [unhide HF, if_neg (fun h => by cases h.2)]
          go_wp2_with (first | (go_at_call 179; refine (unhide HB _).mono ?_; rintro e w1 ⟨g, rfl, hrow, hb1⟩; have HB1 := hide hb1; clear hrow hb1) | (go_at_call 180; refine (unhide HO _).mono ?_; rintro e w2 ⟨rfl, hw⟩; obtain rfl := hw.symm))
          go_ret2
          exact ⟨by rw [unhide HE]; rfl, unhide HB1⟩
      case neg =>
        have hLi : ¬ ((L.length : Nat) : Int) = 3 := by omega
        have HE : Hid (runeAt s i = (0, 0)) := by show _ = _; rw [unhide HF, if_neg (fun h => hLL h.1)]
        clear hLL
        go_wp2_with (go_at_call 179; refine (unhide HB _).mono ?_; rintro e w1 ⟨g, rfl, hrow, hb1⟩; have HB1 := hide hb1; clear hrow hb1)
        go_ret2
        exact ⟨by rw [unhide HE]; rfl, unhide HB1⟩

set_option maxRecDepth 20000 in
set_option maxHeartbeats 4000000 in
theorem l1Rune_4 (a : Option Addr) (cap : Nat) (s : ByteArray) (i : Nat) (w : World) (h : RowB w a s.size (bz s)) (hi : i < s.size) (hs : s.size ≤ 17592186044416) (hl : 240 ≤ bt s i) (hh : bt s i < 248) :
    Calls Tryz.prog 139 #[.slice a s.size cap, .int .i64 (i : Nat)] w (GivesRune w s i) := by
  obtain ⟨bs, hbs⟩ : ∃ b, b = bt s i - 240 := ⟨_, rfl⟩
  have HCL : Hid (cls (bt s i) 4 bs) := by show cls _ _ _; unfold cls; omega
  have hii : (i : Int) < (s.size : Int) := by omega
  have HROW := hide h
  obtain ⟨b, off, rfl, -, hc⟩ := h.get hi
  rw [bz_get hi] at hc
  obtain ⟨c, hcc⟩ : ∃ c, bt s i = c := ⟨_, rfl⟩
  rw [hcc] at hc hl hh hbs
  have hli : ¬ (c : Int) < 128 := by omega
  have k1 : (192 : Int) ≤ (c : Int) := by omega
  have j1 : ¬ (c : Int) < 224 := by omega
  have k2 : (224 : Int) ≤ (c : Int) := by omega
  have j2 : ¬ (c : Int) < 240 := by omega
  have k3 : (240 : Int) ≤ (c : Int) := by omega
  have j3 : (c : Int) < 248 := by omega
  have hbi : (c : Int) - 240 = (bs : Int) := by omega
  have HTL : Hid (∀ j W, Below w.heap.size w W → Calls Tryz.prog 178 #[.slice (some ⟨b, off, none⟩) s.size cap, .int .i64 (j : Nat)] W fun e w' => e = .returned (.bool (tl s j)) ∧ w' = W) := fun j W hb => l1Tail_any _ cap s j W (h.below (Nat.le_refl _) hb)
  clear h hcc hbs
  go_enter Tryz.func139, Tryz.ntmps139
  go_wp2_with fail
  go_loopw [8, 9] (fun v k wr => ∃ (x m : Nat), v = .int .i64 x ∧ k = .int .i64 m ∧ 1 ≤ m ∧ m ≤ 4 ∧ Hid (x = vP s i bs (m - 1)) ∧ Hid (∀ j, 1 ≤ j → j < m → tl s (i + j) = true) ∧ x ≤ 2097151 ∧ Hid (x < 8 * 64 ^ (m - 1)) ∧ wr = w) (fun _ k _ => 4 - (intOf k).toNat)
  case atStart => exact ⟨bs, 1, rfl, rfl, by omega, by omega, rfl, fun j h1 h2 => by omega, by omega, by show bs < 8 * 64 ^ 0; omega, rfl⟩
  case round =>
    obtain ⟨x, m, rfl, rfl, hm1, hm2, HX, HT, hxb, HXK, rfl⟩ := hrel
    by_cases hlt : m < 4
    case pos =>
      have hlti : (m : Int) < 4 := by omega
      have hw1 : IntKind.i64.wrap ((i : Int) + (m : Int)) = ((i + m : Nat) : Int) := by rw [IntKind.wrap_i64]; omega
      have hw2 : (i : Int) + (m : Int) = ((i + m : Nat) : Int) := by omega
      have HTJ := hide (unhide HTL (i + m) wr (Below.refl _ _))
      obtain ⟨q, hq⟩ : ∃ q, i + m = q := ⟨_, rfl⟩
      rw [hq] at hw1 hw2 HTJ
      have HQ := hide hq
      clear hq
      cases ht : tl s q with
      | false =>
        have HE := hide (rune_cut (unhide HCL) hm1 hlt (by rw [unhide HQ]; exact ht))
        rw [ht] at HTJ
        clear ht
        go_wp2_with fail
        refine (unhide HTJ).mono ?_
        rintro e w1 ⟨rfl, hw⟩
        obtain rfl := hw.symm
        go_wp2_with fail
        go_ret2
        exact ⟨by rw [unhide HE]; rfl, Below.refl _ _⟩
      | true =>
        have hb := tl_bd ht
        have hqi : (q : Int) < (s.size : Int) := by omega
        obtain ⟨_, _, e, -, hc2⟩ := (unhide HROW).get hb.1
        cases e
        rw [bz_get hb.1] at hc2
        obtain ⟨y, hy⟩ : ∃ y, bt s q = y := ⟨_, rfl⟩
        rw [hy] at hc2 hb
        rw [ht] at HTJ
        have HT2 : Hid (∀ j, 1 ≤ j → j < m + 1 → tl s (i + j) = true) := fun j h1 h2 => by
          by_cases hj : j = m
          · subst hj; rw [unhide HQ]; exact ht
          · exact unhide HT j h1 (by omega)
        have HX2 : Hid (x * 64 + (y - 128) = vP s i bs (m + 1 - 1)) := by
          show _ = _
          rw [show m + 1 - 1 = (m - 1) + 1 by omega]
          show _ = vP s i bs (m - 1) * 64 + (bt s (i + ((m - 1) + 1)) - 128)
          rw [← unhide HX, show i + (m - 1 + 1) = q by have := unhide HQ; omega, hy]
        have HK2 : Hid (x * 64 + (y - 128) < 8 * 64 ^ (m + 1 - 1)) := by
          have h1 := unhide HXK
          show _ < _
          rw [show m + 1 - 1 = (m - 1) + 1 by omega, Nat.pow_succ, ← Nat.mul_assoc]
          omega
        have hx2 : x * 64 + (y - 128) ≤ 2097151 := by
          have h1 := unhide HK2
          rcases (show m = 1 ∨ m = 2 ∨ m = 3 by omega) with rfl | rfl | rfl <;> simp at h1 <;> omega
        obtain ⟨z, hz⟩ : ∃ z, x * 64 + (y - 128) = z := ⟨_, rfl⟩
        rw [hz] at HX2 hx2 HK2
        have hzi : (x : Int) * 64 + (y : Int) - 128 = (z : Int) := by omega
        clear ht hy hz
        go_wp2_with fail
        refine (unhide HTJ).mono ?_
        rintro e w1 ⟨rfl, hw⟩
        obtain rfl := hw.symm
        go_wp2_with fail
        go_roundw
        case rel => exact ⟨z, m + 1, by go_num, by go_num, by omega, by omega, HX2, HT2, hx2, HK2, by first | trivial | rfl⟩
        case measure => simp [intOf]; omega
    case neg =>
      obtain rfl : m = 4 := by omega
      obtain ⟨hvb, hfin⟩ := rune_fin (unhide HCL) (unhide HT)
      rw [← unhide HX] at hfin
      have HF := hide hfin
      have HB := hide (fun W => l1Bytes_any x hxb W)
      have HO := hide (fun W => l1RuneOk_any (x : Int) W)
      obtain ⟨L, hL⟩ : ∃ L, encZ (x : Int) = L := ⟨_, rfl⟩
      rw [hL] at HB hfin HF
      obtain ⟨o, ho⟩ : ∃ o, runeOk (x : Int) = o := ⟨_, rfl⟩
      rw [ho] at HO HF
      clear hfin hvb hL ho HX HT HCL
      by_cases hLL : L.length = 4
      case pos =>
        have hLi : ((L.length : Nat) : Int) = 4 := by omega
        have HLL := hide hLL
        clear hLL
        cases o with
        | true =>
          have HE : Hid (runeAt s i = (x, 4)) := by show _ = _; rw [unhide HF, if_pos ⟨unhide HLL, rfl⟩]
          go_wp2_with (first | (go_at_call 179; refine (unhide HB _).mono ?_; rintro e w1 ⟨g, rfl, hrow, hb1⟩; have HB1 := hide hb1; clear hrow hb1) | (go_at_call 180; refine (unhide HO _).mono ?_; rintro e w2 ⟨rfl, hw⟩; obtain rfl := hw.symm))
          go_ret2
          exact ⟨by rw [unhide HE]; rfl, unhide HB1⟩
        | false =>
          have HE : Hid (runeAt s i = (0, 0)) := by show _ = _; rw [unhide HF, if_neg (fun h => by cases h.2)]
          go_wp2_with (first | (go_at_call 179; refine (unhide HB _).mono ?_; rintro e w1 ⟨g, rfl, hrow, hb1⟩; have HB1 := hide hb1; clear hrow hb1) | (go_at_call 180; refine (unhide HO _).mono ?_; rintro e w2 ⟨rfl, hw⟩; obtain rfl := hw.symm))
          go_ret2
          exact ⟨by rw [unhide HE]; rfl, unhide HB1⟩
      case neg =>
        have hLi : ¬ ((L.length : Nat) : Int) = 4 := by omega
        have HE : Hid (runeAt s i = (0, 0)) := by show _ = _; rw [unhide HF, if_neg (fun h => hLL h.1)]
        clear hLL
        go_wp2_with (go_at_call 179; refine (unhide HB _).mono ?_; rintro e w1 ⟨g, rfl, hrow, hb1⟩; have HB1 := hide hb1; clear hrow hb1)
        go_ret2
        exact ⟨by rw [unhide HE]; rfl, unhide HB1⟩

set_option maxHeartbeats 1000000 in
/-- spec.l1Rune. -/
theorem l1Rune_any (a : Option Addr) (cap : Nat) (s : ByteArray) (i : Nat) (w : World) (h : RowB w a s.size (bz s)) (hi : i < s.size) (hs : s.size ≤ 17592186044416) :
    Calls Tryz.prog 139 #[.slice a s.size cap, .int .i64 (i : Nat)] w (GivesRune w s i) := by
  by_cases h1 : bt s i < 128
  · exact l1Rune_low a cap s i w h hi h1
  · by_cases h2 : bt s i < 192 ∨ 248 ≤ bt s i
    · exact l1Rune_none a cap s i w h hi (by omega) h2
    · by_cases h3 : bt s i < 224
      · exact l1Rune_2 a cap s i w h hi hs (by omega) h3
      · by_cases h4 : bt s i < 240
        · exact l1Rune_3 a cap s i w h hi hs (by omega) h4
        · exact l1Rune_4 a cap s i w h hi hs (by omega) (by omega)

end Go.Proofs.YtmgjicgojlkpcaaGreatDoor
