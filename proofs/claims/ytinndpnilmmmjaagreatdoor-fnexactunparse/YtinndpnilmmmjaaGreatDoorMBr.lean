import Derived.Test.YtinndpnilmmmjaaGreatDoorMIp
import Derived.Test.YtinndpnilmmmjaaGreatDoorMNd
import Derived.Test.YtinndpnilmmmjaaGreatDoorMIt
import Derived.Deep.RegionHeld3
import Derived.Test.YtinndpnilmmmjaaGreatDoorMNumA
import Derived.Test.YtinndpnilmmmjaaGreatDoorMLs
namespace Go.Proofs.YtinndpnilmmmjaaGreatDoor
open Go.RowKit

theorem saysI_sgn (Z : World) (tb fb : Nat) (hG : GlTree Z) (a : Option Addr) (n cap : Nat) (s : ByteArray) (c : Nat) (hc : c ∈ signCs) (hs : s.data.toList = looksD.sg c) : SaysI Z tb fb 128 #[prV a n cap tb fb, .string s] (fun st => sayS looksD st c) :=
  saysI_sign Z tb fb hG a n cap s c hc (by
    rw [looks_sg] at hs
    exact ByteArray.ext (Array.toList_inj.1 hs))

set_option maxRecDepth 20000 in
set_option maxHeartbeats 2000000 in
theorem saysI_brF (Z : World) (tb fb : Nat) (a : Option Addr) (n cap : Nat) (G : Nat → List UInt8 × Bool → List UInt8 × Bool) (z : Nat) (hn : SaysI Z tb fb 39 #[prV a n cap tb fb, .int .i64 (z : Nat)] (G z)) : SaysI Z tb fb 136 #[prV a n cap tb fb, .int .i64 (z : Nat), .bool false] (G z) := by
  intro w st h hq
  have HN := hide hn
  have HQ1 := hide hq
  have HB0 := hide (IB.one h a n cap)
  obtain ⟨p0, p1⟩ := cells2 (unhide HB0).at0
  clear h hq hn
  go_enter Tryz.func136, Tryz.ntmps136
  go_wp2_with (go_at_call 39; refine ((unhide HB0).call (unhide HN) (unhide HQ1)).mono ?_; rintro e w1 ⟨⟨v1, rfl⟩, hb1⟩; obtain ⟨p0, p1⟩ := cells2 hb1.at0; have HB1 := hide hb1; clear hb1 HB0)
  (try simp only [Exit.inBlock, Exit.then])
  refine bodyPost_ret (results_none rfl _ _ _) rfl ?_
  exact ⟨⟨_, rfl⟩, (unhide HB1).ix, (unhide HB1).kept⟩

set_option maxRecDepth 20000 in
set_option maxHeartbeats 2000000 in
theorem saysI_brT (Z : World) (tb fb : Nat) (hG : GlTree Z) (a : Option Addr) (n cap : Nat) (G : Nat → List UInt8 × Bool → List UInt8 × Bool) (z : Nat) (hn : SaysI Z tb fb 39 #[prV a n cap tb fb, .int .i64 (z : Nat)] (G z)) (hm : ∀ st, lenP st ≤ lenP (G z st)) : SaysI Z tb fb 136 #[prV a n cap tb fb, .int .i64 (z : Nat), .bool true] (fun st => sayS looksD (G z (sayS looksD st 40)) 41) := by
  intro w st h hq
  have HN := hide hn
  have HO := hide (saysI_sgn Z tb fb hG a n cap ⟨#[40]⟩ 40 (by decide) (by kernel_rfl))
  have HE := hide (saysI_sgn Z tb fb hG a n cap ⟨#[41]⟩ 41 (by decide) (by kernel_rfl))
  have hq3 : lenP (sayS looksD (G z (sayS looksD st 40)) 41) ≤ mostP := hq
  have hq2 : lenP (G z (sayS looksD st 40)) ≤ mostP := Nat.le_trans ((say_len _ _ _).1) hq3
  have hq1 : lenP (sayS looksD st 40) ≤ mostP := Nat.le_trans (hm _) hq2
  have HQ1 := hide hq1
  have HQ2 := hide hq2
  have HQ3 := hide hq3
  clear hq1 hq2 hq3
  have HB0 := hide (IB.one h a n cap)
  obtain ⟨p0, p1⟩ := cells2 (unhide HB0).at0
  clear h hq hn hm hG
  go_enter Tryz.func136, Tryz.ntmps136
  go_wp2_with (first | (go_at_call 128; refine ((unhide HB0).call (unhide HO) (unhide HQ1)).mono ?_; rintro e w1 ⟨⟨v1, rfl⟩, hb1⟩; obtain ⟨p0, p1⟩ := cells2 hb1.at0; have HB1 := hide hb1; clear hb1 HB0) | (go_at_call 39; refine ((unhide HB1).call (unhide HN) (unhide HQ2)).mono ?_; rintro e w2 ⟨⟨v2, rfl⟩, hb2⟩; obtain ⟨p0, p1⟩ := cells2 hb2.at0; have HB2 := hide hb2; clear hb2 HB1) | (go_at_call 128; refine ((unhide HB2).call (unhide HE) (unhide HQ3)).mono ?_; rintro e w3 ⟨⟨v3, rfl⟩, hb3⟩; obtain ⟨p0, p1⟩ := cells2 hb3.at0; have HB3 := hide hb3; clear hb3 HB2))
  go_end0
  exact ⟨⟨_, rfl⟩, (unhide HB3).ix, (unhide HB3).kept⟩

set_option maxRecDepth 20000 in
set_option maxHeartbeats 2000000 in
theorem saysI_assigned (Z : World) (tb fb : Nat) (hG : GlTree Z) (a : Option Addr) (n cap : Nat) (G : Nat → List UInt8 × Bool → List UInt8 × Bool) (z : Nat) (hn : SaysI Z tb fb 39 #[prV a n cap tb fb, .int .i64 (z : Nat)] (G z)) (hm : ∀ st, lenP st ≤ lenP (G z st)) : SaysI Z tb fb 135 #[prV a n cap tb fb, .int .i64 (z : Nat)] (fun st => G z (sayS looksD st 8592)) := by
  intro w st h hq
  have HN := hide hn
  have HO := hide (saysI_sgn Z tb fb hG a n cap ⟨#[226, 134, 144]⟩ 8592 (by decide) (by kernel_rfl))
  have hq2 : lenP (G z (sayS looksD st 8592)) ≤ mostP := hq
  have hq1 : lenP (sayS looksD st 8592) ≤ mostP := Nat.le_trans (hm _) hq2
  have HQ1 := hide hq1
  have HQ2 := hide hq2
  clear hq1 hq2
  have HB0 := hide (IB.one h a n cap)
  obtain ⟨p0, p1⟩ := cells2 (unhide HB0).at0
  clear h hq hn hm hG
  go_enter Tryz.func135, Tryz.ntmps135
  go_wp2_with (first | (go_at_call 128; refine ((unhide HB0).call (unhide HO) (unhide HQ1)).mono ?_; rintro e w1 ⟨⟨v1, rfl⟩, hb1⟩; obtain ⟨p0, p1⟩ := cells2 hb1.at0; have HB1 := hide hb1; clear hb1 HB0) | (go_at_call 39; refine ((unhide HB1).call (unhide HN) (unhide HQ2)).mono ?_; rintro e w2 ⟨⟨v2, rfl⟩, hb2⟩; obtain ⟨p0, p1⟩ := cells2 hb2.at0; have HB2 := hide hb2; clear hb2 HB1))
  go_end0
  exact ⟨⟨_, rfl⟩, (unhide HB2).ix, (unhide HB2).kept⟩

set_option maxRecDepth 20000 in
set_option maxHeartbeats 2000000 in
theorem saysI_along (Z : World) (tb fb : Nat) (a : Option Addr) (n cap : Nat) (m : Int) (l f : ByteArray) (cl cf : Nat) (hm : 0 ≤ m ∧ m ≤ 1) (hl : SaysI Z tb fb 128 #[prV a n cap tb fb, .string l] (fun st => sayS looksD st cl)) (hf : SaysI Z tb fb 128 #[prV a n cap tb fb, .string f] (fun st => sayS looksD st cf)) : SaysI Z tb fb 133 #[prV a n cap tb fb, .int .i64 m, .string l, .string f] (fun st => sayS looksD st (if m = 0 then cl else cf)) := by
  intro w st h hq
  have HL := hide hl
  have HF := hide hf
  have HB0 := hide (IB.one h a n cap)
  obtain ⟨p0, p1⟩ := cells2 (unhide HB0).at0
  have hq' : lenP (sayS looksD st (if m = 0 then cl else cf)) ≤ mostP := hq
  have hm2 : m = 0 ∨ m = 1 := by omega
  show Calls _ _ _ _ fun e w' => _ ∧ IX Z tb fb w' (sayS looksD st (if m = 0 then cl else cf)) ∧ _
  clear h hq hl hf hm
  rcases hm2 with rfl | rfl
  · rw [if_pos rfl] at hq' ⊢
    have HQ1 := hide hq'
    clear hq'
    go_enter Tryz.func133, Tryz.ntmps133
    go_wp2_with (go_at_call 128; refine ((unhide HB0).call (unhide HL) (unhide HQ1)).mono ?_; rintro e w1 ⟨⟨v1, rfl⟩, hb1⟩; obtain ⟨p0, p1⟩ := cells2 hb1.at0; have HB1 := hide hb1; clear hb1 HB0)
    go_end0
    exact ⟨⟨_, rfl⟩, (unhide HB1).ix, (unhide HB1).kept⟩
  · rw [if_neg (by decide)] at hq' ⊢
    have HQ1 := hide hq'
    clear hq'
    go_enter Tryz.func133, Tryz.ntmps133
    go_wp2_with (go_at_call 128; refine ((unhide HB0).call (unhide HF) (unhide HQ1)).mono ?_; rintro e w1 ⟨⟨v1, rfl⟩, hb1⟩; obtain ⟨p0, p1⟩ := cells2 hb1.at0; have HB1 := hide hb1; clear hb1 HB0)
    go_end0
    exact ⟨⟨_, rfl⟩, (unhide HB1).ix, (unhide HB1).kept⟩

set_option maxRecDepth 20000 in
set_option maxHeartbeats 2000000 in
theorem saysI_operand (Z : World) (tb fb : Nat) (a : Option Addr) (n cap : Nat) (ns : List NodeD) (hr : NRow Z a n ns) (G : Nat → List UInt8 × Bool → List UInt8 × Bool) (z : Nat) (hz : z < n) (hF : SaysI Z tb fb 136 #[prV a n cap tb fb, .int .i64 (z : Nat), .bool false] (G z)) (hT : SaysI Z tb fb 136 #[prV a n cap tb fb, .int .i64 (z : Nat), .bool true] (fun st => sayS looksD (G z (sayS looksD st 40)) 41)) : SaysI Z tb fb 129 #[prV a n cap tb fb, .int .i64 (z : Nat)] (operP looksD ns G z) := by
  intro w st h hq
  have hsm := hr.small
  have HB0 := hide (IB.one h a n cap)
  obtain ⟨p0, p1⟩ := cells2 (unhide HB0).at0
  obtain ⟨b, off, rfl, hbl, s1, n1, c1, s2, n2, c2, x0, _⟩ := hr.get hz
  have c0 := ((unhide HB0).ix.low.cell (p := ⟨b, off + z * 6, none⟩) hbl).trans x0
  have hzi : (z : Int) < (n : Int) := by omega
  obtain ⟨kk, hkk⟩ : ∃ k, (node ns z).k = k := ⟨_, rfl⟩
  rw [hkk] at c0
  have HF := hide hF
  have HT := hide hT
  clear x0 hr
  by_cases hb : kk = 9 ∨ kk = 10
  · have eq : operP looksD ns G z st = sayS looksD (G z (sayS looksD st 40)) 41 := by unfold operP; rw [hkk, if_pos hb]
    rw [eq] at hq ⊢
    have HQ1 := hide hq
    have hb2 : kk = 9 ∨ (¬ kk = 9 ∧ kk = 10) := by omega
    clear hb h hq hF hT eq hkk
    rcases hb2 with rfl | ⟨_, rfl⟩ <;>
    · go_enter Tryz.func129, Tryz.ntmps129
      go_wp2_with (go_at_call 136; refine ((unhide HB0).call (unhide HT) (unhide HQ1)).mono ?_; rintro e w1 ⟨⟨v1, rfl⟩, hb1⟩; obtain ⟨p0, p1⟩ := cells2 hb1.at0; have HB1 := hide hb1; clear hb1 HB0)
      go_end0
      exact ⟨⟨_, rfl⟩, (unhide HB1).ix, (unhide HB1).kept⟩
  · have eq : operP looksD ns G z st = G z st := by unfold operP; rw [hkk, if_neg hb]
    rw [eq] at hq ⊢
    have HQ1 := hide hq
    have h9 : (kk == 9) = false := by simp; omega
    have h10 : (kk == 10) = false := by simp; omega
    clear hb h hq hF hT eq hkk
    go_enter Tryz.func129, Tryz.ntmps129
    go_wp2_with (go_at_call 136; refine ((unhide HB0).call (unhide HF) (unhide HQ1)).mono ?_; rintro e w1 ⟨⟨v1, rfl⟩, hb1⟩; obtain ⟨p0, p1⟩ := cells2 hb1.at0; have HB1 := hide hb1; clear hb1 HB0)
    go_end0
    exact ⟨⟨_, rfl⟩, (unhide HB1).ix, (unhide HB1).kept⟩

set_option maxRecDepth 20000 in
set_option maxHeartbeats 2000000 in
theorem saysI_series (Z : World) (tb fb : Nat) (a : Option Addr) (n cap : Nat) (G : Nat → List UInt8 × Bool → List UInt8 × Bool) (c : Nat) (sg : ByteArray) (ka : Option Addr) (kn kc : Nat) (hsg : SaysI Z tb fb 128 #[prV a n cap tb fb, .string sg] (fun st => sayS looksD st c)) (zs : List Int) (hr : Row Z ka kn zs)
    (hz : ∀ q, q < kn → zs.getD q 0 = (((zs.getD q 0).toNat : Nat) : Int)) (hk : ∀ q, q < kn → SaysI Z tb fb 39 #[prV a n cap tb fb, .int .i64 ((zs.getD q 0).toNat : Nat)] (G (zs.getD q 0).toNat)) (hm : ∀ q, q < kn → ∀ st, lenP st ≤ lenP (G (zs.getD q 0).toNat st)) :
    SaysI Z tb fb 134 #[prV a n cap tb fb, .string sg, .slice ka kn kc] (listP looksD G c zs kn) := by
  intro w st h hl
  have hsm := hr.small
  have HB0 := hide (IB.one h a n cap)
  have HR := hide hr
  have HZ := hide hz
  have HK := hide hk
  have HM := hide hm
  have HL := hide hl
  have HSY := hide hsg
  clear h hr hz hk hm hl hsg
  go_enter Tryz.func134, Tryz.ntmps134
  go_wp2_with fail
  go_loopw [10] (fun u wr => ∃ (k : Nat), u = .int .i64 (k : Nat) ∧ k ≤ kn ∧ Hid (IB Z tb fb w [(w.heap.size, prO a n cap tb fb)] wr (listP looksD G c zs k st))) (fun e _ => kn - (intOf e).toNat)
  case atStart => exact ⟨0, rfl, Nat.zero_le _, HB0⟩
  case round =>
    clear HB0
    obtain ⟨k, rfl, hkn, HX⟩ := hrel
    obtain ⟨p0, p1⟩ := cells2 (unhide HX).at0
    by_cases hlt : k < kn
    case neg =>
      have he : k = kn := by omega
      subst he
      have hlti : ¬ (k : Int) < (k : Int) := by omega
      go_wp2_with fail
      go_end0
      exact ⟨⟨_, rfl⟩, (unhide HX).ix, (unhide HX).kept⟩
    case pos =>
      have hlti : (k : Int) < (kn : Int) := by omega
      obtain ⟨b, off, rfl, hbl, hc⟩ := (unhide HR).get hlt
      have hzk := unhide HZ k hlt
      have HKk := hide (unhide HK k hlt)
      have h1 := list_step looksD G c zs st (unhide HM k hlt)
      have h2 := list_mono looksD G c zs st (fun q hq => unhide HM q hq) (kn - (k + 1)) (k + 1) (by omega)
      have hl := unhide HL
      rw [hzk] at hc
      have hcw := ((unhide HX).ix.low.cell (p := ⟨b, off + k, none⟩) hbl).trans hc
      have HNX : Hid (listP looksD G c zs (k + 1) st = G (zs.getD k 0).toNat (if 0 < k then sayS looksD (listP looksD G c zs k st) c else listP looksD G c zs k st)) := by show _ = _; rw [listP]
      obtain ⟨kid, hkid⟩ : ∃ kid, (zs.getD k 0).toNat = kid := ⟨_, rfl⟩
      rw [hkid] at HKk hcw HNX
      have HL1 : Hid (lenP (if 0 < k then sayS looksD (listP looksD G c zs k st) c else listP looksD G c zs k st) ≤ mostP) := by show _ ≤ _; omega
      have HL2 : Hid (lenP (listP looksD G c zs (k + 1) st) ≤ mostP) := by show _ ≤ _; omega
      clear hzk h1 h2 hl hc hkid
      by_cases hk0 : 0 < k
      case pos =>
        have hk0i : (0 : Int) < (k : Int) := by omega
        rw [if_pos hk0] at HNX HL1
        rw [unhide HNX] at HL2
        clear hk0
        go_wp2_with (first | (go_at_call 128; refine ((unhide HX).call (unhide HSY) (unhide HL1)).mono ?_; rintro e w5 ⟨⟨v5, rfl⟩, hb5⟩; obtain ⟨r0, r1⟩ := cells2 hb5.at0; have HB5 := hide hb5; clear hb5) | (go_at_call 39; refine ((unhide HB5).call (unhide HKk) (unhide HL2)).mono ?_; rintro e w6 ⟨⟨v6, rfl⟩, hb6⟩; have HB6 := hide hb6; clear hb6))
        go_roundw
        case rel =>
          refine ⟨k + 1, by go_num, by omega, ?_⟩
          rw [unhide HNX]
          exact HB6
        case measure => simp [intOf]; omega
      case neg =>
        have hk0e : k = 0 := by omega
        subst hk0e
        rw [if_neg hk0] at HNX HL1
        rw [unhide HNX] at HL2
        rw [Nat.add_zero] at hcw
        clear hk0
        go_wp2_with (go_at_call 39; refine ((unhide HX).call (unhide HKk) (unhide HL2)).mono ?_; rintro e w6 ⟨⟨v6, rfl⟩, hb6⟩; have HB6 := hide hb6; clear hb6)
        go_roundw
        case rel =>
          refine ⟨1, by go_num, by omega, ?_⟩
          rw [unhide HNX]
          exact HB6
        case measure => simp [intOf]; omega

set_option maxRecDepth 20000 in
set_option maxHeartbeats 2000000 in
theorem saysI_parts (Z : World) (tb fb : Nat) (hG : GlTree Z) (a : Option Addr) (n cap : Nat) (G : Nat → List UInt8 × Bool → List UInt8 × Bool) (ka : Option Addr) (kn kc : Nat) (zs : List Int) (hS : SaysI Z tb fb 134 #[prV a n cap tb fb, .string ⟨#[59]⟩, .slice ka kn kc] (listP looksD G 59 zs kn)) (hm : ∀ st, lenP st ≤ lenP (listP looksD G 59 zs kn st)) : SaysI Z tb fb 130 #[prV a n cap tb fb, .slice ka kn kc] (fun st => sayS looksD (listP looksD G 59 zs kn (sayS looksD st 91)) 93) := by
  intro w st h hq
  have HS := hide hS
  have HO := hide (saysI_sgn Z tb fb hG a n cap ⟨#[91]⟩ 91 (by decide) (by kernel_rfl))
  have HE := hide (saysI_sgn Z tb fb hG a n cap ⟨#[93]⟩ 93 (by decide) (by kernel_rfl))
  have hq3 : lenP (sayS looksD (listP looksD G 59 zs kn (sayS looksD st 91)) 93) ≤ mostP := hq
  have hq2 : lenP (listP looksD G 59 zs kn (sayS looksD st 91)) ≤ mostP := Nat.le_trans ((say_len _ _ _).1) hq3
  have hq1 : lenP (sayS looksD st 91) ≤ mostP := Nat.le_trans (hm _) hq2
  have HQ1 := hide hq1
  have HQ2 := hide hq2
  have HQ3 := hide hq3
  clear hq1 hq2 hq3
  have HB0 := hide (IB.one h a n cap)
  obtain ⟨p0, p1⟩ := cells2 (unhide HB0).at0
  clear h hq hS hm hG
  go_enter Tryz.func130, Tryz.ntmps130
  go_wp2_with (first | (go_at_call 128; refine ((unhide HB0).call (unhide HO) (unhide HQ1)).mono ?_; rintro e w1 ⟨⟨v1, rfl⟩, hb1⟩; obtain ⟨p0, p1⟩ := cells2 hb1.at0; have HB1 := hide hb1; clear hb1 HB0) | (go_at_call 134; refine ((unhide HB1).call (unhide HS) (unhide HQ2)).mono ?_; rintro e w2 ⟨⟨v2, rfl⟩, hb2⟩; obtain ⟨p0, p1⟩ := cells2 hb2.at0; have HB2 := hide hb2; clear hb2 HB1) | (go_at_call 128; refine ((unhide HB2).call (unhide HE) (unhide HQ3)).mono ?_; rintro e w3 ⟨⟨v3, rfl⟩, hb3⟩; obtain ⟨p0, p1⟩ := cells2 hb3.at0; have HB3 := hide hb3; clear hb3 HB2))
  go_end0
  exact ⟨⟨_, rfl⟩, (unhide HB3).ix, (unhide HB3).kept⟩

end Go.Proofs.YtinndpnilmmmjaaGreatDoor
namespace Go.Proofs.YtinndpnilmmmjaaGreatDoor
open Go.RowKit

/-- A node that is a replication of one operand. -/
def repB (ns : List NodeD) (b : Nat) : Bool := decide ((node ns b).k = 9) && primB (node ns (kidN (node ns b) 0)) 29 30

/-- Two boxes laid. -/
theorem two_boxes (w : World) (a : Option Addr) (n cap tb fb : Nat) (v0 v1 v2 v3 v4 v5 : Value) : ((w.alloc (prO a n cap tb fb)).alloc (.cells #[v0, v1, v2, v3, v4, v5] 47)).heap[w.heap.size + 1]? = some (.cells #[v0, v1, v2, v3, v4, v5] 47 (0, 0)) ∧ ((w.alloc (prO a n cap tb fb)).alloc (.cells #[v0, v1, v2, v3, v4, v5] 47)).heap[w.heap.size]? = some (prO a n cap tb fb) := by
  have hs : (w.alloc (prO a n cap tb fb)).heap.size = w.heap.size + 1 := by simp
  constructor
  · rw [← hs]
    generalize w.alloc (prO a n cap tb fb) = W
    show (W.heap.push _)[W.heap.size]? = _
    simp
  · rw [Lib.alloc_old _ _ _ (by rw [hs]; omega)]
    show (w.heap.push _)[w.heap.size]? = _
    simp

set_option maxRecDepth 20000 in
set_option maxHeartbeats 2000000 in
theorem begins_any (a : Option Addr) (n cap tb fb : Nat) (ns : List NodeD) (w : World) (h : NRow w a n ns) (z : Nat) (hz : z < n) (hb9 : (node ns z).k = 9 → 0 < (node ns z).kids.length ∧ (node ns z).kids.getD 0 0 = ((kidN (node ns z) 0 : Nat) : Int) ∧ kidN (node ns z) 0 < n) :
    Calls Tryz.prog 177 #[prV a n cap tb fb, .int .i64 (z : Nat)] w fun e w' => e = .returned (.bool (repB ns z)) ∧ Below w.heap.size w w' := by
  obtain ⟨r, hr⟩ : ∃ r, repB ns z = r := ⟨_, rfl⟩
  rw [hr]
  have hsm := h.small
  have hzi : (z : Int) < (n : Int) := by omega
  have H := hide h
  obtain ⟨b, off, rfl, hbl, s1, n1, c1, s2, n2, c2, x0, x1, x2, x3, x4, x5, r1, r2⟩ := h.get hz
  have hl2 := r2.len
  have hpn : ∀ v : Value, (w.alloc (prO (some ⟨b, off, none⟩) n cap tb fb)).heap.size = w.heap.size + 1 := fun _ => by simp
  obtain ⟨k, hk⟩ : ∃ k, (node ns z).k = k := ⟨_, rfl⟩
  obtain ⟨kn, hkn⟩ : ∃ k, (node ns z).n = k := ⟨_, rfl⟩
  obtain ⟨km, hkm⟩ : ∃ k, (node ns z).m = k := ⟨_, rfl⟩
  obtain ⟨ks, hks⟩ : ∃ k, (node ns z).s = k := ⟨_, rfl⟩
  rw [hk] at x0 hb9
  rw [hkn] at x1
  rw [hkm] at x2
  rw [hks] at x3
  have hR : (decide (k = 9) && primB (node ns (kidN (node ns z) 0)) 29 30) = r := by rw [← hr]; unfold repB; rw [hk]
  have hbq : b ≠ w.heap.size := by omega
  clear h hr hpn hk hkn hkm hks
  by_cases h9 : k = 9
  case neg =>
    have hd : (k == 9) = false := by simpa using h9
    have HE : Hid (false = r) := by show _ = _; rw [← hR, decide_eq_false h9]; rfl
    clear hR hb9 h9 r1 r2
    go_enter Tryz.func177, Tryz.ntmps177
    go_wp2_with fail
    go_big_quiet (fail)
    go_wp2_with fail
    go_ret
    exact ⟨ret_bool (unhide HE), Below.drewN (((Below.refl _ _).alloc (Nat.le_refl _) _).alloc (by simp) _) _⟩
  subst h9
  obtain ⟨g1, g2, g3⟩ := hb9 rfl
  obtain ⟨kid, hkid⟩ : ∃ x, kidN (node ns z) 0 = x := ⟨_, rfl⟩
  rw [hkid] at hR g2 g3
  rw [decide_eq_true rfl, Bool.true_and] at hR
  obtain ⟨kb, ko, rfl, hkb, q0⟩ := r2.get (k := 0) (by omega)
  rw [g2, Nat.add_zero] at q0
  have hn20 : (0 : Int) < (n2 : Int) := by omega
  have hn2p : 0 < n2 := by omega
  have HPC : Hid (∀ v, Below w.heap.size w v → Calls Tryz.prog 119 #[.agg #[.slice (some ⟨b, off, none⟩) n cap], .int .i64 (kid : Nat), .int .i64 29, .int .i64 30] v fun e w' => e = .returned (.bool r) ∧ Below v.heap.size v w') := fun v hv => primOk _ n cap ns _ ((unhide H).below (Nat.le_refl _) hv).weak kid g3 29 30 r hR
  have hkq : kb ≠ w.heap.size := by omega
  have q0w : ((w.alloc (prO (some ⟨b, off, none⟩) n cap tb fb)).alloc (.cells #[.int .i64 9, .int .i64 kn, .int .i64 km, .string ks, .slice s1 n1 c1, .slice (some ⟨kb, ko, none⟩) n2 c2] 47)).cell? ⟨kb, ko, none⟩ = some (.int .i64 (kid : Nat)) := ((((Below.refl _ _).alloc (Nat.le_refl _) _).alloc (by simp) _ : Below w.heap.size w _).cell (p := ⟨kb, ko, none⟩) hkb).trans q0
  have hW0 : Below w.heap.size w ((w.alloc (prO (some ⟨b, off, none⟩) n cap tb fb)).alloc (.cells #[.int .i64 9, .int .i64 kn, .int .i64 km, .string ks, .slice s1 n1 c1, .slice (some ⟨kb, ko, none⟩) n2 c2] 47)) := ((Below.refl _ _).alloc (Nat.le_refl _) _).alloc (by simp) _
  have HW0 := hide hW0
  have HKEEP : Hid (∀ wx, Below ((w.alloc (prO (some ⟨b, off, none⟩) n cap tb fb)).alloc (.cells #[.int .i64 9, .int .i64 kn, .int .i64 km, .string ks, .slice s1 n1 c1, .slice (some ⟨kb, ko, none⟩) n2 c2] 47)).heap.size ((w.alloc (prO (some ⟨b, off, none⟩) n cap tb fb)).alloc (.cells #[.int .i64 9, .int .i64 kn, .int .i64 km, .string ks, .slice s1 n1 c1, .slice (some ⟨kb, ko, none⟩) n2 c2] 47)) wx → wx.cell? ⟨w.heap.size + 1, 0, none⟩ = some (.int .i64 9) ∧ wx.cell? ⟨w.heap.size + 1, 5, none⟩ = some (.slice (some ⟨kb, ko, none⟩) n2 c2) ∧ wx.cell? ⟨w.heap.size, 0, none⟩ = some (.slice (some ⟨b, off, none⟩) n cap) ∧ wx.cell? ⟨kb, ko, none⟩ = some (.int .i64 (kid : Nat))) := fun wx hb => by
    obtain ⟨t1, t2⟩ := two_boxes w (some ⟨b, off, none⟩) n cap tb fb (.int .i64 9) (.int .i64 kn) (.int .i64 km) (.string ks) (.slice s1 n1 c1) (.slice (some ⟨kb, ko, none⟩) n2 c2)
    have u1 := cells6 ((hb.block _ (lt_of_heap t1)).trans t1)
    have u2 := cells2 ((hb.block _ (lt_of_heap t2)).trans t2)
    exact ⟨u1.1, u1.2.2.2.2.2, u2.1, (hb.cell (p := ⟨kb, ko, none⟩) (by show kb < _; simp; omega)).trans q0w⟩
  clear hR r1 r2 H g1 g2 hb9 hkid q0 hW0
  go_enter Tryz.func177, Tryz.ntmps177
  go_wp2_with fail
  go_region_held3 (fun wx => wx.cell? ⟨w.heap.size + 1, 0, none⟩ = some (.int .i64 9) ∧ wx.cell? ⟨w.heap.size + 1, 5, none⟩ = some (.slice (some ⟨kb, ko, none⟩) n2 c2) ∧ wx.cell? ⟨w.heap.size, 0, none⟩ = some (.slice (some ⟨b, off, none⟩) n cap) ∧ wx.cell? ⟨kb, ko, none⟩ = some (.int .i64 (kid : Nat))) (first | exact unhide HKEEP _ (unhide HB7) | exact unhide HKEEP _ (Below.refl _ _).drew) (first | (go_at_call 119; refine (unhide HPC _ (unhide HW0).drew).mono ?_; rintro e w7 ⟨rfl, hb7⟩; have HB7 := hide ((Below.refl _ _).drew.trans hb7); clear hb7))
  all_goals go_wp2_with fail
  all_goals go_ret
  all_goals exact ⟨rfl, (unhide HW0).trans ((unhide HB7).mono (unhide HW0).size)⟩

end Go.Proofs.YtinndpnilmmmjaaGreatDoor
namespace Go.Proofs.YtinndpnilmmmjaaGreatDoor
open Go.RowKit

theorem takes_eq (ns : List NodeD) (f b : Nat) : takesR ns f b = (primB (node ns f) 1 16 && repB ns b) := rfl

theorem appl_mono {L : Looks} {ns : List NodeD} (G : Nat → List UInt8 × Bool → List UInt8 × Bool) (f b : Nat) (hb : ∀ st, lenP st ≤ lenP (G b st)) (st : List UInt8 × Bool) : lenP (G f st) ≤ lenP (applP L ns G f b st) := by
  cases ht : takesR ns f b with
  | true => rw [appl_yes G ht]; exact oper_mono G b hb _
  | false => rw [appl_no G ht]; exact hb _

set_option maxRecDepth 20000 in
set_option maxHeartbeats 2000000 in
theorem saysI_applied (Z : World) (tb fb : Nat) (a : Option Addr) (n cap : Nat) (ns : List NodeD) (hr : NRow Z a n ns) (G : Nat → List UInt8 × Bool → List UInt8 × Bool) (f b : Nat) (hf : f < n) (hb : b < n)
    (hb9 : (node ns b).k = 9 → 0 < (node ns b).kids.length ∧ (node ns b).kids.getD 0 0 = ((kidN (node ns b) 0 : Nat) : Int) ∧ kidN (node ns b) 0 < n)
    (hkf : SaysI Z tb fb 39 #[prV a n cap tb fb, .int .i64 (f : Nat)] (G f)) (hm : ∀ st, lenP st ≤ lenP (G b st))
    (hF : SaysI Z tb fb 136 #[prV a n cap tb fb, .int .i64 (b : Nat), .bool false] (G b)) (hT : SaysI Z tb fb 136 #[prV a n cap tb fb, .int .i64 (b : Nat), .bool true] (fun st => sayS looksD (G b (sayS looksD st 40)) 41)) :
    SaysI Z tb fb 131 #[prV a n cap tb fb, .int .i64 (f : Nat), .int .i64 (b : Nat)] (applP looksD ns G f b) := by
  intro w st h hq
  have HB0 := hide (IB.one h a n cap)
  obtain ⟨p0, p1⟩ := cells2 (unhide HB0).at0
  have HKF := hide hkf
  have HQ1 : Hid (lenP (G f st) ≤ mostP) := Nat.le_trans (appl_mono G f b hm st) hq
  have HPC : Hid (∀ v (r : Bool), primB (node ns f) 1 16 = r → Below Z.heap.size Z v → Calls Tryz.prog 119 #[.agg #[.slice a n cap], .int .i64 (f : Nat), .int .i64 1, .int .i64 16] v fun e w' => e = .returned (.bool r) ∧ Below v.heap.size v w') := fun v r h1 hv => primOk _ n cap ns _ (hr.below (Nat.le_refl _) hv).weak f hf 1 16 r h1
  have HBC : Hid (∀ v (r : Bool), repB ns b = r → Below Z.heap.size Z v → Calls Tryz.prog 177 #[prV a n cap tb fb, .int .i64 (b : Nat)] v fun e w' => e = .returned (.bool r) ∧ Below v.heap.size v w') := fun v r h1 hv => by rw [← h1]; exact begins_any a n cap tb fb ns v (hr.below (Nat.le_refl _) hv) b hb hb9
  have HF := hide hF
  have HT := hide hT
  have hTR := takes_eq ns f b
  obtain ⟨r1, h1⟩ : ∃ r, primB (node ns f) 1 16 = r := ⟨_, rfl⟩
  obtain ⟨r2, h2⟩ : ∃ r, repB ns b = r := ⟨_, rfl⟩
  have HPC1 := hide (fun v => unhide HPC v r1 h1)
  have HBC1 := hide (fun v => unhide HBC v r2 h2)
  rw [h1, h2] at hTR
  clear h hr hkf hm hF hT HPC HBC h1 h2 hb9
  cases r1 with
  | false =>
    have hA := appl_no (L := looksD) G (by rw [hTR]; rfl) st
    rw [hA] at hq ⊢
    have HQ2 := hide hq
    clear hq hA hTR HBC1
    go_enter Tryz.func131, Tryz.ntmps131
    go_wp2_with (first | (go_at_call 39; refine ((unhide HB0).call (unhide HKF) (unhide HQ1)).mono ?_; rintro e w1 ⟨⟨v1, rfl⟩, hb1⟩; obtain ⟨p0, p1⟩ := cells2 hb1.at0; have HB1 := hide hb1; clear hb1 HB0) | (go_at_call 119; refine (unhide HPC1 _ (unhide HB1).ix.low).mono ?_; rintro e w2 ⟨rfl, hb2⟩; have hb3 := (unhide HB1).below hb2; obtain ⟨p0, p1⟩ := cells2 hb3.at0; have HB2 := hide hb3; clear hb2 hb3) | (go_at_call 136; refine ((unhide HB2).call (unhide HF) (unhide HQ2)).mono ?_; rintro e w4 ⟨⟨v4, rfl⟩, hb4⟩; have HB4 := hide hb4; clear hb4))
    go_end0
    exact ⟨⟨_, rfl⟩, (unhide HB4).ix, (unhide HB4).kept⟩
  | true =>
    cases r2 with
    | false =>
      have hA := appl_no (L := looksD) G (by rw [hTR]; rfl) st
      rw [hA] at hq ⊢
      have HQ2 := hide hq
      clear hq hA hTR
      go_enter Tryz.func131, Tryz.ntmps131
      go_wp2_with (first | (go_at_call 39; refine ((unhide HB0).call (unhide HKF) (unhide HQ1)).mono ?_; rintro e w1 ⟨⟨v1, rfl⟩, hb1⟩; obtain ⟨p0, p1⟩ := cells2 hb1.at0; have HB1 := hide hb1; clear hb1 HB0) | (go_at_call 119; refine (unhide HPC1 _ (unhide HB1).ix.low).mono ?_; rintro e w2 ⟨rfl, hb2⟩; have hb3 := (unhide HB1).below hb2; obtain ⟨p0, p1⟩ := cells2 hb3.at0; have HB2 := hide hb3; clear hb2 hb3) | (go_at_call 177; refine (unhide HBC1 _ (unhide HB2).ix.low).mono ?_; rintro e w3 ⟨rfl, hb2⟩; have hb3 := (unhide HB2).below hb2; obtain ⟨p0, p1⟩ := cells2 hb3.at0; have HB3 := hide hb3; clear hb2 hb3) | (go_at_call 136; refine ((unhide HB3).call (unhide HF) (unhide HQ2)).mono ?_; rintro e w4 ⟨⟨v4, rfl⟩, hb4⟩; have HB4 := hide hb4; clear hb4))
      go_end0
      exact ⟨⟨_, rfl⟩, (unhide HB4).ix, (unhide HB4).kept⟩
    | true =>
      have hA : applP looksD ns G f b st = sayS looksD (G b (sayS looksD (G f st) 40)) 41 := by unfold applP; rw [if_pos (by rw [hTR]; rfl)]
      rw [hA] at hq ⊢
      have HQ2 := hide hq
      clear hq hA hTR
      go_enter Tryz.func131, Tryz.ntmps131
      go_wp2_with (first | (go_at_call 39; refine ((unhide HB0).call (unhide HKF) (unhide HQ1)).mono ?_; rintro e w1 ⟨⟨v1, rfl⟩, hb1⟩; obtain ⟨p0, p1⟩ := cells2 hb1.at0; have HB1 := hide hb1; clear hb1 HB0) | (go_at_call 119; refine (unhide HPC1 _ (unhide HB1).ix.low).mono ?_; rintro e w2 ⟨rfl, hb2⟩; have hb3 := (unhide HB1).below hb2; obtain ⟨p0, p1⟩ := cells2 hb3.at0; have HB2 := hide hb3; clear hb2 hb3) | (go_at_call 177; refine (unhide HBC1 _ (unhide HB2).ix.low).mono ?_; rintro e w3 ⟨rfl, hb2⟩; have hb3 := (unhide HB2).below hb2; obtain ⟨p0, p1⟩ := cells2 hb3.at0; have HB3 := hide hb3; clear hb2 hb3) | (go_at_call 136; refine ((unhide HB3).call (unhide HT) (unhide HQ2)).mono ?_; rintro e w4 ⟨⟨v4, rfl⟩, hb4⟩; have HB4 := hide hb4; clear hb4))
      go_end0
      exact ⟨⟨_, rfl⟩, (unhide HB4).ix, (unhide HB4).kept⟩

end Go.Proofs.YtinndpnilmmmjaaGreatDoor
namespace Go.Proofs.YtinndpnilmmmjaaGreatDoor
open Go.RowKit

/-- The developers' row of primitives, and where each begins. -/
def primBs : ByteArray := ⟨(primCs.flatMap fun c => (encZ ((c : Nat) : Int)).map fun x => x.toNat.toUInt8).toArray⟩
def offP (k : Nat) : Nat := ((primCs.take k).map fun c => (encZ ((c : Nat) : Int)).length).sum

theorem primP_all : ((List.range 33).all fun k => decide (Utf8.decode primBs (offP k) = (primCs.getD k 0, offP (k + 1) - offP k)) && (decide (offP k < primBs.size) && (decide (offP k < offP (k + 1)) && decide (Utf8.encode ((primCs.getD k 0 : Nat) : Int) = primT k)))) = true := by kernel_rfl

theorem primP_at {k : Nat} (h : k < 33) : Utf8.decode primBs (offP k) = (primCs.getD k 0, offP (k + 1) - offP k) ∧ offP k < primBs.size ∧ offP k < offP (k + 1) ∧ Utf8.encode ((primCs.getD k 0 : Nat) : Int) = primT k := by
  have := List.all_eq_true.mp primP_all k (by simpa using h)
  simp only [Bool.and_eq_true, decide_eq_true_eq] at this
  exact this

theorem iter_start (w : World) (x : ByteArray) (h : x = primBs) : (w.alloc (.stringIter x 0)).heap[w.heap.size]? = some (.stringIter primBs 0) := by
  rw [h]
  show (w.heap.push _)[w.heap.size]? = _
  simp

theorem offP_0 : offP 0 = 0 := rfl

set_option maxRecDepth 20000 in
set_option maxHeartbeats 2000000 in
theorem primSign_any (N : Nat) (hN : 1 ≤ N ∧ N ≤ 33) (w : World) :
    Calls Tryz.prog 132 #[.int .i64 ((N : Nat) : Int)] w fun e w' => e = .returned (.string (primT (N - 1))) ∧ Below w.heap.size w w' := by
  go_enter Tryz.func132, Tryz.ntmps132
  go_wp2_with fail
  go_loopw [0] (fun u wr => ∃ (j : Nat), u = .int .i64 ((N : Int) - (j : Int)) ∧ j < N ∧ Hid (wr.heap[w.heap.size]? = some (.stringIter primBs (offP j))) ∧ Hid (Below w.heap.size w wr)) (fun e _ => (intOf e).toNat)
  case atStart =>
    refine ⟨0, by simp, by omega, hide ?_, hide ((Below.refl _ _).alloc (Nat.le_refl _) _)⟩
    rw [offP_0]
    exact iter_start w _ (by kernel_rfl)
  case round =>
    obtain ⟨j, rfl, hj, HI, HB⟩ := hrel
    obtain ⟨h1, h2, h3, h4⟩ := primP_at (show j < 33 by omega)
    have hnx : ∀ ty, (Instr.next (.pointer (some ⟨w.heap.size, 0, none⟩)) true ty).run Tryz.prog wr = _ := fun ty => Lib.run_next_any_at wr w.heap.size primBs (offP j) ty (unhide HI) h2
    rw [h1] at hnx
    have e1 : offP j + (offP (j + 1) - offP j) = offP (j + 1) := by omega
    simp only [e1] at hnx
    have HI1 : Hid ((wr.iterAt w.heap.size primBs (offP (j + 1))).heap[w.heap.size]? = some (.stringIter primBs (offP (j + 1)))) := Lib.iterAt_heap _ _ _ _ _ (unhide HI)
    have HB1 := hide (Lib.below_iterAt (unhide HB) (Nat.le_refl _) primBs (offP (j + 1)))
    obtain ⟨wr1, hw1⟩ : ∃ W, wr.iterAt w.heap.size primBs (offP (j + 1)) = W := ⟨_, rfl⟩
    rw [hw1] at HI1 HB1 hnx
    have hcv := conv_any (primCs.getD j 0) (primT j) h4
    obtain ⟨v, hv⟩ : ∃ v, primCs.getD j 0 = v := ⟨_, rfl⟩
    rw [hv] at hnx hcv
    obtain ⟨z, hz⟩ : ∃ z : Int, ((v : Nat) : Int) = z := ⟨_, rfl⟩
    rw [hz] at hnx hcv
    clear h1 h2 h3 h4 hw1 hv hz e1
    by_cases hlast : j + 1 = N
    case pos =>
      have ez : (N : Int) - (j : Int) = 1 := by omega
      have e3 : N - 1 = j := by omega
      rw [ez]
      go_wp2_with fail
      go_ret
      exact ⟨by rw [e3]; rfl, unhide HB1⟩
    case neg =>
      have ez : ((N : Int) - (j : Int) - 1 == 0) = false := by simp; omega
      have hw2 : IntKind.i64.wrap ((N : Int) - (j : Int) - 1) = (N : Int) - (j : Int) - 1 := by rw [IntKind.wrap_i64]; omega
      go_wp2_with fail
      go_roundw
      case rel => exact ⟨j + 1, by go_num, by omega, HI1, HB1⟩
      case measure => simp [intOf]; omega

end Go.Proofs.YtinndpnilmmmjaaGreatDoor
