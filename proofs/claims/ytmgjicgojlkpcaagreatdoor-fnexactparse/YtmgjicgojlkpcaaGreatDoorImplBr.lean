import Derived.Test.YtmgjicgojlkpcaaGreatDoorImplSigns
import Derived.Test.YtmgjicgojlkpcaaGreatDoorSpecNode
import Derived.Test.YtmgjicgojlkpcaaGreatDoorImplTree
namespace Go.Proofs.YtmgjicgojlkpcaaGreatDoor
open Go.RowKit

theorem saysI_sgn (Z : World) (tb fb : Nat) (hG : GlTree Z) (a : Option Addr) (n cap : Nat) (s : ByteArray) (c : Nat) (hc : c ∈ signCs) (hs : s.data.toList = looksD.sg c) : SaysI Z tb fb 128 #[prV a n cap tb fb, .string s] (fun st => sayS looksD st c) :=
  saysI_sign Z tb fb hG a n cap s c hc (by
    rw [looks_sg] at hs
    exact ByteArray.ext (Array.toList_inj.1 hs))

set_option maxRecDepth 20000 in
set_option maxHeartbeats 2000000 in
theorem saysI_brF (Z : World) (tb fb : Nat) (a : Option Addr) (n cap : Nat) (G : Nat → List UInt8 × Bool → List UInt8 × Bool) (z : Nat) (hn : SaysI Z tb fb 39 #[prV a n cap tb fb, .int .i64 (z : Nat)] (G z)) : SaysI Z tb fb 136 #[prV a n cap tb fb, .int .i64 (z : Nat), .bool false] (G z) := by
  intro w st h hq
  have HN := hide hn
  have HQ1 := hide hq
  have HB0 := hide (IB.one h a n cap)
  obtain ⟨p0, p1⟩ := cells2 (unhide HB0).at0
  clear h hq hn
  go_enter Tryz.func136, Tryz.ntmps136
  go_wp2_with (go_at_call 39; refine ((unhide HB0).call (unhide HN) (unhide HQ1)).mono ?_; rintro e w1 ⟨⟨v1, rfl⟩, hb1⟩; obtain ⟨p0, p1⟩ := cells2 hb1.at0; have HB1 := hide hb1; clear hb1 HB0)
  (try simp only [Exit.inBlock, Exit.then])
  refine bodyPost_ret (results_none rfl _ _ _) rfl ?_
  exact ⟨⟨_, rfl⟩, (unhide HB1).ix, (unhide HB1).kept⟩

set_option maxRecDepth 20000 in
set_option maxHeartbeats 2000000 in
theorem saysI_brT (Z : World) (tb fb : Nat) (hG : GlTree Z) (a : Option Addr) (n cap : Nat) (G : Nat → List UInt8 × Bool → List UInt8 × Bool) (z : Nat) (hn : SaysI Z tb fb 39 #[prV a n cap tb fb, .int .i64 (z : Nat)] (G z)) (hm : ∀ st, lenP st ≤ lenP (G z st)) : SaysI Z tb fb 136 #[prV a n cap tb fb, .int .i64 (z : Nat), .bool true] (fun st => sayS looksD (G z (sayS looksD st 40)) 41) := by
  intro w st h hq
  have HN := hide hn
  have HO := hide (saysI_sgn Z tb fb hG a n cap ⟨#[40]⟩ 40 (by decide) (by kernel_rfl))
  have HE := hide (saysI_sgn Z tb fb hG a n cap ⟨#[41]⟩ 41 (by decide) (by kernel_rfl))
  have hq3 : lenP (sayS looksD (G z (sayS looksD st 40)) 41) ≤ mostP := hq
  have hq2 : lenP (G z (sayS looksD st 40)) ≤ mostP := Nat.le_trans ((say_len _ _ _).1) hq3
  have hq1 : lenP (sayS looksD st 40) ≤ mostP := Nat.le_trans (hm _) hq2
  have HQ1 := hide hq1
  have HQ2 := hide hq2
  have HQ3 := hide hq3
  clear hq1 hq2 hq3
  have HB0 := hide (IB.one h a n cap)
  obtain ⟨p0, p1⟩ := cells2 (unhide HB0).at0
  clear h hq hn hm hG
  go_enter Tryz.func136, Tryz.ntmps136
  go_wp2_with (first | (go_at_call 128; refine ((unhide HB0).call (unhide HO) (unhide HQ1)).mono ?_; rintro e w1 ⟨⟨v1, rfl⟩, hb1⟩; obtain ⟨p0, p1⟩ := cells2 hb1.at0; have HB1 := hide hb1; clear hb1 HB0) | (go_at_call 39; refine ((unhide HB1).call (unhide HN) (unhide HQ2)).mono ?_; rintro e w2 ⟨⟨v2, rfl⟩, hb2⟩; obtain ⟨p0, p1⟩ := cells2 hb2.at0; have HB2 := hide hb2; clear hb2 HB1) | (go_at_call 128; refine ((unhide HB2).call (unhide HE) (unhide HQ3)).mono ?_; rintro e w3 ⟨⟨v3, rfl⟩, hb3⟩; obtain ⟨p0, p1⟩ := cells2 hb3.at0; have HB3 := hide hb3; clear hb3 HB2))
  go_end0
  exact ⟨⟨_, rfl⟩, (unhide HB3).ix, (unhide HB3).kept⟩

set_option maxRecDepth 20000 in
set_option maxHeartbeats 2000000 in
theorem saysI_assigned (Z : World) (tb fb : Nat) (hG : GlTree Z) (a : Option Addr) (n cap : Nat) (G : Nat → List UInt8 × Bool → List UInt8 × Bool) (z : Nat) (hn : SaysI Z tb fb 39 #[prV a n cap tb fb, .int .i64 (z : Nat)] (G z)) (hm : ∀ st, lenP st ≤ lenP (G z st)) : SaysI Z tb fb 135 #[prV a n cap tb fb, .int .i64 (z : Nat)] (fun st => G z (sayS looksD st 8592)) := by
  intro w st h hq
  have HN := hide hn
  have HO := hide (saysI_sgn Z tb fb hG a n cap ⟨#[226, 134, 144]⟩ 8592 (by decide) (by kernel_rfl))
  have hq2 : lenP (G z (sayS looksD st 8592)) ≤ mostP := hq
  have hq1 : lenP (sayS looksD st 8592) ≤ mostP := Nat.le_trans (hm _) hq2
  have HQ1 := hide hq1
  have HQ2 := hide hq2
  clear hq1 hq2
  have HB0 := hide (IB.one h a n cap)
  obtain ⟨p0, p1⟩ := cells2 (unhide HB0).at0
  clear h hq hn hm hG
  go_enter Tryz.func135, Tryz.ntmps135
  go_wp2_with (first | (go_at_call 128; refine ((unhide HB0).call (unhide HO) (unhide HQ1)).mono ?_; rintro e w1 ⟨⟨v1, rfl⟩, hb1⟩; obtain ⟨p0, p1⟩ := cells2 hb1.at0; have HB1 := hide hb1; clear hb1 HB0) | (go_at_call 39; refine ((unhide HB1).call (unhide HN) (unhide HQ2)).mono ?_; rintro e w2 ⟨⟨v2, rfl⟩, hb2⟩; obtain ⟨p0, p1⟩ := cells2 hb2.at0; have HB2 := hide hb2; clear hb2 HB1))
  go_end0
  exact ⟨⟨_, rfl⟩, (unhide HB2).ix, (unhide HB2).kept⟩

set_option maxRecDepth 20000 in
set_option maxHeartbeats 2000000 in
theorem saysI_along (Z : World) (tb fb : Nat) (a : Option Addr) (n cap : Nat) (m : Int) (l f : ByteArray) (cl cf : Nat) (hm : 0 ≤ m ∧ m ≤ 1) (hl : SaysI Z tb fb 128 #[prV a n cap tb fb, .string l] (fun st => sayS looksD st cl)) (hf : SaysI Z tb fb 128 #[prV a n cap tb fb, .string f] (fun st => sayS looksD st cf)) : SaysI Z tb fb 133 #[prV a n cap tb fb, .int .i64 m, .string l, .string f] (fun st => sayS looksD st (if m = 0 then cl else cf)) := by
  intro w st h hq
  have HL := hide hl
  have HF := hide hf
  have HB0 := hide (IB.one h a n cap)
  obtain ⟨p0, p1⟩ := cells2 (unhide HB0).at0
  have hq' : lenP (sayS looksD st (if m = 0 then cl else cf)) ≤ mostP := hq
  have hm2 : m = 0 ∨ m = 1 := by omega
  show Calls _ _ _ _ fun e w' => _ ∧ IX Z tb fb w' (sayS looksD st (if m = 0 then cl else cf)) ∧ _
  clear h hq hl hf hm
  rcases hm2 with rfl | rfl
  · rw [if_pos rfl] at hq' ⊢
    have HQ1 := hide hq'
    clear hq'
    go_enter Tryz.func133, Tryz.ntmps133
    go_wp2_with (go_at_call 128; refine ((unhide HB0).call (unhide HL) (unhide HQ1)).mono ?_; rintro e w1 ⟨⟨v1, rfl⟩, hb1⟩; obtain ⟨p0, p1⟩ := cells2 hb1.at0; have HB1 := hide hb1; clear hb1 HB0)
    go_end0
    exact ⟨⟨_, rfl⟩, (unhide HB1).ix, (unhide HB1).kept⟩
  · rw [if_neg (by decide)] at hq' ⊢
    have HQ1 := hide hq'
    clear hq'
    go_enter Tryz.func133, Tryz.ntmps133
    go_wp2_with (go_at_call 128; refine ((unhide HB0).call (unhide HF) (unhide HQ1)).mono ?_; rintro e w1 ⟨⟨v1, rfl⟩, hb1⟩; obtain ⟨p0, p1⟩ := cells2 hb1.at0; have HB1 := hide hb1; clear hb1 HB0)
    go_end0
    exact ⟨⟨_, rfl⟩, (unhide HB1).ix, (unhide HB1).kept⟩

set_option maxRecDepth 20000 in
set_option maxHeartbeats 2000000 in
theorem saysI_operand (Z : World) (tb fb : Nat) (a : Option Addr) (n cap : Nat) (ns : List NodeD) (hr : NRow Z a n ns) (G : Nat → List UInt8 × Bool → List UInt8 × Bool) (z : Nat) (hz : z < n) (hF : SaysI Z tb fb 136 #[prV a n cap tb fb, .int .i64 (z : Nat), .bool false] (G z)) (hT : SaysI Z tb fb 136 #[prV a n cap tb fb, .int .i64 (z : Nat), .bool true] (fun st => sayS looksD (G z (sayS looksD st 40)) 41)) : SaysI Z tb fb 129 #[prV a n cap tb fb, .int .i64 (z : Nat)] (operP looksD ns G z) := by
  intro w st h hq
  have hsm := hr.small
  have HB0 := hide (IB.one h a n cap)
  obtain ⟨p0, p1⟩ := cells2 (unhide HB0).at0
  obtain ⟨b, off, rfl, hbl, s1, n1, c1, s2, n2, c2, x0, _⟩ := hr.get hz
  have c0 := ((unhide HB0).ix.low.cell (p := ⟨b, off + z * 6, none⟩) hbl).trans x0
  have hzi : (z : Int) < (n : Int) := by omega
  obtain ⟨kk, hkk⟩ : ∃ k, (node ns z).k = k := ⟨_, rfl⟩
  rw [hkk] at c0
  have HF := hide hF
  have HT := hide hT
  clear x0 hr
  by_cases hb : kk = 9 ∨ kk = 10
  · have eq : operP looksD ns G z st = sayS looksD (G z (sayS looksD st 40)) 41 := by unfold operP; rw [hkk, if_pos hb]
    rw [eq] at hq ⊢
    have HQ1 := hide hq
    have hb2 : kk = 9 ∨ (¬ kk = 9 ∧ kk = 10) := by omega
    clear hb h hq hF hT eq hkk
    rcases hb2 with rfl | ⟨_, rfl⟩ <;>
    · go_enter Tryz.func129, Tryz.ntmps129
      go_wp2_with (go_at_call 136; refine ((unhide HB0).call (unhide HT) (unhide HQ1)).mono ?_; rintro e w1 ⟨⟨v1, rfl⟩, hb1⟩; obtain ⟨p0, p1⟩ := cells2 hb1.at0; have HB1 := hide hb1; clear hb1 HB0)
      go_end0
      exact ⟨⟨_, rfl⟩, (unhide HB1).ix, (unhide HB1).kept⟩
  · have eq : operP looksD ns G z st = G z st := by unfold operP; rw [hkk, if_neg hb]
    rw [eq] at hq ⊢
    have HQ1 := hide hq
    have h9 : (kk == 9) = false := by simp; omega
    have h10 : (kk == 10) = false := by simp; omega
    clear hb h hq hF hT eq hkk
    go_enter Tryz.func129, Tryz.ntmps129
    go_wp2_with (go_at_call 136; refine ((unhide HB0).call (unhide HF) (unhide HQ1)).mono ?_; rintro e w1 ⟨⟨v1, rfl⟩, hb1⟩; obtain ⟨p0, p1⟩ := cells2 hb1.at0; have HB1 := hide hb1; clear hb1 HB0)
    go_end0
    exact ⟨⟨_, rfl⟩, (unhide HB1).ix, (unhide HB1).kept⟩

set_option maxRecDepth 20000 in
set_option maxHeartbeats 2000000 in
theorem saysI_series (Z : World) (tb fb : Nat) (a : Option Addr) (n cap : Nat) (G : Nat → List UInt8 × Bool → List UInt8 × Bool) (c : Nat) (sg : ByteArray) (ka : Option Addr) (kn kc : Nat) (hsg : SaysI Z tb fb 128 #[prV a n cap tb fb, .string sg] (fun st => sayS looksD st c)) (zs : List Int) (hr : Row Z ka kn zs)
    (hz : ∀ q, q < kn → zs.getD q 0 = (((zs.getD q 0).toNat : Nat) : Int)) (hk : ∀ q, q < kn → SaysI Z tb fb 39 #[prV a n cap tb fb, .int .i64 ((zs.getD q 0).toNat : Nat)] (G (zs.getD q 0).toNat)) (hm : ∀ q, q < kn → ∀ st, lenP st ≤ lenP (G (zs.getD q 0).toNat st)) :
    SaysI Z tb fb 134 #[prV a n cap tb fb, .string sg, .slice ka kn kc] (listP looksD G c zs kn) := by
  intro w st h hl
  have hsm := hr.small
  have HB0 := hide (IB.one h a n cap)
  have HR := hide hr
  have HZ := hide hz
  have HK := hide hk
  have HM := hide hm
  have HL := hide hl
  have HSY := hide hsg
  clear h hr hz hk hm hl hsg
  go_enter Tryz.func134, Tryz.ntmps134
  go_wp2_with fail
  go_loopw [10] (fun u wr => ∃ (k : Nat), u = .int .i64 (k : Nat) ∧ k ≤ kn ∧ Hid (IB Z tb fb w [(w.heap.size, prO a n cap tb fb)] wr (listP looksD G c zs k st))) (fun e _ => kn - (intOf e).toNat)
  case atStart => exact ⟨0, rfl, Nat.zero_le _, HB0⟩
  case round =>
    clear HB0
    obtain ⟨k, rfl, hkn, HX⟩ := hrel
    obtain ⟨p0, p1⟩ := cells2 (unhide HX).at0
    by_cases hlt : k < kn
    case neg =>
      have he : k = kn := by omega
      subst he
      have hlti : ¬ (k : Int) < (k : Int) := by omega
      go_wp2_with fail
      go_end0
      exact ⟨⟨_, rfl⟩, (unhide HX).ix, (unhide HX).kept⟩
    case pos =>
      have hlti : (k : Int) < (kn : Int) := by omega
      obtain ⟨b, off, rfl, hbl, hc⟩ := (unhide HR).get hlt
      have hzk := unhide HZ k hlt
      have HKk := hide (unhide HK k hlt)
      have h1 := list_step looksD G c zs st (unhide HM k hlt)
      have h2 := list_mono looksD G c zs st (fun q hq => unhide HM q hq) (kn - (k + 1)) (k + 1) (by omega)
      have hl := unhide HL
      rw [hzk] at hc
      have hcw := ((unhide HX).ix.low.cell (p := ⟨b, off + k, none⟩) hbl).trans hc
      have HNX : Hid (listP looksD G c zs (k + 1) st = G (zs.getD k 0).toNat (if 0 < k then sayS looksD (listP looksD G c zs k st) c else listP looksD G c zs k st)) := by show _ = _; rw [listP]
      obtain ⟨kid, hkid⟩ : ∃ kid, (zs.getD k 0).toNat = kid := ⟨_, rfl⟩
      rw [hkid] at HKk hcw HNX
      have HL1 : Hid (lenP (if 0 < k then sayS looksD (listP looksD G c zs k st) c else listP looksD G c zs k st) ≤ mostP) := by show _ ≤ _; omega
      have HL2 : Hid (lenP (listP looksD G c zs (k + 1) st) ≤ mostP) := by show _ ≤ _; omega
      clear hzk h1 h2 hl hc hkid
      by_cases hk0 : 0 < k
      case pos =>
        have hk0i : (0 : Int) < (k : Int) := by omega
        rw [if_pos hk0] at HNX HL1
        rw [unhide HNX] at HL2
        clear hk0
        go_wp2_with (first | (go_at_call 128; refine ((unhide HX).call (unhide HSY) (unhide HL1)).mono ?_; rintro e w5 ⟨⟨v5, rfl⟩, hb5⟩; obtain ⟨r0, r1⟩ := cells2 hb5.at0; have HB5 := hide hb5; clear hb5) | (go_at_call 39; refine ((unhide HB5).call (unhide HKk) (unhide HL2)).mono ?_; rintro e w6 ⟨⟨v6, rfl⟩, hb6⟩; have HB6 := hide hb6; clear hb6))
        go_roundw
        case rel =>
          refine ⟨k + 1, by go_num, by omega, ?_⟩
          rw [unhide HNX]
          exact HB6
        case measure => simp [intOf]; omega
      case neg =>
        have hk0e : k = 0 := by omega
        subst hk0e
        rw [if_neg hk0] at HNX HL1
        rw [unhide HNX] at HL2
        rw [Nat.add_zero] at hcw
        clear hk0
        go_wp2_with (go_at_call 39; refine ((unhide HX).call (unhide HKk) (unhide HL2)).mono ?_; rintro e w6 ⟨⟨v6, rfl⟩, hb6⟩; have HB6 := hide hb6; clear hb6)
        go_roundw
        case rel =>
          refine ⟨1, by go_num, by omega, ?_⟩
          rw [unhide HNX]
          exact HB6
        case measure => simp [intOf]; omega

set_option maxRecDepth 20000 in
set_option maxHeartbeats 2000000 in
theorem saysI_parts (Z : World) (tb fb : Nat) (hG : GlTree Z) (a : Option Addr) (n cap : Nat) (G : Nat → List UInt8 × Bool → List UInt8 × Bool) (ka : Option Addr) (kn kc : Nat) (zs : List Int) (hS : SaysI Z tb fb 134 #[prV a n cap tb fb, .string ⟨#[59]⟩, .slice ka kn kc] (listP looksD G 59 zs kn)) (hm : ∀ st, lenP st ≤ lenP (listP looksD G 59 zs kn st)) : SaysI Z tb fb 130 #[prV a n cap tb fb, .slice ka kn kc] (fun st => sayS looksD (listP looksD G 59 zs kn (sayS looksD st 91)) 93) := by
  intro w st h hq
  have HS := hide hS
  have HO := hide (saysI_sgn Z tb fb hG a n cap ⟨#[91]⟩ 91 (by decide) (by kernel_rfl))
  have HE := hide (saysI_sgn Z tb fb hG a n cap ⟨#[93]⟩ 93 (by decide) (by kernel_rfl))
  have hq3 : lenP (sayS looksD (listP looksD G 59 zs kn (sayS looksD st 91)) 93) ≤ mostP := hq
  have hq2 : lenP (listP looksD G 59 zs kn (sayS looksD st 91)) ≤ mostP := Nat.le_trans ((say_len _ _ _).1) hq3
  have hq1 : lenP (sayS looksD st 91) ≤ mostP := Nat.le_trans (hm _) hq2
  have HQ1 := hide hq1
  have HQ2 := hide hq2
  have HQ3 := hide hq3
  clear hq1 hq2 hq3
  have HB0 := hide (IB.one h a n cap)
  obtain ⟨p0, p1⟩ := cells2 (unhide HB0).at0
  clear h hq hS hm hG
  go_enter Tryz.func130, Tryz.ntmps130
  go_wp2_with (first | (go_at_call 128; refine ((unhide HB0).call (unhide HO) (unhide HQ1)).mono ?_; rintro e w1 ⟨⟨v1, rfl⟩, hb1⟩; obtain ⟨p0, p1⟩ := cells2 hb1.at0; have HB1 := hide hb1; clear hb1 HB0) | (go_at_call 134; refine ((unhide HB1).call (unhide HS) (unhide HQ2)).mono ?_; rintro e w2 ⟨⟨v2, rfl⟩, hb2⟩; obtain ⟨p0, p1⟩ := cells2 hb2.at0; have HB2 := hide hb2; clear hb2 HB1) | (go_at_call 128; refine ((unhide HB2).call (unhide HE) (unhide HQ3)).mono ?_; rintro e w3 ⟨⟨v3, rfl⟩, hb3⟩; obtain ⟨p0, p1⟩ := cells2 hb3.at0; have HB3 := hide hb3; clear hb3 HB2))
  go_end0
  exact ⟨⟨_, rfl⟩, (unhide HB3).ix, (unhide HB3).kept⟩

end Go.Proofs.YtmgjicgojlkpcaaGreatDoor
