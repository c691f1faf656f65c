import Derived.Test.YtmgjicgojlkpcaaGreatDoorSpecSay
namespace Go.Proofs.YtmgjicgojlkpcaaGreatDoor
open Go.RowKit

/-- The writer in a run that began in the world Z: all that lay there stands. -/
structure SX (Z : World) (p : Nat) (a : Option Addr) (n cap : Nat) (w : World) (g gc : Nat) (st : List UInt8 × Bool) : Prop where
  sw : SW Z.heap.size w p a n cap g gc st
  low : Below Z.heap.size Z w
  hp : Z.heap.size ≤ p

def Went (Z : World) (p : Nat) (a : Option Addr) (n cap : Nat) (w : World) (g : Nat) (st' : List UInt8 × Bool) (w' : World) : Prop := ∃ g' gc', SX Z p a n cap w' g' gc' st' ∧ But (fun x => x = p ∨ x = g) w w' ∧ (g' = g ∨ w.heap.size ≤ g')

section
variable {Z w w1 w2 : World} {p : Nat} {a : Option Addr} {n cap g gc g1 : Nat} {st st' st2 : List UInt8 × Bool}

theorem SX.wrote (h : SX Z p a n cap w g gc st) (hw : Wrote Z.heap.size w p a n cap g st' w1) : Went Z p a n cap w g st' w1 := by
  obtain ⟨g', gc', h1, h2, h3⟩ := hw
  have hlt := h.sw.lt
  have hp := h.hp
  exact ⟨g', gc', ⟨h1, h.low.trans (h2.below h.low.size (fun k hk => by omega)), hp⟩, h2, h3⟩

theorem Went.trans (hb : But (fun x => x = p ∨ x = g) w w1) (hg : g1 = g ∨ w.heap.size ≤ g1) (h : Went Z p a n cap w1 g1 st2 w2) : Went Z p a n cap w g st2 w2 := by
  obtain ⟨g2, gc2, h1, h2, h3⟩ := h
  have hz := hb.size
  refine ⟨g2, gc2, h1, ⟨h2.os.trans hb.os, h2.tape.trans hb.tape, h2.output.trans hb.output, Nat.le_trans hz h2.size, fun k hk hn => ?_⟩, by omega⟩
  exact (h2.block k (by omega) (fun e => hn (by omega))).trans (hb.block k hk hn)

theorem SX.below (h : SX Z p a n cap w g gc st) (hb : Below w.heap.size w w1) : SX Z p a n cap w1 g gc st := ⟨h.sw.below hb, h.low.trans (hb.mono h.low.size), h.hp⟩

theorem SX.row (h : SX Z p a n cap w g gc st) {ka : Option Addr} {kn : Nat} {zs : List Int} (hr : Row Z ka kn zs) : Row w ka kn zs := hr.below (Nat.le_refl _) h.low

end

def mostP : Nat := 1000000000000

/-- A call that writes. -/
def SaysP (Z : World) (p : Nat) (a : Option Addr) (n cap : Nat) (f : Nat) (args : Array Value) (F : List UInt8 × Bool → List UInt8 × Bool) : Prop :=
  ∀ w g gc st, SX Z p a n cap w g gc st → lenP (F st) ≤ mostP → Calls Tryz.prog f args w fun e w' => (∃ v, e = .returned v) ∧ Went Z p a n cap w g (F st) w'

theorem says_say (Z : World) (p : Nat) (a : Option Addr) (n cap : Nat) (s : ByteArray) (wd : Bool) : SaysP Z p a n cap 72 #[.pointer (some ⟨p, 0, none⟩), .string s, .bool wd] (fun st => sayP st s.data.toList wd) := by
  intro w g gc st h hl
  have h1 : lenP st + s.size ≤ lenP (sayP st s.data.toList wd) := by
    unfold lenP sayP
    simp only [List.length_append, ← Lib.size_eq]
    omega
  refine (say_any Z.heap.size p n cap g gc a st s wd w h.sw (by have hl' : lenP (sayP st s.data.toList wd) ≤ mostP := hl; unfold mostP at hl'; omega)).mono ?_
  rintro e w' ⟨hv, hw⟩
  exact ⟨hv, h.wrote hw⟩

section
variable (L : Looks)

theorem list_step (G : Nat → List UInt8 × Bool → List UInt8 × Bool) (c : Nat) (zs : List Int) (st : List UInt8 × Bool) {k : Nat} (hm : ∀ st, lenP st ≤ lenP (G (zs.getD k 0).toNat st)) :
    lenP (listP L G c zs k st) ≤ lenP (if 0 < k then sayS L (listP L G c zs k st) c else listP L G c zs k st) ∧ lenP (if 0 < k then sayS L (listP L G c zs k st) c else listP L G c zs k st) ≤ lenP (listP L G c zs (k + 1) st) := by
  rw [listP]
  refine ⟨?_, hm _⟩
  split
  · exact (say_len _ _ _).1
  · exact Nat.le_refl _

theorem list_mono (G : Nat → List UInt8 × Bool → List UInt8 × Bool) (c : Nat) (zs : List Int) (st : List UInt8 × Bool) {m : Nat} (hm : ∀ q, q < m → ∀ st, lenP st ≤ lenP (G (zs.getD q 0).toNat st)) : ∀ d k, k + d = m → lenP (listP L G c zs k st) ≤ lenP (listP L G c zs m st)
  | 0, k, h => by rw [show k = m by omega]; exact Nat.le_refl _
  | d + 1, k, h => by
    have h1 := list_step L G c zs st (hm k (by omega))
    have h2 := list_mono G c zs st hm d (k + 1) (by omega)
    omega

end

set_option maxRecDepth 20000 in
set_option maxHeartbeats 8000000 in
theorem says_list (Z : World) (p : Nat) (a : Option Addr) (n cap : Nat) (L : Looks) (G : Nat → List UInt8 × Bool → List UInt8 × Bool) (c : Nat) (sg : ByteArray) (ka : Option Addr) (kn kc : Nat) (hsg : 1 < kn → sg.data.toList = L.sg c) (zs : List Int) (hr : Row Z ka kn zs)
    (hz : ∀ q, q < kn → zs.getD q 0 = (((zs.getD q 0).toNat : Nat) : Int)) (hk : ∀ q, q < kn → SaysP Z p a n cap 34 #[.pointer (some ⟨p, 0, none⟩), .int .i64 ((zs.getD q 0).toNat : Nat)] (G (zs.getD q 0).toNat)) (hm : ∀ q, q < kn → ∀ st, lenP st ≤ lenP (G (zs.getD q 0).toNat st)) :
    SaysP Z p a n cap 79 #[.pointer (some ⟨p, 0, none⟩), .slice ka kn kc, .string sg] (listP L G c zs kn) := by
  intro w g gc st h hl
  have hsm := hr.small
  have H := hide h
  have HR := hide hr
  have HZ := hide hz
  have HK := hide hk
  have HM := hide hm
  have HL := hide hl
  have HSY := hide (says_say Z p a n cap sg false)
  clear h hr hz hk hm hl
  go_enter Tryz.func79, Tryz.ntmps79
  go_wp2_with fail
  go_loopw [6] (fun u wr => ∃ (k gk gck : Nat), u = .int .i64 (k : Nat) ∧ k ≤ kn ∧ Hid (SX Z p a n cap wr gk gck (listP L G c zs k st)) ∧ Hid (But (fun x => x = p ∨ x = g) w wr ∧ (gk = g ∨ w.heap.size ≤ gk))) (fun e _ => kn - (intOf e).toNat)
  case atStart => exact ⟨0, g, gc, rfl, Nat.zero_le _, H, hide ⟨But.refl _ w, .inl rfl⟩⟩
  case round =>
    obtain ⟨k, gk, gck, rfl, hkn, HX, HB⟩ := hrel
    by_cases hlt : k < kn
    case neg =>
      have he : k = kn := by omega
      subst he
      have hlti : ¬ (k : Int) < (k : Int) := by omega
      go_wp2_with fail
      go_end0
      exact ⟨⟨_, rfl⟩, gk, gck, unhide HX, unhide HB⟩
    case pos =>
      have hlti : (k : Int) < (kn : Int) := by omega
      obtain ⟨b, off, rfl, hbl, hc⟩ := (unhide HR).get hlt
      have hzk := unhide HZ k hlt
      have HKk := hide (unhide HK k hlt)
      have h1 := list_step L G c zs st (unhide HM k hlt)
      have h2 := list_mono L G c zs st (fun q hq => unhide HM q hq) (kn - (k + 1)) (k + 1) (by omega)
      have hl := unhide HL
      rw [hzk] at hc
      have hcx : ∀ W, Below Z.heap.size Z W → W.cell? ⟨b, off + k, none⟩ = some (.int .i64 ((zs.getD k 0).toNat : Nat)) := fun W hW => (hW.cell (p := ⟨b, off + k, none⟩) hbl).trans hc
      have HCX := hide hcx
      have HNX : Hid (listP L G c zs (k + 1) st = G (zs.getD k 0).toNat (if 0 < k then sayS L (listP L G c zs k st) c else listP L G c zs k st)) := by show _ = _; rw [listP]
      obtain ⟨kid, hkid⟩ : ∃ kid, (zs.getD k 0).toNat = kid := ⟨_, rfl⟩
      rw [hkid] at HKk HCX HNX
      have HL1 : Hid (lenP (if 0 < k then sayS L (listP L G c zs k st) c else listP L G c zs k st) ≤ mostP) := by show _ ≤ _; omega
      have HL2 : Hid (lenP (listP L G c zs (k + 1) st) ≤ mostP) := by show _ ≤ _; omega
      clear hzk h1 h2 hl hc hcx hkid
      by_cases hk0 : 0 < k
      case pos =>
        have hk0i : (0 : Int) < (k : Int) := by omega
        rw [if_pos hk0] at HNX HL1
        have HNS : Hid (sayP (listP L G c zs k st) sg.data.toList false = sayS L (listP L G c zs k st) c) := by show _ = _; rw [hsg (by omega)]; rfl
        clear hk0
        go_wp2_with (first | (go_at_call 72; refine (unhide HSY _ gk gck _ (unhide HX) (by show lenP (sayP _ _ _) ≤ mostP; rw [unhide HNS]; exact unhide HL1)).mono ?_; rintro e w5 ⟨⟨v5, rfl⟩, g5, gc5, hx5, hb5⟩; have hc5 := unhide HCX w5 hx5.low; have HX5 := hide hx5; have HB5 := hide hb5; clear hx5 hb5) | (go_at_call 34; refine (unhide HKk _ g5 gc5 _ (unhide HX5) (by show lenP (G kid (sayP _ _ _)) ≤ mostP; rw [unhide HNS, ← unhide HNX]; exact unhide HL2)).mono ?_; rintro e w6 ⟨⟨v6, rfl⟩, hw6⟩; have HW6 := hide (Went.trans (unhide HB5).1 (unhide HB5).2 hw6); clear hw6))
        go_roundw
        case rel =>
          obtain ⟨g6, gc6, hx6, hb6⟩ := Went.trans (unhide HB).1 (unhide HB).2 (unhide HW6)
          refine ⟨k + 1, g6, gc6, by go_num, by omega, ?_, hide hb6⟩
          have hx7 : SX Z p a n cap _ g6 gc6 (G kid (sayP (listP L G c zs k st) sg.data.toList false)) := hx6
          rw [unhide HNS, ← unhide HNX] at hx7
          exact hide hx7
        case measure => simp [intOf]; omega
      case neg =>
        have hk0e : k = 0 := by omega
        subst hk0e
        rw [if_neg hk0] at HNX HL1
        have hc5 := unhide HCX wr (unhide HX).low
        rw [Nat.add_zero] at hc5
        clear hk0
        go_wp2_with (go_at_call 34; refine (unhide HKk _ gk gck _ (unhide HX) (by rw [← unhide HNX]; exact unhide HL2)).mono ?_; rintro e w6 ⟨⟨v6, rfl⟩, hw6⟩; have HW6 := hide hw6; clear hw6)
        go_roundw
        case rel =>
          obtain ⟨g6, gc6, hx6, hb6⟩ := Went.trans (unhide HB).1 (unhide HB).2 (unhide HW6)
          refine ⟨1, g6, gc6, by go_num, by omega, ?_, hide hb6⟩
          rw [← unhide HNX] at hx6
          exact hide hx6
        case measure => simp [intOf]; omega

end Go.Proofs.YtmgjicgojlkpcaaGreatDoor
