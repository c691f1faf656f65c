import Derived.Test.YtmgjicgojlkpcaaGreatDoorSpecList
namespace Go.Proofs.YtmgjicgojlkpcaaGreatDoor
open Go.RowKit

set_option maxRecDepth 20000 in
set_option maxHeartbeats 8000000 in
theorem says_round (Z : World) (p : Nat) (a : Option Addr) (n cap : Nat) (L : Looks) (G : Nat → List UInt8 × Bool → List UInt8 × Bool) (c co ce : Nat) (sg so se : ByteArray) (ho : so.data.toList = L.sg co) (he : se.data.toList = L.sg ce) (ka : Option Addr) (kn kc : Nat) (zs : List Int)
    (hl : SaysP Z p a n cap 79 #[.pointer (some ⟨p, 0, none⟩), .slice ka kn kc, .string sg] (listP L G c zs kn)) (hm : ∀ st, lenP st ≤ lenP (listP L G c zs kn st)) :
    SaysP Z p a n cap 76 #[.pointer (some ⟨p, 0, none⟩), .slice ka kn kc, .string so, .string sg, .string se] (fun st => sayS L (listP L G c zs kn (sayS L st co)) ce) := by
  intro w g gc st h hq
  have hq' : lenP (sayS L (listP L G c zs kn (sayS L st co)) ce) ≤ mostP := hq
  have H := hide h
  have HL := hide hl
  have HO := hide (says_say Z p a n cap so false)
  have HE := hide (says_say Z p a n cap se false)
  have e1 : sayP st so.data.toList false = sayS L st co := by rw [ho]; rfl
  obtain ⟨s1, hs1⟩ : ∃ s, sayS L st co = s := ⟨_, rfl⟩
  have h1 := hm s1
  obtain ⟨s2, hs2⟩ : ∃ s, listP L G c zs kn s1 = s := ⟨_, rfl⟩
  have e2 : sayP s2 se.data.toList false = sayS L s2 ce := by rw [he]; rfl
  have h2 : lenP s2 ≤ lenP (sayS L s2 ce) := (say_len _ _ _).1
  rw [hs1] at hq' e1
  rw [hs2] at hq' h1
  have HQ : Hid (lenP (sayP s2 se.data.toList false) ≤ mostP) := by show _ ≤ _; rw [e2]; exact hq'
  have HQ2 : Hid (lenP s2 ≤ mostP) := by show _ ≤ _; omega
  have HQ1 : Hid (lenP s1 ≤ mostP) := by show _ ≤ _; omega
  have HE1 := hide e1
  have HE2 := hide e2
  have HS1 := hide hs1
  have HS2 := hide hs2
  clear h hl hm hq hq' e1 e2 h1 h2 hs1 hs2
  go_enter Tryz.func76, Tryz.ntmps76
  go_wp2_with (first | (go_at_call 72; refine (unhide HO _ g gc _ (unhide H) (by show lenP (sayP _ _ _) ≤ mostP; rw [unhide HE1]; exact unhide HQ1)).mono ?_; rintro e w5 ⟨⟨v5, rfl⟩, g5, gc5, hx5, hb5⟩; have HX5 : Hid (SX Z p a n cap w5 g5 gc5 s1) := by { have := hx5; dsimp only at this; rw [unhide HE1] at this; exact this }; have HB5 := hide hb5; clear hx5 hb5 H) | (go_at_call 79; refine (unhide HL _ g5 gc5 _ (unhide HX5) (by rw [unhide HS2]; exact unhide HQ2)).mono ?_; rintro e w6 ⟨⟨v6, rfl⟩, hw6⟩; obtain ⟨g6, gc6, hx6, hb6⟩ := Went.trans (unhide HB5).1 (unhide HB5).2 hw6; have HX6 : Hid (SX Z p a n cap w6 g6 gc6 s2) := by { rw [unhide HS2] at hx6; exact hx6 }; have HB6 := hide hb6; clear hw6 hx6 hb6 HX5) | (go_at_call 72; refine (unhide HE _ g6 gc6 _ (unhide HX6) (unhide HQ)).mono ?_; rintro e w7 ⟨⟨v7, rfl⟩, hw7⟩; have HW7 := hide (Went.trans (unhide HB6).1 (unhide HB6).2 hw7); clear hw7))
  go_end0
  refine ⟨⟨_, rfl⟩, ?_⟩
  show Went Z p a n cap w g (sayS L (listP L G c zs kn (sayS L st co)) ce) _
  rw [unhide HS1, unhide HS2, ← unhide HE2]
  exact unhide HW7

set_option maxRecDepth 20000 in
set_option maxHeartbeats 8000000 in
theorem says_operand (Z : World) (p : Nat) (a : Option Addr) (n cap : Nat) (L : Looks) (ns : List NodeD) (hr : NRow Z a n ns) (G : Nat → List UInt8 × Bool → List UInt8 × Bool) (h40 : L.sg 40 = [40]) (h41 : L.sg 41 = [41]) (i : Nat) (hi : i < n)
    (hk : SaysP Z p a n cap 34 #[.pointer (some ⟨p, 0, none⟩), .int .i64 (i : Nat)] (G i)) (hm : ∀ st, lenP st ≤ lenP (G i st)) :
    SaysP Z p a n cap 75 #[.pointer (some ⟨p, 0, none⟩), .int .i64 (i : Nat)] (operP L ns G i) := by
  intro w g gc st h hq
  have hsm := hr.small
  obtain ⟨b, off, rfl, hbl, s1, n1, c1, s2, n2, c2, q0, _⟩ := hr.get hi
  have c0 := (h.low.cell (p := ⟨b, off + i * 6, none⟩) hbl).trans q0
  obtain ⟨d0, d1, d2, f0, f1, f2⟩ := h.sw.all
  obtain ⟨kk, hkk⟩ : ∃ k, (node ns i).k = k := ⟨_, rfl⟩
  rw [hkk] at c0
  have H := hide h
  have HK := hide hk
  by_cases hb : kk = 9 ∨ kk = 10
  · have eq : operP L ns G i st = sayS L (G i (sayS L st 40)) 41 := by unfold operP; rw [hkk, if_pos hb]
    have HO := hide (says_say Z p (some ⟨b, off, none⟩) n cap ⟨#[40]⟩ false)
    have HE := hide (says_say Z p (some ⟨b, off, none⟩) n cap ⟨#[41]⟩ false)
    have e1 : sayP st [40] false = sayS L st 40 := by rw [← h40]; rfl
    obtain ⟨t1, hs1⟩ : ∃ s, sayS L st 40 = s := ⟨_, rfl⟩
    obtain ⟨t2, hs2⟩ : ∃ s, G i t1 = s := ⟨_, rfl⟩
    have e2 : sayP t2 [41] false = sayS L t2 41 := by rw [← h41]; rfl
    have h2 : lenP t2 ≤ lenP (sayS L t2 41) := (say_len _ _ _).1
    have hq' : lenP (sayS L t2 41) ≤ mostP := by rw [eq, hs1, hs2] at hq; exact hq
    rw [hs1] at e1
    have HEQ : Hid (operP L ns G i st = sayP t2 [41] false) := by show _ = _; rw [eq, hs1, hs2, e2]
    have HQ : Hid (lenP (sayP t2 [41] false) ≤ mostP) := by show _ ≤ _; rw [e2]; exact hq'
    have HQ2 : Hid (lenP t2 ≤ mostP) := by show _ ≤ _; omega
    have HQ1 : Hid (lenP t1 ≤ mostP) := by
      show _ ≤ _
      have := hm t1
      rw [hs2] at this
      omega
    have HE1 := hide e1
    have HS2 := hide hs2
    clear h hk hm hq hq' e1 e2 h2 hs1 hs2 eq hkk
    have hb2 : kk = 9 ∨ (¬ kk = 9 ∧ kk = 10) := by omega
    clear hb
    rcases hb2 with rfl | ⟨_, rfl⟩ <;>
    · go_enter Tryz.func75, Tryz.ntmps75
      go_wp2_with (first | (go_at_call 72; refine (unhide HO _ g gc _ (unhide H) (by show lenP (sayP _ _ _) ≤ mostP; rw [unhide HE1]; exact unhide HQ1)).mono ?_; rintro e w5 ⟨⟨v5, rfl⟩, g5, gc5, hx5, hb5⟩; have HX5 : Hid (SX Z p (some ⟨b, off, none⟩) n cap w5 g5 gc5 t1) := by { have := hx5; dsimp only at this; rw [unhide HE1] at this; exact this }; have HB5 := hide hb5; clear hx5 hb5 H) | (go_at_call 34; refine (unhide HK _ g5 gc5 _ (unhide HX5) (by rw [unhide HS2]; exact unhide HQ2)).mono ?_; rintro e w6 ⟨⟨v6, rfl⟩, hw6⟩; obtain ⟨g6, gc6, hx6, hb6⟩ := Went.trans (unhide HB5).1 (unhide HB5).2 hw6; have HX6 : Hid (SX Z p (some ⟨b, off, none⟩) n cap w6 g6 gc6 t2) := by { rw [unhide HS2] at hx6; exact hx6 }; have HB6 := hide hb6; clear hw6 hx6 hb6 HX5) | (go_at_call 72; refine (unhide HE _ g6 gc6 _ (unhide HX6) (unhide HQ)).mono ?_; rintro e w7 ⟨⟨v7, rfl⟩, hw7⟩; have HW7 := hide (Went.trans (unhide HB6).1 (unhide HB6).2 hw7); clear hw7))
      (try simp only [Exit.inBlock, Exit.then])
      refine bodyPost_ret (results_none rfl _ _ _) rfl ?_
      refine ⟨⟨_, rfl⟩, ?_⟩
      rw [unhide HEQ]
      exact unhide HW7
  · have eq : operP L ns G i st = G i st := by unfold operP; rw [hkk, if_neg hb]
    rw [eq] at hq ⊢
    have HQ := hide hq
    have h9 : (kk == 9) = false := by simp; omega
    have h10 : (kk == 10) = false := by simp; omega
    clear h hk hm hq hb eq hkk
    go_enter Tryz.func75, Tryz.ntmps75
    go_wp2_with (go_at_call 34; refine (unhide HK _ g gc _ (unhide H) (unhide HQ)).mono ?_; rintro e w6 ⟨⟨v6, rfl⟩, hw6⟩; have HW6 := hide hw6; clear hw6)
    go_end0
    exact ⟨⟨_, rfl⟩, unhide HW6⟩

end Go.Proofs.YtmgjicgojlkpcaaGreatDoor
