import Derived.Test.YtmgjicgojlkpcaaGreatDoorImplStmtP
namespace Go.Proofs.YtmgjicgojlkpcaaGreatDoor
open Go.RowKit

section
variable {Z w w0 w1 : World} {p i j : Nat} {nd nd0 nd1 v : Value} {zs : List Int} {xs ys : List NodeC} {bx : List Nat} {ls : List (List NodeD)} {ta : Option Addr} {tn tc bytes : Nat} {ts : List Tok}

set_option maxRecDepth 20000 in
set_option maxHeartbeats 4000000 in
theorem stm_set (E : IEnv Z ta tn ts bytes) (h : IPS Z p ta tn tc bytes w i nd xs) (hi : i ≤ 4100) (hroom : xs.length + 4 * (5000 - i) ≤ 100000) (h0 : (seenT ts).cl i = 3) (h1 : (seenT ts).cl (i + 1) = 8592) {R : Nat → Nat → List NodeD → Option Res} (hX : ∀ r, R 0 (i + 2) [] = some r → ReadI Z p ta tn tc ts bytes 166 #[.pointer (some ⟨p, 0, none⟩)] (i + 2) r) (hone : ∀ q2 l2, R 0 (i + 2) [] = some (true, q2, l2) → ∃ t, l2 = [t] ∧ q2 ≤ ts.length ∧ i + 2 ≤ q2 ∧ t.length ≤ 4 * (q2 - (i + 2))) (htl : ts.length ≤ 4096) {r : Res} (hr : endS R 19 0 ((seenT ts).sv i) [] (i + 2) = some r) :
    Calls Tryz.prog 102 #[.pointer (some ⟨p, 0, none⟩)] w (GaveI Z p ta tn tc ts bytes w nd xs r) := by
  have H := hide h
  have HK := hide (KT.start h)
  have HA0 := hide (fun (V : World) (hV : Below w.heap.size w V) => aheadP E h (by omega) hV 0 (by omega))
  have HA1 := hide (fun (V : World) (hV : Below w.heap.size w V) => aheadP E h (by omega) hV 1 (by omega))
  have hsv := sv_at (ts := ts) bytes (q := i) (by rw [h0]; decide)
  obtain ⟨⟨yk, yn, yt, yp⟩, hy⟩ : ∃ y, tokA ts bytes i = y := ⟨_, rfl⟩
  obtain ⟨⟨xk, xn, xt, xp⟩, hx⟩ : ∃ y, tokA ts bytes (i + 1) = y := ⟨_, rfl⟩
  rw [hy] at hsv
  dsimp only at hsv
  rw [hsv] at hr
  have KH := hide (fun (V : World) => highP E i V)
  rw [hy, decide_eq_false (by rw [h0]; decide)] at KH
  unfold tokW at KH
  have KL := hide (fun (V : World) => lowP E i V)
  rw [hy, decide_eq_true h0] at KL
  unfold tokW at KL
  have KS := hide (fun (V : World) => signT E (i + 1) (c := 8592) (by decide) (s := ⟨#[226, 134, 144]⟩) (by kernel_rfl) V)
  rw [hx, decide_eq_true h1] at KS
  unfold tokW at KS
  have KE := hide (fun (V : World) (n : Value) (hk : KT Z p ta tn tc bytes w nd xs [] [] (i + 2) V n (.slice none ([] : List Int).length 0) []) => endP (ls := []) (L := []) (s2 := none) (c2 := 0) rfl hk 19 0 yt hX hone htl (by show _ + 0 + _ ≤ _; omega) (by show 0 ≤ 100000; omega) hr)
  have hw1 : IntKind.i64.wrap ((i : Int) + 2) = (i : Int) + 2 := by rw [IntKind.wrap_i64]; omega
  rw [Nat.add_zero, hy] at HA0
  rw [hx] at HA1
  unfold tokW at HA0 HA1
  clear h hy hx h0 h1 hX hone hr hsv
  go_enter Tryz.func102, Tryz.ntmps102
  go_wp2_with (first | (go_at_call 158; refine (unhide HA0 _ (Below.refl _ _)).mono ?_; rintro e w4 ⟨rfl, hb4⟩; have HB4 := hide hb4; clear hb4 HA0) | (go_at_call 158; refine (unhide HA1 _ (unhide HB4)).mono ?_; rintro e w5 ⟨rfl, hb5⟩; have hb5' := (unhide HB4).trans (hb5.mono (unhide HB4).size); have HK5 := hide ((unhide HK).below hb5'); have HT := hide (TwoT.start w5 yk yn yt yp xk xn xt xp); clear hb5 hb5' HA1 HK) | (go_at_call 61; refine (unhide KH _).mono ?_; rintro e w6 ⟨rfl, hb6⟩; have HT' := hide ((unhide HT).go hb6); clear HT hb6; have HT := HT'; clear HT'; obtain ⟨q0, q1, q2, q3⟩ := (unhide HT).q; obtain ⟨x0, x1, x2, x3⟩ := (unhide HT).x) | (go_at_call 60; refine (unhide KL _).mono ?_; rintro e w6 ⟨rfl, hb6⟩; have HT' := hide ((unhide HT).go hb6); clear HT hb6; have HT := HT'; clear HT'; obtain ⟨q0, q1, q2, q3⟩ := (unhide HT).q; obtain ⟨x0, x1, x2, x3⟩ := (unhide HT).x) | (go_at_call 159; refine (unhide KS _).mono ?_; clear KS; rintro e w6 ⟨rfl, hb6⟩; have HT' := hide ((unhide HT).go hb6); clear HT hb6; have HT := HT'; clear HT'; obtain ⟨q0, q1, q2, q3⟩ := (unhide HT).q; have hk6 := (unhide HK5).below (unhide HT).below; obtain ⟨p0, p1, p2, p3, f0, f1, f2, f3, hpl⟩ := hk6.all; have hne5 : p ≠ w5.heap.size := (by have := (unhide HK5).all.2.2.2.2.2.2.2.2; omega); have HK6 := hide (hk6.step 2 ((i : Int) + 2) (by omega)); clear hk6) | (go_at_call 161; refine (unhide KE _ _ (unhide HK6)).mono ?_; rintro e w8 ⟨z, v, rfl, hg⟩; have HF := hide hg; clear hg))
  go_ret2
  exact unhide HF

end
end Go.Proofs.YtmgjicgojlkpcaaGreatDoor
