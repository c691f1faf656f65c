import Derived.Test.YtmgjicgojlkpcaaGreatDoorImplStmtQ
namespace Go.Proofs.YtmgjicgojlkpcaaGreatDoor
open Go.RowKit

/-- Two tokens' boxes stand while the parser's place is set. -/
theorem TwoT.set {V W U : World} {yk yn : Int} {yt : ByteArray} {yp : Nat} {xk xn : Int} {xt : ByteArray} {xp p : Nat} {u : Value} (h : TwoT V yk yn yt yp xk xn xt xp W) (hp : p < V.heap.size) (hU : Below (W.setCell ⟨p, 1, none⟩ u).heap.size (W.setCell ⟨p, 1, none⟩ u) U) :
    U.cell? ⟨V.heap.size, 2, none⟩ = some (.string yt) ∧ U.cell? ⟨V.heap.size + 1, 0, none⟩ = some (.int .i64 xk) ∧ U.cell? ⟨V.heap.size + 1, 1, none⟩ = some (.int .i64 xn) ∧ U.cell? ⟨V.heap.size + 1, 2, none⟩ = some (.string xt) ∧ U.cell? ⟨V.heap.size + 1, 3, none⟩ = some (.int .i64 (xp : Nat)) := by
  have hs := h.size
  have key : ∀ k, k < W.heap.size → k ≠ p → ∀ q v, W.cell? ⟨k, q, none⟩ = some v → U.cell? ⟨k, q, none⟩ = some v := fun k hk hne q v hv => by
    have e : U.heap[k]? = W.heap[k]? := (hU.block k (by simpa using hk)).trans (heap_setCell_other W ⟨p, 1, none⟩ k _ hne)
    rw [← hv]
    unfold World.cell?
    dsimp only
    rw [e]
  obtain ⟨q0, q1, q2, q3⟩ := h.q
  obtain ⟨x0, x1, x2, x3⟩ := h.x
  exact ⟨key _ (by omega) (by omega) _ _ q2, key _ (by omega) (by omega) _ _ x0, key _ (by omega) (by omega) _ _ x1, key _ (by omega) (by omega) _ _ x2, key _ (by omega) (by omega) _ _ x3⟩

section
variable {Z w w0 w1 : World} {p i j : Nat} {nd nd0 nd1 v : Value} {zs : List Int} {xs ys : List NodeC} {bx : List Nat} {ls : List (List NodeD)} {ta : Option Addr} {tn tc bytes : Nat} {ts : List Tok}


set_option maxRecDepth 20000 in
set_option maxHeartbeats 4000000 in
theorem stm_e3s (E : IEnv Z ta tn ts bytes) (h : IPS Z p ta tn tc bytes w i nd xs) (hi : i ≤ 4100) (hroom : xs.length + 4 * (5000 - i) ≤ 100000) (h0 : (seenT ts).cl i = 3) (h1 : 0 < scalNo ((seenT ts).cl (i + 1))) (h2 : (seenT ts).cl (i + 2) ≠ 8592) {r : Res} (hR : ReadI Z p ta tn tc ts bytes 166 #[.pointer (some ⟨p, 0, none⟩)] i r) :
    Calls Tryz.prog 102 #[.pointer (some ⟨p, 0, none⟩)] w (GaveI Z p ta tn tc ts bytes w nd xs r) := by
  have HK := hide (KT.start h)
  have HM : Hid (MidI Z p ta tn tc bytes w nd xs [] i w nd) := MidP.start h
  have HLZ : Hid (∀ V, Below w.heap.size w V → Below Z.heap.size Z V) := fun V hV => h.low.trans (hV.mono h.low.size)
  have HA0 := hide (fun (V : World) (hV : Below w.heap.size w V) => aheadP E h (by omega) hV 0 (by omega))
  have HA1 := hide (fun (V : World) (hV : Below w.heap.size w V) => aheadP E h (by omega) hV 1 (by omega))
  have HA2 := hide (fun (V : World) (hV : Below w.heap.size w V) => aheadP E h (by omega) hV 2 (by omega))
  have hsv := sv_at (ts := ts) bytes (q := i) (by rw [h0]; decide)
  have hpw : p < w.heap.size := lt_of_block h.box
  obtain ⟨⟨yk, yn, yt, yp⟩, hy⟩ : ∃ y, tokA ts bytes i = y := ⟨_, rfl⟩
  obtain ⟨⟨xk, xn, xt, xp⟩, hx⟩ : ∃ y, tokA ts bytes (i + 1) = y := ⟨_, rfl⟩
  obtain ⟨⟨tk, tm, tt, tp⟩, ht⟩ : ∃ y, tokA ts bytes (i + 2) = y := ⟨_, rfl⟩
  obtain ⟨N, hN⟩ : ∃ N, scalNo ((seenT ts).cl (i + 1)) = N := ⟨_, rfl⟩
  rw [hy] at hsv
  dsimp only at hsv
  have hs1 : (seenT ts).cl (i + 1) ≠ 8592 := fun e => by rw [e] at h1; exact absurd h1 (by decide)
  have hs2 : (seenT ts).cl (i + 1) ≠ 91 := fun e => by rw [e] at h1; exact absurd h1 (by decide)
  have KH := hide (fun (V : World) => highP E i V)
  rw [hy, decide_eq_false (by rw [h0]; decide)] at KH
  unfold tokW at KH
  have KL := hide (fun (V : World) => lowP E i V)
  rw [hy, decide_eq_true h0] at KL
  unfold tokW at KL
  have KS := hide (fun (V : World) => signT E (i + 1) (c := 8592) (by decide) (s := ⟨#[226, 134, 144]⟩) (by kernel_rfl) V)
  rw [hx, decide_eq_false hs1] at KS
  unfold tokW at KS
  have KC := hide (fun (V : World) (hV : Below Z.heap.size Z V) => scalP E (i + 1) hV)
  rw [hx, hN] at KC
  unfold tokW at KC
  have KT2 := hide (fun (V : World) => signT E (i + 2) (c := 8592) (by decide) (s := ⟨#[226, 134, 144]⟩) (by kernel_rfl) V)
  rw [ht, decide_eq_false h2] at KT2
  unfold tokW at KT2
  rw [hN] at h1
  have hd1 : decide ((0 : Int) < ((N : Nat) : Int)) = true := decide_eq_true (by omega)
  have KB := hide (fun (V : World) => signT E (i + 1) (c := 91) (by decide) (s := ⟨#[91]⟩) (by kernel_rfl) V)
  rw [hx, decide_eq_false hs2] at KB
  unfold tokW at KB
  have KP := hide (fun (V : World) => signT E i (c := 40) (by decide) (s := ⟨#[40]⟩) (by kernel_rfl) V)
  rw [hy, decide_eq_false (by rw [h0]; decide)] at KP
  unfold tokW at KP
  have HR := hide hR
  rw [Nat.add_zero, hy] at HA0
  rw [hx] at HA1
  rw [ht] at HA2
  unfold tokW at HA0 HA1 HA2
  clear h hy hx ht h0 hsv hN hs1 hs2 h2 hR
  go_enter Tryz.func102, Tryz.ntmps102
  go_wp2_with (first | (go_at_call 158; refine (unhide HA0 _ (Below.refl _ _)).mono ?_; rintro e w4 ⟨rfl, hb4⟩; have HB4 := hide hb4; clear hb4 HA0) | (go_at_call 158; refine (unhide HA1 _ (unhide HB4)).mono ?_; rintro e w5 ⟨rfl, hb5⟩; have hb5' := (unhide HB4).trans (hb5.mono (unhide HB4).size); have HK5 := hide ((unhide HK).below hb5'); have HMM := hide ((unhide HM).below hb5'); have HB5 := hide hb5'; have HT := hide (TwoT.start w5 yk yn yt yp xk xn xt xp); clear hb5 hb5' HA1 HB4) | (go_at_call 61; refine (unhide KH _).mono ?_; rintro e w6 ⟨rfl, hb6⟩; have HT' := hide ((unhide HT).go hb6); clear HT hb6; have HT := HT'; clear HT'; obtain ⟨q0, q1, q2, q3⟩ := (unhide HT).q; obtain ⟨x0, x1, x2, x3⟩ := (unhide HT).x) | (go_at_call 60; refine (unhide KL _).mono ?_; rintro e w6 ⟨rfl, hb6⟩; have HT' := hide ((unhide HT).go hb6); clear HT hb6; have HT := HT'; clear HT'; obtain ⟨q0, q1, q2, q3⟩ := (unhide HT).q; obtain ⟨x0, x1, x2, x3⟩ := (unhide HT).x) | (go_at_call 159; refine (unhide KS _).mono ?_; clear KS; rintro e w6 ⟨rfl, hb6⟩; have HT' := hide ((unhide HT).go hb6); clear HT hb6; have HT := HT'; clear HT'; obtain ⟨q0, q1, q2, q3⟩ := (unhide HT).q; obtain ⟨x0, x1, x2, x3⟩ := (unhide HT).x) | (go_at_call 162; refine (unhide KC _ (unhide HLZ _ ((unhide HB5).trans ((unhide HT).below.mono (unhide HB5).size)))).mono ?_; clear KC; rintro e w6 ⟨rfl, hb6⟩; have HT' := hide ((unhide HT).go hb6); clear HT hb6; have HT := HT'; clear HT'; obtain ⟨q0, q1, q2, q3⟩ := (unhide HT).q; obtain ⟨x0, x1, x2, x3⟩ := (unhide HT).x) | (go_at_call 158; refine (unhide HA2 _ ((unhide HB5).trans ((unhide HT).below.mono (unhide HB5).size))).mono ?_; clear HA2; rintro e w6 ⟨rfl, hb6⟩; have HT' := hide ((unhide HT).go hb6); clear HT hb6; have HT := HT'; clear HT'; obtain ⟨q0, q1, q2, q3⟩ := (unhide HT).q; obtain ⟨x0, x1, x2, x3⟩ := (unhide HT).x) | (go_at_call 159; refine (unhide KT2 _).mono ?_; clear KT2; rintro e w6 ⟨rfl, hb6⟩; have HT' := hide ((unhide HT).go hb6); clear HT hb6; have HT := HT'; clear HT'; obtain ⟨q0, q1, q2, q3⟩ := (unhide HT).q; obtain ⟨x0, x1, x2, x3⟩ := (unhide HT).x) | (go_at_call 159; refine (unhide KB _).mono ?_; clear KB; rintro e w6 ⟨rfl, hb6⟩; have HT' := hide ((unhide HT).go hb6); clear HT hb6; have HT := HT'; clear HT'; obtain ⟨q0, q1, q2, q3⟩ := (unhide HT).q; obtain ⟨x0, x1, x2, x3⟩ := (unhide HT).x) | (go_at_call 159; refine (unhide KP _).mono ?_; clear KP; rintro e w6 ⟨rfl, hb6⟩; have HT' := hide ((unhide HT).go hb6); clear HT hb6; have HT := HT'; clear HT'; obtain ⟨q0, q1, q2, q3⟩ := (unhide HT).q; obtain ⟨x0, x1, x2, x3⟩ := (unhide HT).x) | (go_at_call 166; refine (ReadI.at (unhide HR) ((unhide HMM).below (unhide HT).below) hroom).mono ?_; rintro e w7 ⟨z, v, rfl, hg⟩; have HF := hide hg; clear hg))
  go_ret2
  exact unhide HF


set_option maxRecDepth 20000 in
set_option maxHeartbeats 4000000 in
theorem stm_mod (E : IEnv Z ta tn ts bytes) (h : IPS Z p ta tn tc bytes w i nd xs) (hi : i ≤ 4100) (hroom : xs.length + 4 * (5000 - i) ≤ 100000) (h0 : (seenT ts).cl i = 3) (h1 : 0 < scalNo ((seenT ts).cl (i + 1))) (h2 : (seenT ts).cl (i + 2) = 8592) {R : Nat → Nat → List NodeD → Option Res} (hX : ∀ r, R 0 (i + 3) [] = some r → ReadI Z p ta tn tc ts bytes 166 #[.pointer (some ⟨p, 0, none⟩)] (i + 3) r) (hone : ∀ q2 l2, R 0 (i + 3) [] = some (true, q2, l2) → ∃ t, l2 = [t] ∧ q2 ≤ ts.length ∧ i + 3 ≤ q2 ∧ t.length ≤ 4 * (q2 - (i + 3))) (htl : ts.length ≤ 4096) {r : Res} (hr : endS R 22 (scalNo ((seenT ts).cl (i + 1)) : Nat) ((seenT ts).sv i) [] (i + 3) = some r) :
    Calls Tryz.prog 102 #[.pointer (some ⟨p, 0, none⟩)] w (GaveI Z p ta tn tc ts bytes w nd xs r) := by
  have HK := hide (KT.start h)
  have HM : Hid (MidI Z p ta tn tc bytes w nd xs [] i w nd) := MidP.start h
  have HLZ : Hid (∀ V, Below w.heap.size w V → Below Z.heap.size Z V) := fun V hV => h.low.trans (hV.mono h.low.size)
  have HA0 := hide (fun (V : World) (hV : Below w.heap.size w V) => aheadP E h (by omega) hV 0 (by omega))
  have HA1 := hide (fun (V : World) (hV : Below w.heap.size w V) => aheadP E h (by omega) hV 1 (by omega))
  have HA2 := hide (fun (V : World) (hV : Below w.heap.size w V) => aheadP E h (by omega) hV 2 (by omega))
  have hsv := sv_at (ts := ts) bytes (q := i) (by rw [h0]; decide)
  have hpw : p < w.heap.size := lt_of_block h.box
  obtain ⟨⟨yk, yn, yt, yp⟩, hy⟩ : ∃ y, tokA ts bytes i = y := ⟨_, rfl⟩
  obtain ⟨⟨xk, xn, xt, xp⟩, hx⟩ : ∃ y, tokA ts bytes (i + 1) = y := ⟨_, rfl⟩
  obtain ⟨⟨tk, tm, tt, tp⟩, ht⟩ : ∃ y, tokA ts bytes (i + 2) = y := ⟨_, rfl⟩
  obtain ⟨N, hN⟩ : ∃ N, scalNo ((seenT ts).cl (i + 1)) = N := ⟨_, rfl⟩
  rw [hy] at hsv
  dsimp only at hsv
  have hs1 : (seenT ts).cl (i + 1) ≠ 8592 := fun e => by rw [e] at h1; exact absurd h1 (by decide)
  have hs2 : (seenT ts).cl (i + 1) ≠ 91 := fun e => by rw [e] at h1; exact absurd h1 (by decide)
  have KH := hide (fun (V : World) => highP E i V)
  rw [hy, decide_eq_false (by rw [h0]; decide)] at KH
  unfold tokW at KH
  have KL := hide (fun (V : World) => lowP E i V)
  rw [hy, decide_eq_true h0] at KL
  unfold tokW at KL
  have KS := hide (fun (V : World) => signT E (i + 1) (c := 8592) (by decide) (s := ⟨#[226, 134, 144]⟩) (by kernel_rfl) V)
  rw [hx, decide_eq_false hs1] at KS
  unfold tokW at KS
  have KC := hide (fun (V : World) (hV : Below Z.heap.size Z V) => scalP E (i + 1) hV)
  rw [hx, hN] at KC
  unfold tokW at KC
  have KT2 := hide (fun (V : World) => signT E (i + 2) (c := 8592) (by decide) (s := ⟨#[226, 134, 144]⟩) (by kernel_rfl) V)
  rw [ht, decide_eq_true h2] at KT2
  unfold tokW at KT2
  rw [hN] at h1
  have hd1 : decide ((0 : Int) < ((N : Nat) : Int)) = true := decide_eq_true (by omega)
  rw [hsv, hN] at hr
  have KC2 := hide (fun (V : World) (hV : Below Z.heap.size Z V) => scalP E (i + 1) hV)
  rw [hx, hN] at KC2
  unfold tokW at KC2
  have KE := hide (fun (V : World) (n : Value) (hk : KT Z p ta tn tc bytes w nd xs [] [] (i + 3) V n (.slice none ([] : List Int).length 0) []) => endP (ls := []) (L := []) (s2 := none) (c2 := 0) rfl hk 22 (N : Nat) yt hX hone htl (by show _ + 0 + _ ≤ _; omega) (by show 0 ≤ 100000; omega) hr)
  have hw1 : IntKind.i64.wrap ((i : Int) + 3) = (i : Int) + 3 := by rw [IntKind.wrap_i64]; omega
  rw [Nat.add_zero, hy] at HA0
  rw [hx] at HA1
  rw [ht] at HA2
  unfold tokW at HA0 HA1 HA2
  clear h hy hx ht h0 hsv hN hs1 hs2 h2 hX hone hr
  go_enter Tryz.func102, Tryz.ntmps102
  go_wp2_with (first | (go_at_call 158; refine (unhide HA0 _ (Below.refl _ _)).mono ?_; rintro e w4 ⟨rfl, hb4⟩; have HB4 := hide hb4; clear hb4 HA0) | (go_at_call 158; refine (unhide HA1 _ (unhide HB4)).mono ?_; rintro e w5 ⟨rfl, hb5⟩; have hb5' := (unhide HB4).trans (hb5.mono (unhide HB4).size); have HK5 := hide ((unhide HK).below hb5'); have HMM := hide ((unhide HM).below hb5'); have HB5 := hide hb5'; have HT := hide (TwoT.start w5 yk yn yt yp xk xn xt xp); clear hb5 hb5' HA1 HB4) | (go_at_call 61; refine (unhide KH _).mono ?_; rintro e w6 ⟨rfl, hb6⟩; have HT' := hide ((unhide HT).go hb6); clear HT hb6; have HT := HT'; clear HT'; obtain ⟨q0, q1, q2, q3⟩ := (unhide HT).q; obtain ⟨x0, x1, x2, x3⟩ := (unhide HT).x) | (go_at_call 60; refine (unhide KL _).mono ?_; rintro e w6 ⟨rfl, hb6⟩; have HT' := hide ((unhide HT).go hb6); clear HT hb6; have HT := HT'; clear HT'; obtain ⟨q0, q1, q2, q3⟩ := (unhide HT).q; obtain ⟨x0, x1, x2, x3⟩ := (unhide HT).x) | (go_at_call 159; refine (unhide KS _).mono ?_; clear KS; rintro e w6 ⟨rfl, hb6⟩; have HT' := hide ((unhide HT).go hb6); clear HT hb6; have HT := HT'; clear HT'; obtain ⟨q0, q1, q2, q3⟩ := (unhide HT).q; obtain ⟨x0, x1, x2, x3⟩ := (unhide HT).x) | (go_at_call 162; refine (unhide KC _ (unhide HLZ _ ((unhide HB5).trans ((unhide HT).below.mono (unhide HB5).size)))).mono ?_; clear KC; rintro e w6 ⟨rfl, hb6⟩; have HT' := hide ((unhide HT).go hb6); clear HT hb6; have HT := HT'; clear HT'; obtain ⟨q0, q1, q2, q3⟩ := (unhide HT).q; obtain ⟨x0, x1, x2, x3⟩ := (unhide HT).x) | (go_at_call 158; refine (unhide HA2 _ ((unhide HB5).trans ((unhide HT).below.mono (unhide HB5).size))).mono ?_; clear HA2; rintro e w6 ⟨rfl, hb6⟩; have HT' := hide ((unhide HT).go hb6); clear HT hb6; have HT := HT'; clear HT'; obtain ⟨q0, q1, q2, q3⟩ := (unhide HT).q; obtain ⟨x0, x1, x2, x3⟩ := (unhide HT).x) | (go_at_call 159; refine (unhide KT2 _).mono ?_; clear KT2; rintro e w7 ⟨rfl, hb7⟩; have HT' := hide ((unhide HT).go hb7); clear HT hb7; have HT := HT'; clear HT'; obtain ⟨q0, q1, q2, q3⟩ := (unhide HT).q; obtain ⟨x0, x1, x2, x3⟩ := (unhide HT).x; have hk7 := (unhide HK5).below (unhide HT).below; obtain ⟨p0, p1, p2, p3, f0, f1, f2, f3, hpl⟩ := hk7.all; have hpl5 : p < w5.heap.size := Nat.lt_of_lt_of_le hpw (unhide HB5).size; have hne5 : p ≠ w5.heap.size := Nat.ne_of_lt hpl5; have hne6 : p ≠ w5.heap.size + 1 := Nat.ne_of_lt (Nat.lt_succ_of_lt hpl5); have HK8 := hide (hk7.step 3 ((i : Int) + 3) (by omega)); have HL8 := hide (hk7.step 3 ((i : Int) + 3) (by omega)).low; have HQ8 := hide (fun (U : World) hU => TwoT.set (U := U) (u := .int .i64 ((i : Int) + 3)) (unhide HT) hpl5 hU); clear hk7))
  go_region_with (first | (go_at_call 162; refine (unhide KC2 _ (unhide HL8).drew).mono ?_; rintro e w9 ⟨rfl, hb9⟩; have hb9' : Below (w7.setCell ⟨p, 1, none⟩ (.int .i64 ((i : Int) + 3))).heap.size (w7.setCell ⟨p, 1, none⟩ (.int .i64 ((i : Int) + 3))) w9 := (Below.refl _ _).drew.trans hb9; obtain ⟨q2, x0, x1, x2, x3⟩ := unhide HQ8 w9 hb9'; have HK9 := hide ((unhide HK8).below hb9'); clear hb9 hb9' KC2) | (go_at_call 161; refine (unhide KE _ _ (unhide HK9)).mono ?_; rintro e w10 ⟨z, v, rfl, hg⟩; have HF := hide hg; clear hg))
  all_goals go_wp2_with fail
  all_goals go_ret2
  all_goals exact unhide HF


end
end Go.Proofs.YtmgjicgojlkpcaaGreatDoor
