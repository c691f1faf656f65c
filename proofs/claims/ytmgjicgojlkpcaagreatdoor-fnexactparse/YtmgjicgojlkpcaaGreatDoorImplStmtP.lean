import Derived.Test.YtmgjicgojlkpcaaGreatDoorImplDef
import Derived.Deep.RegionWith
namespace Go.Proofs.YtmgjicgojlkpcaaGreatDoor
open Go.RowKit

/-- Two tokens' boxes, made in the world V. -/
def TwoT (V : World) (yk yn : Int) (yt : ByteArray) (yp : Nat) (xk xn : Int) (xt : ByteArray) (xp : Nat) (W : World) : Prop := Below (V.heap.size + 2) ((V.alloc (tokB yk yn yt yp)).alloc (tokB xk xn xt xp)) W

section
variable {V W W' : World} {yk yn : Int} {yt : ByteArray} {yp : Nat} {xk xn : Int} {xt : ByteArray} {xp : Nat}

theorem TwoT.start (V : World) (yk yn : Int) (yt : ByteArray) (yp : Nat) (xk xn : Int) (xt : ByteArray) (xp : Nat) : TwoT V yk yn yt yp xk xn xt xp ((V.alloc (tokB yk yn yt yp)).alloc (tokB xk xn xt xp)) := Below.refl _ _
theorem TwoT.size (h : TwoT V yk yn yt yp xk xn xt xp W) : V.heap.size + 2 ≤ W.heap.size := by have := Below.size h; simp at this; omega
theorem TwoT.go (h : TwoT V yk yn yt yp xk xn xt xp W) (hb : Below W.heap.size W W') : TwoT V yk yn yt yp xk xn xt xp W' := Below.trans h (hb.mono h.size)
theorem TwoT.below (h : TwoT V yk yn yt yp xk xn xt xp W) : Below V.heap.size V W := (((Below.refl _ _).alloc (Nat.le_refl _) _ : Below V.heap.size V _).alloc (by simp) _).trans (Below.mono h (by omega))
theorem TwoT.q (h : TwoT V yk yn yt yp xk xn xt xp W) : W.cell? ⟨V.heap.size, 0, none⟩ = some (.int .i64 yk) ∧ W.cell? ⟨V.heap.size, 1, none⟩ = some (.int .i64 yn) ∧ W.cell? ⟨V.heap.size, 2, none⟩ = some (.string yt) ∧ W.cell? ⟨V.heap.size, 3, none⟩ = some (.int .i64 (yp : Nat)) := by
  have e : W.heap[V.heap.size]? = some (tokB yk yn yt yp) := by
    rw [Below.block h _ (by omega), Below.heap_alloc _ _ _ (by simp)]
    show (V.heap.push _)[V.heap.size]? = _
    simp
  unfold tokB at e
  refine ⟨?_, ?_, ?_, ?_⟩ <;> simp [World.cell?, e]
theorem TwoT.x (h : TwoT V yk yn yt yp xk xn xt xp W) : W.cell? ⟨V.heap.size + 1, 0, none⟩ = some (.int .i64 xk) ∧ W.cell? ⟨V.heap.size + 1, 1, none⟩ = some (.int .i64 xn) ∧ W.cell? ⟨V.heap.size + 1, 2, none⟩ = some (.string xt) ∧ W.cell? ⟨V.heap.size + 1, 3, none⟩ = some (.int .i64 (xp : Nat)) := by
  have e : W.heap[V.heap.size + 1]? = some (tokB xk xn xt xp) := by
    rw [Below.block h _ (by omega)]
    show ((V.alloc (tokB yk yn yt yp)).heap.push _)[V.heap.size + 1]? = _
    rw [Array.getElem?_push]
    simp
  unfold tokB at e
  refine ⟨?_, ?_, ?_, ?_⟩ <;> simp [World.cell?, e]

end

section
variable {Z w w0 w1 : World} {p i j : Nat} {nd nd0 nd1 v : Value} {zs : List Int} {xs ys : List NodeC} {bx : List Nat} {ls : List (List NodeD)} {ta : Option Addr} {tn tc bytes : Nat} {ts : List Tok}


set_option maxRecDepth 20000 in
set_option maxHeartbeats 4000000 in
theorem stm_def (E : IEnv Z ta tn ts bytes) (h : IPS Z p ta tn tc bytes w i nd xs) (hi : i ≤ 4100) (hroom : xs.length + 4 * (5000 - i) ≤ 100000) (h0 : (seenT ts).cl i = 4) (h1 : (seenT ts).cl (i + 1) = 8592) {r : Res} (hR : ReadI Z p ta tn tc ts bytes 160 #[.pointer (some ⟨p, 0, none⟩)] i r) :
    Calls Tryz.prog 102 #[.pointer (some ⟨p, 0, none⟩)] w (GaveI Z p ta tn tc ts bytes w nd xs r) := by
  have H := hide h
  have HM : Hid (MidI Z p ta tn tc bytes w nd xs [] i w nd) := MidP.start h
  have HA0 := hide (fun (V : World) (hV : Below w.heap.size w V) => aheadP E h (by omega) hV 0 (by omega))
  have HA1 := hide (fun (V : World) (hV : Below w.heap.size w V) => aheadP E h (by omega) hV 1 (by omega))
  obtain ⟨⟨yk, yn, yt, yp⟩, hy⟩ : ∃ y, tokA ts bytes i = y := ⟨_, rfl⟩
  obtain ⟨⟨xk, xn, xt, xp⟩, hx⟩ : ∃ y, tokA ts bytes (i + 1) = y := ⟨_, rfl⟩
  have KH := hide (fun (V : World) => highP E i V)
  rw [hy, decide_eq_true h0] at KH
  unfold tokW at KH
  have KS := hide (fun (V : World) => signT E (i + 1) (c := 8592) (by decide) (s := ⟨#[226, 134, 144]⟩) (by kernel_rfl) V)
  rw [hx, decide_eq_true h1] at KS
  unfold tokW at KS
  have HR := hide hR
  rw [Nat.add_zero, hy] at HA0
  rw [hx] at HA1
  unfold tokW at HA0 HA1
  clear h hy hx h0 h1 hR
  go_enter Tryz.func102, Tryz.ntmps102
  go_wp2_with (first | (go_at_call 158; refine (unhide HA0 _ (Below.refl _ _)).mono ?_; rintro e w4 ⟨rfl, hb4⟩; have HB4 := hide hb4; clear hb4 HA0) | (go_at_call 158; refine (unhide HA1 _ (unhide HB4)).mono ?_; rintro e w5 ⟨rfl, hb5⟩; have hb5' := (unhide HB4).trans (hb5.mono (unhide HB4).size); have HM5 := hide ((unhide H).below hb5'); have HMM := hide ((unhide HM).below hb5'); have HT := hide (TwoT.start w5 yk yn yt yp xk xn xt xp); clear hb5 hb5' HA1) | (go_at_call 61; refine (unhide KH _).mono ?_; rintro e w6 ⟨rfl, hb6⟩; have HT' := hide ((unhide HT).go hb6); clear HT hb6; have HT := HT'; clear HT'; obtain ⟨q0, q1, q2, q3⟩ := (unhide HT).q; obtain ⟨x0, x1, x2, x3⟩ := (unhide HT).x) | (go_at_call 159; refine (unhide KS _).mono ?_; clear KS; rintro e w6 ⟨rfl, hb6⟩; have HT' := hide ((unhide HT).go hb6); clear HT hb6; have HT := HT'; clear HT'; obtain ⟨q0, q1, q2, q3⟩ := (unhide HT).q; obtain ⟨x0, x1, x2, x3⟩ := (unhide HT).x) | (go_at_call 160; refine (ReadI.at (unhide HR) ((unhide HMM).below (unhide HT).below) hroom).mono ?_; rintro e w7 ⟨z, v, rfl, hg⟩; have HF := hide hg; clear hg))
  go_ret2
  exact unhide HF


set_option maxRecDepth 20000 in
set_option maxHeartbeats 4000000 in
theorem stm_asg (E : IEnv Z ta tn ts bytes) (h : IPS Z p ta tn tc bytes w i nd xs) (hi : i ≤ 4100) (hroom : xs.length + 4 * (5000 - i) ≤ 100000) (h0 : (seenT ts).cl i = 3) (h1 : (seenT ts).cl (i + 1) = 91) (hAS : ∀ W, IPS Z p ta tn tc bytes W i nd xs → Calls Tryz.prog 163 #[.pointer (some ⟨p, 0, none⟩)] W fun e w' => e = .returned (.bool true) ∧ Below W.heap.size W w') {r : Res} (hR : ReadI Z p ta tn tc ts bytes 164 #[.pointer (some ⟨p, 0, none⟩)] i r) :
    Calls Tryz.prog 102 #[.pointer (some ⟨p, 0, none⟩)] w (GaveI Z p ta tn tc ts bytes w nd xs r) := by
  have H := hide h
  have HM : Hid (MidI Z p ta tn tc bytes w nd xs [] i w nd) := MidP.start h
  have HA0 := hide (fun (V : World) (hV : Below w.heap.size w V) => aheadP E h (by omega) hV 0 (by omega))
  have HA1 := hide (fun (V : World) (hV : Below w.heap.size w V) => aheadP E h (by omega) hV 1 (by omega))
  obtain ⟨⟨yk, yn, yt, yp⟩, hy⟩ : ∃ y, tokA ts bytes i = y := ⟨_, rfl⟩
  obtain ⟨⟨xk, xn, xt, xp⟩, hx⟩ : ∃ y, tokA ts bytes (i + 1) = y := ⟨_, rfl⟩
  have KH := hide (fun (V : World) => highP E i V)
  rw [hy, decide_eq_false (by rw [h0]; decide)] at KH
  unfold tokW at KH
  have KL := hide (fun (V : World) => lowP E i V)
  rw [hy, decide_eq_true h0] at KL
  unfold tokW at KL
  have KS := hide (fun (V : World) => signT E (i + 1) (c := 8592) (by decide) (s := ⟨#[226, 134, 144]⟩) (by kernel_rfl) V)
  rw [hx, decide_eq_false (by rw [h1]; decide)] at KS
  unfold tokW at KS
  have KC := hide (fun (V : World) (hV : Below Z.heap.size Z V) => scalP E (i + 1) hV)
  rw [hx, show scalNo ((seenT ts).cl (i + 1)) = 0 by rw [h1]; decide] at KC
  unfold tokW at KC
  have KB := hide (fun (V : World) => signT E (i + 1) (c := 91) (by decide) (s := ⟨#[91]⟩) (by kernel_rfl) V)
  rw [hx, decide_eq_true h1] at KB
  unfold tokW at KB
  have KG := hide hAS
  have HR := hide hR
  rw [Nat.add_zero, hy] at HA0
  rw [hx] at HA1
  unfold tokW at HA0 HA1
  clear h hy hx h0 h1 hR hAS
  go_enter Tryz.func102, Tryz.ntmps102
  go_wp2_with (first | (go_at_call 158; refine (unhide HA0 _ (Below.refl _ _)).mono ?_; rintro e w4 ⟨rfl, hb4⟩; have HB4 := hide hb4; clear hb4 HA0) | (go_at_call 158; refine (unhide HA1 _ (unhide HB4)).mono ?_; rintro e w5 ⟨rfl, hb5⟩; have hb5' := (unhide HB4).trans (hb5.mono (unhide HB4).size); have HM5 := hide ((unhide H).below hb5'); have HMM := hide ((unhide HM).below hb5'); have HT := hide (TwoT.start w5 yk yn yt yp xk xn xt xp); clear hb5 hb5' HA1) | (go_at_call 61; refine (unhide KH _).mono ?_; rintro e w6 ⟨rfl, hb6⟩; have HT' := hide ((unhide HT).go hb6); clear HT hb6; have HT := HT'; clear HT'; obtain ⟨q0, q1, q2, q3⟩ := (unhide HT).q; obtain ⟨x0, x1, x2, x3⟩ := (unhide HT).x) | (go_at_call 60; refine (unhide KL _).mono ?_; rintro e w6 ⟨rfl, hb6⟩; have HT' := hide ((unhide HT).go hb6); clear HT hb6; have HT := HT'; clear HT'; obtain ⟨q0, q1, q2, q3⟩ := (unhide HT).q; obtain ⟨x0, x1, x2, x3⟩ := (unhide HT).x) | (go_at_call 159; refine (unhide KS _).mono ?_; clear KS; rintro e w6 ⟨rfl, hb6⟩; have HT' := hide ((unhide HT).go hb6); clear HT hb6; have HT := HT'; clear HT'; obtain ⟨q0, q1, q2, q3⟩ := (unhide HT).q; obtain ⟨x0, x1, x2, x3⟩ := (unhide HT).x) | (go_at_call 162; refine (unhide KC _ ((unhide HM5).low.trans ((unhide HT).below.mono (unhide HM5).low.size))).mono ?_; clear KC; rintro e w6 ⟨rfl, hb6⟩; have HT' := hide ((unhide HT).go hb6); clear HT hb6; have HT := HT'; clear HT'; obtain ⟨q0, q1, q2, q3⟩ := (unhide HT).q; obtain ⟨x0, x1, x2, x3⟩ := (unhide HT).x) | (go_at_call 159; refine (unhide KB _).mono ?_; clear KB; rintro e w6 ⟨rfl, hb6⟩; have HT' := hide ((unhide HT).go hb6); clear HT hb6; have HT := HT'; clear HT'; obtain ⟨q0, q1, q2, q3⟩ := (unhide HT).q; obtain ⟨x0, x1, x2, x3⟩ := (unhide HT).x) | (go_at_call 163; refine (unhide KG _ ((unhide HM5).below (unhide HT).below)).mono ?_; rintro e w6 ⟨rfl, hb6⟩; have HT' := hide ((unhide HT).go hb6); clear HT hb6; have HT := HT'; clear HT'; obtain ⟨q0, q1, q2, q3⟩ := (unhide HT).q; obtain ⟨x0, x1, x2, x3⟩ := (unhide HT).x) | (go_at_call 164; refine (ReadI.at (unhide HR) ((unhide HMM).below (unhide HT).below) hroom).mono ?_; rintro e w7 ⟨z, v, rfl, hg⟩; have HF := hide hg; clear hg))
  go_ret2
  exact unhide HF


set_option maxRecDepth 20000 in
set_option maxHeartbeats 4000000 in
theorem stm_40 (E : IEnv Z ta tn ts bytes) (h : IPS Z p ta tn tc bytes w i nd xs) (hi : i ≤ 4100) (hroom : xs.length + 4 * (5000 - i) ≤ 100000) (h0 : (seenT ts).cl i = 40) {r : Res} (hR : ReadI Z p ta tn tc ts bytes 165 #[.pointer (some ⟨p, 0, none⟩)] i r) :
    Calls Tryz.prog 102 #[.pointer (some ⟨p, 0, none⟩)] w (GaveI Z p ta tn tc ts bytes w nd xs r) := by
  have H := hide h
  have HM : Hid (MidI Z p ta tn tc bytes w nd xs [] i w nd) := MidP.start h
  have HA0 := hide (fun (V : World) (hV : Below w.heap.size w V) => aheadP E h (by omega) hV 0 (by omega))
  have HA1 := hide (fun (V : World) (hV : Below w.heap.size w V) => aheadP E h (by omega) hV 1 (by omega))
  obtain ⟨⟨yk, yn, yt, yp⟩, hy⟩ : ∃ y, tokA ts bytes i = y := ⟨_, rfl⟩
  obtain ⟨⟨xk, xn, xt, xp⟩, hx⟩ : ∃ y, tokA ts bytes (i + 1) = y := ⟨_, rfl⟩
  have KH := hide (fun (V : World) => highP E i V)
  rw [hy, decide_eq_false (by rw [h0]; decide)] at KH
  unfold tokW at KH
  have KL := hide (fun (V : World) => lowP E i V)
  rw [hy, decide_eq_false (by rw [h0]; decide)] at KL
  unfold tokW at KL
  have KP := hide (fun (V : World) => signT E i (c := 40) (by decide) (s := ⟨#[40]⟩) (by kernel_rfl) V)
  rw [hy, decide_eq_true h0] at KP
  unfold tokW at KP
  have HR := hide hR
  rw [Nat.add_zero, hy] at HA0
  rw [hx] at HA1
  unfold tokW at HA0 HA1
  clear h hy hx h0 hR
  go_enter Tryz.func102, Tryz.ntmps102
  go_wp2_with (first | (go_at_call 158; refine (unhide HA0 _ (Below.refl _ _)).mono ?_; rintro e w4 ⟨rfl, hb4⟩; have HB4 := hide hb4; clear hb4 HA0) | (go_at_call 158; refine (unhide HA1 _ (unhide HB4)).mono ?_; rintro e w5 ⟨rfl, hb5⟩; have hb5' := (unhide HB4).trans (hb5.mono (unhide HB4).size); have HM5 := hide ((unhide H).below hb5'); have HMM := hide ((unhide HM).below hb5'); have HT := hide (TwoT.start w5 yk yn yt yp xk xn xt xp); clear hb5 hb5' HA1) | (go_at_call 61; refine (unhide KH _).mono ?_; rintro e w6 ⟨rfl, hb6⟩; have HT' := hide ((unhide HT).go hb6); clear HT hb6; have HT := HT'; clear HT'; obtain ⟨q0, q1, q2, q3⟩ := (unhide HT).q; obtain ⟨x0, x1, x2, x3⟩ := (unhide HT).x) | (go_at_call 60; refine (unhide KL _).mono ?_; rintro e w6 ⟨rfl, hb6⟩; have HT' := hide ((unhide HT).go hb6); clear HT hb6; have HT := HT'; clear HT'; obtain ⟨q0, q1, q2, q3⟩ := (unhide HT).q; obtain ⟨x0, x1, x2, x3⟩ := (unhide HT).x) | (go_at_call 159; refine (unhide KP _).mono ?_; clear KP; rintro e w6 ⟨rfl, hb6⟩; have HT' := hide ((unhide HT).go hb6); clear HT hb6; have HT := HT'; clear HT'; obtain ⟨q0, q1, q2, q3⟩ := (unhide HT).q; obtain ⟨x0, x1, x2, x3⟩ := (unhide HT).x) | (go_at_call 165; refine (ReadI.at (unhide HR) ((unhide HMM).below (unhide HT).below) hroom).mono ?_; rintro e w7 ⟨z, v, rfl, hg⟩; have HF := hide hg; clear hg))
  go_ret2
  exact unhide HF


set_option maxRecDepth 20000 in
set_option maxHeartbeats 4000000 in
theorem stm_e4 (E : IEnv Z ta tn ts bytes) (h : IPS Z p ta tn tc bytes w i nd xs) (hi : i ≤ 4100) (hroom : xs.length + 4 * (5000 - i) ≤ 100000) (h0 : (seenT ts).cl i = 4) (h1 : (seenT ts).cl (i + 1) ≠ 8592) {r : Res} (hR : ReadI Z p ta tn tc ts bytes 166 #[.pointer (some ⟨p, 0, none⟩)] i r) :
    Calls Tryz.prog 102 #[.pointer (some ⟨p, 0, none⟩)] w (GaveI Z p ta tn tc ts bytes w nd xs r) := by
  have H := hide h
  have HM : Hid (MidI Z p ta tn tc bytes w nd xs [] i w nd) := MidP.start h
  have HA0 := hide (fun (V : World) (hV : Below w.heap.size w V) => aheadP E h (by omega) hV 0 (by omega))
  have HA1 := hide (fun (V : World) (hV : Below w.heap.size w V) => aheadP E h (by omega) hV 1 (by omega))
  obtain ⟨⟨yk, yn, yt, yp⟩, hy⟩ : ∃ y, tokA ts bytes i = y := ⟨_, rfl⟩
  obtain ⟨⟨xk, xn, xt, xp⟩, hx⟩ : ∃ y, tokA ts bytes (i + 1) = y := ⟨_, rfl⟩
  have KH := hide (fun (V : World) => highP E i V)
  rw [hy, decide_eq_true h0] at KH
  unfold tokW at KH
  have KL := hide (fun (V : World) => lowP E i V)
  rw [hy, decide_eq_false (by rw [h0]; decide)] at KL
  unfold tokW at KL
  have KS := hide (fun (V : World) => signT E (i + 1) (c := 8592) (by decide) (s := ⟨#[226, 134, 144]⟩) (by kernel_rfl) V)
  rw [hx, decide_eq_false h1] at KS
  unfold tokW at KS
  have KP := hide (fun (V : World) => signT E i (c := 40) (by decide) (s := ⟨#[40]⟩) (by kernel_rfl) V)
  rw [hy, decide_eq_false (by rw [h0]; decide)] at KP
  unfold tokW at KP
  have HR := hide hR
  rw [Nat.add_zero, hy] at HA0
  rw [hx] at HA1
  unfold tokW at HA0 HA1
  clear h hy hx h0 h1 hR
  go_enter Tryz.func102, Tryz.ntmps102
  go_wp2_with (first | (go_at_call 158; refine (unhide HA0 _ (Below.refl _ _)).mono ?_; rintro e w4 ⟨rfl, hb4⟩; have HB4 := hide hb4; clear hb4 HA0) | (go_at_call 158; refine (unhide HA1 _ (unhide HB4)).mono ?_; rintro e w5 ⟨rfl, hb5⟩; have hb5' := (unhide HB4).trans (hb5.mono (unhide HB4).size); have HM5 := hide ((unhide H).below hb5'); have HMM := hide ((unhide HM).below hb5'); have HT := hide (TwoT.start w5 yk yn yt yp xk xn xt xp); clear hb5 hb5' HA1) | (go_at_call 61; refine (unhide KH _).mono ?_; rintro e w6 ⟨rfl, hb6⟩; have HT' := hide ((unhide HT).go hb6); clear HT hb6; have HT := HT'; clear HT'; obtain ⟨q0, q1, q2, q3⟩ := (unhide HT).q; obtain ⟨x0, x1, x2, x3⟩ := (unhide HT).x) | (go_at_call 60; refine (unhide KL _).mono ?_; rintro e w6 ⟨rfl, hb6⟩; have HT' := hide ((unhide HT).go hb6); clear HT hb6; have HT := HT'; clear HT'; obtain ⟨q0, q1, q2, q3⟩ := (unhide HT).q; obtain ⟨x0, x1, x2, x3⟩ := (unhide HT).x) | (go_at_call 159; refine (unhide KS _).mono ?_; clear KS; rintro e w6 ⟨rfl, hb6⟩; have HT' := hide ((unhide HT).go hb6); clear HT hb6; have HT := HT'; clear HT'; obtain ⟨q0, q1, q2, q3⟩ := (unhide HT).q; obtain ⟨x0, x1, x2, x3⟩ := (unhide HT).x) | (go_at_call 159; refine (unhide KP _).mono ?_; clear KP; rintro e w6 ⟨rfl, hb6⟩; have HT' := hide ((unhide HT).go hb6); clear HT hb6; have HT := HT'; clear HT'; obtain ⟨q0, q1, q2, q3⟩ := (unhide HT).q; obtain ⟨x0, x1, x2, x3⟩ := (unhide HT).x) | (go_at_call 166; refine (ReadI.at (unhide HR) ((unhide HMM).below (unhide HT).below) hroom).mono ?_; rintro e w7 ⟨z, v, rfl, hg⟩; have HF := hide hg; clear hg))
  go_ret2
  exact unhide HF


set_option maxRecDepth 20000 in
set_option maxHeartbeats 4000000 in
theorem stm_e3 (E : IEnv Z ta tn ts bytes) (h : IPS Z p ta tn tc bytes w i nd xs) (hi : i ≤ 4100) (hroom : xs.length + 4 * (5000 - i) ≤ 100000) (h0 : (seenT ts).cl i = 3) (h1 : (seenT ts).cl (i + 1) ≠ 8592) (h2 : scalNo ((seenT ts).cl (i + 1)) = 0) (h3 : (seenT ts).cl (i + 1) ≠ 91) {r : Res} (hR : ReadI Z p ta tn tc ts bytes 166 #[.pointer (some ⟨p, 0, none⟩)] i r) :
    Calls Tryz.prog 102 #[.pointer (some ⟨p, 0, none⟩)] w (GaveI Z p ta tn tc ts bytes w nd xs r) := by
  have H := hide h
  have HM : Hid (MidI Z p ta tn tc bytes w nd xs [] i w nd) := MidP.start h
  have HA0 := hide (fun (V : World) (hV : Below w.heap.size w V) => aheadP E h (by omega) hV 0 (by omega))
  have HA1 := hide (fun (V : World) (hV : Below w.heap.size w V) => aheadP E h (by omega) hV 1 (by omega))
  obtain ⟨⟨yk, yn, yt, yp⟩, hy⟩ : ∃ y, tokA ts bytes i = y := ⟨_, rfl⟩
  obtain ⟨⟨xk, xn, xt, xp⟩, hx⟩ : ∃ y, tokA ts bytes (i + 1) = y := ⟨_, rfl⟩
  have KH := hide (fun (V : World) => highP E i V)
  rw [hy, decide_eq_false (by rw [h0]; decide)] at KH
  unfold tokW at KH
  have KL := hide (fun (V : World) => lowP E i V)
  rw [hy, decide_eq_true h0] at KL
  unfold tokW at KL
  have KS := hide (fun (V : World) => signT E (i + 1) (c := 8592) (by decide) (s := ⟨#[226, 134, 144]⟩) (by kernel_rfl) V)
  rw [hx, decide_eq_false h1] at KS
  unfold tokW at KS
  have KC := hide (fun (V : World) (hV : Below Z.heap.size Z V) => scalP E (i + 1) hV)
  rw [hx, h2] at KC
  unfold tokW at KC
  have KB := hide (fun (V : World) => signT E (i + 1) (c := 91) (by decide) (s := ⟨#[91]⟩) (by kernel_rfl) V)
  rw [hx, decide_eq_false h3] at KB
  unfold tokW at KB
  have KP := hide (fun (V : World) => signT E i (c := 40) (by decide) (s := ⟨#[40]⟩) (by kernel_rfl) V)
  rw [hy, decide_eq_false (by rw [h0]; decide)] at KP
  unfold tokW at KP
  have HR := hide hR
  rw [Nat.add_zero, hy] at HA0
  rw [hx] at HA1
  unfold tokW at HA0 HA1
  clear h hy hx h0 h1 h2 h3 hR
  go_enter Tryz.func102, Tryz.ntmps102
  go_wp2_with (first | (go_at_call 158; refine (unhide HA0 _ (Below.refl _ _)).mono ?_; rintro e w4 ⟨rfl, hb4⟩; have HB4 := hide hb4; clear hb4 HA0) | (go_at_call 158; refine (unhide HA1 _ (unhide HB4)).mono ?_; rintro e w5 ⟨rfl, hb5⟩; have hb5' := (unhide HB4).trans (hb5.mono (unhide HB4).size); have HM5 := hide ((unhide H).below hb5'); have HMM := hide ((unhide HM).below hb5'); have HT := hide (TwoT.start w5 yk yn yt yp xk xn xt xp); clear hb5 hb5' HA1) | (go_at_call 61; refine (unhide KH _).mono ?_; rintro e w6 ⟨rfl, hb6⟩; have HT' := hide ((unhide HT).go hb6); clear HT hb6; have HT := HT'; clear HT'; obtain ⟨q0, q1, q2, q3⟩ := (unhide HT).q; obtain ⟨x0, x1, x2, x3⟩ := (unhide HT).x) | (go_at_call 60; refine (unhide KL _).mono ?_; rintro e w6 ⟨rfl, hb6⟩; have HT' := hide ((unhide HT).go hb6); clear HT hb6; have HT := HT'; clear HT'; obtain ⟨q0, q1, q2, q3⟩ := (unhide HT).q; obtain ⟨x0, x1, x2, x3⟩ := (unhide HT).x) | (go_at_call 159; refine (unhide KS _).mono ?_; clear KS; rintro e w6 ⟨rfl, hb6⟩; have HT' := hide ((unhide HT).go hb6); clear HT hb6; have HT := HT'; clear HT'; obtain ⟨q0, q1, q2, q3⟩ := (unhide HT).q; obtain ⟨x0, x1, x2, x3⟩ := (unhide HT).x) | (go_at_call 162; refine (unhide KC _ ((unhide HM5).low.trans ((unhide HT).below.mono (unhide HM5).low.size))).mono ?_; clear KC; rintro e w6 ⟨rfl, hb6⟩; have HT' := hide ((unhide HT).go hb6); clear HT hb6; have HT := HT'; clear HT'; obtain ⟨q0, q1, q2, q3⟩ := (unhide HT).q; obtain ⟨x0, x1, x2, x3⟩ := (unhide HT).x) | (go_at_call 159; refine (unhide KB _).mono ?_; clear KB; rintro e w6 ⟨rfl, hb6⟩; have HT' := hide ((unhide HT).go hb6); clear HT hb6; have HT := HT'; clear HT'; obtain ⟨q0, q1, q2, q3⟩ := (unhide HT).q; obtain ⟨x0, x1, x2, x3⟩ := (unhide HT).x) | (go_at_call 159; refine (unhide KP _).mono ?_; clear KP; rintro e w6 ⟨rfl, hb6⟩; have HT' := hide ((unhide HT).go hb6); clear HT hb6; have HT := HT'; clear HT'; obtain ⟨q0, q1, q2, q3⟩ := (unhide HT).q; obtain ⟨x0, x1, x2, x3⟩ := (unhide HT).x) | (go_at_call 166; refine (ReadI.at (unhide HR) ((unhide HMM).below (unhide HT).below) hroom).mono ?_; rintro e w7 ⟨z, v, rfl, hg⟩; have HF := hide hg; clear hg))
  go_ret2
  exact unhide HF


set_option maxRecDepth 20000 in
set_option maxHeartbeats 4000000 in
theorem stm_e91 (E : IEnv Z ta tn ts bytes) (h : IPS Z p ta tn tc bytes w i nd xs) (hi : i ≤ 4100) (hroom : xs.length + 4 * (5000 - i) ≤ 100000) (h0 : (seenT ts).cl i = 3) (h1 : (seenT ts).cl (i + 1) = 91) (hAS : ∀ W, IPS Z p ta tn tc bytes W i nd xs → Calls Tryz.prog 163 #[.pointer (some ⟨p, 0, none⟩)] W fun e w' => e = .returned (.bool false) ∧ Below W.heap.size W w') {r : Res} (hR : ReadI Z p ta tn tc ts bytes 166 #[.pointer (some ⟨p, 0, none⟩)] i r) :
    Calls Tryz.prog 102 #[.pointer (some ⟨p, 0, none⟩)] w (GaveI Z p ta tn tc ts bytes w nd xs r) := by
  have H := hide h
  have HM : Hid (MidI Z p ta tn tc bytes w nd xs [] i w nd) := MidP.start h
  have HA0 := hide (fun (V : World) (hV : Below w.heap.size w V) => aheadP E h (by omega) hV 0 (by omega))
  have HA1 := hide (fun (V : World) (hV : Below w.heap.size w V) => aheadP E h (by omega) hV 1 (by omega))
  obtain ⟨⟨yk, yn, yt, yp⟩, hy⟩ : ∃ y, tokA ts bytes i = y := ⟨_, rfl⟩
  obtain ⟨⟨xk, xn, xt, xp⟩, hx⟩ : ∃ y, tokA ts bytes (i + 1) = y := ⟨_, rfl⟩
  have KH := hide (fun (V : World) => highP E i V)
  rw [hy, decide_eq_false (by rw [h0]; decide)] at KH
  unfold tokW at KH
  have KL := hide (fun (V : World) => lowP E i V)
  rw [hy, decide_eq_true h0] at KL
  unfold tokW at KL
  have KS := hide (fun (V : World) => signT E (i + 1) (c := 8592) (by decide) (s := ⟨#[226, 134, 144]⟩) (by kernel_rfl) V)
  rw [hx, decide_eq_false (by rw [h1]; decide)] at KS
  unfold tokW at KS
  have KC := hide (fun (V : World) (hV : Below Z.heap.size Z V) => scalP E (i + 1) hV)
  rw [hx, show scalNo ((seenT ts).cl (i + 1)) = 0 by rw [h1]; decide] at KC
  unfold tokW at KC
  have KB := hide (fun (V : World) => signT E (i + 1) (c := 91) (by decide) (s := ⟨#[91]⟩) (by kernel_rfl) V)
  rw [hx, decide_eq_true h1] at KB
  unfold tokW at KB
  have KP := hide (fun (V : World) => signT E i (c := 40) (by decide) (s := ⟨#[40]⟩) (by kernel_rfl) V)
  rw [hy, decide_eq_false (by rw [h0]; decide)] at KP
  unfold tokW at KP
  have KG := hide hAS
  have HR := hide hR
  rw [Nat.add_zero, hy] at HA0
  rw [hx] at HA1
  unfold tokW at HA0 HA1
  clear h hy hx h0 h1 hR hAS
  go_enter Tryz.func102, Tryz.ntmps102
  go_wp2_with (first | (go_at_call 158; refine (unhide HA0 _ (Below.refl _ _)).mono ?_; rintro e w4 ⟨rfl, hb4⟩; have HB4 := hide hb4; clear hb4 HA0) | (go_at_call 158; refine (unhide HA1 _ (unhide HB4)).mono ?_; rintro e w5 ⟨rfl, hb5⟩; have hb5' := (unhide HB4).trans (hb5.mono (unhide HB4).size); have HM5 := hide ((unhide H).below hb5'); have HMM := hide ((unhide HM).below hb5'); have HT := hide (TwoT.start w5 yk yn yt yp xk xn xt xp); clear hb5 hb5' HA1) | (go_at_call 61; refine (unhide KH _).mono ?_; rintro e w6 ⟨rfl, hb6⟩; have HT' := hide ((unhide HT).go hb6); clear HT hb6; have HT := HT'; clear HT'; obtain ⟨q0, q1, q2, q3⟩ := (unhide HT).q; obtain ⟨x0, x1, x2, x3⟩ := (unhide HT).x) | (go_at_call 60; refine (unhide KL _).mono ?_; rintro e w6 ⟨rfl, hb6⟩; have HT' := hide ((unhide HT).go hb6); clear HT hb6; have HT := HT'; clear HT'; obtain ⟨q0, q1, q2, q3⟩ := (unhide HT).q; obtain ⟨x0, x1, x2, x3⟩ := (unhide HT).x) | (go_at_call 159; refine (unhide KS _).mono ?_; clear KS; rintro e w6 ⟨rfl, hb6⟩; have HT' := hide ((unhide HT).go hb6); clear HT hb6; have HT := HT'; clear HT'; obtain ⟨q0, q1, q2, q3⟩ := (unhide HT).q; obtain ⟨x0, x1, x2, x3⟩ := (unhide HT).x) | (go_at_call 162; refine (unhide KC _ ((unhide HM5).low.trans ((unhide HT).below.mono (unhide HM5).low.size))).mono ?_; clear KC; rintro e w6 ⟨rfl, hb6⟩; have HT' := hide ((unhide HT).go hb6); clear HT hb6; have HT := HT'; clear HT'; obtain ⟨q0, q1, q2, q3⟩ := (unhide HT).q; obtain ⟨x0, x1, x2, x3⟩ := (unhide HT).x) | (go_at_call 159; refine (unhide KB _).mono ?_; clear KB; rintro e w6 ⟨rfl, hb6⟩; have HT' := hide ((unhide HT).go hb6); clear HT hb6; have HT := HT'; clear HT'; obtain ⟨q0, q1, q2, q3⟩ := (unhide HT).q; obtain ⟨x0, x1, x2, x3⟩ := (unhide HT).x) | (go_at_call 159; refine (unhide KP _).mono ?_; clear KP; rintro e w6 ⟨rfl, hb6⟩; have HT' := hide ((unhide HT).go hb6); clear HT hb6; have HT := HT'; clear HT'; obtain ⟨q0, q1, q2, q3⟩ := (unhide HT).q; obtain ⟨x0, x1, x2, x3⟩ := (unhide HT).x) | (go_at_call 163; refine (unhide KG _ ((unhide HM5).below (unhide HT).below)).mono ?_; rintro e w6 ⟨rfl, hb6⟩; have HT' := hide ((unhide HT).go hb6); clear HT hb6; have HT := HT'; clear HT'; obtain ⟨q0, q1, q2, q3⟩ := (unhide HT).q; obtain ⟨x0, x1, x2, x3⟩ := (unhide HT).x) | (go_at_call 166; refine (ReadI.at (unhide HR) ((unhide HMM).below (unhide HT).below) hroom).mono ?_; rintro e w7 ⟨z, v, rfl, hg⟩; have HF := hide hg; clear hg))
  go_ret2
  exact unhide HF


set_option maxRecDepth 20000 in
set_option maxHeartbeats 4000000 in
theorem stm_e (E : IEnv Z ta tn ts bytes) (h : IPS Z p ta tn tc bytes w i nd xs) (hi : i ≤ 4100) (hroom : xs.length + 4 * (5000 - i) ≤ 100000) (h0 : (seenT ts).cl i ≠ 4) (h1 : (seenT ts).cl i ≠ 3) (h2 : (seenT ts).cl i ≠ 40) {r : Res} (hR : ReadI Z p ta tn tc ts bytes 166 #[.pointer (some ⟨p, 0, none⟩)] i r) :
    Calls Tryz.prog 102 #[.pointer (some ⟨p, 0, none⟩)] w (GaveI Z p ta tn tc ts bytes w nd xs r) := by
  have H := hide h
  have HM : Hid (MidI Z p ta tn tc bytes w nd xs [] i w nd) := MidP.start h
  have HA0 := hide (fun (V : World) (hV : Below w.heap.size w V) => aheadP E h (by omega) hV 0 (by omega))
  have HA1 := hide (fun (V : World) (hV : Below w.heap.size w V) => aheadP E h (by omega) hV 1 (by omega))
  obtain ⟨⟨yk, yn, yt, yp⟩, hy⟩ : ∃ y, tokA ts bytes i = y := ⟨_, rfl⟩
  obtain ⟨⟨xk, xn, xt, xp⟩, hx⟩ : ∃ y, tokA ts bytes (i + 1) = y := ⟨_, rfl⟩
  have KH := hide (fun (V : World) => highP E i V)
  rw [hy, decide_eq_false h0] at KH
  unfold tokW at KH
  have KL := hide (fun (V : World) => lowP E i V)
  rw [hy, decide_eq_false h1] at KL
  unfold tokW at KL
  have KP := hide (fun (V : World) => signT E i (c := 40) (by decide) (s := ⟨#[40]⟩) (by kernel_rfl) V)
  rw [hy, decide_eq_false h2] at KP
  unfold tokW at KP
  have HR := hide hR
  rw [Nat.add_zero, hy] at HA0
  rw [hx] at HA1
  unfold tokW at HA0 HA1
  clear h hy hx h0 h1 h2 hR
  go_enter Tryz.func102, Tryz.ntmps102
  go_wp2_with (first | (go_at_call 158; refine (unhide HA0 _ (Below.refl _ _)).mono ?_; rintro e w4 ⟨rfl, hb4⟩; have HB4 := hide hb4; clear hb4 HA0) | (go_at_call 158; refine (unhide HA1 _ (unhide HB4)).mono ?_; rintro e w5 ⟨rfl, hb5⟩; have hb5' := (unhide HB4).trans (hb5.mono (unhide HB4).size); have HM5 := hide ((unhide H).below hb5'); have HMM := hide ((unhide HM).below hb5'); have HT := hide (TwoT.start w5 yk yn yt yp xk xn xt xp); clear hb5 hb5' HA1) | (go_at_call 61; refine (unhide KH _).mono ?_; rintro e w6 ⟨rfl, hb6⟩; have HT' := hide ((unhide HT).go hb6); clear HT hb6; have HT := HT'; clear HT'; obtain ⟨q0, q1, q2, q3⟩ := (unhide HT).q; obtain ⟨x0, x1, x2, x3⟩ := (unhide HT).x) | (go_at_call 60; refine (unhide KL _).mono ?_; rintro e w6 ⟨rfl, hb6⟩; have HT' := hide ((unhide HT).go hb6); clear HT hb6; have HT := HT'; clear HT'; obtain ⟨q0, q1, q2, q3⟩ := (unhide HT).q; obtain ⟨x0, x1, x2, x3⟩ := (unhide HT).x) | (go_at_call 159; refine (unhide KP _).mono ?_; clear KP; rintro e w6 ⟨rfl, hb6⟩; have HT' := hide ((unhide HT).go hb6); clear HT hb6; have HT := HT'; clear HT'; obtain ⟨q0, q1, q2, q3⟩ := (unhide HT).q; obtain ⟨x0, x1, x2, x3⟩ := (unhide HT).x) | (go_at_call 166; refine (ReadI.at (unhide HR) ((unhide HMM).below (unhide HT).below) hroom).mono ?_; rintro e w7 ⟨z, v, rfl, hg⟩; have HF := hide hg; clear hg))
  go_ret2
  exact unhide HF


end
end Go.Proofs.YtmgjicgojlkpcaaGreatDoor
