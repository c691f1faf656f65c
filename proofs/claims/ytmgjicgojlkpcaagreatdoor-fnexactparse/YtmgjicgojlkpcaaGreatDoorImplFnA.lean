import Derived.Test.YtmgjicgojlkpcaaGreatDoorImplTwo
import Derived.Deep.RegionWith
namespace Go.Proofs.YtmgjicgojlkpcaaGreatDoor
open Go.RowKit

/-- A token's box, made in the world V. -/
def OneB (V : World) (yk yn : Int) (yt : ByteArray) (yp : Nat) (W : World) : Prop := Below (V.heap.size + 1) (V.alloc (tokB yk yn yt yp)) W

section
variable {V W W' : World} {yk yn : Int} {yt : ByteArray} {yp : Nat}

theorem OneB.start (V : World) (yk yn : Int) (yt : ByteArray) (yp : Nat) : OneB V yk yn yt yp (V.alloc (tokB yk yn yt yp)) := Below.refl _ _
theorem OneB.size (h : OneB V yk yn yt yp W) : V.heap.size + 1 ≤ W.heap.size := by have := Below.size h; simp at this; omega
theorem OneB.go (h : OneB V yk yn yt yp W) (hb : Below W.heap.size W W') : OneB V yk yn yt yp W' := Below.trans h (hb.mono h.size)
theorem OneB.below (h : OneB V yk yn yt yp W) : Below V.heap.size V W := ((Below.refl _ _).alloc (Nat.le_refl _) _ : Below V.heap.size V _).trans (Below.mono h (by omega))
theorem OneB.q (h : OneB V yk yn yt yp W) : W.cell? ⟨V.heap.size, 0, none⟩ = some (.int .i64 yk) ∧ W.cell? ⟨V.heap.size, 1, none⟩ = some (.int .i64 yn) ∧ W.cell? ⟨V.heap.size, 2, none⟩ = some (.string yt) ∧ W.cell? ⟨V.heap.size, 3, none⟩ = some (.int .i64 (yp : Nat)) := by
  have e : W.heap[V.heap.size]? = some (tokB yk yn yt yp) := by
    rw [Below.block h _ (by omega)]
    show (V.heap.push _)[V.heap.size]? = _
    simp
  unfold tokB at e
  refine ⟨?_, ?_, ?_, ?_⟩ <;> simp [World.cell?, e]

end

section
variable {Z w w0 : World} {p i : Nat} {nd nd0 : Value} {xs ys : List NodeC} {ta : Option Addr} {tn tc bytes : Nat} {ts : List Tok}


set_option maxRecDepth 20000 in
set_option maxHeartbeats 4000000 in
theorem fna_p (E : IEnv Z ta tn ts bytes) (h : IPS Z p ta tn tc bytes w i nd xs) (hi : i ≤ 4100) (hp : 0 < primNo ((seenT ts).cl i)) :
    Calls Tryz.prog 198 #[.pointer (some ⟨p, 0, none⟩)] w fun e w' => e = .returned (.bool true) ∧ Below w.heap.size w w' := by
  have H := hide h
  have HA := hide (aheadP E h (by omega) (Below.refl _ _) 0 (by omega))
  obtain ⟨⟨yk, yn, yt, yp⟩, hy⟩ : ∃ y, tokA ts bytes i = y := ⟨_, rfl⟩
  obtain ⟨M, hM⟩ : ∃ M : Nat, primNo ((seenT ts).cl i) = M := ⟨_, rfl⟩
  have hgt : decide ((M : Int) > 0) = true := by rw [hM] at hp; exact decide_eq_true (by omega)
  have hgt2 : decide ((0 : Int) < (M : Int)) = true := hgt
  have hgt3 : 0 < M := by rw [hM] at hp; exact hp
  have K0 := hide (fun (V : World) (hV : Below Z.heap.size Z V) => primP E i hV)
  rw [hy, hM] at K0
  unfold tokW at K0
  rw [Nat.add_zero, hy] at HA
  unfold tokW at HA
  clear h hy hM hp
  go_enter Tryz.func198, Tryz.ntmps198
  go_wp2_with (first | (go_at_call 158; refine (unhide HA).mono ?_; rintro e w5 ⟨rfl, hb5⟩; have HM5 := hide ((unhide H).below hb5); have HB5 := hide hb5; have HT := hide (OneB.start w5 yk yn yt yp); clear hb5 H HA) | (go_at_call 193; refine (unhide K0 _ ((unhide HM5).low.trans ((unhide HT).below.mono (unhide HM5).low.size))).mono ?_; rintro e w6 ⟨rfl, hb6⟩; have HT' := hide ((unhide HT).go hb6); clear HT hb6 K0; have HT := HT'; clear HT'; obtain ⟨q0, q1, q2, q3⟩ := (unhide HT).q))
  go_ret
  exact ⟨rfl, (unhide HB5).trans ((unhide HT).below.mono (unhide HB5).size)⟩


set_option maxRecDepth 20000 in
set_option maxHeartbeats 4000000 in
theorem fna_4 (E : IEnv Z ta tn ts bytes) (h : IPS Z p ta tn tc bytes w i nd xs) (hi : i ≤ 4100) (hp : primNo ((seenT ts).cl i) = 0) (h4 : (seenT ts).cl i = 4) :
    Calls Tryz.prog 198 #[.pointer (some ⟨p, 0, none⟩)] w fun e w' => e = .returned (.bool true) ∧ Below w.heap.size w w' := by
  have H := hide h
  have HA := hide (aheadP E h (by omega) (Below.refl _ _) 0 (by omega))
  obtain ⟨⟨yk, yn, yt, yp⟩, hy⟩ : ∃ y, tokA ts bytes i = y := ⟨_, rfl⟩
  have hM := hp
  have K0 := hide (fun (V : World) (hV : Below Z.heap.size Z V) => primP E i hV)
  rw [hy, hM] at K0
  unfold tokW at K0
  have K1 := hide (fun (V : World) => highP E i V)
  rw [hy, decide_eq_true h4] at K1
  unfold tokW at K1
  rw [Nat.add_zero, hy] at HA
  unfold tokW at HA
  clear h hy hM hp h4
  go_enter Tryz.func198, Tryz.ntmps198
  go_wp2_with (first | (go_at_call 158; refine (unhide HA).mono ?_; rintro e w5 ⟨rfl, hb5⟩; have HM5 := hide ((unhide H).below hb5); have HB5 := hide hb5; have HT := hide (OneB.start w5 yk yn yt yp); clear hb5 H HA) | (go_at_call 193; refine (unhide K0 _ ((unhide HM5).low.trans ((unhide HT).below.mono (unhide HM5).low.size))).mono ?_; rintro e w6 ⟨rfl, hb6⟩; have HT' := hide ((unhide HT).go hb6); clear HT hb6 K0; have HT := HT'; clear HT'; obtain ⟨q0, q1, q2, q3⟩ := (unhide HT).q) | (go_at_call 61; refine (unhide K1 _).mono ?_; rintro e w6 ⟨rfl, hb6⟩; have HT' := hide ((unhide HT).go hb6); clear HT hb6 K1; have HT := HT'; clear HT'; obtain ⟨q0, q1, q2, q3⟩ := (unhide HT).q))
  go_ret
  exact ⟨rfl, (unhide HB5).trans ((unhide HT).below.mono (unhide HB5).size)⟩


set_option maxRecDepth 20000 in
set_option maxHeartbeats 4000000 in
theorem fna_8728 (E : IEnv Z ta tn ts bytes) (h : IPS Z p ta tn tc bytes w i nd xs) (hi : i ≤ 4100) (hp : primNo ((seenT ts).cl i) = 0) (h4 : (seenT ts).cl i ≠ 4) (h8728 : (seenT ts).cl i = 8728) :
    Calls Tryz.prog 198 #[.pointer (some ⟨p, 0, none⟩)] w fun e w' => e = .returned (.bool true) ∧ Below w.heap.size w w' := by
  have H := hide h
  have HA := hide (aheadP E h (by omega) (Below.refl _ _) 0 (by omega))
  obtain ⟨⟨yk, yn, yt, yp⟩, hy⟩ : ∃ y, tokA ts bytes i = y := ⟨_, rfl⟩
  have hM := hp
  have K0 := hide (fun (V : World) (hV : Below Z.heap.size Z V) => primP E i hV)
  rw [hy, hM] at K0
  unfold tokW at K0
  have K1 := hide (fun (V : World) => highP E i V)
  rw [hy, decide_eq_false h4] at K1
  unfold tokW at K1
  have K2 := hide (fun (V : World) => signT E i (c := 8728) (by decide) (s := ⟨#[226, 136, 152]⟩) (by kernel_rfl) V)
  rw [hy, decide_eq_true h8728] at K2
  unfold tokW at K2
  rw [Nat.add_zero, hy] at HA
  unfold tokW at HA
  clear h hy hM hp h4 h8728
  go_enter Tryz.func198, Tryz.ntmps198
  go_wp2_with (first | (go_at_call 158; refine (unhide HA).mono ?_; rintro e w5 ⟨rfl, hb5⟩; have HM5 := hide ((unhide H).below hb5); have HB5 := hide hb5; have HT := hide (OneB.start w5 yk yn yt yp); clear hb5 H HA) | (go_at_call 193; refine (unhide K0 _ ((unhide HM5).low.trans ((unhide HT).below.mono (unhide HM5).low.size))).mono ?_; rintro e w6 ⟨rfl, hb6⟩; have HT' := hide ((unhide HT).go hb6); clear HT hb6 K0; have HT := HT'; clear HT'; obtain ⟨q0, q1, q2, q3⟩ := (unhide HT).q) | (go_at_call 61; refine (unhide K1 _).mono ?_; rintro e w6 ⟨rfl, hb6⟩; have HT' := hide ((unhide HT).go hb6); clear HT hb6 K1; have HT := HT'; clear HT'; obtain ⟨q0, q1, q2, q3⟩ := (unhide HT).q) | (go_at_call 159; refine (unhide K2 _).mono ?_; rintro e w6 ⟨rfl, hb6⟩; have HT' := hide ((unhide HT).go hb6); clear HT hb6 K2; have HT := HT'; clear HT'; obtain ⟨q0, q1, q2, q3⟩ := (unhide HT).q))
  go_ret
  exact ⟨rfl, (unhide HB5).trans ((unhide HT).below.mono (unhide HB5).size)⟩


set_option maxRecDepth 20000 in
set_option maxHeartbeats 4000000 in
theorem fna_123 (E : IEnv Z ta tn ts bytes) (h : IPS Z p ta tn tc bytes w i nd xs) (hi : i ≤ 4100) (hp : primNo ((seenT ts).cl i) = 0) (h4 : (seenT ts).cl i ≠ 4) (h8728 : (seenT ts).cl i ≠ 8728) (h123 : (seenT ts).cl i = 123) :
    Calls Tryz.prog 198 #[.pointer (some ⟨p, 0, none⟩)] w fun e w' => e = .returned (.bool true) ∧ Below w.heap.size w w' := by
  have H := hide h
  have HA := hide (aheadP E h (by omega) (Below.refl _ _) 0 (by omega))
  obtain ⟨⟨yk, yn, yt, yp⟩, hy⟩ : ∃ y, tokA ts bytes i = y := ⟨_, rfl⟩
  have hM := hp
  have K0 := hide (fun (V : World) (hV : Below Z.heap.size Z V) => primP E i hV)
  rw [hy, hM] at K0
  unfold tokW at K0
  have K1 := hide (fun (V : World) => highP E i V)
  rw [hy, decide_eq_false h4] at K1
  unfold tokW at K1
  have K2 := hide (fun (V : World) => signT E i (c := 8728) (by decide) (s := ⟨#[226, 136, 152]⟩) (by kernel_rfl) V)
  rw [hy, decide_eq_false h8728] at K2
  unfold tokW at K2
  have K3 := hide (fun (V : World) => signT E i (c := 123) (by decide) (s := ⟨#[123]⟩) (by kernel_rfl) V)
  rw [hy, decide_eq_true h123] at K3
  unfold tokW at K3
  rw [Nat.add_zero, hy] at HA
  unfold tokW at HA
  clear h hy hM hp h4 h8728 h123
  go_enter Tryz.func198, Tryz.ntmps198
  go_wp2_with (first | (go_at_call 158; refine (unhide HA).mono ?_; rintro e w5 ⟨rfl, hb5⟩; have HM5 := hide ((unhide H).below hb5); have HB5 := hide hb5; have HT := hide (OneB.start w5 yk yn yt yp); clear hb5 H HA) | (go_at_call 193; refine (unhide K0 _ ((unhide HM5).low.trans ((unhide HT).below.mono (unhide HM5).low.size))).mono ?_; rintro e w6 ⟨rfl, hb6⟩; have HT' := hide ((unhide HT).go hb6); clear HT hb6 K0; have HT := HT'; clear HT'; obtain ⟨q0, q1, q2, q3⟩ := (unhide HT).q) | (go_at_call 61; refine (unhide K1 _).mono ?_; rintro e w6 ⟨rfl, hb6⟩; have HT' := hide ((unhide HT).go hb6); clear HT hb6 K1; have HT := HT'; clear HT'; obtain ⟨q0, q1, q2, q3⟩ := (unhide HT).q) | (go_at_call 159; refine (unhide K2 _).mono ?_; rintro e w6 ⟨rfl, hb6⟩; have HT' := hide ((unhide HT).go hb6); clear HT hb6 K2; have HT := HT'; clear HT'; obtain ⟨q0, q1, q2, q3⟩ := (unhide HT).q) | (go_at_call 159; refine (unhide K3 _).mono ?_; rintro e w6 ⟨rfl, hb6⟩; have HT' := hide ((unhide HT).go hb6); clear HT hb6 K3; have HT := HT'; clear HT'; obtain ⟨q0, q1, q2, q3⟩ := (unhide HT).q))
  go_ret
  exact ⟨rfl, (unhide HB5).trans ((unhide HT).below.mono (unhide HB5).size)⟩


set_option maxRecDepth 20000 in
set_option maxHeartbeats 4000000 in
theorem fna_8711 (E : IEnv Z ta tn ts bytes) (h : IPS Z p ta tn tc bytes w i nd xs) (hi : i ≤ 4100) (hp : primNo ((seenT ts).cl i) = 0) (h4 : (seenT ts).cl i ≠ 4) (h8728 : (seenT ts).cl i ≠ 8728) (h123 : (seenT ts).cl i ≠ 123) (h8711 : (seenT ts).cl i = 8711) :
    Calls Tryz.prog 198 #[.pointer (some ⟨p, 0, none⟩)] w fun e w' => e = .returned (.bool true) ∧ Below w.heap.size w w' := by
  have H := hide h
  have HA := hide (aheadP E h (by omega) (Below.refl _ _) 0 (by omega))
  obtain ⟨⟨yk, yn, yt, yp⟩, hy⟩ : ∃ y, tokA ts bytes i = y := ⟨_, rfl⟩
  have hM := hp
  have K0 := hide (fun (V : World) (hV : Below Z.heap.size Z V) => primP E i hV)
  rw [hy, hM] at K0
  unfold tokW at K0
  have K1 := hide (fun (V : World) => highP E i V)
  rw [hy, decide_eq_false h4] at K1
  unfold tokW at K1
  have K2 := hide (fun (V : World) => signT E i (c := 8728) (by decide) (s := ⟨#[226, 136, 152]⟩) (by kernel_rfl) V)
  rw [hy, decide_eq_false h8728] at K2
  unfold tokW at K2
  have K3 := hide (fun (V : World) => signT E i (c := 123) (by decide) (s := ⟨#[123]⟩) (by kernel_rfl) V)
  rw [hy, decide_eq_false h123] at K3
  unfold tokW at K3
  have K4 := hide (fun (V : World) => signT E i (c := 8711) (by decide) (s := ⟨#[226, 136, 135]⟩) (by kernel_rfl) V)
  rw [hy, decide_eq_true h8711] at K4
  unfold tokW at K4
  rw [Nat.add_zero, hy] at HA
  unfold tokW at HA
  clear h hy hM hp h4 h8728 h123 h8711
  go_enter Tryz.func198, Tryz.ntmps198
  go_wp2_with (first | (go_at_call 158; refine (unhide HA).mono ?_; rintro e w5 ⟨rfl, hb5⟩; have HM5 := hide ((unhide H).below hb5); have HB5 := hide hb5; have HT := hide (OneB.start w5 yk yn yt yp); clear hb5 H HA) | (go_at_call 193; refine (unhide K0 _ ((unhide HM5).low.trans ((unhide HT).below.mono (unhide HM5).low.size))).mono ?_; rintro e w6 ⟨rfl, hb6⟩; have HT' := hide ((unhide HT).go hb6); clear HT hb6 K0; have HT := HT'; clear HT'; obtain ⟨q0, q1, q2, q3⟩ := (unhide HT).q) | (go_at_call 61; refine (unhide K1 _).mono ?_; rintro e w6 ⟨rfl, hb6⟩; have HT' := hide ((unhide HT).go hb6); clear HT hb6 K1; have HT := HT'; clear HT'; obtain ⟨q0, q1, q2, q3⟩ := (unhide HT).q) | (go_at_call 159; refine (unhide K2 _).mono ?_; rintro e w6 ⟨rfl, hb6⟩; have HT' := hide ((unhide HT).go hb6); clear HT hb6 K2; have HT := HT'; clear HT'; obtain ⟨q0, q1, q2, q3⟩ := (unhide HT).q) | (go_at_call 159; refine (unhide K3 _).mono ?_; rintro e w6 ⟨rfl, hb6⟩; have HT' := hide ((unhide HT).go hb6); clear HT hb6 K3; have HT := HT'; clear HT'; obtain ⟨q0, q1, q2, q3⟩ := (unhide HT).q) | (go_at_call 159; refine (unhide K4 _).mono ?_; rintro e w6 ⟨rfl, hb6⟩; have HT' := hide ((unhide HT).go hb6); clear HT hb6 K4; have HT := HT'; clear HT'; obtain ⟨q0, q1, q2, q3⟩ := (unhide HT).q))
  go_ret
  exact ⟨rfl, (unhide HB5).trans ((unhide HT).below.mono (unhide HB5).size)⟩


set_option maxRecDepth 20000 in
set_option maxHeartbeats 4000000 in
theorem fna_no (E : IEnv Z ta tn ts bytes) (h : IPS Z p ta tn tc bytes w i nd xs) (hi : i ≤ 4100) (hp : primNo ((seenT ts).cl i) = 0) (h4 : (seenT ts).cl i ≠ 4) (h8728 : (seenT ts).cl i ≠ 8728) (h123 : (seenT ts).cl i ≠ 123) (h8711 : (seenT ts).cl i ≠ 8711) :
    Calls Tryz.prog 198 #[.pointer (some ⟨p, 0, none⟩)] w fun e w' => e = .returned (.bool false) ∧ Below w.heap.size w w' := by
  have H := hide h
  have HA := hide (aheadP E h (by omega) (Below.refl _ _) 0 (by omega))
  obtain ⟨⟨yk, yn, yt, yp⟩, hy⟩ : ∃ y, tokA ts bytes i = y := ⟨_, rfl⟩
  have hM := hp
  have K0 := hide (fun (V : World) (hV : Below Z.heap.size Z V) => primP E i hV)
  rw [hy, hM] at K0
  unfold tokW at K0
  have K1 := hide (fun (V : World) => highP E i V)
  rw [hy, decide_eq_false h4] at K1
  unfold tokW at K1
  have K2 := hide (fun (V : World) => signT E i (c := 8728) (by decide) (s := ⟨#[226, 136, 152]⟩) (by kernel_rfl) V)
  rw [hy, decide_eq_false h8728] at K2
  unfold tokW at K2
  have K3 := hide (fun (V : World) => signT E i (c := 123) (by decide) (s := ⟨#[123]⟩) (by kernel_rfl) V)
  rw [hy, decide_eq_false h123] at K3
  unfold tokW at K3
  have K4 := hide (fun (V : World) => signT E i (c := 8711) (by decide) (s := ⟨#[226, 136, 135]⟩) (by kernel_rfl) V)
  rw [hy, decide_eq_false h8711] at K4
  unfold tokW at K4
  rw [Nat.add_zero, hy] at HA
  unfold tokW at HA
  clear h hy hM hp h4 h8728 h123 h8711
  go_enter Tryz.func198, Tryz.ntmps198
  go_wp2_with (first | (go_at_call 158; refine (unhide HA).mono ?_; rintro e w5 ⟨rfl, hb5⟩; have HM5 := hide ((unhide H).below hb5); have HB5 := hide hb5; have HT := hide (OneB.start w5 yk yn yt yp); clear hb5 H HA) | (go_at_call 193; refine (unhide K0 _ ((unhide HM5).low.trans ((unhide HT).below.mono (unhide HM5).low.size))).mono ?_; rintro e w6 ⟨rfl, hb6⟩; have HT' := hide ((unhide HT).go hb6); clear HT hb6 K0; have HT := HT'; clear HT'; obtain ⟨q0, q1, q2, q3⟩ := (unhide HT).q) | (go_at_call 61; refine (unhide K1 _).mono ?_; rintro e w6 ⟨rfl, hb6⟩; have HT' := hide ((unhide HT).go hb6); clear HT hb6 K1; have HT := HT'; clear HT'; obtain ⟨q0, q1, q2, q3⟩ := (unhide HT).q) | (go_at_call 159; refine (unhide K2 _).mono ?_; rintro e w6 ⟨rfl, hb6⟩; have HT' := hide ((unhide HT).go hb6); clear HT hb6 K2; have HT := HT'; clear HT'; obtain ⟨q0, q1, q2, q3⟩ := (unhide HT).q) | (go_at_call 159; refine (unhide K3 _).mono ?_; rintro e w6 ⟨rfl, hb6⟩; have HT' := hide ((unhide HT).go hb6); clear HT hb6 K3; have HT := HT'; clear HT'; obtain ⟨q0, q1, q2, q3⟩ := (unhide HT).q) | (go_at_call 159; refine (unhide K4 _).mono ?_; rintro e w6 ⟨rfl, hb6⟩; have HT' := hide ((unhide HT).go hb6); clear HT hb6 K4; have HT := HT'; clear HT'; obtain ⟨q0, q1, q2, q3⟩ := (unhide HT).q))
  go_ret
  exact ⟨rfl, (unhide HB5).trans ((unhide HT).below.mono (unhide HB5).size)⟩


/-- Whether a function is ahead. -/
theorem fnAheadP (E : IEnv Z ta tn ts bytes) (h : IPS Z p ta tn tc bytes w i nd xs) (hi : i ≤ 4100) :
    Calls Tryz.prog 198 #[.pointer (some ⟨p, 0, none⟩)] w fun e w' => e = .returned (.bool (fnC ((seenT ts).cl i))) ∧ Below w.heap.size w w' := by
  unfold fnC
  by_cases hp : 0 < primNo ((seenT ts).cl i)
  · rw [decide_eq_true (.inl hp)]; exact fna_p E h hi hp
  have hp0 : primNo ((seenT ts).cl i) = 0 := by omega
  by_cases h4 : (seenT ts).cl i = 4
  · rw [decide_eq_true (.inr (.inl h4))]; exact fna_4 E h hi hp0 h4
  by_cases h1 : (seenT ts).cl i = 8728
  · rw [decide_eq_true (.inr (.inr (.inl h1)))]; exact fna_8728 E h hi hp0 h4 h1
  by_cases h2 : (seenT ts).cl i = 123
  · rw [decide_eq_true (.inr (.inr (.inr (.inl h2))))]; exact fna_123 E h hi hp0 h4 h1 h2
  by_cases h3 : (seenT ts).cl i = 8711
  · rw [decide_eq_true (.inr (.inr (.inr (.inr h3))))]; exact fna_8711 E h hi hp0 h4 h1 h2 h3
  rw [decide_eq_false (by rintro (h' | h' | h' | h' | h') <;> omega)]
  exact fna_no E h hi hp0 h4 h1 h2 h3

end
end Go.Proofs.YtmgjicgojlkpcaaGreatDoor
