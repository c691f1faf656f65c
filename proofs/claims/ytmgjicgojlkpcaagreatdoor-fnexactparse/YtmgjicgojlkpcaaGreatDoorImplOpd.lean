import Derived.Test.YtmgjicgojlkpcaaGreatDoorImplTwo
import Derived.Test.YtmgjicgojlkpcaaGreatDoorImplFnP
namespace Go.Proofs.YtmgjicgojlkpcaaGreatDoor
open Go.RowKit

section
variable {Z w w0 : World} {p i : Nat} {nd nd0 : Value} {xs ys : List NodeC} {ta : Option Addr} {tn tc bytes : Nat} {ts : List Tok}


theorem tokA_t (bytes q : Nat) (h : (seenT ts).cl q ≠ 0) : (tokA ts 0 q).t = (tokA ts bytes q).t := by
  have hq := seen_ends ts q h
  have hq' : q < ts.length := hq
  have e : ∀ b, tokA ts b q = ts[q] := fun b => by unfold tokA; simp [List.getD_eq_getElem?_getD, hq']
  rw [e, e]


set_option maxRecDepth 20000 in
set_option maxHeartbeats 4000000 in
theorem opd_40 (E : IEnv Z ta tn ts bytes) (h : IPS Z p ta tn tc bytes w i nd xs) (hi : i ≤ 4100) (hlen : xs.length ≤ 1048576) (h1 : (seenT ts).cl i ≠ 1) (h40 : (seenT ts).cl i = 40) (hroom : xs.length + 4 * (5000 - i) ≤ 100000) {r : Res} (hR : ReadI Z p ta tn tc ts bytes 219 #[.pointer (some ⟨p, 0, none⟩)] i r) :
    Calls Tryz.prog 196 #[.pointer (some ⟨p, 0, none⟩)] w (GaveI Z p ta tn tc ts bytes w nd xs r) := by
  have HM : Hid (MidI Z p ta tn tc bytes w nd xs [] i w nd) := MidP.start h
  have HL : Hid (xs.length ≤ 1048576) := hlen
  obtain ⟨s1, s2⟩ := seen_k E i
  have HA := hide (aheadP E h (by omega) (Below.refl _ _) 0 (by omega))
  have hsv : (seenT ts).sv i = (tokA ts 0 i).t := rfl
  obtain ⟨⟨yk, yn, yt, yp⟩, hy⟩ : ∃ y, tokA ts bytes i = y := ⟨_, rfl⟩
  rw [hy] at s1 s2
  dsimp only at s1 s2
  have hd1 : (yk == 1) = false := by simpa using fun e => h1 (s1.1 e)
  have K0 := hide (fun (V : World) => signT E i (c := 40) (by decide) (s := ⟨#[40]⟩) (by kernel_rfl) V)
  rw [hy, decide_eq_true h40] at K0
  unfold tokW at K0
  have HR := hide hR
  rw [Nat.add_zero, hy] at HA
  unfold tokW at HA
  clear h hlen hy hsv s1 s2 h1 h40 hR
  go_enter Tryz.func196, Tryz.ntmps196
  go_wp2_with (first | (go_at_call 158; refine (unhide HA).mono ?_; rintro e w5 ⟨rfl, hb5⟩; have HM5 := hide ((unhide HM).below hb5); have HT := hide (TwoB.start w5 yk yn yt yp); clear hb5 HM HA) | (go_at_call 159; refine (unhide K0 _).mono ?_; rintro e w6 ⟨rfl, hb6⟩; have HT' := hide ((unhide HT).go hb6); clear HT hb6 K0; have HT := HT'; clear HT'; obtain ⟨q0, q1, q2, q3⟩ := (unhide HT).q) | (go_at_call 219; refine (ReadI.at (unhide HR) ((unhide HM5).below (unhide HT).below) hroom).mono ?_; rintro e w7 ⟨z, v, rfl, hg⟩; have HF := hide hg; clear hg))
  go_ret2
  exact unhide HF


set_option maxRecDepth 20000 in
set_option maxHeartbeats 4000000 in
theorem opd_2 (E : IEnv Z ta tn ts bytes) (h : IPS Z p ta tn tc bytes w i nd xs) (hi : i ≤ 4100) (hlen : xs.length ≤ 1048576) (h1 : (seenT ts).cl i ≠ 1) (h40 : (seenT ts).cl i ≠ 40) (h2 : (seenT ts).cl i = 2) :
    Calls Tryz.prog 196 #[.pointer (some ⟨p, 0, none⟩)] w (GaveI Z p ta tn tc ts bytes w nd xs (true, i + 1, [treeN 2 0 0 ((seenT ts).sv i) [] []])) := by
  have HM : Hid (MidI Z p ta tn tc bytes w nd xs [] i w nd) := MidP.start h
  have HL : Hid (xs.length ≤ 1048576) := hlen
  obtain ⟨s1, s2⟩ := seen_k E i
  have HA := hide (aheadP E h (by omega) (Below.refl _ _) 0 (by omega))
  have hsv : (seenT ts).sv i = (tokA ts 0 i).t := rfl
  obtain ⟨⟨yk, yn, yt, yp⟩, hy⟩ : ∃ y, tokA ts bytes i = y := ⟨_, rfl⟩
  rw [hy] at s1 s2
  dsimp only at s1 s2
  have hd1 : (yk == 1) = false := by simpa using fun e => h1 (s1.1 e)
  have hd2 : (yk == 2) = true := by simpa using s2.2 h2
  have ht : (seenT ts).sv i = yt := by rw [hsv, tokA_t bytes i (by rw [h2]; decide), hy]
  rw [ht]
  clear ht
  have K0 := hide (fun (V : World) => signT E i (c := 40) (by decide) (s := ⟨#[40]⟩) (by kernel_rfl) V)
  rw [hy, decide_eq_false h40] at K0
  unfold tokW at K0
  have hw1 : IntKind.i64.wrap ((i : Int) + 1) = (i : Int) + 1 := by rw [IntKind.wrap_i64]; omega
  rw [Nat.add_zero, hy] at HA
  unfold tokW at HA
  clear h hlen hy hsv s1 s2 h1 h40 h2
  go_enter Tryz.func196, Tryz.ntmps196
  go_wp2_with (first | (go_at_call 158; refine (unhide HA).mono ?_; rintro e w5 ⟨rfl, hb5⟩; have HM5 := hide ((unhide HM).below hb5); have HT := hide (TwoB.start w5 yk yn yt yp); clear hb5 HM HA) | (go_at_call 159; refine (unhide K0 _).mono ?_; rintro e w6 ⟨rfl, hb6⟩; have HT' := hide ((unhide HT).go hb6); clear HT hb6 K0; have HT := HT'; clear HT'; obtain ⟨q0, q1, q2, q3⟩ := (unhide HT).q; obtain ⟨r0, r1, r2, r3, r4, r5⟩ := (unhide HT).r; obtain ⟨z0, z1, z2, z3, z4, z5⟩ := (unhide HT).z; obtain ⟨p0, p1, p2, p3, f0, f1, f2, f3, hpl⟩ := ((unhide HM5).below (unhide HT).below).ps.all; have hpl5 := lt_of_block (unhide HM5).ps.box; have hne1 : p ≠ w5.heap.size + 1 := by omega) | (go_at_call 104; have hmf := MidP.opd (unhide HM5) (unhide HT) 2 0 0 yt; refine (putLeaf hmf 2 0 0 yt (unhide HL)).mono ?_; clear hmf; rintro e w7 ⟨rfl, ys', nd', hm, hd⟩; have HF := hide (And.intro hm hd); clear hm hd))
  go_ret2
  exact gave_leaf 2 0 0 yt rfl (unhide HF).1 (unhide HF).2


set_option maxRecDepth 20000 in
set_option maxHeartbeats 4000000 in
theorem opd_3 (E : IEnv Z ta tn ts bytes) (h : IPS Z p ta tn tc bytes w i nd xs) (hi : i ≤ 4100) (hlen : xs.length ≤ 1048576) (h1 : (seenT ts).cl i ≠ 1) (h40 : (seenT ts).cl i ≠ 40) (h2 : (seenT ts).cl i ≠ 2) (h3 : (seenT ts).cl i = 3) :
    Calls Tryz.prog 196 #[.pointer (some ⟨p, 0, none⟩)] w (GaveI Z p ta tn tc ts bytes w nd xs (true, i + 1, [treeN 3 0 0 ((seenT ts).sv i) [] []])) := by
  have HM : Hid (MidI Z p ta tn tc bytes w nd xs [] i w nd) := MidP.start h
  have HL : Hid (xs.length ≤ 1048576) := hlen
  obtain ⟨s1, s2⟩ := seen_k E i
  have HA := hide (aheadP E h (by omega) (Below.refl _ _) 0 (by omega))
  have hsv : (seenT ts).sv i = (tokA ts 0 i).t := rfl
  obtain ⟨⟨yk, yn, yt, yp⟩, hy⟩ : ∃ y, tokA ts bytes i = y := ⟨_, rfl⟩
  rw [hy] at s1 s2
  dsimp only at s1 s2
  have hd1 : (yk == 1) = false := by simpa using fun e => h1 (s1.1 e)
  have hd2 : (yk == 2) = false := by simpa using fun e => h2 (s2.1 e)
  have ht : (seenT ts).sv i = yt := by rw [hsv, tokA_t bytes i (by rw [h3]; decide), hy]
  rw [ht]
  clear ht
  have K0 := hide (fun (V : World) => signT E i (c := 40) (by decide) (s := ⟨#[40]⟩) (by kernel_rfl) V)
  rw [hy, decide_eq_false h40] at K0
  unfold tokW at K0
  have K1 := hide (fun (V : World) => lowP E i V)
  rw [hy, decide_eq_true h3] at K1
  unfold tokW at K1
  have hw1 : IntKind.i64.wrap ((i : Int) + 1) = (i : Int) + 1 := by rw [IntKind.wrap_i64]; omega
  rw [Nat.add_zero, hy] at HA
  unfold tokW at HA
  clear h hlen hy hsv s1 s2 h1 h40 h2 h3
  go_enter Tryz.func196, Tryz.ntmps196
  go_wp2_with (first | (go_at_call 158; refine (unhide HA).mono ?_; rintro e w5 ⟨rfl, hb5⟩; have HM5 := hide ((unhide HM).below hb5); have HT := hide (TwoB.start w5 yk yn yt yp); clear hb5 HM HA) | (go_at_call 159; refine (unhide K0 _).mono ?_; rintro e w6 ⟨rfl, hb6⟩; have HT' := hide ((unhide HT).go hb6); clear HT hb6 K0; have HT := HT'; clear HT'; obtain ⟨q0, q1, q2, q3⟩ := (unhide HT).q) | (go_at_call 60; refine (unhide K1 _).mono ?_; rintro e w6 ⟨rfl, hb6⟩; have HT' := hide ((unhide HT).go hb6); clear HT hb6 K1; have HT := HT'; clear HT'; obtain ⟨q0, q1, q2, q3⟩ := (unhide HT).q; obtain ⟨r0, r1, r2, r3, r4, r5⟩ := (unhide HT).r; obtain ⟨z0, z1, z2, z3, z4, z5⟩ := (unhide HT).z; obtain ⟨p0, p1, p2, p3, f0, f1, f2, f3, hpl⟩ := ((unhide HM5).below (unhide HT).below).ps.all; have hpl5 := lt_of_block (unhide HM5).ps.box; have hne1 : p ≠ w5.heap.size + 1 := by omega) | (go_at_call 104; have hmf := MidP.opd (unhide HM5) (unhide HT) 3 0 0 yt; refine (putLeaf hmf 3 0 0 yt (unhide HL)).mono ?_; clear hmf; rintro e w7 ⟨rfl, ys', nd', hm, hd⟩; have HF := hide (And.intro hm hd); clear hm hd))
  go_ret2
  exact gave_leaf 3 0 0 yt rfl (unhide HF).1 (unhide HF).2


set_option maxRecDepth 20000 in
set_option maxHeartbeats 4000000 in
theorem opd_9082 (E : IEnv Z ta tn ts bytes) (h : IPS Z p ta tn tc bytes w i nd xs) (hi : i ≤ 4100) (hlen : xs.length ≤ 1048576) (h1 : (seenT ts).cl i ≠ 1) (h40 : (seenT ts).cl i ≠ 40) (h2 : (seenT ts).cl i ≠ 2) (h3 : (seenT ts).cl i ≠ 3) (h9082 : (seenT ts).cl i = 9082) :
    Calls Tryz.prog 196 #[.pointer (some ⟨p, 0, none⟩)] w (GaveI Z p ta tn tc ts bytes w nd xs (true, i + 1, [treeN 4 0 0 ⟨#[]⟩ [] []])) := by
  have HM : Hid (MidI Z p ta tn tc bytes w nd xs [] i w nd) := MidP.start h
  have HL : Hid (xs.length ≤ 1048576) := hlen
  obtain ⟨s1, s2⟩ := seen_k E i
  have HA := hide (aheadP E h (by omega) (Below.refl _ _) 0 (by omega))
  have hsv : (seenT ts).sv i = (tokA ts 0 i).t := rfl
  obtain ⟨⟨yk, yn, yt, yp⟩, hy⟩ : ∃ y, tokA ts bytes i = y := ⟨_, rfl⟩
  rw [hy] at s1 s2
  dsimp only at s1 s2
  have hd1 : (yk == 1) = false := by simpa using fun e => h1 (s1.1 e)
  have hd2 : (yk == 2) = false := by simpa using fun e => h2 (s2.1 e)
  have K0 := hide (fun (V : World) => signT E i (c := 40) (by decide) (s := ⟨#[40]⟩) (by kernel_rfl) V)
  rw [hy, decide_eq_false h40] at K0
  unfold tokW at K0
  have K1 := hide (fun (V : World) => lowP E i V)
  rw [hy, decide_eq_false h3] at K1
  unfold tokW at K1
  have K2 := hide (fun (V : World) => signT E i (c := 9082) (by decide) (s := ⟨#[226, 141, 186]⟩) (by kernel_rfl) V)
  rw [hy, decide_eq_true h9082] at K2
  unfold tokW at K2
  have hw1 : IntKind.i64.wrap ((i : Int) + 1) = (i : Int) + 1 := by rw [IntKind.wrap_i64]; omega
  rw [Nat.add_zero, hy] at HA
  unfold tokW at HA
  clear h hlen hy hsv s1 s2 h1 h40 h2 h3 h9082
  go_enter Tryz.func196, Tryz.ntmps196
  go_wp2_with (first | (go_at_call 158; refine (unhide HA).mono ?_; rintro e w5 ⟨rfl, hb5⟩; have HM5 := hide ((unhide HM).below hb5); have HT := hide (TwoB.start w5 yk yn yt yp); clear hb5 HM HA) | (go_at_call 159; refine (unhide K0 _).mono ?_; rintro e w6 ⟨rfl, hb6⟩; have HT' := hide ((unhide HT).go hb6); clear HT hb6 K0; have HT := HT'; clear HT'; obtain ⟨q0, q1, q2, q3⟩ := (unhide HT).q) | (go_at_call 60; refine (unhide K1 _).mono ?_; rintro e w6 ⟨rfl, hb6⟩; have HT' := hide ((unhide HT).go hb6); clear HT hb6 K1; have HT := HT'; clear HT'; obtain ⟨q0, q1, q2, q3⟩ := (unhide HT).q) | (go_at_call 159; refine (unhide K2 _).mono ?_; rintro e w6 ⟨rfl, hb6⟩; have HT' := hide ((unhide HT).go hb6); clear HT hb6 K2; have HT := HT'; clear HT'; obtain ⟨q0, q1, q2, q3⟩ := (unhide HT).q; obtain ⟨r0, r1, r2, r3, r4, r5⟩ := (unhide HT).r; obtain ⟨z0, z1, z2, z3, z4, z5⟩ := (unhide HT).z; obtain ⟨p0, p1, p2, p3, f0, f1, f2, f3, hpl⟩ := ((unhide HM5).below (unhide HT).below).ps.all; have hpl5 := lt_of_block (unhide HM5).ps.box; have hne1 : p ≠ w5.heap.size + 1 := by omega) | (go_at_call 104; have hmf := MidP.opd (unhide HM5) (unhide HT) 4 0 0 ⟨#[]⟩; refine (putLeaf hmf 4 0 0 ⟨#[]⟩ (unhide HL)).mono ?_; clear hmf; rintro e w7 ⟨rfl, ys', nd', hm, hd⟩; have HF := hide (And.intro hm hd); clear hm hd))
  go_ret2
  exact gave_leaf 4 0 0 ⟨#[]⟩ rfl (unhide HF).1 (unhide HF).2


set_option maxRecDepth 20000 in
set_option maxHeartbeats 4000000 in
theorem opd_9077 (E : IEnv Z ta tn ts bytes) (h : IPS Z p ta tn tc bytes w i nd xs) (hi : i ≤ 4100) (hlen : xs.length ≤ 1048576) (h1 : (seenT ts).cl i ≠ 1) (h40 : (seenT ts).cl i ≠ 40) (h2 : (seenT ts).cl i ≠ 2) (h3 : (seenT ts).cl i ≠ 3) (h9082 : (seenT ts).cl i ≠ 9082) (h9077 : (seenT ts).cl i = 9077) :
    Calls Tryz.prog 196 #[.pointer (some ⟨p, 0, none⟩)] w (GaveI Z p ta tn tc ts bytes w nd xs (true, i + 1, [treeN 5 0 0 ⟨#[]⟩ [] []])) := by
  have HM : Hid (MidI Z p ta tn tc bytes w nd xs [] i w nd) := MidP.start h
  have HL : Hid (xs.length ≤ 1048576) := hlen
  obtain ⟨s1, s2⟩ := seen_k E i
  have HA := hide (aheadP E h (by omega) (Below.refl _ _) 0 (by omega))
  have hsv : (seenT ts).sv i = (tokA ts 0 i).t := rfl
  obtain ⟨⟨yk, yn, yt, yp⟩, hy⟩ : ∃ y, tokA ts bytes i = y := ⟨_, rfl⟩
  rw [hy] at s1 s2
  dsimp only at s1 s2
  have hd1 : (yk == 1) = false := by simpa using fun e => h1 (s1.1 e)
  have hd2 : (yk == 2) = false := by simpa using fun e => h2 (s2.1 e)
  have K0 := hide (fun (V : World) => signT E i (c := 40) (by decide) (s := ⟨#[40]⟩) (by kernel_rfl) V)
  rw [hy, decide_eq_false h40] at K0
  unfold tokW at K0
  have K1 := hide (fun (V : World) => lowP E i V)
  rw [hy, decide_eq_false h3] at K1
  unfold tokW at K1
  have K2 := hide (fun (V : World) => signT E i (c := 9082) (by decide) (s := ⟨#[226, 141, 186]⟩) (by kernel_rfl) V)
  rw [hy, decide_eq_false h9082] at K2
  unfold tokW at K2
  have K3 := hide (fun (V : World) => signT E i (c := 9077) (by decide) (s := ⟨#[226, 141, 181]⟩) (by kernel_rfl) V)
  rw [hy, decide_eq_true h9077] at K3
  unfold tokW at K3
  have hw1 : IntKind.i64.wrap ((i : Int) + 1) = (i : Int) + 1 := by rw [IntKind.wrap_i64]; omega
  rw [Nat.add_zero, hy] at HA
  unfold tokW at HA
  clear h hlen hy hsv s1 s2 h1 h40 h2 h3 h9082 h9077
  go_enter Tryz.func196, Tryz.ntmps196
  go_wp2_with (first | (go_at_call 158; refine (unhide HA).mono ?_; rintro e w5 ⟨rfl, hb5⟩; have HM5 := hide ((unhide HM).below hb5); have HT := hide (TwoB.start w5 yk yn yt yp); clear hb5 HM HA) | (go_at_call 159; refine (unhide K0 _).mono ?_; rintro e w6 ⟨rfl, hb6⟩; have HT' := hide ((unhide HT).go hb6); clear HT hb6 K0; have HT := HT'; clear HT'; obtain ⟨q0, q1, q2, q3⟩ := (unhide HT).q) | (go_at_call 60; refine (unhide K1 _).mono ?_; rintro e w6 ⟨rfl, hb6⟩; have HT' := hide ((unhide HT).go hb6); clear HT hb6 K1; have HT := HT'; clear HT'; obtain ⟨q0, q1, q2, q3⟩ := (unhide HT).q) | (go_at_call 159; refine (unhide K2 _).mono ?_; rintro e w6 ⟨rfl, hb6⟩; have HT' := hide ((unhide HT).go hb6); clear HT hb6 K2; have HT := HT'; clear HT'; obtain ⟨q0, q1, q2, q3⟩ := (unhide HT).q) | (go_at_call 159; refine (unhide K3 _).mono ?_; rintro e w6 ⟨rfl, hb6⟩; have HT' := hide ((unhide HT).go hb6); clear HT hb6 K3; have HT := HT'; clear HT'; obtain ⟨q0, q1, q2, q3⟩ := (unhide HT).q; obtain ⟨r0, r1, r2, r3, r4, r5⟩ := (unhide HT).r; obtain ⟨z0, z1, z2, z3, z4, z5⟩ := (unhide HT).z; obtain ⟨p0, p1, p2, p3, f0, f1, f2, f3, hpl⟩ := ((unhide HM5).below (unhide HT).below).ps.all; have hpl5 := lt_of_block (unhide HM5).ps.box; have hne1 : p ≠ w5.heap.size + 1 := by omega) | (go_at_call 104; have hmf := MidP.opd (unhide HM5) (unhide HT) 5 0 0 ⟨#[]⟩; refine (putLeaf hmf 5 0 0 ⟨#[]⟩ (unhide HL)).mono ?_; clear hmf; rintro e w7 ⟨rfl, ys', nd', hm, hd⟩; have HF := hide (And.intro hm hd); clear hm hd))
  go_ret2
  exact gave_leaf 5 0 0 ⟨#[]⟩ rfl (unhide HF).1 (unhide HF).2


set_option maxRecDepth 20000 in
set_option maxHeartbeats 4000000 in
theorem opd_9068 (E : IEnv Z ta tn ts bytes) (h : IPS Z p ta tn tc bytes w i nd xs) (hi : i ≤ 4100) (hlen : xs.length ≤ 1048576) (h1 : (seenT ts).cl i ≠ 1) (h40 : (seenT ts).cl i ≠ 40) (h2 : (seenT ts).cl i ≠ 2) (h3 : (seenT ts).cl i ≠ 3) (h9082 : (seenT ts).cl i ≠ 9082) (h9077 : (seenT ts).cl i ≠ 9077) (h9068 : (seenT ts).cl i = 9068) :
    Calls Tryz.prog 196 #[.pointer (some ⟨p, 0, none⟩)] w (GaveI Z p ta tn tc ts bytes w nd xs (true, i + 1, [treeN 6 0 0 ⟨#[]⟩ [] []])) := by
  have HM : Hid (MidI Z p ta tn tc bytes w nd xs [] i w nd) := MidP.start h
  have HL : Hid (xs.length ≤ 1048576) := hlen
  obtain ⟨s1, s2⟩ := seen_k E i
  have HA := hide (aheadP E h (by omega) (Below.refl _ _) 0 (by omega))
  have hsv : (seenT ts).sv i = (tokA ts 0 i).t := rfl
  obtain ⟨⟨yk, yn, yt, yp⟩, hy⟩ : ∃ y, tokA ts bytes i = y := ⟨_, rfl⟩
  rw [hy] at s1 s2
  dsimp only at s1 s2
  have hd1 : (yk == 1) = false := by simpa using fun e => h1 (s1.1 e)
  have hd2 : (yk == 2) = false := by simpa using fun e => h2 (s2.1 e)
  have K0 := hide (fun (V : World) => signT E i (c := 40) (by decide) (s := ⟨#[40]⟩) (by kernel_rfl) V)
  rw [hy, decide_eq_false h40] at K0
  unfold tokW at K0
  have K1 := hide (fun (V : World) => lowP E i V)
  rw [hy, decide_eq_false h3] at K1
  unfold tokW at K1
  have K2 := hide (fun (V : World) => signT E i (c := 9082) (by decide) (s := ⟨#[226, 141, 186]⟩) (by kernel_rfl) V)
  rw [hy, decide_eq_false h9082] at K2
  unfold tokW at K2
  have K3 := hide (fun (V : World) => signT E i (c := 9077) (by decide) (s := ⟨#[226, 141, 181]⟩) (by kernel_rfl) V)
  rw [hy, decide_eq_false h9077] at K3
  unfold tokW at K3
  have K4 := hide (fun (V : World) => signT E i (c := 9068) (by decide) (s := ⟨#[226, 141, 172]⟩) (by kernel_rfl) V)
  rw [hy, decide_eq_true h9068] at K4
  unfold tokW at K4
  have hw1 : IntKind.i64.wrap ((i : Int) + 1) = (i : Int) + 1 := by rw [IntKind.wrap_i64]; omega
  rw [Nat.add_zero, hy] at HA
  unfold tokW at HA
  clear h hlen hy hsv s1 s2 h1 h40 h2 h3 h9082 h9077 h9068
  go_enter Tryz.func196, Tryz.ntmps196
  go_wp2_with (first | (go_at_call 158; refine (unhide HA).mono ?_; rintro e w5 ⟨rfl, hb5⟩; have HM5 := hide ((unhide HM).below hb5); have HT := hide (TwoB.start w5 yk yn yt yp); clear hb5 HM HA) | (go_at_call 159; refine (unhide K0 _).mono ?_; rintro e w6 ⟨rfl, hb6⟩; have HT' := hide ((unhide HT).go hb6); clear HT hb6 K0; have HT := HT'; clear HT'; obtain ⟨q0, q1, q2, q3⟩ := (unhide HT).q) | (go_at_call 60; refine (unhide K1 _).mono ?_; rintro e w6 ⟨rfl, hb6⟩; have HT' := hide ((unhide HT).go hb6); clear HT hb6 K1; have HT := HT'; clear HT'; obtain ⟨q0, q1, q2, q3⟩ := (unhide HT).q) | (go_at_call 159; refine (unhide K2 _).mono ?_; rintro e w6 ⟨rfl, hb6⟩; have HT' := hide ((unhide HT).go hb6); clear HT hb6 K2; have HT := HT'; clear HT'; obtain ⟨q0, q1, q2, q3⟩ := (unhide HT).q) | (go_at_call 159; refine (unhide K3 _).mono ?_; rintro e w6 ⟨rfl, hb6⟩; have HT' := hide ((unhide HT).go hb6); clear HT hb6 K3; have HT := HT'; clear HT'; obtain ⟨q0, q1, q2, q3⟩ := (unhide HT).q) | (go_at_call 159; refine (unhide K4 _).mono ?_; rintro e w6 ⟨rfl, hb6⟩; have HT' := hide ((unhide HT).go hb6); clear HT hb6 K4; have HT := HT'; clear HT'; obtain ⟨q0, q1, q2, q3⟩ := (unhide HT).q; obtain ⟨r0, r1, r2, r3, r4, r5⟩ := (unhide HT).r; obtain ⟨z0, z1, z2, z3, z4, z5⟩ := (unhide HT).z; obtain ⟨p0, p1, p2, p3, f0, f1, f2, f3, hpl⟩ := ((unhide HM5).below (unhide HT).below).ps.all; have hpl5 := lt_of_block (unhide HM5).ps.box; have hne1 : p ≠ w5.heap.size + 1 := by omega) | (go_at_call 104; have hmf := MidP.opd (unhide HM5) (unhide HT) 6 0 0 ⟨#[]⟩; refine (putLeaf hmf 6 0 0 ⟨#[]⟩ (unhide HL)).mono ?_; clear hmf; rintro e w7 ⟨rfl, ys', nd', hm, hd⟩; have HF := hide (And.intro hm hd); clear hm hd))
  go_ret2
  exact gave_leaf 6 0 0 ⟨#[]⟩ rfl (unhide HF).1 (unhide HF).2


set_option maxRecDepth 20000 in
set_option maxHeartbeats 4000000 in
theorem opd_bad (E : IEnv Z ta tn ts bytes) (h : IPS Z p ta tn tc bytes w i nd xs) (hi : i ≤ 4100) (hlen : xs.length ≤ 1048576) (h1 : (seenT ts).cl i ≠ 1) (h40 : (seenT ts).cl i ≠ 40) (h2 : (seenT ts).cl i ≠ 2) (h3 : (seenT ts).cl i ≠ 3) (h9082 : (seenT ts).cl i ≠ 9082) (h9077 : (seenT ts).cl i ≠ 9077) (h9068 : (seenT ts).cl i ≠ 9068) :
    Calls Tryz.prog 196 #[.pointer (some ⟨p, 0, none⟩)] w (GaveI Z p ta tn tc ts bytes w nd xs (false, i, [])) := by
  have HM : Hid (MidI Z p ta tn tc bytes w nd xs [] i w nd) := MidP.start h
  have HL : Hid (xs.length ≤ 1048576) := hlen
  obtain ⟨s1, s2⟩ := seen_k E i
  have HA := hide (aheadP E h (by omega) (Below.refl _ _) 0 (by omega))
  have hsv : (seenT ts).sv i = (tokA ts 0 i).t := rfl
  obtain ⟨⟨yk, yn, yt, yp⟩, hy⟩ : ∃ y, tokA ts bytes i = y := ⟨_, rfl⟩
  rw [hy] at s1 s2
  dsimp only at s1 s2
  have hd1 : (yk == 1) = false := by simpa using fun e => h1 (s1.1 e)
  have hd2 : (yk == 2) = false := by simpa using fun e => h2 (s2.1 e)
  have K0 := hide (fun (V : World) => signT E i (c := 40) (by decide) (s := ⟨#[40]⟩) (by kernel_rfl) V)
  rw [hy, decide_eq_false h40] at K0
  unfold tokW at K0
  have K1 := hide (fun (V : World) => lowP E i V)
  rw [hy, decide_eq_false h3] at K1
  unfold tokW at K1
  have K2 := hide (fun (V : World) => signT E i (c := 9082) (by decide) (s := ⟨#[226, 141, 186]⟩) (by kernel_rfl) V)
  rw [hy, decide_eq_false h9082] at K2
  unfold tokW at K2
  have K3 := hide (fun (V : World) => signT E i (c := 9077) (by decide) (s := ⟨#[226, 141, 181]⟩) (by kernel_rfl) V)
  rw [hy, decide_eq_false h9077] at K3
  unfold tokW at K3
  have K4 := hide (fun (V : World) => signT E i (c := 9068) (by decide) (s := ⟨#[226, 141, 172]⟩) (by kernel_rfl) V)
  rw [hy, decide_eq_false h9068] at K4
  unfold tokW at K4
  rw [Nat.add_zero, hy] at HA
  unfold tokW at HA
  clear h hlen hy hsv s1 s2 h1 h40 h2 h3 h9082 h9077 h9068
  go_enter Tryz.func196, Tryz.ntmps196
  go_wp2_with (first | (go_at_call 158; refine (unhide HA).mono ?_; rintro e w5 ⟨rfl, hb5⟩; have HM5 := hide ((unhide HM).below hb5); have HT := hide (TwoB.start w5 yk yn yt yp); clear hb5 HM HA) | (go_at_call 159; refine (unhide K0 _).mono ?_; rintro e w6 ⟨rfl, hb6⟩; have HT' := hide ((unhide HT).go hb6); clear HT hb6 K0; have HT := HT'; clear HT'; obtain ⟨q0, q1, q2, q3⟩ := (unhide HT).q) | (go_at_call 60; refine (unhide K1 _).mono ?_; rintro e w6 ⟨rfl, hb6⟩; have HT' := hide ((unhide HT).go hb6); clear HT hb6 K1; have HT := HT'; clear HT'; obtain ⟨q0, q1, q2, q3⟩ := (unhide HT).q) | (go_at_call 159; refine (unhide K2 _).mono ?_; rintro e w6 ⟨rfl, hb6⟩; have HT' := hide ((unhide HT).go hb6); clear HT hb6 K2; have HT := HT'; clear HT'; obtain ⟨q0, q1, q2, q3⟩ := (unhide HT).q) | (go_at_call 159; refine (unhide K3 _).mono ?_; rintro e w6 ⟨rfl, hb6⟩; have HT' := hide ((unhide HT).go hb6); clear HT hb6 K3; have HT := HT'; clear HT'; obtain ⟨q0, q1, q2, q3⟩ := (unhide HT).q) | (go_at_call 159; refine (unhide K4 _).mono ?_; rintro e w6 ⟨rfl, hb6⟩; have HT' := hide ((unhide HT).go hb6); clear HT hb6 K4; have HT := HT'; clear HT'; obtain ⟨q0, q1, q2, q3⟩ := (unhide HT).q) | (go_at_call 103; refine (refuseM E ((unhide HM5).below (unhide HT).below) (by omega)).mono ?_; rintro e w7 ⟨b, rfl, hf, hb⟩; have HF := hide (And.intro hf hb); clear hf hb))
  go_ret2
  exact gave_fault 0 rfl (unhide HF).1 (unhide HF).2


set_option maxRecDepth 20000 in
set_option maxHeartbeats 4000000 in
theorem fn_sc (E : IEnv Z ta tn ts bytes) (h : IPS Z p ta tn tc bytes w i nd xs) (hi : i ≤ 4100) (hlen : xs.length ≤ 1048576) (hsc : 0 < scalNo ((seenT ts).cl i)) (hroom : xs.length + 4 * (5000 - i) ≤ 100000) {r : Res} (hR : ReadI Z p ta tn tc ts bytes 220 #[.pointer (some ⟨p, 0, none⟩)] i r) :
    Calls Tryz.prog 199 #[.pointer (some ⟨p, 0, none⟩)] w (GaveI Z p ta tn tc ts bytes w nd xs r) := by
  have HM : Hid (MidI Z p ta tn tc bytes w nd xs [] i w nd) := MidP.start h
  have HL : Hid (xs.length ≤ 1048576) := hlen
  obtain ⟨s1, s2⟩ := seen_k E i
  have HA := hide (aheadP E h (by omega) (Below.refl _ _) 0 (by omega))
  have hsv : (seenT ts).sv i = (tokA ts 0 i).t := rfl
  obtain ⟨⟨yk, yn, yt, yp⟩, hy⟩ : ∃ y, tokA ts bytes i = y := ⟨_, rfl⟩
  rw [hy] at s1 s2
  dsimp only at s1 s2

  obtain ⟨M, hM⟩ : ∃ M : Nat, scalNo ((seenT ts).cl i) = M := ⟨_, rfl⟩
  have hgt : decide ((M : Int) > 0) = true := by rw [hM] at hsc; exact decide_eq_true (by omega)
  have hgt2 : decide ((0 : Int) < (M : Int)) = true := hgt
  have hgt3 : 0 < M := by rw [hM] at hsc; exact hsc
  clear hsc
  have K0 := hide (fun (V : World) (hV : Below Z.heap.size Z V) => scalP E i hV)
  rw [hy, hM] at K0
  unfold tokW at K0
  have HR := hide hR
  rw [Nat.add_zero, hy] at HA
  unfold tokW at HA
  clear h hlen hy hsv s1 s2 hM hR
  go_enter Tryz.func199, Tryz.ntmps199
  go_wp2_with (first | (go_at_call 158; refine (unhide HA).mono ?_; rintro e w5 ⟨rfl, hb5⟩; have HM5 := hide ((unhide HM).below hb5); have HT := hide (TwoB.start w5 yk yn yt yp); clear hb5 HM HA) | (go_at_call 162; refine (unhide K0 _ ((unhide HM5).ps.low.trans ((unhide HT).below.mono (unhide HM5).ps.low.size))).mono ?_; rintro e w6 ⟨rfl, hb6⟩; have HT' := hide ((unhide HT).go hb6); clear HT hb6 K0; have HT := HT'; clear HT'; obtain ⟨q0, q1, q2, q3⟩ := (unhide HT).q) | (go_at_call 220; refine (ReadI.at (unhide HR) ((unhide HM5).below (unhide HT).below) hroom).mono ?_; rintro e w7 ⟨z, v, rfl, hg⟩; have HF := hide hg; clear hg))
  go_ret2
  exact unhide HF


set_option maxRecDepth 20000 in
set_option maxHeartbeats 4000000 in
theorem fn_8728 (E : IEnv Z ta tn ts bytes) (h : IPS Z p ta tn tc bytes w i nd xs) (hi : i ≤ 4100) (hlen : xs.length ≤ 1048576) (hsc : scalNo ((seenT ts).cl i) = 0) (h8728 : (seenT ts).cl i = 8728) (hroom : xs.length + 4 * (5000 - i) ≤ 100000) {r : Res} (hR : ReadI Z p ta tn tc ts bytes 221 #[.pointer (some ⟨p, 0, none⟩)] i r) :
    Calls Tryz.prog 199 #[.pointer (some ⟨p, 0, none⟩)] w (GaveI Z p ta tn tc ts bytes w nd xs r) := by
  have HM : Hid (MidI Z p ta tn tc bytes w nd xs [] i w nd) := MidP.start h
  have HL : Hid (xs.length ≤ 1048576) := hlen
  obtain ⟨s1, s2⟩ := seen_k E i
  have HA := hide (aheadP E h (by omega) (Below.refl _ _) 0 (by omega))
  have hsv : (seenT ts).sv i = (tokA ts 0 i).t := rfl
  obtain ⟨⟨yk, yn, yt, yp⟩, hy⟩ : ∃ y, tokA ts bytes i = y := ⟨_, rfl⟩
  rw [hy] at s1 s2
  dsimp only at s1 s2

  have K0 := hide (fun (V : World) (hV : Below Z.heap.size Z V) => scalP E i hV)
  rw [hy, hsc] at K0
  unfold tokW at K0
  have K1 := hide (fun (V : World) => signT E i (c := 8728) (by decide) (s := ⟨#[226, 136, 152]⟩) (by kernel_rfl) V)
  rw [hy, decide_eq_true h8728] at K1
  unfold tokW at K1
  have HR := hide hR
  rw [Nat.add_zero, hy] at HA
  unfold tokW at HA
  clear h hlen hy hsv s1 s2 hsc h8728 hR
  go_enter Tryz.func199, Tryz.ntmps199
  go_wp2_with (first | (go_at_call 158; refine (unhide HA).mono ?_; rintro e w5 ⟨rfl, hb5⟩; have HM5 := hide ((unhide HM).below hb5); have HT := hide (TwoB.start w5 yk yn yt yp); clear hb5 HM HA) | (go_at_call 162; refine (unhide K0 _ ((unhide HM5).ps.low.trans ((unhide HT).below.mono (unhide HM5).ps.low.size))).mono ?_; rintro e w6 ⟨rfl, hb6⟩; have HT' := hide ((unhide HT).go hb6); clear HT hb6 K0; have HT := HT'; clear HT'; obtain ⟨q0, q1, q2, q3⟩ := (unhide HT).q) | (go_at_call 159; refine (unhide K1 _).mono ?_; rintro e w6 ⟨rfl, hb6⟩; have HT' := hide ((unhide HT).go hb6); clear HT hb6 K1; have HT := HT'; clear HT'; obtain ⟨q0, q1, q2, q3⟩ := (unhide HT).q) | (go_at_call 221; refine (ReadI.at (unhide HR) ((unhide HM5).below (unhide HT).below) hroom).mono ?_; rintro e w7 ⟨z, v, rfl, hg⟩; have HF := hide hg; clear hg))
  go_ret2
  exact unhide HF


set_option maxRecDepth 20000 in
set_option maxHeartbeats 4000000 in
theorem fn_123 (E : IEnv Z ta tn ts bytes) (h : IPS Z p ta tn tc bytes w i nd xs) (hi : i ≤ 4100) (hlen : xs.length ≤ 1048576) (hsc : scalNo ((seenT ts).cl i) = 0) (h8728 : (seenT ts).cl i ≠ 8728) (h123 : (seenT ts).cl i = 123) (hroom : xs.length + 4 * (5000 - i) ≤ 100000) {r : Res} (hR : ReadI Z p ta tn tc ts bytes 192 #[.pointer (some ⟨p, 0, none⟩)] i r) :
    Calls Tryz.prog 199 #[.pointer (some ⟨p, 0, none⟩)] w (GaveI Z p ta tn tc ts bytes w nd xs r) := by
  have HM : Hid (MidI Z p ta tn tc bytes w nd xs [] i w nd) := MidP.start h
  have HL : Hid (xs.length ≤ 1048576) := hlen
  obtain ⟨s1, s2⟩ := seen_k E i
  have HA := hide (aheadP E h (by omega) (Below.refl _ _) 0 (by omega))
  have hsv : (seenT ts).sv i = (tokA ts 0 i).t := rfl
  obtain ⟨⟨yk, yn, yt, yp⟩, hy⟩ : ∃ y, tokA ts bytes i = y := ⟨_, rfl⟩
  rw [hy] at s1 s2
  dsimp only at s1 s2

  have K0 := hide (fun (V : World) (hV : Below Z.heap.size Z V) => scalP E i hV)
  rw [hy, hsc] at K0
  unfold tokW at K0
  have K1 := hide (fun (V : World) => signT E i (c := 8728) (by decide) (s := ⟨#[226, 136, 152]⟩) (by kernel_rfl) V)
  rw [hy, decide_eq_false h8728] at K1
  unfold tokW at K1
  have K2 := hide (fun (V : World) => signT E i (c := 123) (by decide) (s := ⟨#[123]⟩) (by kernel_rfl) V)
  rw [hy, decide_eq_true h123] at K2
  unfold tokW at K2
  have HR := hide hR
  rw [Nat.add_zero, hy] at HA
  unfold tokW at HA
  clear h hlen hy hsv s1 s2 hsc h8728 h123 hR
  go_enter Tryz.func199, Tryz.ntmps199
  go_wp2_with (first | (go_at_call 158; refine (unhide HA).mono ?_; rintro e w5 ⟨rfl, hb5⟩; have HM5 := hide ((unhide HM).below hb5); have HT := hide (TwoB.start w5 yk yn yt yp); clear hb5 HM HA) | (go_at_call 162; refine (unhide K0 _ ((unhide HM5).ps.low.trans ((unhide HT).below.mono (unhide HM5).ps.low.size))).mono ?_; rintro e w6 ⟨rfl, hb6⟩; have HT' := hide ((unhide HT).go hb6); clear HT hb6 K0; have HT := HT'; clear HT'; obtain ⟨q0, q1, q2, q3⟩ := (unhide HT).q) | (go_at_call 159; refine (unhide K1 _).mono ?_; rintro e w6 ⟨rfl, hb6⟩; have HT' := hide ((unhide HT).go hb6); clear HT hb6 K1; have HT := HT'; clear HT'; obtain ⟨q0, q1, q2, q3⟩ := (unhide HT).q) | (go_at_call 159; refine (unhide K2 _).mono ?_; rintro e w6 ⟨rfl, hb6⟩; have HT' := hide ((unhide HT).go hb6); clear HT hb6 K2; have HT := HT'; clear HT'; obtain ⟨q0, q1, q2, q3⟩ := (unhide HT).q) | (go_at_call 192; refine (ReadI.at (unhide HR) ((unhide HM5).below (unhide HT).below) hroom).mono ?_; rintro e w7 ⟨z, v, rfl, hg⟩; have HF := hide hg; clear hg))
  go_ret2
  exact unhide HF


set_option maxRecDepth 20000 in
set_option maxHeartbeats 4000000 in
theorem fn_4 (E : IEnv Z ta tn ts bytes) (h : IPS Z p ta tn tc bytes w i nd xs) (hi : i ≤ 4100) (hlen : xs.length ≤ 1048576) (hsc : scalNo ((seenT ts).cl i) = 0) (h8728 : (seenT ts).cl i ≠ 8728) (h123 : (seenT ts).cl i ≠ 123) (h4 : (seenT ts).cl i = 4) :
    Calls Tryz.prog 199 #[.pointer (some ⟨p, 0, none⟩)] w (GaveI Z p ta tn tc ts bytes w nd xs (true, i + 1, [treeN 17 0 0 ((seenT ts).sv i) [] []])) := by
  have HM : Hid (MidI Z p ta tn tc bytes w nd xs [] i w nd) := MidP.start h
  have HL : Hid (xs.length ≤ 1048576) := hlen
  obtain ⟨s1, s2⟩ := seen_k E i
  have HA := hide (aheadP E h (by omega) (Below.refl _ _) 0 (by omega))
  have hsv : (seenT ts).sv i = (tokA ts 0 i).t := rfl
  obtain ⟨⟨yk, yn, yt, yp⟩, hy⟩ : ∃ y, tokA ts bytes i = y := ⟨_, rfl⟩
  rw [hy] at s1 s2
  dsimp only at s1 s2
  have ht : (seenT ts).sv i = yt := by rw [hsv, tokA_t bytes i (by rw [h4]; decide), hy]
  rw [ht]
  clear ht
  have K0 := hide (fun (V : World) (hV : Below Z.heap.size Z V) => scalP E i hV)
  rw [hy, hsc] at K0
  unfold tokW at K0
  have K1 := hide (fun (V : World) => signT E i (c := 8728) (by decide) (s := ⟨#[226, 136, 152]⟩) (by kernel_rfl) V)
  rw [hy, decide_eq_false h8728] at K1
  unfold tokW at K1
  have K2 := hide (fun (V : World) => signT E i (c := 123) (by decide) (s := ⟨#[123]⟩) (by kernel_rfl) V)
  rw [hy, decide_eq_false h123] at K2
  unfold tokW at K2
  have K3 := hide (fun (V : World) => highP E i V)
  rw [hy, decide_eq_true h4] at K3
  unfold tokW at K3
  have hw1 : IntKind.i64.wrap ((i : Int) + 1) = (i : Int) + 1 := by rw [IntKind.wrap_i64]; omega
  rw [Nat.add_zero, hy] at HA
  unfold tokW at HA
  clear h hlen hy hsv s1 s2 hsc h8728 h123 h4
  go_enter Tryz.func199, Tryz.ntmps199
  go_wp2_with (first | (go_at_call 158; refine (unhide HA).mono ?_; rintro e w5 ⟨rfl, hb5⟩; have HM5 := hide ((unhide HM).below hb5); have HT := hide (TwoB.start w5 yk yn yt yp); clear hb5 HM HA) | (go_at_call 162; refine (unhide K0 _ ((unhide HM5).ps.low.trans ((unhide HT).below.mono (unhide HM5).ps.low.size))).mono ?_; rintro e w6 ⟨rfl, hb6⟩; have HT' := hide ((unhide HT).go hb6); clear HT hb6 K0; have HT := HT'; clear HT'; obtain ⟨q0, q1, q2, q3⟩ := (unhide HT).q) | (go_at_call 159; refine (unhide K1 _).mono ?_; rintro e w6 ⟨rfl, hb6⟩; have HT' := hide ((unhide HT).go hb6); clear HT hb6 K1; have HT := HT'; clear HT'; obtain ⟨q0, q1, q2, q3⟩ := (unhide HT).q) | (go_at_call 159; refine (unhide K2 _).mono ?_; rintro e w6 ⟨rfl, hb6⟩; have HT' := hide ((unhide HT).go hb6); clear HT hb6 K2; have HT := HT'; clear HT'; obtain ⟨q0, q1, q2, q3⟩ := (unhide HT).q) | (go_at_call 61; refine (unhide K3 _).mono ?_; rintro e w6 ⟨rfl, hb6⟩; have HT' := hide ((unhide HT).go hb6); clear HT hb6 K3; have HT := HT'; clear HT'; obtain ⟨q0, q1, q2, q3⟩ := (unhide HT).q; obtain ⟨r0, r1, r2, r3, r4, r5⟩ := (unhide HT).r; obtain ⟨z0, z1, z2, z3, z4, z5⟩ := (unhide HT).z; obtain ⟨p0, p1, p2, p3, f0, f1, f2, f3, hpl⟩ := ((unhide HM5).below (unhide HT).below).ps.all; have hpl5 := lt_of_block (unhide HM5).ps.box; have hne1 : p ≠ w5.heap.size + 1 := by omega) | (go_at_call 104; have hmf := MidP.opd (unhide HM5) (unhide HT) 17 0 0 yt; refine (putLeaf hmf 17 0 0 yt (unhide HL)).mono ?_; clear hmf; rintro e w7 ⟨rfl, ys', nd', hm, hd⟩; have HF := hide (And.intro hm hd); clear hm hd))
  go_ret2
  exact gave_leaf 17 0 0 yt rfl (unhide HF).1 (unhide HF).2


set_option maxRecDepth 20000 in
set_option maxHeartbeats 4000000 in
theorem fn_8711 (E : IEnv Z ta tn ts bytes) (h : IPS Z p ta tn tc bytes w i nd xs) (hi : i ≤ 4100) (hlen : xs.length ≤ 1048576) (hsc : scalNo ((seenT ts).cl i) = 0) (h8728 : (seenT ts).cl i ≠ 8728) (h123 : (seenT ts).cl i ≠ 123) (h4 : (seenT ts).cl i ≠ 4) (h8711 : (seenT ts).cl i = 8711) :
    Calls Tryz.prog 199 #[.pointer (some ⟨p, 0, none⟩)] w (GaveI Z p ta tn tc ts bytes w nd xs (true, i + 1, [treeN 18 0 0 ⟨#[]⟩ [] []])) := by
  have HM : Hid (MidI Z p ta tn tc bytes w nd xs [] i w nd) := MidP.start h
  have HL : Hid (xs.length ≤ 1048576) := hlen
  obtain ⟨s1, s2⟩ := seen_k E i
  have HA := hide (aheadP E h (by omega) (Below.refl _ _) 0 (by omega))
  have hsv : (seenT ts).sv i = (tokA ts 0 i).t := rfl
  obtain ⟨⟨yk, yn, yt, yp⟩, hy⟩ : ∃ y, tokA ts bytes i = y := ⟨_, rfl⟩
  rw [hy] at s1 s2
  dsimp only at s1 s2

  have K0 := hide (fun (V : World) (hV : Below Z.heap.size Z V) => scalP E i hV)
  rw [hy, hsc] at K0
  unfold tokW at K0
  have K1 := hide (fun (V : World) => signT E i (c := 8728) (by decide) (s := ⟨#[226, 136, 152]⟩) (by kernel_rfl) V)
  rw [hy, decide_eq_false h8728] at K1
  unfold tokW at K1
  have K2 := hide (fun (V : World) => signT E i (c := 123) (by decide) (s := ⟨#[123]⟩) (by kernel_rfl) V)
  rw [hy, decide_eq_false h123] at K2
  unfold tokW at K2
  have K3 := hide (fun (V : World) => highP E i V)
  rw [hy, decide_eq_false h4] at K3
  unfold tokW at K3
  have K4 := hide (fun (V : World) => signT E i (c := 8711) (by decide) (s := ⟨#[226, 136, 135]⟩) (by kernel_rfl) V)
  rw [hy, decide_eq_true h8711] at K4
  unfold tokW at K4
  have hw1 : IntKind.i64.wrap ((i : Int) + 1) = (i : Int) + 1 := by rw [IntKind.wrap_i64]; omega
  rw [Nat.add_zero, hy] at HA
  unfold tokW at HA
  clear h hlen hy hsv s1 s2 hsc h8728 h123 h4 h8711
  go_enter Tryz.func199, Tryz.ntmps199
  go_wp2_with (first | (go_at_call 158; refine (unhide HA).mono ?_; rintro e w5 ⟨rfl, hb5⟩; have HM5 := hide ((unhide HM).below hb5); have HT := hide (TwoB.start w5 yk yn yt yp); clear hb5 HM HA) | (go_at_call 162; refine (unhide K0 _ ((unhide HM5).ps.low.trans ((unhide HT).below.mono (unhide HM5).ps.low.size))).mono ?_; rintro e w6 ⟨rfl, hb6⟩; have HT' := hide ((unhide HT).go hb6); clear HT hb6 K0; have HT := HT'; clear HT'; obtain ⟨q0, q1, q2, q3⟩ := (unhide HT).q) | (go_at_call 159; refine (unhide K1 _).mono ?_; rintro e w6 ⟨rfl, hb6⟩; have HT' := hide ((unhide HT).go hb6); clear HT hb6 K1; have HT := HT'; clear HT'; obtain ⟨q0, q1, q2, q3⟩ := (unhide HT).q) | (go_at_call 159; refine (unhide K2 _).mono ?_; rintro e w6 ⟨rfl, hb6⟩; have HT' := hide ((unhide HT).go hb6); clear HT hb6 K2; have HT := HT'; clear HT'; obtain ⟨q0, q1, q2, q3⟩ := (unhide HT).q) | (go_at_call 61; refine (unhide K3 _).mono ?_; rintro e w6 ⟨rfl, hb6⟩; have HT' := hide ((unhide HT).go hb6); clear HT hb6 K3; have HT := HT'; clear HT'; obtain ⟨q0, q1, q2, q3⟩ := (unhide HT).q) | (go_at_call 159; refine (unhide K4 _).mono ?_; rintro e w6 ⟨rfl, hb6⟩; have HT' := hide ((unhide HT).go hb6); clear HT hb6 K4; have HT := HT'; clear HT'; obtain ⟨q0, q1, q2, q3⟩ := (unhide HT).q; obtain ⟨r0, r1, r2, r3, r4, r5⟩ := (unhide HT).r; obtain ⟨z0, z1, z2, z3, z4, z5⟩ := (unhide HT).z; obtain ⟨p0, p1, p2, p3, f0, f1, f2, f3, hpl⟩ := ((unhide HM5).below (unhide HT).below).ps.all; have hpl5 := lt_of_block (unhide HM5).ps.box; have hne1 : p ≠ w5.heap.size + 1 := by omega) | (go_at_call 104; have hmf := MidP.opd (unhide HM5) (unhide HT) 18 0 0 ⟨#[]⟩; refine (putLeaf hmf 18 0 0 ⟨#[]⟩ (unhide HL)).mono ?_; clear hmf; rintro e w7 ⟨rfl, ys', nd', hm, hd⟩; have HF := hide (And.intro hm hd); clear hm hd))
  go_ret2
  exact gave_leaf 18 0 0 ⟨#[]⟩ rfl (unhide HF).1 (unhide HF).2


set_option maxRecDepth 20000 in
set_option maxHeartbeats 4000000 in
theorem fn_prim (E : IEnv Z ta tn ts bytes) (h : IPS Z p ta tn tc bytes w i nd xs) (hi : i ≤ 4100) (hlen : xs.length ≤ 1048576) (hsc : scalNo ((seenT ts).cl i) = 0) (h8728 : (seenT ts).cl i ≠ 8728) (h123 : (seenT ts).cl i ≠ 123) (h4 : (seenT ts).cl i ≠ 4) (h8711 : (seenT ts).cl i ≠ 8711) :
    Calls Tryz.prog 199 #[.pointer (some ⟨p, 0, none⟩)] w (GaveI Z p ta tn tc ts bytes w nd xs (true, i + 1, [treeN 11 ((primNo ((seenT ts).cl i) : Nat) : Int) 0 ⟨#[]⟩ [] []])) := by
  have HM : Hid (MidI Z p ta tn tc bytes w nd xs [] i w nd) := MidP.start h
  have HL : Hid (xs.length ≤ 1048576) := hlen
  obtain ⟨s1, s2⟩ := seen_k E i
  have HA := hide (aheadP E h (by omega) (Below.refl _ _) 0 (by omega))
  have hsv : (seenT ts).sv i = (tokA ts 0 i).t := rfl
  obtain ⟨⟨yk, yn, yt, yp⟩, hy⟩ : ∃ y, tokA ts bytes i = y := ⟨_, rfl⟩
  rw [hy] at s1 s2
  dsimp only at s1 s2
  obtain ⟨M, hM⟩ : ∃ M : Nat, primNo ((seenT ts).cl i) = M := ⟨_, rfl⟩
  rw [hM]
  have K0 := hide (fun (V : World) (hV : Below Z.heap.size Z V) => scalP E i hV)
  rw [hy, hsc] at K0
  unfold tokW at K0
  have K1 := hide (fun (V : World) => signT E i (c := 8728) (by decide) (s := ⟨#[226, 136, 152]⟩) (by kernel_rfl) V)
  rw [hy, decide_eq_false h8728] at K1
  unfold tokW at K1
  have K2 := hide (fun (V : World) => signT E i (c := 123) (by decide) (s := ⟨#[123]⟩) (by kernel_rfl) V)
  rw [hy, decide_eq_false h123] at K2
  unfold tokW at K2
  have K3 := hide (fun (V : World) => highP E i V)
  rw [hy, decide_eq_false h4] at K3
  unfold tokW at K3
  have K4 := hide (fun (V : World) => signT E i (c := 8711) (by decide) (s := ⟨#[226, 136, 135]⟩) (by kernel_rfl) V)
  rw [hy, decide_eq_false h8711] at K4
  unfold tokW at K4
  have K5 := hide (fun (V : World) (hV : Below Z.heap.size Z V) => primP E i hV)
  rw [hy, hM] at K5
  unfold tokW at K5
  have hw1 : IntKind.i64.wrap ((i : Int) + 1) = (i : Int) + 1 := by rw [IntKind.wrap_i64]; omega
  rw [Nat.add_zero, hy] at HA
  unfold tokW at HA
  clear h hlen hy hsv s1 s2 hsc h8728 h123 h4 h8711 hM
  go_enter Tryz.func199, Tryz.ntmps199
  go_wp2_with (first | (go_at_call 158; refine (unhide HA).mono ?_; rintro e w5 ⟨rfl, hb5⟩; have HM5 := hide ((unhide HM).below hb5); have HT := hide (TwoB.start w5 yk yn yt yp); clear hb5 HM HA) | (go_at_call 162; refine (unhide K0 _ ((unhide HM5).ps.low.trans ((unhide HT).below.mono (unhide HM5).ps.low.size))).mono ?_; rintro e w6 ⟨rfl, hb6⟩; have HT' := hide ((unhide HT).go hb6); clear HT hb6 K0; have HT := HT'; clear HT'; obtain ⟨q0, q1, q2, q3⟩ := (unhide HT).q) | (go_at_call 159; refine (unhide K1 _).mono ?_; rintro e w6 ⟨rfl, hb6⟩; have HT' := hide ((unhide HT).go hb6); clear HT hb6 K1; have HT := HT'; clear HT'; obtain ⟨q0, q1, q2, q3⟩ := (unhide HT).q) | (go_at_call 159; refine (unhide K2 _).mono ?_; rintro e w6 ⟨rfl, hb6⟩; have HT' := hide ((unhide HT).go hb6); clear HT hb6 K2; have HT := HT'; clear HT'; obtain ⟨q0, q1, q2, q3⟩ := (unhide HT).q) | (go_at_call 61; refine (unhide K3 _).mono ?_; rintro e w6 ⟨rfl, hb6⟩; have HT' := hide ((unhide HT).go hb6); clear HT hb6 K3; have HT := HT'; clear HT'; obtain ⟨q0, q1, q2, q3⟩ := (unhide HT).q) | (go_at_call 159; refine (unhide K4 _).mono ?_; rintro e w6 ⟨rfl, hb6⟩; have HT' := hide ((unhide HT).go hb6); clear HT hb6 K4; have HT := HT'; clear HT'; obtain ⟨q0, q1, q2, q3⟩ := (unhide HT).q) | (go_at_call 193; refine (unhide K5 _ ((unhide HM5).ps.low.trans ((unhide HT).below.mono (unhide HM5).ps.low.size))).mono ?_; rintro e w6 ⟨rfl, hb6⟩; have HT' := hide ((unhide HT).go hb6); clear HT hb6 K5; have HT := HT'; clear HT'; obtain ⟨q0, q1, q2, q3⟩ := (unhide HT).q; obtain ⟨r0, r1, r2, r3, r4, r5⟩ := (unhide HT).r; obtain ⟨z0, z1, z2, z3, z4, z5⟩ := (unhide HT).z; obtain ⟨p0, p1, p2, p3, f0, f1, f2, f3, hpl⟩ := ((unhide HM5).below (unhide HT).below).ps.all; have hpl5 := lt_of_block (unhide HM5).ps.box; have hne1 : p ≠ w5.heap.size + 1 := by omega) | (go_at_call 104; have hmf := MidP.opd (unhide HM5) (unhide HT) 11 (M : Nat) 0 ⟨#[]⟩; refine (putLeaf hmf 11 (M : Nat) 0 ⟨#[]⟩ (unhide HL)).mono ?_; clear hmf; rintro e w7 ⟨rfl, ys', nd', hm, hd⟩; have HF := hide (And.intro hm hd); clear hm hd))
  go_ret2
  exact gave_leaf 11 (M : Nat) 0 ⟨#[]⟩ rfl (unhide HF).1 (unhide HF).2


end
end Go.Proofs.YtmgjicgojlkpcaaGreatDoor
