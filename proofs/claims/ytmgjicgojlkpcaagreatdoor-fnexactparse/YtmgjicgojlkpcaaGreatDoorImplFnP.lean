import Derived.Test.YtmgjicgojlkpcaaGreatDoorImplMid
namespace Go.Proofs.YtmgjicgojlkpcaaGreatDoor
open Go.RowKit

section
variable {Z w w0 : World} {p i : Nat} {nd nd0 : Value} {xs ys : List NodeC} {ta : Option Addr} {tn tc bytes : Nat} {ts : List Tok}


set_option maxRecDepth 20000 in
set_option maxHeartbeats 2000000 in
theorem sfn_47 (E : IEnv Z ta tn ts bytes) (h : IPS Z p ta tn tc bytes w i nd xs) (hi : i ≤ 4100) (hlen : xs.length ≤ 1048576) (hN : 0 < scalNo ((seenT ts).cl i))  (hy : (seenT ts).cl (i + 1) = 47) :
    Calls Tryz.prog 220 #[.pointer (some ⟨p, 0, none⟩)] w (GaveI Z p ta tn tc ts bytes w nd xs (true, i + 1 + 1, [treeN 12 ((scalNo ((seenT ts).cl i) : Nat) : Int) 0 ⟨#[]⟩ [] []])) := by
  have HM : Hid (MidI Z p ta tn tc bytes w nd xs [] i w nd) := MidP.start h
  have K0 := hide (fun (V : World) (hm : MidI Z p ta tn tc bytes w nd xs [] i V nd) => scalYesM E hm (by omega) hN)
  have K1 := hide (fun (V : World) (hm : MidI Z p ta tn tc bytes w nd xs [] (i + 1) V nd) => takeYesM E hm (by omega) (c := 47) (by decide) (s := ⟨#[47]⟩) (by kernel_rfl) hy)
  have HE : Hid (xs.length ≤ 1048576) := hlen
  obtain ⟨N, hN'⟩ : ∃ N : Int, ((scalNo ((seenT ts).cl i) : Nat) : Int) = N := ⟨_, rfl⟩
  rw [hN'] at K0 ⊢
  clear hN'
  clear h hlen hN  hy
  go_enter Tryz.func220, Tryz.ntmps220
  go_wp2_with (first | (go_at_call 241; refine (unhide K0 _ (unhide HM)).mono ?_; rintro e w5 ⟨rfl, hm⟩; clear HM K0; have HM := hide hm; clear hm) | (go_at_call 157; refine (unhide K1 _ (unhide HM)).mono ?_; rintro e w5 ⟨rfl, hm⟩; clear HM K1; have HM := hide hm; clear hm) | (go_at_call 104; refine (putLeaf (unhide HM) 12 N 0 ⟨#[]⟩ (unhide HE)).mono ?_; rintro e w5 ⟨rfl, ys', nd', hm, hd⟩; have HF := hide (And.intro hm hd); clear hm hd))
  go_ret2
  exact gave_leaf 12 N 0 ⟨#[]⟩ rfl (unhide HF).1 (unhide HF).2


set_option maxRecDepth 20000 in
set_option maxHeartbeats 2000000 in
theorem sfn_9023 (E : IEnv Z ta tn ts bytes) (h : IPS Z p ta tn tc bytes w i nd xs) (hi : i ≤ 4100) (hlen : xs.length ≤ 1048576) (hN : 0 < scalNo ((seenT ts).cl i)) (h0 : (seenT ts).cl (i + 1) ≠ 47) (hy : (seenT ts).cl (i + 1) = 9023) :
    Calls Tryz.prog 220 #[.pointer (some ⟨p, 0, none⟩)] w (GaveI Z p ta tn tc ts bytes w nd xs (true, i + 1 + 1, [treeN 12 ((scalNo ((seenT ts).cl i) : Nat) : Int) 1 ⟨#[]⟩ [] []])) := by
  have HM : Hid (MidI Z p ta tn tc bytes w nd xs [] i w nd) := MidP.start h
  have K0 := hide (fun (V : World) (hm : MidI Z p ta tn tc bytes w nd xs [] i V nd) => scalYesM E hm (by omega) hN)
  have K1 := hide (fun (V : World) (hm : MidI Z p ta tn tc bytes w nd xs [] (i + 1) V nd) => takeNoM E hm (by omega) (c := 47) (by decide) (s := ⟨#[47]⟩) (by kernel_rfl) h0)
  have K2 := hide (fun (V : World) (hm : MidI Z p ta tn tc bytes w nd xs [] (i + 1) V nd) => takeYesM E hm (by omega) (c := 9023) (by decide) (s := ⟨#[226, 140, 191]⟩) (by kernel_rfl) hy)
  have HE : Hid (xs.length ≤ 1048576) := hlen
  obtain ⟨N, hN'⟩ : ∃ N : Int, ((scalNo ((seenT ts).cl i) : Nat) : Int) = N := ⟨_, rfl⟩
  rw [hN'] at K0 ⊢
  clear hN'
  clear h hlen hN h0 hy
  go_enter Tryz.func220, Tryz.ntmps220
  go_wp2_with (first | (go_at_call 241; refine (unhide K0 _ (unhide HM)).mono ?_; rintro e w5 ⟨rfl, hm⟩; clear HM K0; have HM := hide hm; clear hm) | (go_at_call 157; refine (unhide K1 _ (unhide HM)).mono ?_; rintro e w5 ⟨rfl, hm⟩; clear HM K1; have HM := hide hm; clear hm) | (go_at_call 157; refine (unhide K2 _ (unhide HM)).mono ?_; rintro e w5 ⟨rfl, hm⟩; clear HM K2; have HM := hide hm; clear hm) | (go_at_call 104; refine (putLeaf (unhide HM) 12 N 1 ⟨#[]⟩ (unhide HE)).mono ?_; rintro e w5 ⟨rfl, ys', nd', hm, hd⟩; have HF := hide (And.intro hm hd); clear hm hd))
  go_ret2
  exact gave_leaf 12 N 1 ⟨#[]⟩ rfl (unhide HF).1 (unhide HF).2


set_option maxRecDepth 20000 in
set_option maxHeartbeats 2000000 in
theorem sfn_92 (E : IEnv Z ta tn ts bytes) (h : IPS Z p ta tn tc bytes w i nd xs) (hi : i ≤ 4100) (hlen : xs.length ≤ 1048576) (hN : 0 < scalNo ((seenT ts).cl i)) (h0 : (seenT ts).cl (i + 1) ≠ 47) (h1 : (seenT ts).cl (i + 1) ≠ 9023) (hy : (seenT ts).cl (i + 1) = 92) :
    Calls Tryz.prog 220 #[.pointer (some ⟨p, 0, none⟩)] w (GaveI Z p ta tn tc ts bytes w nd xs (true, i + 1 + 1, [treeN 13 ((scalNo ((seenT ts).cl i) : Nat) : Int) 0 ⟨#[]⟩ [] []])) := by
  have HM : Hid (MidI Z p ta tn tc bytes w nd xs [] i w nd) := MidP.start h
  have K0 := hide (fun (V : World) (hm : MidI Z p ta tn tc bytes w nd xs [] i V nd) => scalYesM E hm (by omega) hN)
  have K1 := hide (fun (V : World) (hm : MidI Z p ta tn tc bytes w nd xs [] (i + 1) V nd) => takeNoM E hm (by omega) (c := 47) (by decide) (s := ⟨#[47]⟩) (by kernel_rfl) h0)
  have K2 := hide (fun (V : World) (hm : MidI Z p ta tn tc bytes w nd xs [] (i + 1) V nd) => takeNoM E hm (by omega) (c := 9023) (by decide) (s := ⟨#[226, 140, 191]⟩) (by kernel_rfl) h1)
  have K3 := hide (fun (V : World) (hm : MidI Z p ta tn tc bytes w nd xs [] (i + 1) V nd) => takeYesM E hm (by omega) (c := 92) (by decide) (s := ⟨#[92]⟩) (by kernel_rfl) hy)
  have HE : Hid (xs.length ≤ 1048576) := hlen
  obtain ⟨N, hN'⟩ : ∃ N : Int, ((scalNo ((seenT ts).cl i) : Nat) : Int) = N := ⟨_, rfl⟩
  rw [hN'] at K0 ⊢
  clear hN'
  clear h hlen hN h0 h1 hy
  go_enter Tryz.func220, Tryz.ntmps220
  go_wp2_with (first | (go_at_call 241; refine (unhide K0 _ (unhide HM)).mono ?_; rintro e w5 ⟨rfl, hm⟩; clear HM K0; have HM := hide hm; clear hm) | (go_at_call 157; refine (unhide K1 _ (unhide HM)).mono ?_; rintro e w5 ⟨rfl, hm⟩; clear HM K1; have HM := hide hm; clear hm) | (go_at_call 157; refine (unhide K2 _ (unhide HM)).mono ?_; rintro e w5 ⟨rfl, hm⟩; clear HM K2; have HM := hide hm; clear hm) | (go_at_call 157; refine (unhide K3 _ (unhide HM)).mono ?_; rintro e w5 ⟨rfl, hm⟩; clear HM K3; have HM := hide hm; clear hm) | (go_at_call 104; refine (putLeaf (unhide HM) 13 N 0 ⟨#[]⟩ (unhide HE)).mono ?_; rintro e w5 ⟨rfl, ys', nd', hm, hd⟩; have HF := hide (And.intro hm hd); clear hm hd))
  go_ret2
  exact gave_leaf 13 N 0 ⟨#[]⟩ rfl (unhide HF).1 (unhide HF).2


set_option maxRecDepth 20000 in
set_option maxHeartbeats 2000000 in
theorem sfn_9024 (E : IEnv Z ta tn ts bytes) (h : IPS Z p ta tn tc bytes w i nd xs) (hi : i ≤ 4100) (hlen : xs.length ≤ 1048576) (hN : 0 < scalNo ((seenT ts).cl i)) (h0 : (seenT ts).cl (i + 1) ≠ 47) (h1 : (seenT ts).cl (i + 1) ≠ 9023) (h2 : (seenT ts).cl (i + 1) ≠ 92) (hy : (seenT ts).cl (i + 1) = 9024) :
    Calls Tryz.prog 220 #[.pointer (some ⟨p, 0, none⟩)] w (GaveI Z p ta tn tc ts bytes w nd xs (true, i + 1 + 1, [treeN 13 ((scalNo ((seenT ts).cl i) : Nat) : Int) 1 ⟨#[]⟩ [] []])) := by
  have HM : Hid (MidI Z p ta tn tc bytes w nd xs [] i w nd) := MidP.start h
  have K0 := hide (fun (V : World) (hm : MidI Z p ta tn tc bytes w nd xs [] i V nd) => scalYesM E hm (by omega) hN)
  have K1 := hide (fun (V : World) (hm : MidI Z p ta tn tc bytes w nd xs [] (i + 1) V nd) => takeNoM E hm (by omega) (c := 47) (by decide) (s := ⟨#[47]⟩) (by kernel_rfl) h0)
  have K2 := hide (fun (V : World) (hm : MidI Z p ta tn tc bytes w nd xs [] (i + 1) V nd) => takeNoM E hm (by omega) (c := 9023) (by decide) (s := ⟨#[226, 140, 191]⟩) (by kernel_rfl) h1)
  have K3 := hide (fun (V : World) (hm : MidI Z p ta tn tc bytes w nd xs [] (i + 1) V nd) => takeNoM E hm (by omega) (c := 92) (by decide) (s := ⟨#[92]⟩) (by kernel_rfl) h2)
  have K4 := hide (fun (V : World) (hm : MidI Z p ta tn tc bytes w nd xs [] (i + 1) V nd) => takeYesM E hm (by omega) (c := 9024) (by decide) (s := ⟨#[226, 141, 128]⟩) (by kernel_rfl) hy)
  have HE : Hid (xs.length ≤ 1048576) := hlen
  obtain ⟨N, hN'⟩ : ∃ N : Int, ((scalNo ((seenT ts).cl i) : Nat) : Int) = N := ⟨_, rfl⟩
  rw [hN'] at K0 ⊢
  clear hN'
  clear h hlen hN h0 h1 h2 hy
  go_enter Tryz.func220, Tryz.ntmps220
  go_wp2_with (first | (go_at_call 241; refine (unhide K0 _ (unhide HM)).mono ?_; rintro e w5 ⟨rfl, hm⟩; clear HM K0; have HM := hide hm; clear hm) | (go_at_call 157; refine (unhide K1 _ (unhide HM)).mono ?_; rintro e w5 ⟨rfl, hm⟩; clear HM K1; have HM := hide hm; clear hm) | (go_at_call 157; refine (unhide K2 _ (unhide HM)).mono ?_; rintro e w5 ⟨rfl, hm⟩; clear HM K2; have HM := hide hm; clear hm) | (go_at_call 157; refine (unhide K3 _ (unhide HM)).mono ?_; rintro e w5 ⟨rfl, hm⟩; clear HM K3; have HM := hide hm; clear hm) | (go_at_call 157; refine (unhide K4 _ (unhide HM)).mono ?_; rintro e w5 ⟨rfl, hm⟩; clear HM K4; have HM := hide hm; clear hm) | (go_at_call 104; refine (putLeaf (unhide HM) 13 N 1 ⟨#[]⟩ (unhide HE)).mono ?_; rintro e w5 ⟨rfl, ys', nd', hm, hd⟩; have HF := hide (And.intro hm hd); clear hm hd))
  go_ret2
  exact gave_leaf 13 N 1 ⟨#[]⟩ rfl (unhide HF).1 (unhide HF).2


set_option maxRecDepth 20000 in
set_option maxHeartbeats 2000000 in
theorem sfn_else (E : IEnv Z ta tn ts bytes) (h : IPS Z p ta tn tc bytes w i nd xs) (hi : i ≤ 4100) (hlen : xs.length ≤ 1048576) (hN : 0 < scalNo ((seenT ts).cl i)) (h0 : (seenT ts).cl (i + 1) ≠ 47) (h1 : (seenT ts).cl (i + 1) ≠ 9023) (h2 : (seenT ts).cl (i + 1) ≠ 92) (h3 : (seenT ts).cl (i + 1) ≠ 9024) (h4 : (seenT ts).cl (i + 1) ≠ 46) :
    Calls Tryz.prog 220 #[.pointer (some ⟨p, 0, none⟩)] w (GaveI Z p ta tn tc ts bytes w nd xs (true, i + 1, [treeN 11 ((scalNo ((seenT ts).cl i) : Nat) : Int) 0 ⟨#[]⟩ [] []])) := by
  have HM : Hid (MidI Z p ta tn tc bytes w nd xs [] i w nd) := MidP.start h
  have K0 := hide (fun (V : World) (hm : MidI Z p ta tn tc bytes w nd xs [] i V nd) => scalYesM E hm (by omega) hN)
  have K1 := hide (fun (V : World) (hm : MidI Z p ta tn tc bytes w nd xs [] (i + 1) V nd) => takeNoM E hm (by omega) (c := 47) (by decide) (s := ⟨#[47]⟩) (by kernel_rfl) h0)
  have K2 := hide (fun (V : World) (hm : MidI Z p ta tn tc bytes w nd xs [] (i + 1) V nd) => takeNoM E hm (by omega) (c := 9023) (by decide) (s := ⟨#[226, 140, 191]⟩) (by kernel_rfl) h1)
  have K3 := hide (fun (V : World) (hm : MidI Z p ta tn tc bytes w nd xs [] (i + 1) V nd) => takeNoM E hm (by omega) (c := 92) (by decide) (s := ⟨#[92]⟩) (by kernel_rfl) h2)
  have K4 := hide (fun (V : World) (hm : MidI Z p ta tn tc bytes w nd xs [] (i + 1) V nd) => takeNoM E hm (by omega) (c := 9024) (by decide) (s := ⟨#[226, 141, 128]⟩) (by kernel_rfl) h3)
  have K5 := hide (fun (V : World) (hm : MidI Z p ta tn tc bytes w nd xs [] (i + 1) V nd) => takeNoM E hm (by omega) (c := 46) (by decide) (s := ⟨#[46]⟩) (by kernel_rfl) h4)
  have HE : Hid (xs.length ≤ 1048576) := hlen
  obtain ⟨N, hN'⟩ : ∃ N : Int, ((scalNo ((seenT ts).cl i) : Nat) : Int) = N := ⟨_, rfl⟩
  rw [hN'] at K0 ⊢
  clear hN'
  clear h hlen hN h0 h1 h2 h3 h4
  go_enter Tryz.func220, Tryz.ntmps220
  go_wp2_with (first | (go_at_call 241; refine (unhide K0 _ (unhide HM)).mono ?_; rintro e w5 ⟨rfl, hm⟩; clear HM K0; have HM := hide hm; clear hm) | (go_at_call 157; refine (unhide K1 _ (unhide HM)).mono ?_; rintro e w5 ⟨rfl, hm⟩; clear HM K1; have HM := hide hm; clear hm) | (go_at_call 157; refine (unhide K2 _ (unhide HM)).mono ?_; rintro e w5 ⟨rfl, hm⟩; clear HM K2; have HM := hide hm; clear hm) | (go_at_call 157; refine (unhide K3 _ (unhide HM)).mono ?_; rintro e w5 ⟨rfl, hm⟩; clear HM K3; have HM := hide hm; clear hm) | (go_at_call 157; refine (unhide K4 _ (unhide HM)).mono ?_; rintro e w5 ⟨rfl, hm⟩; clear HM K4; have HM := hide hm; clear hm) | (go_at_call 157; refine (unhide K5 _ (unhide HM)).mono ?_; rintro e w5 ⟨rfl, hm⟩; clear HM K5; have HM := hide hm; clear hm) | (go_at_call 104; refine (putLeaf (unhide HM) 11 N 0 ⟨#[]⟩ (unhide HE)).mono ?_; rintro e w5 ⟨rfl, ys', nd', hm, hd⟩; have HF := hide (And.intro hm hd); clear hm hd))
  go_ret2
  exact gave_leaf 11 N 0 ⟨#[]⟩ rfl (unhide HF).1 (unhide HF).2


set_option maxRecDepth 20000 in
set_option maxHeartbeats 2000000 in
theorem sfn_inn (E : IEnv Z ta tn ts bytes) (h : IPS Z p ta tn tc bytes w i nd xs) (hi : i ≤ 4100) (hlen : xs.length ≤ 1048576) (hN : 0 < scalNo ((seenT ts).cl i)) (h0 : (seenT ts).cl (i + 1) ≠ 47) (h1 : (seenT ts).cl (i + 1) ≠ 9023) (h2 : (seenT ts).cl (i + 1) ≠ 92) (h3 : (seenT ts).cl (i + 1) ≠ 9024) (hy : (seenT ts).cl (i + 1) = 46) (hz : 0 < scalNo ((seenT ts).cl (i + 1 + 1))) :
    Calls Tryz.prog 220 #[.pointer (some ⟨p, 0, none⟩)] w (GaveI Z p ta tn tc ts bytes w nd xs (true, i + 1 + 1 + 1, [treeN 15 ((scalNo ((seenT ts).cl i) : Nat) : Int) ((scalNo ((seenT ts).cl (i + 1 + 1)) : Nat) : Int) ⟨#[]⟩ [] []])) := by
  have HM : Hid (MidI Z p ta tn tc bytes w nd xs [] i w nd) := MidP.start h
  have K0 := hide (fun (V : World) (hm : MidI Z p ta tn tc bytes w nd xs [] i V nd) => scalYesM E hm (by omega) hN)
  have K1 := hide (fun (V : World) (hm : MidI Z p ta tn tc bytes w nd xs [] (i + 1) V nd) => takeNoM E hm (by omega) (c := 47) (by decide) (s := ⟨#[47]⟩) (by kernel_rfl) h0)
  have K2 := hide (fun (V : World) (hm : MidI Z p ta tn tc bytes w nd xs [] (i + 1) V nd) => takeNoM E hm (by omega) (c := 9023) (by decide) (s := ⟨#[226, 140, 191]⟩) (by kernel_rfl) h1)
  have K3 := hide (fun (V : World) (hm : MidI Z p ta tn tc bytes w nd xs [] (i + 1) V nd) => takeNoM E hm (by omega) (c := 92) (by decide) (s := ⟨#[92]⟩) (by kernel_rfl) h2)
  have K4 := hide (fun (V : World) (hm : MidI Z p ta tn tc bytes w nd xs [] (i + 1) V nd) => takeNoM E hm (by omega) (c := 9024) (by decide) (s := ⟨#[226, 141, 128]⟩) (by kernel_rfl) h3)
  have K5 := hide (fun (V : World) (hm : MidI Z p ta tn tc bytes w nd xs [] (i + 1) V nd) => takeYesM E hm (by omega) (c := 46) (by decide) (s := ⟨#[46]⟩) (by kernel_rfl) hy)
  have K6 := hide (fun (V : World) (hm : MidI Z p ta tn tc bytes w nd xs [] (i + 1 + 1) V nd) => scalYesM E hm (by omega) hz)
  have HE : Hid (xs.length ≤ 1048576) := hlen
  obtain ⟨N, hN'⟩ : ∃ N : Int, ((scalNo ((seenT ts).cl i) : Nat) : Int) = N := ⟨_, rfl⟩
  rw [hN'] at K0 ⊢
  clear hN'
  obtain ⟨M, hM'⟩ : ∃ N : Int, ((scalNo ((seenT ts).cl (i + 1 + 1)) : Nat) : Int) = N := ⟨_, rfl⟩
  rw [hM'] at K6 ⊢
  clear hM'
  clear h hlen hN h0 h1 h2 h3 hy hz
  go_enter Tryz.func220, Tryz.ntmps220
  go_wp2_with (first | (go_at_call 241; refine (unhide K0 _ (unhide HM)).mono ?_; rintro e w5 ⟨rfl, hm⟩; clear HM K0; have HM := hide hm; clear hm) | (go_at_call 157; refine (unhide K1 _ (unhide HM)).mono ?_; rintro e w5 ⟨rfl, hm⟩; clear HM K1; have HM := hide hm; clear hm) | (go_at_call 157; refine (unhide K2 _ (unhide HM)).mono ?_; rintro e w5 ⟨rfl, hm⟩; clear HM K2; have HM := hide hm; clear hm) | (go_at_call 157; refine (unhide K3 _ (unhide HM)).mono ?_; rintro e w5 ⟨rfl, hm⟩; clear HM K3; have HM := hide hm; clear hm) | (go_at_call 157; refine (unhide K4 _ (unhide HM)).mono ?_; rintro e w5 ⟨rfl, hm⟩; clear HM K4; have HM := hide hm; clear hm) | (go_at_call 157; refine (unhide K5 _ (unhide HM)).mono ?_; rintro e w5 ⟨rfl, hm⟩; clear HM K5; have HM := hide hm; clear hm) | (go_at_call 241; refine (unhide K6 _ (unhide HM)).mono ?_; rintro e w5 ⟨rfl, hm⟩; clear HM K6; have HM := hide hm; clear hm) | (go_at_call 104; refine (putLeaf (unhide HM) 15 N M ⟨#[]⟩ (unhide HE)).mono ?_; rintro e w5 ⟨rfl, ys', nd', hm, hd⟩; have HF := hide (And.intro hm hd); clear hm hd))
  go_ret2
  exact gave_leaf 15 N M ⟨#[]⟩ rfl (unhide HF).1 (unhide HF).2


set_option maxRecDepth 20000 in
set_option maxHeartbeats 2000000 in
theorem sfn_innbad (E : IEnv Z ta tn ts bytes) (h : IPS Z p ta tn tc bytes w i nd xs) (hi : i ≤ 4100) (hlen : xs.length ≤ 1048576) (hN : 0 < scalNo ((seenT ts).cl i)) (h0 : (seenT ts).cl (i + 1) ≠ 47) (h1 : (seenT ts).cl (i + 1) ≠ 9023) (h2 : (seenT ts).cl (i + 1) ≠ 92) (h3 : (seenT ts).cl (i + 1) ≠ 9024) (hy : (seenT ts).cl (i + 1) = 46) (hz : ¬ 0 < scalNo ((seenT ts).cl (i + 1 + 1))) :
    Calls Tryz.prog 220 #[.pointer (some ⟨p, 0, none⟩)] w (GaveI Z p ta tn tc ts bytes w nd xs (false, i + 1 + 1, [])) := by
  have HM : Hid (MidI Z p ta tn tc bytes w nd xs [] i w nd) := MidP.start h
  have K0 := hide (fun (V : World) (hm : MidI Z p ta tn tc bytes w nd xs [] i V nd) => scalYesM E hm (by omega) hN)
  have K1 := hide (fun (V : World) (hm : MidI Z p ta tn tc bytes w nd xs [] (i + 1) V nd) => takeNoM E hm (by omega) (c := 47) (by decide) (s := ⟨#[47]⟩) (by kernel_rfl) h0)
  have K2 := hide (fun (V : World) (hm : MidI Z p ta tn tc bytes w nd xs [] (i + 1) V nd) => takeNoM E hm (by omega) (c := 9023) (by decide) (s := ⟨#[226, 140, 191]⟩) (by kernel_rfl) h1)
  have K3 := hide (fun (V : World) (hm : MidI Z p ta tn tc bytes w nd xs [] (i + 1) V nd) => takeNoM E hm (by omega) (c := 92) (by decide) (s := ⟨#[92]⟩) (by kernel_rfl) h2)
  have K4 := hide (fun (V : World) (hm : MidI Z p ta tn tc bytes w nd xs [] (i + 1) V nd) => takeNoM E hm (by omega) (c := 9024) (by decide) (s := ⟨#[226, 141, 128]⟩) (by kernel_rfl) h3)
  have K5 := hide (fun (V : World) (hm : MidI Z p ta tn tc bytes w nd xs [] (i + 1) V nd) => takeYesM E hm (by omega) (c := 46) (by decide) (s := ⟨#[46]⟩) (by kernel_rfl) hy)
  have K6 := hide (fun (V : World) (hm : MidI Z p ta tn tc bytes w nd xs [] (i + 1 + 1) V nd) => scalNoM E hm (by omega) hz)
  have HE : Hid (xs.length ≤ 1048576) := hlen
  obtain ⟨N, hN'⟩ : ∃ N : Int, ((scalNo ((seenT ts).cl i) : Nat) : Int) = N := ⟨_, rfl⟩
  rw [hN'] at K0
  clear hN'
  clear h hlen hN h0 h1 h2 h3 hy hz
  go_enter Tryz.func220, Tryz.ntmps220
  go_wp2_with (first | (go_at_call 241; refine (unhide K0 _ (unhide HM)).mono ?_; rintro e w5 ⟨rfl, hm⟩; clear HM K0; have HM := hide hm; clear hm) | (go_at_call 157; refine (unhide K1 _ (unhide HM)).mono ?_; rintro e w5 ⟨rfl, hm⟩; clear HM K1; have HM := hide hm; clear hm) | (go_at_call 157; refine (unhide K2 _ (unhide HM)).mono ?_; rintro e w5 ⟨rfl, hm⟩; clear HM K2; have HM := hide hm; clear hm) | (go_at_call 157; refine (unhide K3 _ (unhide HM)).mono ?_; rintro e w5 ⟨rfl, hm⟩; clear HM K3; have HM := hide hm; clear hm) | (go_at_call 157; refine (unhide K4 _ (unhide HM)).mono ?_; rintro e w5 ⟨rfl, hm⟩; clear HM K4; have HM := hide hm; clear hm) | (go_at_call 157; refine (unhide K5 _ (unhide HM)).mono ?_; rintro e w5 ⟨rfl, hm⟩; clear HM K5; have HM := hide hm; clear hm) | (go_at_call 241; refine (unhide K6 _ (unhide HM)).mono ?_; rintro e w5 ⟨b, rfl, hf, hb⟩; have HF := hide (And.intro hf hb); clear hf hb; delta faultV))
  go_ret2
  exact gave_fault 0 rfl (unhide HF).1 (unhide HF).2


set_option maxRecDepth 20000 in
set_option maxHeartbeats 2000000 in
theorem outer_ok (E : IEnv Z ta tn ts bytes) (h : IPS Z p ta tn tc bytes w i nd xs) (hi : i ≤ 4100) (hlen : xs.length ≤ 1048576) (h0 : (seenT ts).cl i = 8728) (h1 : (seenT ts).cl (i + 1) = 46) (hN : 0 < scalNo ((seenT ts).cl (i + 1 + 1))) :
    Calls Tryz.prog 221 #[.pointer (some ⟨p, 0, none⟩)] w (GaveI Z p ta tn tc ts bytes w nd xs (true, i + 1 + 1 + 1, [treeN 14 ((scalNo ((seenT ts).cl (i + 1 + 1)) : Nat) : Int) 0 ⟨#[]⟩ [] []])) := by
  have HM : Hid (MidI Z p ta tn tc bytes w nd xs [] i w nd) := MidP.start h
  have K0 := hide (fun (V : World) (hm : MidI Z p ta tn tc bytes w nd xs [] i V nd) => needYesM E hm (by omega) (c := 8728) (by decide) (s := ⟨#[226, 136, 152]⟩) (by kernel_rfl) h0)
  have K1 := hide (fun (V : World) (hm : MidI Z p ta tn tc bytes w nd xs [] (i + 1) V nd) => needYesM E hm (by omega) (c := 46) (by decide) (s := ⟨#[46]⟩) (by kernel_rfl) h1)
  have K2 := hide (fun (V : World) (hm : MidI Z p ta tn tc bytes w nd xs [] (i + 1 + 1) V nd) => scalYesM E hm (by omega) hN)
  have HE : Hid (xs.length ≤ 1048576) := hlen
  obtain ⟨N, hN'⟩ : ∃ N : Int, ((scalNo ((seenT ts).cl (i + 1 + 1)) : Nat) : Int) = N := ⟨_, rfl⟩
  rw [hN'] at K2 ⊢
  clear hN'
  clear h hlen h0 h1 hN
  go_enter Tryz.func221, Tryz.ntmps221
  go_wp2_with (first | (go_at_call 195; refine (unhide K0 _ (unhide HM)).mono ?_; rintro e w5 ⟨rfl, hm⟩; clear HM K0; have HM := hide hm; clear hm) | (go_at_call 195; refine (unhide K1 _ (unhide HM)).mono ?_; rintro e w5 ⟨rfl, hm⟩; clear HM K1; have HM := hide hm; clear hm) | (go_at_call 241; refine (unhide K2 _ (unhide HM)).mono ?_; rintro e w5 ⟨rfl, hm⟩; clear HM K2; have HM := hide hm; clear hm) | (go_at_call 104; refine (putLeaf (unhide HM) 14 N 0 ⟨#[]⟩ (unhide HE)).mono ?_; rintro e w5 ⟨rfl, ys', nd', hm, hd⟩; have HF := hide (And.intro hm hd); clear hm hd))
  go_ret2
  exact gave_leaf 14 N 0 ⟨#[]⟩ rfl (unhide HF).1 (unhide HF).2


set_option maxRecDepth 20000 in
set_option maxHeartbeats 2000000 in
theorem outer_bad2 (E : IEnv Z ta tn ts bytes) (h : IPS Z p ta tn tc bytes w i nd xs) (hi : i ≤ 4100) (hlen : xs.length ≤ 1048576) (h0 : (seenT ts).cl i = 8728) (h1 : (seenT ts).cl (i + 1) = 46) (hN : ¬ 0 < scalNo ((seenT ts).cl (i + 1 + 1))) :
    Calls Tryz.prog 221 #[.pointer (some ⟨p, 0, none⟩)] w (GaveI Z p ta tn tc ts bytes w nd xs (false, i + 1 + 1, [])) := by
  have HM : Hid (MidI Z p ta tn tc bytes w nd xs [] i w nd) := MidP.start h
  have K0 := hide (fun (V : World) (hm : MidI Z p ta tn tc bytes w nd xs [] i V nd) => needYesM E hm (by omega) (c := 8728) (by decide) (s := ⟨#[226, 136, 152]⟩) (by kernel_rfl) h0)
  have K1 := hide (fun (V : World) (hm : MidI Z p ta tn tc bytes w nd xs [] (i + 1) V nd) => needYesM E hm (by omega) (c := 46) (by decide) (s := ⟨#[46]⟩) (by kernel_rfl) h1)
  have K2 := hide (fun (V : World) (hm : MidI Z p ta tn tc bytes w nd xs [] (i + 1 + 1) V nd) => scalNoM E hm (by omega) hN)
  have HE : Hid (xs.length ≤ 1048576) := hlen

  clear h hlen h0 h1 hN
  go_enter Tryz.func221, Tryz.ntmps221
  go_wp2_with (first | (go_at_call 195; refine (unhide K0 _ (unhide HM)).mono ?_; rintro e w5 ⟨rfl, hm⟩; clear HM K0; have HM := hide hm; clear hm) | (go_at_call 195; refine (unhide K1 _ (unhide HM)).mono ?_; rintro e w5 ⟨rfl, hm⟩; clear HM K1; have HM := hide hm; clear hm) | (go_at_call 241; refine (unhide K2 _ (unhide HM)).mono ?_; rintro e w5 ⟨b, rfl, hf, hb⟩; have HF := hide (And.intro hf hb); clear hf hb; delta faultV))
  go_ret2
  exact gave_fault 0 rfl (unhide HF).1 (unhide HF).2


set_option maxRecDepth 20000 in
set_option maxHeartbeats 2000000 in
theorem outer_bad1 (E : IEnv Z ta tn ts bytes) (h : IPS Z p ta tn tc bytes w i nd xs) (hi : i ≤ 4100) (hlen : xs.length ≤ 1048576) (h0 : (seenT ts).cl i = 8728) (h1 : (seenT ts).cl (i + 1) ≠ 46) :
    Calls Tryz.prog 221 #[.pointer (some ⟨p, 0, none⟩)] w (GaveI Z p ta tn tc ts bytes w nd xs (false, i + 1, [])) := by
  have HM : Hid (MidI Z p ta tn tc bytes w nd xs [] i w nd) := MidP.start h
  have K0 := hide (fun (V : World) (hm : MidI Z p ta tn tc bytes w nd xs [] i V nd) => needYesM E hm (by omega) (c := 8728) (by decide) (s := ⟨#[226, 136, 152]⟩) (by kernel_rfl) h0)
  have K1 := hide (fun (V : World) (hm : MidI Z p ta tn tc bytes w nd xs [] (i + 1) V nd) => needNoM E hm (by omega) (c := 46) (by decide) (s := ⟨#[46]⟩) (by kernel_rfl) h1)
  have HE : Hid (xs.length ≤ 1048576) := hlen

  clear h hlen h0 h1
  go_enter Tryz.func221, Tryz.ntmps221
  go_wp2_with (first | (go_at_call 195; refine (unhide K0 _ (unhide HM)).mono ?_; rintro e w5 ⟨rfl, hm⟩; clear HM K0; have HM := hide hm; clear hm) | (go_at_call 195; refine (unhide K1 _ (unhide HM)).mono ?_; rintro e w5 ⟨b, rfl, hf, hb⟩; have HF := hide (And.intro hf hb); clear hf hb; delta faultV))
  go_ret2
  exact gave_fault 0 rfl (unhide HF).1 (unhide HF).2


/-- What an sfn takes. -/
theorem sfnP (E : IEnv Z ta tn ts bytes) (h : IPS Z p ta tn tc bytes w i nd xs) (hi : i ≤ 4100) (hlen : xs.length ≤ 1048576) (hN : 0 < scalNo ((seenT ts).cl i)) {r : Res} (hr : scalS (seenT ts) (i + 1) (scalNo ((seenT ts).cl i)) = some r) :
    Calls Tryz.prog 220 #[.pointer (some ⟨p, 0, none⟩)] w (GaveI Z p ta tn tc ts bytes w nd xs r) := by
  unfold scalS at hr
  by_cases h0 : (seenT ts).cl (i + 1) = 47
  · rw [if_pos h0] at hr; cases hr; exact sfn_47 E h hi hlen hN h0
  rw [if_neg h0] at hr
  by_cases h1 : (seenT ts).cl (i + 1) = 9023
  · rw [if_pos h1] at hr; cases hr; exact sfn_9023 E h hi hlen hN h0 h1
  rw [if_neg h1] at hr
  by_cases h2 : (seenT ts).cl (i + 1) = 92
  · rw [if_pos h2] at hr; cases hr; exact sfn_92 E h hi hlen hN h0 h1 h2
  rw [if_neg h2] at hr
  by_cases h3 : (seenT ts).cl (i + 1) = 9024
  · rw [if_pos h3] at hr; cases hr; exact sfn_9024 E h hi hlen hN h0 h1 h2 h3
  rw [if_neg h3] at hr
  by_cases h4 : (seenT ts).cl (i + 1) = 46
  · rw [if_pos h4] at hr
    by_cases h5 : 0 < scalNo ((seenT ts).cl (i + 1 + 1))
    · rw [if_pos h5] at hr; cases hr; exact sfn_inn E h hi hlen hN h0 h1 h2 h3 h4 h5
    · rw [if_neg h5] at hr; cases hr; exact sfn_innbad E h hi hlen hN h0 h1 h2 h3 h4 h5
  · rw [if_neg h4] at hr; cases hr; exact sfn_else E h hi hlen hN h0 h1 h2 h3 h4

theorem outerP (E : IEnv Z ta tn ts bytes) (h : IPS Z p ta tn tc bytes w i nd xs) (hi : i ≤ 4100) (hlen : xs.length ≤ 1048576) (h0 : (seenT ts).cl i = 8728) {r : Res} (hr : (if (seenT ts).cl (i + 1) = 46 then (if 0 < scalNo ((seenT ts).cl (i + 2)) then okR (i + 3) [leafN 14 (scalNo ((seenT ts).cl (i + 2)) : Nat) 0] else badR (i + 2)) else badR (i + 1)) = some r) :
    Calls Tryz.prog 221 #[.pointer (some ⟨p, 0, none⟩)] w (GaveI Z p ta tn tc ts bytes w nd xs r) := by
  by_cases h1 : (seenT ts).cl (i + 1) = 46
  · rw [if_pos h1] at hr
    by_cases h2 : 0 < scalNo ((seenT ts).cl (i + 2))
    · rw [if_pos h2] at hr; cases hr; exact outer_ok E h hi hlen h0 h1 h2
    · rw [if_neg h2] at hr; cases hr; exact outer_bad2 E h hi hlen h0 h1 h2
  · rw [if_neg h1] at hr; cases hr; exact outer_bad1 E h hi hlen h0 h1

end
end Go.Proofs.YtmgjicgojlkpcaaGreatDoor
