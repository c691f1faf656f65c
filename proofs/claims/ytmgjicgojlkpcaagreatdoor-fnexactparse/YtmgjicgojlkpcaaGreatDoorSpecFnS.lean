import Derived.Test.YtmgjicgojlkpcaaGreatDoorSpecPc
namespace Go.Proofs.YtmgjicgojlkpcaaGreatDoor
open Go.RowKit

section
variable {Z w w0 w1 : World} {p i j q : Nat} {nd nd0 nd1 v : Value} {zs : List Int} {xs ys : List NodeC} {bx : List Nat} {ns : List NodeD} {ta : Option Addr} {tn tc : Nat} {ts : List Tok} {b b' g : Bool} {t : List NodeD}

/-- A leaf put, and the answer. -/
theorem leaf_gave {NS : List NodeD} (k n m : Int) (s : ByteArray) (nums : List Int) (hx : NS.length = xs.length) (h : KS Z p ta tn tc w0 nd0 xs bx (NS ++ [⟨k, n, m, s, nums, []⟩]) q false w nd v zs) (hiq : i < q) (h7 : k ≠ 7) (h9 : k ≠ 9) (h10 : k ≠ 10) : GaveS Z p ta tn tc w0 nd0 xs i true q (treeN k n m s nums []) (.returned (.int .i64 (NS.length : Nat))) w :=
  KS.gave (g := true) h rfl (by omega) (by rw [List.length_append, hx]; show _ + 1 ≤ _; omega) fun _ => ⟨by rw [List.length_append, hx]; show _ + 1 + 1 ≤ _; omega, NS.length, rfl, TreesAt.nil.put k n m s nums (cnt0 h7 h9 h10 _)⟩

/-- Something put where all is not well. -/
theorem bad_gave {z : Int} (hx : ns.length ≤ xs.length + 4 * (q - i)) (h : KS Z p ta tn tc w0 nd0 xs bx ns q true w nd v zs) (hiq : i ≤ q) (t : List NodeD) : GaveS Z p ta tn tc w0 nd0 xs i false q t (.returned (.int .i64 z)) w :=
  KS.gave (g := false) h rfl hiq hx (fun h => by cases h)


set_option maxRecDepth 20000 in
set_option maxHeartbeats 4000000 in
theorem fs_47 (E : SEnv Z ta tn ts) (h : SPS Z p ta tn tc false w i nd xs) (hi : i ≤ 4100) (hroom : xs.length + 4 * (5000 - i) ≤ 100000) (h0 : 0 < scalNo ((seenT ts).cl i)) (h1 : (seenT ts).cl (i + 1) = 47) :
    Calls Tryz.prog 146 #[.pointer (some ⟨p, 0, none⟩)] w (GaveS Z p ta tn tc w nd xs i true (i + 2) (leafN 12 (scalNo ((seenT ts).cl i) : Nat) 0)) := by
  have HK := hide (KS.start h)
  have hxl : (xs.map NodeC.d).length = xs.length := List.length_map ..
  obtain ⟨NS, hNS⟩ : ∃ NS, xs.map NodeC.d = NS := ⟨_, rfl⟩
  rw [hNS] at HK hxl
  have hxm : NS.length ≤ 100000 := by omega
  obtain ⟨p0, p1, p2, p3, f0, f1, f2, f3, hpl⟩ := h.all
  obtain ⟨N, hN⟩ : ∃ N, scalNo ((seenT ts).cl i) = N := ⟨_, rfl⟩
  rw [hN] at h0
  have hd0 : (0 : Int) < (N : Int) := by omega
  have hw1 : IntKind.i64.wrap ((i : Int) + 1) = (i : Int) + 1 := by rw [IntKind.wrap_i64]; omega
  have K1 := hide (fun (V : World) (n : Value) (hk : KS Z p ta tn tc w nd xs [] NS i false V n nilL []) => hk.via (e0 := .returned (.int .i64 (N : Nat))) fun _ hX => (spScalar E hX (z := 0) (j := i) (by omega) (by omega)).mono fun _ _ h => ⟨by rw [h.1, hN], (MidP.start hX).below h.2⟩)
  have K2 := hide (fun (V : World) (n : Value) (hk : KS Z p ta tn tc w nd xs [] NS (i + 1) false V n nilL []) => hk.via fun _ hX => hasYes E hX (by omega) (c := 47) (by decide) (s := ⟨#[47]⟩) (by kernel_rfl) (h1))
  have K3 := hide (fun (V : World) (n : Value) (hk : KS Z p ta tn tc w nd xs [] NS (i + 2) false V n nilL []) => hk.put 12 (N : Nat) 0 ⟨#[]⟩ (by omega))
  have HXL := hide hxl
  clear h hxl hxm h0 h1 E
  go_enter Tryz.func146, Tryz.ntmps146
  go_wp2_with (first | (go_at_call 96; refine (unhide K1 _ _ (unhide HK)).mono ?_; clear K1; rintro e w5 ⟨rfl, hk, _⟩; clear HK; obtain ⟨p0, p1, p2, p3, f0, f1, f2, f3, hpl⟩ := hk.all; have hk := hk.step 1 ((i : Int) + 1) (by omega); have HK := hide hk; clear hk) | (go_at_call 44; refine (unhide K2 _ _ (unhide HK)).mono ?_; clear K2; rintro e w5 ⟨rfl, hk, _⟩; clear HK; have HK := hide hk; clear hk) | (go_at_call 45; refine (unhide K3 _ _ (unhide HK)).mono ?_; clear K3; rintro e w6 ⟨rfl, nd6, hk⟩; clear HK; have HK := hide hk; clear hk))
  go_ret
  have hxl := unhide HXL
  rw [hN]
  exact leaf_gave (i := i) 12 (N : Nat) 0 ⟨#[]⟩ [] hxl (unhide HK) (by omega) (by decide) (by decide) (by decide)


set_option maxRecDepth 20000 in
set_option maxHeartbeats 4000000 in
theorem fs_9023 (E : SEnv Z ta tn ts) (h : SPS Z p ta tn tc false w i nd xs) (hi : i ≤ 4100) (hroom : xs.length + 4 * (5000 - i) ≤ 100000) (h0 : 0 < scalNo ((seenT ts).cl i)) (h1 : (seenT ts).cl (i + 1) = 9023) :
    Calls Tryz.prog 146 #[.pointer (some ⟨p, 0, none⟩)] w (GaveS Z p ta tn tc w nd xs i true (i + 2) (leafN 12 (scalNo ((seenT ts).cl i) : Nat) 1)) := by
  have HK := hide (KS.start h)
  have hxl : (xs.map NodeC.d).length = xs.length := List.length_map ..
  obtain ⟨NS, hNS⟩ : ∃ NS, xs.map NodeC.d = NS := ⟨_, rfl⟩
  rw [hNS] at HK hxl
  have hxm : NS.length ≤ 100000 := by omega
  obtain ⟨p0, p1, p2, p3, f0, f1, f2, f3, hpl⟩ := h.all
  obtain ⟨N, hN⟩ : ∃ N, scalNo ((seenT ts).cl i) = N := ⟨_, rfl⟩
  rw [hN] at h0
  have hd0 : (0 : Int) < (N : Int) := by omega
  have hw1 : IntKind.i64.wrap ((i : Int) + 1) = (i : Int) + 1 := by rw [IntKind.wrap_i64]; omega
  have K1 := hide (fun (V : World) (n : Value) (hk : KS Z p ta tn tc w nd xs [] NS i false V n nilL []) => hk.via (e0 := .returned (.int .i64 (N : Nat))) fun _ hX => (spScalar E hX (z := 0) (j := i) (by omega) (by omega)).mono fun _ _ h => ⟨by rw [h.1, hN], (MidP.start hX).below h.2⟩)
  have K2 := hide (fun (V : World) (n : Value) (hk : KS Z p ta tn tc w nd xs [] NS (i + 1) false V n nilL []) => hk.via fun _ hX => hasNo E hX (by omega) (c := 47) (by decide) (s := ⟨#[47]⟩) (by kernel_rfl) (by rw [h1]; decide))
  have K3 := hide (fun (V : World) (n : Value) (hk : KS Z p ta tn tc w nd xs [] NS (i + 1) false V n nilL []) => hk.via fun _ hX => hasYes E hX (by omega) (c := 9023) (by decide) (s := ⟨#[226, 140, 191]⟩) (by kernel_rfl) (h1))
  have K4 := hide (fun (V : World) (n : Value) (hk : KS Z p ta tn tc w nd xs [] NS (i + 2) false V n nilL []) => hk.put 12 (N : Nat) 1 ⟨#[]⟩ (by omega))
  have HXL := hide hxl
  clear h hxl hxm h0 h1 E
  go_enter Tryz.func146, Tryz.ntmps146
  go_wp2_with (first | (go_at_call 96; refine (unhide K1 _ _ (unhide HK)).mono ?_; clear K1; rintro e w5 ⟨rfl, hk, _⟩; clear HK; obtain ⟨p0, p1, p2, p3, f0, f1, f2, f3, hpl⟩ := hk.all; have hk := hk.step 1 ((i : Int) + 1) (by omega); have HK := hide hk; clear hk) | (go_at_call 44; refine (unhide K2 _ _ (unhide HK)).mono ?_; clear K2; rintro e w5 ⟨rfl, hk, _⟩; clear HK; have HK := hide hk; clear hk) | (go_at_call 44; refine (unhide K3 _ _ (unhide HK)).mono ?_; clear K3; rintro e w5 ⟨rfl, hk, _⟩; clear HK; have HK := hide hk; clear hk) | (go_at_call 45; refine (unhide K4 _ _ (unhide HK)).mono ?_; clear K4; rintro e w6 ⟨rfl, nd6, hk⟩; clear HK; have HK := hide hk; clear hk))
  go_ret
  have hxl := unhide HXL
  rw [hN]
  exact leaf_gave (i := i) 12 (N : Nat) 1 ⟨#[]⟩ [] hxl (unhide HK) (by omega) (by decide) (by decide) (by decide)


set_option maxRecDepth 20000 in
set_option maxHeartbeats 4000000 in
theorem fs_92 (E : SEnv Z ta tn ts) (h : SPS Z p ta tn tc false w i nd xs) (hi : i ≤ 4100) (hroom : xs.length + 4 * (5000 - i) ≤ 100000) (h0 : 0 < scalNo ((seenT ts).cl i)) (h1 : (seenT ts).cl (i + 1) = 92) :
    Calls Tryz.prog 146 #[.pointer (some ⟨p, 0, none⟩)] w (GaveS Z p ta tn tc w nd xs i true (i + 2) (leafN 13 (scalNo ((seenT ts).cl i) : Nat) 0)) := by
  have HK := hide (KS.start h)
  have hxl : (xs.map NodeC.d).length = xs.length := List.length_map ..
  obtain ⟨NS, hNS⟩ : ∃ NS, xs.map NodeC.d = NS := ⟨_, rfl⟩
  rw [hNS] at HK hxl
  have hxm : NS.length ≤ 100000 := by omega
  obtain ⟨p0, p1, p2, p3, f0, f1, f2, f3, hpl⟩ := h.all
  obtain ⟨N, hN⟩ : ∃ N, scalNo ((seenT ts).cl i) = N := ⟨_, rfl⟩
  rw [hN] at h0
  have hd0 : (0 : Int) < (N : Int) := by omega
  have hw1 : IntKind.i64.wrap ((i : Int) + 1) = (i : Int) + 1 := by rw [IntKind.wrap_i64]; omega
  have K1 := hide (fun (V : World) (n : Value) (hk : KS Z p ta tn tc w nd xs [] NS i false V n nilL []) => hk.via (e0 := .returned (.int .i64 (N : Nat))) fun _ hX => (spScalar E hX (z := 0) (j := i) (by omega) (by omega)).mono fun _ _ h => ⟨by rw [h.1, hN], (MidP.start hX).below h.2⟩)
  have K2 := hide (fun (V : World) (n : Value) (hk : KS Z p ta tn tc w nd xs [] NS (i + 1) false V n nilL []) => hk.via fun _ hX => hasNo E hX (by omega) (c := 47) (by decide) (s := ⟨#[47]⟩) (by kernel_rfl) (by rw [h1]; decide))
  have K3 := hide (fun (V : World) (n : Value) (hk : KS Z p ta tn tc w nd xs [] NS (i + 1) false V n nilL []) => hk.via fun _ hX => hasNo E hX (by omega) (c := 9023) (by decide) (s := ⟨#[226, 140, 191]⟩) (by kernel_rfl) (by rw [h1]; decide))
  have K4 := hide (fun (V : World) (n : Value) (hk : KS Z p ta tn tc w nd xs [] NS (i + 1) false V n nilL []) => hk.via fun _ hX => hasYes E hX (by omega) (c := 92) (by decide) (s := ⟨#[92]⟩) (by kernel_rfl) (h1))
  have K5 := hide (fun (V : World) (n : Value) (hk : KS Z p ta tn tc w nd xs [] NS (i + 2) false V n nilL []) => hk.put 13 (N : Nat) 0 ⟨#[]⟩ (by omega))
  have HXL := hide hxl
  clear h hxl hxm h0 h1 E
  go_enter Tryz.func146, Tryz.ntmps146
  go_wp2_with (first | (go_at_call 96; refine (unhide K1 _ _ (unhide HK)).mono ?_; clear K1; rintro e w5 ⟨rfl, hk, _⟩; clear HK; obtain ⟨p0, p1, p2, p3, f0, f1, f2, f3, hpl⟩ := hk.all; have hk := hk.step 1 ((i : Int) + 1) (by omega); have HK := hide hk; clear hk) | (go_at_call 44; refine (unhide K2 _ _ (unhide HK)).mono ?_; clear K2; rintro e w5 ⟨rfl, hk, _⟩; clear HK; have HK := hide hk; clear hk) | (go_at_call 44; refine (unhide K3 _ _ (unhide HK)).mono ?_; clear K3; rintro e w5 ⟨rfl, hk, _⟩; clear HK; have HK := hide hk; clear hk) | (go_at_call 44; refine (unhide K4 _ _ (unhide HK)).mono ?_; clear K4; rintro e w5 ⟨rfl, hk, _⟩; clear HK; have HK := hide hk; clear hk) | (go_at_call 45; refine (unhide K5 _ _ (unhide HK)).mono ?_; clear K5; rintro e w6 ⟨rfl, nd6, hk⟩; clear HK; have HK := hide hk; clear hk))
  go_ret
  have hxl := unhide HXL
  rw [hN]
  exact leaf_gave (i := i) 13 (N : Nat) 0 ⟨#[]⟩ [] hxl (unhide HK) (by omega) (by decide) (by decide) (by decide)


set_option maxRecDepth 20000 in
set_option maxHeartbeats 4000000 in
theorem fs_9024 (E : SEnv Z ta tn ts) (h : SPS Z p ta tn tc false w i nd xs) (hi : i ≤ 4100) (hroom : xs.length + 4 * (5000 - i) ≤ 100000) (h0 : 0 < scalNo ((seenT ts).cl i)) (h1 : (seenT ts).cl (i + 1) = 9024) :
    Calls Tryz.prog 146 #[.pointer (some ⟨p, 0, none⟩)] w (GaveS Z p ta tn tc w nd xs i true (i + 2) (leafN 13 (scalNo ((seenT ts).cl i) : Nat) 1)) := by
  have HK := hide (KS.start h)
  have hxl : (xs.map NodeC.d).length = xs.length := List.length_map ..
  obtain ⟨NS, hNS⟩ : ∃ NS, xs.map NodeC.d = NS := ⟨_, rfl⟩
  rw [hNS] at HK hxl
  have hxm : NS.length ≤ 100000 := by omega
  obtain ⟨p0, p1, p2, p3, f0, f1, f2, f3, hpl⟩ := h.all
  obtain ⟨N, hN⟩ : ∃ N, scalNo ((seenT ts).cl i) = N := ⟨_, rfl⟩
  rw [hN] at h0
  have hd0 : (0 : Int) < (N : Int) := by omega
  have hw1 : IntKind.i64.wrap ((i : Int) + 1) = (i : Int) + 1 := by rw [IntKind.wrap_i64]; omega
  have K1 := hide (fun (V : World) (n : Value) (hk : KS Z p ta tn tc w nd xs [] NS i false V n nilL []) => hk.via (e0 := .returned (.int .i64 (N : Nat))) fun _ hX => (spScalar E hX (z := 0) (j := i) (by omega) (by omega)).mono fun _ _ h => ⟨by rw [h.1, hN], (MidP.start hX).below h.2⟩)
  have K2 := hide (fun (V : World) (n : Value) (hk : KS Z p ta tn tc w nd xs [] NS (i + 1) false V n nilL []) => hk.via fun _ hX => hasNo E hX (by omega) (c := 47) (by decide) (s := ⟨#[47]⟩) (by kernel_rfl) (by rw [h1]; decide))
  have K3 := hide (fun (V : World) (n : Value) (hk : KS Z p ta tn tc w nd xs [] NS (i + 1) false V n nilL []) => hk.via fun _ hX => hasNo E hX (by omega) (c := 9023) (by decide) (s := ⟨#[226, 140, 191]⟩) (by kernel_rfl) (by rw [h1]; decide))
  have K4 := hide (fun (V : World) (n : Value) (hk : KS Z p ta tn tc w nd xs [] NS (i + 1) false V n nilL []) => hk.via fun _ hX => hasNo E hX (by omega) (c := 92) (by decide) (s := ⟨#[92]⟩) (by kernel_rfl) (by rw [h1]; decide))
  have K5 := hide (fun (V : World) (n : Value) (hk : KS Z p ta tn tc w nd xs [] NS (i + 1) false V n nilL []) => hk.via fun _ hX => hasYes E hX (by omega) (c := 9024) (by decide) (s := ⟨#[226, 141, 128]⟩) (by kernel_rfl) (h1))
  have K6 := hide (fun (V : World) (n : Value) (hk : KS Z p ta tn tc w nd xs [] NS (i + 2) false V n nilL []) => hk.put 13 (N : Nat) 1 ⟨#[]⟩ (by omega))
  have HXL := hide hxl
  clear h hxl hxm h0 h1 E
  go_enter Tryz.func146, Tryz.ntmps146
  go_wp2_with (first | (go_at_call 96; refine (unhide K1 _ _ (unhide HK)).mono ?_; clear K1; rintro e w5 ⟨rfl, hk, _⟩; clear HK; obtain ⟨p0, p1, p2, p3, f0, f1, f2, f3, hpl⟩ := hk.all; have hk := hk.step 1 ((i : Int) + 1) (by omega); have HK := hide hk; clear hk) | (go_at_call 44; refine (unhide K2 _ _ (unhide HK)).mono ?_; clear K2; rintro e w5 ⟨rfl, hk, _⟩; clear HK; have HK := hide hk; clear hk) | (go_at_call 44; refine (unhide K3 _ _ (unhide HK)).mono ?_; clear K3; rintro e w5 ⟨rfl, hk, _⟩; clear HK; have HK := hide hk; clear hk) | (go_at_call 44; refine (unhide K4 _ _ (unhide HK)).mono ?_; clear K4; rintro e w5 ⟨rfl, hk, _⟩; clear HK; have HK := hide hk; clear hk) | (go_at_call 44; refine (unhide K5 _ _ (unhide HK)).mono ?_; clear K5; rintro e w5 ⟨rfl, hk, _⟩; clear HK; have HK := hide hk; clear hk) | (go_at_call 45; refine (unhide K6 _ _ (unhide HK)).mono ?_; clear K6; rintro e w6 ⟨rfl, nd6, hk⟩; clear HK; have HK := hide hk; clear hk))
  go_ret
  have hxl := unhide HXL
  rw [hN]
  exact leaf_gave (i := i) 13 (N : Nat) 1 ⟨#[]⟩ [] hxl (unhide HK) (by omega) (by decide) (by decide) (by decide)


set_option maxRecDepth 20000 in
set_option maxHeartbeats 4000000 in
theorem fs_46y (E : SEnv Z ta tn ts) (h : SPS Z p ta tn tc false w i nd xs) (hi : i ≤ 4100) (hroom : xs.length + 4 * (5000 - i) ≤ 100000) (h0 : 0 < scalNo ((seenT ts).cl i)) (h1 : (seenT ts).cl (i + 1) = 46) (h2 : 0 < scalNo ((seenT ts).cl (i + 2))) :
    Calls Tryz.prog 146 #[.pointer (some ⟨p, 0, none⟩)] w (GaveS Z p ta tn tc w nd xs i true (i + 3) (leafN 15 (scalNo ((seenT ts).cl i) : Nat) (scalNo ((seenT ts).cl (i + 2)) : Nat))) := by
  have HK := hide (KS.start h)
  have hxl : (xs.map NodeC.d).length = xs.length := List.length_map ..
  obtain ⟨NS, hNS⟩ : ∃ NS, xs.map NodeC.d = NS := ⟨_, rfl⟩
  rw [hNS] at HK hxl
  have hxm : NS.length ≤ 100000 := by omega
  obtain ⟨p0, p1, p2, p3, f0, f1, f2, f3, hpl⟩ := h.all
  obtain ⟨N, hN⟩ : ∃ N, scalNo ((seenT ts).cl i) = N := ⟨_, rfl⟩
  rw [hN] at h0
  have hd0 : (0 : Int) < (N : Int) := by omega
  have hw1 : IntKind.i64.wrap ((i : Int) + 1) = (i : Int) + 1 := by rw [IntKind.wrap_i64]; omega
  obtain ⟨M, hM⟩ : ∃ M, scalNo ((seenT ts).cl (i + 2)) = M := ⟨_, rfl⟩
  have K1 := hide (fun (V : World) (n : Value) (hk : KS Z p ta tn tc w nd xs [] NS i false V n nilL []) => hk.via (e0 := .returned (.int .i64 (N : Nat))) fun _ hX => (spScalar E hX (z := 0) (j := i) (by omega) (by omega)).mono fun _ _ h => ⟨by rw [h.1, hN], (MidP.start hX).below h.2⟩)
  have K2 := hide (fun (V : World) (n : Value) (hk : KS Z p ta tn tc w nd xs [] NS (i + 1) false V n nilL []) => hk.via fun _ hX => hasNo E hX (by omega) (c := 47) (by decide) (s := ⟨#[47]⟩) (by kernel_rfl) (by rw [h1]; decide))
  have K3 := hide (fun (V : World) (n : Value) (hk : KS Z p ta tn tc w nd xs [] NS (i + 1) false V n nilL []) => hk.via fun _ hX => hasNo E hX (by omega) (c := 9023) (by decide) (s := ⟨#[226, 140, 191]⟩) (by kernel_rfl) (by rw [h1]; decide))
  have K4 := hide (fun (V : World) (n : Value) (hk : KS Z p ta tn tc w nd xs [] NS (i + 1) false V n nilL []) => hk.via fun _ hX => hasNo E hX (by omega) (c := 92) (by decide) (s := ⟨#[92]⟩) (by kernel_rfl) (by rw [h1]; decide))
  have K5 := hide (fun (V : World) (n : Value) (hk : KS Z p ta tn tc w nd xs [] NS (i + 1) false V n nilL []) => hk.via fun _ hX => hasNo E hX (by omega) (c := 9024) (by decide) (s := ⟨#[226, 141, 128]⟩) (by kernel_rfl) (by rw [h1]; decide))
  have K6 := hide (fun (V : World) (n : Value) (hk : KS Z p ta tn tc w nd xs [] NS (i + 1) false V n nilL []) => hk.via fun _ hX => hasYes E hX (by omega) (c := 46) (by decide) (s := ⟨#[46]⟩) (by kernel_rfl) (h1))
  have K7 := hide (fun (V : World) (n : Value) (hk : KS Z p ta tn tc w nd xs [] NS (i + 2) false V n nilL []) => hk.via fun _ hX => (by have h' := secYes E hX (by omega) h2; rw [hM] at h'; exact h'))
  have K8 := hide (fun (V : World) (n : Value) (hk : KS Z p ta tn tc w nd xs [] NS (i + 3) false V n nilL []) => hk.put 15 (N : Nat) (M : Nat) ⟨#[]⟩ (by omega))
  have HXL := hide hxl
  clear h hxl hxm h0 h1 h2 E
  go_enter Tryz.func146, Tryz.ntmps146
  go_wp2_with (first | (go_at_call 96; refine (unhide K1 _ _ (unhide HK)).mono ?_; clear K1; rintro e w5 ⟨rfl, hk, _⟩; clear HK; obtain ⟨p0, p1, p2, p3, f0, f1, f2, f3, hpl⟩ := hk.all; have hk := hk.step 1 ((i : Int) + 1) (by omega); have HK := hide hk; clear hk) | (go_at_call 44; refine (unhide K2 _ _ (unhide HK)).mono ?_; clear K2; rintro e w5 ⟨rfl, hk, _⟩; clear HK; have HK := hide hk; clear hk) | (go_at_call 44; refine (unhide K3 _ _ (unhide HK)).mono ?_; clear K3; rintro e w5 ⟨rfl, hk, _⟩; clear HK; have HK := hide hk; clear hk) | (go_at_call 44; refine (unhide K4 _ _ (unhide HK)).mono ?_; clear K4; rintro e w5 ⟨rfl, hk, _⟩; clear HK; have HK := hide hk; clear hk) | (go_at_call 44; refine (unhide K5 _ _ (unhide HK)).mono ?_; clear K5; rintro e w5 ⟨rfl, hk, _⟩; clear HK; have HK := hide hk; clear hk) | (go_at_call 44; refine (unhide K6 _ _ (unhide HK)).mono ?_; clear K6; rintro e w5 ⟨rfl, hk, _⟩; clear HK; have HK := hide hk; clear hk) | (go_at_call 181; refine (unhide K7 _ _ (unhide HK)).mono ?_; clear K7; rintro e w5 ⟨rfl, hk, _⟩; clear HK; have HK := hide hk; clear hk) | (go_at_call 45; refine (unhide K8 _ _ (unhide HK)).mono ?_; clear K8; rintro e w6 ⟨rfl, nd6, hk⟩; clear HK; have HK := hide hk; clear hk))
  go_ret
  have hxl := unhide HXL
  rw [hN, hM]
  exact leaf_gave (i := i) 15 (N : Nat) (M : Nat) ⟨#[]⟩ [] hxl (unhide HK) (by omega) (by decide) (by decide) (by decide)


set_option maxRecDepth 20000 in
set_option maxHeartbeats 4000000 in
theorem fs_46n (E : SEnv Z ta tn ts) (h : SPS Z p ta tn tc false w i nd xs) (hi : i ≤ 4100) (hroom : xs.length + 4 * (5000 - i) ≤ 100000) (h0 : 0 < scalNo ((seenT ts).cl i)) (h1 : (seenT ts).cl (i + 1) = 46) (h2 : scalNo ((seenT ts).cl (i + 2)) = 0) :
    Calls Tryz.prog 146 #[.pointer (some ⟨p, 0, none⟩)] w (GaveS Z p ta tn tc w nd xs i false (i + 2) ([])) := by
  have HK := hide (KS.start h)
  have hxl : (xs.map NodeC.d).length = xs.length := List.length_map ..
  obtain ⟨NS, hNS⟩ : ∃ NS, xs.map NodeC.d = NS := ⟨_, rfl⟩
  rw [hNS] at HK hxl
  have hxm : NS.length ≤ 100000 := by omega
  obtain ⟨p0, p1, p2, p3, f0, f1, f2, f3, hpl⟩ := h.all
  obtain ⟨N, hN⟩ : ∃ N, scalNo ((seenT ts).cl i) = N := ⟨_, rfl⟩
  rw [hN] at h0
  have hd0 : (0 : Int) < (N : Int) := by omega
  have hw1 : IntKind.i64.wrap ((i : Int) + 1) = (i : Int) + 1 := by rw [IntKind.wrap_i64]; omega
  have K1 := hide (fun (V : World) (n : Value) (hk : KS Z p ta tn tc w nd xs [] NS i false V n nilL []) => hk.via (e0 := .returned (.int .i64 (N : Nat))) fun _ hX => (spScalar E hX (z := 0) (j := i) (by omega) (by omega)).mono fun _ _ h => ⟨by rw [h.1, hN], (MidP.start hX).below h.2⟩)
  have K2 := hide (fun (V : World) (n : Value) (hk : KS Z p ta tn tc w nd xs [] NS (i + 1) false V n nilL []) => hk.via fun _ hX => hasNo E hX (by omega) (c := 47) (by decide) (s := ⟨#[47]⟩) (by kernel_rfl) (by rw [h1]; decide))
  have K3 := hide (fun (V : World) (n : Value) (hk : KS Z p ta tn tc w nd xs [] NS (i + 1) false V n nilL []) => hk.via fun _ hX => hasNo E hX (by omega) (c := 9023) (by decide) (s := ⟨#[226, 140, 191]⟩) (by kernel_rfl) (by rw [h1]; decide))
  have K4 := hide (fun (V : World) (n : Value) (hk : KS Z p ta tn tc w nd xs [] NS (i + 1) false V n nilL []) => hk.via fun _ hX => hasNo E hX (by omega) (c := 92) (by decide) (s := ⟨#[92]⟩) (by kernel_rfl) (by rw [h1]; decide))
  have K5 := hide (fun (V : World) (n : Value) (hk : KS Z p ta tn tc w nd xs [] NS (i + 1) false V n nilL []) => hk.via fun _ hX => hasNo E hX (by omega) (c := 9024) (by decide) (s := ⟨#[226, 141, 128]⟩) (by kernel_rfl) (by rw [h1]; decide))
  have K6 := hide (fun (V : World) (n : Value) (hk : KS Z p ta tn tc w nd xs [] NS (i + 1) false V n nilL []) => hk.via fun _ hX => hasYes E hX (by omega) (c := 46) (by decide) (s := ⟨#[46]⟩) (by kernel_rfl) (h1))
  have K7 := hide (fun (V : World) (n : Value) (hk : KS Z p ta tn tc w nd xs [] NS (i + 2) false V n nilL []) => hk.via fun _ hX => secNo E hX (by omega) (.inr h2))
  have K8 := hide (fun (V : World) (n : Value) (hk : KS Z p ta tn tc w nd xs [] NS (i + 2) true V n nilL []) => hk.put 15 (N : Nat) 0 ⟨#[]⟩ (by omega))
  have HXL := hide hxl
  clear h hxl hxm h0 h1 h2 E
  go_enter Tryz.func146, Tryz.ntmps146
  go_wp2_with (first | (go_at_call 96; refine (unhide K1 _ _ (unhide HK)).mono ?_; clear K1; rintro e w5 ⟨rfl, hk, _⟩; clear HK; obtain ⟨p0, p1, p2, p3, f0, f1, f2, f3, hpl⟩ := hk.all; have hk := hk.step 1 ((i : Int) + 1) (by omega); have HK := hide hk; clear hk) | (go_at_call 44; refine (unhide K2 _ _ (unhide HK)).mono ?_; clear K2; rintro e w5 ⟨rfl, hk, _⟩; clear HK; have HK := hide hk; clear hk) | (go_at_call 44; refine (unhide K3 _ _ (unhide HK)).mono ?_; clear K3; rintro e w5 ⟨rfl, hk, _⟩; clear HK; have HK := hide hk; clear hk) | (go_at_call 44; refine (unhide K4 _ _ (unhide HK)).mono ?_; clear K4; rintro e w5 ⟨rfl, hk, _⟩; clear HK; have HK := hide hk; clear hk) | (go_at_call 44; refine (unhide K5 _ _ (unhide HK)).mono ?_; clear K5; rintro e w5 ⟨rfl, hk, _⟩; clear HK; have HK := hide hk; clear hk) | (go_at_call 44; refine (unhide K6 _ _ (unhide HK)).mono ?_; clear K6; rintro e w5 ⟨rfl, hk, _⟩; clear HK; have HK := hide hk; clear hk) | (go_at_call 181; refine (unhide K7 _ _ (unhide HK)).mono ?_; clear K7; rintro e w5 ⟨rfl, hk, _⟩; clear HK; have HK := hide hk; clear hk) | (go_at_call 45; refine (unhide K8 _ _ (unhide HK)).mono ?_; clear K8; rintro e w6 ⟨rfl, nd6, hk⟩; clear HK; have HK := hide hk; clear hk))
  go_ret
  have hxl := unhide HXL
  exact bad_gave (by rw [List.length_append, hxl]; show _ + 1 ≤ _; omega) (unhide HK) (by omega) _


set_option maxRecDepth 20000 in
set_option maxHeartbeats 4000000 in
theorem fs_sc (E : SEnv Z ta tn ts) (h : SPS Z p ta tn tc false w i nd xs) (hi : i ≤ 4100) (hroom : xs.length + 4 * (5000 - i) ≤ 100000) (h0 : 0 < scalNo ((seenT ts).cl i)) (h47 : (seenT ts).cl (i + 1) ≠ 47) (h9023 : (seenT ts).cl (i + 1) ≠ 9023) (h92 : (seenT ts).cl (i + 1) ≠ 92) (h9024 : (seenT ts).cl (i + 1) ≠ 9024) (h46 : (seenT ts).cl (i + 1) ≠ 46) :
    Calls Tryz.prog 146 #[.pointer (some ⟨p, 0, none⟩)] w (GaveS Z p ta tn tc w nd xs i true (i + 1) (leafN 11 (scalNo ((seenT ts).cl i) : Nat) 0)) := by
  have HK := hide (KS.start h)
  have hxl : (xs.map NodeC.d).length = xs.length := List.length_map ..
  obtain ⟨NS, hNS⟩ : ∃ NS, xs.map NodeC.d = NS := ⟨_, rfl⟩
  rw [hNS] at HK hxl
  have hxm : NS.length ≤ 100000 := by omega
  obtain ⟨p0, p1, p2, p3, f0, f1, f2, f3, hpl⟩ := h.all
  obtain ⟨N, hN⟩ : ∃ N, scalNo ((seenT ts).cl i) = N := ⟨_, rfl⟩
  rw [hN] at h0
  have hd0 : (0 : Int) < (N : Int) := by omega
  have hw1 : IntKind.i64.wrap ((i : Int) + 1) = (i : Int) + 1 := by rw [IntKind.wrap_i64]; omega
  have K1 := hide (fun (V : World) (n : Value) (hk : KS Z p ta tn tc w nd xs [] NS i false V n nilL []) => hk.via (e0 := .returned (.int .i64 (N : Nat))) fun _ hX => (spScalar E hX (z := 0) (j := i) (by omega) (by omega)).mono fun _ _ h => ⟨by rw [h.1, hN], (MidP.start hX).below h.2⟩)
  have K2 := hide (fun (V : World) (n : Value) (hk : KS Z p ta tn tc w nd xs [] NS (i + 1) false V n nilL []) => hk.via fun _ hX => hasNo E hX (by omega) (c := 47) (by decide) (s := ⟨#[47]⟩) (by kernel_rfl) (h47))
  have K3 := hide (fun (V : World) (n : Value) (hk : KS Z p ta tn tc w nd xs [] NS (i + 1) false V n nilL []) => hk.via fun _ hX => hasNo E hX (by omega) (c := 9023) (by decide) (s := ⟨#[226, 140, 191]⟩) (by kernel_rfl) (h9023))
  have K4 := hide (fun (V : World) (n : Value) (hk : KS Z p ta tn tc w nd xs [] NS (i + 1) false V n nilL []) => hk.via fun _ hX => hasNo E hX (by omega) (c := 92) (by decide) (s := ⟨#[92]⟩) (by kernel_rfl) (h92))
  have K5 := hide (fun (V : World) (n : Value) (hk : KS Z p ta tn tc w nd xs [] NS (i + 1) false V n nilL []) => hk.via fun _ hX => hasNo E hX (by omega) (c := 9024) (by decide) (s := ⟨#[226, 141, 128]⟩) (by kernel_rfl) (h9024))
  have K6 := hide (fun (V : World) (n : Value) (hk : KS Z p ta tn tc w nd xs [] NS (i + 1) false V n nilL []) => hk.via fun _ hX => hasNo E hX (by omega) (c := 46) (by decide) (s := ⟨#[46]⟩) (by kernel_rfl) (h46))
  have K7 := hide (fun (V : World) (n : Value) (hk : KS Z p ta tn tc w nd xs [] NS (i + 1) false V n nilL []) => hk.put 11 (N : Nat) 0 ⟨#[]⟩ (by omega))
  have HXL := hide hxl
  clear h hxl hxm h0 h47 h9023 h92 h9024 h46 E
  go_enter Tryz.func146, Tryz.ntmps146
  go_wp2_with (first | (go_at_call 96; refine (unhide K1 _ _ (unhide HK)).mono ?_; clear K1; rintro e w5 ⟨rfl, hk, _⟩; clear HK; obtain ⟨p0, p1, p2, p3, f0, f1, f2, f3, hpl⟩ := hk.all; have hk := hk.step 1 ((i : Int) + 1) (by omega); have HK := hide hk; clear hk) | (go_at_call 44; refine (unhide K2 _ _ (unhide HK)).mono ?_; clear K2; rintro e w5 ⟨rfl, hk, _⟩; clear HK; have HK := hide hk; clear hk) | (go_at_call 44; refine (unhide K3 _ _ (unhide HK)).mono ?_; clear K3; rintro e w5 ⟨rfl, hk, _⟩; clear HK; have HK := hide hk; clear hk) | (go_at_call 44; refine (unhide K4 _ _ (unhide HK)).mono ?_; clear K4; rintro e w5 ⟨rfl, hk, _⟩; clear HK; have HK := hide hk; clear hk) | (go_at_call 44; refine (unhide K5 _ _ (unhide HK)).mono ?_; clear K5; rintro e w5 ⟨rfl, hk, _⟩; clear HK; have HK := hide hk; clear hk) | (go_at_call 44; refine (unhide K6 _ _ (unhide HK)).mono ?_; clear K6; rintro e w5 ⟨rfl, hk, _⟩; clear HK; have HK := hide hk; clear hk) | (go_at_call 45; refine (unhide K7 _ _ (unhide HK)).mono ?_; clear K7; rintro e w6 ⟨rfl, nd6, hk⟩; clear HK; have HK := hide hk; clear hk))
  go_ret
  have hxl := unhide HXL
  rw [hN]
  exact leaf_gave (i := i) 11 (N : Nat) 0 ⟨#[]⟩ [] hxl (unhide HK) (by omega) (by decide) (by decide) (by decide)


set_option maxRecDepth 20000 in
set_option maxHeartbeats 4000000 in
theorem fs_8728y (E : SEnv Z ta tn ts) (h : SPS Z p ta tn tc false w i nd xs) (hi : i ≤ 4100) (hroom : xs.length + 4 * (5000 - i) ≤ 100000) (h0 : scalNo ((seenT ts).cl i) = 0) (h1 : (seenT ts).cl i = 8728) (h2 : (seenT ts).cl (i + 1) = 46) (h3 : 0 < scalNo ((seenT ts).cl (i + 2))) :
    Calls Tryz.prog 146 #[.pointer (some ⟨p, 0, none⟩)] w (GaveS Z p ta tn tc w nd xs i true (i + 3) (leafN 14 (scalNo ((seenT ts).cl (i + 2)) : Nat) 0)) := by
  have HK := hide (KS.start h)
  have hxl : (xs.map NodeC.d).length = xs.length := List.length_map ..
  obtain ⟨NS, hNS⟩ : ∃ NS, xs.map NodeC.d = NS := ⟨_, rfl⟩
  rw [hNS] at HK hxl
  have hxm : NS.length ≤ 100000 := by omega
  obtain ⟨p0, p1, p2, p3, f0, f1, f2, f3, hpl⟩ := h.all
  have hw1 : IntKind.i64.wrap ((i : Int) + 1) = (i : Int) + 1 := by rw [IntKind.wrap_i64]; omega
  obtain ⟨M, hM⟩ : ∃ M, scalNo ((seenT ts).cl (i + 2)) = M := ⟨_, rfl⟩
  have K1 := hide (fun (V : World) (n : Value) (hk : KS Z p ta tn tc w nd xs [] NS i false V n nilL []) => hk.via (e0 := .returned (.int .i64 0)) fun _ hX => (spScalar E hX (z := 0) (j := i) (by omega) (by omega)).mono fun _ _ h => ⟨by rw [h.1, h0]; rfl, (MidP.start hX).below h.2⟩)
  have K2 := hide (fun (V : World) (n : Value) (hk : KS Z p ta tn tc w nd xs [] NS i false V n nilL []) => hk.via fun _ hX => hasYes E hX (by omega) (c := 8728) (by decide) (s := ⟨#[226, 136, 152]⟩) (by kernel_rfl) (h1))
  have K3 := hide (fun (V : World) (n : Value) (hk : KS Z p ta tn tc w nd xs [] NS (i + 1) false V n nilL []) => hk.via fun _ hX => wantYes E hX (by omega) (c := 46) (by decide) (s := ⟨#[46]⟩) (by kernel_rfl) (h2))
  have K4 := hide (fun (V : World) (n : Value) (hk : KS Z p ta tn tc w nd xs [] NS (i + 2) false V n nilL []) => hk.via fun _ hX => (by have h' := secYes E hX (by omega) h3; rw [hM] at h'; exact h'))
  have K5 := hide (fun (V : World) (n : Value) (hk : KS Z p ta tn tc w nd xs [] NS (i + 3) false V n nilL []) => hk.put 14 (M : Nat) 0 ⟨#[]⟩ (by omega))
  have HXL := hide hxl
  clear h hxl hxm h0 h1 h2 h3 E
  go_enter Tryz.func146, Tryz.ntmps146
  go_wp2_with (first | (go_at_call 96; refine (unhide K1 _ _ (unhide HK)).mono ?_; clear K1; rintro e w5 ⟨rfl, hk, _⟩; clear HK; obtain ⟨p0, p1, p2, p3, f0, f1, f2, f3, hpl⟩ := hk.all; have HK := hide hk; clear hk) | (go_at_call 44; refine (unhide K2 _ _ (unhide HK)).mono ?_; clear K2; rintro e w5 ⟨rfl, hk, _⟩; clear HK; have HK := hide hk; clear hk) | (go_at_call 144; refine (unhide K3 _ _ (unhide HK)).mono ?_; clear K3; rintro e w5 ⟨rfl, hk, _⟩; clear HK; have HK := hide hk; clear hk) | (go_at_call 181; refine (unhide K4 _ _ (unhide HK)).mono ?_; clear K4; rintro e w5 ⟨rfl, hk, _⟩; clear HK; have HK := hide hk; clear hk) | (go_at_call 45; refine (unhide K5 _ _ (unhide HK)).mono ?_; clear K5; rintro e w6 ⟨rfl, nd6, hk⟩; clear HK; have HK := hide hk; clear hk))
  go_ret
  have hxl := unhide HXL
  rw [hM]
  exact leaf_gave (i := i) 14 (M : Nat) 0 ⟨#[]⟩ [] hxl (unhide HK) (by omega) (by decide) (by decide) (by decide)


set_option maxRecDepth 20000 in
set_option maxHeartbeats 4000000 in
theorem fs_8728n (E : SEnv Z ta tn ts) (h : SPS Z p ta tn tc false w i nd xs) (hi : i ≤ 4100) (hroom : xs.length + 4 * (5000 - i) ≤ 100000) (h0 : scalNo ((seenT ts).cl i) = 0) (h1 : (seenT ts).cl i = 8728) (h2 : (seenT ts).cl (i + 1) = 46) (h3 : scalNo ((seenT ts).cl (i + 2)) = 0) :
    Calls Tryz.prog 146 #[.pointer (some ⟨p, 0, none⟩)] w (GaveS Z p ta tn tc w nd xs i false (i + 2) ([])) := by
  have HK := hide (KS.start h)
  have hxl : (xs.map NodeC.d).length = xs.length := List.length_map ..
  obtain ⟨NS, hNS⟩ : ∃ NS, xs.map NodeC.d = NS := ⟨_, rfl⟩
  rw [hNS] at HK hxl
  have hxm : NS.length ≤ 100000 := by omega
  obtain ⟨p0, p1, p2, p3, f0, f1, f2, f3, hpl⟩ := h.all
  have hw1 : IntKind.i64.wrap ((i : Int) + 1) = (i : Int) + 1 := by rw [IntKind.wrap_i64]; omega
  have K1 := hide (fun (V : World) (n : Value) (hk : KS Z p ta tn tc w nd xs [] NS i false V n nilL []) => hk.via (e0 := .returned (.int .i64 0)) fun _ hX => (spScalar E hX (z := 0) (j := i) (by omega) (by omega)).mono fun _ _ h => ⟨by rw [h.1, h0]; rfl, (MidP.start hX).below h.2⟩)
  have K2 := hide (fun (V : World) (n : Value) (hk : KS Z p ta tn tc w nd xs [] NS i false V n nilL []) => hk.via fun _ hX => hasYes E hX (by omega) (c := 8728) (by decide) (s := ⟨#[226, 136, 152]⟩) (by kernel_rfl) (h1))
  have K3 := hide (fun (V : World) (n : Value) (hk : KS Z p ta tn tc w nd xs [] NS (i + 1) false V n nilL []) => hk.via fun _ hX => wantYes E hX (by omega) (c := 46) (by decide) (s := ⟨#[46]⟩) (by kernel_rfl) (h2))
  have K4 := hide (fun (V : World) (n : Value) (hk : KS Z p ta tn tc w nd xs [] NS (i + 2) false V n nilL []) => hk.via fun _ hX => secNo E hX (by omega) (.inr h3))
  have K5 := hide (fun (V : World) (n : Value) (hk : KS Z p ta tn tc w nd xs [] NS (i + 2) true V n nilL []) => hk.put 14 0 0 ⟨#[]⟩ (by omega))
  have HXL := hide hxl
  clear h hxl hxm h0 h1 h2 h3 E
  go_enter Tryz.func146, Tryz.ntmps146
  go_wp2_with (first | (go_at_call 96; refine (unhide K1 _ _ (unhide HK)).mono ?_; clear K1; rintro e w5 ⟨rfl, hk, _⟩; clear HK; obtain ⟨p0, p1, p2, p3, f0, f1, f2, f3, hpl⟩ := hk.all; have HK := hide hk; clear hk) | (go_at_call 44; refine (unhide K2 _ _ (unhide HK)).mono ?_; clear K2; rintro e w5 ⟨rfl, hk, _⟩; clear HK; have HK := hide hk; clear hk) | (go_at_call 144; refine (unhide K3 _ _ (unhide HK)).mono ?_; clear K3; rintro e w5 ⟨rfl, hk, _⟩; clear HK; have HK := hide hk; clear hk) | (go_at_call 181; refine (unhide K4 _ _ (unhide HK)).mono ?_; clear K4; rintro e w5 ⟨rfl, hk, _⟩; clear HK; have HK := hide hk; clear hk) | (go_at_call 45; refine (unhide K5 _ _ (unhide HK)).mono ?_; clear K5; rintro e w6 ⟨rfl, nd6, hk⟩; clear HK; have HK := hide hk; clear hk))
  go_ret
  have hxl := unhide HXL
  exact bad_gave (by rw [List.length_append, hxl]; show _ + 1 ≤ _; omega) (unhide HK) (by omega) _


set_option maxRecDepth 20000 in
set_option maxHeartbeats 4000000 in
theorem fs_8728x (E : SEnv Z ta tn ts) (h : SPS Z p ta tn tc false w i nd xs) (hi : i ≤ 4100) (hroom : xs.length + 4 * (5000 - i) ≤ 100000) (h0 : scalNo ((seenT ts).cl i) = 0) (h1 : (seenT ts).cl i = 8728) (h2 : (seenT ts).cl (i + 1) ≠ 46) :
    Calls Tryz.prog 146 #[.pointer (some ⟨p, 0, none⟩)] w (GaveS Z p ta tn tc w nd xs i false (i + 1) ([])) := by
  have HK := hide (KS.start h)
  have hxl : (xs.map NodeC.d).length = xs.length := List.length_map ..
  obtain ⟨NS, hNS⟩ : ∃ NS, xs.map NodeC.d = NS := ⟨_, rfl⟩
  rw [hNS] at HK hxl
  have hxm : NS.length ≤ 100000 := by omega
  obtain ⟨p0, p1, p2, p3, f0, f1, f2, f3, hpl⟩ := h.all
  have hw1 : IntKind.i64.wrap ((i : Int) + 1) = (i : Int) + 1 := by rw [IntKind.wrap_i64]; omega
  have K1 := hide (fun (V : World) (n : Value) (hk : KS Z p ta tn tc w nd xs [] NS i false V n nilL []) => hk.via (e0 := .returned (.int .i64 0)) fun _ hX => (spScalar E hX (z := 0) (j := i) (by omega) (by omega)).mono fun _ _ h => ⟨by rw [h.1, h0]; rfl, (MidP.start hX).below h.2⟩)
  have K2 := hide (fun (V : World) (n : Value) (hk : KS Z p ta tn tc w nd xs [] NS i false V n nilL []) => hk.via fun _ hX => hasYes E hX (by omega) (c := 8728) (by decide) (s := ⟨#[226, 136, 152]⟩) (by kernel_rfl) (h1))
  have K3 := hide (fun (V : World) (n : Value) (hk : KS Z p ta tn tc w nd xs [] NS (i + 1) false V n nilL []) => hk.via fun _ hX => wantNo E hX (by omega) (c := 46) (by decide) (s := ⟨#[46]⟩) (by kernel_rfl) (h2))
  have K4 := hide (fun (V : World) (n : Value) (hk : KS Z p ta tn tc w nd xs [] NS (i + 1) true V n nilL []) => hk.via fun _ hX => secNo E hX (by omega) (.inl rfl))
  have K5 := hide (fun (V : World) (n : Value) (hk : KS Z p ta tn tc w nd xs [] NS (i + 1) true V n nilL []) => hk.put 14 0 0 ⟨#[]⟩ (by omega))
  have HXL := hide hxl
  clear h hxl hxm h0 h1 h2  E
  go_enter Tryz.func146, Tryz.ntmps146
  go_wp2_with (first | (go_at_call 96; refine (unhide K1 _ _ (unhide HK)).mono ?_; clear K1; rintro e w5 ⟨rfl, hk, _⟩; clear HK; obtain ⟨p0, p1, p2, p3, f0, f1, f2, f3, hpl⟩ := hk.all; have HK := hide hk; clear hk) | (go_at_call 44; refine (unhide K2 _ _ (unhide HK)).mono ?_; clear K2; rintro e w5 ⟨rfl, hk, _⟩; clear HK; have HK := hide hk; clear hk) | (go_at_call 144; refine (unhide K3 _ _ (unhide HK)).mono ?_; clear K3; rintro e w5 ⟨rfl, hk, _⟩; clear HK; have HK := hide hk; clear hk) | (go_at_call 181; refine (unhide K4 _ _ (unhide HK)).mono ?_; clear K4; rintro e w5 ⟨rfl, hk, _⟩; clear HK; have HK := hide hk; clear hk) | (go_at_call 45; refine (unhide K5 _ _ (unhide HK)).mono ?_; clear K5; rintro e w6 ⟨rfl, nd6, hk⟩; clear HK; have HK := hide hk; clear hk))
  go_ret
  have hxl := unhide HXL
  exact bad_gave (by rw [List.length_append, hxl]; show _ + 1 ≤ _; omega) (unhide HK) (by omega) _


set_option maxRecDepth 20000 in
set_option maxHeartbeats 4000000 in
theorem fs_123 (E : SEnv Z ta tn ts) (h : SPS Z p ta tn tc false w i nd xs) (hi : i ≤ 4100) (hroom : xs.length + 4 * (5000 - i) ≤ 100000) (h0 : scalNo ((seenT ts).cl i) = 0) (h1 : (seenT ts).cl i = 123) {g : Bool} {q : Nat} {t : List NodeD} (hR : ReadS Z p ta tn tc 92 #[.pointer (some ⟨p, 0, none⟩)] i g q t) :
    Calls Tryz.prog 146 #[.pointer (some ⟨p, 0, none⟩)] w (GaveS Z p ta tn tc w nd xs i g (q) (t)) := by
  have HK := hide (KS.start h)
  have hxl : (xs.map NodeC.d).length = xs.length := List.length_map ..
  obtain ⟨NS, hNS⟩ : ∃ NS, xs.map NodeC.d = NS := ⟨_, rfl⟩
  rw [hNS] at HK hxl
  have hxm : NS.length ≤ 100000 := by omega
  obtain ⟨p0, p1, p2, p3, f0, f1, f2, f3, hpl⟩ := h.all
  have hw1 : IntKind.i64.wrap ((i : Int) + 1) = (i : Int) + 1 := by rw [IntKind.wrap_i64]; omega
  have K1 := hide (fun (V : World) (n : Value) (hk : KS Z p ta tn tc w nd xs [] NS i false V n nilL []) => hk.via (e0 := .returned (.int .i64 0)) fun _ hX => (spScalar E hX (z := 0) (j := i) (by omega) (by omega)).mono fun _ _ h => ⟨by rw [h.1, h0]; rfl, (MidP.start hX).below h.2⟩)
  have K2 := hide (fun (V : World) (n : Value) (hk : KS Z p ta tn tc w nd xs [] NS i false V n nilL []) => hk.via fun _ hX => hasNo E hX (by omega) (c := 8728) (by decide) (s := ⟨#[226, 136, 152]⟩) (by kernel_rfl) (by rw [h1]; decide))
  obtain ⟨x, hx⟩ : ∃ x, sgT ts (i) = x := ⟨_, rfl⟩
  have K3 := hide (fun (V : World) (n : Value) (hk : KS Z p ta tn tc w nd xs [] NS i false V n nilL []) => hk.via (e0 := .returned (.string x)) fun _ hX => (spSign E hX (z := 0) (j := i) (by omega) (by omega)).mono fun _ _ h => ⟨by rw [h.1, hx], (MidP.start hX).below h.2⟩)
  have hqx123 : (x.toList == [123]) = true := by rw [show ([123] : List UInt8) = (⟨#[123]⟩ : ByteArray).toList by kernel_rfl, ← hx, sg_is E.ok (i) (c := 123) (by decide) (by kernel_rfl)]; exact decide_eq_true (h1)
  have K4 := hide (fun (V : World) (n : Value) (hk : KS Z p ta tn tc w nd xs [] NS i false V n nilL []) => hk.read (hR) (by omega))
  have HXL := hide hxl
  clear h hxl hxm h0 h1 hx hR E
  go_enter Tryz.func146, Tryz.ntmps146
  go_wp2_with (first | (go_at_call 96; refine (unhide K1 _ _ (unhide HK)).mono ?_; clear K1; rintro e w5 ⟨rfl, hk, _⟩; clear HK; obtain ⟨p0, p1, p2, p3, f0, f1, f2, f3, hpl⟩ := hk.all; have HK := hide hk; clear hk) | (go_at_call 44; refine (unhide K2 _ _ (unhide HK)).mono ?_; clear K2; rintro e w5 ⟨rfl, hk, _⟩; clear HK; have HK := hide hk; clear hk) | (go_at_call 91; refine (unhide K3 _ _ (unhide HK)).mono ?_; clear K3; rintro e w5 ⟨rfl, hk, _⟩; clear HK; have HK := hide hk; clear hk) | (go_at_call 92; refine (unhide K4 _ _ (unhide HK)).mono ?_; clear K4; rintro e w5 ⟨z, nd5, ds, rfl, hk, _, hiz, hlz, htz⟩; clear HK; have HIz := hide hiz; have HLz := hide hlz; have HTz := hide htz; clear hiz hlz htz; have HK := hide hk; clear hk))
  go_ret
  have hxl := unhide HXL
  exact KS.gave (i := i) (unhide HK) rfl (unhide HIz) (by rw [List.length_append, hxl]; have := unhide HLz; omega) (fun hg => ⟨by have := (unhide HTz hg).1; rw [List.length_append, hxl]; omega, (unhide HTz hg).2⟩)


set_option maxRecDepth 20000 in
set_option maxHeartbeats 4000000 in
theorem fs_4 (E : SEnv Z ta tn ts) (h : SPS Z p ta tn tc false w i nd xs) (hi : i ≤ 4100) (hroom : xs.length + 4 * (5000 - i) ≤ 100000) (h0 : scalNo ((seenT ts).cl i) = 0) (h1 : (seenT ts).cl i = 4) :
    Calls Tryz.prog 146 #[.pointer (some ⟨p, 0, none⟩)] w (GaveS Z p ta tn tc w nd xs i true (i + 1) (leafS 17 ((seenT ts).sv i))) := by
  have HK := hide (KS.start h)
  have hxl : (xs.map NodeC.d).length = xs.length := List.length_map ..
  obtain ⟨NS, hNS⟩ : ∃ NS, xs.map NodeC.d = NS := ⟨_, rfl⟩
  rw [hNS] at HK hxl
  have hxm : NS.length ≤ 100000 := by omega
  obtain ⟨p0, p1, p2, p3, f0, f1, f2, f3, hpl⟩ := h.all
  have hlt : i < tn := by rw [← E.row.len]; exact seen_ends ts i (by rw [h1]; decide)
  obtain ⟨tb, off, y, rfl, hbl, hy, a0, a1, a2, a3⟩ := E.row.get hlt
  have hsv : (seenT ts).sv i = y.t := by show (tokA ts 0 i).t = _; rw [tokA_in hy 0]
  obtain ⟨yk, yn, yt, yp⟩ := y
  rw [hsv]
  have hne : tb ≠ p := Nat.ne_of_lt (Nat.lt_of_lt_of_le hbl h.hp)
  have HA2 : Hid (∀ V, Below Z.heap.size Z V → V.cell? ⟨tb, off + i * 4 + 2, none⟩ = some (.string yt)) := fun V hV => (hV.cell (p := ⟨tb, off + i * 4 + 2, none⟩) hbl).trans a2
  have hl2 : (i : Int) < (tn : Int) := by omega
  have hw2 : IntKind.i64.wrap ((i : Int) + 1 - 1) = (i : Int) := by rw [IntKind.wrap_i64]; omega
  have hw3 : IntKind.i64.wrap (i : Int) = (i : Int) := by rw [IntKind.wrap_i64]; omega
  have hl3 : i < tn := hlt
  have hw1 : IntKind.i64.wrap ((i : Int) + 1) = (i : Int) + 1 := by rw [IntKind.wrap_i64]; omega
  have K1 := hide (fun (V : World) (n : Value) (hk : KS Z p (some ⟨tb, off, none⟩) tn tc w nd xs [] NS i false V n nilL []) => hk.via (e0 := .returned (.int .i64 0)) fun _ hX => (spScalar E hX (z := 0) (j := i) (by omega) (by omega)).mono fun _ _ h => ⟨by rw [h.1, h0]; rfl, (MidP.start hX).below h.2⟩)
  have K2 := hide (fun (V : World) (n : Value) (hk : KS Z p (some ⟨tb, off, none⟩) tn tc w nd xs [] NS i false V n nilL []) => hk.via fun _ hX => hasNo E hX (by omega) (c := 8728) (by decide) (s := ⟨#[226, 136, 152]⟩) (by kernel_rfl) (by rw [h1]; decide))
  obtain ⟨x, hx⟩ : ∃ x, sgT ts (i) = x := ⟨_, rfl⟩
  have K3 := hide (fun (V : World) (n : Value) (hk : KS Z p (some ⟨tb, off, none⟩) tn tc w nd xs [] NS i false V n nilL []) => hk.via (e0 := .returned (.string x)) fun _ hX => (spSign E hX (z := 0) (j := i) (by omega) (by omega)).mono fun _ _ h => ⟨by rw [h.1, hx], (MidP.start hX).below h.2⟩)
  have hqx123 : (x.toList == [123]) = false := by rw [show ([123] : List UInt8) = (⟨#[123]⟩ : ByteArray).toList by kernel_rfl, ← hx, sg_is E.ok (i) (c := 123) (by decide) (by kernel_rfl)]; exact decide_eq_false (by rw [h1]; decide)
  have K4 := hide (fun (V : World) (n : Value) (hk : KS Z p (some ⟨tb, off, none⟩) tn tc w nd xs [] NS i false V n nilL []) => hk.via (e0 := .returned (.bool true)) fun _ hX => (spName E hX true (r := true) (decide_eq_true h1)).mono fun _ _ h => ⟨h.1, (MidP.start hX).below h.2⟩)
  have K5 := hide (fun (V : World) (n : Value) (hk : KS Z p (some ⟨tb, off, none⟩) tn tc w nd xs [] NS (i + 1) false V n nilL []) => hk.put 17 0 0 yt (by omega))
  have HXL := hide hxl
  clear h hxl hxm h0 h1 hx hy hsv hlt a0 a1 a2 a3 E
  go_enter Tryz.func146, Tryz.ntmps146
  go_wp2_with (first | (go_at_call 96; refine (unhide K1 _ _ (unhide HK)).mono ?_; clear K1; rintro e w5 ⟨rfl, hk, _⟩; clear HK; obtain ⟨p0, p1, p2, p3, f0, f1, f2, f3, hpl⟩ := hk.all; have HK := hide hk; clear hk) | (go_at_call 44; refine (unhide K2 _ _ (unhide HK)).mono ?_; clear K2; rintro e w5 ⟨rfl, hk, _⟩; clear HK; have HK := hide hk; clear hk) | (go_at_call 91; refine (unhide K3 _ _ (unhide HK)).mono ?_; clear K3; rintro e w5 ⟨rfl, hk, _⟩; clear HK; have HK := hide hk; clear hk) | (go_at_call 90; refine (unhide K4 _ _ (unhide HK)).mono ?_; clear K4; rintro e w5 ⟨rfl, hk, _⟩; clear HK; obtain ⟨p0, p1, p2, p3, f0, f1, f2, f3, hpl⟩ := hk.all; have ha2 := unhide HA2 _ hk.low; have hk := hk.step 1 ((i : Int) + 1) (by omega); have HK := hide hk; clear hk))
  go_region_with (first | (go_at_call 45; refine (unhide K5 _ _ ((unhide HK).below (Below.refl _ _).drew)).mono ?_; clear K5; rintro e w6 ⟨rfl, nd6, hk⟩; clear HK; have HK := hide hk; clear hk))
  all_goals go_wp2_with fail
  all_goals go_ret
  all_goals have hxl := unhide HXL
  all_goals exact leaf_gave (i := i) 17 0 0 yt [] hxl (unhide HK) (by omega) (by decide) (by decide) (by decide)


set_option maxRecDepth 20000 in
set_option maxHeartbeats 4000000 in
theorem fs_8711 (E : SEnv Z ta tn ts) (h : SPS Z p ta tn tc false w i nd xs) (hi : i ≤ 4100) (hroom : xs.length + 4 * (5000 - i) ≤ 100000) (h0 : scalNo ((seenT ts).cl i) = 0) (h1 : (seenT ts).cl i = 8711) :
    Calls Tryz.prog 146 #[.pointer (some ⟨p, 0, none⟩)] w (GaveS Z p ta tn tc w nd xs i true (i + 1) (leafN 18 0 0)) := by
  have HK := hide (KS.start h)
  have hxl : (xs.map NodeC.d).length = xs.length := List.length_map ..
  obtain ⟨NS, hNS⟩ : ∃ NS, xs.map NodeC.d = NS := ⟨_, rfl⟩
  rw [hNS] at HK hxl
  have hxm : NS.length ≤ 100000 := by omega
  obtain ⟨p0, p1, p2, p3, f0, f1, f2, f3, hpl⟩ := h.all
  have hw1 : IntKind.i64.wrap ((i : Int) + 1) = (i : Int) + 1 := by rw [IntKind.wrap_i64]; omega
  have K1 := hide (fun (V : World) (n : Value) (hk : KS Z p ta tn tc w nd xs [] NS i false V n nilL []) => hk.via (e0 := .returned (.int .i64 0)) fun _ hX => (spScalar E hX (z := 0) (j := i) (by omega) (by omega)).mono fun _ _ h => ⟨by rw [h.1, h0]; rfl, (MidP.start hX).below h.2⟩)
  have K2 := hide (fun (V : World) (n : Value) (hk : KS Z p ta tn tc w nd xs [] NS i false V n nilL []) => hk.via fun _ hX => hasNo E hX (by omega) (c := 8728) (by decide) (s := ⟨#[226, 136, 152]⟩) (by kernel_rfl) (by rw [h1]; decide))
  obtain ⟨x, hx⟩ : ∃ x, sgT ts (i) = x := ⟨_, rfl⟩
  have K3 := hide (fun (V : World) (n : Value) (hk : KS Z p ta tn tc w nd xs [] NS i false V n nilL []) => hk.via (e0 := .returned (.string x)) fun _ hX => (spSign E hX (z := 0) (j := i) (by omega) (by omega)).mono fun _ _ h => ⟨by rw [h.1, hx], (MidP.start hX).below h.2⟩)
  have hqx123 : (x.toList == [123]) = false := by rw [show ([123] : List UInt8) = (⟨#[123]⟩ : ByteArray).toList by kernel_rfl, ← hx, sg_is E.ok (i) (c := 123) (by decide) (by kernel_rfl)]; exact decide_eq_false (by rw [h1]; decide)
  have K4 := hide (fun (V : World) (n : Value) (hk : KS Z p ta tn tc w nd xs [] NS i false V n nilL []) => hk.via (e0 := .returned (.bool false)) fun _ hX => (spName E hX true (r := false) (decide_eq_false (by rw [h1]; decide))).mono fun _ _ h => ⟨h.1, (MidP.start hX).below h.2⟩)
  have K5 := hide (fun (V : World) (n : Value) (hk : KS Z p ta tn tc w nd xs [] NS i false V n nilL []) => hk.via fun _ hX => hasYes E hX (by omega) (c := 8711) (by decide) (s := ⟨#[226, 136, 135]⟩) (by kernel_rfl) (h1))
  have K6 := hide (fun (V : World) (n : Value) (hk : KS Z p ta tn tc w nd xs [] NS (i + 1) false V n nilL []) => hk.put 18 0 0 ⟨#[]⟩ (by omega))
  have HXL := hide hxl
  clear h hxl hxm h0 h1 hx E
  go_enter Tryz.func146, Tryz.ntmps146
  go_wp2_with (first | (go_at_call 96; refine (unhide K1 _ _ (unhide HK)).mono ?_; clear K1; rintro e w5 ⟨rfl, hk, _⟩; clear HK; obtain ⟨p0, p1, p2, p3, f0, f1, f2, f3, hpl⟩ := hk.all; have HK := hide hk; clear hk) | (go_at_call 44; refine (unhide K2 _ _ (unhide HK)).mono ?_; clear K2; rintro e w5 ⟨rfl, hk, _⟩; clear HK; have HK := hide hk; clear hk) | (go_at_call 91; refine (unhide K3 _ _ (unhide HK)).mono ?_; clear K3; rintro e w5 ⟨rfl, hk, _⟩; clear HK; have HK := hide hk; clear hk) | (go_at_call 90; refine (unhide K4 _ _ (unhide HK)).mono ?_; clear K4; rintro e w5 ⟨rfl, hk, _⟩; clear HK; have HK := hide hk; clear hk) | (go_at_call 44; refine (unhide K5 _ _ (unhide HK)).mono ?_; clear K5; rintro e w5 ⟨rfl, hk, _⟩; clear HK; have HK := hide hk; clear hk) | (go_at_call 45; refine (unhide K6 _ _ (unhide HK)).mono ?_; clear K6; rintro e w6 ⟨rfl, nd6, hk⟩; clear HK; have HK := hide hk; clear hk))
  go_ret
  have hxl := unhide HXL
  exact leaf_gave (i := i) 18 0 0 ⟨#[]⟩ [] hxl (unhide HK) (by omega) (by decide) (by decide) (by decide)


set_option maxRecDepth 20000 in
set_option maxHeartbeats 4000000 in
theorem fs_prim (E : SEnv Z ta tn ts) (h : SPS Z p ta tn tc false w i nd xs) (hi : i ≤ 4100) (hroom : xs.length + 4 * (5000 - i) ≤ 100000) (h0 : scalNo ((seenT ts).cl i) = 0) (h1 : (seenT ts).cl i ≠ 8728) (h2 : (seenT ts).cl i ≠ 123) (h3 : (seenT ts).cl i ≠ 4) (h4 : (seenT ts).cl i ≠ 8711) (h5 : 0 < primNo ((seenT ts).cl i)) :
    Calls Tryz.prog 146 #[.pointer (some ⟨p, 0, none⟩)] w (GaveS Z p ta tn tc w nd xs i true (i + 1) (leafN 11 (primNo ((seenT ts).cl i) : Nat) 0)) := by
  have HK := hide (KS.start h)
  have hxl : (xs.map NodeC.d).length = xs.length := List.length_map ..
  obtain ⟨NS, hNS⟩ : ∃ NS, xs.map NodeC.d = NS := ⟨_, rfl⟩
  rw [hNS] at HK hxl
  have hxm : NS.length ≤ 100000 := by omega
  obtain ⟨p0, p1, p2, p3, f0, f1, f2, f3, hpl⟩ := h.all
  obtain ⟨N, hN⟩ : ∃ N, primNo ((seenT ts).cl i) = N := ⟨_, rfl⟩
  rw [hN] at h5
  have hd0 : (((N : Nat) : Int) == 0) = false := by rw [beq_eq_false_iff_ne]; omega
  have hw1 : IntKind.i64.wrap ((i : Int) + 1) = (i : Int) + 1 := by rw [IntKind.wrap_i64]; omega
  have K1 := hide (fun (V : World) (n : Value) (hk : KS Z p ta tn tc w nd xs [] NS i false V n nilL []) => hk.via (e0 := .returned (.int .i64 0)) fun _ hX => (spScalar E hX (z := 0) (j := i) (by omega) (by omega)).mono fun _ _ h => ⟨by rw [h.1, h0]; rfl, (MidP.start hX).below h.2⟩)
  have K2 := hide (fun (V : World) (n : Value) (hk : KS Z p ta tn tc w nd xs [] NS i false V n nilL []) => hk.via fun _ hX => hasNo E hX (by omega) (c := 8728) (by decide) (s := ⟨#[226, 136, 152]⟩) (by kernel_rfl) (h1))
  obtain ⟨x, hx⟩ : ∃ x, sgT ts (i) = x := ⟨_, rfl⟩
  have K3 := hide (fun (V : World) (n : Value) (hk : KS Z p ta tn tc w nd xs [] NS i false V n nilL []) => hk.via (e0 := .returned (.string x)) fun _ hX => (spSign E hX (z := 0) (j := i) (by omega) (by omega)).mono fun _ _ h => ⟨by rw [h.1, hx], (MidP.start hX).below h.2⟩)
  have hqx123 : (x.toList == [123]) = false := by rw [show ([123] : List UInt8) = (⟨#[123]⟩ : ByteArray).toList by kernel_rfl, ← hx, sg_is E.ok (i) (c := 123) (by decide) (by kernel_rfl)]; exact decide_eq_false (h2)
  have K4 := hide (fun (V : World) (n : Value) (hk : KS Z p ta tn tc w nd xs [] NS i false V n nilL []) => hk.via (e0 := .returned (.bool false)) fun _ hX => (spName E hX true (r := false) (decide_eq_false h3)).mono fun _ _ h => ⟨h.1, (MidP.start hX).below h.2⟩)
  have K5 := hide (fun (V : World) (n : Value) (hk : KS Z p ta tn tc w nd xs [] NS i false V n nilL []) => hk.via fun _ hX => hasNo E hX (by omega) (c := 8711) (by decide) (s := ⟨#[226, 136, 135]⟩) (by kernel_rfl) (h4))
  obtain ⟨y, hy⟩ : ∃ x, sgT ts (i) = x := ⟨_, rfl⟩
  have K6 := hide (fun (V : World) (n : Value) (hk : KS Z p ta tn tc w nd xs [] NS i false V n nilL []) => hk.via (e0 := .returned (.string y)) fun _ hX => (spSign E hX (z := 0) (j := i) (by omega) (by omega)).mono fun _ _ h => ⟨by rw [h.1, hy], (MidP.start hX).below h.2⟩)
  have K7 := hide (fun (V : World) (n : Value) (hk : KS Z p ta tn tc w nd xs [] NS i false V n nilL []) => hk.via (e0 := .returned (.int .i64 (N : Nat))) fun _ hX => (l2Prim_any y V).mono fun _ _ h => ⟨by rw [h.1, ← hy, sg_prim E.ok, hN], (MidP.start hX).below h.2⟩)
  have K8 := hide (fun (V : World) (n : Value) (hk : KS Z p ta tn tc w nd xs [] NS (i + 1) false V n nilL []) => hk.put 11 (N : Nat) 0 ⟨#[]⟩ (by omega))
  have HXL := hide hxl
  clear h hxl hxm h0 h1 h2 h3 h4 hx hy E
  go_enter Tryz.func146, Tryz.ntmps146
  go_wp2_with (first | (go_at_call 96; refine (unhide K1 _ _ (unhide HK)).mono ?_; clear K1; rintro e w5 ⟨rfl, hk, _⟩; clear HK; obtain ⟨p0, p1, p2, p3, f0, f1, f2, f3, hpl⟩ := hk.all; have HK := hide hk; clear hk) | (go_at_call 44; refine (unhide K2 _ _ (unhide HK)).mono ?_; clear K2; rintro e w5 ⟨rfl, hk, _⟩; clear HK; have HK := hide hk; clear hk) | (go_at_call 91; refine (unhide K3 _ _ (unhide HK)).mono ?_; clear K3; rintro e w5 ⟨rfl, hk, _⟩; clear HK; have HK := hide hk; clear hk) | (go_at_call 90; refine (unhide K4 _ _ (unhide HK)).mono ?_; clear K4; rintro e w5 ⟨rfl, hk, _⟩; clear HK; have HK := hide hk; clear hk) | (go_at_call 44; refine (unhide K5 _ _ (unhide HK)).mono ?_; clear K5; rintro e w5 ⟨rfl, hk, _⟩; clear HK; have HK := hide hk; clear hk) | (go_at_call 91; refine (unhide K6 _ _ (unhide HK)).mono ?_; clear K6; rintro e w5 ⟨rfl, hk, _⟩; clear HK; have HK := hide hk; clear hk) | (go_at_call 149; refine (unhide K7 _ _ (unhide HK)).mono ?_; clear K7; rintro e w5 ⟨rfl, hk, _⟩; clear HK; obtain ⟨p0, p1, p2, p3, f0, f1, f2, f3, hpl⟩ := hk.all; have hk := hk.step 1 ((i : Int) + 1) (by omega); have HK := hide hk; clear hk) | (go_at_call 45; refine (unhide K8 _ _ (unhide HK)).mono ?_; clear K8; rintro e w6 ⟨rfl, nd6, hk⟩; clear HK; have HK := hide hk; clear hk))
  go_ret
  have hxl := unhide HXL
  rw [hN]
  exact leaf_gave (i := i) 11 (N : Nat) 0 ⟨#[]⟩ [] hxl (unhide HK) (by omega) (by decide) (by decide) (by decide)


set_option maxRecDepth 20000 in
set_option maxHeartbeats 4000000 in
theorem fs_no (E : SEnv Z ta tn ts) (h : SPS Z p ta tn tc false w i nd xs) (hi : i ≤ 4100) (hroom : xs.length + 4 * (5000 - i) ≤ 100000) (h0 : scalNo ((seenT ts).cl i) = 0) (h1 : (seenT ts).cl i ≠ 8728) (h2 : (seenT ts).cl i ≠ 123) (h3 : (seenT ts).cl i ≠ 4) (h4 : (seenT ts).cl i ≠ 8711) (h5 : primNo ((seenT ts).cl i) = 0) :
    Calls Tryz.prog 146 #[.pointer (some ⟨p, 0, none⟩)] w (GaveS Z p ta tn tc w nd xs i false (i) ([])) := by
  have HK := hide (KS.start h)
  have hxl : (xs.map NodeC.d).length = xs.length := List.length_map ..
  obtain ⟨NS, hNS⟩ : ∃ NS, xs.map NodeC.d = NS := ⟨_, rfl⟩
  rw [hNS] at HK hxl
  have hxm : NS.length ≤ 100000 := by omega
  obtain ⟨p0, p1, p2, p3, f0, f1, f2, f3, hpl⟩ := h.all
  have hw1 : IntKind.i64.wrap ((i : Int) + 1) = (i : Int) + 1 := by rw [IntKind.wrap_i64]; omega
  have K1 := hide (fun (V : World) (n : Value) (hk : KS Z p ta tn tc w nd xs [] NS i false V n nilL []) => hk.via (e0 := .returned (.int .i64 0)) fun _ hX => (spScalar E hX (z := 0) (j := i) (by omega) (by omega)).mono fun _ _ h => ⟨by rw [h.1, h0]; rfl, (MidP.start hX).below h.2⟩)
  have K2 := hide (fun (V : World) (n : Value) (hk : KS Z p ta tn tc w nd xs [] NS i false V n nilL []) => hk.via fun _ hX => hasNo E hX (by omega) (c := 8728) (by decide) (s := ⟨#[226, 136, 152]⟩) (by kernel_rfl) (h1))
  obtain ⟨x, hx⟩ : ∃ x, sgT ts (i) = x := ⟨_, rfl⟩
  have K3 := hide (fun (V : World) (n : Value) (hk : KS Z p ta tn tc w nd xs [] NS i false V n nilL []) => hk.via (e0 := .returned (.string x)) fun _ hX => (spSign E hX (z := 0) (j := i) (by omega) (by omega)).mono fun _ _ h => ⟨by rw [h.1, hx], (MidP.start hX).below h.2⟩)
  have hqx123 : (x.toList == [123]) = false := by rw [show ([123] : List UInt8) = (⟨#[123]⟩ : ByteArray).toList by kernel_rfl, ← hx, sg_is E.ok (i) (c := 123) (by decide) (by kernel_rfl)]; exact decide_eq_false (h2)
  have K4 := hide (fun (V : World) (n : Value) (hk : KS Z p ta tn tc w nd xs [] NS i false V n nilL []) => hk.via (e0 := .returned (.bool false)) fun _ hX => (spName E hX true (r := false) (decide_eq_false h3)).mono fun _ _ h => ⟨h.1, (MidP.start hX).below h.2⟩)
  have K5 := hide (fun (V : World) (n : Value) (hk : KS Z p ta tn tc w nd xs [] NS i false V n nilL []) => hk.via fun _ hX => hasNo E hX (by omega) (c := 8711) (by decide) (s := ⟨#[226, 136, 135]⟩) (by kernel_rfl) (h4))
  obtain ⟨y, hy⟩ : ∃ x, sgT ts (i) = x := ⟨_, rfl⟩
  have K6 := hide (fun (V : World) (n : Value) (hk : KS Z p ta tn tc w nd xs [] NS i false V n nilL []) => hk.via (e0 := .returned (.string y)) fun _ hX => (spSign E hX (z := 0) (j := i) (by omega) (by omega)).mono fun _ _ h => ⟨by rw [h.1, hy], (MidP.start hX).below h.2⟩)
  have K7 := hide (fun (V : World) (n : Value) (hk : KS Z p ta tn tc w nd xs [] NS i false V n nilL []) => hk.via (e0 := .returned (.int .i64 0)) fun _ hX => (l2Prim_any y V).mono fun _ _ h => ⟨by rw [h.1, ← hy, sg_prim E.ok, h5]; rfl, (MidP.start hX).below h.2⟩)
  have HXL := hide hxl
  clear h hxl hxm h0 h1 h2 h3 h4 hx hy E
  go_enter Tryz.func146, Tryz.ntmps146
  go_wp2_with (first | (go_at_call 96; refine (unhide K1 _ _ (unhide HK)).mono ?_; clear K1; rintro e w5 ⟨rfl, hk, _⟩; clear HK; obtain ⟨p0, p1, p2, p3, f0, f1, f2, f3, hpl⟩ := hk.all; have HK := hide hk; clear hk) | (go_at_call 44; refine (unhide K2 _ _ (unhide HK)).mono ?_; clear K2; rintro e w5 ⟨rfl, hk, _⟩; clear HK; have HK := hide hk; clear hk) | (go_at_call 91; refine (unhide K3 _ _ (unhide HK)).mono ?_; clear K3; rintro e w5 ⟨rfl, hk, _⟩; clear HK; have HK := hide hk; clear hk) | (go_at_call 90; refine (unhide K4 _ _ (unhide HK)).mono ?_; clear K4; rintro e w5 ⟨rfl, hk, _⟩; clear HK; have HK := hide hk; clear hk) | (go_at_call 44; refine (unhide K5 _ _ (unhide HK)).mono ?_; clear K5; rintro e w5 ⟨rfl, hk, _⟩; clear HK; have HK := hide hk; clear hk) | (go_at_call 91; refine (unhide K6 _ _ (unhide HK)).mono ?_; clear K6; rintro e w5 ⟨rfl, hk, _⟩; clear HK; have HK := hide hk; clear hk) | (go_at_call 149; refine (unhide K7 _ _ (unhide HK)).mono ?_; clear K7; rintro e w5 ⟨rfl, hk, _⟩; clear HK; obtain ⟨p0, p1, p2, p3, f0, f1, f2, f3, hpl⟩ := hk.all; have hk := hk.bad; have HK := hide hk; clear hk))
  go_ret
  have hxl := unhide HXL
  exact bad_gave (by omega) (unhide HK) (by omega) _


end
end Go.Proofs.YtmgjicgojlkpcaaGreatDoor
