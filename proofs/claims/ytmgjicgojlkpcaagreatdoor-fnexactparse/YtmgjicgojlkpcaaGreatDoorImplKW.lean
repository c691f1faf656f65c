import Derived.Test.YtmgjicgojlkpcaaGreatDoorImplKL
namespace Go.Proofs.YtmgjicgojlkpcaaGreatDoor
open Go.RowKit

section
variable {Z w w0 w1 : World} {p i j : Nat} {nd nd0 nd1 v : Value} {zs : List Int} {xs ys : List NodeC} {bx : List Nat} {ls : List (List NodeD)} {ta : Option Addr} {tn tc bytes : Nat} {ts : List Tok}


set_option maxRecDepth 20000 in
set_option maxHeartbeats 4000000 in
theorem eib_ok (E : IEnv Z ta tn ts bytes) (h : IPS Z p ta tn tc bytes w i nd xs) (hi : i ≤ 4100) (hroom : xs.length + 4 * (5000 - i) ≤ 100000) {q : Nat} {l : List (List NodeD)} (h40 : (seenT ts).cl i = 40) (hq : q ≤ 4100) (hX : ReadI Z p ta tn tc ts bytes 166 #[.pointer (some ⟨p, 0, none⟩)] (i + 1) (true, q, l)) (h41 : (seenT ts).cl q = 41) :
    Calls Tryz.prog 219 #[.pointer (some ⟨p, 0, none⟩)] w (GaveI Z p ta tn tc ts bytes w nd xs (true, q + 1, l)) := by
  have HK := hide (KT.start h)
  have K0 := hide (fun (V : World) (n : Value) (hk : KT Z p ta tn tc bytes w nd xs [] [] i V n nilL []) => hk.via fun _ hX => needYesM E (MidP.start hX) (by omega) (c := 40) (by decide) (s := ⟨#[40]⟩) (by kernel_rfl) h40)
  have K1 := hide (fun (V : World) (n : Value) (hk : KT Z p ta tn tc bytes w nd xs [] [] (i + 1) V n nilL []) => hk.read hX (by first | assumption | (show _ + 0 + _ ≤ _; omega)))
  have K2 := hide (fun (V : World) (n : Value) (hk : KT Z p ta tn tc bytes w nd xs [] l q V n nilL []) => hk.via fun _ hX => needYesM E (MidP.start hX) (by omega) (c := 41) (by decide) (s := ⟨#[41]⟩) (by kernel_rfl) h41)
  clear h hX h40 h41
  go_enter Tryz.func219, Tryz.ntmps219
  go_wp2_with (first | (go_at_call 195; refine (unhide K0 _ _ (unhide HK)).mono ?_; rintro e w5 ⟨rfl, hk, _⟩; clear HK K0; have HK := hide hk; clear hk) | (go_at_call 166; refine (unhide K1 _ _ (unhide HK)).mono ?_; rintro e w5 ⟨z1, nd', rfl, hz, hk, _⟩; clear HK K1; have HK := hide hk; have HZ1 := hide hz; clear hk hz) | (go_at_call 195; refine (unhide K2 _ _ (unhide HK)).mono ?_; rintro e w5 ⟨rfl, hk, _⟩; clear HK K2; have HK := hide hk; clear hk))
  go_ret2
  exact (unhide HK).gave rfl (unhide HZ1)


set_option maxRecDepth 20000 in
set_option maxHeartbeats 4000000 in
theorem eib_no (E : IEnv Z ta tn ts bytes) (h : IPS Z p ta tn tc bytes w i nd xs) (hi : i ≤ 4100) (hroom : xs.length + 4 * (5000 - i) ≤ 100000) {q : Nat} {l : List (List NodeD)} (h40 : (seenT ts).cl i = 40) (hq : q ≤ 4100) (hX : ReadI Z p ta tn tc ts bytes 166 #[.pointer (some ⟨p, 0, none⟩)] (i + 1) (true, q, l)) (h41 : (seenT ts).cl q ≠ 41) :
    Calls Tryz.prog 219 #[.pointer (some ⟨p, 0, none⟩)] w (GaveI Z p ta tn tc ts bytes w nd xs (false, q, [])) := by
  have HK := hide (KT.start h)
  have K0 := hide (fun (V : World) (n : Value) (hk : KT Z p ta tn tc bytes w nd xs [] [] i V n nilL []) => hk.via fun _ hX => needYesM E (MidP.start hX) (by omega) (c := 40) (by decide) (s := ⟨#[40]⟩) (by kernel_rfl) h40)
  have K1 := hide (fun (V : World) (n : Value) (hk : KT Z p ta tn tc bytes w nd xs [] [] (i + 1) V n nilL []) => hk.read hX (by first | assumption | (show _ + 0 + _ ≤ _; omega)))
  have K2 := hide (fun (V : World) (n : Value) (hk : KT Z p ta tn tc bytes w nd xs [] l q V n nilL []) => hk.no (e0 := fun b => .returned (faultV b)) fun _ hX => needNoM E (MidP.start hX) (by omega) (c := 41) (by decide) (s := ⟨#[41]⟩) (by kernel_rfl) h41)
  clear h hX h40 h41
  go_enter Tryz.func219, Tryz.ntmps219
  go_wp2_with (first | (go_at_call 195; refine (unhide K0 _ _ (unhide HK)).mono ?_; rintro e w5 ⟨rfl, hk, _⟩; clear HK K0; have HK := hide hk; clear hk) | (go_at_call 166; refine (unhide K1 _ _ (unhide HK)).mono ?_; rintro e w5 ⟨z1, nd', rfl, hz, hk, _⟩; clear HK K1; have HK := hide hk; have HZ1 := hide hz; clear hk hz) | (go_at_call 195; refine (unhide K2 _ _ (unhide HK)).mono ?_; rintro e w5 ⟨b, rfl, hf, hb⟩; have HF := hide (And.intro hf hb); clear hf hb; delta faultV))
  go_ret2
  exact gave_fault z1 rfl (unhide HF).1 (unhide HF).2


set_option maxRecDepth 20000 in
set_option maxHeartbeats 4000000 in
theorem eib_bad (E : IEnv Z ta tn ts bytes) (h : IPS Z p ta tn tc bytes w i nd xs) (hi : i ≤ 4100) (hroom : xs.length + 4 * (5000 - i) ≤ 100000) {q : Nat} {l : List (List NodeD)} (h40 : (seenT ts).cl i = 40) (hX : ReadI Z p ta tn tc ts bytes 166 #[.pointer (some ⟨p, 0, none⟩)] (i + 1) (false, q, l)) :
    Calls Tryz.prog 219 #[.pointer (some ⟨p, 0, none⟩)] w (GaveI Z p ta tn tc ts bytes w nd xs (false, q, [])) := by
  have HK := hide (KT.start h)
  have K0 := hide (fun (V : World) (n : Value) (hk : KT Z p ta tn tc bytes w nd xs [] [] i V n nilL []) => hk.via fun _ hX => needYesM E (MidP.start hX) (by omega) (c := 40) (by decide) (s := ⟨#[40]⟩) (by kernel_rfl) h40)
  have K1 := hide (fun (V : World) (n : Value) (hk : KT Z p ta tn tc bytes w nd xs [] [] (i + 1) V n nilL []) => hk.readNo hX (by first | assumption | (show _ + 0 + _ ≤ _; omega)))
  clear h hX h40
  go_enter Tryz.func219, Tryz.ntmps219
  go_wp2_with (first | (go_at_call 195; refine (unhide K0 _ _ (unhide HK)).mono ?_; rintro e w5 ⟨rfl, hk, _⟩; clear HK K0; have HK := hide hk; clear hk) | (go_at_call 166; refine (unhide K1 _ _ (unhide HK)).mono ?_; rintro e w5 ⟨b, z, rfl, hf, hb⟩; have HF := hide (And.intro hf hb); clear hf hb; delta faultV))
  go_ret2
  exact gave_fault 0 rfl (unhide HF).1 (unhide HF).2


set_option maxRecDepth 20000 in
set_option maxHeartbeats 4000000 in
theorem part_59 (E : IEnv Z ta tn ts bytes) (h : IPS Z p ta tn tc bytes w i nd xs) (hi : i ≤ 4100) (hroom : xs.length + 4 * (5000 - i) ≤ 100000) (h1 : (seenT ts).cl i = 59) :
    Calls Tryz.prog 217 #[.pointer (some ⟨p, 0, none⟩)] w (GaveI Z p ta tn tc ts bytes w nd xs (true, i, [treeN 8 0 0 ⟨#[]⟩ [] []])) := by
  have HK := hide (KT.start h)
  have K0 := hide (fun (V : World) (n : Value) (hk : KT Z p ta tn tc bytes w nd xs [] [] i V n nilL []) => hk.via fun _ hX => isYesM E (MidP.start hX) (by omega) (c := 59) (by decide) (s := ⟨#[59]⟩) (by kernel_rfl) h1)
  clear h h1
  go_enter Tryz.func217, Tryz.ntmps217
  go_wp2_with (first | (go_at_call 191; refine (unhide K0 _ _ (unhide HK)).mono ?_; rintro e w5 ⟨rfl, hk, _⟩; clear HK K0; have HK := hide hk; clear hk) | (go_at_call 104; refine (KT.put (s2 := none) (n2 := 0) (c2 := 0) (unhide HK) 8 0 0 ⟨#[]⟩ (by show _ + 0 ≤ _; omega)).mono ?_; rintro e w5 ⟨rfl, nd', hk⟩; clear HK; have HK := hide hk; clear hk))
  go_ret2
  refine (unhide HK).gave rfl ?_
  rw [row_one, tree_len]
  have e0 : (rowT ([] : List (List NodeD))).length = 0 := rfl
  omega


set_option maxRecDepth 20000 in
set_option maxHeartbeats 4000000 in
theorem part_93 (E : IEnv Z ta tn ts bytes) (h : IPS Z p ta tn tc bytes w i nd xs) (hi : i ≤ 4100) (hroom : xs.length + 4 * (5000 - i) ≤ 100000) (h1 : (seenT ts).cl i ≠ 59) (h2 : (seenT ts).cl i = 93) :
    Calls Tryz.prog 217 #[.pointer (some ⟨p, 0, none⟩)] w (GaveI Z p ta tn tc ts bytes w nd xs (true, i, [treeN 8 0 0 ⟨#[]⟩ [] []])) := by
  have HK := hide (KT.start h)
  have K0 := hide (fun (V : World) (n : Value) (hk : KT Z p ta tn tc bytes w nd xs [] [] i V n nilL []) => hk.via fun _ hX => isNoM E (MidP.start hX) (by omega) (c := 59) (by decide) (s := ⟨#[59]⟩) (by kernel_rfl) h1)
  have K1 := hide (fun (V : World) (n : Value) (hk : KT Z p ta tn tc bytes w nd xs [] [] i V n nilL []) => hk.via fun _ hX => isYesM E (MidP.start hX) (by omega) (c := 93) (by decide) (s := ⟨#[93]⟩) (by kernel_rfl) h2)
  clear h h1 h2
  go_enter Tryz.func217, Tryz.ntmps217
  go_wp2_with (first | (go_at_call 191; refine (unhide K0 _ _ (unhide HK)).mono ?_; rintro e w5 ⟨rfl, hk, _⟩; clear HK K0; have HK := hide hk; clear hk) | (go_at_call 191; refine (unhide K1 _ _ (unhide HK)).mono ?_; rintro e w5 ⟨rfl, hk, _⟩; clear HK K1; have HK := hide hk; clear hk) | (go_at_call 104; refine (KT.put (s2 := none) (n2 := 0) (c2 := 0) (unhide HK) 8 0 0 ⟨#[]⟩ (by show _ + 0 ≤ _; omega)).mono ?_; rintro e w5 ⟨rfl, nd', hk⟩; clear HK; have HK := hide hk; clear hk))
  go_ret2
  refine (unhide HK).gave rfl ?_
  rw [row_one, tree_len]
  have e0 : (rowT ([] : List (List NodeD))).length = 0 := rfl
  omega


set_option maxRecDepth 20000 in
set_option maxHeartbeats 4000000 in
theorem part_ex (E : IEnv Z ta tn ts bytes) (h : IPS Z p ta tn tc bytes w i nd xs) (hi : i ≤ 4100) (hroom : xs.length + 4 * (5000 - i) ≤ 100000) (h1 : (seenT ts).cl i ≠ 59) (h2 : (seenT ts).cl i ≠ 93) {r : Res} (hX : ReadI Z p ta tn tc ts bytes 166 #[.pointer (some ⟨p, 0, none⟩)] i r) :
    Calls Tryz.prog 217 #[.pointer (some ⟨p, 0, none⟩)] w (GaveI Z p ta tn tc ts bytes w nd xs r) := by
  have HK := hide (KT.start h)
  have K0 := hide (fun (V : World) (n : Value) (hk : KT Z p ta tn tc bytes w nd xs [] [] i V n nilL []) => hk.via fun _ hX => isNoM E (MidP.start hX) (by omega) (c := 59) (by decide) (s := ⟨#[59]⟩) (by kernel_rfl) h1)
  have K1 := hide (fun (V : World) (n : Value) (hk : KT Z p ta tn tc bytes w nd xs [] [] i V n nilL []) => hk.via fun _ hX => isNoM E (MidP.start hX) (by omega) (c := 93) (by decide) (s := ⟨#[93]⟩) (by kernel_rfl) h2)
  have K2 := hide (fun (V : World) (n : Value) (hk : KT Z p ta tn tc bytes w nd xs [] [] i V n nilL []) => KT.tailR hX hk (by first | assumption | (show _ + 0 + _ ≤ _; omega)))
  clear h h1 h2 hX
  go_enter Tryz.func217, Tryz.ntmps217
  go_wp2_with (first | (go_at_call 191; refine (unhide K0 _ _ (unhide HK)).mono ?_; rintro e w5 ⟨rfl, hk, _⟩; clear HK K0; have HK := hide hk; clear hk) | (go_at_call 191; refine (unhide K1 _ _ (unhide HK)).mono ?_; rintro e w5 ⟨rfl, hk, _⟩; clear HK K1; have HK := hide hk; clear hk) | (go_at_call 166; refine (unhide K2 _ _ (unhide HK)).mono ?_; rintro e w5 ⟨z, v, rfl, hg⟩; have HF := hide hg; clear hg))
  go_ret2
  exact unhide HF


set_option maxRecDepth 20000 in
set_option maxHeartbeats 4000000 in
theorem expr_fbad (E : IEnv Z ta tn ts bytes) (h : IPS Z p ta tn tc bytes w i nd xs) (hi : i ≤ 4100) (hroom : xs.length + 4 * (5000 - i) ≤ 100000) (hf : fnC ((seenT ts).cl i) = true) {q : Nat} {l : List (List NodeD)} (hX : ReadI Z p ta tn tc ts bytes 199 #[.pointer (some ⟨p, 0, none⟩)] i (false, q, l)) :
    Calls Tryz.prog 166 #[.pointer (some ⟨p, 0, none⟩)] w (GaveI Z p ta tn tc ts bytes w nd xs (false, q, [])) := by
  have HK := hide (KT.start h)
  have K0 := hide (fun (V : World) (n : Value) (hk : KT Z p ta tn tc bytes w nd xs [] [] i V n nilL []) => hk.via (e0 := .returned (.bool true)) fun _ hX => (fnAheadP E hX (by omega)).mono fun _ _ h => ⟨by rw [h.1, hf], (MidP.start hX).below h.2⟩)
  have K1 := hide (fun (V : World) (n : Value) (hk : KT Z p ta tn tc bytes w nd xs [] [] i V n nilL []) => hk.readNo hX (by first | assumption | (show _ + 0 + _ ≤ _; omega)))
  clear h hf hX
  go_enter Tryz.func166, Tryz.ntmps166
  go_wp2_with (first | (go_at_call 198; refine (unhide K0 _ _ (unhide HK)).mono ?_; rintro e w5 ⟨rfl, hk, _⟩; clear HK K0; have HK := hide hk; clear hk) | (go_at_call 199; refine (unhide K1 _ _ (unhide HK)).mono ?_; rintro e w5 ⟨b, z, rfl, hf, hb⟩; have HF := hide (And.intro hf hb); clear hf hb; delta faultV))
  go_ret2
  exact gave_fault 0 rfl (unhide HF).1 (unhide HF).2


set_option maxRecDepth 20000 in
set_option maxHeartbeats 4000000 in
theorem expr_abad (E : IEnv Z ta tn ts bytes) (h : IPS Z p ta tn tc bytes w i nd xs) (hi : i ≤ 4100) (hroom : xs.length + 4 * (5000 - i) ≤ 100000) (hf : fnC ((seenT ts).cl i) = false) {q : Nat} {l : List (List NodeD)} (hX : ReadI Z p ta tn tc ts bytes 196 #[.pointer (some ⟨p, 0, none⟩)] i (false, q, l)) :
    Calls Tryz.prog 166 #[.pointer (some ⟨p, 0, none⟩)] w (GaveI Z p ta tn tc ts bytes w nd xs (false, q, [])) := by
  have HK := hide (KT.start h)
  have K0 := hide (fun (V : World) (n : Value) (hk : KT Z p ta tn tc bytes w nd xs [] [] i V n nilL []) => hk.via (e0 := .returned (.bool false)) fun _ hX => (fnAheadP E hX (by omega)).mono fun _ _ h => ⟨by rw [h.1, hf], (MidP.start hX).below h.2⟩)
  have K1 := hide (fun (V : World) (n : Value) (hk : KT Z p ta tn tc bytes w nd xs [] [] i V n nilL []) => hk.readNo hX (by first | assumption | (show _ + 0 + _ ≤ _; omega)))
  clear h hf hX
  go_enter Tryz.func166, Tryz.ntmps166
  go_wp2_with (first | (go_at_call 198; refine (unhide K0 _ _ (unhide HK)).mono ?_; rintro e w5 ⟨rfl, hk, _⟩; clear HK K0; have HK := hide hk; clear hk) | (go_at_call 196; refine (unhide K1 _ _ (unhide HK)).mono ?_; rintro e w5 ⟨b, z, rfl, hf, hb⟩; have HF := hide (And.intro hf hb); clear hf hb; delta faultV))
  go_ret2
  exact gave_fault 0 rfl (unhide HF).1 (unhide HF).2


set_option maxRecDepth 20000 in
set_option maxHeartbeats 4000000 in
theorem expr_from (E : IEnv Z ta tn ts bytes) (h : IPS Z p ta tn tc bytes w i nd xs) (hi : i ≤ 4100) (hroom : xs.length + 4 * (5000 - i) ≤ 100000) (hf : fnC ((seenT ts).cl i) = false) {q : Nat} {t : List NodeD} (hX : ReadI Z p ta tn tc ts bytes 196 #[.pointer (some ⟨p, 0, none⟩)] i (true, q, [t])) {r : Res} (hY : FromI Z p ta tn tc ts bytes q t r) (hq : xs.length + (rowT [t]).length + 4 * (5000 - q) ≤ 100000) :
    Calls Tryz.prog 166 #[.pointer (some ⟨p, 0, none⟩)] w (GaveI Z p ta tn tc ts bytes w nd xs r) := by
  have HK := hide (KT.start h)
  have K0 := hide (fun (V : World) (n : Value) (hk : KT Z p ta tn tc bytes w nd xs [] [] i V n nilL []) => hk.via (e0 := .returned (.bool false)) fun _ hX => (fnAheadP E hX (by omega)).mono fun _ _ h => ⟨by rw [h.1, hf], (MidP.start hX).below h.2⟩)
  have K1 := hide (fun (V : World) (n : Value) (hk : KT Z p ta tn tc bytes w nd xs [] [] i V n nilL []) => hk.read hX (by first | assumption | (show _ + 0 + _ ≤ _; omega)))
  have K2 := hide (fun (V : World) (n : Value) (hk : KT Z p ta tn tc bytes w nd xs [] [t] q V n nilL []) => (hY _ _ _ _ _ hk hq).mono fun _ _ h => h.tup)
  clear h hf hX
  go_enter Tryz.func166, Tryz.ntmps166
  go_wp2_with (first | (go_at_call 198; refine (unhide K0 _ _ (unhide HK)).mono ?_; rintro e w5 ⟨rfl, hk, _⟩; clear HK K0; have HK := hide hk; clear hk) | (go_at_call 196; refine (unhide K1 _ _ (unhide HK)).mono ?_; rintro e w5 ⟨z1, nd', rfl, hz, hk, _⟩; clear HK K1; have HK := hide hk; have HZ1 := hide hz; clear hk hz) | (go_at_call 197; rw [unhide HZ1]; refine (unhide K2 _ _ (unhide HK)).mono ?_; rintro e w5 ⟨z, v, rfl, hg⟩; have HF := hide hg; clear hg))
  go_ret2
  exact unhide HF


set_option maxRecDepth 20000 in
set_option maxHeartbeats 4000000 in
theorem expr_ok (E : IEnv Z ta tn ts bytes) (h : IPS Z p ta tn tc bytes w i nd xs) (hi : i ≤ 4100) (hroom : xs.length + 4 * (5000 - i) ≤ 100000) (hf : fnC ((seenT ts).cl i) = true) {q : Nat} {t : List NodeD} (hX : ReadI Z p ta tn tc ts bytes 199 #[.pointer (some ⟨p, 0, none⟩)] i (true, q, [t])) (hq : xs.length + (rowT [t]).length + 4 * (5000 - q) ≤ 100000) {q2 : Nat} {t2 : List NodeD} (hY : ReadI Z p ta tn tc ts bytes 166 #[.pointer (some ⟨p, 0, none⟩)] q (true, q2, [t2])) (hq2 : xs.length + (rowT ([t] ++ [t2])).length ≤ 100000) :
    Calls Tryz.prog 166 #[.pointer (some ⟨p, 0, none⟩)] w (GaveI Z p ta tn tc ts bytes w nd xs (true, q2, [treeN 9 0 0 ⟨#[]⟩ [] [t, t2]])) := by
  have HK := hide (KT.start h)
  have K0 := hide (fun (V : World) (n : Value) (hk : KT Z p ta tn tc bytes w nd xs [] [] i V n nilL []) => hk.via (e0 := .returned (.bool true)) fun _ hX => (fnAheadP E hX (by omega)).mono fun _ _ h => ⟨by rw [h.1, hf], (MidP.start hX).below h.2⟩)
  have K1 := hide (fun (V : World) (n : Value) (hk : KT Z p ta tn tc bytes w nd xs [] [] i V n nilL []) => hk.read hX (by first | assumption | (show _ + 0 + _ ≤ _; omega)))
  have K2 := hide (fun (V : World) (n : Value) (z1 : Int) (hz1 : z1 = ((xs.length + (rowT ([] ++ [t])).length : Nat) : Int) - 1) {c : Nat} {b : Option Addr} (hk : KT Z p ta tn tc bytes w nd xs [] [t] q V n (.slice b 1 c) [z1]) => (end_ok (L := [z1]) (ls := [t]) (by show [z1] = placesT xs.length [t]; rw [places_one, hz1]; congr 1; show ((xs.length + (rowT [t]).length : Nat) : Int) - 1 = _; rw [row_one]) hk 9 0 0 ⟨#[]⟩ hY hq hq2 (by show 1 ≤ 100000; omega)).mono fun _ _ h => GaveI.tup h)
  clear h hf hX
  go_enter Tryz.func166, Tryz.ntmps166
  go_wp2_with (first | (go_at_call 198; refine (unhide K0 _ _ (unhide HK)).mono ?_; rintro e w5 ⟨rfl, hk, _⟩; clear HK K0; have HK := hide hk; clear hk) | (go_at_call 199; refine (unhide K1 _ _ (unhide HK)).mono ?_; rintro e w5 ⟨z1, nd', rfl, hz, hk, _⟩; clear HK K1; have HK := hide hk; have HZ1 := hide hz; clear hk hz) | (go_at_call 161; have hk2 := (unhide HK).list [z1] (by show 1 ≤ 100; omega); refine (unhide K2 _ _ _ (unhide HZ1) hk2).mono ?_; clear hk2; rintro e w5 ⟨z, v, rfl, hg⟩; have HF := hide hg; clear hg))
  go_ret2
  exact unhide HF


set_option maxRecDepth 20000 in
set_option maxHeartbeats 4000000 in
theorem expr_no (E : IEnv Z ta tn ts bytes) (h : IPS Z p ta tn tc bytes w i nd xs) (hi : i ≤ 4100) (hroom : xs.length + 4 * (5000 - i) ≤ 100000) (hf : fnC ((seenT ts).cl i) = true) {q : Nat} {t : List NodeD} (hX : ReadI Z p ta tn tc ts bytes 199 #[.pointer (some ⟨p, 0, none⟩)] i (true, q, [t])) (hq : xs.length + (rowT [t]).length + 4 * (5000 - q) ≤ 100000) {q2 : Nat} {l2 : List (List NodeD)} (hY : ReadI Z p ta tn tc ts bytes 166 #[.pointer (some ⟨p, 0, none⟩)] q (false, q2, l2)) :
    Calls Tryz.prog 166 #[.pointer (some ⟨p, 0, none⟩)] w (GaveI Z p ta tn tc ts bytes w nd xs (false, q2, [])) := by
  have HK := hide (KT.start h)
  have K0 := hide (fun (V : World) (n : Value) (hk : KT Z p ta tn tc bytes w nd xs [] [] i V n nilL []) => hk.via (e0 := .returned (.bool true)) fun _ hX => (fnAheadP E hX (by omega)).mono fun _ _ h => ⟨by rw [h.1, hf], (MidP.start hX).below h.2⟩)
  have K1 := hide (fun (V : World) (n : Value) (hk : KT Z p ta tn tc bytes w nd xs [] [] i V n nilL []) => hk.read hX (by first | assumption | (show _ + 0 + _ ≤ _; omega)))
  have K2 := hide (fun (V : World) (n : Value) (z1 : Int) (hz1 : z1 = ((xs.length + (rowT ([] ++ [t])).length : Nat) : Int) - 1) {c : Nat} {b : Option Addr} (hk : KT Z p ta tn tc bytes w nd xs [] [t] q V n (.slice b 1 c) [z1]) => (end_no (L := [z1]) (ls := [t]) hk 9 0 0 ⟨#[]⟩ hY hq).mono fun _ _ h => GaveI.tup h)
  clear h hf hX
  go_enter Tryz.func166, Tryz.ntmps166
  go_wp2_with (first | (go_at_call 198; refine (unhide K0 _ _ (unhide HK)).mono ?_; rintro e w5 ⟨rfl, hk, _⟩; clear HK K0; have HK := hide hk; clear hk) | (go_at_call 199; refine (unhide K1 _ _ (unhide HK)).mono ?_; rintro e w5 ⟨z1, nd', rfl, hz, hk, _⟩; clear HK K1; have HK := hide hk; have HZ1 := hide hz; clear hk hz) | (go_at_call 161; have hk2 := (unhide HK).list [z1] (by show 1 ≤ 100; omega); refine (unhide K2 _ _ _ (unhide HZ1) hk2).mono ?_; clear hk2; rintro e w5 ⟨z, v, rfl, hg⟩; have HF := hide hg; clear hg))
  go_ret2
  exact unhide HF


end
end Go.Proofs.YtmgjicgojlkpcaaGreatDoor
