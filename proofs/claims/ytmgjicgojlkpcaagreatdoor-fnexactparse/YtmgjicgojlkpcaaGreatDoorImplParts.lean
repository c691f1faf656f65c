import Derived.Test.YtmgjicgojlkpcaaGreatDoorImplSer
namespace Go.Proofs.YtmgjicgojlkpcaaGreatDoor
open Go.RowKit

section
variable {Z w w0 w1 : World} {p i j : Nat} {nd nd0 nd1 v : Value} {zs : List Int} {xs ys : List NodeC} {bx : List Nat} {ls : List (List NodeD)} {ta : Option Addr} {tn tc bytes : Nat} {ts : List Tok}

/-- A reader of a list called under way. -/
theorem KT.readL {f : Nat} {args : Array Value} {q : Nat} {l : List (List NodeD)} (hR : ListI Z p ta tn tc ts bytes f args i (true, q, l)) (h : KT Z p ta tn tc bytes w0 nd0 xs bx ls i w nd v zs) (hroom : xs.length + (rowT ls).length + 4 * (5000 - i) ≤ 100000) :
    Calls Tryz.prog f args w fun e w' => ∃ nd' a c, e = .returned (.tuple #[.slice a (placesT (xs.length + (rowT ls).length) l).length c, .nilIface]) ∧ KT Z p ta tn tc bytes w0 nd0 xs bx (ls ++ l) q w' nd' (.slice a (placesT (xs.length + (rowT ls).length) l).length c) (placesT (xs.length + (rowT ls).length) l) ∧ BoxSame bx w w' := by
  obtain ⟨ys, hm, hd, ho, hf, hx⟩ := h
  have hl : (xs ++ ys).length = xs.length + (rowT ls).length := by have := congrArg List.length hd; rw [List.length_map, shift_len] at this; rw [List.length_append, this]
  refine (hR w nd (xs ++ ys) hm.ps (by rw [hl]; exact hroom)).mono ?_
  rintro e w' (⟨_, nd', a, c, rfl, us, hm', hd', ho', hf', _⟩ | ⟨h', _⟩)
  · rw [hl] at hd' ho' hf' ⊢
    refine ⟨nd', a, c, rfl, ⟨ys ++ us, hm.go hm', ?_, ho', fun b hb => ⟨Nat.le_trans hm.but.size (hf' b hb).1, by rw [← List.append_assoc]; exact (hf' b hb).2⟩, fun k hk => ?_⟩, fun k hk => ?_⟩
    · rw [List.map_append, hd, hd', row_append, shift_app, shift_add]
    · obtain ⟨h1, h2, h3, h4, h5, h6, h7⟩ := hx k hk
      refine ⟨h1, h2, Nat.lt_of_lt_of_le h3 hm'.but.size, h4, fun e => ?_, fun hc => ?_, fun e => ?_⟩
      · rcases hm'.at_ with h' | h'
        · exact h5 (h' ▸ e)
        · have := h' k e; omega
      · rw [← List.append_assoc, blksC_app] at hc
        rcases List.mem_append.1 hc with h' | h'
        · exact h6 h'
        · have := hm'.new k h'; omega
      · have := (hf' k e).1; omega
    · obtain ⟨h1, h2, h3, h4, h5, h6, h7⟩ := hx k hk
      exact hm'.but.block k h3 (by rintro (rfl | e); exact h4 rfl; exact h5 e)
  · cases h'

theorem KT.putL {s2 : Option Addr} {n2 c2 : Nat} {L : List Int} (hL : placesT xs.length ls = L) (h : KT Z p ta tn tc bytes w0 nd0 xs bx ls i w nd (.slice s2 n2 c2) L) (k n m : Int) (s : ByteArray) (hlen : xs.length + (rowT ls).length ≤ 1048576) :
    Calls Tryz.prog 104 #[.pointer (some ⟨p, 0, none⟩), .agg #[.int .i64 k, .int .i64 n, .int .i64 m, .string s, .slice none 0 0, .slice s2 n2 c2]] w fun e w' => e = .returned (.int .i64 ((xs.length + (rowT ls).length : Nat))) ∧ ∃ nd', KT Z p ta tn tc bytes w0 nd0 xs [] [treeN k n m s [] ls] i w' nd' nilL [] := by
  subst hL
  exact KT.put h k n m s hlen

theorem KT.readLNo {f : Nat} {args : Array Value} {q : Nat} {l : List (List NodeD)} (hR : ListI Z p ta tn tc ts bytes f args i (false, q, l)) (h : KT Z p ta tn tc bytes w0 nd0 xs bx ls i w nd v zs) (hroom : xs.length + (rowT ls).length + 4 * (5000 - i) ≤ 100000) :
    Calls Tryz.prog f args w fun e w' => ∃ b a n c, e = .returned (.tuple #[.slice a n c, faultV b]) ∧ IsFault w' b (tokA ts bytes q).p ∧ Below Z.heap.size Z w' := by
  obtain ⟨XS, hX, hl, _⟩ := h.ps
  refine (hR w nd XS hX (by rw [hl]; exact hroom)).mono ?_
  rintro e w' (⟨h', _⟩ | ⟨_, b, a, n, c, he, hf, hb⟩)
  · cases h'
  · exact ⟨b, a, n, c, he, hf, hb⟩


set_option maxRecDepth 20000 in
set_option maxHeartbeats 4000000 in
theorem parts_ok (E : IEnv Z ta tn ts bytes) (h : IPS Z p ta tn tc bytes w i nd xs) (hi : i ≤ 4100) (hroom : xs.length + 4 * (5000 - i) ≤ 100000) {q : Nat} {l : List (List NodeD)} (hq : q ≤ 4100) (h91 : (seenT ts).cl i = 91) (hS : ListI Z p ta tn tc ts bytes 101 #[.pointer (some ⟨p, 0, none⟩), .string ⟨#[59]⟩, .func (.func 217) #[.pointer (some ⟨p, 0, none⟩)] #[]] (i + 1) (true, q, l)) (h93 : (seenT ts).cl q = 93) :
    Calls Tryz.prog 194 #[.pointer (some ⟨p, 0, none⟩)] w (GaveL Z p ta tn tc ts bytes w nd xs (true, q + 1, l)) := by
  have HK := hide (KT.start h)
  obtain ⟨L, hL⟩ : ∃ L, placesT xs.length l = L := ⟨_, rfl⟩
  have K0 := hide (fun (V : World) (n u : Value) (hk : KT Z p ta tn tc bytes w nd xs [] [] i V n u []) => hk.via fun _ hX => needYesM E (MidP.start hX) (by omega) (c := 91) (by decide) (s := ⟨#[91]⟩) (by kernel_rfl) h91)
  have K1 := hide (fun (V : World) (n u : Value) (hk : KT Z p ta tn tc bytes w nd xs [] [] (i + 1) V n u []) => KT.readL hS hk (by show _ + 0 + _ ≤ _; omega))
  have e1 : placesT (xs.length + (rowT ([] : List (List NodeD))).length) l = L := hL
  rw [e1] at K1
  have K2 := hide (fun (V : World) (n u : Value) (hk : KT Z p ta tn tc bytes w nd xs [] ([] ++ l) q V n u L) => hk.via fun _ hX => needYesM E (MidP.start hX) (by omega) (c := 93) (by decide) (s := ⟨#[93]⟩) (by kernel_rfl) h93)
  clear h hS h91 h93
  go_enter Tryz.func194, Tryz.ntmps194
  go_wp2_with (first | (go_at_call 195; refine (unhide K0 _ _ _ (unhide HK)).mono ?_; rintro e w5 ⟨rfl, hk, _⟩; clear HK K0; have HK := hide hk; clear hk) | (go_at_call 101; refine (unhide K1 _ _ _ (unhide HK)).mono ?_; rintro e w5 ⟨nd5, a5, c5, rfl, hk, _⟩; clear HK K1; have HK := hide hk; clear hk) | (go_at_call 195; refine (unhide K2 _ _ _ (unhide HK)).mono ?_; rintro e w5 ⟨rfl, hk, _⟩; clear HK K2; have HK := hide hk; clear hk))
  go_ret2
  refine .inl ⟨rfl, nd5, a5, c5, ?_, ?_⟩
  · show _ = Ending.returned (.tuple #[.slice a5 (placesT xs.length l).length c5, .nilIface]); first | (rw [hL]; done) | (rw [hL]; rfl)
  · show KT Z p ta tn tc bytes w nd xs [] l (q + 1) _ nd5 (.slice a5 (placesT xs.length l).length c5) (placesT xs.length l); rw [hL]; exact unhide HK


set_option maxRecDepth 20000 in
set_option maxHeartbeats 4000000 in
theorem parts_no (E : IEnv Z ta tn ts bytes) (h : IPS Z p ta tn tc bytes w i nd xs) (hi : i ≤ 4100) (hroom : xs.length + 4 * (5000 - i) ≤ 100000) {q : Nat} {l : List (List NodeD)} (hq : q ≤ 4100) (h91 : (seenT ts).cl i = 91) (hS : ListI Z p ta tn tc ts bytes 101 #[.pointer (some ⟨p, 0, none⟩), .string ⟨#[59]⟩, .func (.func 217) #[.pointer (some ⟨p, 0, none⟩)] #[]] (i + 1) (true, q, l)) (h93 : (seenT ts).cl q ≠ 93) :
    Calls Tryz.prog 194 #[.pointer (some ⟨p, 0, none⟩)] w (GaveL Z p ta tn tc ts bytes w nd xs (false, q, [])) := by
  have HK := hide (KT.start h)
  obtain ⟨L, hL⟩ : ∃ L, placesT xs.length l = L := ⟨_, rfl⟩
  have K0 := hide (fun (V : World) (n u : Value) (hk : KT Z p ta tn tc bytes w nd xs [] [] i V n u []) => hk.via fun _ hX => needYesM E (MidP.start hX) (by omega) (c := 91) (by decide) (s := ⟨#[91]⟩) (by kernel_rfl) h91)
  have K1 := hide (fun (V : World) (n u : Value) (hk : KT Z p ta tn tc bytes w nd xs [] [] (i + 1) V n u []) => KT.readL hS hk (by show _ + 0 + _ ≤ _; omega))
  have e1 : placesT (xs.length + (rowT ([] : List (List NodeD))).length) l = L := hL
  rw [e1] at K1
  have K2 := hide (fun (V : World) (n u : Value) (hk : KT Z p ta tn tc bytes w nd xs [] ([] ++ l) q V n u L) => hk.no (e0 := fun b => .returned (faultV b)) fun _ hX => needNoM E (MidP.start hX) (by omega) (c := 93) (by decide) (s := ⟨#[93]⟩) (by kernel_rfl) h93)
  clear h hS h91 h93
  go_enter Tryz.func194, Tryz.ntmps194
  go_wp2_with (first | (go_at_call 195; refine (unhide K0 _ _ _ (unhide HK)).mono ?_; rintro e w5 ⟨rfl, hk, _⟩; clear HK K0; have HK := hide hk; clear hk) | (go_at_call 101; refine (unhide K1 _ _ _ (unhide HK)).mono ?_; rintro e w5 ⟨nd5, a5, c5, rfl, hk, _⟩; clear HK K1; have HK := hide hk; clear hk) | (go_at_call 195; refine (unhide K2 _ _ _ (unhide HK)).mono ?_; rintro e w5 ⟨b, rfl, hf, hb⟩; have HF := hide (And.intro hf hb); clear hf hb; delta faultV))
  go_ret2
  exact .inr ⟨rfl, b, _, _, _, rfl, (unhide HF).1, (unhide HF).2⟩


set_option maxRecDepth 20000 in
set_option maxHeartbeats 4000000 in
theorem parts_bad (E : IEnv Z ta tn ts bytes) (h : IPS Z p ta tn tc bytes w i nd xs) (hi : i ≤ 4100) (hroom : xs.length + 4 * (5000 - i) ≤ 100000) {q : Nat} {l : List (List NodeD)} (h91 : (seenT ts).cl i = 91) (hS : ListI Z p ta tn tc ts bytes 101 #[.pointer (some ⟨p, 0, none⟩), .string ⟨#[59]⟩, .func (.func 217) #[.pointer (some ⟨p, 0, none⟩)] #[]] (i + 1) (false, q, l)) :
    Calls Tryz.prog 194 #[.pointer (some ⟨p, 0, none⟩)] w (GaveL Z p ta tn tc ts bytes w nd xs (false, q, [])) := by
  have HK := hide (KT.start h)
  have K0 := hide (fun (V : World) (n u : Value) (hk : KT Z p ta tn tc bytes w nd xs [] [] i V n u []) => hk.via fun _ hX => needYesM E (MidP.start hX) (by omega) (c := 91) (by decide) (s := ⟨#[91]⟩) (by kernel_rfl) h91)
  have K1 := hide (fun (V : World) (n u : Value) (hk : KT Z p ta tn tc bytes w nd xs [] [] (i + 1) V n u []) => KT.readLNo hS hk (by show _ + 0 + _ ≤ _; omega))
  clear h hS h91
  go_enter Tryz.func194, Tryz.ntmps194
  go_wp2_with (first | (go_at_call 195; refine (unhide K0 _ _ _ (unhide HK)).mono ?_; rintro e w5 ⟨rfl, hk, _⟩; clear HK K0; have HK := hide hk; clear hk) | (go_at_call 101; refine (unhide K1 _ _ _ (unhide HK)).mono ?_; rintro e w5 ⟨b, a5, n5, c5, rfl, hf, hb⟩; have HF := hide (And.intro hf hb); clear hf hb; delta faultV))
  go_ret2
  exact .inr ⟨rfl, b, _, _, _, rfl, (unhide HF).1, (unhide HF).2⟩


set_option maxRecDepth 20000 in
set_option maxHeartbeats 4000000 in
theorem braces_none (E : IEnv Z ta tn ts bytes) (h : IPS Z p ta tn tc bytes w i nd xs) (hi : i ≤ 4100) (hroom : xs.length + 4 * (5000 - i) ≤ 100000) (h1 : (seenT ts).cl i = 123) (h2 : (seenT ts).cl (i + 1) = 125) :
    Calls Tryz.prog 192 #[.pointer (some ⟨p, 0, none⟩)] w (GaveI Z p ta tn tc ts bytes w nd xs (true, i + 1 + 1, [treeN 16 0 0 ⟨#[]⟩ [] []])) := by
  have HK := hide (KT.start h)
  have K0 := hide (fun (V : World) (n u : Value) (hk : KT Z p ta tn tc bytes w nd xs [] [] i V n u []) => hk.via fun _ hX => needYesM E (MidP.start hX) (by omega) (c := 123) (by decide) (s := ⟨#[123]⟩) (by kernel_rfl) h1)
  have K1 := hide (fun (V : World) (n u : Value) (hk : KT Z p ta tn tc bytes w nd xs [] [] (i + 1) V n u []) => hk.via fun _ hX => isYesM E (MidP.start hX) (by omega) (c := 125) (by decide) (s := ⟨#[125]⟩) (by kernel_rfl) h2)
  have K2 := hide (fun (V : World) (n u : Value) (hk : KT Z p ta tn tc bytes w nd xs [] [] (i + 1) V n u []) => hk.via fun _ hX => needYesM E (MidP.start hX) (by omega) (c := 125) (by decide) (s := ⟨#[125]⟩) (by kernel_rfl) h2)
  clear h h1 h2
  go_enter Tryz.func192, Tryz.ntmps192
  go_wp2_with (first | (go_at_call 195; refine (unhide K0 _ _ _ (unhide HK)).mono ?_; rintro e w5 ⟨rfl, hk, _⟩; clear HK K0; have HK := hide hk; clear hk) | (go_at_call 191; refine (unhide K1 _ _ _ (unhide HK)).mono ?_; rintro e w5 ⟨rfl, hk, _⟩; clear HK K1; have HK := hide hk; clear hk) | (go_at_call 195; refine (unhide K2 _ _ _ (unhide HK)).mono ?_; rintro e w5 ⟨rfl, hk, _⟩; clear HK K2; have HK := hide hk; clear hk) | (go_at_call 104; have hk8 := unhide HK; refine (KT.put hk8 16 0 0 ⟨#[]⟩ (by show _ + 0 ≤ _; omega)).mono ?_; clear hk8; rintro e w9 ⟨rfl, nd9, hk9⟩; have HK9 := hide hk9; clear hk9))
  go_ret2
  refine (unhide HK9).gave rfl ?_
  rw [row_one, tree_len]
  have e0 : (rowT ([] : List (List NodeD))).length = 0 := rfl
  omega


set_option maxRecDepth 20000 in
set_option maxHeartbeats 4000000 in
theorem braces_ok (E : IEnv Z ta tn ts bytes) (h : IPS Z p ta tn tc bytes w i nd xs) (hi : i ≤ 4100) (hroom : xs.length + 4 * (5000 - i) ≤ 100000) {q : Nat} {l : List (List NodeD)} (hq : q ≤ 4100) (h1 : (seenT ts).cl i = 123) (h2 : (seenT ts).cl (i + 1) ≠ 125) (hS : ListI Z p ta tn tc ts bytes 101 #[.pointer (some ⟨p, 0, none⟩), .string ⟨#[226, 139, 132]⟩, .func (.func 215) #[.pointer (some ⟨p, 0, none⟩)] #[]] (i + 1) (true, q, l)) (h3 : (seenT ts).cl q = 125) (hlen : xs.length + (rowT l).length ≤ 1048576) :
    Calls Tryz.prog 192 #[.pointer (some ⟨p, 0, none⟩)] w (GaveI Z p ta tn tc ts bytes w nd xs (true, q + 1, [treeN 16 0 0 ⟨#[]⟩ [] l])) := by
  have HK := hide (KT.start h)
  obtain ⟨L, hL⟩ : ∃ L, placesT xs.length l = L := ⟨_, rfl⟩
  have K0 := hide (fun (V : World) (n u : Value) (hk : KT Z p ta tn tc bytes w nd xs [] [] i V n u []) => hk.via fun _ hX => needYesM E (MidP.start hX) (by omega) (c := 123) (by decide) (s := ⟨#[123]⟩) (by kernel_rfl) h1)
  have K1 := hide (fun (V : World) (n u : Value) (hk : KT Z p ta tn tc bytes w nd xs [] [] (i + 1) V n u []) => hk.via fun _ hX => isNoM E (MidP.start hX) (by omega) (c := 125) (by decide) (s := ⟨#[125]⟩) (by kernel_rfl) h2)
  have K2 := hide (fun (V : World) (n u : Value) (hk : KT Z p ta tn tc bytes w nd xs [] [] (i + 1) V n u []) => KT.readL hS hk (by show _ + 0 + _ ≤ _; omega))
  have e2 : placesT (xs.length + (rowT ([] : List (List NodeD))).length) l = L := hL
  rw [e2] at K2
  have K3 := hide (fun (V : World) (n u : Value) (hk : KT Z p ta tn tc bytes w nd xs [] ([] ++ l) q V n u L) => hk.via fun _ hX => needYesM E (MidP.start hX) (by omega) (c := 125) (by decide) (s := ⟨#[125]⟩) (by kernel_rfl) h3)
  clear h hS h1 h2 h3
  go_enter Tryz.func192, Tryz.ntmps192
  go_wp2_with (first | (go_at_call 195; refine (unhide K0 _ _ _ (unhide HK)).mono ?_; rintro e w5 ⟨rfl, hk, _⟩; clear HK K0; have HK := hide hk; clear hk) | (go_at_call 191; refine (unhide K1 _ _ _ (unhide HK)).mono ?_; rintro e w5 ⟨rfl, hk, _⟩; clear HK K1; have HK := hide hk; clear hk) | (go_at_call 101; refine (unhide K2 _ _ _ (unhide HK)).mono ?_; rintro e w5 ⟨nd5, a5, c5, rfl, hk, _⟩; clear HK K2; have HK := hide hk; clear hk) | (go_at_call 195; refine (unhide K3 _ _ _ (unhide HK)).mono ?_; rintro e w5 ⟨rfl, hk, _⟩; clear HK K3; have HK := hide hk; clear hk) | (go_at_call 104; refine (KT.putL (ls := [] ++ l) hL (unhide HK) 16 0 0 ⟨#[]⟩ hlen).mono ?_; rintro e w9 ⟨rfl, nd9, hk9⟩; have HK9 := hide hk9; clear hk9))
  go_ret2
  refine (unhide HK9).gave rfl ?_
  rw [row_one, tree_len]
  have e0 : (rowT ([] ++ l)).length = (rowT l).length := rfl
  omega


set_option maxRecDepth 20000 in
set_option maxHeartbeats 4000000 in
theorem braces_no (E : IEnv Z ta tn ts bytes) (h : IPS Z p ta tn tc bytes w i nd xs) (hi : i ≤ 4100) (hroom : xs.length + 4 * (5000 - i) ≤ 100000) {q : Nat} {l : List (List NodeD)} (hq : q ≤ 4100) (h1 : (seenT ts).cl i = 123) (h2 : (seenT ts).cl (i + 1) ≠ 125) (hS : ListI Z p ta tn tc ts bytes 101 #[.pointer (some ⟨p, 0, none⟩), .string ⟨#[226, 139, 132]⟩, .func (.func 215) #[.pointer (some ⟨p, 0, none⟩)] #[]] (i + 1) (true, q, l)) (h3 : (seenT ts).cl q ≠ 125) :
    Calls Tryz.prog 192 #[.pointer (some ⟨p, 0, none⟩)] w (GaveI Z p ta tn tc ts bytes w nd xs (false, q, [])) := by
  have HK := hide (KT.start h)
  obtain ⟨L, hL⟩ : ∃ L, placesT xs.length l = L := ⟨_, rfl⟩
  have K0 := hide (fun (V : World) (n u : Value) (hk : KT Z p ta tn tc bytes w nd xs [] [] i V n u []) => hk.via fun _ hX => needYesM E (MidP.start hX) (by omega) (c := 123) (by decide) (s := ⟨#[123]⟩) (by kernel_rfl) h1)
  have K1 := hide (fun (V : World) (n u : Value) (hk : KT Z p ta tn tc bytes w nd xs [] [] (i + 1) V n u []) => hk.via fun _ hX => isNoM E (MidP.start hX) (by omega) (c := 125) (by decide) (s := ⟨#[125]⟩) (by kernel_rfl) h2)
  have K2 := hide (fun (V : World) (n u : Value) (hk : KT Z p ta tn tc bytes w nd xs [] [] (i + 1) V n u []) => KT.readL hS hk (by show _ + 0 + _ ≤ _; omega))
  have e2 : placesT (xs.length + (rowT ([] : List (List NodeD))).length) l = L := hL
  rw [e2] at K2
  have K3 := hide (fun (V : World) (n u : Value) (hk : KT Z p ta tn tc bytes w nd xs [] ([] ++ l) q V n u L) => hk.no (e0 := fun b => .returned (faultV b)) fun _ hX => needNoM E (MidP.start hX) (by omega) (c := 125) (by decide) (s := ⟨#[125]⟩) (by kernel_rfl) h3)
  clear h hS h1 h2 h3
  go_enter Tryz.func192, Tryz.ntmps192
  go_wp2_with (first | (go_at_call 195; refine (unhide K0 _ _ _ (unhide HK)).mono ?_; rintro e w5 ⟨rfl, hk, _⟩; clear HK K0; have HK := hide hk; clear hk) | (go_at_call 191; refine (unhide K1 _ _ _ (unhide HK)).mono ?_; rintro e w5 ⟨rfl, hk, _⟩; clear HK K1; have HK := hide hk; clear hk) | (go_at_call 101; refine (unhide K2 _ _ _ (unhide HK)).mono ?_; rintro e w5 ⟨nd5, a5, c5, rfl, hk, _⟩; clear HK K2; have HK := hide hk; clear hk) | (go_at_call 195; refine (unhide K3 _ _ _ (unhide HK)).mono ?_; rintro e w5 ⟨b, rfl, hf, hb⟩; have HF := hide (And.intro hf hb); clear hf hb; delta faultV))
  go_ret2
  exact gave_fault 0 rfl (unhide HF).1 (unhide HF).2


set_option maxRecDepth 20000 in
set_option maxHeartbeats 4000000 in
theorem braces_bad (E : IEnv Z ta tn ts bytes) (h : IPS Z p ta tn tc bytes w i nd xs) (hi : i ≤ 4100) (hroom : xs.length + 4 * (5000 - i) ≤ 100000) {q : Nat} {l : List (List NodeD)} (h1 : (seenT ts).cl i = 123) (h2 : (seenT ts).cl (i + 1) ≠ 125) (hS : ListI Z p ta tn tc ts bytes 101 #[.pointer (some ⟨p, 0, none⟩), .string ⟨#[226, 139, 132]⟩, .func (.func 215) #[.pointer (some ⟨p, 0, none⟩)] #[]] (i + 1) (false, q, l)) :
    Calls Tryz.prog 192 #[.pointer (some ⟨p, 0, none⟩)] w (GaveI Z p ta tn tc ts bytes w nd xs (false, q, [])) := by
  have HK := hide (KT.start h)
  have K0 := hide (fun (V : World) (n u : Value) (hk : KT Z p ta tn tc bytes w nd xs [] [] i V n u []) => hk.via fun _ hX => needYesM E (MidP.start hX) (by omega) (c := 123) (by decide) (s := ⟨#[123]⟩) (by kernel_rfl) h1)
  have K1 := hide (fun (V : World) (n u : Value) (hk : KT Z p ta tn tc bytes w nd xs [] [] (i + 1) V n u []) => hk.via fun _ hX => isNoM E (MidP.start hX) (by omega) (c := 125) (by decide) (s := ⟨#[125]⟩) (by kernel_rfl) h2)
  have K2 := hide (fun (V : World) (n u : Value) (hk : KT Z p ta tn tc bytes w nd xs [] [] (i + 1) V n u []) => KT.readLNo hS hk (by show _ + 0 + _ ≤ _; omega))
  clear h hS h1 h2
  go_enter Tryz.func192, Tryz.ntmps192
  go_wp2_with (first | (go_at_call 195; refine (unhide K0 _ _ _ (unhide HK)).mono ?_; rintro e w5 ⟨rfl, hk, _⟩; clear HK K0; have HK := hide hk; clear hk) | (go_at_call 191; refine (unhide K1 _ _ _ (unhide HK)).mono ?_; rintro e w5 ⟨rfl, hk, _⟩; clear HK K1; have HK := hide hk; clear hk) | (go_at_call 101; refine (unhide K2 _ _ _ (unhide HK)).mono ?_; rintro e w5 ⟨b, a5, n5, c5, rfl, hf, hb⟩; have HF := hide (And.intro hf hb); clear hf hb; delta faultV))
  go_ret2
  exact gave_fault 0 rfl (unhide HF).1 (unhide HF).2


end
end Go.Proofs.YtmgjicgojlkpcaaGreatDoor
