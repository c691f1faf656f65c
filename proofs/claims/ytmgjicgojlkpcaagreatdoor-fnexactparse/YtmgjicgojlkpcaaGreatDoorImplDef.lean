import Derived.Test.YtmgjicgojlkpcaaGreatDoorImplFromB
namespace Go.Proofs.YtmgjicgojlkpcaaGreatDoor
open Go.RowKit

section
variable {Z w w0 w1 : World} {p i j : Nat} {nd nd0 nd1 v : Value} {zs : List Int} {xs ys : List NodeC} {bx : List Nat} {ls : List (List NodeD)} {ta : Option Addr} {tn tc bytes : Nat} {ts : List Tok}

set_option maxRecDepth 20000 in
set_option maxHeartbeats 4000000 in
theorem braces_nb (E : IEnv Z ta tn ts bytes) (h : IPS Z p ta tn tc bytes w i nd xs) (hi : i ≤ 4100) (h1 : (seenT ts).cl i ≠ 123) :
    Calls Tryz.prog 192 #[.pointer (some ⟨p, 0, none⟩)] w (GaveI Z p ta tn tc ts bytes w nd xs (false, i, [])) := by
  have HK := hide (KT.start h)
  have K0 := hide ((unhide HK).no (e0 := fun b => .returned (faultV b)) fun _ hX => needNoM E (MidP.start hX) (by omega) (c := 123) (by decide) (s := ⟨#[123]⟩) (by kernel_rfl) h1)
  clear h h1
  go_enter Tryz.func192, Tryz.ntmps192
  go_wp2_with (go_at_call 195; refine (unhide K0).mono ?_; rintro e w5 ⟨b, rfl, hf, hb⟩; have HF := hide (And.intro hf hb); clear hf hb; delta faultV)
  go_ret2
  exact gave_fault 0 rfl (unhide HF).1 (unhide HF).2

/-- The text of a token that is there. -/
theorem sv_at (bytes : Nat) {q : Nat} (h : (seenT ts).cl q ≠ 0) : (seenT ts).sv q = (tokA ts bytes q).t := tokA_t bytes q h

set_option maxRecDepth 20000 in
set_option maxHeartbeats 4000000 in
theorem def_ok (E : IEnv Z ta tn ts bytes) (h : IPS Z p ta tn tc bytes w i nd xs) (hi : i ≤ 4100) (hroom : xs.length + 4 * (5000 - i) ≤ 100000) (hc0 : (seenT ts).cl i ≠ 0) {q : Nat} {t : List NodeD} (hB : ReadI Z p ta tn tc ts bytes 192 #[.pointer (some ⟨p, 0, none⟩)] (i + 2) (true, q, [t])) (hlen : xs.length + t.length ≤ 100000) :
    Calls Tryz.prog 160 #[.pointer (some ⟨p, 0, none⟩)] w (GaveI Z p ta tn tc ts bytes w nd xs (true, q, [treeN 20 0 0 ((seenT ts).sv i) [] [t]])) := by
  have HK := hide (KT.start h)
  have HA := hide (aheadP E h (by omega) (Below.refl _ _) 0 (by omega))
  have hsv := sv_at (ts := ts) bytes hc0
  obtain ⟨⟨yk, yn, yt, yp⟩, hy⟩ : ∃ y, tokA ts bytes i = y := ⟨_, rfl⟩
  rw [Nat.add_zero, hy] at HA
  rw [hy] at hsv
  dsimp only at hsv
  unfold tokW at HA
  have hf2 : ∀ W, (Instr.field 64 (.agg #[.int .i64 yk, .int .i64 yn, .string yt, .int .i64 (yp : Nat)]) 2).run Tryz.prog W = .ok (.string yt) W := fun W => by kernel_rfl
  have hw1 : IntKind.i64.wrap ((i : Int) + 2) = (i : Int) + 2 := by rw [IntKind.wrap_i64]; omega
  rw [hsv]
  have K0 := hide (fun (V : World) (n u : Value) (hk : KT Z p ta tn tc bytes w nd xs [] [] (i + 2) V n u []) => KT.read hB hk (by show _ + 0 + _ ≤ _; omega))
  have e0 : (rowT ([] ++ [t])).length = t.length := row_one t
  clear h hy hc0 hsv hB
  go_enter Tryz.func160, Tryz.ntmps160
  go_wp2_with (first | (go_at_call 158; refine (unhide HA).mono ?_; rintro e w5 ⟨rfl, hb5⟩; have hk5 := (unhide HK).below hb5; obtain ⟨p0, p1, p2, p3, f0, f1, f2, f3, hpl⟩ := hk5.all; have HK5 := hide (hk5.step 2 ((i : Int) + 2) (by omega)); clear hb5 HA HK hk5) | (go_at_call 192; refine (unhide K0 _ _ _ (unhide HK5)).mono ?_; rintro e w6 ⟨z6, nd6, rfl, hz6, hk, _⟩; have HK6 := hide (hk.list [z6] (by show 1 ≤ 100; omega)); have HZ6 := hide hz6; clear hk hz6) | (go_at_call 104; refine (KT.putL (ls := [] ++ [t]) (by rw [unhide HZ6, e0]; exact places_one _ _) (unhide HK6) 20 0 0 yt (by omega)).mono ?_; rintro e w9 ⟨rfl, nd9, hk9⟩; have HK9 := hide hk9; clear hk9))
  go_ret2
  refine (unhide HK9).gave rfl ?_
  have e3 : (rowT [treeN 20 0 0 yt [] ([] ++ [t])]).length = t.length + 1 := by rw [row_one (treeN 20 0 0 yt [] ([] ++ [t])), tree_len, e0]
  rw [e3]
  first | omega | (rw [row_one t]; omega)

set_option maxRecDepth 20000 in
set_option maxHeartbeats 4000000 in
theorem def_no (E : IEnv Z ta tn ts bytes) (h : IPS Z p ta tn tc bytes w i nd xs) (hi : i ≤ 4100) (hroom : xs.length + 4 * (5000 - i) ≤ 100000) (hc0 : (seenT ts).cl i ≠ 0) {q : Nat} {l : List (List NodeD)} (hB : ReadI Z p ta tn tc ts bytes 192 #[.pointer (some ⟨p, 0, none⟩)] (i + 2) (false, q, l)) :
    Calls Tryz.prog 160 #[.pointer (some ⟨p, 0, none⟩)] w (GaveI Z p ta tn tc ts bytes w nd xs (false, q, [])) := by
  have HK := hide (KT.start h)
  have HA := hide (aheadP E h (by omega) (Below.refl _ _) 0 (by omega))
  have hsv := sv_at (ts := ts) bytes hc0
  obtain ⟨⟨yk, yn, yt, yp⟩, hy⟩ : ∃ y, tokA ts bytes i = y := ⟨_, rfl⟩
  rw [Nat.add_zero, hy] at HA
  rw [hy] at hsv
  dsimp only at hsv
  unfold tokW at HA
  have hf2 : ∀ W, (Instr.field 64 (.agg #[.int .i64 yk, .int .i64 yn, .string yt, .int .i64 (yp : Nat)]) 2).run Tryz.prog W = .ok (.string yt) W := fun W => by kernel_rfl
  have hw1 : IntKind.i64.wrap ((i : Int) + 2) = (i : Int) + 2 := by rw [IntKind.wrap_i64]; omega
  have K0 := hide (fun (V : World) (n u : Value) (hk : KT Z p ta tn tc bytes w nd xs [] [] (i + 2) V n u []) => KT.readNo hB hk (by show _ + 0 + _ ≤ _; omega))
  clear h hy hc0 hsv hB
  go_enter Tryz.func160, Tryz.ntmps160
  go_wp2_with (first | (go_at_call 158; refine (unhide HA).mono ?_; rintro e w5 ⟨rfl, hb5⟩; have hk5 := (unhide HK).below hb5; obtain ⟨p0, p1, p2, p3, f0, f1, f2, f3, hpl⟩ := hk5.all; have HK5 := hide (hk5.step 2 ((i : Int) + 2) (by omega)); clear hb5 HA HK hk5) | (go_at_call 192; refine (unhide K0 _ _ _ (unhide HK5)).mono ?_; rintro e w6 ⟨b, z, rfl, hf, hb⟩; have HF := hide (And.intro hf hb); clear hf hb; delta faultV))
  go_ret2
  exact gave_fault 0 rfl (unhide HF).1 (unhide HF).2

set_option maxRecDepth 20000 in
set_option maxHeartbeats 4000000 in
theorem asg_bad (E : IEnv Z ta tn ts bytes) (h : IPS Z p ta tn tc bytes w i nd xs) (hi : i ≤ 4100) (hroom : xs.length + 4 * (5000 - i) ≤ 100000) (hc0 : (seenT ts).cl i ≠ 0) {q : Nat} {l : List (List NodeD)} (hB : ListI Z p ta tn tc ts bytes 194 #[.pointer (some ⟨p, 0, none⟩)] (i + 1) (false, q, l)) :
    Calls Tryz.prog 164 #[.pointer (some ⟨p, 0, none⟩)] w (GaveI Z p ta tn tc ts bytes w nd xs (false, q, [])) := by
  have HK := hide (KT.start h)
  have HA := hide (aheadP E h (by omega) (Below.refl _ _) 0 (by omega))
  have hsv := sv_at (ts := ts) bytes hc0
  obtain ⟨⟨yk, yn, yt, yp⟩, hy⟩ : ∃ y, tokA ts bytes i = y := ⟨_, rfl⟩
  rw [Nat.add_zero, hy] at HA
  rw [hy] at hsv
  dsimp only at hsv
  unfold tokW at HA
  have hf2 : ∀ W, (Instr.field 64 (.agg #[.int .i64 yk, .int .i64 yn, .string yt, .int .i64 (yp : Nat)]) 2).run Tryz.prog W = .ok (.string yt) W := fun W => by kernel_rfl
  have hw1 : IntKind.i64.wrap ((i : Int) + 1) = (i : Int) + 1 := by rw [IntKind.wrap_i64]; omega
  have K0 := hide (fun (V : World) (n u : Value) (hk : KT Z p ta tn tc bytes w nd xs [] [] (i + 1) V n u []) => KT.readLNo hB hk (by show _ + 0 + _ ≤ _; omega))
  clear h hy hc0 hsv hB
  go_enter Tryz.func164, Tryz.ntmps164
  go_wp2_with (first | (go_at_call 158; refine (unhide HA).mono ?_; rintro e w5 ⟨rfl, hb5⟩; have hk5 := (unhide HK).below hb5; obtain ⟨p0, p1, p2, p3, f0, f1, f2, f3, hpl⟩ := hk5.all; have HK5 := hide (hk5.step 1 ((i : Int) + 1) (by omega)); clear hb5 HA HK hk5) | (go_at_call 194; refine (unhide K0 _ _ _ (unhide HK5)).mono ?_; rintro e w6 ⟨b, a5, n5, c5, rfl, hf, hb⟩; have HF := hide (And.intro hf hb); clear hf hb; delta faultV))
  go_ret2
  exact gave_fault 0 rfl (unhide HF).1 (unhide HF).2

set_option maxRecDepth 20000 in
set_option maxHeartbeats 4000000 in
theorem asg_no (E : IEnv Z ta tn ts bytes) (h : IPS Z p ta tn tc bytes w i nd xs) (hi : i ≤ 4100) (hroom : xs.length + 4 * (5000 - i) ≤ 100000) (hc0 : (seenT ts).cl i ≠ 0) {q : Nat} {l : List (List NodeD)} (hq : q ≤ 4100) (hB : ListI Z p ta tn tc ts bytes 194 #[.pointer (some ⟨p, 0, none⟩)] (i + 1) (true, q, l)) (h1 : (seenT ts).cl q ≠ 8592) :
    Calls Tryz.prog 164 #[.pointer (some ⟨p, 0, none⟩)] w (GaveI Z p ta tn tc ts bytes w nd xs (false, q, [])) := by
  have HK := hide (KT.start h)
  have HA := hide (aheadP E h (by omega) (Below.refl _ _) 0 (by omega))
  have hsv := sv_at (ts := ts) bytes hc0
  obtain ⟨⟨yk, yn, yt, yp⟩, hy⟩ : ∃ y, tokA ts bytes i = y := ⟨_, rfl⟩
  rw [Nat.add_zero, hy] at HA
  rw [hy] at hsv
  dsimp only at hsv
  unfold tokW at HA
  have hf2 : ∀ W, (Instr.field 64 (.agg #[.int .i64 yk, .int .i64 yn, .string yt, .int .i64 (yp : Nat)]) 2).run Tryz.prog W = .ok (.string yt) W := fun W => by kernel_rfl
  have hw1 : IntKind.i64.wrap ((i : Int) + 1) = (i : Int) + 1 := by rw [IntKind.wrap_i64]; omega
  have K0 := hide (fun (V : World) (n u : Value) (hk : KT Z p ta tn tc bytes w nd xs [] [] (i + 1) V n u []) => KT.readL hB hk (by show _ + 0 + _ ≤ _; omega))
  obtain ⟨L, hL⟩ : ∃ L, placesT xs.length l = L := ⟨_, rfl⟩
  have e0 : placesT (xs.length + (rowT ([] : List (List NodeD))).length) l = L := hL
  rw [e0] at K0
  have K1 := hide (fun (V : World) (n u : Value) (hk : KT Z p ta tn tc bytes w nd xs [] ([] ++ l) q V n u L) => hk.no (e0 := fun b => .returned (faultV b)) fun _ hX => needNoM E (MidP.start hX) (by omega) (c := 8592) (by decide) (s := ⟨#[226, 134, 144]⟩) (by kernel_rfl) h1)
  clear h hy hc0 hsv hB h1 e0
  go_enter Tryz.func164, Tryz.ntmps164
  go_wp2_with (first | (go_at_call 158; refine (unhide HA).mono ?_; rintro e w5 ⟨rfl, hb5⟩; have hk5 := (unhide HK).below hb5; obtain ⟨p0, p1, p2, p3, f0, f1, f2, f3, hpl⟩ := hk5.all; have HK5 := hide (hk5.step 1 ((i : Int) + 1) (by omega)); clear hb5 HA HK hk5) | (go_at_call 194; refine (unhide K0 _ _ _ (unhide HK5)).mono ?_; rintro e w6 ⟨nd6, a5, c5, rfl, hk, _⟩; have HK6 := hide hk; clear hk) | (go_at_call 195; refine (unhide K1 _ _ _ (unhide HK6)).mono ?_; rintro e w7 ⟨b, rfl, hf, hb⟩; have HF := hide (And.intro hf hb); clear hf hb; delta faultV))
  go_ret2
  exact gave_fault 0 rfl (unhide HF).1 (unhide HF).2

set_option maxRecDepth 20000 in
set_option maxHeartbeats 4000000 in
theorem asg_end (E : IEnv Z ta tn ts bytes) (h : IPS Z p ta tn tc bytes w i nd xs) (hi : i ≤ 4100) (hroom : xs.length + 4 * (5000 - i) ≤ 100000) (hc0 : (seenT ts).cl i ≠ 0) {R : Nat → Nat → List NodeD → Option Res} {q : Nat} {l : List (List NodeD)} (hq : q ≤ 4100) (hB : ListI Z p ta tn tc ts bytes 194 #[.pointer (some ⟨p, 0, none⟩)] (i + 1) (true, q, l)) (h1 : (seenT ts).cl q = 8592) (hX : ∀ r, R 0 (q + 1) [] = some r → ReadI Z p ta tn tc ts bytes 166 #[.pointer (some ⟨p, 0, none⟩)] (q + 1) r) (hone : ∀ q2 l2, R 0 (q + 1) [] = some (true, q2, l2) → ∃ t, l2 = [t] ∧ q2 ≤ ts.length ∧ q + 1 ≤ q2 ∧ t.length ≤ 4 * (q2 - (q + 1))) (htl : ts.length ≤ 4096) (hrm : xs.length + (rowT l).length + 4 * (5000 - (q + 1)) ≤ 100000) (hll : l.length ≤ 100000) {r : Res} (hr : endS R 21 0 ((seenT ts).sv i) l (q + 1) = some r) :
    Calls Tryz.prog 164 #[.pointer (some ⟨p, 0, none⟩)] w (GaveI Z p ta tn tc ts bytes w nd xs r) := by
  have HK := hide (KT.start h)
  have HA := hide (aheadP E h (by omega) (Below.refl _ _) 0 (by omega))
  have hsv := sv_at (ts := ts) bytes hc0
  obtain ⟨⟨yk, yn, yt, yp⟩, hy⟩ : ∃ y, tokA ts bytes i = y := ⟨_, rfl⟩
  rw [Nat.add_zero, hy] at HA
  rw [hy] at hsv
  dsimp only at hsv
  unfold tokW at HA
  have hf2 : ∀ W, (Instr.field 64 (.agg #[.int .i64 yk, .int .i64 yn, .string yt, .int .i64 (yp : Nat)]) 2).run Tryz.prog W = .ok (.string yt) W := fun W => by kernel_rfl
  have hw1 : IntKind.i64.wrap ((i : Int) + 1) = (i : Int) + 1 := by rw [IntKind.wrap_i64]; omega
  rw [hsv] at hr
  have K0 := hide (fun (V : World) (n u : Value) (hk : KT Z p ta tn tc bytes w nd xs [] [] (i + 1) V n u []) => KT.readL hB hk (by show _ + 0 + _ ≤ _; omega))
  obtain ⟨L, hL⟩ : ∃ L, placesT xs.length l = L := ⟨_, rfl⟩
  have e0 : placesT (xs.length + (rowT ([] : List (List NodeD))).length) l = L := hL
  rw [e0] at K0
  have hLl : L.length = l.length := by rw [← hL, places_len]
  have K1 := hide (fun (V : World) (n u : Value) (hk : KT Z p ta tn tc bytes w nd xs [] ([] ++ l) q V n u L) => hk.via fun _ hX => needYesM E (MidP.start hX) (by omega) (c := 8592) (by decide) (s := ⟨#[226, 134, 144]⟩) (by kernel_rfl) h1)
  have K2 := hide (fun (V : World) (n : Value) (b : Option Addr) (c : Nat) (hk : KT Z p ta tn tc bytes w nd xs [] ([] ++ l) (q + 1) V n (.slice b L.length c) L) => endP (ls := l) hL.symm hk 21 0 yt hX hone htl hrm (by rw [hLl]; exact hll) hr)
  clear h hy hc0 hsv hB h1 e0 hX hone hr hrm hll hLl hL
  go_enter Tryz.func164, Tryz.ntmps164
  go_wp2_with (first | (go_at_call 158; refine (unhide HA).mono ?_; rintro e w5 ⟨rfl, hb5⟩; have hk5 := (unhide HK).below hb5; obtain ⟨p0, p1, p2, p3, f0, f1, f2, f3, hpl⟩ := hk5.all; have HK5 := hide (hk5.step 1 ((i : Int) + 1) (by omega)); clear hb5 HA HK hk5) | (go_at_call 194; refine (unhide K0 _ _ _ (unhide HK5)).mono ?_; rintro e w6 ⟨nd6, a5, c5, rfl, hk, _⟩; have HK6 := hide hk; clear hk) | (go_at_call 195; refine (unhide K1 _ _ _ (unhide HK6)).mono ?_; rintro e w7 ⟨rfl, hk, _⟩; have HK7 := hide hk; clear hk) | (go_at_call 161; refine (unhide K2 _ _ _ _ (unhide HK7)).mono ?_; rintro e w8 ⟨z, v, rfl, hg⟩; have HF := hide hg; clear hg))
  go_ret2
  exact unhide HF

end
end Go.Proofs.YtmgjicgojlkpcaaGreatDoor
