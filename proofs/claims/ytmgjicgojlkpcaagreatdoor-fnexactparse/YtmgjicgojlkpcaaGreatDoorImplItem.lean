import Derived.Test.YtmgjicgojlkpcaaGreatDoorImplSib
namespace Go.Proofs.YtmgjicgojlkpcaaGreatDoor
open Go.RowKit

section
variable {Z w w0 w1 : World} {p i j : Nat} {nd nd0 nd1 v : Value} {zs : List Int} {xs ys : List NodeC} {bx : List Nat} {ls : List (List NodeD)} {ta : Option Addr} {tn tc bytes : Nat} {ts : List Tok}

/-- isExpr of a node as it lies. -/
theorem isExprV (k : Int) (x1 x2 x3 x4 x5 : Value) (r : Bool) (hr : isE k = r) (W : World) : Calls Tryz.prog 64 #[.agg #[.int .i64 k, x1, x2, x3, x4, x5]] W fun e w' => e = .returned (.bool r) ∧ Below W.heap.size W w' := by rw [← hr]; exact isExpr_any k x1 x2 x3 x4 x5 W

/-- The root of the tree that was put last, as it lies. -/
theorem KT.rootAt {t : List NodeD} (h : KT Z p ta tn tc bytes w0 nd0 xs bx [t] i w nd v zs) (hw : WF t) (hl : xs.length + t.length ≤ 1048576) : ∃ b off n c e x1 x2 x3 x4 x5, nd = .slice (some ⟨b, off, none⟩) n c ∧ e < n ∧ n ≤ 1048576 ∧ ((e : Nat) : Int) = ((xs.length + (rowT [t]).length : Nat) : Int) - 1 ∧ b < w.heap.size ∧ w.cell? ⟨b, off + e * 6, none⟩ = some (.int .i64 (rootK t)) ∧ w.cell? ⟨b, off + e * 6 + 1, none⟩ = some (.int .i64 x1) ∧ w.cell? ⟨b, off + e * 6 + 2, none⟩ = some (.int .i64 x2) ∧ w.cell? ⟨b, off + e * 6 + 3, none⟩ = some (.string x3) ∧ w.cell? ⟨b, off + e * 6 + 4, none⟩ = some x4 ∧ w.cell? ⟨b, off + e * 6 + 5, none⟩ = some x5 := by
  obtain ⟨a, n, c, ns, e, rfl, hrow, he, hez, ht⟩ := h.treeAt hw hl
  have hs := hrow.small
  obtain ⟨b, off, rfl, hlt, s1, n1, c1, s2, n2, c2, e0, e1, e2, e3, e4, e5, _, _⟩ := hrow.get he
  rw [ht.root.1] at e0
  exact ⟨b, off, n, c, e, _, _, _, _, _, rfl, he, hs, hez, hlt, e0, e1, e2, e3, e4, e5⟩

set_option maxRecDepth 20000 in
set_option maxHeartbeats 4000000 in
theorem item_bad (h : IPS Z p ta tn tc bytes w i nd xs) (hroom : xs.length + 4 * (5000 - i) ≤ 100000) {q : Nat} {l : List (List NodeD)} (hO : ReadI Z p ta tn tc ts bytes 102 #[.pointer (some ⟨p, 0, none⟩)] i (false, q, l)) :
    Calls Tryz.prog 215 #[.pointer (some ⟨p, 0, none⟩)] w (GaveI Z p ta tn tc ts bytes w nd xs (false, q, [])) := by
  have HK := hide (KT.start h)
  have K0 := hide (fun (V : World) (n : Value) (hk : KT Z p ta tn tc bytes w nd xs [] [] i V n nilL []) => hk.readNo hO (by show _ + 0 + _ ≤ _; omega))
  clear h hO
  go_enter Tryz.func215, Tryz.ntmps215
  go_wp2_with (go_at_call 102; refine (unhide K0 _ _ (unhide HK)).mono ?_; rintro e w5 ⟨b, z, rfl, hf, hb⟩; have HF := hide (And.intro hf hb); clear hf hb; delta faultV)
  go_ret2
  exact gave_fault 0 rfl (unhide HF).1 (unhide HF).2

set_option maxRecDepth 20000 in
set_option maxHeartbeats 4000000 in
theorem item_ne (h : IPS Z p ta tn tc bytes w i nd xs) (hroom : xs.length + 4 * (5000 - i) ≤ 100000) {q : Nat} {t : List NodeD} (hw : WF t) (hO : ReadI Z p ta tn tc ts bytes 102 #[.pointer (some ⟨p, 0, none⟩)] i (true, q, [t])) (h1 : isE (rootK t) = false) (hq : xs.length + (rowT [t]).length + 4 * (5000 - q) ≤ 100000) :
    Calls Tryz.prog 215 #[.pointer (some ⟨p, 0, none⟩)] w (GaveI Z p ta tn tc ts bytes w nd xs (true, q, [t])) := by
  have HK := hide (KT.start h)
  have K0 := hide (fun (V : World) (n : Value) (hk : KT Z p ta tn tc bytes w nd xs [] [] i V n nilL []) => hk.read hO (by show _ + 0 + _ ≤ _; omega))
  have K1 := hide (fun (V : World) (n : Value) (hk : KT Z p ta tn tc bytes w nd xs [] [t] q V n nilL []) => hk.rootAt hw (by rw [row_one] at hq; omega))
  have K2 := hide (fun x1 x2 x3 x4 x5 W => isExprV (rootK t) x1 x2 x3 x4 x5 false h1 W)
  obtain ⟨k, hk⟩ : ∃ k, rootK t = k := ⟨_, rfl⟩
  rw [hk] at K1 K2
  clear h hO h1 hk
  go_enter Tryz.func215, Tryz.ntmps215
  go_wp2_with (first | (go_at_call 102; refine (unhide K0 _ _ (unhide HK)).mono ?_; rintro e w5 ⟨z1, nd', rfl, hz, hk, _⟩; clear HK K0; obtain ⟨b, off, n, c, ee, x1, x2, x3, x4, x5, rfl, hlt, hn, hez, hbl, e0, e1, e2, e3, e4, e5⟩ := unhide K1 _ _ hk; have HZ := hide hz; obtain rfl : z1 = ((ee : Nat) : Int) := hz.trans hez.symm; obtain ⟨p0, p1, p2, p3, f0, f1, f2, f3, hpl⟩ := hk.all; have HK := hide hk; have hlt' : ((ee : Nat) : Int) < ((n : Nat) : Int) := Int.ofNat_lt.2 hlt; clear hk hz hez K1) | (go_at_call 64; refine (unhide K2 _ _ _ _ _ _).mono ?_; rintro e w6 ⟨rfl, hb⟩; have HK' := hide ((unhide HK).below hb); clear HK hb; have HK := HK'; clear HK'))
  go_ret2
  exact (unhide HK).gave rfl (unhide HZ)

set_option maxRecDepth 20000 in
set_option maxHeartbeats 4000000 in
theorem item_nc (E : IEnv Z ta tn ts bytes) (h : IPS Z p ta tn tc bytes w i nd xs) (hroom : xs.length + 4 * (5000 - i) ≤ 100000) {q : Nat} (hq4 : q ≤ 4100) {t : List NodeD} (hw : WF t) (hO : ReadI Z p ta tn tc ts bytes 102 #[.pointer (some ⟨p, 0, none⟩)] i (true, q, [t])) (h1 : isE (rootK t) = true) (h2 : (seenT ts).cl q ≠ 58) (hq : xs.length + (rowT [t]).length + 4 * (5000 - q) ≤ 100000) :
    Calls Tryz.prog 215 #[.pointer (some ⟨p, 0, none⟩)] w (GaveI Z p ta tn tc ts bytes w nd xs (true, q, [t])) := by
  have HK := hide (KT.start h)
  have K0 := hide (fun (V : World) (n : Value) (hk : KT Z p ta tn tc bytes w nd xs [] [] i V n nilL []) => hk.read hO (by show _ + 0 + _ ≤ _; omega))
  have K1 := hide (fun (V : World) (n : Value) (hk : KT Z p ta tn tc bytes w nd xs [] [t] q V n nilL []) => hk.rootAt hw (by rw [row_one] at hq; omega))
  have K2 := hide (fun x1 x2 x3 x4 x5 W => isExprV (rootK t) x1 x2 x3 x4 x5 true h1 W)
  have K3 := hide (fun (V : World) (n : Value) (hk : KT Z p ta tn tc bytes w nd xs [] [t] q V n nilL []) => hk.via fun _ hX => takeNoM E (MidP.start hX) (by omega) (c := 58) (by decide) (s := ⟨#[58]⟩) (by kernel_rfl) h2)
  obtain ⟨k, hk⟩ : ∃ k, rootK t = k := ⟨_, rfl⟩
  rw [hk] at K1 K2
  clear h hO h1 hk h2
  go_enter Tryz.func215, Tryz.ntmps215
  go_wp2_with (first | (go_at_call 102; refine (unhide K0 _ _ (unhide HK)).mono ?_; rintro e w5 ⟨z1, nd', rfl, hz, hk, _⟩; clear HK K0; obtain ⟨b, off, n, c, ee, x1, x2, x3, x4, x5, rfl, hlt, hn, hez, hbl, e0, e1, e2, e3, e4, e5⟩ := unhide K1 _ _ hk; have HZ := hide hz; obtain rfl : z1 = ((ee : Nat) : Int) := hz.trans hez.symm; obtain ⟨p0, p1, p2, p3, f0, f1, f2, f3, hpl⟩ := hk.all; have HK := hide hk; have hlt' : ((ee : Nat) : Int) < ((n : Nat) : Int) := Int.ofNat_lt.2 hlt; clear hk hz hez K1) | (go_at_call 64; refine (unhide K2 _ _ _ _ _ _).mono ?_; rintro e w6 ⟨rfl, hb⟩; have HK' := hide ((unhide HK).below hb); clear HK hb; have HK := HK'; clear HK') | (go_at_call 157; refine (unhide K3 _ _ (unhide HK)).mono ?_; rintro e w7 ⟨rfl, hk, _⟩; clear HK; have HK := hide hk; clear hk))
  go_ret2
  exact (unhide HK).gave rfl (unhide HZ)

set_option maxRecDepth 20000 in
set_option maxHeartbeats 4000000 in
theorem item_end (E : IEnv Z ta tn ts bytes) (h : IPS Z p ta tn tc bytes w i nd xs) (hroom : xs.length + 4 * (5000 - i) ≤ 100000) {q : Nat} (hq4 : q ≤ 4100) {t : List NodeD} (hw : WF t) (hO : ReadI Z p ta tn tc ts bytes 102 #[.pointer (some ⟨p, 0, none⟩)] i (true, q, [t])) (h1 : isE (rootK t) = true) (h2 : (seenT ts).cl q = 58) (hq : xs.length + (rowT [t]).length + 4 * (5000 - q) ≤ 100000)
    {R : Nat → Nat → List NodeD → Option Res} (hX : ∀ r, R 0 (q + 1) [] = some r → ReadI Z p ta tn tc ts bytes 166 #[.pointer (some ⟨p, 0, none⟩)] (q + 1) r) (hone : ∀ q2 l2, R 0 (q + 1) [] = some (true, q2, l2) → ∃ t, l2 = [t] ∧ q2 ≤ ts.length ∧ q + 1 ≤ q2 ∧ t.length ≤ 4 * (q2 - (q + 1))) (htl : ts.length ≤ 4096) {r : Res} (hr : endS R 24 0 ⟨#[]⟩ [t] (q + 1) = some r) :
    Calls Tryz.prog 215 #[.pointer (some ⟨p, 0, none⟩)] w (GaveI Z p ta tn tc ts bytes w nd xs r) := by
  have HK := hide (KT.start h)
  have K0 := hide (fun (V : World) (n : Value) (hk : KT Z p ta tn tc bytes w nd xs [] [] i V n nilL []) => hk.read hO (by show _ + 0 + _ ≤ _; omega))
  have K1 := hide (fun (V : World) (n : Value) (hk : KT Z p ta tn tc bytes w nd xs [] [t] q V n nilL []) => hk.rootAt hw (by rw [row_one] at hq; omega))
  have K2 := hide (fun x1 x2 x3 x4 x5 W => isExprV (rootK t) x1 x2 x3 x4 x5 true h1 W)
  have K3 := hide (fun (V : World) (n : Value) (hk : KT Z p ta tn tc bytes w nd xs [] [t] q V n nilL []) => hk.via fun _ hX => takeYesM E (MidP.start hX) (by omega) (c := 58) (by decide) (s := ⟨#[58]⟩) (by kernel_rfl) h2)
  have K4 := hide (fun (V : World) (n : Value) (z1 : Int) (hz1 : z1 = ((xs.length + (rowT ([] ++ [t])).length : Nat) : Int) - 1) (c : Nat) (b : Option Addr) (hk : KT Z p ta tn tc bytes w nd xs [] [t] (q + 1) V n (.slice b ([z1] : List Int).length c) [z1]) => endP (ls := [t]) (L := [z1]) (by show [z1] = placesT xs.length [t]; rw [places_one, hz1]; congr 1; show ((xs.length + (rowT [t]).length : Nat) : Int) - 1 = _; rw [row_one]) hk 24 0 ⟨#[]⟩ hX hone htl (by omega) (by show 1 ≤ 100000; omega) hr)
  obtain ⟨k, hk⟩ : ∃ k, rootK t = k := ⟨_, rfl⟩
  rw [hk] at K1 K2
  clear h hO h1 hk h2 hX hone hr
  go_enter Tryz.func215, Tryz.ntmps215
  go_wp2_with (first | (go_at_call 102; refine (unhide K0 _ _ (unhide HK)).mono ?_; rintro e w5 ⟨z1, nd', rfl, hz, hk, _⟩; clear HK K0; obtain ⟨b, off, n, c, ee, x1, x2, x3, x4, x5, rfl, hlt, hn, hez, hbl, e0, e1, e2, e3, e4, e5⟩ := unhide K1 _ _ hk; have HZ := hide hz; obtain rfl : z1 = ((ee : Nat) : Int) := hz.trans hez.symm; obtain ⟨p0, p1, p2, p3, f0, f1, f2, f3, hpl⟩ := hk.all; have HK := hide hk; have hlt' : ((ee : Nat) : Int) < ((n : Nat) : Int) := Int.ofNat_lt.2 hlt; clear hk hz hez K1) | (go_at_call 64; refine (unhide K2 _ _ _ _ _ _).mono ?_; rintro e w6 ⟨rfl, hb⟩; have HK' := hide ((unhide HK).below hb); clear HK hb; have HK := HK'; clear HK') | (go_at_call 157; refine (unhide K3 _ _ (unhide HK)).mono ?_; rintro e w7 ⟨rfl, hk, _⟩; clear HK; have HK := hide (hk.list [((ee : Nat) : Int)] (by show 1 ≤ 100; omega)); clear hk) | (go_at_call 161; refine (unhide K4 _ _ _ (unhide HZ) _ _ (unhide HK)).mono ?_; rintro e w8 ⟨z, v, rfl, hg⟩; have HF := hide hg; clear hg))
  go_ret2
  exact unhide HF

end
end Go.Proofs.YtmgjicgojlkpcaaGreatDoor
