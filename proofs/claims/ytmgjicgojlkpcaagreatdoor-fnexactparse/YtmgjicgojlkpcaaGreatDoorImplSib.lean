import Derived.Test.YtmgjicgojlkpcaaGreatDoorImplStmtQ
import Derived.Test.YtmgjicgojlkpcaaGreatDoorImplSel
import Derived.Test.YtmgjicgojlkpcaaGreatDoorPRow
namespace Go.Proofs.YtmgjicgojlkpcaaGreatDoor
open Go.RowKit

section
variable {Z w w0 w1 : World} {p i j : Nat} {nd nd0 nd1 v : Value} {zs : List Int} {xs ys : List NodeC} {bx : List Nat} {ls : List (List NodeD)} {ta : Option Addr} {tn tc bytes : Nat} {ts : List Tok}

/-- The tree that was put last, among the nodes. -/
theorem KT.treeAt {t : List NodeD} (h : KT Z p ta tn tc bytes w0 nd0 xs bx [t] i w nd v zs) (hw : WF t) (hl : xs.length + t.length ≤ 1048576) : ∃ a n c ns e, nd = .slice a n c ∧ NRowW w a n ns ∧ e < n ∧ ((e : Nat) : Int) = ((xs.length + (rowT [t]).length : Nat) : Int) - 1 ∧ TreeAt ns e t := by
  obtain ⟨XS, hX, hXl, hXd⟩ := h.ps
  have h1 := hw.self.lt
  rw [row_one] at hXl
  obtain ⟨a, c, rfl, hr⟩ := hX.nrow (by omega)
  have ht := hw.behind (xs.map NodeC.d)
  rw [List.length_map] at ht
  rw [hXd, rowT_one] at hr
  exact ⟨a, _, c, _, _, rfl, hr, by omega, by rw [row_one]; omega, ht⟩

theorem selK {t : List NodeD} (h : KT Z p ta tn tc bytes w0 nd0 xs bx [t] i w nd v zs) (hw : WF t) (hl : xs.length + t.length ≤ 1048576) {z : Int} (hz : z = ((xs.length + (rowT [t]).length : Nat) : Int) - 1) {r : Bool} (hr : selT t = r) :
    Calls Tryz.prog 69 #[.agg #[nd], .int .i64 z] w fun e w' => e = .returned (.bool r) ∧ KT Z p ta tn tc bytes w0 nd0 xs bx [t] i w' nd v zs := by
  obtain ⟨a, n, c, ns, e, rfl, hrow, he, hez, ht⟩ := h.treeAt hw hl
  rw [hz, ← hez, ← hr, ← ht.sel]
  exact (isSel_any a n c ns w hrow e he ht.selOk).mono fun _ _ h' => ⟨h'.1, h.below h'.2⟩

set_option maxRecDepth 20000 in
set_option maxHeartbeats 4000000 in
theorem sib_bad (h : IPS Z p ta tn tc bytes w i nd xs) (hroom : xs.length + 4 * (5000 - i) ≤ 100000) {q : Nat} {l : List (List NodeD)} (hO : ReadI Z p ta tn tc ts bytes 196 #[.pointer (some ⟨p, 0, none⟩)] i (false, q, l)) :
    Calls Tryz.prog 165 #[.pointer (some ⟨p, 0, none⟩)] w (GaveI Z p ta tn tc ts bytes w nd xs (false, q, [])) := by
  have HK := hide (KT.start h)
  have K0 := hide (fun (V : World) (n : Value) (hk : KT Z p ta tn tc bytes w nd xs [] [] i V n nilL []) => hk.readNo hO (by show _ + 0 + _ ≤ _; omega))
  clear h hO
  go_enter Tryz.func165, Tryz.ntmps165
  go_wp2_with (go_at_call 196; refine (unhide K0 _ _ (unhide HK)).mono ?_; rintro e w5 ⟨b, z, rfl, hf, hb⟩; have HF := hide (And.intro hf hb); clear hf hb; delta faultV)
  go_ret2
  exact gave_fault 0 rfl (unhide HF).1 (unhide HF).2

set_option maxRecDepth 20000 in
set_option maxHeartbeats 4000000 in
theorem sib_from (E : IEnv Z ta tn ts bytes) (h : IPS Z p ta tn tc bytes w i nd xs) (hroom : xs.length + 4 * (5000 - i) ≤ 100000) {q : Nat} (hq4 : q ≤ 4100) {t : List NodeD} (hO : ReadI Z p ta tn tc ts bytes 196 #[.pointer (some ⟨p, 0, none⟩)] i (true, q, [t])) (h1 : (seenT ts).cl q ≠ 8592) {r : Res} (hY : FromI Z p ta tn tc ts bytes q t r) (hq : xs.length + (rowT [t]).length + 4 * (5000 - q) ≤ 100000) :
    Calls Tryz.prog 165 #[.pointer (some ⟨p, 0, none⟩)] w (GaveI Z p ta tn tc ts bytes w nd xs r) := by
  have HK := hide (KT.start h)
  have K0 := hide (fun (V : World) (n : Value) (hk : KT Z p ta tn tc bytes w nd xs [] [] i V n nilL []) => hk.read hO (by show _ + 0 + _ ≤ _; omega))
  have K1 := hide (fun (V : World) (n : Value) (hk : KT Z p ta tn tc bytes w nd xs [] [t] q V n nilL []) => hk.via fun _ hX => isNoM E (MidP.start hX) (by omega) (c := 8592) (by decide) (s := ⟨#[226, 134, 144]⟩) (by kernel_rfl) h1)
  have K2 := hide (fun (V : World) (n : Value) (hk : KT Z p ta tn tc bytes w nd xs [] [t] q V n nilL []) => (hY _ _ _ _ _ hk hq).mono fun _ _ h => h.tup)
  clear h hO hY h1
  go_enter Tryz.func165, Tryz.ntmps165
  go_wp2_with (first | (go_at_call 196; refine (unhide K0 _ _ (unhide HK)).mono ?_; rintro e w5 ⟨z1, nd', rfl, hz, hk, _⟩; clear HK K0; have HK := hide hk; have HZ1 := hide hz; clear hk hz) | (go_at_call 191; refine (unhide K1 _ _ (unhide HK)).mono ?_; rintro e w5 ⟨rfl, hk, _⟩; clear HK K1; have HK := hide hk; clear hk) | (go_at_call 197; rw [unhide HZ1]; refine (unhide K2 _ _ (unhide HK)).mono ?_; rintro e w5 ⟨z, v, rfl, hg⟩; have HF := hide hg; clear hg))
  go_ret2
  exact unhide HF

set_option maxRecDepth 20000 in
set_option maxHeartbeats 4000000 in
theorem sib_no (E : IEnv Z ta tn ts bytes) (h : IPS Z p ta tn tc bytes w i nd xs) (hroom : xs.length + 4 * (5000 - i) ≤ 100000) {q : Nat} (hq4 : q ≤ 4100) {t : List NodeD} (hw : WF t) (hO : ReadI Z p ta tn tc ts bytes 196 #[.pointer (some ⟨p, 0, none⟩)] i (true, q, [t])) (h1 : (seenT ts).cl q = 8592) (hs : selT t = false) (hq : xs.length + (rowT [t]).length + 4 * (5000 - q) ≤ 100000) :
    Calls Tryz.prog 165 #[.pointer (some ⟨p, 0, none⟩)] w (GaveI Z p ta tn tc ts bytes w nd xs (false, q, [])) := by
  have HK := hide (KT.start h)
  have K0 := hide (fun (V : World) (n : Value) (hk : KT Z p ta tn tc bytes w nd xs [] [] i V n nilL []) => hk.read hO (by show _ + 0 + _ ≤ _; omega))
  have K1 := hide (fun (V : World) (n : Value) (hk : KT Z p ta tn tc bytes w nd xs [] [t] q V n nilL []) => hk.via fun _ hX => isYesM E (MidP.start hX) (by omega) (c := 8592) (by decide) (s := ⟨#[226, 134, 144]⟩) (by kernel_rfl) h1)
  have K2 := hide (fun (V : World) (n : Value) (z : Int) (hz : z = ((xs.length + (rowT ([] ++ [t])).length : Nat) : Int) - 1) (hk : KT Z p ta tn tc bytes w nd xs [] [t] q V n nilL []) => selK hk hw (by rw [row_one] at hq; omega) hz hs)
  have K3 := hide (fun (V : World) (n : Value) (hk : KT Z p ta tn tc bytes w nd xs [] [t] q V n nilL []) => hk.no (e0 := fun b => .returned (faultV b)) fun _ hX => refuseM E (MidP.start hX) (by omega))
  clear h hO h1
  go_enter Tryz.func165, Tryz.ntmps165
  go_wp2_with (first | (go_at_call 196; refine (unhide K0 _ _ (unhide HK)).mono ?_; rintro e w5 ⟨z1, nd', rfl, hz, hk, _⟩; clear HK K0; have HK := hide hk; have HZ1 := hide hz; clear hk hz) | (go_at_call 191; refine (unhide K1 _ _ (unhide HK)).mono ?_; rintro e w5 ⟨rfl, hk, _⟩; clear HK K1; obtain ⟨p0, p1, p2, p3, f0, f1, f2, f3, hpl⟩ := hk.all; have HK := hide hk; clear hk) | (go_at_call 69; refine (unhide K2 _ _ _ (unhide HZ1) (unhide HK)).mono ?_; rintro e w6 ⟨rfl, hk⟩; clear HK K2; have HK := hide hk; clear hk) | (go_at_call 103; refine (unhide K3 _ _ (unhide HK)).mono ?_; rintro e w7 ⟨b, rfl, hf, hb⟩; have HF := hide (And.intro hf hb); clear hf hb; delta faultV))
  go_ret2
  exact gave_fault 0 rfl (unhide HF).1 (unhide HF).2

set_option maxRecDepth 20000 in
set_option maxHeartbeats 4000000 in
theorem sib_end (E : IEnv Z ta tn ts bytes) (h : IPS Z p ta tn tc bytes w i nd xs) (hroom : xs.length + 4 * (5000 - i) ≤ 100000) {q : Nat} (hq4 : q ≤ 4100) {t : List NodeD} (hw : WF t) (hO : ReadI Z p ta tn tc ts bytes 196 #[.pointer (some ⟨p, 0, none⟩)] i (true, q, [t])) (h1 : (seenT ts).cl q = 8592) (hs : selT t = true) (hq : xs.length + (rowT [t]).length + 4 * (5000 - q) ≤ 100000)
    {R : Nat → Nat → List NodeD → Option Res} (hX : ∀ r, R 0 (q + 1) [] = some r → ReadI Z p ta tn tc ts bytes 166 #[.pointer (some ⟨p, 0, none⟩)] (q + 1) r) (hone : ∀ q2 l2, R 0 (q + 1) [] = some (true, q2, l2) → ∃ t, l2 = [t] ∧ q2 ≤ ts.length ∧ q + 1 ≤ q2 ∧ t.length ≤ 4 * (q2 - (q + 1))) (htl : ts.length ≤ 4096) {r : Res} (hr : endS R 23 0 ⟨#[]⟩ [t] (q + 1) = some r) :
    Calls Tryz.prog 165 #[.pointer (some ⟨p, 0, none⟩)] w (GaveI Z p ta tn tc ts bytes w nd xs r) := by
  have HK := hide (KT.start h)
  have K0 := hide (fun (V : World) (n : Value) (hk : KT Z p ta tn tc bytes w nd xs [] [] i V n nilL []) => hk.read hO (by show _ + 0 + _ ≤ _; omega))
  have K1 := hide (fun (V : World) (n : Value) (hk : KT Z p ta tn tc bytes w nd xs [] [t] q V n nilL []) => hk.via fun _ hX => isYesM E (MidP.start hX) (by omega) (c := 8592) (by decide) (s := ⟨#[226, 134, 144]⟩) (by kernel_rfl) h1)
  have K2 := hide (fun (V : World) (n : Value) (z : Int) (hz : z = ((xs.length + (rowT ([] ++ [t])).length : Nat) : Int) - 1) (hk : KT Z p ta tn tc bytes w nd xs [] [t] q V n nilL []) => selK hk hw (by rw [row_one] at hq; omega) hz hs)
  have K3 := hide (fun (V : World) (n : Value) (z1 : Int) (hz1 : z1 = ((xs.length + (rowT ([] ++ [t])).length : Nat) : Int) - 1) (c : Nat) (b : Option Addr) (hk : KT Z p ta tn tc bytes w nd xs [] [t] (q + 1) V n (.slice b ([z1] : List Int).length c) [z1]) => endP (ls := [t]) (L := [z1]) (by show [z1] = placesT xs.length [t]; rw [places_one, hz1]; congr 1; show ((xs.length + (rowT [t]).length : Nat) : Int) - 1 = _; rw [row_one]) hk 23 0 ⟨#[]⟩ hX hone htl (by omega) (by show 1 ≤ 100000; omega) hr)
  have hw1 : IntKind.i64.wrap ((q : Int) + 1) = (q : Int) + 1 := by rw [IntKind.wrap_i64]; omega
  clear h hO h1 hX hone hr
  go_enter Tryz.func165, Tryz.ntmps165
  go_wp2_with (first | (go_at_call 196; refine (unhide K0 _ _ (unhide HK)).mono ?_; rintro e w5 ⟨z1, nd', rfl, hz, hk, _⟩; clear HK K0; have HK := hide hk; have HZ1 := hide hz; clear hk hz) | (go_at_call 191; refine (unhide K1 _ _ (unhide HK)).mono ?_; rintro e w5 ⟨rfl, hk, _⟩; clear HK K1; obtain ⟨p0, p1, p2, p3, f0, f1, f2, f3, hpl⟩ := hk.all; have HK := hide hk; clear hk) | (go_at_call 69; refine (unhide K2 _ _ _ (unhide HZ1) (unhide HK)).mono ?_; rintro e w6 ⟨rfl, hk⟩; clear HK K2 p0 p1 p2 p3 f0 f1 f2 f3 hpl; obtain ⟨p0, p1, p2, p3, f0, f1, f2, f3, hpl⟩ := hk.all; have hk9 := (hk.step 1 ((q : Int) + 1) (by omega)).list [z1] (by show 1 ≤ 100; omega); rw [show (w6.setCell ⟨p, 1, none⟩ (.int .i64 ((q : Int) + 1))).heap.size = w6.heap.size by simp] at hk9; have HK := hide hk9; clear hk hk9) | (go_at_call 161; refine (unhide K3 _ _ _ (unhide HZ1) _ _ (unhide HK)).mono ?_; rintro e w8 ⟨z, v, rfl, hg⟩; have HF := hide hg; clear hg))
  go_ret2
  exact unhide HF

end
end Go.Proofs.YtmgjicgojlkpcaaGreatDoor
