import Derived.Test.YtmgjicgojlkpcaaGreatDoorImplItem
namespace Go.Proofs.YtmgjicgojlkpcaaGreatDoor
open Go.RowKit

section
variable {Z w w0 w1 : World} {p i j : Nat} {nd nd0 nd1 v : Value} {zs : List Int} {xs ys : List NodeC} {bx : List Nat} {ls : List (List NodeD)} {ta : Option Addr} {tn tc bytes : Nat} {ts : List Tok}

set_option maxRecDepth 20000 in
set_option maxHeartbeats 4000000 in
theorem line_none (h : IPS Z p ta tn tc bytes w 0 nd xs) (hn : tn = 0) (hl : xs.length ≤ 1000) :
    Calls Tryz.prog 48 #[.pointer (some ⟨p, 0, none⟩)] w fun e w' => e = .returned .nilIface ∧ ∃ nd', KT Z p ta tn tc bytes w nd xs [] [treeN 25 0 0 ⟨#[]⟩ [] []] 0 w' nd' nilL [] := by
  subst hn
  have HK := hide (KT.start h)
  obtain ⟨p0, p1, p2, p3, f0, f1, f2, f3, hpl⟩ := h.all
  have HL : Hid (xs.length + (rowT ([] : List (List NodeD))).length ≤ 1048576) := by show xs.length + 0 ≤ _; omega
  clear h
  go_enter Tryz.func48, Tryz.ntmps48
  go_wp2_with fail
  go_quiet (fail)
  go_wp2_with (go_at_call 104; refine (KT.put (ls := []) ((unhide HK).below (by repeat (first | exact Below.refl _ _ | refine Below.drewN ?_ _ | refine Below.drew ?_))) 25 0 0 ⟨#[]⟩ (unhide HL)).mono ?_; rintro e w6 ⟨rfl, nd6, hk⟩; have HK6 := hide hk; clear hk)
  go_ret
  exact ⟨rfl, nd6, unhide HK6⟩

set_option maxRecDepth 20000 in
set_option maxHeartbeats 4000000 in
theorem line_bad (h : IPS Z p ta tn tc bytes w 0 nd xs) (hroom : xs.length + 4 * (5000 - 0) ≤ 100000) (hn : 0 < tn) {q : Nat} {l : List (List NodeD)} (hB : ListI Z p ta tn tc ts bytes 101 #[.pointer (some ⟨p, 0, none⟩), .string ⟨#[226, 139, 132]⟩, .func (.func 102) #[.pointer (some ⟨p, 0, none⟩)] #[]] 0 (false, q, l)) :
    Calls Tryz.prog 48 #[.pointer (some ⟨p, 0, none⟩)] w fun e w' => ∃ b, e = .returned (faultV b) ∧ IsFault w' b (tokA ts bytes q).p ∧ Below Z.heap.size Z w' := by
  have HK := hide (KT.start h)
  obtain ⟨p0, p1, p2, p3, f0, f1, f2, f3, hpl⟩ := h.all
  have hn' : (0 : Int) < (tn : Int) := by omega
  have K0 := hide (fun (V : World) (n u : Value) (hk : KT Z p ta tn tc bytes w nd xs [] [] 0 V n u []) => KT.readLNo hB hk (by show _ + 0 + _ ≤ _; omega))
  clear h hB hn
  go_enter Tryz.func48, Tryz.ntmps48
  go_wp2_with (go_at_call 101; refine (unhide K0 _ _ _ (unhide HK)).mono ?_; rintro e w6 ⟨b, a5, n5, c5, rfl, hf, hb⟩; have HF := hide (And.intro hf hb); clear hf hb; delta faultV)
  go_ret
  exact ⟨b, rfl, (unhide HF).1, (unhide HF).2⟩

set_option maxRecDepth 20000 in
set_option maxHeartbeats 4000000 in
theorem line_more (E : IEnv Z ta tn ts bytes) (h : IPS Z p ta tn tc bytes w 0 nd xs) (hroom : xs.length + 4 * (5000 - 0) ≤ 100000) (hn : 0 < tn) {q : Nat} (hq4 : q ≤ 4100) {l : List (List NodeD)} (hB : ListI Z p ta tn tc ts bytes 101 #[.pointer (some ⟨p, 0, none⟩), .string ⟨#[226, 139, 132]⟩, .func (.func 102) #[.pointer (some ⟨p, 0, none⟩)] #[]] 0 (true, q, l)) (hq : q < tn) :
    Calls Tryz.prog 48 #[.pointer (some ⟨p, 0, none⟩)] w fun e w' => ∃ b, e = .returned (faultV b) ∧ IsFault w' b (tokA ts bytes q).p ∧ Below Z.heap.size Z w' := by
  have HK := hide (KT.start h)
  obtain ⟨p0, p1, p2, p3, f0, f1, f2, f3, hpl⟩ := h.all
  have hn' : (0 : Int) < (tn : Int) := by omega
  have hl : decide (q < tn) = true := decide_eq_true hq
  have hl2 : (q : Int) < (tn : Int) := by omega
  have K0 := hide (fun (V : World) (n u : Value) (hk : KT Z p ta tn tc bytes w nd xs [] [] 0 V n u []) => KT.readL hB hk (by show _ + 0 + _ ≤ _; omega))
  obtain ⟨L, hL⟩ : ∃ L, placesT xs.length l = L := ⟨_, rfl⟩
  have e0 : placesT (xs.length + (rowT ([] : List (List NodeD))).length) l = L := hL
  rw [e0] at K0
  have K3 := hide (fun (V : World) (n u : Value) (hk : KT Z p ta tn tc bytes w nd xs [] ([] ++ l) q V n u L) => hk.no (e0 := fun b => .returned (faultV b)) fun _ hX => refuseM E (MidP.start hX) (by omega))
  clear h hB hn e0 hL hq
  go_enter Tryz.func48, Tryz.ntmps48
  go_wp2_with (go_at_call 101; refine (unhide K0 _ _ _ (unhide HK)).mono ?_; rintro e w6 ⟨nd6, a5, c5, rfl, hk, _⟩; clear p0 p1 p2 p3 f0 f1 f2 f3 hpl; obtain ⟨p0, p1, p2, p3, f0, f1, f2, f3, hpl⟩ := hk.all; have HK6 := hide hk; clear hk)
  go_quiet (fail)
  go_wp2_with (go_at_call 103; refine (unhide K3 _ _ _ ((unhide HK6).below (by repeat (first | exact Below.refl _ _ | refine Below.drewN ?_ _ | refine Below.drew ?_)))).mono ?_; rintro e w7 ⟨b, rfl, hf, hb⟩; have HF := hide (And.intro hf hb); clear hf hb; delta faultV)
  go_ret
  exact ⟨b, rfl, (unhide HF).1, (unhide HF).2⟩

set_option maxRecDepth 20000 in
set_option maxHeartbeats 4000000 in
theorem line_ok (h : IPS Z p ta tn tc bytes w 0 nd xs) (hroom : xs.length + 4 * (5000 - 0) ≤ 100000) (hn : 0 < tn) {q : Nat} {l : List (List NodeD)} (hB : ListI Z p ta tn tc ts bytes 101 #[.pointer (some ⟨p, 0, none⟩), .string ⟨#[226, 139, 132]⟩, .func (.func 102) #[.pointer (some ⟨p, 0, none⟩)] #[]] 0 (true, q, l)) (hq : ¬ q < tn) (hrl : xs.length + (rowT l).length ≤ 1048576) :
    Calls Tryz.prog 48 #[.pointer (some ⟨p, 0, none⟩)] w fun e w' => e = .returned .nilIface ∧ ∃ nd', KT Z p ta tn tc bytes w nd xs [] [treeN 25 0 0 ⟨#[]⟩ [] l] q w' nd' nilL [] := by
  have HK := hide (KT.start h)
  obtain ⟨p0, p1, p2, p3, f0, f1, f2, f3, hpl⟩ := h.all
  have hn' : (0 : Int) < (tn : Int) := by omega
  have hl : decide (q < tn) = false := decide_eq_false hq
  have hl2 : ¬ (q : Int) < (tn : Int) := by omega
  have K0 := hide (fun (V : World) (n u : Value) (hk : KT Z p ta tn tc bytes w nd xs [] [] 0 V n u []) => KT.readL hB hk (by show _ + 0 + _ ≤ _; omega))
  obtain ⟨L, hL⟩ : ∃ L, placesT xs.length l = L := ⟨_, rfl⟩
  have e0 : placesT (xs.length + (rowT ([] : List (List NodeD))).length) l = L := hL
  rw [e0] at K0
  have HL := hide hL
  have HLN := hide hrl
  clear h hB hn e0 hL hq hrl
  go_enter Tryz.func48, Tryz.ntmps48
  go_wp2_with (go_at_call 101; refine (unhide K0 _ _ _ (unhide HK)).mono ?_; rintro e w6 ⟨nd6, a5, c5, rfl, hk, _⟩; clear p0 p1 p2 p3 f0 f1 f2 f3 hpl; obtain ⟨p0, p1, p2, p3, f0, f1, f2, f3, hpl⟩ := hk.all; have HK6 := hide hk; clear hk)
  go_quiet (fail)
  go_wp2_with (go_at_call 104; refine (KT.putL (ls := l) (unhide HL) ((unhide HK6).below (by repeat (first | exact Below.refl _ _ | refine Below.drewN ?_ _ | refine Below.drew ?_))) 25 0 0 ⟨#[]⟩ (unhide HLN)).mono ?_; rintro e w9 ⟨rfl, nd9, hk9⟩; have HK9 := hide hk9; clear hk9)
  go_ret
  exact ⟨rfl, nd9, unhide HK9⟩

end
end Go.Proofs.YtmgjicgojlkpcaaGreatDoor
