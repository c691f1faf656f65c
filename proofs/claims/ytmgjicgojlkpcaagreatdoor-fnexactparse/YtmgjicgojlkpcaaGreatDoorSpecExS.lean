import Derived.Test.YtmgjicgojlkpcaaGreatDoorSpecFnS
import Derived.Test.YtmgjicgojlkpcaaGreatDoorSpecPtS
namespace Go.Proofs.YtmgjicgojlkpcaaGreatDoor
open Go.RowKit

section
variable {Z w w0 w1 : World} {p i j q : Nat} {nd nd0 nd1 v : Value} {zs : List Int} {xs ys : List NodeC} {bx : List Nat} {ns : List NodeD} {ta : Option Addr} {tn tc : Nat} {ts : List Tok} {b b' g : Bool} {t : List NodeD}

/-- The tree of a place, and the answer. -/
theorem KS.gaveT {ez : Nat} (h : KS Z p ta tn tc w0 nd0 xs bx ns q false w nd v zs) (hiq : i ≤ q) (hl : ns.length + 1 ≤ xs.length + 4 * (q - i)) (ht : TreeAt ns ez t) : GaveS Z p ta tn tc w0 nd0 xs i true q t (.returned (.int .i64 (ez : Nat))) w :=
  KS.gave (g := true) h rfl hiq (by omega) fun _ => ⟨hl, ez, rfl, ht⟩

/-- A node over trees put, and the answer, whatever comes of the last. -/
theorem over_gave {NS : List NodeD} {zs1 : List Int} {m : Nat} (hm : m = NS.length) (k n : Int) (s : ByteArray) {es : List Nat} {ls : List (List NodeD)} (h : KS Z p ta tn tc w0 nd0 xs bx (NS ++ [⟨k, n, 0, s, [], zs⟩]) q (!g) w nd v zs1) (hiq : i ≤ q) (hl : NS.length + 1 ≤ xs.length + 4 * (q - i)) (ht : g = true → NS.length + 1 + 1 ≤ xs.length + 4 * (q - i) ∧ zs = castL es ∧ TreesAt NS es ls) (hc : cntOk k ls.length) : GaveS Z p ta tn tc w0 nd0 xs i g q (treeN k n 0 s [] ls) (.returned (.int .i64 (m : Nat))) w := by
  subst hm
  refine KS.gave h rfl hiq (by rw [List.length_append]; show _ + 1 ≤ _; omega) fun hg => ?_
  obtain ⟨h1, h2, h3⟩ := ht hg
  rw [h2]
  exact ⟨by rw [List.length_append]; show _ + 1 + 1 ≤ _; omega, NS.length, rfl, h3.put k n 0 s [] hc⟩


/-- What reads on behind an operand. -/
def RestP (Z : World) (p : Nat) (ta : Option Addr) (tn tc : Nat) (i : Nat) (t0 : List NodeD) (g : Bool) (q : Nat) (t : List NodeD) : Prop :=
  ∀ w nd xs (ez : Nat), SPS Z p ta tn tc false w i nd xs → xs.length + 4 * (5000 - i) ≤ 100000 → TreeAt (xs.map NodeC.d) ez t0 → Calls Tryz.prog 97 #[.pointer (some ⟨p, 0, none⟩), .int .i64 (ez : Nat)] w fun e w' => ∃ z nd' ds, e = .returned (.int .i64 z) ∧ KS Z p ta tn tc w nd xs [] (xs.map NodeC.d ++ ds) q (!g) w' nd' nilL [] ∧ i ≤ q ∧ ds.length ≤ 4 * (q - i) ∧ (g = true → ∃ e' : Nat, z = e' ∧ TreeAt (xs.map NodeC.d ++ ds) e' t)

/-- rest called under way. -/
theorem KS.rest {t0 : List NodeD} {ez : Nat} (hR : RestP Z p ta tn tc i t0 g q t) (h : KS Z p ta tn tc w0 nd0 xs bx ns i false w nd v zs) (hroom : ns.length + 4 * (5000 - i) ≤ 100000) (ht : TreeAt ns ez t0) :
    Calls Tryz.prog 97 #[.pointer (some ⟨p, 0, none⟩), .int .i64 (ez : Nat)] w fun e w' => ∃ z nd' ds, e = .returned (.int .i64 z) ∧ KS Z p ta tn tc w0 nd0 xs bx (ns ++ ds) q (!g) w' nd' v zs ∧ i ≤ q ∧ ds.length ≤ 4 * (q - i) ∧ (g = true → ∃ e' : Nat, z = e' ∧ TreeAt (ns ++ ds) e' t) := by
  obtain ⟨ys, hm, hd, ho, hf, hx⟩ := h
  have hl : (xs ++ ys).length = ns.length := by rw [← hd, List.length_map]
  refine (hR w nd (xs ++ ys) ez hm.ps (by rw [hl]; exact hroom) (by rw [hd]; exact ht)).mono ?_
  rintro e w' ⟨z, nd', ds, rfl, ⟨us, hm', hd', _⟩, hiq, hln, htt⟩
  have e1 : us.map NodeC.d = ds := by rw [List.map_append] at hd'; exact List.append_cancel_left hd'
  have := ks_go hm ho hf hx hm'
  rw [List.map_append, hd, e1] at this
  rw [hd] at htt
  exact ⟨z, nd', ds, rfl, this.1, hiq, hln, htt⟩

/-- rest where all is not well. -/
theorem rest_bad (h : SPS Z p ta tn tc true w i nd xs) (z : Int) : Calls Tryz.prog 97 #[.pointer (some ⟨p, 0, none⟩), .int .i64 z] w fun e w' => e = .returned (.int .i64 z) ∧ MidS Z p ta tn tc true w nd xs [] i w' nd := by
  have HM : Hid (MidS Z p ta tn tc true w nd xs [] i w nd) := MidP.start h
  obtain ⟨p0, p1, p2, p3, f0, f1, f2, f3, hpl⟩ := h.all
  clear h
  go_enter Tryz.func97, Tryz.ntmps97
  go_wp2_with fail
  go_ret
  exact ⟨rfl, unhide HM⟩


set_option maxRecDepth 20000 in
set_option maxHeartbeats 4000000 in
theorem rest_end (E : SEnv Z ta tn ts) (h : SPS Z p ta tn tc false w i nd xs) (hi : i ≤ 4100) (hroom : xs.length + 4 * (5000 - i) ≤ 100000) {ez : Nat} (h0 : endC ((seenT ts).cl i) = true) :
    Calls Tryz.prog 97 #[.pointer (some ⟨p, 0, none⟩), .int .i64 (ez : Nat)] w (fun e w' => e = .returned (.int .i64 (ez : Nat)) ∧ KS Z p ta tn tc w nd xs [] (xs.map NodeC.d) i false w' nd nilL []) := by
  have HK := hide (KS.start h)
  have hxl : (xs.map NodeC.d).length = xs.length := List.length_map ..
  obtain ⟨NS, hNS⟩ : ∃ NS, xs.map NodeC.d = NS := ⟨_, rfl⟩
  rw [hNS] at HK hxl
  have hxm : NS.length ≤ 100000 := by omega
  obtain ⟨p0, p1, p2, p3, f0, f1, f2, f3, hpl⟩ := h.all
  rw [hNS]
  have K1 := hide (fun (V : World) (n : Value) (hk : KS Z p ta tn tc w nd xs [] NS i false V n nilL []) => hk.via (e0 := .returned (.bool true)) fun _ hX => (spEnds E hX (by omega) (r := true) h0).mono fun _ _ h => ⟨h.1, (MidP.start hX).below h.2⟩)
  clear h hxl hxm h0 E
  go_enter Tryz.func97, Tryz.ntmps97
  go_wp2_with (first | (go_at_call 150; refine (unhide K1 _ _ (unhide HK)).mono ?_; clear K1; rintro e w5 ⟨rfl, hk, _⟩; clear HK; have HK := hide hk; clear hk))
  go_ret
  exact ⟨rfl, unhide HK⟩


set_option maxRecDepth 20000 in
set_option maxHeartbeats 4000000 in
theorem rest_fbad (E : SEnv Z ta tn ts) (h : SPS Z p ta tn tc false w i nd xs) (hi : i ≤ 4100) (hroom : xs.length + 4 * (5000 - i) ≤ 100000) {ez : Nat} (h0 : endC ((seenT ts).cl i) = false) (hR : ReadS Z p ta tn tc 146 #[.pointer (some ⟨p, 0, none⟩)] i false q t) :
    Calls Tryz.prog 97 #[.pointer (some ⟨p, 0, none⟩), .int .i64 (ez : Nat)] w (GaveS Z p ta tn tc w nd xs i false (q) ([])) := by
  have HK := hide (KS.start h)
  have hxl : (xs.map NodeC.d).length = xs.length := List.length_map ..
  obtain ⟨NS, hNS⟩ : ∃ NS, xs.map NodeC.d = NS := ⟨_, rfl⟩
  rw [hNS] at HK hxl
  have hxm : NS.length ≤ 100000 := by omega
  obtain ⟨p0, p1, p2, p3, f0, f1, f2, f3, hpl⟩ := h.all
  have K1 := hide (fun (V : World) (n : Value) (hk : KS Z p ta tn tc w nd xs [] NS i false V n nilL []) => hk.via (e0 := .returned (.bool false)) fun _ hX => (spEnds E hX (by omega) (r := false) h0).mono fun _ _ h => ⟨h.1, (MidP.start hX).below h.2⟩)
  have K2 := hide (fun (V : World) (n : Value) (hk : KS Z p ta tn tc w nd xs [] NS i false V n nilL []) => hk.read (hR) (by omega))
  have HXL := hide hxl
  clear h hxl hxm h0 hR E
  go_enter Tryz.func97, Tryz.ntmps97
  go_wp2_with (first | (go_at_call 150; refine (unhide K1 _ _ (unhide HK)).mono ?_; clear K1; rintro e w5 ⟨rfl, hk, _⟩; clear HK; have HK := hide hk; clear hk) | (go_at_call 146; refine (unhide K2 _ _ (unhide HK)).mono ?_; clear K2; rintro e w5 ⟨z, nd5, ds, rfl, hk, _, hiz, hlz, htz⟩; clear HK; have HIz := hide hiz; have HLz := hide hlz; have HTz := hide htz; clear hiz hlz htz; obtain ⟨p0, p1, p2, p3, f0, f1, f2, f3, hpl⟩ := hk.all; have HK := hide hk; clear hk))
  go_ret
  have hxl := unhide HXL
  exact bad_gave (by rw [List.length_append, hxl]; have := unhide HLz; omega) (unhide HK) (unhide HIz) _


set_option maxRecDepth 20000 in
set_option maxHeartbeats 4000000 in
theorem rest_ok (E : SEnv Z ta tn ts) (h : SPS Z p ta tn tc false w i nd xs) (hi : i ≤ 4100) (hroom : xs.length + 4 * (5000 - i) ≤ 100000) {ez q2 : Nat} {t1 t2 : List NodeD} (ht : TreeAt (xs.map NodeC.d) ez t) (h0 : endC ((seenT ts).cl i) = false) (hq4 : q ≤ 4100) (hq42 : q2 ≤ 4100) (hR : ReadS Z p ta tn tc 146 #[.pointer (some ⟨p, 0, none⟩)] i true q t1) (hR2 : ReadS Z p ta tn tc 94 #[.pointer (some ⟨p, 0, none⟩)] q g q2 t2) :
    Calls Tryz.prog 97 #[.pointer (some ⟨p, 0, none⟩), .int .i64 (ez : Nat)] w (GaveS Z p ta tn tc w nd xs i g (q2) (treeN 10 0 0 ⟨#[]⟩ [] [t, t1, t2])) := by
  have HK := hide (KS.start h)
  have hxl : (xs.map NodeC.d).length = xs.length := List.length_map ..
  obtain ⟨NS, hNS⟩ : ∃ NS, xs.map NodeC.d = NS := ⟨_, rfl⟩
  rw [hNS] at HK hxl
  have hxm : NS.length ≤ 100000 := by omega
  obtain ⟨p0, p1, p2, p3, f0, f1, f2, f3, hpl⟩ := h.all
  rw [hNS] at ht
  have HT0 := hide ht
  have K1 := hide (fun (V : World) (n : Value) (hk : KS Z p ta tn tc w nd xs [] NS i false V n nilL []) => hk.via (e0 := .returned (.bool false)) fun _ hX => (spEnds E hX (by omega) (r := false) h0).mono fun _ _ h => ⟨h.1, (MidP.start hX).below h.2⟩)
  have K2 := hide (fun (V : World) (n : Value) (hk : KS Z p ta tn tc w nd xs [] NS i false V n nilL []) => hk.readY hR (by omega))
  have K3 := hide (fun (V : World) (n : Value) (ds : List NodeD) (hlends : ds.length + 1 ≤ 4 * (q - i)) (hk : KS Z p ta tn tc w nd xs [] (NS ++ ds) q false V n nilL []) => hk.read hR2 (by rw [List.length_append]; omega))
  have K4 := hide (fun (V : World) (n : Value) (ds : List NodeD) (ds2 : List NodeD) (a : Option Addr) (c l : Nat) (zs : List Int) (hlen : ((NS ++ ds) ++ ds2).length ≤ 1048576) (hk : KS Z p ta tn tc w nd xs [] ((NS ++ ds) ++ ds2) q2 (!g) V n (.slice a l c) zs) => (hk.put 10 0 0 ⟨#[]⟩ hlen).mono fun _ _ h => (⟨_, rfl, h⟩ : ∃ m : Nat, m = _ ∧ _ = Ending.returned (.int .i64 (m : Nat)) ∧ _))
  have HXL := hide hxl
  clear h hxl hxm h0 ht hR hR2 E
  go_enter Tryz.func97, Tryz.ntmps97
  go_wp2_with (first | (go_at_call 150; refine (unhide K1 _ _ (unhide HK)).mono ?_; clear K1; rintro e w5 ⟨rfl, hk, _⟩; clear HK; have HK := hide hk; clear hk) | (go_at_call 146; refine (unhide K2 _ _ (unhide HK)).mono ?_; clear K2; rintro e w5 ⟨ez1, nd5, ds, rfl, hk, _, hiez1, hlez1, htez1⟩; clear HK; have HIez1 := hide hiez1; have HLez1 := hide hlez1; have HTez1 := hide htez1; clear hiez1 hlez1 htez1; obtain ⟨p0, p1, p2, p3, f0, f1, f2, f3, hpl⟩ := hk.all; have HK := hide hk; clear hk) | (go_at_call 94; refine (unhide K3 _ _ _ (unhide HLez1) (unhide HK)).mono ?_; clear K3; rintro e w5 ⟨z2, nd5, ds2, rfl, hk, _, hiz2, hlz2, htz2⟩; clear HK; have HIz2 := hide hiz2; have HLz2 := hide hlz2; have HTz2 := hide htz2; clear hiz2 hlz2 htz2; have HK := hide hk; clear hk) | (go_at_call 45; have hk2 := (unhide HK).list [((ez : Nat) : Int), ((ez1 : Nat) : Int), z2] (by simp); refine (unhide K4 _ _ _ _ _ _ _ _ (by have h1 := unhide HLez1; have h2 := unhide HLz2; have h3 := unhide HIez1; have h4 := unhide HIz2; have h5 := unhide HXL; rw [List.length_append, List.length_append]; omega) hk2).mono ?_; clear K4 hk2; rintro e w6 ⟨m, hm, rfl, nd6, hk⟩; have HM := hide hm; clear HK; have HK := hide hk; clear hk hm))
  go_ret
  have hxl := unhide HXL
  have h1 := unhide HLez1
  have h2 := unhide HLz2
  have h3 := unhide HIez1
  have h4 := unhide HIz2
  have h6 := unhide HTz2
  have h7 := unhide HTez1
  have h8 := unhide HT0
  have hNl : ((NS ++ ds) ++ ds2).length = NS.length + ds.length + ds2.length := by rw [List.length_append, List.length_append]
  cases g with
  | false => exact over_gave (i := i) (unhide HM) (g := false) (es := []) (ls := [t, t1, t2]) 10 0 ⟨#[]⟩ (unhide HK) (by omega) (by rw [hNl]; omega) (fun h => by cases h) ⟨fun e => by simp at e, fun e => by simp at e, fun _ => by simp⟩
  | true =>
    obtain ⟨h9, e2, rfl, h10⟩ := h6 rfl
    exact over_gave (i := i) (unhide HM) (g := true) (es := [ez, ez1, e2]) (ls := [t, t1, t2]) 10 0 ⟨#[]⟩ (unhide HK) (by omega) (by rw [hNl]; omega) (fun _ => ⟨by rw [hNl]; omega, rfl, TreesAt.cons h8.mono.mono (TreesAt.cons h7.mono (TreesAt.one h10))⟩) ⟨fun e => by simp at e, fun e => by simp at e, fun _ => by simp⟩


set_option maxRecDepth 20000 in
set_option maxHeartbeats 4000000 in
theorem ex_fbad (E : SEnv Z ta tn ts) (h : SPS Z p ta tn tc false w i nd xs) (hi : i ≤ 4100) (hroom : xs.length + 4 * (5000 - i) ≤ 100000) (h0 : begC ((seenT ts).cl i) = false) (hR : ReadS Z p ta tn tc 146 #[.pointer (some ⟨p, 0, none⟩)] i false q t) :
    Calls Tryz.prog 94 #[.pointer (some ⟨p, 0, none⟩)] w (GaveS Z p ta tn tc w nd xs i false (q) ([])) := by
  have HK := hide (KS.start h)
  have hxl : (xs.map NodeC.d).length = xs.length := List.length_map ..
  obtain ⟨NS, hNS⟩ : ∃ NS, xs.map NodeC.d = NS := ⟨_, rfl⟩
  rw [hNS] at HK hxl
  have hxm : NS.length ≤ 100000 := by omega
  obtain ⟨p0, p1, p2, p3, f0, f1, f2, f3, hpl⟩ := h.all
  have K1 := hide (fun (V : World) (n : Value) (hk : KS Z p ta tn tc w nd xs [] NS i false V n nilL []) => hk.via (e0 := .returned (.bool false)) fun _ hX => (spBegins E hX (by omega) (r := false) h0).mono fun _ _ h => ⟨h.1, (MidP.start hX).below h.2⟩)
  have K2 := hide (fun (V : World) (n : Value) (hk : KS Z p ta tn tc w nd xs [] NS i false V n nilL []) => hk.read (hR) (by omega))
  have HXL := hide hxl
  clear h hxl hxm h0 hR E
  go_enter Tryz.func94, Tryz.ntmps94
  go_wp2_with (first | (go_at_call 93; refine (unhide K1 _ _ (unhide HK)).mono ?_; clear K1; rintro e w5 ⟨rfl, hk, _⟩; clear HK; have HK := hide hk; clear hk) | (go_at_call 146; refine (unhide K2 _ _ (unhide HK)).mono ?_; clear K2; rintro e w5 ⟨z, nd5, ds, rfl, hk, _, hiz, hlz, htz⟩; clear HK; have HIz := hide hiz; have HLz := hide hlz; have HTz := hide htz; clear hiz hlz htz; obtain ⟨p0, p1, p2, p3, f0, f1, f2, f3, hpl⟩ := hk.all; have HK := hide hk; clear hk))
  go_ret
  have hxl := unhide HXL
  exact bad_gave (by rw [List.length_append, hxl]; have := unhide HLz; omega) (unhide HK) (unhide HIz) _


set_option maxRecDepth 20000 in
set_option maxHeartbeats 4000000 in
theorem ex_fok (E : SEnv Z ta tn ts) (h : SPS Z p ta tn tc false w i nd xs) (hi : i ≤ 4100) (hroom : xs.length + 4 * (5000 - i) ≤ 100000) {q2 : Nat} {t1 t2 : List NodeD} (h0 : begC ((seenT ts).cl i) = false) (hq4 : q ≤ 4100) (hq42 : q2 ≤ 4100) (hR : ReadS Z p ta tn tc 146 #[.pointer (some ⟨p, 0, none⟩)] i true q t1) (hR2 : ReadS Z p ta tn tc 94 #[.pointer (some ⟨p, 0, none⟩)] q g q2 t2) :
    Calls Tryz.prog 94 #[.pointer (some ⟨p, 0, none⟩)] w (GaveS Z p ta tn tc w nd xs i g (q2) (treeN 9 0 0 ⟨#[]⟩ [] [t1, t2])) := by
  have HK := hide (KS.start h)
  have hxl : (xs.map NodeC.d).length = xs.length := List.length_map ..
  obtain ⟨NS, hNS⟩ : ∃ NS, xs.map NodeC.d = NS := ⟨_, rfl⟩
  rw [hNS] at HK hxl
  have hxm : NS.length ≤ 100000 := by omega
  obtain ⟨p0, p1, p2, p3, f0, f1, f2, f3, hpl⟩ := h.all
  have K1 := hide (fun (V : World) (n : Value) (hk : KS Z p ta tn tc w nd xs [] NS i false V n nilL []) => hk.via (e0 := .returned (.bool false)) fun _ hX => (spBegins E hX (by omega) (r := false) h0).mono fun _ _ h => ⟨h.1, (MidP.start hX).below h.2⟩)
  have K2 := hide (fun (V : World) (n : Value) (hk : KS Z p ta tn tc w nd xs [] NS i false V n nilL []) => hk.readY hR (by omega))
  have K3 := hide (fun (V : World) (n : Value) (ds : List NodeD) (hlends : ds.length + 1 ≤ 4 * (q - i)) (hk : KS Z p ta tn tc w nd xs [] (NS ++ ds) q false V n nilL []) => hk.read hR2 (by rw [List.length_append]; omega))
  have K4 := hide (fun (V : World) (n : Value) (ds : List NodeD) (ds2 : List NodeD) (a : Option Addr) (c l : Nat) (zs : List Int) (hlen : ((NS ++ ds) ++ ds2).length ≤ 1048576) (hk : KS Z p ta tn tc w nd xs [] ((NS ++ ds) ++ ds2) q2 (!g) V n (.slice a l c) zs) => (hk.put 9 0 0 ⟨#[]⟩ hlen).mono fun _ _ h => (⟨_, rfl, h⟩ : ∃ m : Nat, m = _ ∧ _ = Ending.returned (.int .i64 (m : Nat)) ∧ _))
  have HXL := hide hxl
  clear h hxl hxm h0 hR hR2 E
  go_enter Tryz.func94, Tryz.ntmps94
  go_wp2_with (first | (go_at_call 93; refine (unhide K1 _ _ (unhide HK)).mono ?_; clear K1; rintro e w5 ⟨rfl, hk, _⟩; clear HK; have HK := hide hk; clear hk) | (go_at_call 146; refine (unhide K2 _ _ (unhide HK)).mono ?_; clear K2; rintro e w5 ⟨ez1, nd5, ds, rfl, hk, _, hiez1, hlez1, htez1⟩; clear HK; have HIez1 := hide hiez1; have HLez1 := hide hlez1; have HTez1 := hide htez1; clear hiez1 hlez1 htez1; obtain ⟨p0, p1, p2, p3, f0, f1, f2, f3, hpl⟩ := hk.all; have HK := hide hk; clear hk) | (go_at_call 94; refine (unhide K3 _ _ _ (unhide HLez1) (unhide HK)).mono ?_; clear K3; rintro e w5 ⟨z2, nd5, ds2, rfl, hk, _, hiz2, hlz2, htz2⟩; clear HK; have HIz2 := hide hiz2; have HLz2 := hide hlz2; have HTz2 := hide htz2; clear hiz2 hlz2 htz2; have HK := hide hk; clear hk) | (go_at_call 45; have hk2 := (unhide HK).list [((ez1 : Nat) : Int), z2] (by simp); refine (unhide K4 _ _ _ _ _ _ _ _ (by have h1 := unhide HLez1; have h2 := unhide HLz2; have h3 := unhide HIez1; have h4 := unhide HIz2; have h5 := unhide HXL; rw [List.length_append, List.length_append]; omega) hk2).mono ?_; clear K4 hk2; rintro e w6 ⟨m, hm, rfl, nd6, hk⟩; have HM := hide hm; clear HK; have HK := hide hk; clear hk hm))
  go_ret
  have hxl := unhide HXL
  have h1 := unhide HLez1
  have h2 := unhide HLz2
  have h3 := unhide HIez1
  have h4 := unhide HIz2
  have h6 := unhide HTz2
  have h7 := unhide HTez1
  have hNl : ((NS ++ ds) ++ ds2).length = NS.length + ds.length + ds2.length := by rw [List.length_append, List.length_append]
  cases g with
  | false => exact over_gave (i := i) (unhide HM) (g := false) (es := []) (ls := [t1, t2]) 9 0 ⟨#[]⟩ (unhide HK) (by omega) (by rw [hNl]; omega) (fun h => by cases h) ⟨fun e => by simp at e, fun _ => by simp, fun e => by simp at e⟩
  | true =>
    obtain ⟨h9, e2, rfl, h10⟩ := h6 rfl
    exact over_gave (i := i) (unhide HM) (g := true) (es := [ez1, e2]) (ls := [t1, t2]) 9 0 ⟨#[]⟩ (unhide HK) (by omega) (by rw [hNl]; omega) (fun _ => ⟨by rw [hNl]; omega, rfl, TreesAt.cons h7.mono (TreesAt.one h10)⟩) ⟨fun e => by simp at e, fun _ => by simp, fun e => by simp at e⟩


set_option maxRecDepth 20000 in
set_option maxHeartbeats 4000000 in
theorem ex_obad (E : SEnv Z ta tn ts) (h : SPS Z p ta tn tc false w i nd xs) (hi : i ≤ 4100) (hroom : xs.length + 4 * (5000 - i) ≤ 100000) (h0 : begC ((seenT ts).cl i) = true) (hR : ReadS Z p ta tn tc 95 #[.pointer (some ⟨p, 0, none⟩)] i false q t) :
    Calls Tryz.prog 94 #[.pointer (some ⟨p, 0, none⟩)] w (GaveS Z p ta tn tc w nd xs i false (q) ([])) := by
  have HK := hide (KS.start h)
  have hxl : (xs.map NodeC.d).length = xs.length := List.length_map ..
  obtain ⟨NS, hNS⟩ : ∃ NS, xs.map NodeC.d = NS := ⟨_, rfl⟩
  rw [hNS] at HK hxl
  have hxm : NS.length ≤ 100000 := by omega
  obtain ⟨p0, p1, p2, p3, f0, f1, f2, f3, hpl⟩ := h.all
  have K1 := hide (fun (V : World) (n : Value) (hk : KS Z p ta tn tc w nd xs [] NS i false V n nilL []) => hk.via (e0 := .returned (.bool true)) fun _ hX => (spBegins E hX (by omega) (r := true) h0).mono fun _ _ h => ⟨h.1, (MidP.start hX).below h.2⟩)
  have K2 := hide (fun (V : World) (n : Value) (hk : KS Z p ta tn tc w nd xs [] NS i false V n nilL []) => hk.read (hR) (by omega))
  have K3 := hide (fun (V : World) (n : Value) (ds : List NodeD) (z : Int) (hk : KS Z p ta tn tc w nd xs [] (NS ++ ds) q true V n nilL []) => hk.via fun _ hX => rest_bad hX z)
  have HXL := hide hxl
  clear h hxl hxm h0 hR E
  go_enter Tryz.func94, Tryz.ntmps94
  go_wp2_with (first | (go_at_call 93; refine (unhide K1 _ _ (unhide HK)).mono ?_; clear K1; rintro e w5 ⟨rfl, hk, _⟩; clear HK; have HK := hide hk; clear hk) | (go_at_call 95; refine (unhide K2 _ _ (unhide HK)).mono ?_; clear K2; rintro e w5 ⟨z, nd5, ds, rfl, hk, _, hiz, hlz, htz⟩; clear HK; have HIz := hide hiz; have HLz := hide hlz; have HTz := hide htz; clear hiz hlz htz; have HK := hide hk; clear hk) | (go_at_call 97; refine (unhide K3 _ _ _ _ (unhide HK)).mono ?_; clear K3; rintro e w5 ⟨rfl, hk, _⟩; clear HK; have HK := hide hk; clear hk))
  go_ret
  have hxl := unhide HXL
  exact bad_gave (by rw [List.length_append, hxl]; have := unhide HLz; omega) (unhide HK) (unhide HIz) _


set_option maxRecDepth 20000 in
set_option maxHeartbeats 4000000 in
theorem ex_ook (E : SEnv Z ta tn ts) (h : SPS Z p ta tn tc false w i nd xs) (hi : i ≤ 4100) (hroom : xs.length + 4 * (5000 - i) ≤ 100000) {q2 : Nat} {t1 : List NodeD} (h0 : begC ((seenT ts).cl i) = true) (hq4 : q ≤ 4100) (hR : ReadS Z p ta tn tc 95 #[.pointer (some ⟨p, 0, none⟩)] i true q t1) (hR2 : RestP Z p ta tn tc q t1 g q2 t) :
    Calls Tryz.prog 94 #[.pointer (some ⟨p, 0, none⟩)] w (GaveS Z p ta tn tc w nd xs i g (q2) (t)) := by
  have HK := hide (KS.start h)
  have hxl : (xs.map NodeC.d).length = xs.length := List.length_map ..
  obtain ⟨NS, hNS⟩ : ∃ NS, xs.map NodeC.d = NS := ⟨_, rfl⟩
  rw [hNS] at HK hxl
  have hxm : NS.length ≤ 100000 := by omega
  obtain ⟨p0, p1, p2, p3, f0, f1, f2, f3, hpl⟩ := h.all
  have K1 := hide (fun (V : World) (n : Value) (hk : KS Z p ta tn tc w nd xs [] NS i false V n nilL []) => hk.via (e0 := .returned (.bool true)) fun _ hX => (spBegins E hX (by omega) (r := true) h0).mono fun _ _ h => ⟨h.1, (MidP.start hX).below h.2⟩)
  have K2 := hide (fun (V : World) (n : Value) (hk : KS Z p ta tn tc w nd xs [] NS i false V n nilL []) => hk.readY hR (by omega))
  have K3 := hide (fun (V : World) (n : Value) (ds : List NodeD) (ez : Nat) (hlen : ds.length + 1 ≤ 4 * (q - i)) (ht : TreeAt (NS ++ ds) ez t1) (hk : KS Z p ta tn tc w nd xs [] (NS ++ ds) q false V n nilL []) => hk.rest hR2 (by rw [List.length_append]; omega) ht)
  have HXL := hide hxl
  clear h hxl hxm h0 hR hR2 E
  go_enter Tryz.func94, Tryz.ntmps94
  go_wp2_with (first | (go_at_call 93; refine (unhide K1 _ _ (unhide HK)).mono ?_; clear K1; rintro e w5 ⟨rfl, hk, _⟩; clear HK; have HK := hide hk; clear hk) | (go_at_call 95; refine (unhide K2 _ _ (unhide HK)).mono ?_; clear K2; rintro e w5 ⟨ez1, nd5, ds, rfl, hk, _, hiez1, hlez1, htez1⟩; clear HK; have HIez1 := hide hiez1; have HLez1 := hide hlez1; have HTez1 := hide htez1; clear hiez1 hlez1 htez1; have HK := hide hk; clear hk) | (go_at_call 97; refine (unhide K3 _ _ _ _ (unhide HLez1) (unhide HTez1) (unhide HK)).mono ?_; clear K3; rintro e w5 ⟨z, nd5, ds2, rfl, hk, hiz, hlz, htz⟩; clear HK; have HIz := hide hiz; have HLz := hide hlz; have HTz := hide htz; have HK := hide hk; clear hk hiz hlz htz))
  go_ret
  have hxl := unhide HXL
  have h1 := unhide HLez1
  have h2 := unhide HLz
  have h3 := unhide HIez1
  have h4 := unhide HIz
  have hNl : ((NS ++ ds) ++ ds2).length = NS.length + ds.length + ds2.length := by rw [List.length_append, List.length_append]
  exact KS.gave (i := i) (unhide HK) rfl (by omega) (by rw [hNl]; omega) (fun hg => ⟨by rw [hNl]; omega, unhide HTz hg⟩)


end
end Go.Proofs.YtmgjicgojlkpcaaGreatDoor
