import Derived.Test.YtmgjicgojlkpcaaGreatDoorSpecItS
import Derived.Test.YtmgjicgojlkpcaaGreatDoorSpecClS
import Derived.Test.YtmgjicgojlkpcaaGreatDoorSpecOpS
namespace Go.Proofs.YtmgjicgojlkpcaaGreatDoor
open Go.RowKit

section
variable {Z w w0 w1 : World} {p i j q : Nat} {nd nd0 nd1 v : Value} {zs : List Int} {xs ys : List NodeC} {bx : List Nat} {ns : List NodeD} {ta : Option Addr} {tn tc : Nat} {ts : List Tok} {b b' g : Bool} {t : List NodeD}


set_option maxRecDepth 20000 in
set_option maxHeartbeats 4000000 in
theorem st_def (E : SEnv Z ta tn ts) (h : SPS Z p ta tn tc false w i nd xs) (hi : i ≤ 4100) (hroom : xs.length + 4 * (5000 - i) ≤ 100000) (h1 : (seenT ts).cl i = 4) (h2 : (seenT ts).cl (i + 1) = 8592) (h3 : (seenT ts).cl (i + 2) = 123) {q2 : Nat} {t2 : List NodeD} (hq42 : q2 ≤ 4100) (hR2 : ReadS Z p ta tn tc 92 #[.pointer (some ⟨p, 0, none⟩)] (i + 2) g q2 t2) :
    Calls Tryz.prog 43 #[.pointer (some ⟨p, 0, none⟩)] w (GaveS Z p ta tn tc w nd xs i g (q2) (treeN 20 0 0 ((seenT ts).sv i) [] [t2])) := by
  have uu := And.intro E hi
  clear uu
  have HK := hide (KS.start h)
  have hxl : (xs.map NodeC.d).length = xs.length := List.length_map ..
  obtain ⟨NS, hNS⟩ : ∃ NS, xs.map NodeC.d = NS := ⟨_, rfl⟩
  rw [hNS] at HK hxl
  have hxm : NS.length ≤ 100000 := by omega
  obtain ⟨p0, p1, p2, p3, f0, f1, f2, f3, hpl⟩ := h.all
  obtain ⟨tb, off, y, rfl, hbl, hlt, hy, hm, HTK⟩ := E.tok (j := i) (by rw [h1]; decide)
  have hsv : (seenT ts).sv i = y.t := by show (tokA ts 0 i).t = _; rw [hy]
  have hk' := kind_cases' E.ok i
  rw [hy] at hk'
  obtain ⟨yk, yn, yt, yp⟩ := y
  rw [hsv]
  have hne : tb ≠ p := Nat.ne_of_lt (Nat.lt_of_lt_of_le hbl h.hp)
  have HTK := hide HTK
  have hl2 : (i : Int) < (tn : Int) := by omega
  have hl3 : i < tn := hlt
  have hw1 : IntKind.i64.wrap ((i : Int) + 1) = (i : Int) + 1 := by rw [IntKind.wrap_i64]; omega
  have hw2 : IntKind.i64.wrap ((i : Int) + 1 - 1) = (i : Int) := by rw [IntKind.wrap_i64]; omega
  have hw3 : IntKind.i64.wrap (i : Int) = (i : Int) := by rw [IntKind.wrap_i64]; omega
  have hw4 : IntKind.i64.wrap ((i : Int) + 2) = (i : Int) + 2 := by rw [IntKind.wrap_i64]; omega
  have K1 := hide (fun (V : World) (n : Value) (hk : KS Z p (some ⟨tb, off, none⟩) tn tc w nd xs [] NS i false V n nilL []) => hk.via (e0 := .returned (.bool true)) fun _ hX => (spName E hX true (r := true) (decide_eq_true h1)).mono fun _ _ h => ⟨h.1, (MidP.start hX).below h.2⟩)
  obtain ⟨x, hx⟩ : ∃ x, sgT ts (i + 1) = x := ⟨_, rfl⟩
  have K2 := hide (fun (V : World) (n : Value) (hk : KS Z p (some ⟨tb, off, none⟩) tn tc w nd xs [] NS i false V n nilL []) => hk.via (e0 := .returned (.string x)) fun _ hX => (spSign E hX (z := 1) (j := i + 1) (by omega) (by omega)).mono fun _ _ h => ⟨by rw [h.1, hx], (MidP.start hX).below h.2⟩)
  have hqx8592 : (x.toList == [226, 134, 144]) = true := by rw [show ([226, 134, 144] : List UInt8) = (⟨#[226, 134, 144]⟩ : ByteArray).toList by kernel_rfl, ← hx, sg_is E.ok (i + 1) (c := 8592) (by decide) (by kernel_rfl)]; exact decide_eq_true (h2)
  obtain ⟨y, hy⟩ : ∃ x, sgT ts (i + 2) = x := ⟨_, rfl⟩
  have K3 := hide (fun (V : World) (n : Value) (hk : KS Z p (some ⟨tb, off, none⟩) tn tc w nd xs [] NS (i + 2) false V n nilL []) => hk.via (e0 := .returned (.string y)) fun _ hX => (spSign E hX (z := 0) (j := i + 2) (by omega) (by omega)).mono fun _ _ h => ⟨by rw [h.1, hy], (MidP.start hX).below h.2⟩)
  have hqy123 : (y.toList == [123]) = true := by rw [show ([123] : List UInt8) = (⟨#[123]⟩ : ByteArray).toList by kernel_rfl, ← hy, sg_is E.ok (i + 2) (c := 123) (by decide) (by kernel_rfl)]; exact decide_eq_true (h3)
  have K4 := hide (fun (V : World) (n : Value) (hk : KS Z p (some ⟨tb, off, none⟩) tn tc w nd xs [] NS (i + 2) false V n nilL []) => hk.read hR2 (by omega))
  have K5 := hide (fun (V : World) (n : Value) (ds2 : List NodeD) (a : Option Addr) (c l : Nat) (zs : List Int) (hlen : (NS ++ ds2).length ≤ 1048576) (hk : KS Z p (some ⟨tb, off, none⟩) tn tc w nd xs [] (NS ++ ds2) q2 (!g) V n (.slice a l c) zs) => (hk.put 20 0 0 yt hlen).mono fun _ _ h => (⟨_, rfl, h⟩ : ∃ m : Nat, m = _ ∧ _ = Ending.returned (.int .i64 (m : Nat)) ∧ _))
  have HXL := hide hxl
  clear h hxl hxm h1 h2 h3 hx hm hsv hlt hk' hy hR2 E
  go_enter Tryz.func43, Tryz.ntmps43
  go_wp2_with (first | (go_at_call 90; refine (unhide K1 _ _ (unhide HK)).mono ?_; clear K1; rintro e w5 ⟨rfl, hk, _⟩; clear HK; have HK := hide hk; clear hk) | (go_at_call 91; refine (unhide K2 _ _ (unhide HK)).mono ?_; clear K2; rintro e w5 ⟨rfl, hk, _⟩; clear HK; obtain ⟨p0, p1, p2, p3, f0, f1, f2, f3, hpl⟩ := hk.all; obtain ⟨a0, a1, a2, a3, hbl⟩ := unhide HTK _ hk.low; have HK := hide hk; clear hk))
  go_quiet (fail)
  have hk := (unhide HK).below (Below.drewN (Below.refl _ _) nq)
  clear HK p0 p1 p2 p3 f0 f1 f2 f3 hpl
  obtain ⟨p0, p1, p2, p3, f0, f1, f2, f3, hpl⟩ := hk.all
  have HK := hide (hk.step 2 ((i : Int) + 2) (by omega))
  clear hk
  go_wp2_with (first | (go_at_call 91; refine (unhide K3 _ _ (unhide HK)).mono ?_; clear K3; rintro e w5 ⟨rfl, hk, _⟩; clear HK; have HK := hide hk; clear hk) | (go_at_call 92; refine (unhide K4 _ _ (unhide HK)).mono ?_; clear K4; rintro e w5 ⟨z2, nd5, ds2, rfl, hk, _, hiz2, hlz2, htz2⟩; clear HK; have HIz2 := hide hiz2; have HLz2 := hide hlz2; have HTz2 := hide htz2; clear hiz2 hlz2 htz2; have HK := hide hk; clear hk) | (go_at_call 45; have hk2 := (unhide HK).list [z2] (by simp); refine (unhide K5 _ _ _ _ _ _ _ (by have h2 := unhide HLz2; have h4 := unhide HIz2; have h5 := unhide HXL; rw [List.length_append]; omega) hk2).mono ?_; clear K5 hk2; rintro e w6 ⟨m, hm, rfl, nd6, hk⟩; have HM := hide hm; clear HK; have HK := hide hk; clear hk hm))
  go_ret
  have hxl := unhide HXL
  have h2 := unhide HLz2
  have h4 := unhide HIz2
  have h6 := unhide HTz2
  have hNl : (NS ++ ds2).length = NS.length + ds2.length := by rw [List.length_append]
  cases g with
  | false => exact over_gave (i := i) (unhide HM) (g := false) (es := []) (ls := [t2]) 20 0 yt (unhide HK) (by omega) (by rw [hNl]; omega) (fun h => by cases h) (cnt0 (by decide) (by decide) (by decide) _)
  | true =>
    obtain ⟨h9, e2, rfl, h10⟩ := h6 rfl
    exact over_gave (i := i) (unhide HM) (g := true) (es := [e2]) (ls := [t2]) 20 0 yt (unhide HK) (by omega) (by rw [hNl]; omega) (fun _ => ⟨by rw [hNl]; omega, rfl, TreesAt.one h10⟩) (cnt0 (by decide) (by decide) (by decide) _)


set_option maxRecDepth 20000 in
set_option maxHeartbeats 4000000 in
theorem st_defn (E : SEnv Z ta tn ts) (h : SPS Z p ta tn tc false w i nd xs) (hi : i ≤ 4100) (hroom : xs.length + 4 * (5000 - i) ≤ 100000) (h1 : (seenT ts).cl i = 4) (h2 : (seenT ts).cl (i + 1) = 8592) (h3 : (seenT ts).cl (i + 2) ≠ 123) :
    Calls Tryz.prog 43 #[.pointer (some ⟨p, 0, none⟩)] w (GaveS Z p ta tn tc w nd xs i false (i + 2) ([])) := by
  have uu := And.intro E hi
  clear uu
  have HK := hide (KS.start h)
  have hxl : (xs.map NodeC.d).length = xs.length := List.length_map ..
  obtain ⟨NS, hNS⟩ : ∃ NS, xs.map NodeC.d = NS := ⟨_, rfl⟩
  rw [hNS] at HK hxl
  have hxm : NS.length ≤ 100000 := by omega
  obtain ⟨p0, p1, p2, p3, f0, f1, f2, f3, hpl⟩ := h.all
  obtain ⟨tb, off, y, rfl, hbl, hlt, hy, hm, HTK⟩ := E.tok (j := i) (by rw [h1]; decide)
  have hsv : (seenT ts).sv i = y.t := by show (tokA ts 0 i).t = _; rw [hy]
  have hk' := kind_cases' E.ok i
  rw [hy] at hk'
  obtain ⟨yk, yn, yt, yp⟩ := y
  have hne : tb ≠ p := Nat.ne_of_lt (Nat.lt_of_lt_of_le hbl h.hp)
  have HTK := hide HTK
  have hl2 : (i : Int) < (tn : Int) := by omega
  have hl3 : i < tn := hlt
  have hw1 : IntKind.i64.wrap ((i : Int) + 1) = (i : Int) + 1 := by rw [IntKind.wrap_i64]; omega
  have hw2 : IntKind.i64.wrap ((i : Int) + 1 - 1) = (i : Int) := by rw [IntKind.wrap_i64]; omega
  have hw3 : IntKind.i64.wrap (i : Int) = (i : Int) := by rw [IntKind.wrap_i64]; omega
  have hw4 : IntKind.i64.wrap ((i : Int) + 2) = (i : Int) + 2 := by rw [IntKind.wrap_i64]; omega
  have K1 := hide (fun (V : World) (n : Value) (hk : KS Z p (some ⟨tb, off, none⟩) tn tc w nd xs [] NS i false V n nilL []) => hk.via (e0 := .returned (.bool true)) fun _ hX => (spName E hX true (r := true) (decide_eq_true h1)).mono fun _ _ h => ⟨h.1, (MidP.start hX).below h.2⟩)
  obtain ⟨x, hx⟩ : ∃ x, sgT ts (i + 1) = x := ⟨_, rfl⟩
  have K2 := hide (fun (V : World) (n : Value) (hk : KS Z p (some ⟨tb, off, none⟩) tn tc w nd xs [] NS i false V n nilL []) => hk.via (e0 := .returned (.string x)) fun _ hX => (spSign E hX (z := 1) (j := i + 1) (by omega) (by omega)).mono fun _ _ h => ⟨by rw [h.1, hx], (MidP.start hX).below h.2⟩)
  have hqx8592 : (x.toList == [226, 134, 144]) = true := by rw [show ([226, 134, 144] : List UInt8) = (⟨#[226, 134, 144]⟩ : ByteArray).toList by kernel_rfl, ← hx, sg_is E.ok (i + 1) (c := 8592) (by decide) (by kernel_rfl)]; exact decide_eq_true (h2)
  obtain ⟨y, hy⟩ : ∃ x, sgT ts (i + 2) = x := ⟨_, rfl⟩
  have K3 := hide (fun (V : World) (n : Value) (hk : KS Z p (some ⟨tb, off, none⟩) tn tc w nd xs [] NS (i + 2) false V n nilL []) => hk.via (e0 := .returned (.string y)) fun _ hX => (spSign E hX (z := 0) (j := i + 2) (by omega) (by omega)).mono fun _ _ h => ⟨by rw [h.1, hy], (MidP.start hX).below h.2⟩)
  have hqy123 : (y.toList == [123]) = false := by rw [show ([123] : List UInt8) = (⟨#[123]⟩ : ByteArray).toList by kernel_rfl, ← hy, sg_is E.ok (i + 2) (c := 123) (by decide) (by kernel_rfl)]; exact decide_eq_false (h3)
  have HXL := hide hxl
  clear h hxl hxm h1 h2 h3 hx hm hsv hlt hk' hy  E
  go_enter Tryz.func43, Tryz.ntmps43
  go_wp2_with (first | (go_at_call 90; refine (unhide K1 _ _ (unhide HK)).mono ?_; clear K1; rintro e w5 ⟨rfl, hk, _⟩; clear HK; have HK := hide hk; clear hk) | (go_at_call 91; refine (unhide K2 _ _ (unhide HK)).mono ?_; clear K2; rintro e w5 ⟨rfl, hk, _⟩; clear HK; obtain ⟨p0, p1, p2, p3, f0, f1, f2, f3, hpl⟩ := hk.all; obtain ⟨a0, a1, a2, a3, hbl⟩ := unhide HTK _ hk.low; have HK := hide hk; clear hk))
  go_quiet (fail)
  have hk := (unhide HK).below (Below.drewN (Below.refl _ _) nq)
  clear HK p0 p1 p2 p3 f0 f1 f2 f3 hpl
  obtain ⟨p0, p1, p2, p3, f0, f1, f2, f3, hpl⟩ := hk.all
  have HK := hide (hk.step 2 ((i : Int) + 2) (by omega))
  clear hk
  go_wp2_with (first | (go_at_call 91; refine (unhide K3 _ _ (unhide HK)).mono ?_; clear K3; rintro e w5 ⟨rfl, hk, _⟩; clear HK; obtain ⟨p0, p1, p2, p3, f0, f1, f2, f3, hpl⟩ := hk.all; have hk := hk.bad; have HK := hide hk; clear hk))
  go_ret
  have hxl := unhide HXL
  exact bad_gave (by omega) (unhide HK) (by omega) _


set_option maxRecDepth 20000 in
set_option maxHeartbeats 4000000 in
theorem st_nb4 (E : SEnv Z ta tn ts) (h : SPS Z p ta tn tc false w i nd xs) (hi : i ≤ 4100) (hroom : xs.length + 4 * (5000 - i) ≤ 100000) (h1 : (seenT ts).cl i = 4) (h2 : (seenT ts).cl (i + 1) ≠ 8592) (h0 : begC ((seenT ts).cl i) = false) {q2 : Nat} (hR2 : ReadS Z p ta tn tc 94 #[.pointer (some ⟨p, 0, none⟩)] i g q2 t) :
    Calls Tryz.prog 43 #[.pointer (some ⟨p, 0, none⟩)] w (GaveS Z p ta tn tc w nd xs i g (q2) (t)) := by
  have uu := And.intro E hi
  clear uu
  have HK := hide (KS.start h)
  have hxl : (xs.map NodeC.d).length = xs.length := List.length_map ..
  obtain ⟨NS, hNS⟩ : ∃ NS, xs.map NodeC.d = NS := ⟨_, rfl⟩
  rw [hNS] at HK hxl
  have hxm : NS.length ≤ 100000 := by omega
  obtain ⟨p0, p1, p2, p3, f0, f1, f2, f3, hpl⟩ := h.all
  have K1 := hide (fun (V : World) (n : Value) (hk : KS Z p ta tn tc w nd xs [] NS i false V n nilL []) => hk.via (e0 := .returned (.bool true)) fun _ hX => (spName E hX true (r := true) (decide_eq_true h1)).mono fun _ _ h => ⟨h.1, (MidP.start hX).below h.2⟩)
  obtain ⟨x, hx⟩ : ∃ x, sgT ts (i + 1) = x := ⟨_, rfl⟩
  have K2 := hide (fun (V : World) (n : Value) (hk : KS Z p ta tn tc w nd xs [] NS i false V n nilL []) => hk.via (e0 := .returned (.string x)) fun _ hX => (spSign E hX (z := 1) (j := i + 1) (by omega) (by omega)).mono fun _ _ h => ⟨by rw [h.1, hx], (MidP.start hX).below h.2⟩)
  have hqx8592 : (x.toList == [226, 134, 144]) = false := by rw [show ([226, 134, 144] : List UInt8) = (⟨#[226, 134, 144]⟩ : ByteArray).toList by kernel_rfl, ← hx, sg_is E.ok (i + 1) (c := 8592) (by decide) (by kernel_rfl)]; exact decide_eq_false (h2)
  have K3 := hide (fun (V : World) (n : Value) (hk : KS Z p ta tn tc w nd xs [] NS i false V n nilL []) => hk.via (e0 := .returned (.bool false)) fun _ hX => (spBegins E hX (by omega) (r := false) h0).mono fun _ _ h => ⟨h.1, (MidP.start hX).below h.2⟩)
  have K4 := hide (fun (V : World) (n : Value) (hk : KS Z p ta tn tc w nd xs [] NS i false V n nilL []) => hk.read (hR2) (by omega))
  have HXL := hide hxl
  clear h hxl hxm h1 h0 hR2 h2 hx E
  go_enter Tryz.func43, Tryz.ntmps43
  go_wp2_with (first | (go_at_call 90; refine (unhide K1 _ _ (unhide HK)).mono ?_; clear K1; rintro e w5 ⟨rfl, hk, _⟩; clear HK; have HK := hide hk; clear hk) | (go_at_call 91; refine (unhide K2 _ _ (unhide HK)).mono ?_; clear K2; rintro e w5 ⟨rfl, hk, _⟩; clear HK; have HK := hide hk; clear hk) | (go_at_call 93; refine (unhide K3 _ _ (unhide HK)).mono ?_; clear K3; rintro e w5 ⟨rfl, hk, _⟩; clear HK; have HK := hide hk; clear hk) | (go_at_call 94; refine (unhide K4 _ _ (unhide HK)).mono ?_; clear K4; rintro e w5 ⟨z, nd5, ds, rfl, hk, _, hiz, hlz, htz⟩; clear HK; have HIz := hide hiz; have HLz := hide hlz; have HTz := hide htz; clear hiz hlz htz; have HK := hide hk; clear hk))
  go_ret
  have hxl := unhide HXL
  exact KS.gave (i := i) (unhide HK) rfl (unhide HIz) (by rw [List.length_append, hxl]; have := unhide HLz; omega) (fun hg => ⟨by have := (unhide HTz hg).1; rw [List.length_append, hxl]; omega, (unhide HTz hg).2⟩)


set_option maxRecDepth 20000 in
set_option maxHeartbeats 4000000 in
theorem st_nb (E : SEnv Z ta tn ts) (h : SPS Z p ta tn tc false w i nd xs) (hi : i ≤ 4100) (hroom : xs.length + 4 * (5000 - i) ≤ 100000) (h1 : (seenT ts).cl i ≠ 4) (h0 : begC ((seenT ts).cl i) = false) {q2 : Nat} (hR2 : ReadS Z p ta tn tc 94 #[.pointer (some ⟨p, 0, none⟩)] i g q2 t) :
    Calls Tryz.prog 43 #[.pointer (some ⟨p, 0, none⟩)] w (GaveS Z p ta tn tc w nd xs i g (q2) (t)) := by
  have uu := And.intro E hi
  clear uu
  have HK := hide (KS.start h)
  have hxl : (xs.map NodeC.d).length = xs.length := List.length_map ..
  obtain ⟨NS, hNS⟩ : ∃ NS, xs.map NodeC.d = NS := ⟨_, rfl⟩
  rw [hNS] at HK hxl
  have hxm : NS.length ≤ 100000 := by omega
  obtain ⟨p0, p1, p2, p3, f0, f1, f2, f3, hpl⟩ := h.all
  have K1 := hide (fun (V : World) (n : Value) (hk : KS Z p ta tn tc w nd xs [] NS i false V n nilL []) => hk.via (e0 := .returned (.bool false)) fun _ hX => (spName E hX true (r := false) (decide_eq_false h1)).mono fun _ _ h => ⟨h.1, (MidP.start hX).below h.2⟩)
  have K2 := hide (fun (V : World) (n : Value) (hk : KS Z p ta tn tc w nd xs [] NS i false V n nilL []) => hk.via (e0 := .returned (.bool false)) fun _ hX => (spBegins E hX (by omega) (r := false) h0).mono fun _ _ h => ⟨h.1, (MidP.start hX).below h.2⟩)
  have K3 := hide (fun (V : World) (n : Value) (hk : KS Z p ta tn tc w nd xs [] NS i false V n nilL []) => hk.read (hR2) (by omega))
  have HXL := hide hxl
  clear h hxl hxm h1 h0 hR2  E
  go_enter Tryz.func43, Tryz.ntmps43
  go_wp2_with (first | (go_at_call 90; refine (unhide K1 _ _ (unhide HK)).mono ?_; clear K1; rintro e w5 ⟨rfl, hk, _⟩; clear HK; have HK := hide hk; clear hk) | (go_at_call 93; refine (unhide K2 _ _ (unhide HK)).mono ?_; clear K2; rintro e w5 ⟨rfl, hk, _⟩; clear HK; have HK := hide hk; clear hk) | (go_at_call 94; refine (unhide K3 _ _ (unhide HK)).mono ?_; clear K3; rintro e w5 ⟨z, nd5, ds, rfl, hk, _, hiz, hlz, htz⟩; clear HK; have HIz := hide hiz; have HLz := hide hlz; have HTz := hide htz; clear hiz hlz htz; have HK := hide hk; clear hk))
  go_ret
  have hxl := unhide HXL
  exact KS.gave (i := i) (unhide HK) rfl (unhide HIz) (by rw [List.length_append, hxl]; have := unhide HLz; omega) (fun hg => ⟨by have := (unhide HTz hg).1; rw [List.length_append, hxl]; omega, (unhide HTz hg).2⟩)


set_option maxRecDepth 20000 in
set_option maxHeartbeats 4000000 in
theorem st_obad (E : SEnv Z ta tn ts) (h : SPS Z p ta tn tc false w i nd xs) (hi : i ≤ 4100) (hroom : xs.length + 4 * (5000 - i) ≤ 100000) (h0 : begC ((seenT ts).cl i) = true) {low rnd : Bool} (hl : decide ((seenT ts).cl i = 3) = low) (hr : decide ((seenT ts).cl i = 40) = rnd) (hO : ReadS Z p ta tn tc 95 #[.pointer (some ⟨p, 0, none⟩)] i false q t) :
    Calls Tryz.prog 43 #[.pointer (some ⟨p, 0, none⟩)] w (GaveS Z p ta tn tc w nd xs i false (q) ([])) := by
  have uu := And.intro E hi
  clear uu
  have HK := hide (KS.start h)
  have hxl : (xs.map NodeC.d).length = xs.length := List.length_map ..
  obtain ⟨NS, hNS⟩ : ∃ NS, xs.map NodeC.d = NS := ⟨_, rfl⟩
  rw [hNS] at HK hxl
  have hxm : NS.length ≤ 100000 := by omega
  obtain ⟨p0, p1, p2, p3, f0, f1, f2, f3, hpl⟩ := h.all
  have K1 := hide (fun (V : World) (n : Value) (hk : KS Z p ta tn tc w nd xs [] NS i false V n nilL []) => hk.via (e0 := .returned (.bool false)) fun _ hX => (spName E hX true (r := false) (decide_eq_false (by intro e; rw [e] at h0; exact absurd h0 (by decide)))).mono fun _ _ h => ⟨h.1, (MidP.start hX).below h.2⟩)
  have K2 := hide (fun (V : World) (n : Value) (hk : KS Z p ta tn tc w nd xs [] NS i false V n nilL []) => hk.via (e0 := .returned (.bool true)) fun _ hX => (spBegins E hX (by omega) (r := true) h0).mono fun _ _ h => ⟨h.1, (MidP.start hX).below h.2⟩)
  have K3 := hide (fun (V : World) (n : Value) (hk : KS Z p ta tn tc w nd xs [] NS i false V n nilL []) => hk.via (e0 := .returned (.bool low)) fun _ hX => (spName E hX false (r := low) hl).mono fun _ _ h => ⟨h.1, (MidP.start hX).below h.2⟩)
  obtain ⟨x, hx⟩ : ∃ x, sgT ts (i) = x := ⟨_, rfl⟩
  have K4 := hide (fun (V : World) (n : Value) (hk : KS Z p ta tn tc w nd xs [] NS i false V n nilL []) => hk.via (e0 := .returned (.string x)) fun _ hX => (spSign E hX (z := 0) (j := i) (by omega) (by omega)).mono fun _ _ h => ⟨by rw [h.1, hx], (MidP.start hX).below h.2⟩)
  have hqx : (x.toList == [40]) = rnd := by rw [show ([40] : List UInt8) = (⟨#[40]⟩ : ByteArray).toList by kernel_rfl, ← hx, sg_is E.ok i (c := 40) (by decide) (by kernel_rfl)]; exact hr
  have K5 := hide (fun (V : World) (n : Value) (hk : KS Z p ta tn tc w nd xs [] NS i false V n nilL []) => hk.read (hO) (by omega))
  have HXL := hide hxl
  clear h hxl hxm h0 hl hr hO hx E
  go_enter Tryz.func43, Tryz.ntmps43
  go_wp2_with (first | (go_at_call 90; refine (unhide K1 _ _ (unhide HK)).mono ?_; clear K1; rintro e w5 ⟨rfl, hk, _⟩; clear HK; have HK := hide hk; clear hk) | (go_at_call 93; refine (unhide K2 _ _ (unhide HK)).mono ?_; clear K2; rintro e w5 ⟨rfl, hk, _⟩; clear HK; have HK := hide hk; clear hk) | (go_at_call 90; refine (unhide K3 _ _ (unhide HK)).mono ?_; clear K3; rintro e w5 ⟨rfl, hk, _⟩; clear HK; have HK := hide hk; clear hk) | (go_at_call 91; refine (unhide K4 _ _ (unhide HK)).mono ?_; clear K4; rintro e w5 ⟨rfl, hk, _⟩; clear HK; clear p0 p1 p2 p3 f0 f1 f2 f3 hpl; obtain ⟨p0, p1, p2, p3, f0, f1, f2, f3, hpl⟩ := hk.all; have HK := hide hk; clear hk) | (go_at_call 95; refine (unhide K5 _ _ (unhide HK)).mono ?_; clear K5; rintro e w5 ⟨z, nd5, ds, rfl, hk, _, hiz, hlz, htz⟩; clear HK; have HIz := hide hiz; have HLz := hide hlz; have HTz := hide htz; clear hiz hlz htz; obtain ⟨p0, p1, p2, p3, f0, f1, f2, f3, hpl⟩ := hk.all; have HK := hide hk; clear hk))
  go_ret
  have hxl := unhide HXL
  exact bad_gave (by rw [List.length_append, hxl]; have := unhide HLz; omega) (unhide HK) (unhide HIz) _


set_option maxRecDepth 20000 in
set_option maxHeartbeats 4000000 in
theorem st_ra (E : SEnv Z ta tn ts) (h : SPS Z p ta tn tc false w i nd xs) (hi : i ≤ 4100) (hroom : xs.length + 4 * (5000 - i) ≤ 100000) (h0 : begC ((seenT ts).cl i) = true) {q0 : Nat} {t0 : List NodeD} (hq0 : q0 ≤ 4100) (hiq : i + 1 ≤ q0) (hO : ReadS Z p ta tn tc 95 #[.pointer (some ⟨p, 0, none⟩)] i true q0 t0) (hl : (seenT ts).cl i = 3) (hp : q0 = i + 1) (hs : scalNo ((seenT ts).cl q0) = 0) (ha : (seenT ts).cl q0 ≠ 8592) {q2 : Nat} (hR2 : RestP Z p ta tn tc q0 t0 g q2 t) :
    Calls Tryz.prog 43 #[.pointer (some ⟨p, 0, none⟩)] w (GaveS Z p ta tn tc w nd xs i g (q2) (t)) := by
  have uu := And.intro E hi
  clear uu
  have HK := hide (KS.start h)
  have hxl : (xs.map NodeC.d).length = xs.length := List.length_map ..
  obtain ⟨NS, hNS⟩ : ∃ NS, xs.map NodeC.d = NS := ⟨_, rfl⟩
  rw [hNS] at HK hxl
  have hxm : NS.length ≤ 100000 := by omega
  obtain ⟨p0, p1, p2, p3, f0, f1, f2, f3, hpl⟩ := h.all
  obtain ⟨tb, off, y, rfl, hbl, hlt, hy, hm, HTK⟩ := E.tok (j := i) (by intro e; rw [e] at h0; exact absurd h0 (by decide))
  have hsv : (seenT ts).sv i = y.t := by show (tokA ts 0 i).t = _; rw [hy]
  obtain ⟨yk, yn, yt, yp⟩ := y
  have hsv' : (seenT ts).sv i = yt := hsv
  have HTK := hide HTK
  have hl2 : (i : Int) < (tn : Int) := by omega
  have hl3 : i < tn := hlt
  have hw1 : IntKind.i64.wrap ((i : Int) + 1) = (i : Int) + 1 := by rw [IntKind.wrap_i64]; omega
  have hw2 : IntKind.i64.wrap ((q0 : Int) + 2) = (q0 : Int) + 2 := by rw [IntKind.wrap_i64]; omega
  have hw3 : IntKind.i64.wrap ((q0 : Int) + 1) = (q0 : Int) + 1 := by rw [IntKind.wrap_i64]; omega
  have hpp : ((q0 : Int) == (i : Int) + 1) = true := by rw [beq_iff_eq]; omega
  have K1 := hide (fun (V : World) (n : Value) (hk : KS Z p (some ⟨tb, off, none⟩) tn tc w nd xs [] NS i false V n nilL []) => hk.via (e0 := .returned (.bool false)) fun _ hX => (spName E hX true (r := false) (decide_eq_false (by intro e; rw [e] at h0; exact absurd h0 (by decide)))).mono fun _ _ h => ⟨h.1, (MidP.start hX).below h.2⟩)
  have K2 := hide (fun (V : World) (n : Value) (hk : KS Z p (some ⟨tb, off, none⟩) tn tc w nd xs [] NS i false V n nilL []) => hk.via (e0 := .returned (.bool true)) fun _ hX => (spBegins E hX (by omega) (r := true) h0).mono fun _ _ h => ⟨h.1, (MidP.start hX).below h.2⟩)
  have K3 := hide (fun (V : World) (n : Value) (hk : KS Z p (some ⟨tb, off, none⟩) tn tc w nd xs [] NS i false V n nilL []) => hk.via (e0 := .returned (.bool true)) fun _ hX => (spName E hX false (r := true) (decide_eq_true hl)).mono fun _ _ h => ⟨h.1, (MidP.start hX).below h.2⟩)
  obtain ⟨x, hx⟩ : ∃ x, sgT ts (i) = x := ⟨_, rfl⟩
  have K4 := hide (fun (V : World) (n : Value) (hk : KS Z p (some ⟨tb, off, none⟩) tn tc w nd xs [] NS i false V n nilL []) => hk.via (e0 := .returned (.string x)) fun _ hX => (spSign E hX (z := 0) (j := i) (by omega) (by omega)).mono fun _ _ h => ⟨by rw [h.1, hx], (MidP.start hX).below h.2⟩)
  have hqx40 : (x.toList == [40]) = false := by rw [show ([40] : List UInt8) = (⟨#[40]⟩ : ByteArray).toList by kernel_rfl, ← hx, sg_is E.ok (i) (c := 40) (by decide) (by kernel_rfl)]; exact decide_eq_false (by rw [hl]; decide)
  have K5 := hide (fun (V : World) (n : Value) (hk : KS Z p (some ⟨tb, off, none⟩) tn tc w nd xs [] NS i false V n nilL []) => hk.readY hO (by omega))
  have K6 := hide (fun (V : World) (n : Value) (ds : List NodeD) (hk : KS Z p (some ⟨tb, off, none⟩) tn tc w nd xs [] (NS ++ ds) q0 false V n nilL []) => hk.via (e0 := .returned (.int .i64 0)) fun _ hX => (spScalar E hX (z := 0) (j := q0) (by omega) (by omega)).mono fun _ _ h => ⟨by rw [h.1, hs]; rfl, (MidP.start hX).below h.2⟩)
  obtain ⟨x2, hx2⟩ : ∃ x, sgT ts (q0) = x := ⟨_, rfl⟩
  have K7 := hide (fun (V : World) (n : Value) (ds : List NodeD) (hk : KS Z p (some ⟨tb, off, none⟩) tn tc w nd xs [] (NS ++ ds) q0 false V n nilL []) => hk.via (e0 := .returned (.string x2)) fun _ hX => (spSign E hX (z := 0) (j := q0) (by omega) (by omega)).mono fun _ _ h => ⟨by rw [h.1, hx2], (MidP.start hX).below h.2⟩)
  have hqx28592 : (x2.toList == [226, 134, 144]) = false := by rw [show ([226, 134, 144] : List UInt8) = (⟨#[226, 134, 144]⟩ : ByteArray).toList by kernel_rfl, ← hx2, sg_is E.ok (q0) (c := 8592) (by decide) (by kernel_rfl)]; exact decide_eq_false (ha)
  have K8 := hide (fun (V : World) (n : Value) (ds : List NodeD) (ez : Nat) (hlen : ds.length + 1 ≤ 4 * (q0 - i)) (ht : TreeAt (NS ++ ds) ez t0) (hk : KS Z p (some ⟨tb, off, none⟩) tn tc w nd xs [] (NS ++ ds) q0 false V n nilL []) => hk.rest hR2 (by rw [List.length_append]; omega) ht)
  have HXL := hide hxl
  clear h hxl hxm h0 hO hl hR2 hsv hsv' hlt hm hy hbl hx hs ha hx2 hp E
  go_enter Tryz.func43, Tryz.ntmps43
  go_wp2_with (first | (go_at_call 90; refine (unhide K1 _ _ (unhide HK)).mono ?_; clear K1; rintro e w5 ⟨rfl, hk, _⟩; clear HK; have HK := hide hk; clear hk) | (go_at_call 93; refine (unhide K2 _ _ (unhide HK)).mono ?_; clear K2; rintro e w5 ⟨rfl, hk, _⟩; clear HK; have HK := hide hk; clear hk) | (go_at_call 90; refine (unhide K3 _ _ (unhide HK)).mono ?_; clear K3; rintro e w5 ⟨rfl, hk, _⟩; clear HK; have HK := hide hk; clear hk) | (go_at_call 91; refine (unhide K4 _ _ (unhide HK)).mono ?_; clear K4; rintro e w5 ⟨rfl, hk, _⟩; clear HK; clear p0 p1 p2 p3 f0 f1 f2 f3 hpl; obtain ⟨p0, p1, p2, p3, f0, f1, f2, f3, hpl⟩ := hk.all; have HK := hide hk; clear hk) | (go_at_call 95; refine (unhide K5 _ _ (unhide HK)).mono ?_; clear K5; rintro e w5 ⟨ez1, nd5, ds, rfl, hk, _, hiez1, hlez1, htez1⟩; clear HK; have HIez1 := hide hiez1; have HLez1 := hide hlez1; have HTez1 := hide htez1; clear hiez1 hlez1 htez1; obtain ⟨p0, p1, p2, p3, f0, f1, f2, f3, hpl⟩ := hk.all; obtain ⟨a0, a1, a2, a3, htb⟩ := unhide HTK _ hk.low; have HK := hide hk; clear hk) | (go_at_call 96; refine (unhide K6 _ _ _ (unhide HK)).mono ?_; clear K6; rintro e w5 ⟨rfl, hk, _⟩; clear HK; have HK := hide hk; clear hk) | (go_at_call 91; refine (unhide K7 _ _ _ (unhide HK)).mono ?_; clear K7; rintro e w5 ⟨rfl, hk, _⟩; clear HK; have HK := hide hk; clear hk) | (go_at_call 97; refine (unhide K8 _ _ _ _ (unhide HLez1) (unhide HTez1) (unhide HK)).mono ?_; clear K8; rintro e w5 ⟨z, nd5, ds2, rfl, hk, hiz, hlz, htz⟩; clear HK; have HIz := hide hiz; have HLz := hide hlz; have HTz := hide htz; have HK := hide hk; clear hk hiz hlz htz))
  go_ret
  have hxl := unhide HXL
  have h1 := unhide HLez1
  have h2 := unhide HLz
  have h3 := unhide HIez1
  have h4 := unhide HIz
  have hNl : ((NS ++ ds) ++ ds2).length = NS.length + ds.length + ds2.length := by rw [List.length_append, List.length_append]
  exact KS.gave (i := i) (unhide HK) rfl (by omega) (by rw [hNl]; omega) (fun hg => ⟨by rw [hNl]; omega, unhide HTz hg⟩)


set_option maxRecDepth 20000 in
set_option maxHeartbeats 4000000 in
theorem st_rb (E : SEnv Z ta tn ts) (h : SPS Z p ta tn tc false w i nd xs) (hi : i ≤ 4100) (hroom : xs.length + 4 * (5000 - i) ≤ 100000) (h0 : begC ((seenT ts).cl i) = true) {q0 : Nat} {t0 : List NodeD} (hq0 : q0 ≤ 4100) (hiq : i + 1 ≤ q0) (hO : ReadS Z p ta tn tc 95 #[.pointer (some ⟨p, 0, none⟩)] i true q0 t0) (hl : (seenT ts).cl i = 3) (hp : q0 = i + 1) (hs : 0 < scalNo ((seenT ts).cl q0)) (hb : (seenT ts).cl (q0 + 1) ≠ 8592) {q2 : Nat} (hR2 : RestP Z p ta tn tc q0 t0 g q2 t) :
    Calls Tryz.prog 43 #[.pointer (some ⟨p, 0, none⟩)] w (GaveS Z p ta tn tc w nd xs i g (q2) (t)) := by
  have uu := And.intro E hi
  clear uu
  have HK := hide (KS.start h)
  have hxl : (xs.map NodeC.d).length = xs.length := List.length_map ..
  obtain ⟨NS, hNS⟩ : ∃ NS, xs.map NodeC.d = NS := ⟨_, rfl⟩
  rw [hNS] at HK hxl
  have hxm : NS.length ≤ 100000 := by omega
  obtain ⟨p0, p1, p2, p3, f0, f1, f2, f3, hpl⟩ := h.all
  obtain ⟨tb, off, y, rfl, hbl, hlt, hy, hm, HTK⟩ := E.tok (j := i) (by intro e; rw [e] at h0; exact absurd h0 (by decide))
  have hsv : (seenT ts).sv i = y.t := by show (tokA ts 0 i).t = _; rw [hy]
  obtain ⟨yk, yn, yt, yp⟩ := y
  have hsv' : (seenT ts).sv i = yt := hsv
  have HTK := hide HTK
  have hl2 : (i : Int) < (tn : Int) := by omega
  have hl3 : i < tn := hlt
  have hw1 : IntKind.i64.wrap ((i : Int) + 1) = (i : Int) + 1 := by rw [IntKind.wrap_i64]; omega
  have hw2 : IntKind.i64.wrap ((q0 : Int) + 2) = (q0 : Int) + 2 := by rw [IntKind.wrap_i64]; omega
  have hw3 : IntKind.i64.wrap ((q0 : Int) + 1) = (q0 : Int) + 1 := by rw [IntKind.wrap_i64]; omega
  have hpp : ((q0 : Int) == (i : Int) + 1) = true := by rw [beq_iff_eq]; omega
  obtain ⟨N, hN⟩ : ∃ N, scalNo ((seenT ts).cl q0) = N := ⟨_, rfl⟩
  have ha : (seenT ts).cl q0 ≠ 8592 := fun e => by rw [e] at hs; exact absurd hs (by decide)
  rw [hN] at hs
  have hd0 : (0 : Int) < (N : Int) := by omega
  have K1 := hide (fun (V : World) (n : Value) (hk : KS Z p (some ⟨tb, off, none⟩) tn tc w nd xs [] NS i false V n nilL []) => hk.via (e0 := .returned (.bool false)) fun _ hX => (spName E hX true (r := false) (decide_eq_false (by intro e; rw [e] at h0; exact absurd h0 (by decide)))).mono fun _ _ h => ⟨h.1, (MidP.start hX).below h.2⟩)
  have K2 := hide (fun (V : World) (n : Value) (hk : KS Z p (some ⟨tb, off, none⟩) tn tc w nd xs [] NS i false V n nilL []) => hk.via (e0 := .returned (.bool true)) fun _ hX => (spBegins E hX (by omega) (r := true) h0).mono fun _ _ h => ⟨h.1, (MidP.start hX).below h.2⟩)
  have K3 := hide (fun (V : World) (n : Value) (hk : KS Z p (some ⟨tb, off, none⟩) tn tc w nd xs [] NS i false V n nilL []) => hk.via (e0 := .returned (.bool true)) fun _ hX => (spName E hX false (r := true) (decide_eq_true hl)).mono fun _ _ h => ⟨h.1, (MidP.start hX).below h.2⟩)
  obtain ⟨x, hx⟩ : ∃ x, sgT ts (i) = x := ⟨_, rfl⟩
  have K4 := hide (fun (V : World) (n : Value) (hk : KS Z p (some ⟨tb, off, none⟩) tn tc w nd xs [] NS i false V n nilL []) => hk.via (e0 := .returned (.string x)) fun _ hX => (spSign E hX (z := 0) (j := i) (by omega) (by omega)).mono fun _ _ h => ⟨by rw [h.1, hx], (MidP.start hX).below h.2⟩)
  have hqx40 : (x.toList == [40]) = false := by rw [show ([40] : List UInt8) = (⟨#[40]⟩ : ByteArray).toList by kernel_rfl, ← hx, sg_is E.ok (i) (c := 40) (by decide) (by kernel_rfl)]; exact decide_eq_false (by rw [hl]; decide)
  have K5 := hide (fun (V : World) (n : Value) (hk : KS Z p (some ⟨tb, off, none⟩) tn tc w nd xs [] NS i false V n nilL []) => hk.readY hO (by omega))
  have K6 := hide (fun (V : World) (n : Value) (ds : List NodeD) (hk : KS Z p (some ⟨tb, off, none⟩) tn tc w nd xs [] (NS ++ ds) q0 false V n nilL []) => hk.via (e0 := .returned (.int .i64 (N : Nat))) fun _ hX => (spScalar E hX (z := 0) (j := q0) (by omega) (by omega)).mono fun _ _ h => ⟨by rw [h.1, hN], (MidP.start hX).below h.2⟩)
  obtain ⟨x1, hx1⟩ : ∃ x, sgT ts (q0 + 1) = x := ⟨_, rfl⟩
  have K7 := hide (fun (V : World) (n : Value) (ds : List NodeD) (hk : KS Z p (some ⟨tb, off, none⟩) tn tc w nd xs [] (NS ++ ds) q0 false V n nilL []) => hk.via (e0 := .returned (.string x1)) fun _ hX => (spSign E hX (z := 1) (j := q0 + 1) (by omega) (by omega)).mono fun _ _ h => ⟨by rw [h.1, hx1], (MidP.start hX).below h.2⟩)
  have hqx18592 : (x1.toList == [226, 134, 144]) = false := by rw [show ([226, 134, 144] : List UInt8) = (⟨#[226, 134, 144]⟩ : ByteArray).toList by kernel_rfl, ← hx1, sg_is E.ok (q0 + 1) (c := 8592) (by decide) (by kernel_rfl)]; exact decide_eq_false (hb)
  obtain ⟨x2, hx2⟩ : ∃ x, sgT ts (q0) = x := ⟨_, rfl⟩
  have K8 := hide (fun (V : World) (n : Value) (ds : List NodeD) (hk : KS Z p (some ⟨tb, off, none⟩) tn tc w nd xs [] (NS ++ ds) q0 false V n nilL []) => hk.via (e0 := .returned (.string x2)) fun _ hX => (spSign E hX (z := 0) (j := q0) (by omega) (by omega)).mono fun _ _ h => ⟨by rw [h.1, hx2], (MidP.start hX).below h.2⟩)
  have hqx28592 : (x2.toList == [226, 134, 144]) = false := by rw [show ([226, 134, 144] : List UInt8) = (⟨#[226, 134, 144]⟩ : ByteArray).toList by kernel_rfl, ← hx2, sg_is E.ok (q0) (c := 8592) (by decide) (by kernel_rfl)]; exact decide_eq_false (ha)
  have K9 := hide (fun (V : World) (n : Value) (ds : List NodeD) (ez : Nat) (hlen : ds.length + 1 ≤ 4 * (q0 - i)) (ht : TreeAt (NS ++ ds) ez t0) (hk : KS Z p (some ⟨tb, off, none⟩) tn tc w nd xs [] (NS ++ ds) q0 false V n nilL []) => hk.rest hR2 (by rw [List.length_append]; omega) ht)
  have HXL := hide hxl
  clear h hxl hxm h0 hO hl hR2 hsv hsv' hlt hm hy hbl hx hs ha hb hx1 hx2 hN hp E
  go_enter Tryz.func43, Tryz.ntmps43
  go_wp2_with (first | (go_at_call 90; refine (unhide K1 _ _ (unhide HK)).mono ?_; clear K1; rintro e w5 ⟨rfl, hk, _⟩; clear HK; have HK := hide hk; clear hk) | (go_at_call 93; refine (unhide K2 _ _ (unhide HK)).mono ?_; clear K2; rintro e w5 ⟨rfl, hk, _⟩; clear HK; have HK := hide hk; clear hk) | (go_at_call 90; refine (unhide K3 _ _ (unhide HK)).mono ?_; clear K3; rintro e w5 ⟨rfl, hk, _⟩; clear HK; have HK := hide hk; clear hk) | (go_at_call 91; refine (unhide K4 _ _ (unhide HK)).mono ?_; clear K4; rintro e w5 ⟨rfl, hk, _⟩; clear HK; clear p0 p1 p2 p3 f0 f1 f2 f3 hpl; obtain ⟨p0, p1, p2, p3, f0, f1, f2, f3, hpl⟩ := hk.all; have HK := hide hk; clear hk) | (go_at_call 95; refine (unhide K5 _ _ (unhide HK)).mono ?_; clear K5; rintro e w5 ⟨ez1, nd5, ds, rfl, hk, _, hiez1, hlez1, htez1⟩; clear HK; have HIez1 := hide hiez1; have HLez1 := hide hlez1; have HTez1 := hide htez1; clear hiez1 hlez1 htez1; obtain ⟨p0, p1, p2, p3, f0, f1, f2, f3, hpl⟩ := hk.all; obtain ⟨a0, a1, a2, a3, htb⟩ := unhide HTK _ hk.low; have HK := hide hk; clear hk) | (go_at_call 96; refine (unhide K6 _ _ _ (unhide HK)).mono ?_; clear K6; rintro e w5 ⟨rfl, hk, _⟩; clear HK; have HK := hide hk; clear hk) | (go_at_call 91; refine (unhide K7 _ _ _ (unhide HK)).mono ?_; clear K7; rintro e w5 ⟨rfl, hk, _⟩; clear HK; have HK := hide hk; clear hk) | (go_at_call 91; refine (unhide K8 _ _ _ (unhide HK)).mono ?_; clear K8; rintro e w5 ⟨rfl, hk, _⟩; clear HK; have HK := hide hk; clear hk) | (go_at_call 97; refine (unhide K9 _ _ _ _ (unhide HLez1) (unhide HTez1) (unhide HK)).mono ?_; clear K9; rintro e w5 ⟨z, nd5, ds2, rfl, hk, hiz, hlz, htz⟩; clear HK; have HIz := hide hiz; have HLz := hide hlz; have HTz := hide htz; have HK := hide hk; clear hk hiz hlz htz))
  go_ret
  have hxl := unhide HXL
  have h1 := unhide HLez1
  have h2 := unhide HLz
  have h3 := unhide HIez1
  have h4 := unhide HIz
  have hNl : ((NS ++ ds) ++ ds2).length = NS.length + ds.length + ds2.length := by rw [List.length_append, List.length_append]
  exact KS.gave (i := i) (unhide HK) rfl (by omega) (by rw [hNl]; omega) (fun hg => ⟨by rw [hNl]; omega, unhide HTz hg⟩)


set_option maxRecDepth 20000 in
set_option maxHeartbeats 4000000 in
theorem st_rc (E : SEnv Z ta tn ts) (h : SPS Z p ta tn tc false w i nd xs) (hi : i ≤ 4100) (hroom : xs.length + 4 * (5000 - i) ≤ 100000) (h0 : begC ((seenT ts).cl i) = true) {q0 : Nat} {t0 : List NodeD} (hq0 : q0 ≤ 4100) (hiq : i + 1 ≤ q0) (hO : ReadS Z p ta tn tc 95 #[.pointer (some ⟨p, 0, none⟩)] i true q0 t0) (hl : (seenT ts).cl i = 3) (hp : q0 ≠ i + 1) (ha : (seenT ts).cl q0 ≠ 8592) {q2 : Nat} (hR2 : RestP Z p ta tn tc q0 t0 g q2 t) :
    Calls Tryz.prog 43 #[.pointer (some ⟨p, 0, none⟩)] w (GaveS Z p ta tn tc w nd xs i g (q2) (t)) := by
  have uu := And.intro E hi
  clear uu
  have HK := hide (KS.start h)
  have hxl : (xs.map NodeC.d).length = xs.length := List.length_map ..
  obtain ⟨NS, hNS⟩ : ∃ NS, xs.map NodeC.d = NS := ⟨_, rfl⟩
  rw [hNS] at HK hxl
  have hxm : NS.length ≤ 100000 := by omega
  obtain ⟨p0, p1, p2, p3, f0, f1, f2, f3, hpl⟩ := h.all
  obtain ⟨tb, off, y, rfl, hbl, hlt, hy, hm, HTK⟩ := E.tok (j := i) (by intro e; rw [e] at h0; exact absurd h0 (by decide))
  have hsv : (seenT ts).sv i = y.t := by show (tokA ts 0 i).t = _; rw [hy]
  obtain ⟨yk, yn, yt, yp⟩ := y
  have hsv' : (seenT ts).sv i = yt := hsv
  have HTK := hide HTK
  have hl2 : (i : Int) < (tn : Int) := by omega
  have hl3 : i < tn := hlt
  have hw1 : IntKind.i64.wrap ((i : Int) + 1) = (i : Int) + 1 := by rw [IntKind.wrap_i64]; omega
  have hw2 : IntKind.i64.wrap ((q0 : Int) + 2) = (q0 : Int) + 2 := by rw [IntKind.wrap_i64]; omega
  have hw3 : IntKind.i64.wrap ((q0 : Int) + 1) = (q0 : Int) + 1 := by rw [IntKind.wrap_i64]; omega
  have hpp : ((q0 : Int) == (i : Int) + 1) = false := by rw [beq_eq_false_iff_ne]; omega
  have K1 := hide (fun (V : World) (n : Value) (hk : KS Z p (some ⟨tb, off, none⟩) tn tc w nd xs [] NS i false V n nilL []) => hk.via (e0 := .returned (.bool false)) fun _ hX => (spName E hX true (r := false) (decide_eq_false (by intro e; rw [e] at h0; exact absurd h0 (by decide)))).mono fun _ _ h => ⟨h.1, (MidP.start hX).below h.2⟩)
  have K2 := hide (fun (V : World) (n : Value) (hk : KS Z p (some ⟨tb, off, none⟩) tn tc w nd xs [] NS i false V n nilL []) => hk.via (e0 := .returned (.bool true)) fun _ hX => (spBegins E hX (by omega) (r := true) h0).mono fun _ _ h => ⟨h.1, (MidP.start hX).below h.2⟩)
  have K3 := hide (fun (V : World) (n : Value) (hk : KS Z p (some ⟨tb, off, none⟩) tn tc w nd xs [] NS i false V n nilL []) => hk.via (e0 := .returned (.bool true)) fun _ hX => (spName E hX false (r := true) (decide_eq_true hl)).mono fun _ _ h => ⟨h.1, (MidP.start hX).below h.2⟩)
  obtain ⟨x, hx⟩ : ∃ x, sgT ts (i) = x := ⟨_, rfl⟩
  have K4 := hide (fun (V : World) (n : Value) (hk : KS Z p (some ⟨tb, off, none⟩) tn tc w nd xs [] NS i false V n nilL []) => hk.via (e0 := .returned (.string x)) fun _ hX => (spSign E hX (z := 0) (j := i) (by omega) (by omega)).mono fun _ _ h => ⟨by rw [h.1, hx], (MidP.start hX).below h.2⟩)
  have hqx40 : (x.toList == [40]) = false := by rw [show ([40] : List UInt8) = (⟨#[40]⟩ : ByteArray).toList by kernel_rfl, ← hx, sg_is E.ok (i) (c := 40) (by decide) (by kernel_rfl)]; exact decide_eq_false (by rw [hl]; decide)
  have K5 := hide (fun (V : World) (n : Value) (hk : KS Z p (some ⟨tb, off, none⟩) tn tc w nd xs [] NS i false V n nilL []) => hk.readY hO (by omega))
  obtain ⟨x2, hx2⟩ : ∃ x, sgT ts (q0) = x := ⟨_, rfl⟩
  have K6 := hide (fun (V : World) (n : Value) (ds : List NodeD) (hk : KS Z p (some ⟨tb, off, none⟩) tn tc w nd xs [] (NS ++ ds) q0 false V n nilL []) => hk.via (e0 := .returned (.string x2)) fun _ hX => (spSign E hX (z := 0) (j := q0) (by omega) (by omega)).mono fun _ _ h => ⟨by rw [h.1, hx2], (MidP.start hX).below h.2⟩)
  have hqx28592 : (x2.toList == [226, 134, 144]) = false := by rw [show ([226, 134, 144] : List UInt8) = (⟨#[226, 134, 144]⟩ : ByteArray).toList by kernel_rfl, ← hx2, sg_is E.ok (q0) (c := 8592) (by decide) (by kernel_rfl)]; exact decide_eq_false (ha)
  have K7 := hide (fun (V : World) (n : Value) (ds : List NodeD) (ez : Nat) (hlen : ds.length + 1 ≤ 4 * (q0 - i)) (ht : TreeAt (NS ++ ds) ez t0) (hk : KS Z p (some ⟨tb, off, none⟩) tn tc w nd xs [] (NS ++ ds) q0 false V n nilL []) => hk.rest hR2 (by rw [List.length_append]; omega) ht)
  have HXL := hide hxl
  clear h hxl hxm h0 hO hl hR2 hsv hsv' hlt hm hy hbl hx ha hx2 hp E
  go_enter Tryz.func43, Tryz.ntmps43
  go_wp2_with (first | (go_at_call 90; refine (unhide K1 _ _ (unhide HK)).mono ?_; clear K1; rintro e w5 ⟨rfl, hk, _⟩; clear HK; have HK := hide hk; clear hk) | (go_at_call 93; refine (unhide K2 _ _ (unhide HK)).mono ?_; clear K2; rintro e w5 ⟨rfl, hk, _⟩; clear HK; have HK := hide hk; clear hk) | (go_at_call 90; refine (unhide K3 _ _ (unhide HK)).mono ?_; clear K3; rintro e w5 ⟨rfl, hk, _⟩; clear HK; have HK := hide hk; clear hk) | (go_at_call 91; refine (unhide K4 _ _ (unhide HK)).mono ?_; clear K4; rintro e w5 ⟨rfl, hk, _⟩; clear HK; clear p0 p1 p2 p3 f0 f1 f2 f3 hpl; obtain ⟨p0, p1, p2, p3, f0, f1, f2, f3, hpl⟩ := hk.all; have HK := hide hk; clear hk) | (go_at_call 95; refine (unhide K5 _ _ (unhide HK)).mono ?_; clear K5; rintro e w5 ⟨ez1, nd5, ds, rfl, hk, _, hiez1, hlez1, htez1⟩; clear HK; have HIez1 := hide hiez1; have HLez1 := hide hlez1; have HTez1 := hide htez1; clear hiez1 hlez1 htez1; obtain ⟨p0, p1, p2, p3, f0, f1, f2, f3, hpl⟩ := hk.all; obtain ⟨a0, a1, a2, a3, htb⟩ := unhide HTK _ hk.low; have HK := hide hk; clear hk) | (go_at_call 91; refine (unhide K6 _ _ _ (unhide HK)).mono ?_; clear K6; rintro e w5 ⟨rfl, hk, _⟩; clear HK; have HK := hide hk; clear hk) | (go_at_call 97; refine (unhide K7 _ _ _ _ (unhide HLez1) (unhide HTez1) (unhide HK)).mono ?_; clear K7; rintro e w5 ⟨z, nd5, ds2, rfl, hk, hiz, hlz, htz⟩; clear HK; have HIz := hide hiz; have HLz := hide hlz; have HTz := hide htz; have HK := hide hk; clear hk hiz hlz htz))
  go_ret
  have hxl := unhide HXL
  have h1 := unhide HLez1
  have h2 := unhide HLz
  have h3 := unhide HIez1
  have h4 := unhide HIz
  have hNl : ((NS ++ ds) ++ ds2).length = NS.length + ds.length + ds2.length := by rw [List.length_append, List.length_append]
  exact KS.gave (i := i) (unhide HK) rfl (by omega) (by rw [hNl]; omega) (fun hg => ⟨by rw [hNl]; omega, unhide HTz hg⟩)


set_option maxRecDepth 20000 in
set_option maxHeartbeats 4000000 in
theorem st_rdr (E : SEnv Z ta tn ts) (h : SPS Z p ta tn tc false w i nd xs) (hi : i ≤ 4100) (hroom : xs.length + 4 * (5000 - i) ≤ 100000) (h0 : begC ((seenT ts).cl i) = true) {q0 : Nat} {t0 : List NodeD} (hq0 : q0 ≤ 4100) (hiq : i + 1 ≤ q0) (hO : ReadS Z p ta tn tc 95 #[.pointer (some ⟨p, 0, none⟩)] i true q0 t0) (hl : (seenT ts).cl i ≠ 3) (hr : (seenT ts).cl i = 40) (ha : (seenT ts).cl q0 ≠ 8592) {q2 : Nat} (hR2 : RestP Z p ta tn tc q0 t0 g q2 t) :
    Calls Tryz.prog 43 #[.pointer (some ⟨p, 0, none⟩)] w (GaveS Z p ta tn tc w nd xs i g (q2) (t)) := by
  have uu := And.intro E hi
  clear uu
  have HK := hide (KS.start h)
  have hxl : (xs.map NodeC.d).length = xs.length := List.length_map ..
  obtain ⟨NS, hNS⟩ : ∃ NS, xs.map NodeC.d = NS := ⟨_, rfl⟩
  rw [hNS] at HK hxl
  have hxm : NS.length ≤ 100000 := by omega
  obtain ⟨p0, p1, p2, p3, f0, f1, f2, f3, hpl⟩ := h.all
  obtain ⟨tb, off, y, rfl, hbl, hlt, hy, hm, HTK⟩ := E.tok (j := i) (by intro e; rw [e] at h0; exact absurd h0 (by decide))
  have hsv : (seenT ts).sv i = y.t := by show (tokA ts 0 i).t = _; rw [hy]
  obtain ⟨yk, yn, yt, yp⟩ := y
  have hsv' : (seenT ts).sv i = yt := hsv
  have HTK := hide HTK
  have hl2 : (i : Int) < (tn : Int) := by omega
  have hl3 : i < tn := hlt
  have hw1 : IntKind.i64.wrap ((i : Int) + 1) = (i : Int) + 1 := by rw [IntKind.wrap_i64]; omega
  have hw2 : IntKind.i64.wrap ((q0 : Int) + 2) = (q0 : Int) + 2 := by rw [IntKind.wrap_i64]; omega
  have hw3 : IntKind.i64.wrap ((q0 : Int) + 1) = (q0 : Int) + 1 := by rw [IntKind.wrap_i64]; omega
  have K1 := hide (fun (V : World) (n : Value) (hk : KS Z p (some ⟨tb, off, none⟩) tn tc w nd xs [] NS i false V n nilL []) => hk.via (e0 := .returned (.bool false)) fun _ hX => (spName E hX true (r := false) (decide_eq_false (by intro e; rw [e] at h0; exact absurd h0 (by decide)))).mono fun _ _ h => ⟨h.1, (MidP.start hX).below h.2⟩)
  have K2 := hide (fun (V : World) (n : Value) (hk : KS Z p (some ⟨tb, off, none⟩) tn tc w nd xs [] NS i false V n nilL []) => hk.via (e0 := .returned (.bool true)) fun _ hX => (spBegins E hX (by omega) (r := true) h0).mono fun _ _ h => ⟨h.1, (MidP.start hX).below h.2⟩)
  have K3 := hide (fun (V : World) (n : Value) (hk : KS Z p (some ⟨tb, off, none⟩) tn tc w nd xs [] NS i false V n nilL []) => hk.via (e0 := .returned (.bool false)) fun _ hX => (spName E hX false (r := false) (decide_eq_false hl)).mono fun _ _ h => ⟨h.1, (MidP.start hX).below h.2⟩)
  obtain ⟨x, hx⟩ : ∃ x, sgT ts (i) = x := ⟨_, rfl⟩
  have K4 := hide (fun (V : World) (n : Value) (hk : KS Z p (some ⟨tb, off, none⟩) tn tc w nd xs [] NS i false V n nilL []) => hk.via (e0 := .returned (.string x)) fun _ hX => (spSign E hX (z := 0) (j := i) (by omega) (by omega)).mono fun _ _ h => ⟨by rw [h.1, hx], (MidP.start hX).below h.2⟩)
  have hqx40 : (x.toList == [40]) = true := by rw [show ([40] : List UInt8) = (⟨#[40]⟩ : ByteArray).toList by kernel_rfl, ← hx, sg_is E.ok (i) (c := 40) (by decide) (by kernel_rfl)]; exact decide_eq_true (hr)
  have K5 := hide (fun (V : World) (n : Value) (hk : KS Z p (some ⟨tb, off, none⟩) tn tc w nd xs [] NS i false V n nilL []) => hk.readY hO (by omega))
  obtain ⟨x2, hx2⟩ : ∃ x, sgT ts (q0) = x := ⟨_, rfl⟩
  have K6 := hide (fun (V : World) (n : Value) (ds : List NodeD) (hk : KS Z p (some ⟨tb, off, none⟩) tn tc w nd xs [] (NS ++ ds) q0 false V n nilL []) => hk.via (e0 := .returned (.string x2)) fun _ hX => (spSign E hX (z := 0) (j := q0) (by omega) (by omega)).mono fun _ _ h => ⟨by rw [h.1, hx2], (MidP.start hX).below h.2⟩)
  have hqx28592 : (x2.toList == [226, 134, 144]) = false := by rw [show ([226, 134, 144] : List UInt8) = (⟨#[226, 134, 144]⟩ : ByteArray).toList by kernel_rfl, ← hx2, sg_is E.ok (q0) (c := 8592) (by decide) (by kernel_rfl)]; exact decide_eq_false (ha)
  have K7 := hide (fun (V : World) (n : Value) (ds : List NodeD) (ez : Nat) (hlen : ds.length + 1 ≤ 4 * (q0 - i)) (ht : TreeAt (NS ++ ds) ez t0) (hk : KS Z p (some ⟨tb, off, none⟩) tn tc w nd xs [] (NS ++ ds) q0 false V n nilL []) => hk.rest hR2 (by rw [List.length_append]; omega) ht)
  have HXL := hide hxl
  clear h hxl hxm h0 hO hl hR2 hsv hsv' hlt hm hy hbl hx ha hx2 hr E
  go_enter Tryz.func43, Tryz.ntmps43
  go_wp2_with (first | (go_at_call 90; refine (unhide K1 _ _ (unhide HK)).mono ?_; clear K1; rintro e w5 ⟨rfl, hk, _⟩; clear HK; have HK := hide hk; clear hk) | (go_at_call 93; refine (unhide K2 _ _ (unhide HK)).mono ?_; clear K2; rintro e w5 ⟨rfl, hk, _⟩; clear HK; have HK := hide hk; clear hk) | (go_at_call 90; refine (unhide K3 _ _ (unhide HK)).mono ?_; clear K3; rintro e w5 ⟨rfl, hk, _⟩; clear HK; have HK := hide hk; clear hk) | (go_at_call 91; refine (unhide K4 _ _ (unhide HK)).mono ?_; clear K4; rintro e w5 ⟨rfl, hk, _⟩; clear HK; clear p0 p1 p2 p3 f0 f1 f2 f3 hpl; obtain ⟨p0, p1, p2, p3, f0, f1, f2, f3, hpl⟩ := hk.all; have HK := hide hk; clear hk) | (go_at_call 95; refine (unhide K5 _ _ (unhide HK)).mono ?_; clear K5; rintro e w5 ⟨ez1, nd5, ds, rfl, hk, _, hiez1, hlez1, htez1⟩; clear HK; have HIez1 := hide hiez1; have HLez1 := hide hlez1; have HTez1 := hide htez1; clear hiez1 hlez1 htez1; obtain ⟨p0, p1, p2, p3, f0, f1, f2, f3, hpl⟩ := hk.all; obtain ⟨a0, a1, a2, a3, htb⟩ := unhide HTK _ hk.low; have HK := hide hk; clear hk) | (go_at_call 91; refine (unhide K6 _ _ _ (unhide HK)).mono ?_; clear K6; rintro e w5 ⟨rfl, hk, _⟩; clear HK; have HK := hide hk; clear hk) | (go_at_call 97; refine (unhide K7 _ _ _ _ (unhide HLez1) (unhide HTez1) (unhide HK)).mono ?_; clear K7; rintro e w5 ⟨z, nd5, ds2, rfl, hk, hiz, hlz, htz⟩; clear HK; have HIz := hide hiz; have HLz := hide hlz; have HTz := hide htz; have HK := hide hk; clear hk hiz hlz htz))
  go_ret
  have hxl := unhide HXL
  have h1 := unhide HLez1
  have h2 := unhide HLz
  have h3 := unhide HIez1
  have h4 := unhide HIz
  have hNl : ((NS ++ ds) ++ ds2).length = NS.length + ds.length + ds2.length := by rw [List.length_append, List.length_append]
  exact KS.gave (i := i) (unhide HK) rfl (by omega) (by rw [hNl]; omega) (fun hg => ⟨by rw [hNl]; omega, unhide HTz hg⟩)


set_option maxRecDepth 20000 in
set_option maxHeartbeats 4000000 in
theorem st_rd (E : SEnv Z ta tn ts) (h : SPS Z p ta tn tc false w i nd xs) (hi : i ≤ 4100) (hroom : xs.length + 4 * (5000 - i) ≤ 100000) (h0 : begC ((seenT ts).cl i) = true) {q0 : Nat} {t0 : List NodeD} (hq0 : q0 ≤ 4100) (hiq : i + 1 ≤ q0) (hO : ReadS Z p ta tn tc 95 #[.pointer (some ⟨p, 0, none⟩)] i true q0 t0) (hl : (seenT ts).cl i ≠ 3) (hr : (seenT ts).cl i ≠ 40) (ha : (seenT ts).cl q0 ≠ 8592) {q2 : Nat} (hR2 : RestP Z p ta tn tc q0 t0 g q2 t) :
    Calls Tryz.prog 43 #[.pointer (some ⟨p, 0, none⟩)] w (GaveS Z p ta tn tc w nd xs i g (q2) (t)) := by
  have uu := And.intro E hi
  clear uu
  have HK := hide (KS.start h)
  have hxl : (xs.map NodeC.d).length = xs.length := List.length_map ..
  obtain ⟨NS, hNS⟩ : ∃ NS, xs.map NodeC.d = NS := ⟨_, rfl⟩
  rw [hNS] at HK hxl
  have hxm : NS.length ≤ 100000 := by omega
  obtain ⟨p0, p1, p2, p3, f0, f1, f2, f3, hpl⟩ := h.all
  obtain ⟨tb, off, y, rfl, hbl, hlt, hy, hm, HTK⟩ := E.tok (j := i) (by intro e; rw [e] at h0; exact absurd h0 (by decide))
  have hsv : (seenT ts).sv i = y.t := by show (tokA ts 0 i).t = _; rw [hy]
  obtain ⟨yk, yn, yt, yp⟩ := y
  have hsv' : (seenT ts).sv i = yt := hsv
  have HTK := hide HTK
  have hl2 : (i : Int) < (tn : Int) := by omega
  have hl3 : i < tn := hlt
  have hw1 : IntKind.i64.wrap ((i : Int) + 1) = (i : Int) + 1 := by rw [IntKind.wrap_i64]; omega
  have hw2 : IntKind.i64.wrap ((q0 : Int) + 2) = (q0 : Int) + 2 := by rw [IntKind.wrap_i64]; omega
  have hw3 : IntKind.i64.wrap ((q0 : Int) + 1) = (q0 : Int) + 1 := by rw [IntKind.wrap_i64]; omega
  have K1 := hide (fun (V : World) (n : Value) (hk : KS Z p (some ⟨tb, off, none⟩) tn tc w nd xs [] NS i false V n nilL []) => hk.via (e0 := .returned (.bool false)) fun _ hX => (spName E hX true (r := false) (decide_eq_false (by intro e; rw [e] at h0; exact absurd h0 (by decide)))).mono fun _ _ h => ⟨h.1, (MidP.start hX).below h.2⟩)
  have K2 := hide (fun (V : World) (n : Value) (hk : KS Z p (some ⟨tb, off, none⟩) tn tc w nd xs [] NS i false V n nilL []) => hk.via (e0 := .returned (.bool true)) fun _ hX => (spBegins E hX (by omega) (r := true) h0).mono fun _ _ h => ⟨h.1, (MidP.start hX).below h.2⟩)
  have K3 := hide (fun (V : World) (n : Value) (hk : KS Z p (some ⟨tb, off, none⟩) tn tc w nd xs [] NS i false V n nilL []) => hk.via (e0 := .returned (.bool false)) fun _ hX => (spName E hX false (r := false) (decide_eq_false hl)).mono fun _ _ h => ⟨h.1, (MidP.start hX).below h.2⟩)
  obtain ⟨x, hx⟩ : ∃ x, sgT ts (i) = x := ⟨_, rfl⟩
  have K4 := hide (fun (V : World) (n : Value) (hk : KS Z p (some ⟨tb, off, none⟩) tn tc w nd xs [] NS i false V n nilL []) => hk.via (e0 := .returned (.string x)) fun _ hX => (spSign E hX (z := 0) (j := i) (by omega) (by omega)).mono fun _ _ h => ⟨by rw [h.1, hx], (MidP.start hX).below h.2⟩)
  have hqx40 : (x.toList == [40]) = false := by rw [show ([40] : List UInt8) = (⟨#[40]⟩ : ByteArray).toList by kernel_rfl, ← hx, sg_is E.ok (i) (c := 40) (by decide) (by kernel_rfl)]; exact decide_eq_false (hr)
  have K5 := hide (fun (V : World) (n : Value) (hk : KS Z p (some ⟨tb, off, none⟩) tn tc w nd xs [] NS i false V n nilL []) => hk.readY hO (by omega))
  obtain ⟨x2, hx2⟩ : ∃ x, sgT ts (q0) = x := ⟨_, rfl⟩
  have K6 := hide (fun (V : World) (n : Value) (ds : List NodeD) (hk : KS Z p (some ⟨tb, off, none⟩) tn tc w nd xs [] (NS ++ ds) q0 false V n nilL []) => hk.via (e0 := .returned (.string x2)) fun _ hX => (spSign E hX (z := 0) (j := q0) (by omega) (by omega)).mono fun _ _ h => ⟨by rw [h.1, hx2], (MidP.start hX).below h.2⟩)
  have hqx28592 : (x2.toList == [226, 134, 144]) = false := by rw [show ([226, 134, 144] : List UInt8) = (⟨#[226, 134, 144]⟩ : ByteArray).toList by kernel_rfl, ← hx2, sg_is E.ok (q0) (c := 8592) (by decide) (by kernel_rfl)]; exact decide_eq_false (ha)
  have K7 := hide (fun (V : World) (n : Value) (ds : List NodeD) (ez : Nat) (hlen : ds.length + 1 ≤ 4 * (q0 - i)) (ht : TreeAt (NS ++ ds) ez t0) (hk : KS Z p (some ⟨tb, off, none⟩) tn tc w nd xs [] (NS ++ ds) q0 false V n nilL []) => hk.rest hR2 (by rw [List.length_append]; omega) ht)
  have HXL := hide hxl
  clear h hxl hxm h0 hO hl hR2 hsv hsv' hlt hm hy hbl hx ha hx2 hr E
  go_enter Tryz.func43, Tryz.ntmps43
  go_wp2_with (first | (go_at_call 90; refine (unhide K1 _ _ (unhide HK)).mono ?_; clear K1; rintro e w5 ⟨rfl, hk, _⟩; clear HK; have HK := hide hk; clear hk) | (go_at_call 93; refine (unhide K2 _ _ (unhide HK)).mono ?_; clear K2; rintro e w5 ⟨rfl, hk, _⟩; clear HK; have HK := hide hk; clear hk) | (go_at_call 90; refine (unhide K3 _ _ (unhide HK)).mono ?_; clear K3; rintro e w5 ⟨rfl, hk, _⟩; clear HK; have HK := hide hk; clear hk) | (go_at_call 91; refine (unhide K4 _ _ (unhide HK)).mono ?_; clear K4; rintro e w5 ⟨rfl, hk, _⟩; clear HK; clear p0 p1 p2 p3 f0 f1 f2 f3 hpl; obtain ⟨p0, p1, p2, p3, f0, f1, f2, f3, hpl⟩ := hk.all; have HK := hide hk; clear hk) | (go_at_call 95; refine (unhide K5 _ _ (unhide HK)).mono ?_; clear K5; rintro e w5 ⟨ez1, nd5, ds, rfl, hk, _, hiez1, hlez1, htez1⟩; clear HK; have HIez1 := hide hiez1; have HLez1 := hide hlez1; have HTez1 := hide htez1; clear hiez1 hlez1 htez1; obtain ⟨p0, p1, p2, p3, f0, f1, f2, f3, hpl⟩ := hk.all; obtain ⟨a0, a1, a2, a3, htb⟩ := unhide HTK _ hk.low; have HK := hide hk; clear hk) | (go_at_call 91; refine (unhide K6 _ _ _ (unhide HK)).mono ?_; clear K6; rintro e w5 ⟨rfl, hk, _⟩; clear HK; have HK := hide hk; clear hk) | (go_at_call 97; refine (unhide K7 _ _ _ _ (unhide HLez1) (unhide HTez1) (unhide HK)).mono ?_; clear K7; rintro e w5 ⟨z, nd5, ds2, rfl, hk, hiz, hlz, htz⟩; clear HK; have HIz := hide hiz; have HLz := hide hlz; have HTz := hide htz; have HK := hide hk; clear hk hiz hlz htz))
  go_ret
  have hxl := unhide HXL
  have h1 := unhide HLez1
  have h2 := unhide HLz
  have h3 := unhide HIez1
  have h4 := unhide HIz
  have hNl : ((NS ++ ds) ++ ds2).length = NS.length + ds.length + ds2.length := by rw [List.length_append, List.length_append]
  exact KS.gave (i := i) (unhide HK) rfl (by omega) (by rw [hNl]; omega) (fun hg => ⟨by rw [hNl]; omega, unhide HTz hg⟩)


set_option maxRecDepth 20000 in
set_option maxHeartbeats 4000000 in
theorem st_mod (E : SEnv Z ta tn ts) (h : SPS Z p ta tn tc false w i nd xs) (hi : i ≤ 4100) (hroom : xs.length + 4 * (5000 - i) ≤ 100000) (h0 : begC ((seenT ts).cl i) = true) {q0 : Nat} {t0 : List NodeD} (hq0 : q0 ≤ 4100) (hiq : i + 1 ≤ q0) (hO : ReadS Z p ta tn tc 95 #[.pointer (some ⟨p, 0, none⟩)] i true q0 t0) (hl : (seenT ts).cl i = 3) (hp : q0 = i + 1) (hs : 0 < scalNo ((seenT ts).cl q0)) (hb : (seenT ts).cl (q0 + 1) = 8592) {q2 : Nat} {t2 : List NodeD} (hq42 : q2 ≤ 4100) (hR2 : ReadS Z p ta tn tc 94 #[.pointer (some ⟨p, 0, none⟩)] (q0 + 2) g q2 t2) :
    Calls Tryz.prog 43 #[.pointer (some ⟨p, 0, none⟩)] w (GaveS Z p ta tn tc w nd xs i g (q2) (treeN 22 (scalNo ((seenT ts).cl q0) : Nat) 0 ((seenT ts).sv i) [] [t2])) := by
  have uu := And.intro E hi
  clear uu
  have HK := hide (KS.start h)
  have hxl : (xs.map NodeC.d).length = xs.length := List.length_map ..
  obtain ⟨NS, hNS⟩ : ∃ NS, xs.map NodeC.d = NS := ⟨_, rfl⟩
  rw [hNS] at HK hxl
  have hxm : NS.length ≤ 100000 := by omega
  obtain ⟨p0, p1, p2, p3, f0, f1, f2, f3, hpl⟩ := h.all
  obtain ⟨tb, off, y, rfl, hbl, hlt, hy, hm, HTK⟩ := E.tok (j := i) (by intro e; rw [e] at h0; exact absurd h0 (by decide))
  have hsv : (seenT ts).sv i = y.t := by show (tokA ts 0 i).t = _; rw [hy]
  obtain ⟨yk, yn, yt, yp⟩ := y
  have hsv' : (seenT ts).sv i = yt := hsv
  have HTK := hide HTK
  have hl2 : (i : Int) < (tn : Int) := by omega
  have hl3 : i < tn := hlt
  have hw1 : IntKind.i64.wrap ((i : Int) + 1) = (i : Int) + 1 := by rw [IntKind.wrap_i64]; omega
  have hw2 : IntKind.i64.wrap ((q0 : Int) + 2) = (q0 : Int) + 2 := by rw [IntKind.wrap_i64]; omega
  have hw3 : IntKind.i64.wrap ((q0 : Int) + 1) = (q0 : Int) + 1 := by rw [IntKind.wrap_i64]; omega
  have hpp : ((q0 : Int) == (i : Int) + 1) = true := by rw [beq_iff_eq]; omega
  obtain ⟨N, hN⟩ : ∃ N, scalNo ((seenT ts).cl q0) = N := ⟨_, rfl⟩
  rw [hN] at hs ⊢
  have hd0 : (0 : Int) < (N : Int) := by omega
  have HSV := hide hsv'
  have K1 := hide (fun (V : World) (n : Value) (hk : KS Z p (some ⟨tb, off, none⟩) tn tc w nd xs [] NS i false V n nilL []) => hk.via (e0 := .returned (.bool false)) fun _ hX => (spName E hX true (r := false) (decide_eq_false (by intro e; rw [e] at h0; exact absurd h0 (by decide)))).mono fun _ _ h => ⟨h.1, (MidP.start hX).below h.2⟩)
  have K2 := hide (fun (V : World) (n : Value) (hk : KS Z p (some ⟨tb, off, none⟩) tn tc w nd xs [] NS i false V n nilL []) => hk.via (e0 := .returned (.bool true)) fun _ hX => (spBegins E hX (by omega) (r := true) h0).mono fun _ _ h => ⟨h.1, (MidP.start hX).below h.2⟩)
  have K3 := hide (fun (V : World) (n : Value) (hk : KS Z p (some ⟨tb, off, none⟩) tn tc w nd xs [] NS i false V n nilL []) => hk.via (e0 := .returned (.bool true)) fun _ hX => (spName E hX false (r := true) (decide_eq_true hl)).mono fun _ _ h => ⟨h.1, (MidP.start hX).below h.2⟩)
  obtain ⟨x, hx⟩ : ∃ x, sgT ts (i) = x := ⟨_, rfl⟩
  have K4 := hide (fun (V : World) (n : Value) (hk : KS Z p (some ⟨tb, off, none⟩) tn tc w nd xs [] NS i false V n nilL []) => hk.via (e0 := .returned (.string x)) fun _ hX => (spSign E hX (z := 0) (j := i) (by omega) (by omega)).mono fun _ _ h => ⟨by rw [h.1, hx], (MidP.start hX).below h.2⟩)
  have hqx40 : (x.toList == [40]) = false := by rw [show ([40] : List UInt8) = (⟨#[40]⟩ : ByteArray).toList by kernel_rfl, ← hx, sg_is E.ok (i) (c := 40) (by decide) (by kernel_rfl)]; exact decide_eq_false (by rw [hl]; decide)
  have K5 := hide (fun (V : World) (n : Value) (hk : KS Z p (some ⟨tb, off, none⟩) tn tc w nd xs [] NS i false V n nilL []) => hk.readY hO (by omega))
  have K6 := hide (fun (V : World) (n : Value) (ds : List NodeD) (hk : KS Z p (some ⟨tb, off, none⟩) tn tc w nd xs [] (NS ++ ds) q0 false V n nilL []) => hk.via (e0 := .returned (.int .i64 (N : Nat))) fun _ hX => (spScalar E hX (z := 0) (j := q0) (by omega) (by omega)).mono fun _ _ h => ⟨by rw [h.1, hN], (MidP.start hX).below h.2⟩)
  obtain ⟨x1, hx1⟩ : ∃ x, sgT ts (q0 + 1) = x := ⟨_, rfl⟩
  have K7 := hide (fun (V : World) (n : Value) (ds : List NodeD) (hk : KS Z p (some ⟨tb, off, none⟩) tn tc w nd xs [] (NS ++ ds) q0 false V n nilL []) => hk.via (e0 := .returned (.string x1)) fun _ hX => (spSign E hX (z := 1) (j := q0 + 1) (by omega) (by omega)).mono fun _ _ h => ⟨by rw [h.1, hx1], (MidP.start hX).below h.2⟩)
  have hqx18592 : (x1.toList == [226, 134, 144]) = true := by rw [show ([226, 134, 144] : List UInt8) = (⟨#[226, 134, 144]⟩ : ByteArray).toList by kernel_rfl, ← hx1, sg_is E.ok (q0 + 1) (c := 8592) (by decide) (by kernel_rfl)]; exact decide_eq_true (hb)
  have K8 := hide (fun (V : World) (n : Value) (ds : List NodeD) (hk : KS Z p (some ⟨tb, off, none⟩) tn tc w nd xs [] (NS ++ ds) q0 false V n nilL []) => hk.via (e0 := .returned (.int .i64 (N : Nat))) fun _ hX => (spScalar E hX (z := 0) (j := q0) (by omega) (by omega)).mono fun _ _ h => ⟨by rw [h.1, hN], (MidP.start hX).below h.2⟩)
  have K9 := hide (fun (V : World) (n : Value) (ds : List NodeD) (hlends : ds.length + 1 ≤ 4 * (q0 - i)) (hk : KS Z p (some ⟨tb, off, none⟩) tn tc w nd xs [] (NS ++ ds) (q0 + 2) false V n nilL []) => hk.read hR2 (by rw [List.length_append]; omega))
  have K10 := hide (fun (V : World) (n : Value) (ds : List NodeD) (ds2 : List NodeD) (a : Option Addr) (c l : Nat) (zs : List Int) (hlen : ((NS ++ ds) ++ ds2).length ≤ 1048576) (hk : KS Z p (some ⟨tb, off, none⟩) tn tc w nd xs [] ((NS ++ ds) ++ ds2) q2 (!g) V n (.slice a l c) zs) => (hk.put 22 (N : Nat) 0 yt hlen).mono fun _ _ h => (⟨_, rfl, h⟩ : ∃ m : Nat, m = _ ∧ _ = Ending.returned (.int .i64 (m : Nat)) ∧ _))
  have HXL := hide hxl
  clear h hxl hxm h0 hO hl hR2 hsv hsv' hlt hm hy hbl hx hs hb hx1 hN hp E
  go_enter Tryz.func43, Tryz.ntmps43
  go_wp2_with (first | (go_at_call 90; refine (unhide K1 _ _ (unhide HK)).mono ?_; clear K1; rintro e w5 ⟨rfl, hk, _⟩; clear HK; have HK := hide hk; clear hk) | (go_at_call 93; refine (unhide K2 _ _ (unhide HK)).mono ?_; clear K2; rintro e w5 ⟨rfl, hk, _⟩; clear HK; have HK := hide hk; clear hk) | (go_at_call 90; refine (unhide K3 _ _ (unhide HK)).mono ?_; clear K3; rintro e w5 ⟨rfl, hk, _⟩; clear HK; have HK := hide hk; clear hk) | (go_at_call 91; refine (unhide K4 _ _ (unhide HK)).mono ?_; clear K4; rintro e w5 ⟨rfl, hk, _⟩; clear HK; clear p0 p1 p2 p3 f0 f1 f2 f3 hpl; obtain ⟨p0, p1, p2, p3, f0, f1, f2, f3, hpl⟩ := hk.all; have HK := hide hk; clear hk) | (go_at_call 95; refine (unhide K5 _ _ (unhide HK)).mono ?_; clear K5; rintro e w5 ⟨ez1, nd5, ds, rfl, hk, _, hiez1, hlez1, htez1⟩; clear HK; have HIez1 := hide hiez1; have HLez1 := hide hlez1; have HTez1 := hide htez1; clear hiez1 hlez1 htez1; obtain ⟨p0, p1, p2, p3, f0, f1, f2, f3, hpl⟩ := hk.all; obtain ⟨a0, a1, a2, a3, htb⟩ := unhide HTK _ hk.low; have HK := hide hk; clear hk) | (go_at_call 96; refine (unhide K6 _ _ _ (unhide HK)).mono ?_; clear K6; rintro e w5 ⟨rfl, hk, _⟩; clear HK; have HK := hide hk; clear hk) | (go_at_call 91; refine (unhide K7 _ _ _ (unhide HK)).mono ?_; clear K7; rintro e w5 ⟨rfl, hk, _⟩; clear HK; have HK := hide hk; clear hk) | (go_at_call 96; refine (unhide K8 _ _ _ (unhide HK)).mono ?_; clear K8; rintro e w5 ⟨rfl, hk, _⟩; clear HK; clear p0 p1 p2 p3 f0 f1 f2 f3 hpl; obtain ⟨p0, p1, p2, p3, f0, f1, f2, f3, hpl⟩ := hk.all; have hk := hk.step 2 ((q0 : Int) + 2) (by omega); have HK := hide hk; clear hk) | (go_at_call 94; refine (unhide K9 _ _ _ (unhide HLez1) (unhide HK)).mono ?_; clear K9; rintro e w5 ⟨z2, nd5, ds2, rfl, hk, _, hiz2, hlz2, htz2⟩; clear HK; have HIz2 := hide hiz2; have HLz2 := hide hlz2; have HTz2 := hide htz2; clear hiz2 hlz2 htz2; have HK := hide hk; clear hk) | (go_at_call 45; have hk2 := (unhide HK).list [z2] (by simp); refine (unhide K10 _ _ _ _ _ _ _ _ (by have h1 := unhide HLez1; have h2 := unhide HLz2; have h3 := unhide HIez1; have h4 := unhide HIz2; have h5 := unhide HXL; rw [List.length_append, List.length_append]; omega) hk2).mono ?_; clear K10 hk2; rintro e w6 ⟨m, hm, rfl, nd6, hk⟩; have HM := hide hm; clear HK; have HK := hide hk; clear hk hm))
  go_ret
  have hxl := unhide HXL
  have h1 := unhide HLez1
  have h2 := unhide HLz2
  have h3 := unhide HIez1
  have h4 := unhide HIz2
  have h6 := unhide HTz2
  have h7 := unhide HTez1
  have hNl : ((NS ++ ds) ++ ds2).length = NS.length + ds.length + ds2.length := by rw [List.length_append, List.length_append]
  rw [unhide HSV]
  cases g with
  | false => exact over_gave (i := i) (unhide HM) (g := false) (es := []) (ls := [t2]) 22 (N : Nat) yt (unhide HK) (by omega) (by rw [hNl]; omega) (fun h => by cases h) (cnt0 (by decide) (by decide) (by decide) _)
  | true =>
    obtain ⟨h9, e2, rfl, h10⟩ := h6 rfl
    exact over_gave (i := i) (unhide HM) (g := true) (es := [e2]) (ls := [t2]) 22 (N : Nat) yt (unhide HK) (by omega) (by rw [hNl]; omega) (fun _ => ⟨by rw [hNl]; omega, rfl, TreesAt.one h10⟩) (cnt0 (by decide) (by decide) (by decide) _)

end
end Go.Proofs.YtmgjicgojlkpcaaGreatDoor
