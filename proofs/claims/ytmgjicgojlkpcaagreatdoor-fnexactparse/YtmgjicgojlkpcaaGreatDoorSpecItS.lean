import Derived.Test.YtmgjicgojlkpcaaGreatDoorSpecBrS
namespace Go.Proofs.YtmgjicgojlkpcaaGreatDoor
open Go.RowKit

section
variable {Z w w0 w1 : World} {p i j q : Nat} {nd nd0 nd1 v : Value} {zs : List Int} {xs ys : List NodeC} {bx : List Nat} {ns : List NodeD} {ta : Option Addr} {tn tc : Nat} {ts : List Tok} {b b' g : Bool} {t : List NodeD}

/-- A node of the parser's, as it lies. -/
theorem KS.nodeAt {ez : Nat} (h : KS Z p ta tn tc w0 nd0 xs bx ns i b w nd v zs) (ht : TreeAt ns ez t) (hl : ns.length ≤ 1048576) : ∃ nb off n c x1 x2 x3 s4 n4 c4 s5 n5 c5, nd = .slice (some ⟨nb, off, none⟩) n c ∧ ez < n ∧ n ≤ 1048576 ∧ nb < w.heap.size ∧ w.cell? ⟨nb, off + ez * 6, none⟩ = some (.int .i64 (rootK t)) ∧ w.cell? ⟨nb, off + ez * 6 + 1, none⟩ = some (.int .i64 x1) ∧ w.cell? ⟨nb, off + ez * 6 + 2, none⟩ = some (.int .i64 x2) ∧ w.cell? ⟨nb, off + ez * 6 + 3, none⟩ = some (.string x3) ∧ w.cell? ⟨nb, off + ez * 6 + 4, none⟩ = some (.slice s4 n4 c4) ∧ w.cell? ⟨nb, off + ez * 6 + 5, none⟩ = some (.slice s5 n5 c5) ∧ RowW w s5 n5 (node ns ez).kids := by
  obtain ⟨XS, hX, hd⟩ := h.ps
  have hxl : XS.length = ns.length := by rw [← hd, List.length_map]
  obtain ⟨a, c, rfl, hr⟩ := hX.nrow (by omega)
  have he := ht.lt
  rw [hd] at hr
  obtain ⟨nb, off, rfl, hlt, s1, n1, c1, s2, n2, c2, e0, e1, e2, e3, e4, e5, r1, r2⟩ := hr.get (k := ez) (by omega)
  have hk : (node ns ez).k = rootK t := ht.root.1
  rw [hk] at e0
  exact ⟨nb, off, _, c, _, _, _, s1, n1, c1, s2, n2, c2, rfl, by omega, by omega, hlt, e0, e1, e2, e3, e4, e5, r2⟩


set_option maxRecDepth 20000 in
set_option maxHeartbeats 4000000 in
theorem it_bad (E : SEnv Z ta tn ts) (h : SPS Z p ta tn tc false w i nd xs) (hi : i ≤ 4100) (hroom : xs.length + 4 * (5000 - i) ≤ 100000) (hR : ReadS Z p ta tn tc 43 #[.pointer (some ⟨p, 0, none⟩)] i false q t) :
    Calls Tryz.prog 145 #[.pointer (some ⟨p, 0, none⟩)] w (GaveS Z p ta tn tc w nd xs i false (q) ([])) := by
  have uu := And.intro E hi
  clear uu
  have HK := hide (KS.start h)
  have hxl : (xs.map NodeC.d).length = xs.length := List.length_map ..
  obtain ⟨NS, hNS⟩ : ∃ NS, xs.map NodeC.d = NS := ⟨_, rfl⟩
  rw [hNS] at HK hxl
  have hxm : NS.length ≤ 100000 := by omega
  obtain ⟨p0, p1, p2, p3, f0, f1, f2, f3, hpl⟩ := h.all
  have K1 := hide (fun (V : World) (n : Value) (hk : KS Z p ta tn tc w nd xs [] NS i false V n nilL []) => hk.read (hR) (by omega))
  have HXL := hide hxl
  clear h hxl hxm hR E
  go_enter Tryz.func145, Tryz.ntmps145
  go_wp2_with (first | (go_at_call 43; refine (unhide K1 _ _ (unhide HK)).mono ?_; clear K1; rintro e w5 ⟨z, nd5, ds, rfl, hk, _, hiz, hlz, htz⟩; clear HK; have HIz := hide hiz; have HLz := hide hlz; have HTz := hide htz; clear hiz hlz htz; obtain ⟨p0, p1, p2, p3, f0, f1, f2, f3, hpl⟩ := hk.all; have HK := hide hk; clear hk))
  go_ret
  have hxl := unhide HXL
  exact bad_gave (by rw [List.length_append, hxl]; have := unhide HLz; omega) (unhide HK) (unhide HIz) _


set_option maxRecDepth 20000 in
set_option maxHeartbeats 4000000 in
theorem it_ne (E : SEnv Z ta tn ts) (h : SPS Z p ta tn tc false w i nd xs) (hi : i ≤ 4100) (hroom : xs.length + 4 * (5000 - i) ≤ 100000) (hq4 : q ≤ 4100) (hR : ReadS Z p ta tn tc 43 #[.pointer (some ⟨p, 0, none⟩)] i true q t) (h1 : isE (rootK t) = false)  :
    Calls Tryz.prog 145 #[.pointer (some ⟨p, 0, none⟩)] w (GaveS Z p ta tn tc w nd xs i true (q) (t)) := by
  have uu := And.intro E hi
  clear uu
  have HK := hide (KS.start h)
  have hxl : (xs.map NodeC.d).length = xs.length := List.length_map ..
  obtain ⟨NS, hNS⟩ : ∃ NS, xs.map NodeC.d = NS := ⟨_, rfl⟩
  rw [hNS] at HK hxl
  have hxm : NS.length ≤ 100000 := by omega
  obtain ⟨p0, p1, p2, p3, f0, f1, f2, f3, hpl⟩ := h.all
  obtain ⟨k, hkk⟩ : ∃ k, rootK t = k := ⟨_, rfl⟩
  rw [hkk] at h1
  have HKK := hide hkk
  have K1 := hide (fun (V : World) (n : Value) (hk : KS Z p ta tn tc w nd xs [] NS i false V n nilL []) => hk.readY hR (by omega))
  have HSO := hide (fun (W : World) => l2Sort_any k W)
  have hs1 : (sortK k == 1) = false := by have h' := h1; unfold isE at h'; simpa using h'
  obtain ⟨sk, hsk⟩ : ∃ sk, sortK k = sk := ⟨_, rfl⟩
  rw [hsk] at HSO hs1
  have HXL := hide hxl
  clear h hxl hxm hR h1 hkk hsk E
  go_enter Tryz.func145, Tryz.ntmps145
  go_wp2_with (first | (go_at_call 43; refine (unhide K1 _ _ (unhide HK)).mono ?_; clear K1; rintro e w5 ⟨ez1, nd5, ds, rfl, hk, _, hiez1, hlez1, htez1⟩; clear HK; have HIez1 := hide hiez1; have HLez1 := hide hlez1; have HTez1 := hide htez1; clear hiez1 hlez1 htez1; obtain ⟨p0, p1, p2, p3, f0, f1, f2, f3, hpl⟩ := hk.all; obtain ⟨nb, off, nn, nc, x1, x2, x3, s4, n4, c4, s5, n5, c5, rfl, hen, hnn, hnb, y0, y1, y2, y3, y4, y5, hrow⟩ := hk.nodeAt (unhide HTez1) (by rw [List.length_append]; have := unhide HLez1; have := unhide HXL; omega); have hen' : ((ez1 : Nat) : Int) < ((nn : Nat) : Int) := Int.ofNat_lt.2 hen; rw [unhide HKK] at y0; have HK := hide hk; clear hk hrow) | (go_at_call 24; refine (unhide HSO _).mono ?_; rintro e w9 ⟨rfl, hw9⟩; obtain rfl := hw9))
  go_ret
  have hxl := unhide HXL
  have h1 := unhide HLez1
  exact KS.gaveT (i := i) (unhide HK) (unhide HIez1) (by rw [List.length_append]; omega) (unhide HTez1)


set_option maxRecDepth 20000 in
set_option maxHeartbeats 4000000 in
theorem it_nc (E : SEnv Z ta tn ts) (h : SPS Z p ta tn tc false w i nd xs) (hi : i ≤ 4100) (hroom : xs.length + 4 * (5000 - i) ≤ 100000) (hq4 : q ≤ 4100) (hR : ReadS Z p ta tn tc 43 #[.pointer (some ⟨p, 0, none⟩)] i true q t) (h1 : isE (rootK t) = true) (h2 : (seenT ts).cl q ≠ 58) :
    Calls Tryz.prog 145 #[.pointer (some ⟨p, 0, none⟩)] w (GaveS Z p ta tn tc w nd xs i true (q) (t)) := by
  have uu := And.intro E hi
  clear uu
  have HK := hide (KS.start h)
  have hxl : (xs.map NodeC.d).length = xs.length := List.length_map ..
  obtain ⟨NS, hNS⟩ : ∃ NS, xs.map NodeC.d = NS := ⟨_, rfl⟩
  rw [hNS] at HK hxl
  have hxm : NS.length ≤ 100000 := by omega
  obtain ⟨p0, p1, p2, p3, f0, f1, f2, f3, hpl⟩ := h.all
  obtain ⟨k, hkk⟩ : ∃ k, rootK t = k := ⟨_, rfl⟩
  rw [hkk] at h1
  have HKK := hide hkk
  have K1 := hide (fun (V : World) (n : Value) (hk : KS Z p ta tn tc w nd xs [] NS i false V n nilL []) => hk.readY hR (by omega))
  have HSO := hide (fun (W : World) => l2Sort_any k W)
  have hs1 : (sortK k == 1) = true := by have h' := h1; unfold isE at h'; simpa using h'
  obtain ⟨sk, hsk⟩ : ∃ sk, sortK k = sk := ⟨_, rfl⟩
  rw [hsk] at HSO hs1
  have K2 := hide (fun (V : World) (n : Value) (ds : List NodeD) (hk : KS Z p ta tn tc w nd xs [] (NS ++ ds) q false V n nilL []) => hk.via fun _ hX => hasNo E hX (by omega) (c := 58) (by decide) (s := ⟨#[58]⟩) (by kernel_rfl) h2)
  have HXL := hide hxl
  clear h hxl hxm hR h1 h2 hkk hsk E
  go_enter Tryz.func145, Tryz.ntmps145
  go_wp2_with (first | (go_at_call 43; refine (unhide K1 _ _ (unhide HK)).mono ?_; clear K1; rintro e w5 ⟨ez1, nd5, ds, rfl, hk, _, hiez1, hlez1, htez1⟩; clear HK; have HIez1 := hide hiez1; have HLez1 := hide hlez1; have HTez1 := hide htez1; clear hiez1 hlez1 htez1; obtain ⟨p0, p1, p2, p3, f0, f1, f2, f3, hpl⟩ := hk.all; obtain ⟨nb, off, nn, nc, x1, x2, x3, s4, n4, c4, s5, n5, c5, rfl, hen, hnn, hnb, y0, y1, y2, y3, y4, y5, hrow⟩ := hk.nodeAt (unhide HTez1) (by rw [List.length_append]; have := unhide HLez1; have := unhide HXL; omega); have hen' : ((ez1 : Nat) : Int) < ((nn : Nat) : Int) := Int.ofNat_lt.2 hen; rw [unhide HKK] at y0; have HK := hide hk; clear hk hrow) | (go_at_call 24; refine (unhide HSO _).mono ?_; rintro e w9 ⟨rfl, hw9⟩; obtain rfl := hw9) | (go_at_call 44; refine (unhide K2 _ _ _ (unhide HK)).mono ?_; rintro e w5 ⟨rfl, hk, _⟩; clear HK; have HK := hide hk; clear hk))
  go_ret
  have hxl := unhide HXL
  have h1 := unhide HLez1
  exact KS.gaveT (i := i) (unhide HK) (unhide HIez1) (by rw [List.length_append]; omega) (unhide HTez1)


set_option maxRecDepth 20000 in
set_option maxHeartbeats 4000000 in
theorem it_end (E : SEnv Z ta tn ts) (h : SPS Z p ta tn tc false w i nd xs) (hi : i ≤ 4100) (hroom : xs.length + 4 * (5000 - i) ≤ 100000) (hq4 : q ≤ 4100) (hR : ReadS Z p ta tn tc 43 #[.pointer (some ⟨p, 0, none⟩)] i true q t) (h1 : isE (rootK t) = true) (h2 : (seenT ts).cl q = 58) {q2 : Nat} {t2 : List NodeD} (hq42 : q2 ≤ 4100) (hR2 : ReadS Z p ta tn tc 94 #[.pointer (some ⟨p, 0, none⟩)] (q + 1) g q2 t2) :
    Calls Tryz.prog 145 #[.pointer (some ⟨p, 0, none⟩)] w (GaveS Z p ta tn tc w nd xs i g (q2) (treeN 24 0 0 ⟨#[]⟩ [] [t, t2])) := by
  have uu := And.intro E hi
  clear uu
  have HK := hide (KS.start h)
  have hxl : (xs.map NodeC.d).length = xs.length := List.length_map ..
  obtain ⟨NS, hNS⟩ : ∃ NS, xs.map NodeC.d = NS := ⟨_, rfl⟩
  rw [hNS] at HK hxl
  have hxm : NS.length ≤ 100000 := by omega
  obtain ⟨p0, p1, p2, p3, f0, f1, f2, f3, hpl⟩ := h.all
  obtain ⟨k, hkk⟩ : ∃ k, rootK t = k := ⟨_, rfl⟩
  rw [hkk] at h1
  have HKK := hide hkk
  have K1 := hide (fun (V : World) (n : Value) (hk : KS Z p ta tn tc w nd xs [] NS i false V n nilL []) => hk.readY hR (by omega))
  have HSO := hide (fun (W : World) => l2Sort_any k W)
  have hs1 : (sortK k == 1) = true := by have h' := h1; unfold isE at h'; simpa using h'
  obtain ⟨sk, hsk⟩ : ∃ sk, sortK k = sk := ⟨_, rfl⟩
  rw [hsk] at HSO hs1
  have K2 := hide (fun (V : World) (n : Value) (ds : List NodeD) (hk : KS Z p ta tn tc w nd xs [] (NS ++ ds) q false V n nilL []) => hk.via fun _ hX => hasYes E hX (by omega) (c := 58) (by decide) (s := ⟨#[58]⟩) (by kernel_rfl) h2)
  have K3 := hide (fun (V : World) (n : Value) (ds : List NodeD) (hlends : ds.length + 1 ≤ 4 * (q - i)) (hk : KS Z p ta tn tc w nd xs [] (NS ++ ds) (q + 1) false V n nilL []) => hk.read hR2 (by rw [List.length_append]; omega))
  have K4 := hide (fun (V : World) (n : Value) (ds : List NodeD) (ds2 : List NodeD) (a : Option Addr) (c l : Nat) (zs : List Int) (hlen : ((NS ++ ds) ++ ds2).length ≤ 1048576) (hk : KS Z p ta tn tc w nd xs [] ((NS ++ ds) ++ ds2) q2 (!g) V n (.slice a l c) zs) => (hk.put 24 0 0 ⟨#[]⟩ hlen).mono fun _ _ h => (⟨_, rfl, h⟩ : ∃ m : Nat, m = _ ∧ _ = Ending.returned (.int .i64 (m : Nat)) ∧ _))
  have HXL := hide hxl
  clear h hxl hxm hR h1 h2 hR2 hkk hsk E
  go_enter Tryz.func145, Tryz.ntmps145
  go_wp2_with (first | (go_at_call 43; refine (unhide K1 _ _ (unhide HK)).mono ?_; clear K1; rintro e w5 ⟨ez1, nd5, ds, rfl, hk, _, hiez1, hlez1, htez1⟩; clear HK; have HIez1 := hide hiez1; have HLez1 := hide hlez1; have HTez1 := hide htez1; clear hiez1 hlez1 htez1; obtain ⟨p0, p1, p2, p3, f0, f1, f2, f3, hpl⟩ := hk.all; obtain ⟨nb, off, nn, nc, x1, x2, x3, s4, n4, c4, s5, n5, c5, rfl, hen, hnn, hnb, y0, y1, y2, y3, y4, y5, hrow⟩ := hk.nodeAt (unhide HTez1) (by rw [List.length_append]; have := unhide HLez1; have := unhide HXL; omega); have hen' : ((ez1 : Nat) : Int) < ((nn : Nat) : Int) := Int.ofNat_lt.2 hen; rw [unhide HKK] at y0; have HK := hide hk; clear hk hrow) | (go_at_call 24; refine (unhide HSO _).mono ?_; rintro e w9 ⟨rfl, hw9⟩; obtain rfl := hw9) | (go_at_call 44; refine (unhide K2 _ _ _ (unhide HK)).mono ?_; rintro e w5 ⟨rfl, hk, _⟩; clear HK; have HK := hide hk; clear hk) | (go_at_call 94; refine (unhide K3 _ _ _ (unhide HLez1) (unhide HK)).mono ?_; clear K3; rintro e w5 ⟨z2, nd5, ds2, rfl, hk, _, hiz2, hlz2, htz2⟩; clear HK; have HIz2 := hide hiz2; have HLz2 := hide hlz2; have HTz2 := hide htz2; clear hiz2 hlz2 htz2; have HK := hide hk; clear hk) | (go_at_call 45; have hk2 := (unhide HK).list [((ez1 : Nat) : Int), z2] (by simp); refine (unhide K4 _ _ _ _ _ _ _ _ (by have h1 := unhide HLez1; have h2 := unhide HLz2; have h3 := unhide HIez1; have h4 := unhide HIz2; have h5 := unhide HXL; rw [List.length_append, List.length_append]; omega) hk2).mono ?_; clear K4 hk2; rintro e w6 ⟨m, hm, rfl, nd6, hk⟩; have HM := hide hm; clear HK; have HK := hide hk; clear hk hm))
  go_ret
  have hxl := unhide HXL
  have h1 := unhide HLez1
  have h2 := unhide HLz2
  have h3 := unhide HIez1
  have h4 := unhide HIz2
  have h6 := unhide HTz2
  have h7 := unhide HTez1
  have hNl : ((NS ++ ds) ++ ds2).length = NS.length + ds.length + ds2.length := by rw [List.length_append, List.length_append]
  cases g with
  | false => exact over_gave (i := i) (unhide HM) (g := false) (es := []) (ls := [t, t2]) 24 0 ⟨#[]⟩ (unhide HK) (by omega) (by rw [hNl]; omega) (fun h => by cases h) (cnt0 (by decide) (by decide) (by decide) _)
  | true =>
    obtain ⟨h9, e2, rfl, h10⟩ := h6 rfl
    exact over_gave (i := i) (unhide HM) (g := true) (es := [ez1, e2]) (ls := [t, t2]) 24 0 ⟨#[]⟩ (unhide HK) (by omega) (by rw [hNl]; omega) (fun _ => ⟨by rw [hNl]; omega, rfl, TreesAt.cons h7.mono (TreesAt.one h10)⟩) (cnt0 (by decide) (by decide) (by decide) _)


end
end Go.Proofs.YtmgjicgojlkpcaaGreatDoor
