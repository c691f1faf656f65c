import Derived.Test.YtmgjicgojlkpcaaGreatDoorSpecStT
namespace Go.Proofs.YtmgjicgojlkpcaaGreatDoor
open Go.RowKit

section
variable {Z w w0 w1 : World} {p i j q : Nat} {nd nd0 nd1 v : Value} {zs : List Int} {xs ys : List NodeC} {bx : List Nat} {ns : List NodeD} {ta : Option Addr} {tn tc : Nat} {ts : List Tok} {b b' g : Bool} {t : List NodeD}

/-- An index's node and its kids, as they lie. -/
theorem KS.kid7 {ez : Nat} {a : List NodeD} {l : List (List NodeD)} {s : ByteArray} (h : KS Z p ta tn tc w0 nd0 xs bx ns i b w nd v zs) (ht : TreeAt ns ez (treeN 7 0 0 s [] (a :: l))) (hl : ns.length ≤ 1048576) : ∃ nb nn nc s4 n4 c4 kb c5 ea es, nd = .slice (some ⟨nb, 0, none⟩) nn nc ∧ ez < nn ∧ nn ≤ 1048576 ∧ nb < w.heap.size ∧ w.cell? ⟨nb, ez * 6, none⟩ = some (.int .i64 7) ∧ w.cell? ⟨nb, ez * 6 + 1, none⟩ = some (.int .i64 0) ∧ w.cell? ⟨nb, ez * 6 + 2, none⟩ = some (.int .i64 0) ∧ w.cell? ⟨nb, ez * 6 + 3, none⟩ = some (.string s) ∧ w.cell? ⟨nb, ez * 6 + 4, none⟩ = some (.slice s4 n4 c4) ∧ w.cell? ⟨nb, ez * 6 + 5, none⟩ = some (.slice (some ⟨kb, 0, none⟩) (es.length + 1) c5) ∧ es.length + 1 ≤ c5 ∧ kb < w.heap.size ∧ kb ≠ p ∧ w.cell? ⟨kb, 0, none⟩ = some (.int .i64 ((ea : Nat) : Int)) ∧ ea < nn ∧ w.cell? ⟨nb, ea * 6, none⟩ = some (.int .i64 (rootK a)) ∧ (∀ (j : Nat) u, ((castL es).map (Value.int .i64))[j]? = some u → w.cell? ⟨kb, 1 + j, none⟩ = some u) ∧ es.length = l.length ∧ TreesAt ns es l := by
  obtain ⟨XS, hX, hd⟩ := h.ps
  have hxl : XS.length = ns.length := by rw [← hd, List.length_map]
  obtain ⟨es0, hn, hts, hlt, hc⟩ := ht.inv
  obtain ⟨ea, es, rfl⟩ : ∃ ea es, es0 = ea :: es := by
    cases es0 with
    | nil => have := hts.1; simp at this
    | cons ea es => exact ⟨ea, es, rfl⟩
  have hez : ez < XS.length := by rw [hxl]; exact ht.lt
  obtain ⟨x, hx⟩ : ∃ x, XS[ez]? = some x := ⟨_, List.getElem?_eq_getElem hez⟩
  have hxd : x.d = ⟨7, 0, 0, s, [], castL (ea :: es)⟩ := by
    have h' := hn
    rw [← hd, List.getElem?_map, hx] at h'
    exact Option.some.inj h'
  obtain ⟨hl4, hl5⟩ := hX.lists x (List.mem_of_getElem? hx)
  obtain ⟨a4, c4, e4⟩ := own_slice hl4
  have hk5 : (castL (ea :: es)).length = es.length + 1 := by rw [castL, List.length_map]; rfl
  rw [hxd] at hl5
  rcases own_at hl5 with ⟨_, h0⟩ | ⟨kb, c5, e5, hkb, _, hc5, hcel⟩
  · rw [hk5] at h0; omega
  rcases own_at hX.own with ⟨_, h0⟩ | ⟨nb, nc, rfl, hnb, _, _, hcn⟩
  · omega
  have hea : ea < XS.length := by rw [hxl]; exact hts.lt List.mem_cons_self
  obtain ⟨y, hy⟩ : ∃ y, XS[ea]? = some y := ⟨_, List.getElem?_eq_getElem hea⟩
  have hta : TreeAt ns ea a := hts.2 0 ea a rfl rfl
  have hyk : y.d.k = rootK a := by
    have h1 : (node ns ea).k = rootK a := hta.root.1
    rw [← hd, node_map hy] at h1
    exact h1
  have hk : ∀ q u, q < 6 → x.cells[q]? = some u → w.cell? ⟨nb, ez * 6 + q, none⟩ = some u := fun q u hq hu' => by
    exact hcn _ _ ((flatN_get XS ez q x hx hq).trans hu')
  have hkp : kb ≠ p := fun e => by
    obtain ⟨cur, hh, _⟩ := ownBlk_of hl5 (g := kb) (by rw [e5]; rfl)
    rw [e, hX.box] at hh
    have := Option.some.inj hh
    simp at this
  rw [hk5] at e5 hc5
  refine ⟨nb, XS.length, nc, a4, x.d.nums.length, c4, kb, c5, ea, es, rfl, hez, by omega, hnb, ?_, ?_, ?_, ?_, ?_, ?_, hc5, hkb, hkp, ?_, hea, ?_, fun j u hu => ?_, by have := hts.1; simpa using this, ⟨by have := hts.1; simpa using this, fun j a' l' h1 h2 => hts.2 (j + 1) a' l' h1 h2⟩⟩
  · exact hk 0 _ (by omega) (by unfold NodeC.cells; rw [hxd]; rfl)
  · exact hk 1 _ (by omega) (by unfold NodeC.cells; rw [hxd]; rfl)
  · exact hk 2 _ (by omega) (by unfold NodeC.cells; rw [hxd]; rfl)
  · exact hk 3 _ (by omega) (by unfold NodeC.cells; rw [hxd]; rfl)
  · exact hk 4 _ (by omega) (by unfold NodeC.cells; rw [e4]; rfl)
  · exact hk 5 _ (by omega) (by unfold NodeC.cells; rw [e5]; rfl)
  · exact hcel 0 _ rfl
  · have h2 := hcn (ea * 6 + 0) (.int .i64 y.d.k) ((flatN_get XS ea 0 y hy (by omega)).trans rfl)
    rw [hyk] at h2
    exact h2
  · rw [Nat.add_comm]
    exact hcel (j + 1) u hu


set_option maxRecDepth 20000 in
set_option maxHeartbeats 4000000 in
theorem st_7bad (E : SEnv Z ta tn ts) (h : SPS Z p ta tn tc false w i nd xs) (hi : i ≤ 4100) (hroom : xs.length + 4 * (5000 - i) ≤ 100000) (h0 : begC ((seenT ts).cl i) = true) {q0 : Nat} {t0 : List NodeD} (hq0 : q0 ≤ 4100) (hiq : i + 1 ≤ q0) (hO : ReadS Z p ta tn tc 95 #[.pointer (some ⟨p, 0, none⟩)] i true q0 t0) (hl : (seenT ts).cl i = 3) (hp : q0 ≠ i + 1) {a : List NodeD} {l : List (List NodeD)} (ht0 : t0 = treeN 7 0 0 nilS [] (a :: l)) (hll : 1 ≤ l.length) (hlm : l.length ≤ 5000) (ha : (seenT ts).cl q0 = 8592) (h3 : rootK a ≠ 3) :
    Calls Tryz.prog 43 #[.pointer (some ⟨p, 0, none⟩)] w (GaveS Z p ta tn tc w nd xs i false (q0) ([])) := by
  have uu := And.intro E hi
  clear uu
  have HK := hide (KS.start h)
  have hxl : (xs.map NodeC.d).length = xs.length := List.length_map ..
  obtain ⟨NS, hNS⟩ : ∃ NS, xs.map NodeC.d = NS := ⟨_, rfl⟩
  rw [hNS] at HK hxl
  have hxm : NS.length ≤ 100000 := by omega
  obtain ⟨p0, p1, p2, p3, f0, f1, f2, f3, hpl⟩ := h.all
  obtain ⟨tb, off, y, rfl, hbl, hlt, hy, hm, HTK⟩ := E.tok (j := i) (by intro e; rw [e] at h0; exact absurd h0 (by decide))
  have hsv : (seenT ts).sv i = y.t := by show (tokA ts 0 i).t = _; rw [hy]
  obtain ⟨yk, yn, yt, yp⟩ := y
  have hsv' : (seenT ts).sv i = yt := hsv
  have HTK := hide HTK
  have hl2 : (i : Int) < (tn : Int) := by omega
  have hl3 : i < tn := hlt
  have hw1 : IntKind.i64.wrap ((i : Int) + 1) = (i : Int) + 1 := by rw [IntKind.wrap_i64]; omega
  have hw2 : IntKind.i64.wrap ((q0 : Int) + 2) = (q0 : Int) + 2 := by rw [IntKind.wrap_i64]; omega
  have hw3 : IntKind.i64.wrap ((q0 : Int) + 1) = (q0 : Int) + 1 := by rw [IntKind.wrap_i64]; omega
  have hpp : ((q0 : Int) == (i : Int) + 1) = false := by rw [beq_eq_false_iff_ne]; omega
  subst ht0
  obtain ⟨ka, hka⟩ : ∃ ka, rootK a = ka := ⟨_, rfl⟩
  rw [hka] at h3
  have HKA := hide hka
  have HLL := hide hll
  have HLM := hide hlm
  have hk3 : (ka == 3) = false := by simpa using h3
  have K1 := hide (fun (V : World) (n : Value) (hk : KS Z p (some ⟨tb, off, none⟩) tn tc w nd xs [] NS i false V n nilL []) => hk.via (e0 := .returned (.bool false)) fun _ hX => (spName E hX true (r := false) (decide_eq_false (by intro e; rw [e] at h0; exact absurd h0 (by decide)))).mono fun _ _ h => ⟨h.1, (MidP.start hX).below h.2⟩)
  have K2 := hide (fun (V : World) (n : Value) (hk : KS Z p (some ⟨tb, off, none⟩) tn tc w nd xs [] NS i false V n nilL []) => hk.via (e0 := .returned (.bool true)) fun _ hX => (spBegins E hX (by omega) (r := true) h0).mono fun _ _ h => ⟨h.1, (MidP.start hX).below h.2⟩)
  have K3 := hide (fun (V : World) (n : Value) (hk : KS Z p (some ⟨tb, off, none⟩) tn tc w nd xs [] NS i false V n nilL []) => hk.via (e0 := .returned (.bool true)) fun _ hX => (spName E hX false (r := true) (decide_eq_true hl)).mono fun _ _ h => ⟨h.1, (MidP.start hX).below h.2⟩)
  obtain ⟨x, hx⟩ : ∃ x, sgT ts (i) = x := ⟨_, rfl⟩
  have K4 := hide (fun (V : World) (n : Value) (hk : KS Z p (some ⟨tb, off, none⟩) tn tc w nd xs [] NS i false V n nilL []) => hk.via (e0 := .returned (.string x)) fun _ hX => (spSign E hX (z := 0) (j := i) (by omega) (by omega)).mono fun _ _ h => ⟨by rw [h.1, hx], (MidP.start hX).below h.2⟩)
  have hqx40 : (x.toList == [40]) = false := by rw [show ([40] : List UInt8) = (⟨#[40]⟩ : ByteArray).toList by kernel_rfl, ← hx, sg_is E.ok (i) (c := 40) (by decide) (by kernel_rfl)]; exact decide_eq_false (by rw [hl]; decide)
  have K5 := hide (fun (V : World) (n : Value) (hk : KS Z p (some ⟨tb, off, none⟩) tn tc w nd xs [] NS i false V n nilL []) => hk.readY hO (by omega))
  obtain ⟨x2, hx2⟩ : ∃ x, sgT ts (q0) = x := ⟨_, rfl⟩
  have K6 := hide (fun (V : World) (n : Value) (ds : List NodeD) (hk : KS Z p (some ⟨tb, off, none⟩) tn tc w nd xs [] (NS ++ ds) q0 false V n nilL []) => hk.via (e0 := .returned (.string x2)) fun _ hX => (spSign E hX (z := 0) (j := q0) (by omega) (by omega)).mono fun _ _ h => ⟨by rw [h.1, hx2], (MidP.start hX).below h.2⟩)
  have hqx28592 : (x2.toList == [226, 134, 144]) = true := by rw [show ([226, 134, 144] : List UInt8) = (⟨#[226, 134, 144]⟩ : ByteArray).toList by kernel_rfl, ← hx2, sg_is E.ok (q0) (c := 8592) (by decide) (by kernel_rfl)]; exact decide_eq_true (ha)
  have HXL := hide hxl
  clear h hxl hxm h0 hO hl ha h3 hka hll hlm hsv hsv' hlt hm hy hbl hx hx2 E
  go_enter Tryz.func43, Tryz.ntmps43
  go_wp2_with (first | (go_at_call 90; refine (unhide K1 _ _ (unhide HK)).mono ?_; clear K1; rintro e w5 ⟨rfl, hk, _⟩; clear HK; have HK := hide hk; clear hk) | (go_at_call 93; refine (unhide K2 _ _ (unhide HK)).mono ?_; clear K2; rintro e w5 ⟨rfl, hk, _⟩; clear HK; have HK := hide hk; clear hk) | (go_at_call 90; refine (unhide K3 _ _ (unhide HK)).mono ?_; clear K3; rintro e w5 ⟨rfl, hk, _⟩; clear HK; have HK := hide hk; clear hk) | (go_at_call 91; refine (unhide K4 _ _ (unhide HK)).mono ?_; clear K4; rintro e w5 ⟨rfl, hk, _⟩; clear HK; clear p0 p1 p2 p3 f0 f1 f2 f3 hpl; obtain ⟨p0, p1, p2, p3, f0, f1, f2, f3, hpl⟩ := hk.all; have HK := hide hk; clear hk) | (go_at_call 95; refine (unhide K5 _ _ (unhide HK)).mono ?_; clear K5; rintro e w5 ⟨ez1, nd5, ds, rfl, hk, _, hiez1, hlez1, htez1⟩; clear HK; have HIez1 := hide hiez1; have HLez1 := hide hlez1; have HTez1 := hide htez1; clear hiez1 hlez1 htez1; obtain ⟨p0, p1, p2, p3, f0, f1, f2, f3, hpl⟩ := hk.all; obtain ⟨a0, a1, a2, a3, htb⟩ := unhide HTK _ hk.low; have HK := hide hk; clear hk) | (go_at_call 91; refine (unhide K6 _ _ _ (unhide HK)).mono ?_; clear K6; rintro e w5 ⟨rfl, hk, _⟩; clear HK p0 p1 p2 p3 f0 f1 f2 f3 hpl; obtain ⟨p0, p1, p2, p3, f0, f1, f2, f3, hpl⟩ := hk.all; obtain ⟨nb, nn, nc, s4, n4, c4, kb, c5, ea, es, rfl, hen, hnn, hnb, y0, y1, y2, y3, y4, y5, hc5, hkb, hkp, z0, hean, z1, hcs, hesl, hts⟩ := hk.kid7 (unhide HTez1) (by rw [List.length_append]; have := unhide HLez1; have := unhide HXL; omega); rw [unhide HKA] at z1; have hen' : ((ez1 : Nat) : Int) < ((nn : Nat) : Int) := Int.ofNat_lt.2 hen; have hean' : ((ea : Nat) : Int) < ((nn : Nat) : Int) := Int.ofNat_lt.2 hean; have HCS := hide hcs; have HTS := hide hts; have hes1 : 1 ≤ es.length := (by have := unhide HLL; omega); have hes2 : es.length ≤ 5000 := (by have := unhide HLM; omega); have HK := hide (hk.box (.cells #[.int .i64 7, .int .i64 0, .int .i64 0, .string nilS, .slice s4 n4 c4, .slice (some ⟨kb, 0, none⟩) (es.length + 1) c5] 47)).nobox; clear hk hcs hts hesl))
  go_quiet (fail)
  have hk := (unhide HK).below (Below.drewN (Below.refl _ _) nq)
  clear HK p0 p1 p2 p3 f0 f1 f2 f3 hpl
  obtain ⟨p0, p1, p2, p3, f0, f1, f2, f3, hpl⟩ := hk.all
  have HK := hide hk.bad
  clear hk
  go_wp2_with fail
  go_ret
  have hxl := unhide HXL
  exact bad_gave (by rw [List.length_append, hxl]; have := unhide HLez1; omega) (unhide HK) (by omega) _


set_option maxRecDepth 20000 in
set_option maxHeartbeats 4000000 in
theorem st_21 (E : SEnv Z ta tn ts) (h : SPS Z p ta tn tc false w i nd xs) (hi : i ≤ 4100) (hroom : xs.length + 4 * (5000 - i) ≤ 100000) (h0 : begC ((seenT ts).cl i) = true) {q0 : Nat} {t0 : List NodeD} (hq0 : q0 ≤ 4100) (hiq : i + 1 ≤ q0) (hO : ReadS Z p ta tn tc 95 #[.pointer (some ⟨p, 0, none⟩)] i true q0 t0) (hl : (seenT ts).cl i = 3) (hp : q0 ≠ i + 1) {a : List NodeD} {l : List (List NodeD)} (ht0 : t0 = treeN 7 0 0 nilS [] (a :: l)) (hll : 1 ≤ l.length) (hlm : l.length ≤ 5000) (ha : (seenT ts).cl q0 = 8592) (h3 : rootK a = 3) {q2 : Nat} {t2 : List NodeD} (hq42 : q2 ≤ 4100) (hR2 : ReadS Z p ta tn tc 94 #[.pointer (some ⟨p, 0, none⟩)] (q0 + 1) g q2 t2) :
    Calls Tryz.prog 43 #[.pointer (some ⟨p, 0, none⟩)] w (GaveS Z p ta tn tc w nd xs i g (q2) (treeN 21 0 0 ((seenT ts).sv i) [] (l ++ [t2]))) := by
  have uu := And.intro E hi
  clear uu
  have HK := hide (KS.start h)
  have hxl : (xs.map NodeC.d).length = xs.length := List.length_map ..
  obtain ⟨NS, hNS⟩ : ∃ NS, xs.map NodeC.d = NS := ⟨_, rfl⟩
  rw [hNS] at HK hxl
  have hxm : NS.length ≤ 100000 := by omega
  obtain ⟨p0, p1, p2, p3, f0, f1, f2, f3, hpl⟩ := h.all
  obtain ⟨tb, off, y, rfl, hbl, hlt, hy, hm, HTK⟩ := E.tok (j := i) (by intro e; rw [e] at h0; exact absurd h0 (by decide))
  have hsv : (seenT ts).sv i = y.t := by show (tokA ts 0 i).t = _; rw [hy]
  obtain ⟨yk, yn, yt, yp⟩ := y
  have hsv' : (seenT ts).sv i = yt := hsv
  have HTK := hide HTK
  have hl2 : (i : Int) < (tn : Int) := by omega
  have hl3 : i < tn := hlt
  have hw1 : IntKind.i64.wrap ((i : Int) + 1) = (i : Int) + 1 := by rw [IntKind.wrap_i64]; omega
  have hw2 : IntKind.i64.wrap ((q0 : Int) + 2) = (q0 : Int) + 2 := by rw [IntKind.wrap_i64]; omega
  have hw3 : IntKind.i64.wrap ((q0 : Int) + 1) = (q0 : Int) + 1 := by rw [IntKind.wrap_i64]; omega
  have hpp : ((q0 : Int) == (i : Int) + 1) = false := by rw [beq_eq_false_iff_ne]; omega
  subst ht0
  have HKA := hide h3
  have HLL := hide hll
  have HLM := hide hlm
  obtain ⟨i0, hi', hz0, hz1, hz2⟩ := info_parts info_int
  have HSV := hide hsv'
  have K1 := hide (fun (V : World) (n : Value) (hk : KS Z p (some ⟨tb, off, none⟩) tn tc w nd xs [] NS i false V n nilL []) => hk.via (e0 := .returned (.bool false)) fun _ hX => (spName E hX true (r := false) (decide_eq_false (by intro e; rw [e] at h0; exact absurd h0 (by decide)))).mono fun _ _ h => ⟨h.1, (MidP.start hX).below h.2⟩)
  have K2 := hide (fun (V : World) (n : Value) (hk : KS Z p (some ⟨tb, off, none⟩) tn tc w nd xs [] NS i false V n nilL []) => hk.via (e0 := .returned (.bool true)) fun _ hX => (spBegins E hX (by omega) (r := true) h0).mono fun _ _ h => ⟨h.1, (MidP.start hX).below h.2⟩)
  have K3 := hide (fun (V : World) (n : Value) (hk : KS Z p (some ⟨tb, off, none⟩) tn tc w nd xs [] NS i false V n nilL []) => hk.via (e0 := .returned (.bool true)) fun _ hX => (spName E hX false (r := true) (decide_eq_true hl)).mono fun _ _ h => ⟨h.1, (MidP.start hX).below h.2⟩)
  obtain ⟨x, hx⟩ : ∃ x, sgT ts (i) = x := ⟨_, rfl⟩
  have K4 := hide (fun (V : World) (n : Value) (hk : KS Z p (some ⟨tb, off, none⟩) tn tc w nd xs [] NS i false V n nilL []) => hk.via (e0 := .returned (.string x)) fun _ hX => (spSign E hX (z := 0) (j := i) (by omega) (by omega)).mono fun _ _ h => ⟨by rw [h.1, hx], (MidP.start hX).below h.2⟩)
  have hqx40 : (x.toList == [40]) = false := by rw [show ([40] : List UInt8) = (⟨#[40]⟩ : ByteArray).toList by kernel_rfl, ← hx, sg_is E.ok (i) (c := 40) (by decide) (by kernel_rfl)]; exact decide_eq_false (by rw [hl]; decide)
  have K5 := hide (fun (V : World) (n : Value) (hk : KS Z p (some ⟨tb, off, none⟩) tn tc w nd xs [] NS i false V n nilL []) => hk.readY hO (by omega))
  obtain ⟨x2, hx2⟩ : ∃ x, sgT ts (q0) = x := ⟨_, rfl⟩
  have K6 := hide (fun (V : World) (n : Value) (ds : List NodeD) (hk : KS Z p (some ⟨tb, off, none⟩) tn tc w nd xs [] (NS ++ ds) q0 false V n nilL []) => hk.via (e0 := .returned (.string x2)) fun _ hX => (spSign E hX (z := 0) (j := q0) (by omega) (by omega)).mono fun _ _ h => ⟨by rw [h.1, hx2], (MidP.start hX).below h.2⟩)
  have hqx28592 : (x2.toList == [226, 134, 144]) = true := by rw [show ([226, 134, 144] : List UInt8) = (⟨#[226, 134, 144]⟩ : ByteArray).toList by kernel_rfl, ← hx2, sg_is E.ok (q0) (c := 8592) (by decide) (by kernel_rfl)]; exact decide_eq_true (ha)
  have K7 := hide (fun (V : World) (n VV : Value) (ds : List NodeD) (CC : List Int) (hlen : ds.length + 1 ≤ 4 * (q0 - i)) (hk : KS Z p (some ⟨tb, off, none⟩) tn tc w nd xs [] (NS ++ ds) (q0 + 1) false V n VV CC) => hk.read hR2 (by rw [List.length_append]; omega))
  have HXL := hide hxl
  clear h hxl hxm h0 hO hl ha hll hlm hR2 hsv hsv' hlt hm hy hbl hx hx2 E
  go_enter Tryz.func43, Tryz.ntmps43
  go_wp2_with (first | (go_at_call 90; refine (unhide K1 _ _ (unhide HK)).mono ?_; clear K1; rintro e w5 ⟨rfl, hk, _⟩; clear HK; have HK := hide hk; clear hk) | (go_at_call 93; refine (unhide K2 _ _ (unhide HK)).mono ?_; clear K2; rintro e w5 ⟨rfl, hk, _⟩; clear HK; have HK := hide hk; clear hk) | (go_at_call 90; refine (unhide K3 _ _ (unhide HK)).mono ?_; clear K3; rintro e w5 ⟨rfl, hk, _⟩; clear HK; have HK := hide hk; clear hk) | (go_at_call 91; refine (unhide K4 _ _ (unhide HK)).mono ?_; clear K4; rintro e w5 ⟨rfl, hk, _⟩; clear HK; clear p0 p1 p2 p3 f0 f1 f2 f3 hpl; obtain ⟨p0, p1, p2, p3, f0, f1, f2, f3, hpl⟩ := hk.all; have HK := hide hk; clear hk) | (go_at_call 95; refine (unhide K5 _ _ (unhide HK)).mono ?_; clear K5; rintro e w5 ⟨ez1, nd5, ds, rfl, hk, _, hiez1, hlez1, htez1⟩; clear HK; have HIez1 := hide hiez1; have HLez1 := hide hlez1; have HTez1 := hide htez1; clear hiez1 hlez1 htez1; obtain ⟨p0, p1, p2, p3, f0, f1, f2, f3, hpl⟩ := hk.all; obtain ⟨a0, a1, a2, a3, htb⟩ := unhide HTK _ hk.low; have HK := hide hk; clear hk) | (go_at_call 91; refine (unhide K6 _ _ _ (unhide HK)).mono ?_; clear K6; rintro e w5 ⟨rfl, hk, _⟩; clear HK p0 p1 p2 p3 f0 f1 f2 f3 hpl; obtain ⟨p0, p1, p2, p3, f0, f1, f2, f3, hpl⟩ := hk.all; obtain ⟨nb, nn, nc, s4, n4, c4, kb, c5, ea, es, rfl, hen, hnn, hnb, y0, y1, y2, y3, y4, y5, hc5, hkb, hkp, z0, hean, z1, hcs, hesl, hts⟩ := hk.kid7 (unhide HTez1) (by rw [List.length_append]; have := unhide HLez1; have := unhide HXL; omega); rw [unhide HKA] at z1; have hen' : ((ez1 : Nat) : Int) < ((nn : Nat) : Int) := Int.ofNat_lt.2 hen; have hean' : ((ea : Nat) : Int) < ((nn : Nat) : Int) := Int.ofNat_lt.2 hean; obtain ⟨cs, hcl⟩ : ∃ cs, castL es = cs := ⟨_, rfl⟩; have hel : es.length = cs.length := (by rw [← hcl, castL, List.length_map]); rw [hcl] at hcs; rw [hel] at y5 hc5; have HCL := hide hcl; have HCS := hide hcs; have HTS := hide hts; have hes1 : 1 ≤ cs.length := (by have := unhide HLL; omega); have hes2 : cs.length ≤ 5000 := (by have := unhide HLM; omega); have HK := hide (hk.box (.cells #[.int .i64 7, .int .i64 0, .int .i64 0, .string nilS, .slice s4 n4 c4, .slice (some ⟨kb, 0, none⟩) (cs.length + 1) c5] 47)).nobox; clear hk hcs hts hesl hel hcl))
  go_quiet (fail)
  obtain ⟨W1, hW1⟩ : ∃ W1, W1 = (w5.alloc (.cells #[.int .i64 7, .int .i64 0, .int .i64 0, .string nilS, .slice s4 n4 c4, .slice (some ⟨kb, 0, none⟩) (cs.length + 1) c5] 47)).drewN nq := ⟨_, rfl⟩
  have hb1 : Below w5.heap.size w5 W1 := by rw [hW1]; exact Below.drewN ((Below.refl _ _).alloc (Nat.le_refl _) _) _
  have hk := (unhide HK).below (Below.drewN (Below.refl _ _) nq)
  have bq : W1.cell? ⟨w5.heap.size, 5, none⟩ = some (.slice (some ⟨kb, 0, none⟩) (cs.length + 1) c5) := by rw [hW1]; simp
  have hz5 : w5.heap.size < W1.heap.size := by rw [hW1]; simp
  rw [← hW1] at hk ⊢
  clear hW1 HK p0 p1 p2 p3 f0 f1 f2 f3
  have hp5 : w5.heap.size ≠ p := by omega
  clear hpl
  obtain ⟨p0, p1, p2, p3, f0, f1, f2, f3, hpl⟩ := hk.all
  have hkl := (hk.step 1 ((q0 : Int) + 1) (by omega)).list [] (by simp)
  have hsz : (W1.setCell ⟨p, 1, none⟩ (.int .i64 ((q0 : Int) + 1))).heap.size = W1.heap.size := by simp
  rw [hsz] at hkl
  clear hsz
  have HKL := hide hkl
  clear hkl
  have hzl := hk.low.size
  have HSRC : Hid (∀ (j : Nat) u, (cs.map (Value.int .i64))[j]? = some u → ((W1.setCell ⟨p, 1, none⟩ (.int .i64 ((q0 : Int) + 1))).alloc (.cells #[] 3)).cell? ((⟨kb, 1, none⟩ : Addr).add j) = some u) := fun j u hu => by
    have h1 := unhide HCS j u hu
    have e1 : ((W1.setCell ⟨p, 1, none⟩ (.int .i64 ((q0 : Int) + 1))).alloc (.cells #[] 3)).heap[kb]? = w5.heap[kb]? := by
      rw [Below.heap_alloc _ _ _ (by simp; omega), heap_setCell_other W1 ⟨p, 1, none⟩ kb _ hkp]
      exact hb1.block kb hkb
    have e2 : (⟨kb, 1, none⟩ : Addr).add j = ⟨kb, 1 + j, none⟩ := by
      unfold Addr.add
      split
      · rename_i h0; rw [h0]
      · rfl
    rw [e2, ← h1]
    unfold World.cell?
    dsimp only
    rw [e1]
  clear hk
  go_wp2_with (first | (at_builtin; refine wpList_append_lies _ rfl _ _ 45 rfl Z.heap.size 3 i0 (.int .i64 0) 1 8 Tryz.underlying45 hi' hz0 hz1 hz2 rfl (by decide) _ _ _ rfl (unhide HKL).ownR ⟨kb, 1, none⟩ cs.length (c5 - 1) (cs.map (Value.int .i64)) rfl (by rw [List.length_map, Nat.mul_one]) (unhide HSRC) (one_is cs) (by omega) (by show 0 + cs.length ≤ maxLen; unfold maxLen; omega) (by show (0 + cs.length) * 8 ≤ _; omega) (by simp; try omega) (W1.heap.size + 1) (by simp) ?_; intro g1 cap1 w7 hown' hgrow hat hlt7; obtain ⟨hk7, _⟩ := KS.grow (us := cs) (n := cs.length) (unhide HKL) (by unfold OwnI; have h' := hown'; simp only [List.length_nil, Nat.zero_add, List.map_nil, List.nil_append] at h'; exact h') hgrow (Or.imp (fun h => h) (fun h => h.trans (by simp)) hat); have HK7 := hide hk7; clear hk7 hown' hgrow hat hlt7) | (go_at_call 94; refine (unhide K7 _ _ _ _ _ (unhide HLez1) (unhide HK7)).mono ?_; clear K7; rintro e w8 ⟨z2, nd8, ds2, rfl, hk, _, hiz2, hlz2, htz2⟩; have HIz2 := hide hiz2; have HLz2 := hide hlz2; have HTz2 := hide htz2; have HK8 := hide (hk.below ((Below.refl _ _).alloc (Nat.le_refl _) (.cells #[.int .i64 z2] 3))); have hzl8 := hk.low.size; clear hk hiz2 hlz2 htz2) | (at_builtin; refine wpList_append_lies _ rfl _ _ 45 rfl Z.heap.size 3 i0 (.int .i64 0) 1 8 Tryz.underlying45 hi' hz0 hz1 hz2 rfl (by decide) _ _ _ rfl (unhide HK8).ownR ⟨w8.heap.size, 0, none⟩ 1 1 [.int .i64 z2] rfl rfl (cells_i _ _) (one_i _) (by omega) (by unfold maxLen; omega) (by omega) (by simp; omega) (w8.heap.size + 1) (by simp) ?_; intro g' cap' w9 hown' hgrow hat hlt7; obtain ⟨hk9, _⟩ := KS.grew (unhide HK8) hown' hgrow hat (by simp); have HK9 := hide hk9; clear hk9 hown' hgrow hat hlt7) | (go_at_call 45; refine (((unhide HK9).put 21 0 0 yt (by have h1 := unhide HLez1; have h2 := unhide HLz2; have h3 := unhide HIez1; have h4 := unhide HIz2; have h5 := unhide HXL; rw [List.length_append, List.length_append]; omega)).mono fun _ _ h => (⟨_, rfl, h⟩ : ∃ m : Nat, m = _ ∧ _ = Ending.returned (.int .i64 (m : Nat)) ∧ _)).mono ?_; rintro e w10 ⟨m, hm, rfl, nd10, hk⟩; have HM := hide hm; have HK10 := hide hk; clear hk hm))
  go_ret
  have hxl := unhide HXL
  have h1 := unhide HLez1
  have h2 := unhide HLz2
  have h3 := unhide HIez1
  have h4 := unhide HIz2
  have h6 := unhide HTz2
  have h7 := unhide HTS
  have hcl := unhide HCL
  have hNl : ((NS ++ ds) ++ ds2).length = NS.length + ds.length + ds2.length := by rw [List.length_append, List.length_append]
  rw [unhide HSV]
  cases g with
  | false => exact over_gave (i := i) (unhide HM) (g := false) (es := []) (ls := l ++ [t2]) 21 0 yt (unhide HK10) (by omega) (by rw [hNl]; omega) (fun h => by cases h) (cnt0 (by decide) (by decide) (by decide) _)
  | true =>
    obtain ⟨h9, e2, rfl, h10⟩ := h6 rfl
    exact over_gave (i := i) (unhide HM) (g := true) (es := es ++ [e2]) (ls := l ++ [t2]) 21 0 yt (unhide HK10) (by omega) (by rw [hNl]; omega) (fun _ => ⟨by rw [hNl]; omega, by rw [← hcl]; exact castL_snoc _ _, h7.mono.app (TreesAt.one h10)⟩) (cnt0 (by decide) (by decide) (by decide) _)

end
end Go.Proofs.YtmgjicgojlkpcaaGreatDoor
