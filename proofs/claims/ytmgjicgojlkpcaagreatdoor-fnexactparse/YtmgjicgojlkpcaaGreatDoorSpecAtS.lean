import Derived.Test.YtmgjicgojlkpcaaGreatDoorSpecFnS
namespace Go.Proofs.YtmgjicgojlkpcaaGreatDoor
open Go.RowKit

section
variable {Z w w0 w1 : World} {p i j q : Nat} {nd nd0 nd1 v : Value} {zs : List Int} {xs ys : List NodeC} {bx : List Nat} {ns : List NodeD} {ta : Option Addr} {tn tc : Nat} {ts : List Tok} {b b' g : Bool} {t : List NodeD}

/-- The token at a place, as it lies. -/
theorem SEnv.tok (E : SEnv Z ta tn ts) (hc : (seenT ts).cl j ≠ 0) : ∃ tb off y, ta = some ⟨tb, off, none⟩ ∧ tb < Z.heap.size ∧ j < tn ∧ tokA ts 0 j = y ∧ y ∈ ts ∧ ∀ V, Below Z.heap.size Z V → V.cell? ⟨tb, off + j * 4, none⟩ = some (.int .i64 y.k) ∧ V.cell? ⟨tb, off + j * 4 + 1, none⟩ = some (.int .i64 y.n) ∧ V.cell? ⟨tb, off + j * 4 + 2, none⟩ = some (.string y.t) ∧ V.cell? ⟨tb, off + j * 4 + 3, none⟩ = some (.int .i64 (y.p : Nat)) ∧ tb < V.heap.size := by
  have hlt : j < tn := by rw [← E.row.len]; exact seen_ends ts j hc
  obtain ⟨tb, off, y, rfl, hbl, hy, a0, a1, a2, a3⟩ := E.row.get hlt
  exact ⟨tb, off, y, rfl, hbl, hlt, tokA_in hy 0, List.mem_of_getElem? hy, fun V hV => ⟨(hV.cell (p := ⟨tb, off + j * 4, none⟩) hbl).trans a0, (hV.cell (p := ⟨tb, off + j * 4 + 1, none⟩) hbl).trans a1, (hV.cell (p := ⟨tb, off + j * 4 + 2, none⟩) hbl).trans a2, (hV.cell (p := ⟨tb, off + j * 4 + 3, none⟩) hbl).trans a3, Nat.lt_of_lt_of_le hbl hV.size⟩⟩


set_option maxRecDepth 20000 in
set_option maxHeartbeats 4000000 in
theorem at_2 (E : SEnv Z ta tn ts) (h : SPS Z p ta tn tc false w i nd xs) (hi : i ≤ 4100) (hroom : xs.length + 4 * (5000 - i) ≤ 100000) (h1 : (seenT ts).cl i = 2) :
    Calls Tryz.prog 147 #[.pointer (some ⟨p, 0, none⟩)] w (GaveS Z p ta tn tc w nd xs i true (i + 1) (leafS 2 ((seenT ts).sv i))) := by
  have HK := hide (KS.start h)
  have hxl : (xs.map NodeC.d).length = xs.length := List.length_map ..
  obtain ⟨NS, hNS⟩ : ∃ NS, xs.map NodeC.d = NS := ⟨_, rfl⟩
  rw [hNS] at HK hxl
  have hxm : NS.length ≤ 100000 := by omega
  obtain ⟨p0, p1, p2, p3, f0, f1, f2, f3, hpl⟩ := h.all
  obtain ⟨tb, off, y, rfl, hbl, hlt, hy, hm, HTK⟩ := E.tok (j := i) (by rw [h1]; decide)
  have hsv : (seenT ts).sv i = y.t := by show (tokA ts 0 i).t = _; rw [hy]
  have hk' := kind_cases' E.ok i
  rw [hy] at hk'
  obtain ⟨yk, yn, yt, yp⟩ := y
  rw [hsv]
  have hne : tb ≠ p := Nat.ne_of_lt (Nat.lt_of_lt_of_le hbl h.hp)
  have HTK := hide HTK
  have hl2 : (i : Int) < (tn : Int) := by omega
  have hl3 : i < tn := hlt
  have hw1 : IntKind.i64.wrap ((i : Int) + 1) = (i : Int) + 1 := by rw [IntKind.wrap_i64]; omega
  have hw2 : IntKind.i64.wrap ((i : Int) + 1 - 1) = (i : Int) := by rw [IntKind.wrap_i64]; omega
  have hw3 : IntKind.i64.wrap (i : Int) = (i : Int) := by rw [IntKind.wrap_i64]; omega
  obtain rfl : yk = 2 := by rcases hk' with h' | h' | h' | h' | h' <;> simp at h' <;> omega
  have K1 := hide (fun (V : World) (n : Value) (hk : KS Z p (some ⟨tb, off, none⟩) tn tc w nd xs [] NS i false V n nilL []) => hk.via (e0 := .returned (.int .i64 2)) fun _ hX => (spKind E hX).mono fun _ _ h => ⟨by rw [h.1, show (tokA ts 0 i).k = 2 by rw [hy]], (MidP.start hX).below h.2⟩)
  have K2 := hide (fun (V : World) (n : Value) (hk : KS Z p (some ⟨tb, off, none⟩) tn tc w nd xs [] NS i false V n nilL []) => hk.via (e0 := .returned (.int .i64 2)) fun _ hX => (spKind E hX).mono fun _ _ h => ⟨by rw [h.1, show (tokA ts 0 i).k = 2 by rw [hy]], (MidP.start hX).below h.2⟩)
  have K3 := hide (fun (V : World) (n : Value) (B : List Nat) (hk : KS Z p (some ⟨tb, off, none⟩) tn tc w nd xs B NS (i + 1) false V n nilL []) => hk.put 2 0 0 yt (by omega))
  have HXL := hide hxl
  clear h hxl hxm h1 hy hm hsv hlt hk' E
  go_enter Tryz.func147, Tryz.ntmps147
  go_wp2_with (first | (go_at_call 143; refine (unhide K1 _ _ (unhide HK)).mono ?_; clear K1; rintro e w5 ⟨rfl, hk, _⟩; clear HK; have HK := hide hk; clear hk) | (go_at_call 143; refine (unhide K2 _ _ (unhide HK)).mono ?_; clear K2; rintro e w5 ⟨rfl, hk, _⟩; clear HK; obtain ⟨p0, p1, p2, p3, f0, f1, f2, f3, hpl⟩ := hk.all; obtain ⟨a0, a1, a2, a3, hbl⟩ := unhide HTK _ hk.low; have hk := hk.step 1 ((i : Int) + 1) (by omega); have HK := hide hk; clear hk))
  have HK9 := hide (((unhide HK).below (Below.refl _ _).drew).box (.cells #[.int .i64 2, .int .i64 yn, .string yt, .int .i64 (yp : Nat)] 64))
  go_region
  all_goals go_wp2_with ((go_at_call 45; refine (unhide K3 _ _ _ (unhide HK9)).mono ?_; rintro e w6 ⟨rfl, nd6, hk⟩; have HK6 := hide hk; clear hk))
  all_goals go_ret
  all_goals have hxl := unhide HXL
  all_goals exact leaf_gave (i := i) 2 0 0 yt [] hxl (unhide HK6) (by omega) (by decide) (by decide) (by decide)


set_option maxRecDepth 20000 in
set_option maxHeartbeats 4000000 in
theorem at_3 (E : SEnv Z ta tn ts) (h : SPS Z p ta tn tc false w i nd xs) (hi : i ≤ 4100) (hroom : xs.length + 4 * (5000 - i) ≤ 100000) (h1 : (seenT ts).cl i = 3) :
    Calls Tryz.prog 147 #[.pointer (some ⟨p, 0, none⟩)] w (GaveS Z p ta tn tc w nd xs i true (i + 1) (leafS 3 ((seenT ts).sv i))) := by
  have HK := hide (KS.start h)
  have hxl : (xs.map NodeC.d).length = xs.length := List.length_map ..
  obtain ⟨NS, hNS⟩ : ∃ NS, xs.map NodeC.d = NS := ⟨_, rfl⟩
  rw [hNS] at HK hxl
  have hxm : NS.length ≤ 100000 := by omega
  obtain ⟨p0, p1, p2, p3, f0, f1, f2, f3, hpl⟩ := h.all
  obtain ⟨tb, off, y, rfl, hbl, hlt, hy, hm, HTK⟩ := E.tok (j := i) (by rw [h1]; decide)
  have hsv : (seenT ts).sv i = y.t := by show (tokA ts 0 i).t = _; rw [hy]
  have hk' := kind_cases' E.ok i
  rw [hy] at hk'
  obtain ⟨yk, yn, yt, yp⟩ := y
  rw [hsv]
  have hne : tb ≠ p := Nat.ne_of_lt (Nat.lt_of_lt_of_le hbl h.hp)
  have HTK := hide HTK
  have hl2 : (i : Int) < (tn : Int) := by omega
  have hl3 : i < tn := hlt
  have hw1 : IntKind.i64.wrap ((i : Int) + 1) = (i : Int) + 1 := by rw [IntKind.wrap_i64]; omega
  have hw2 : IntKind.i64.wrap ((i : Int) + 1 - 1) = (i : Int) := by rw [IntKind.wrap_i64]; omega
  have hw3 : IntKind.i64.wrap (i : Int) = (i : Int) := by rw [IntKind.wrap_i64]; omega
  obtain rfl : yk = 3 := by rcases hk' with h' | h' | h' | h' | h' <;> simp at h' <;> omega
  have K1 := hide (fun (V : World) (n : Value) (hk : KS Z p (some ⟨tb, off, none⟩) tn tc w nd xs [] NS i false V n nilL []) => hk.via (e0 := .returned (.int .i64 3)) fun _ hX => (spKind E hX).mono fun _ _ h => ⟨by rw [h.1, show (tokA ts 0 i).k = 3 by rw [hy]], (MidP.start hX).below h.2⟩)
  have K2 := hide (fun (V : World) (n : Value) (hk : KS Z p (some ⟨tb, off, none⟩) tn tc w nd xs [] NS i false V n nilL []) => hk.via (e0 := .returned (.int .i64 3)) fun _ hX => (spKind E hX).mono fun _ _ h => ⟨by rw [h.1, show (tokA ts 0 i).k = 3 by rw [hy]], (MidP.start hX).below h.2⟩)
  have K3 := hide (fun (V : World) (n : Value) (hk : KS Z p (some ⟨tb, off, none⟩) tn tc w nd xs [] NS i false V n nilL []) => hk.via (e0 := .returned (.bool true)) fun _ hX => (spName E hX false (r := true) (decide_eq_true h1)).mono fun _ _ h => ⟨h.1, (MidP.start hX).below h.2⟩)
  have K4 := hide (fun (V : World) (n : Value) (B : List Nat) (hk : KS Z p (some ⟨tb, off, none⟩) tn tc w nd xs B NS (i + 1) false V n nilL []) => hk.put 3 0 0 yt (by omega))
  have HXL := hide hxl
  clear h hxl hxm h1 hy hm hsv hlt hk' E
  go_enter Tryz.func147, Tryz.ntmps147
  go_wp2_with (first | (go_at_call 143; refine (unhide K1 _ _ (unhide HK)).mono ?_; clear K1; rintro e w5 ⟨rfl, hk, _⟩; clear HK; have HK := hide hk; clear hk) | (go_at_call 143; refine (unhide K2 _ _ (unhide HK)).mono ?_; clear K2; rintro e w5 ⟨rfl, hk, _⟩; clear HK; have HK := hide hk; clear hk) | (go_at_call 90; refine (unhide K3 _ _ (unhide HK)).mono ?_; clear K3; rintro e w5 ⟨rfl, hk, _⟩; clear HK; obtain ⟨p0, p1, p2, p3, f0, f1, f2, f3, hpl⟩ := hk.all; obtain ⟨a0, a1, a2, a3, hbl⟩ := unhide HTK _ hk.low; have hk := hk.step 1 ((i : Int) + 1) (by omega); have HK := hide hk; clear hk))
  have HK9 := hide (((unhide HK).below (Below.refl _ _).drew).box (.cells #[.int .i64 3, .int .i64 yn, .string yt, .int .i64 (yp : Nat)] 64))
  go_region
  all_goals go_wp2_with ((go_at_call 45; refine (unhide K4 _ _ _ (unhide HK9)).mono ?_; rintro e w6 ⟨rfl, nd6, hk⟩; have HK6 := hide hk; clear hk))
  all_goals go_ret
  all_goals have hxl := unhide HXL
  all_goals exact leaf_gave (i := i) 3 0 0 yt [] hxl (unhide HK6) (by omega) (by decide) (by decide) (by decide)


set_option maxRecDepth 20000 in
set_option maxHeartbeats 4000000 in
theorem at_9082 (E : SEnv Z ta tn ts) (h : SPS Z p ta tn tc false w i nd xs) (hi : i ≤ 4100) (hroom : xs.length + 4 * (5000 - i) ≤ 100000) (h1 : (seenT ts).cl i = 9082) :
    Calls Tryz.prog 147 #[.pointer (some ⟨p, 0, none⟩)] w (GaveS Z p ta tn tc w nd xs i true (i + 1) (leafN 4 0 0)) := by
  have HK := hide (KS.start h)
  have hxl : (xs.map NodeC.d).length = xs.length := List.length_map ..
  obtain ⟨NS, hNS⟩ : ∃ NS, xs.map NodeC.d = NS := ⟨_, rfl⟩
  rw [hNS] at HK hxl
  have hxm : NS.length ≤ 100000 := by omega
  have hkc : (tokA ts 0 i).k = 4 := by rcases kind_cases' E.ok i with h' | h' | h' | h' | h' <;> omega
  have HKD := hide (fun (V : World) (n : Value) (hk : KS Z p ta tn tc w nd xs [] NS i false V n nilL []) => hk.via (e0 := .returned (.int .i64 4)) fun _ hX => (spKind E hX).mono fun _ _ h => ⟨by rw [h.1, hkc], (MidP.start hX).below h.2⟩)
  have HNM := hide (fun (V : World) (n : Value) (hk : KS Z p ta tn tc w nd xs [] NS i false V n nilL []) => hk.via (e0 := .returned (.bool false)) fun _ hX => (spName E hX false (r := false) (decide_eq_false (by rw [h1]; decide))).mono fun _ _ h => ⟨h.1, (MidP.start hX).below h.2⟩)
  have HY := hide (fun (gb : Nat) (V : World) (n : Value) (hk : KS Z p ta tn tc w nd xs [gb] NS (i) false V n nilL []) => hk.via fun _ hX => hasYes E hX (by omega) (c := 9082) (by decide) (s := ⟨#[226, 141, 186]⟩) (by kernel_rfl) h1)
  have HPUT := hide (fun (gb : Nat) (V : World) (n : Value) (hk : KS Z p ta tn tc w nd xs [gb] NS (i + 1) false V n nilL []) => hk.put 4 0 0 ⟨#[]⟩ (by omega))
  have HXL := hide hxl
  clear h hxl hkc h1 E
  go_enter Tryz.func147, Tryz.ntmps147
  go_wp2_with (first | (go_at_call 143; refine (unhide HKD _ _ (unhide HK)).mono ?_; rintro e w5 ⟨rfl, hk, _⟩; clear HK; have HK := hide hk; clear hk) | (go_at_call 90; refine (unhide HNM _ _ (unhide HK)).mono ?_; rintro e w4 ⟨rfl, hk, _⟩; have HK4 := hide (hk.box (.cells #[.string ⟨#[226, 141, 186]⟩, .string ⟨#[226, 141, 181]⟩, .string ⟨#[226, 141, 172]⟩] 9)); clear hk))
  obtain ⟨gb, hgb⟩ : ∃ gb, gb = w4.heap.size := ⟨_, rfl⟩
  have HR0 : Hid ((w4.alloc (.cells #[.string ⟨#[226, 141, 186]⟩, .string ⟨#[226, 141, 181]⟩, .string ⟨#[226, 141, 172]⟩] 9)).heap[gb]? = some (.cells #[.string ⟨#[226, 141, 186]⟩, .string ⟨#[226, 141, 181]⟩, .string ⟨#[226, 141, 172]⟩] 9 (0, 0))) := by rw [hgb]; show (w4.heap.push _)[w4.heap.size]? = _; simp
  rw [← hgb] at HK4 ⊢
  clear hgb HK HKD HNM
  go_loopw [6] (fun u wr => ∃ (k : Nat) (n : Value), u = .int .i64 (k : Nat) ∧ k ≤ 0 ∧ Hid (KS Z p ta tn tc w nd xs [gb] NS i false wr n nilL []) ∧ Hid (wr.heap[gb]? = some (.cells #[.string ⟨#[226, 141, 186]⟩, .string ⟨#[226, 141, 181]⟩, .string ⟨#[226, 141, 172]⟩] 9 (0, 0)))) (fun u _ => 4 - (intOf u).toNat)
  case atStart => exact ⟨0, nd, rfl, by omega, HK4, HR0⟩
  case round =>
    obtain ⟨k, n, rfl, hk3, HKR, HRS⟩ := hrel
    clear HK4 HR0
    by_cases c0 : k = 0
    · subst c0
      have hc : wr.cell? ⟨gb, 0, none⟩ = some (.string ⟨#[226, 141, 186]⟩) := by have hb := unhide HRS; simp [World.cell?, hb]
      have hgl := lt_of_block (unhide HRS)
      go_wp2_with (first | (go_at_call 44; refine (unhide HY _ _ _ (unhide HKR)).mono ?_; rintro e w6 ⟨rfl, hk, _⟩; have HK6 := hide hk; clear hk) | (go_at_call 45; refine (unhide HPUT _ _ _ (unhide HK6)).mono ?_; rintro e w9 ⟨rfl, nd9, hk9⟩; have HK9 := hide hk9; clear hk9))
      go_ret
      exact leaf_gave (i := i) 4 0 0 ⟨#[]⟩ [] (unhide HXL) (unhide HK9) (by omega) (by decide) (by decide) (by decide)
    omega


set_option maxRecDepth 20000 in
set_option maxHeartbeats 4000000 in
theorem at_9077 (E : SEnv Z ta tn ts) (h : SPS Z p ta tn tc false w i nd xs) (hi : i ≤ 4100) (hroom : xs.length + 4 * (5000 - i) ≤ 100000) (h1 : (seenT ts).cl i = 9077) :
    Calls Tryz.prog 147 #[.pointer (some ⟨p, 0, none⟩)] w (GaveS Z p ta tn tc w nd xs i true (i + 1) (leafN 5 0 0)) := by
  have HK := hide (KS.start h)
  have hxl : (xs.map NodeC.d).length = xs.length := List.length_map ..
  obtain ⟨NS, hNS⟩ : ∃ NS, xs.map NodeC.d = NS := ⟨_, rfl⟩
  rw [hNS] at HK hxl
  have hxm : NS.length ≤ 100000 := by omega
  have hkc : (tokA ts 0 i).k = 4 := by rcases kind_cases' E.ok i with h' | h' | h' | h' | h' <;> omega
  have HKD := hide (fun (V : World) (n : Value) (hk : KS Z p ta tn tc w nd xs [] NS i false V n nilL []) => hk.via (e0 := .returned (.int .i64 4)) fun _ hX => (spKind E hX).mono fun _ _ h => ⟨by rw [h.1, hkc], (MidP.start hX).below h.2⟩)
  have HNM := hide (fun (V : World) (n : Value) (hk : KS Z p ta tn tc w nd xs [] NS i false V n nilL []) => hk.via (e0 := .returned (.bool false)) fun _ hX => (spName E hX false (r := false) (decide_eq_false (by rw [h1]; decide))).mono fun _ _ h => ⟨h.1, (MidP.start hX).below h.2⟩)
  have HN0 := hide (fun (gb : Nat) (V : World) (n : Value) (hk : KS Z p ta tn tc w nd xs [gb] NS (i) false V n nilL []) => hk.via fun _ hX => hasNo E hX (by omega) (c := 9082) (by decide) (s := ⟨#[226, 141, 186]⟩) (by kernel_rfl) (by rw [h1]; decide))
  have HY := hide (fun (gb : Nat) (V : World) (n : Value) (hk : KS Z p ta tn tc w nd xs [gb] NS (i) false V n nilL []) => hk.via fun _ hX => hasYes E hX (by omega) (c := 9077) (by decide) (s := ⟨#[226, 141, 181]⟩) (by kernel_rfl) h1)
  have HPUT := hide (fun (gb : Nat) (V : World) (n : Value) (hk : KS Z p ta tn tc w nd xs [gb] NS (i + 1) false V n nilL []) => hk.put 5 0 0 ⟨#[]⟩ (by omega))
  have HXL := hide hxl
  clear h hxl hkc h1 E
  go_enter Tryz.func147, Tryz.ntmps147
  go_wp2_with (first | (go_at_call 143; refine (unhide HKD _ _ (unhide HK)).mono ?_; rintro e w5 ⟨rfl, hk, _⟩; clear HK; have HK := hide hk; clear hk) | (go_at_call 90; refine (unhide HNM _ _ (unhide HK)).mono ?_; rintro e w4 ⟨rfl, hk, _⟩; have HK4 := hide (hk.box (.cells #[.string ⟨#[226, 141, 186]⟩, .string ⟨#[226, 141, 181]⟩, .string ⟨#[226, 141, 172]⟩] 9)); clear hk))
  obtain ⟨gb, hgb⟩ : ∃ gb, gb = w4.heap.size := ⟨_, rfl⟩
  have HR0 : Hid ((w4.alloc (.cells #[.string ⟨#[226, 141, 186]⟩, .string ⟨#[226, 141, 181]⟩, .string ⟨#[226, 141, 172]⟩] 9)).heap[gb]? = some (.cells #[.string ⟨#[226, 141, 186]⟩, .string ⟨#[226, 141, 181]⟩, .string ⟨#[226, 141, 172]⟩] 9 (0, 0))) := by rw [hgb]; show (w4.heap.push _)[w4.heap.size]? = _; simp
  rw [← hgb] at HK4 ⊢
  clear hgb HK HKD HNM
  go_loopw [6] (fun u wr => ∃ (k : Nat) (n : Value), u = .int .i64 (k : Nat) ∧ k ≤ 1 ∧ Hid (KS Z p ta tn tc w nd xs [gb] NS i false wr n nilL []) ∧ Hid (wr.heap[gb]? = some (.cells #[.string ⟨#[226, 141, 186]⟩, .string ⟨#[226, 141, 181]⟩, .string ⟨#[226, 141, 172]⟩] 9 (0, 0)))) (fun u _ => 4 - (intOf u).toNat)
  case atStart => exact ⟨0, nd, rfl, by omega, HK4, HR0⟩
  case round =>
    obtain ⟨k, n, rfl, hk3, HKR, HRS⟩ := hrel
    clear HK4 HR0
    by_cases c0 : k = 0
    · subst c0
      have hc : wr.cell? ⟨gb, 0, none⟩ = some (.string ⟨#[226, 141, 186]⟩) := by have hb := unhide HRS; simp [World.cell?, hb]
      have hgl := lt_of_block (unhide HRS)
      go_wp2_with (go_at_call 44; refine (unhide HN0 _ _ _ (unhide HKR)).mono ?_; rintro e w6 ⟨rfl, hk, hs⟩; have HK6 := hide hk; have HR6 := hide ((hs _ (List.mem_singleton.2 rfl)).trans (unhide HRS)); clear hk hs)
      go_roundw
      case rel => exact ⟨1, n, rfl, by omega, HK6, HR6⟩
      case measure => simp [intOf]
    by_cases c1 : k = 1
    · subst c1
      have hc : wr.cell? ⟨gb, 1, none⟩ = some (.string ⟨#[226, 141, 181]⟩) := by have hb := unhide HRS; simp [World.cell?, hb]
      have hgl := lt_of_block (unhide HRS)
      go_wp2_with (first | (go_at_call 44; refine (unhide HY _ _ _ (unhide HKR)).mono ?_; rintro e w6 ⟨rfl, hk, _⟩; have HK6 := hide hk; clear hk) | (go_at_call 45; refine (unhide HPUT _ _ _ (unhide HK6)).mono ?_; rintro e w9 ⟨rfl, nd9, hk9⟩; have HK9 := hide hk9; clear hk9))
      go_ret
      exact leaf_gave (i := i) 5 0 0 ⟨#[]⟩ [] (unhide HXL) (unhide HK9) (by omega) (by decide) (by decide) (by decide)
    omega


set_option maxRecDepth 20000 in
set_option maxHeartbeats 4000000 in
theorem at_9068 (E : SEnv Z ta tn ts) (h : SPS Z p ta tn tc false w i nd xs) (hi : i ≤ 4100) (hroom : xs.length + 4 * (5000 - i) ≤ 100000) (h1 : (seenT ts).cl i = 9068) :
    Calls Tryz.prog 147 #[.pointer (some ⟨p, 0, none⟩)] w (GaveS Z p ta tn tc w nd xs i true (i + 1) (leafN 6 0 0)) := by
  have HK := hide (KS.start h)
  have hxl : (xs.map NodeC.d).length = xs.length := List.length_map ..
  obtain ⟨NS, hNS⟩ : ∃ NS, xs.map NodeC.d = NS := ⟨_, rfl⟩
  rw [hNS] at HK hxl
  have hxm : NS.length ≤ 100000 := by omega
  have hkc : (tokA ts 0 i).k = 4 := by rcases kind_cases' E.ok i with h' | h' | h' | h' | h' <;> omega
  have HKD := hide (fun (V : World) (n : Value) (hk : KS Z p ta tn tc w nd xs [] NS i false V n nilL []) => hk.via (e0 := .returned (.int .i64 4)) fun _ hX => (spKind E hX).mono fun _ _ h => ⟨by rw [h.1, hkc], (MidP.start hX).below h.2⟩)
  have HNM := hide (fun (V : World) (n : Value) (hk : KS Z p ta tn tc w nd xs [] NS i false V n nilL []) => hk.via (e0 := .returned (.bool false)) fun _ hX => (spName E hX false (r := false) (decide_eq_false (by rw [h1]; decide))).mono fun _ _ h => ⟨h.1, (MidP.start hX).below h.2⟩)
  have HN0 := hide (fun (gb : Nat) (V : World) (n : Value) (hk : KS Z p ta tn tc w nd xs [gb] NS (i) false V n nilL []) => hk.via fun _ hX => hasNo E hX (by omega) (c := 9082) (by decide) (s := ⟨#[226, 141, 186]⟩) (by kernel_rfl) (by rw [h1]; decide))
  have HN1 := hide (fun (gb : Nat) (V : World) (n : Value) (hk : KS Z p ta tn tc w nd xs [gb] NS (i) false V n nilL []) => hk.via fun _ hX => hasNo E hX (by omega) (c := 9077) (by decide) (s := ⟨#[226, 141, 181]⟩) (by kernel_rfl) (by rw [h1]; decide))
  have HY := hide (fun (gb : Nat) (V : World) (n : Value) (hk : KS Z p ta tn tc w nd xs [gb] NS (i) false V n nilL []) => hk.via fun _ hX => hasYes E hX (by omega) (c := 9068) (by decide) (s := ⟨#[226, 141, 172]⟩) (by kernel_rfl) h1)
  have HPUT := hide (fun (gb : Nat) (V : World) (n : Value) (hk : KS Z p ta tn tc w nd xs [gb] NS (i + 1) false V n nilL []) => hk.put 6 0 0 ⟨#[]⟩ (by omega))
  have HXL := hide hxl
  clear h hxl hkc h1 E
  go_enter Tryz.func147, Tryz.ntmps147
  go_wp2_with (first | (go_at_call 143; refine (unhide HKD _ _ (unhide HK)).mono ?_; rintro e w5 ⟨rfl, hk, _⟩; clear HK; have HK := hide hk; clear hk) | (go_at_call 90; refine (unhide HNM _ _ (unhide HK)).mono ?_; rintro e w4 ⟨rfl, hk, _⟩; have HK4 := hide (hk.box (.cells #[.string ⟨#[226, 141, 186]⟩, .string ⟨#[226, 141, 181]⟩, .string ⟨#[226, 141, 172]⟩] 9)); clear hk))
  obtain ⟨gb, hgb⟩ : ∃ gb, gb = w4.heap.size := ⟨_, rfl⟩
  have HR0 : Hid ((w4.alloc (.cells #[.string ⟨#[226, 141, 186]⟩, .string ⟨#[226, 141, 181]⟩, .string ⟨#[226, 141, 172]⟩] 9)).heap[gb]? = some (.cells #[.string ⟨#[226, 141, 186]⟩, .string ⟨#[226, 141, 181]⟩, .string ⟨#[226, 141, 172]⟩] 9 (0, 0))) := by rw [hgb]; show (w4.heap.push _)[w4.heap.size]? = _; simp
  rw [← hgb] at HK4 ⊢
  clear hgb HK HKD HNM
  go_loopw [6] (fun u wr => ∃ (k : Nat) (n : Value), u = .int .i64 (k : Nat) ∧ k ≤ 2 ∧ Hid (KS Z p ta tn tc w nd xs [gb] NS i false wr n nilL []) ∧ Hid (wr.heap[gb]? = some (.cells #[.string ⟨#[226, 141, 186]⟩, .string ⟨#[226, 141, 181]⟩, .string ⟨#[226, 141, 172]⟩] 9 (0, 0)))) (fun u _ => 4 - (intOf u).toNat)
  case atStart => exact ⟨0, nd, rfl, by omega, HK4, HR0⟩
  case round =>
    obtain ⟨k, n, rfl, hk3, HKR, HRS⟩ := hrel
    clear HK4 HR0
    by_cases c0 : k = 0
    · subst c0
      have hc : wr.cell? ⟨gb, 0, none⟩ = some (.string ⟨#[226, 141, 186]⟩) := by have hb := unhide HRS; simp [World.cell?, hb]
      have hgl := lt_of_block (unhide HRS)
      go_wp2_with (go_at_call 44; refine (unhide HN0 _ _ _ (unhide HKR)).mono ?_; rintro e w6 ⟨rfl, hk, hs⟩; have HK6 := hide hk; have HR6 := hide ((hs _ (List.mem_singleton.2 rfl)).trans (unhide HRS)); clear hk hs)
      go_roundw
      case rel => exact ⟨1, n, rfl, by omega, HK6, HR6⟩
      case measure => simp [intOf]
    by_cases c1 : k = 1
    · subst c1
      have hc : wr.cell? ⟨gb, 1, none⟩ = some (.string ⟨#[226, 141, 181]⟩) := by have hb := unhide HRS; simp [World.cell?, hb]
      have hgl := lt_of_block (unhide HRS)
      go_wp2_with (go_at_call 44; refine (unhide HN1 _ _ _ (unhide HKR)).mono ?_; rintro e w6 ⟨rfl, hk, hs⟩; have HK6 := hide hk; have HR6 := hide ((hs _ (List.mem_singleton.2 rfl)).trans (unhide HRS)); clear hk hs)
      go_roundw
      case rel => exact ⟨2, n, rfl, by omega, HK6, HR6⟩
      case measure => simp [intOf]
    by_cases c2 : k = 2
    · subst c2
      have hc : wr.cell? ⟨gb, 2, none⟩ = some (.string ⟨#[226, 141, 172]⟩) := by have hb := unhide HRS; simp [World.cell?, hb]
      have hgl := lt_of_block (unhide HRS)
      go_wp2_with (first | (go_at_call 44; refine (unhide HY _ _ _ (unhide HKR)).mono ?_; rintro e w6 ⟨rfl, hk, _⟩; have HK6 := hide hk; clear hk) | (go_at_call 45; refine (unhide HPUT _ _ _ (unhide HK6)).mono ?_; rintro e w9 ⟨rfl, nd9, hk9⟩; have HK9 := hide hk9; clear hk9))
      go_ret
      exact leaf_gave (i := i) 6 0 0 ⟨#[]⟩ [] (unhide HXL) (unhide HK9) (by omega) (by decide) (by decide) (by decide)
    omega


set_option maxRecDepth 20000 in
set_option maxHeartbeats 4000000 in
theorem at_40y (E : SEnv Z ta tn ts) (h : SPS Z p ta tn tc false w i nd xs) (hi : i ≤ 4100) (hroom : xs.length + 4 * (5000 - i) ≤ 100000) (h1 : (seenT ts).cl i = 40) (hq4 : q ≤ 4100) (hiq : i + 1 ≤ q) (hR : ReadS Z p ta tn tc 94 #[.pointer (some ⟨p, 0, none⟩)] (i + 1) true q t) (h41 : (seenT ts).cl q = 41) :
    Calls Tryz.prog 147 #[.pointer (some ⟨p, 0, none⟩)] w (GaveS Z p ta tn tc w nd xs i true (q + 1) (t)) := by
  have HK := hide (KS.start h)
  have hxl : (xs.map NodeC.d).length = xs.length := List.length_map ..
  obtain ⟨NS, hNS⟩ : ∃ NS, xs.map NodeC.d = NS := ⟨_, rfl⟩
  rw [hNS] at HK hxl
  have hxm : NS.length ≤ 100000 := by omega
  have hkc : (tokA ts 0 i).k = 4 := by rcases kind_cases' E.ok i with h' | h' | h' | h' | h' <;> omega
  have HKD := hide (fun (V : World) (n : Value) (hk : KS Z p ta tn tc w nd xs [] NS i false V n nilL []) => hk.via (e0 := .returned (.int .i64 4)) fun _ hX => (spKind E hX).mono fun _ _ h => ⟨by rw [h.1, hkc], (MidP.start hX).below h.2⟩)
  have HNM := hide (fun (V : World) (n : Value) (hk : KS Z p ta tn tc w nd xs [] NS i false V n nilL []) => hk.via (e0 := .returned (.bool false)) fun _ hX => (spName E hX false (r := false) (decide_eq_false (by rw [h1]; decide))).mono fun _ _ h => ⟨h.1, (MidP.start hX).below h.2⟩)
  have HN0 := hide (fun (gb : Nat) (V : World) (n : Value) (hk : KS Z p ta tn tc w nd xs [gb] NS (i) false V n nilL []) => hk.via fun _ hX => hasNo E hX (by omega) (c := 9082) (by decide) (s := ⟨#[226, 141, 186]⟩) (by kernel_rfl) (by rw [h1]; decide))
  have HN1 := hide (fun (gb : Nat) (V : World) (n : Value) (hk : KS Z p ta tn tc w nd xs [gb] NS (i) false V n nilL []) => hk.via fun _ hX => hasNo E hX (by omega) (c := 9077) (by decide) (s := ⟨#[226, 141, 181]⟩) (by kernel_rfl) (by rw [h1]; decide))
  have HN2 := hide (fun (gb : Nat) (V : World) (n : Value) (hk : KS Z p ta tn tc w nd xs [gb] NS (i) false V n nilL []) => hk.via fun _ hX => hasNo E hX (by omega) (c := 9068) (by decide) (s := ⟨#[226, 141, 172]⟩) (by kernel_rfl) (by rw [h1]; decide))
  have HW1 := hide (fun (gb : Nat) (V : World) (n : Value) (hk : KS Z p ta tn tc w nd xs [gb] NS (i) false V n nilL []) => hk.via fun _ hX => wantYes E hX (by omega) (c := 40) (by decide) (s := ⟨#[40]⟩) (by kernel_rfl) h1)
  have HRD := hide (fun (gb : Nat) (V : World) (n : Value) (hk : KS Z p ta tn tc w nd xs [gb] NS (i + 1) false V n nilL []) => hk.read hR (by omega))
  have HW2 := hide (fun (gb : Nat) (V : World) (n : Value) (ds : List NodeD) (hk : KS Z p ta tn tc w nd xs [gb] (NS ++ ds) (q) false V n nilL []) => hk.via fun _ hX => wantYes E hX (by omega) (c := 41) (by decide) (s := ⟨#[41]⟩) (by kernel_rfl) h41)
  have HXL := hide hxl
  clear h hxl hkc h1 hR E h41
  go_enter Tryz.func147, Tryz.ntmps147
  go_wp2_with (first | (go_at_call 143; refine (unhide HKD _ _ (unhide HK)).mono ?_; rintro e w5 ⟨rfl, hk, _⟩; clear HK; have HK := hide hk; clear hk) | (go_at_call 90; refine (unhide HNM _ _ (unhide HK)).mono ?_; rintro e w4 ⟨rfl, hk, _⟩; have HK4 := hide (hk.box (.cells #[.string ⟨#[226, 141, 186]⟩, .string ⟨#[226, 141, 181]⟩, .string ⟨#[226, 141, 172]⟩] 9)); clear hk))
  obtain ⟨gb, hgb⟩ : ∃ gb, gb = w4.heap.size := ⟨_, rfl⟩
  have HR0 : Hid ((w4.alloc (.cells #[.string ⟨#[226, 141, 186]⟩, .string ⟨#[226, 141, 181]⟩, .string ⟨#[226, 141, 172]⟩] 9)).heap[gb]? = some (.cells #[.string ⟨#[226, 141, 186]⟩, .string ⟨#[226, 141, 181]⟩, .string ⟨#[226, 141, 172]⟩] 9 (0, 0))) := by rw [hgb]; show (w4.heap.push _)[w4.heap.size]? = _; simp
  rw [← hgb] at HK4 ⊢
  clear hgb HK HKD HNM
  go_loopw [6] (fun u wr => ∃ (k : Nat) (n : Value), u = .int .i64 (k : Nat) ∧ k ≤ 3 ∧ Hid (KS Z p ta tn tc w nd xs [gb] NS i false wr n nilL []) ∧ Hid (wr.heap[gb]? = some (.cells #[.string ⟨#[226, 141, 186]⟩, .string ⟨#[226, 141, 181]⟩, .string ⟨#[226, 141, 172]⟩] 9 (0, 0)))) (fun u _ => 4 - (intOf u).toNat)
  case atStart => exact ⟨0, nd, rfl, by omega, HK4, HR0⟩
  case round =>
    obtain ⟨k, n, rfl, hk3, HKR, HRS⟩ := hrel
    clear HK4 HR0
    by_cases c0 : k = 0
    · subst c0
      have hc : wr.cell? ⟨gb, 0, none⟩ = some (.string ⟨#[226, 141, 186]⟩) := by have hb := unhide HRS; simp [World.cell?, hb]
      have hgl := lt_of_block (unhide HRS)
      go_wp2_with (go_at_call 44; refine (unhide HN0 _ _ _ (unhide HKR)).mono ?_; rintro e w6 ⟨rfl, hk, hs⟩; have HK6 := hide hk; have HR6 := hide ((hs _ (List.mem_singleton.2 rfl)).trans (unhide HRS)); clear hk hs)
      go_roundw
      case rel => exact ⟨1, n, rfl, by omega, HK6, HR6⟩
      case measure => simp [intOf]
    by_cases c1 : k = 1
    · subst c1
      have hc : wr.cell? ⟨gb, 1, none⟩ = some (.string ⟨#[226, 141, 181]⟩) := by have hb := unhide HRS; simp [World.cell?, hb]
      have hgl := lt_of_block (unhide HRS)
      go_wp2_with (go_at_call 44; refine (unhide HN1 _ _ _ (unhide HKR)).mono ?_; rintro e w6 ⟨rfl, hk, hs⟩; have HK6 := hide hk; have HR6 := hide ((hs _ (List.mem_singleton.2 rfl)).trans (unhide HRS)); clear hk hs)
      go_roundw
      case rel => exact ⟨2, n, rfl, by omega, HK6, HR6⟩
      case measure => simp [intOf]
    by_cases c2 : k = 2
    · subst c2
      have hc : wr.cell? ⟨gb, 2, none⟩ = some (.string ⟨#[226, 141, 172]⟩) := by have hb := unhide HRS; simp [World.cell?, hb]
      have hgl := lt_of_block (unhide HRS)
      go_wp2_with (go_at_call 44; refine (unhide HN2 _ _ _ (unhide HKR)).mono ?_; rintro e w6 ⟨rfl, hk, hs⟩; have HK6 := hide hk; have HR6 := hide ((hs _ (List.mem_singleton.2 rfl)).trans (unhide HRS)); clear hk hs)
      go_roundw
      case rel => exact ⟨3, n, rfl, by omega, HK6, HR6⟩
      case measure => simp [intOf]
    have c3 : k = 3 := by omega
    subst c3
    go_wp2_with (first | (go_at_call 144; refine (unhide HW1 _ _ _ (unhide HKR)).mono ?_; clear HW1; rintro e w6 ⟨rfl, hk, _⟩; obtain ⟨p0, p1, p2, p3, f0, f1, f2, f3, hpl⟩ := hk.all; have HK6 := hide hk; clear hk) | (go_at_call 94; refine (unhide HRD _ _ _ (unhide HK6)).mono ?_; rintro e w7 ⟨z, nd7, ds, rfl, hk, _, _, hl, ht⟩; have HK7 := hide hk; have HL := hide hl; have HT := hide ht; clear hk hl ht) | (go_at_call 144; refine (unhide HW2 _ _ _ _ (unhide HK7)).mono ?_; rintro e w8 ⟨rfl, hk, _⟩; have HK8 := hide hk; clear hk))
    go_ret
    exact KS.gave (i := i) (g := true) (unhide HK8) rfl (by omega) (by rw [List.length_append, unhide HXL]; have := unhide HL; omega) (fun _ => ⟨by have := (unhide HT trivial).1; rw [List.length_append, unhide HXL]; omega, (unhide HT trivial).2⟩)


set_option maxRecDepth 20000 in
set_option maxHeartbeats 4000000 in
theorem at_40n (E : SEnv Z ta tn ts) (h : SPS Z p ta tn tc false w i nd xs) (hi : i ≤ 4100) (hroom : xs.length + 4 * (5000 - i) ≤ 100000) (h1 : (seenT ts).cl i = 40) (hq4 : q ≤ 4100) (hiq : i + 1 ≤ q) (hR : ReadS Z p ta tn tc 94 #[.pointer (some ⟨p, 0, none⟩)] (i + 1) true q t) (h41 : (seenT ts).cl q ≠ 41) :
    Calls Tryz.prog 147 #[.pointer (some ⟨p, 0, none⟩)] w (GaveS Z p ta tn tc w nd xs i false (q) ([])) := by
  have HK := hide (KS.start h)
  have hxl : (xs.map NodeC.d).length = xs.length := List.length_map ..
  obtain ⟨NS, hNS⟩ : ∃ NS, xs.map NodeC.d = NS := ⟨_, rfl⟩
  rw [hNS] at HK hxl
  have hxm : NS.length ≤ 100000 := by omega
  have hkc : (tokA ts 0 i).k = 4 := by rcases kind_cases' E.ok i with h' | h' | h' | h' | h' <;> omega
  have HKD := hide (fun (V : World) (n : Value) (hk : KS Z p ta tn tc w nd xs [] NS i false V n nilL []) => hk.via (e0 := .returned (.int .i64 4)) fun _ hX => (spKind E hX).mono fun _ _ h => ⟨by rw [h.1, hkc], (MidP.start hX).below h.2⟩)
  have HNM := hide (fun (V : World) (n : Value) (hk : KS Z p ta tn tc w nd xs [] NS i false V n nilL []) => hk.via (e0 := .returned (.bool false)) fun _ hX => (spName E hX false (r := false) (decide_eq_false (by rw [h1]; decide))).mono fun _ _ h => ⟨h.1, (MidP.start hX).below h.2⟩)
  have HN0 := hide (fun (gb : Nat) (V : World) (n : Value) (hk : KS Z p ta tn tc w nd xs [gb] NS (i) false V n nilL []) => hk.via fun _ hX => hasNo E hX (by omega) (c := 9082) (by decide) (s := ⟨#[226, 141, 186]⟩) (by kernel_rfl) (by rw [h1]; decide))
  have HN1 := hide (fun (gb : Nat) (V : World) (n : Value) (hk : KS Z p ta tn tc w nd xs [gb] NS (i) false V n nilL []) => hk.via fun _ hX => hasNo E hX (by omega) (c := 9077) (by decide) (s := ⟨#[226, 141, 181]⟩) (by kernel_rfl) (by rw [h1]; decide))
  have HN2 := hide (fun (gb : Nat) (V : World) (n : Value) (hk : KS Z p ta tn tc w nd xs [gb] NS (i) false V n nilL []) => hk.via fun _ hX => hasNo E hX (by omega) (c := 9068) (by decide) (s := ⟨#[226, 141, 172]⟩) (by kernel_rfl) (by rw [h1]; decide))
  have HW1 := hide (fun (gb : Nat) (V : World) (n : Value) (hk : KS Z p ta tn tc w nd xs [gb] NS (i) false V n nilL []) => hk.via fun _ hX => wantYes E hX (by omega) (c := 40) (by decide) (s := ⟨#[40]⟩) (by kernel_rfl) h1)
  have HRD := hide (fun (gb : Nat) (V : World) (n : Value) (hk : KS Z p ta tn tc w nd xs [gb] NS (i + 1) false V n nilL []) => hk.read hR (by omega))
  have HW2 := hide (fun (gb : Nat) (V : World) (n : Value) (ds : List NodeD) (hk : KS Z p ta tn tc w nd xs [gb] (NS ++ ds) (q) false V n nilL []) => hk.via fun _ hX => wantNo E hX (by omega) (c := 41) (by decide) (s := ⟨#[41]⟩) (by kernel_rfl) h41)
  have HXL := hide hxl
  clear h hxl hkc h1 hR E h41
  go_enter Tryz.func147, Tryz.ntmps147
  go_wp2_with (first | (go_at_call 143; refine (unhide HKD _ _ (unhide HK)).mono ?_; rintro e w5 ⟨rfl, hk, _⟩; clear HK; have HK := hide hk; clear hk) | (go_at_call 90; refine (unhide HNM _ _ (unhide HK)).mono ?_; rintro e w4 ⟨rfl, hk, _⟩; have HK4 := hide (hk.box (.cells #[.string ⟨#[226, 141, 186]⟩, .string ⟨#[226, 141, 181]⟩, .string ⟨#[226, 141, 172]⟩] 9)); clear hk))
  obtain ⟨gb, hgb⟩ : ∃ gb, gb = w4.heap.size := ⟨_, rfl⟩
  have HR0 : Hid ((w4.alloc (.cells #[.string ⟨#[226, 141, 186]⟩, .string ⟨#[226, 141, 181]⟩, .string ⟨#[226, 141, 172]⟩] 9)).heap[gb]? = some (.cells #[.string ⟨#[226, 141, 186]⟩, .string ⟨#[226, 141, 181]⟩, .string ⟨#[226, 141, 172]⟩] 9 (0, 0))) := by rw [hgb]; show (w4.heap.push _)[w4.heap.size]? = _; simp
  rw [← hgb] at HK4 ⊢
  clear hgb HK HKD HNM
  go_loopw [6] (fun u wr => ∃ (k : Nat) (n : Value), u = .int .i64 (k : Nat) ∧ k ≤ 3 ∧ Hid (KS Z p ta tn tc w nd xs [gb] NS i false wr n nilL []) ∧ Hid (wr.heap[gb]? = some (.cells #[.string ⟨#[226, 141, 186]⟩, .string ⟨#[226, 141, 181]⟩, .string ⟨#[226, 141, 172]⟩] 9 (0, 0)))) (fun u _ => 4 - (intOf u).toNat)
  case atStart => exact ⟨0, nd, rfl, by omega, HK4, HR0⟩
  case round =>
    obtain ⟨k, n, rfl, hk3, HKR, HRS⟩ := hrel
    clear HK4 HR0
    by_cases c0 : k = 0
    · subst c0
      have hc : wr.cell? ⟨gb, 0, none⟩ = some (.string ⟨#[226, 141, 186]⟩) := by have hb := unhide HRS; simp [World.cell?, hb]
      have hgl := lt_of_block (unhide HRS)
      go_wp2_with (go_at_call 44; refine (unhide HN0 _ _ _ (unhide HKR)).mono ?_; rintro e w6 ⟨rfl, hk, hs⟩; have HK6 := hide hk; have HR6 := hide ((hs _ (List.mem_singleton.2 rfl)).trans (unhide HRS)); clear hk hs)
      go_roundw
      case rel => exact ⟨1, n, rfl, by omega, HK6, HR6⟩
      case measure => simp [intOf]
    by_cases c1 : k = 1
    · subst c1
      have hc : wr.cell? ⟨gb, 1, none⟩ = some (.string ⟨#[226, 141, 181]⟩) := by have hb := unhide HRS; simp [World.cell?, hb]
      have hgl := lt_of_block (unhide HRS)
      go_wp2_with (go_at_call 44; refine (unhide HN1 _ _ _ (unhide HKR)).mono ?_; rintro e w6 ⟨rfl, hk, hs⟩; have HK6 := hide hk; have HR6 := hide ((hs _ (List.mem_singleton.2 rfl)).trans (unhide HRS)); clear hk hs)
      go_roundw
      case rel => exact ⟨2, n, rfl, by omega, HK6, HR6⟩
      case measure => simp [intOf]
    by_cases c2 : k = 2
    · subst c2
      have hc : wr.cell? ⟨gb, 2, none⟩ = some (.string ⟨#[226, 141, 172]⟩) := by have hb := unhide HRS; simp [World.cell?, hb]
      have hgl := lt_of_block (unhide HRS)
      go_wp2_with (go_at_call 44; refine (unhide HN2 _ _ _ (unhide HKR)).mono ?_; rintro e w6 ⟨rfl, hk, hs⟩; have HK6 := hide hk; have HR6 := hide ((hs _ (List.mem_singleton.2 rfl)).trans (unhide HRS)); clear hk hs)
      go_roundw
      case rel => exact ⟨3, n, rfl, by omega, HK6, HR6⟩
      case measure => simp [intOf]
    have c3 : k = 3 := by omega
    subst c3
    go_wp2_with (first | (go_at_call 144; refine (unhide HW1 _ _ _ (unhide HKR)).mono ?_; clear HW1; rintro e w6 ⟨rfl, hk, _⟩; obtain ⟨p0, p1, p2, p3, f0, f1, f2, f3, hpl⟩ := hk.all; have HK6 := hide hk; clear hk) | (go_at_call 94; refine (unhide HRD _ _ _ (unhide HK6)).mono ?_; rintro e w7 ⟨z, nd7, ds, rfl, hk, _, _, hl, ht⟩; have HK7 := hide hk; have HL := hide hl; have HT := hide ht; clear hk hl ht) | (go_at_call 144; refine (unhide HW2 _ _ _ _ (unhide HK7)).mono ?_; rintro e w8 ⟨rfl, hk, _⟩; have HK8 := hide hk; clear hk))
    go_ret
    exact bad_gave (by rw [List.length_append, unhide HXL]; have := unhide HL; omega) (unhide HK8) (by omega) _


set_option maxRecDepth 20000 in
set_option maxHeartbeats 4000000 in
theorem at_40b (E : SEnv Z ta tn ts) (h : SPS Z p ta tn tc false w i nd xs) (hi : i ≤ 4100) (hroom : xs.length + 4 * (5000 - i) ≤ 100000) (h1 : (seenT ts).cl i = 40) (hiq : i + 1 ≤ q) (hR : ReadS Z p ta tn tc 94 #[.pointer (some ⟨p, 0, none⟩)] (i + 1) false q t) :
    Calls Tryz.prog 147 #[.pointer (some ⟨p, 0, none⟩)] w (GaveS Z p ta tn tc w nd xs i false (q) ([])) := by
  have HK := hide (KS.start h)
  have hxl : (xs.map NodeC.d).length = xs.length := List.length_map ..
  obtain ⟨NS, hNS⟩ : ∃ NS, xs.map NodeC.d = NS := ⟨_, rfl⟩
  rw [hNS] at HK hxl
  have hxm : NS.length ≤ 100000 := by omega
  have hkc : (tokA ts 0 i).k = 4 := by rcases kind_cases' E.ok i with h' | h' | h' | h' | h' <;> omega
  have HKD := hide (fun (V : World) (n : Value) (hk : KS Z p ta tn tc w nd xs [] NS i false V n nilL []) => hk.via (e0 := .returned (.int .i64 4)) fun _ hX => (spKind E hX).mono fun _ _ h => ⟨by rw [h.1, hkc], (MidP.start hX).below h.2⟩)
  have HNM := hide (fun (V : World) (n : Value) (hk : KS Z p ta tn tc w nd xs [] NS i false V n nilL []) => hk.via (e0 := .returned (.bool false)) fun _ hX => (spName E hX false (r := false) (decide_eq_false (by rw [h1]; decide))).mono fun _ _ h => ⟨h.1, (MidP.start hX).below h.2⟩)
  have HN0 := hide (fun (gb : Nat) (V : World) (n : Value) (hk : KS Z p ta tn tc w nd xs [gb] NS (i) false V n nilL []) => hk.via fun _ hX => hasNo E hX (by omega) (c := 9082) (by decide) (s := ⟨#[226, 141, 186]⟩) (by kernel_rfl) (by rw [h1]; decide))
  have HN1 := hide (fun (gb : Nat) (V : World) (n : Value) (hk : KS Z p ta tn tc w nd xs [gb] NS (i) false V n nilL []) => hk.via fun _ hX => hasNo E hX (by omega) (c := 9077) (by decide) (s := ⟨#[226, 141, 181]⟩) (by kernel_rfl) (by rw [h1]; decide))
  have HN2 := hide (fun (gb : Nat) (V : World) (n : Value) (hk : KS Z p ta tn tc w nd xs [gb] NS (i) false V n nilL []) => hk.via fun _ hX => hasNo E hX (by omega) (c := 9068) (by decide) (s := ⟨#[226, 141, 172]⟩) (by kernel_rfl) (by rw [h1]; decide))
  have HW1 := hide (fun (gb : Nat) (V : World) (n : Value) (hk : KS Z p ta tn tc w nd xs [gb] NS (i) false V n nilL []) => hk.via fun _ hX => wantYes E hX (by omega) (c := 40) (by decide) (s := ⟨#[40]⟩) (by kernel_rfl) h1)
  have HRD := hide (fun (gb : Nat) (V : World) (n : Value) (hk : KS Z p ta tn tc w nd xs [gb] NS (i + 1) false V n nilL []) => hk.read hR (by omega))
  have HW2 := hide (fun (gb : Nat) (V : World) (n : Value) (ds : List NodeD) (hk : KS Z p ta tn tc w nd xs [gb] (NS ++ ds) (q) true V n nilL []) => hk.via fun _ hX => wantBad hX ⟨#[41]⟩)
  have HXL := hide hxl
  clear h hxl hkc h1 hR E
  go_enter Tryz.func147, Tryz.ntmps147
  go_wp2_with (first | (go_at_call 143; refine (unhide HKD _ _ (unhide HK)).mono ?_; rintro e w5 ⟨rfl, hk, _⟩; clear HK; have HK := hide hk; clear hk) | (go_at_call 90; refine (unhide HNM _ _ (unhide HK)).mono ?_; rintro e w4 ⟨rfl, hk, _⟩; have HK4 := hide (hk.box (.cells #[.string ⟨#[226, 141, 186]⟩, .string ⟨#[226, 141, 181]⟩, .string ⟨#[226, 141, 172]⟩] 9)); clear hk))
  obtain ⟨gb, hgb⟩ : ∃ gb, gb = w4.heap.size := ⟨_, rfl⟩
  have HR0 : Hid ((w4.alloc (.cells #[.string ⟨#[226, 141, 186]⟩, .string ⟨#[226, 141, 181]⟩, .string ⟨#[226, 141, 172]⟩] 9)).heap[gb]? = some (.cells #[.string ⟨#[226, 141, 186]⟩, .string ⟨#[226, 141, 181]⟩, .string ⟨#[226, 141, 172]⟩] 9 (0, 0))) := by rw [hgb]; show (w4.heap.push _)[w4.heap.size]? = _; simp
  rw [← hgb] at HK4 ⊢
  clear hgb HK HKD HNM
  go_loopw [6] (fun u wr => ∃ (k : Nat) (n : Value), u = .int .i64 (k : Nat) ∧ k ≤ 3 ∧ Hid (KS Z p ta tn tc w nd xs [gb] NS i false wr n nilL []) ∧ Hid (wr.heap[gb]? = some (.cells #[.string ⟨#[226, 141, 186]⟩, .string ⟨#[226, 141, 181]⟩, .string ⟨#[226, 141, 172]⟩] 9 (0, 0)))) (fun u _ => 4 - (intOf u).toNat)
  case atStart => exact ⟨0, nd, rfl, by omega, HK4, HR0⟩
  case round =>
    obtain ⟨k, n, rfl, hk3, HKR, HRS⟩ := hrel
    clear HK4 HR0
    by_cases c0 : k = 0
    · subst c0
      have hc : wr.cell? ⟨gb, 0, none⟩ = some (.string ⟨#[226, 141, 186]⟩) := by have hb := unhide HRS; simp [World.cell?, hb]
      have hgl := lt_of_block (unhide HRS)
      go_wp2_with (go_at_call 44; refine (unhide HN0 _ _ _ (unhide HKR)).mono ?_; rintro e w6 ⟨rfl, hk, hs⟩; have HK6 := hide hk; have HR6 := hide ((hs _ (List.mem_singleton.2 rfl)).trans (unhide HRS)); clear hk hs)
      go_roundw
      case rel => exact ⟨1, n, rfl, by omega, HK6, HR6⟩
      case measure => simp [intOf]
    by_cases c1 : k = 1
    · subst c1
      have hc : wr.cell? ⟨gb, 1, none⟩ = some (.string ⟨#[226, 141, 181]⟩) := by have hb := unhide HRS; simp [World.cell?, hb]
      have hgl := lt_of_block (unhide HRS)
      go_wp2_with (go_at_call 44; refine (unhide HN1 _ _ _ (unhide HKR)).mono ?_; rintro e w6 ⟨rfl, hk, hs⟩; have HK6 := hide hk; have HR6 := hide ((hs _ (List.mem_singleton.2 rfl)).trans (unhide HRS)); clear hk hs)
      go_roundw
      case rel => exact ⟨2, n, rfl, by omega, HK6, HR6⟩
      case measure => simp [intOf]
    by_cases c2 : k = 2
    · subst c2
      have hc : wr.cell? ⟨gb, 2, none⟩ = some (.string ⟨#[226, 141, 172]⟩) := by have hb := unhide HRS; simp [World.cell?, hb]
      have hgl := lt_of_block (unhide HRS)
      go_wp2_with (go_at_call 44; refine (unhide HN2 _ _ _ (unhide HKR)).mono ?_; rintro e w6 ⟨rfl, hk, hs⟩; have HK6 := hide hk; have HR6 := hide ((hs _ (List.mem_singleton.2 rfl)).trans (unhide HRS)); clear hk hs)
      go_roundw
      case rel => exact ⟨3, n, rfl, by omega, HK6, HR6⟩
      case measure => simp [intOf]
    have c3 : k = 3 := by omega
    subst c3
    go_wp2_with (first | (go_at_call 144; refine (unhide HW1 _ _ _ (unhide HKR)).mono ?_; clear HW1; rintro e w6 ⟨rfl, hk, _⟩; obtain ⟨p0, p1, p2, p3, f0, f1, f2, f3, hpl⟩ := hk.all; have HK6 := hide hk; clear hk) | (go_at_call 94; refine (unhide HRD _ _ _ (unhide HK6)).mono ?_; rintro e w7 ⟨z, nd7, ds, rfl, hk, _, _, hl, ht⟩; have HK7 := hide hk; have HL := hide hl; have HT := hide ht; clear hk hl ht) | (go_at_call 144; refine (unhide HW2 _ _ _ _ (unhide HK7)).mono ?_; rintro e w8 ⟨rfl, hk, _⟩; have HK8 := hide hk; clear hk))
    go_ret
    exact bad_gave (by rw [List.length_append, unhide HXL]; have := unhide HL; omega) (unhide HK8) (by omega) _


end
end Go.Proofs.YtmgjicgojlkpcaaGreatDoor
