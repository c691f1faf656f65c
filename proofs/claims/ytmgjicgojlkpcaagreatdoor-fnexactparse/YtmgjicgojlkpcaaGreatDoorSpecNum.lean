import Derived.Test.YtmgjicgojlkpcaaGreatDoorSpecFnS
import Derived.Test.YtmgjicgojlkpcaaGreatDoorImplEnd
import Derived.Test.YtmgjicgojlkpcaaGreatDoorImplNums
namespace Go.Proofs.YtmgjicgojlkpcaaGreatDoor
open Go.RowKit

section
variable {Z w w0 w1 : World} {p i j q : Nat} {nd nd0 nd1 v : Value} {zs : List Int} {xs ys : List NodeC} {bx : List Nat} {ns : List NodeD} {ta : Option Addr} {tn tc : Nat} {ts : List Tok} {b b' g : Bool} {t : List NodeD}

theorem KS.plc (h : KS Z p ta tn tc w0 nd0 xs bx ns i b w nd v zs) : plc p w = i := by
  obtain ⟨_, h1, _⟩ := h.all
  unfold Go.Proofs.YtmgjicgojlkpcaaGreatDoor.plc
  rw [h1]
  simp

theorem KS.grew {w7 : World} {g cap : Nat} {z : Int} {a : Option Addr} {c : Nat} (h : KS Z p ta tn tc w0 nd0 xs bx ns i b w nd (.slice a zs.length c) zs) (hown : w7.ownsRow Z.heap.size 3 1 (.slice (some ⟨g, 0, none⟩) (zs.length + 1) cap) (zs.length + 1) (zs.map (Value.int .i64) ++ [.int .i64 z])) (hg : w.grownBy w7 (Value.slice a zs.length c).ownBlock) {H : Nat} (hat : (Value.slice a zs.length c).ownBlock = some g ∨ g = H) (hH : H = w.heap.size) : KS Z p ta tn tc w0 nd0 xs bx ns i b w7 nd (.slice (some ⟨g, 0, none⟩) (zs.length + 1) cap) (zs ++ [z]) ∧ BoxSame bx w w7 :=
  h.grow (by unfold OwnI; rw [List.map_append, List.length_append]; exact hown) hg (by rw [← hH]; exact hat)

/-- A node with numbers in its box. -/
def nodeN (k n m : Int) (s : ByteArray) (v : Value) : Obj := .cells #[.int .i64 k, .int .i64 n, .int .i64 m, .string s, v, .slice none 0 0] 47 (0, 0)

theorem boxN_cells {k n m : Int} {s : ByteArray} {b : Nat} (h : w.heap[b]? = some (nodeN k n m s v)) : w.cell? ⟨b, 0, none⟩ = some (.int .i64 k) ∧ w.cell? ⟨b, 1, none⟩ = some (.int .i64 n) ∧ w.cell? ⟨b, 2, none⟩ = some (.int .i64 m) ∧ w.cell? ⟨b, 3, none⟩ = some (.string s) ∧ w.cell? ⟨b, 4, none⟩ = some v ∧ w.cell? ⟨b, 5, none⟩ = some (.slice none 0 0) ∧ w.frozen? ⟨b, 4, none⟩ = false ∧ b < w.heap.size := by
  unfold nodeN at h
  refine ⟨?_, ?_, ?_, ?_, ?_, ?_, frozen_of_row w b 4 _ _ h, lt_of_block h⟩ <;> simp [World.cell?, h]

theorem boxN_set {k n m : Int} {s : ByteArray} {b : Nat} (h : w.heap[b]? = some (nodeN k n m s v)) (u : Value) : (w.setCell ⟨b, 4, none⟩ u).heap[b]? = some (nodeN k n m s u) := by
  unfold nodeN at h ⊢
  rw [heap_setCell_same w b 4 _ _ _ h]
  simp

set_option maxRecDepth 20000 in
set_option maxHeartbeats 8000000 in
theorem at_1 (E : SEnv Z ta tn ts) (h : SPS Z p ta tn tc false w i nd xs) (hil : i ≤ ts.length) (htl : ts.length ≤ 4096) (hroom : xs.length + 4 * (5000 - i) ≤ 100000) (h1 : (seenT ts).cl i = 1) :
    Calls Tryz.prog 147 #[.pointer (some ⟨p, 0, none⟩)] w (GaveS Z p ta tn tc w nd xs i true (i + (numsTo (seenT ts) (ts.length + 1) i).length) (treeN 1 0 0 nilS (numsTo (seenT ts) (ts.length + 1) i) [])) := by
  obtain ⟨i0, hi, hz0, hz1, hz2⟩ := info_parts info_int
  have HK := hide (KS.start h)
  have hxl : (xs.map NodeC.d).length = xs.length := List.length_map ..
  obtain ⟨NS, hNS⟩ : ∃ NS, xs.map NodeC.d = NS := ⟨_, rfl⟩
  rw [hNS] at HK hxl
  obtain ⟨N, hN⟩ : ∃ N, numsTo (seenT ts) (ts.length + 1) i = N := ⟨_, rfl⟩
  rw [hN]
  have hnl := nums_one h1 ts.length
  have hnm := nums_some (seen_ends ts) (ts.length + 1) i hil
  rw [hN] at hnl hnm
  have HN := hide hN
  have HNL := hide hnl
  have HPUT := hide (fun (V : World) (n : Value) (a : Option Addr) (l c jj : Nat) (us : List Int) (B : List Nat) (hk : KS Z p ta tn tc w nd xs B NS jj false V n (.slice a l c) us) => hk.putN 1 0 0 ⟨#[]⟩ (by omega))
  have HKD := hide (fun (V : World) (n u : Value) (B : List Nat) (jj : Nat) (us : List Int) (hk : KS Z p ta tn tc w nd xs B NS jj false V n u us) => hk.via (e0 := .returned (.int .i64 (tokA ts 0 jj).k)) fun _ hX => (spKind E hX).mono fun _ _ h => ⟨h.1, (MidP.start hX).below h.2⟩)
  have k1 : (tokA ts 0 i).k = 1 := by rcases kind_cases' E.ok i with h' | h' | h' | h' | h' <;> omega
  have HTK : Hid (∀ jj, (seenT ts).cl jj = 1 → ∃ tb off y, ta = some ⟨tb, off, none⟩ ∧ tb < Z.heap.size ∧ jj < tn ∧ y.k = 1 ∧ y.n = (seenT ts).nv jj ∧ tokA ts 0 jj = y ∧ ∀ V, Below Z.heap.size Z V → V.cell? ⟨tb, off + jj * 4 + 1, none⟩ = some (.int .i64 y.n) ∧ tb < V.heap.size) := fun jj hj => by
    have hlt : jj < tn := by rw [← E.row.len]; exact seen_ends ts jj (by rw [hj]; decide)
    obtain ⟨tb, off, y, rfl, hbl, hy, a0, a1, a2, a3⟩ := E.row.get hlt
    have hk : (tokA ts 0 jj).k = 1 := by rcases kind_cases' E.ok jj with h' | h' | h' | h' | h' <;> omega
    have hty := tokA_in hy 0
    exact ⟨tb, off, y, rfl, hbl, hlt, by rw [← hty]; exact hk, by show _ = (tokA ts 0 jj).n; rw [hty], hty, fun V hV => ⟨(hV.cell (p := ⟨tb, off + jj * 4 + 1, none⟩) hbl).trans a1, Nat.lt_of_lt_of_le hbl hV.size⟩⟩
  have HZP : Hid (Z.heap.size ≤ p) := h.hp
  have HE := hide E
  have HXL := hide hxl
  obtain ⟨p0, p1, p2, p3, f0, f1, f2, f3, hpl⟩ := h.all
  clear h hN hnl hxl
  have HK0 := hide (unhide HKD _ _ _ _ _ _ (unhide HK))
  rw [k1] at HK0
  go_enter Tryz.func147, Tryz.ntmps147
  go_wp2_with (go_at_call 143; refine (unhide HK0).mono ?_; rintro e w5 ⟨rfl, hk, _⟩; have hp5 := hk.all.2.2.2.2.2.2.2.2; have HK5 := hide (hk.box (nodeN 1 0 0 ⟨#[]⟩ nilL)); clear hk)
  obtain ⟨B, hB⟩ : ∃ B, B = w5.heap.size := ⟨_, rfl⟩
  have HBX : Hid ((w5.alloc (nodeN 1 0 0 ⟨#[]⟩ nilL)).heap[B]? = some (nodeN 1 0 0 ⟨#[]⟩ nilL)) := by rw [hB]; show (w5.heap.push _)[w5.heap.size]? = _; simp
  rw [← hB] at HK5 ⊢
  have hBp : B ≠ p := by omega
  clear hB HK HK0
  go_loopw [13] (fun _ wr => ∃ (m f : Nat) (zs : List Int) (n u4 : Value), i + m ≤ ts.length ∧ ts.length < f + (i + m) ∧ Hid (zs.length = m) ∧ Hid (zs ++ numsTo (seenT ts) f (i + m) = N) ∧ Hid (KS Z p ta tn tc w nd xs [B] NS (i + m) false wr n u4 zs) ∧ Hid (wr.heap[B]? = some (nodeN 1 0 0 ⟨#[]⟩ u4))) (fun _ wr => ts.length - plc p wr)
  case atStart => exact ⟨0, ts.length + 1, [], nd, nilL, by omega, by omega, rfl, HN, HK5, HBX⟩
  case round =>
    obtain ⟨m, f, zs, n, u4, hm, hf, HLZ, HZS, HKR, HBR⟩ := hrel
    clear HN HK5 HBX
    obtain ⟨u0, uc, rfl⟩ := (unhide HKR).slice
    obtain ⟨f', rfl⟩ : ∃ f', f = f' + 1 := ⟨f - 1, by omega⟩
    obtain ⟨jn, hj⟩ : ∃ jn, i + m = jn := ⟨_, rfl⟩
    rw [hj] at HKR HZS hm hf
    have hzl := (unhide HKR).low.size
    have HPL := hide (unhide HKR).plc
    have HKJ := hide (unhide HKD _ _ _ _ _ _ (unhide HKR))
    by_cases h1 : (seenT ts).cl jn = 1
    case pos =>
      have hjl : jn < ts.length := seen_ends ts jn (by rw [h1]; decide)
      obtain ⟨tb, off, y, rfl, hbl, hjt, yk1, yn1, hty, htk⟩ := unhide HTK jn h1
      have HZ2 : Hid ((zs ++ [(seenT ts).nv jn]) ++ numsTo (seenT ts) f' (jn + 1) = N) := by
        show _ = _
        rw [← unhide HZS, numsTo, if_pos h1, List.append_assoc]
        rfl
      obtain ⟨yk, yn, yt, yp⟩ := y
      rw [hty] at HKJ
      dsimp only at yk1 yn1 HKJ htk
      subst yk1
      rw [← yn1] at HZ2
      have HTJ := hide htk
      have hpb : tb ≠ p := Nat.ne_of_lt (Nat.lt_of_lt_of_le hbl (unhide HZP))
      have hzs : zs.length ≤ 4096 := by have := unhide HLZ; omega
      have hw1 : IntKind.i64.wrap ((jn : Int) + 1) = (jn : Int) + 1 := by rw [IntKind.wrap_i64]; omega
      have hl2 : (jn : Int) < (tn : Int) := by omega
      have hl3 : jn < tn := hjt
      clear h1 hty yn1 HZS htk hbl HTK HKD HPUT
      go_wp2_with (go_at_call 143; refine (unhide HKJ).mono ?_; rintro e w6 ⟨rfl, hk, hs⟩; have hbx := (hs _ (List.mem_singleton.2 rfl)).trans (unhide HBR); obtain ⟨b0, b1, b2, b3, b4, b5, b6, hbl⟩ := boxN_cells hbx; obtain ⟨p0, p1, p2, p3, f0, f1, f2, f3, hpl⟩ := hk.all; obtain ⟨a1, htl'⟩ := unhide HTJ _ hk.low; have HK6 := hide (hk.below (((Below.refl _ _).drew).alloc (Nat.le_refl _) (.cells #[.int .i64 yn] 3))); have HB6 := hide hbx; have hzl6 := hk.low.size; clear hk hs hbx)
      go_region_law (first | (refine step_append_lies _ (by rfl) _ _ _ (by rfl) Z.heap.size 3 i0 _ 1 8 Tryz.underlying45 hi hz0 hz1 hz2 rfl (by omega) (.slice u0 zs.length uc) zs.length (zs.map (Value.int .i64)) (by rfl) (unhide HK6).ownR ⟨w6.heap.size, 0, none⟩ 1 1 [.int .i64 yn] (by rfl) (by rfl) (cells_i _ _) (one_i _) (by omega) (by unfold maxLen; omega) (by omega) (by simp; omega) (w6.heap.size + 1) (by simp) ?_; intro g' cap' w7 hown' hgrow hat hlt7; obtain ⟨hk7, hs7⟩ := KS.grew (unhide HK6) hown' hgrow hat (by simp); have hbx7 := (hs7 _ (List.mem_singleton.2 rfl)).trans ((Below.block (((Below.refl _ _).drew).alloc (Nat.le_refl _) (.cells #[.int .i64 yn] 3)) _ hbl).trans (unhide HB6)); clear p0 p1 p2 p3 f0 f1 f2 f3 hpl b0 b1 b2 b3 b4 b5 b6 hbl; obtain ⟨b0, b1, b2, b3, b4, b5, b6, hbl⟩ := boxN_cells hbx7; obtain ⟨p0, p1, p2, p3, f0, f1, f2, f3, hpl⟩ := hk7.all; have HB8 := hide ((heap_setCell_other (w7.setCell ⟨B, 4, none⟩ (.slice (some ⟨g', 0, none⟩) (zs.length + 1) cap')) ⟨p, 1, none⟩ B (.int .i64 ((jn : Int) + 1)) hBp).trans (boxN_set hbx7 (.slice (some ⟨g', 0, none⟩) (zs.length + 1) cap'))); have HK8 := hide ((hk7.setBox (q := 4) (u := .slice (some ⟨g', 0, none⟩) (zs.length + 1) cap') (List.mem_singleton.2 rfl)).step 1 ((jn : Int) + 1) (by omega)); have HP8 := hide (unhide HK8).plc; clear hk7 hs7 hbx7 hown' hgrow hat hlt7))
      all_goals go_wp2_with fail
      all_goals (go_roundw; (case rel => exact ⟨m + 1, f', zs ++ [yn], n, _, by omega, by omega, by show (zs ++ [yn]).length = m + 1; rw [List.length_append, unhide HLZ]; rfl, by show _ = _; rw [← Nat.add_assoc, hj]; exact unhide HZ2, by show KS _ _ _ _ _ _ _ _ _ _ _ _ _ _ _ _; rw [← Nat.add_assoc, hj]; exact unhide HK8, HB8⟩); (case measure => rw [unhide HPL, unhide HP8]; omega))
    case neg =>
      have HZ2 : Hid (zs = N) := by
        show _ = _
        rw [← unhide HZS, numsTo, if_neg h1, List.append_nil]
      have e1 : (tokA ts 0 jn).k ≠ 1 := by rcases kind_cases' (unhide HE).ok jn with h' | h' | h' | h' | h' <;> omega
      obtain ⟨K, hK⟩ : ∃ K, (tokA ts 0 jn).k = K := ⟨_, rfl⟩
      rw [hK] at HKJ e1
      have hd1 : (K == 1) = false := by simpa using e1
      clear h1 hK e1 HZS HTK HKD
      go_wp2_with (first | (go_at_call 143; refine (unhide HKJ).mono ?_; rintro e w6 ⟨rfl, hk, hs⟩; have hbx := (hs _ (List.mem_singleton.2 rfl)).trans (unhide HBR); obtain ⟨b0, b1, b2, b3, b4, b5, b6, hbl⟩ := boxN_cells hbx; have HK6 := hide hk; clear hk hs hbx) | (go_at_call 45; refine (unhide HPUT _ _ _ _ _ _ _ _ (unhide HK6)).mono ?_; rintro e w9 ⟨rfl, nd9, hk9⟩; have HK9 := hide hk9; clear hk9))
      go_ret
      have hk := unhide HK9
      rw [unhide HZ2] at hk
      have hl : i + N.length = jn := by rw [← unhide HZ2, unhide HLZ]; exact hj
      rw [hl]
      have hnl := unhide HNL
      exact leaf_gave (i := i) 1 0 0 ⟨#[]⟩ N (unhide HXL) hk (by omega) (by decide) (by decide) (by decide)

end
end Go.Proofs.YtmgjicgojlkpcaaGreatDoor
