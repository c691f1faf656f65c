import Derived.Test.YtmgjicgojlkpcaaGreatDoorImplKL
namespace Go.Proofs.YtmgjicgojlkpcaaGreatDoor
open Go.RowKit

/-- A parser's place, as it lies in memory. -/
def plc (p : Nat) (w : World) : Nat := match w.cell? ⟨p, 1, none⟩ with
  | some (.int _ z) => z.toNat
  | _ => 0

section
variable {Z w w0 w1 : World} {p i j : Nat} {nd nd0 nd1 v : Value} {zs : List Int} {xs ys : List NodeC} {bx : List Nat} {ls : List (List NodeD)} {ta : Option Addr} {tn tc bytes : Nat} {ts : List Tok}

theorem KT.plc (h : KT Z p ta tn tc bytes w0 nd0 xs bx ls i w nd v zs) : plc p w = i := by
  obtain ⟨_, h1, _⟩ := h.all
  unfold Go.Proofs.YtmgjicgojlkpcaaGreatDoor.plc
  rw [h1]
  simp

theorem KT.slice (h : KT Z p ta tn tc bytes w0 nd0 xs bx ls i w nd v zs) : ∃ a c, v = .slice a zs.length c := own_slice h.ownR

theorem seen_nv (E : IEnv Z ta tn ts bytes) {q : Nat} (h : (seenT ts).cl q = 1) : (tokA ts bytes q).k = 1 ∧ (tokA ts bytes q).n = (seenT ts).nv q ∧ q < ts.length := by
  have hq : q < ts.length := seen_ends ts q (by rw [h]; decide)
  have e : ∀ b, tokA ts b q = ts[q] := fun b => by unfold tokA; simp [List.getD_eq_getElem?_getD, hq]
  refine ⟨(seen_k E q).1.2 h, ?_, hq⟩
  show _ = (tokA ts 0 q).n
  rw [e, e]

set_option maxRecDepth 20000 in
set_option maxHeartbeats 4000000 in
theorem numbersP (E : IEnv Z ta tn ts bytes) (h : IPS Z p ta tn tc bytes w i nd xs) (hil : i ≤ ts.length) (htl : ts.length ≤ 4096) (hlen : xs.length ≤ 1048576) :
    Calls Tryz.prog 218 #[.pointer (some ⟨p, 0, none⟩)] w fun e w' => e = .returned (.int .i64 (xs.length : Nat)) ∧ ∃ nd', KT Z p ta tn tc bytes w nd xs [] [treeN 1 0 0 ⟨#[]⟩ (numsTo (seenT ts) (ts.length + 1) i) []] (i + (numsTo (seenT ts) (ts.length + 1) i).length) w' nd' nilL [] := by
  obtain ⟨i0, hi, hz0, hz1, hz2⟩ := info_parts info_int
  have HK := hide (KT.start h)
  obtain ⟨N, hN⟩ : ∃ N, numsTo (seenT ts) (ts.length + 1) i = N := ⟨_, rfl⟩
  rw [hN]
  have HN := hide hN
  clear h hN
  go_enter Tryz.func218, Tryz.ntmps218
  go_wp2_with fail
  go_loopw [3] (fun u wr => ∃ (m f : Nat) (zs : List Int), i + m ≤ ts.length ∧ ts.length < f + (i + m) ∧ Hid (zs.length = m) ∧ Hid (zs ++ numsTo (seenT ts) f (i + m) = N) ∧ Hid (KT Z p ta tn tc bytes w nd xs [] [] (i + m) wr nd u zs)) (fun _ wr => ts.length - plc p wr)
  case atStart => exact ⟨0, ts.length + 1, [], by omega, by omega, rfl, HN, HK⟩
  case round =>
    obtain ⟨m, f, zs, hm, hf, HLZ, HZS, HKR⟩ := hrel
    clear HN HK
    obtain ⟨u0, uc, rfl⟩ := (unhide HKR).slice
    obtain ⟨f', rfl⟩ : ∃ f', f = f' + 1 := ⟨f - 1, by omega⟩
    obtain ⟨j, hj⟩ : ∃ j, i + m = j := ⟨_, rfl⟩
    rw [hj] at HKR HZS hm hf
    obtain ⟨XS, hXS, _, _⟩ := (unhide HKR).ps
    have HA := hide (fun (V : World) (hV : Below _ _ V) => aheadP E hXS (by omega) hV 0 (by omega))
    rw [Nat.add_zero] at HA
    have hzl := (unhide HKR).low.size
    have HPL := hide (unhide HKR).plc
    clear hXS
    by_cases h1 : (seenT ts).cl j = 1
    case pos =>
      obtain ⟨e1, e2, e3⟩ := seen_nv E (bytes := bytes) h1
      have HZ2 : Hid ((zs ++ [(seenT ts).nv j]) ++ numsTo (seenT ts) f' (j + 1) = N) := by
        show _ = _
        rw [← unhide HZS, numsTo, if_pos h1, List.append_assoc]
        rfl
      obtain ⟨⟨yk, yn, yt, yp⟩, hy⟩ : ∃ y, tokA ts bytes j = y := ⟨_, rfl⟩
      rw [hy] at e1 e2 HA
      dsimp only at e1 e2
      subst e1
      rw [← e2] at HZ2
      unfold tokW at HA
      have hf0 : ∀ W, (Instr.field 64 (.agg #[.int .i64 1, .int .i64 yn, .string yt, .int .i64 (yp : Nat)]) 0).run Tryz.prog W = .ok (.int .i64 1) W := fun W => by kernel_rfl
      have hf1 : ∀ W, (Instr.field 64 (.agg #[.int .i64 1, .int .i64 yn, .string yt, .int .i64 (yp : Nat)]) 1).run Tryz.prog W = .ok (.int .i64 yn) W := fun W => by kernel_rfl
      clear h1 hy e2 HZS
      have HB0 := hide (Below.refl _ _ : Below wr.heap.size wr wr)
      have hzs : zs.length ≤ 4096 := by have := unhide HLZ; omega
      have hw1 : IntKind.i64.wrap ((j : Int) + 1) = (j : Int) + 1 := by rw [IntKind.wrap_i64]; omega
      go_wp2_with (first | (go_at_call 158; refine (unhide HA _ (unhide HB0)).mono ?_; rintro e w5 ⟨rfl, hb5⟩; have HB1 := hide ((unhide HB0).trans (hb5.mono (unhide HB0).size)); have hzl5 := (unhide HB1).size; clear hb5 HB0; have HB0 := HB1; clear HB1) | (at_builtin; refine wpList_append_lies _ rfl _ _ 45 rfl Z.heap.size 3 i0 (.int .i64 0) 1 8 Tryz.underlying45 hi hz0 hz1 hz2 rfl (by decide) _ _ _ rfl (KT.below (KT.below (unhide HKR) (unhide HB0)) ((Below.refl _ _).alloc (Nat.le_refl _) (.cells #[.int .i64 yn] 3))).ownR ⟨w5.heap.size, 0, none⟩ 1 1 [.int .i64 yn] rfl rfl (cells_i _ _) (one_i _) (by omega) (by unfold maxLen; omega) (by omega) (by simp; omega) (w5.heap.size + 1) (by simp) ?_; intro g' cap' w7 hown' hgrow hat hlt7; obtain ⟨hk7, _⟩ := KT.grew (KT.below (KT.below (unhide HKR) (unhide HB0)) ((Below.refl _ _).alloc (Nat.le_refl _) (.cells #[.int .i64 yn] 3))) hown' hgrow hat (by simp); obtain ⟨p0, p1, p2, p3, f0, f1, f2, f3, hpl⟩ := hk7.all; have HK7 := hide hk7; clear hk7 hown' hgrow hat hlt7))
      have HK8 := hide ((unhide HK7).step 1 ((j : Int) + 1) (by omega))
      have HP8 := hide (unhide HK8).plc
      go_roundw
      case rel => exact ⟨m + 1, f', zs ++ [yn], by omega, by omega, by show (zs ++ [yn]).length = m + 1; rw [List.length_append, unhide HLZ]; rfl, by show _ = _; rw [← Nat.add_assoc, hj]; exact unhide HZ2, by show KT _ _ _ _ _ _ _ _ _ _ _ _ _ _ _ _; rw [← Nat.add_assoc, hj]; have := unhide HK8; simpa using this⟩
      case measure => rw [unhide HPL, unhide HP8]; omega
    case neg =>
      have HZ2 : Hid (zs = N) := by
        show _ = _
        rw [← unhide HZS, numsTo, if_neg h1, List.append_nil]
      have e1 : (tokA ts bytes j).k ≠ 1 := fun e => h1 ((seen_k E j).1.1 e)
      obtain ⟨⟨yk, yn, yt, yp⟩, hy⟩ : ∃ y, tokA ts bytes j = y := ⟨_, rfl⟩
      rw [hy] at e1 HA
      dsimp only at e1
      have hd1 : (yk == 1) = false := by simpa using e1
      unfold tokW at HA
      have hf0 : ∀ W, (Instr.field 64 (.agg #[.int .i64 yk, .int .i64 yn, .string yt, .int .i64 (yp : Nat)]) 0).run Tryz.prog W = .ok (.int .i64 yk) W := fun W => by kernel_rfl
      clear h1 hy e1 HZS
      have HB0 := hide (Below.refl _ _ : Below wr.heap.size wr wr)
      have HLN := hide hlen
      go_wp2_with (first | (go_at_call 158; refine (unhide HA _ (unhide HB0)).mono ?_; rintro e w5 ⟨rfl, hb5⟩; have HK5 := hide ((unhide HKR).below hb5); clear hb5 HB0 HA) | (go_at_call 104; refine (KT.putN (unhide HK5) 1 0 0 ⟨#[]⟩ (unhide HLN)).mono ?_; rintro e w9 ⟨rfl, nd9, hk9⟩; have HK9 := hide hk9; clear hk9))
      go_ret
      refine ⟨rfl, nd9, ?_⟩
      have hk := unhide HK9
      rw [unhide HZ2] at hk
      have hl : i + N.length = j := by rw [← unhide HZ2, unhide HLZ]; exact hj
      rw [hl]
      exact hk

end
end Go.Proofs.YtmgjicgojlkpcaaGreatDoor
