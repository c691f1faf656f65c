import Derived.Test.YtinndpnilmmmjaaGreatDoorMRel
import Derived.Test.YtinndpnilmmmjaaGreatDoorMCv
import Derived.Test.YtinndpnilmmmjaaGreatDoorMBs
import Derived.Test.YtinndpnilmmmjaaGreatDoorSpecLex
import Derived.Test.YtinndpnilmmmjaaGreatDoorMTok
import Derived.Test.YtinndpnilmmmjaaGreatDoorMLexA
import Derived.BigQuiet
namespace Go.Proofs.YtinndpnilmmmjaaGreatDoor
open Go.RowKit

theorem GrowB.one (Q : World) (x : Int) : GrowB Q (Q.alloc (.cells #[.int .u8 x] 5)) Q.heap.size 1 1 [x] := by
  refine ⟨⟨by simp, .inr ⟨Q.heap.size, 1, #[.int .u8 x], rfl, Nat.le_refl _, ?_, by simp, by unfold maxLen; omega, by simp, by simp⟩⟩, (Below.refl _ _).alloc (Nat.le_refl _) _⟩
  show (Q.heap.push _)[Q.heap.size]? = _
  simp

theorem qd_step {s : ByteArray} {k : Nat} (h : k < s.size) : qd (s.data.toList.take (k + 1)) = qd (s.data.toList.take k) ++ (if bt s k = 39 then [39, 39] else [UInt8.ofNat (bt s k)]) := by
  have hl : k < s.data.toList.length := by rw [← Lib.size_eq]; exact h
  have hb : s.data.toList[k] = UInt8.ofNat (bt s k) := by
    rw [bt_data h, List.getD_eq_getElem?_getD, List.getElem?_eq_getElem hl, Option.getD_some]
    simp
  rw [List.take_succ_eq_append_getElem hl]
  unfold qd
  rw [List.flatMap_append, hb]
  congr 1
  simp only [List.flatMap_cons, List.flatMap_nil, List.append_nil]
  have h256 := bt_lt s k
  by_cases h39 : bt s k = 39
  · rw [h39]; rfl
  · rw [if_neg h39, if_neg]
    intro e
    have := congrArg UInt8.toNat e
    rw [UInt8.toNat_ofNat'] at this
    exact h39 (by have h2 : (39 : UInt8).toNat = 39 := rfl; omega)

set_option maxRecDepth 20000 in
set_option maxHeartbeats 4000000 in
theorem l1Quote_any (s : ByteArray) (w : World) (hs : s.size ≤ 1048576) :
    Calls Tryz.prog 74 #[.string s] w fun e w' => e = .returned (.string ⟨(quoteL s.data.toList).toArray⟩) ∧ Below w.heap.size w w' := by
  have HG0 := hide (GrowB.one w 39)
  obtain ⟨i0, hii, hz0, hz1, hz2⟩ := info_parts info_byte
  go_enter Tryz.func74, Tryz.ntmps74
  go_wp2_with fail
  go_loopw [3, 4] (fun u e wr => ∃ (g cp k n : Nat), u = .slice (some ⟨g, 0, none⟩) n cp ∧ e = .int .i64 (k : Nat) ∧ k ≤ s.size ∧ n ≤ 2097153 ∧ Hid (GrowB w wr g cp n (uz (39 :: qd (s.data.toList.take k))))) (fun _ e _ => s.size - (intOf e).toNat)
  case atStart => exact ⟨w.heap.size, 1, 0, 1, rfl, rfl, Nat.zero_le _, by omega, HG0⟩
  case round =>
    obtain ⟨g, cp, k, n, rfl, rfl, hk, hn, HG⟩ := hrel
    clear HG0
    have HLOW := hide (unhide HG).low
    have hzr := (unhide HLOW).size
    have hnl : n = 1 + (qd (s.data.toList.take k)).length := by rw [← (unhide HG).len, uz_len]; simp; omega
    have hq2 := (qd_len (s.data.toList.take k)).1
    have hn2 : n ≤ 1 + 2 * k := by rw [List.length_take] at hq2; omega
    clear hnl hq2
    by_cases hlt : k < s.size
    case neg =>
      have hlti : ¬ (k : Int) < (s.size : Int) := by omega
      have HE : Hid (uz (39 :: qd (s.data.toList.take k)) ++ [39] = uz (quoteL s.data.toList)) := by
        show _ = _
        rw [List.take_of_length_le (by rw [← Lib.size_eq]; omega)]
        unfold quoteL qd uz
        simp
      go_wp2_with (first | (at_builtin; refine wpList_append_lies _ rfl _ _ 33 rfl w.heap.size 5 i0 (.int .u8 0) 1 1 Tryz.underlying33 hii hz0 hz1 hz2 rfl (by decide) _ _ _ rfl ((unhide HG).below ((Below.refl _ _).alloc (Nat.le_refl _) _)).own ⟨wr.heap.size, 0, none⟩ 1 1 ([39].map (Value.int .u8)) rfl rfl (RowB.new wr [39]).news (one_bytes _) (by omega) (by unfold maxLen; omega) (by omega) (by have := (unhide HG).low.size; simp; omega) (wr.heap.size + 1) (by simp) ?_; intro g' cap' w7 hown' hgrow hat hlt7; have HF7 := hide (GrowB.push ((unhide HG).below ((Below.refl _ _).alloc (Nat.le_refl _) _)) hown' hgrow); have HF8 : Hid (GrowB w w7 g' cap' (n + 1) (uz (quoteL s.data.toList))) := (by rw [← unhide HE]; exact unhide HF7); have hcv : (convert 33 9 (.slice (some ⟨g', 0, none⟩) (n + 1) cap')).run Tryz.prog w7 = .ok (.string ⟨(quoteL s.data.toList).toArray⟩) w7 := (by have hl8 := (unhide HF8).len; rw [uz_len] at hl8; have := conv_back (cap := cap') (w := w7) (b := g') (off := 0) (l := quoteL s.data.toList) (by rw [hl8]; exact (unhide HF8).row); rwa [hl8] at this); clear hgrow hat hown' hlt7 HF7))
      go_ret
      exact ⟨rfl, (unhide HF8).low⟩
    have hlti : (k : Int) < (s.size : Int) := by omega
    have hix := fun W => run_idx hlt W
    have hy8 := bt_lt s k
    have HQS := hide (qd_step hlt)
    obtain ⟨y, hy⟩ : ∃ y, bt s k = y := ⟨_, rfl⟩
    rw [hy] at hix hy8 HQS
    clear hy
    by_cases h39 : y = 39
    case pos =>
      subst h39
      have HE : Hid (uz (39 :: qd (s.data.toList.take k)) ++ [39] ++ [39] = uz (39 :: qd (s.data.toList.take (k + 1)))) := by
        show _ = _
        rw [unhide HQS, if_pos rfl]
        unfold uz
        simp
      go_wp2_with (first | (at_builtin; have hz9 := HF7; clear hz9; refine wpList_append_lies _ rfl _ _ 33 rfl w.heap.size 5 i0 (.int .u8 0) 1 1 Tryz.underlying33 hii hz0 hz1 hz2 rfl (by decide) _ _ _ rfl ((unhide HF7).below ((Below.refl _ _).alloc (Nat.le_refl _) _)).own ⟨w7.heap.size, 0, none⟩ 1 1 ([39].map (Value.int .u8)) rfl rfl (RowB.new w7 [39]).news (one_bytes _) (by omega) (by unfold maxLen; omega) (by omega) (by have := (unhide HF7).low.size; simp; omega) (w7.heap.size + 1) (by simp) ?_; intro g8 cap8 w8 hown' hgrow hat hlt7; have HF8 := hide (GrowB.push ((unhide HF7).below ((Below.refl _ _).alloc (Nat.le_refl _) _)) hown' hgrow); clear hgrow hat hown' hlt7) | (at_builtin; refine wpList_append_lies _ rfl _ _ 33 rfl w.heap.size 5 i0 (.int .u8 0) 1 1 Tryz.underlying33 hii hz0 hz1 hz2 rfl (by decide) _ _ _ rfl ((unhide HG).below ((Below.refl _ _).alloc (Nat.le_refl _) _)).own ⟨wr.heap.size, 0, none⟩ 1 1 ([39].map (Value.int .u8)) rfl rfl (RowB.new wr [39]).news (one_bytes _) (by omega) (by unfold maxLen; omega) (by omega) (by have := (unhide HG).low.size; simp; omega) (wr.heap.size + 1) (by simp) ?_; intro g' cap' w7 hown' hgrow hat hlt7; have HF7 := hide (GrowB.push ((unhide HG).below ((Below.refl _ _).alloc (Nat.le_refl _) _)) hown' hgrow); clear hgrow hat hown' hlt7))
      go_roundw
      case rel => exact ⟨g8, cap8, k + 1, n + 1 + 1, rfl, by go_num, by omega, by omega, by show GrowB _ _ _ _ _ _; rw [← unhide HE]; exact unhide HF8⟩
      case measure => simp [intOf]; omega
    have h39i : ¬ (y : Int) = 39 := by omega
    have HE : Hid (uz (39 :: qd (s.data.toList.take k)) ++ [(y : Int)] = uz (39 :: qd (s.data.toList.take (k + 1)))) := by
      show _ = _
      rw [unhide HQS, if_neg h39]
      unfold uz
      simp
      omega
    clear h39
    go_wp2_with (first | (at_builtin; refine wpList_append_lies _ rfl _ _ 33 rfl w.heap.size 5 i0 (.int .u8 0) 1 1 Tryz.underlying33 hii hz0 hz1 hz2 rfl (by decide) _ _ _ rfl ((unhide HG).below ((Below.refl _ _).alloc (Nat.le_refl _) _)).own ⟨wr.heap.size, 0, none⟩ 1 1 ([(y : Int)].map (Value.int .u8)) rfl rfl (RowB.new wr [(y : Int)]).news (one_bytes _) (by omega) (by unfold maxLen; omega) (by omega) (by have := (unhide HG).low.size; simp; omega) (wr.heap.size + 1) (by simp) ?_; intro g' cap' w7 hown' hgrow hat hlt7; have HF7 := hide (GrowB.push ((unhide HG).below ((Below.refl _ _).alloc (Nat.le_refl _) _)) hown' hgrow); clear hgrow hat hown' hlt7))
    go_roundw
    case rel => exact ⟨g', cap', k + 1, n + 1, rfl, by go_num, by omega, by omega, by show GrowB _ _ _ _ _ _; rw [← unhide HE]; exact unhide HF7⟩
    case measure => simp [intOf]; omega

end Go.Proofs.YtinndpnilmmmjaaGreatDoor
namespace Go.Proofs.YtinndpnilmmmjaaGreatDoor
open Go.RowKit

set_option maxRecDepth 20000 in
set_option maxHeartbeats 2000000 in
theorem l1Dec_pos (m : Nat) (hm : m ≤ 1000000000000000) (w : World) : Calls Tryz.prog 73 #[.int .i64 (m : Nat)] w fun e w' => e = .returned (.string (bstr (decZ m))) ∧ Below w.heap.size w w' := by
  have h0 : ¬ (m : Int) < 0 := by omega
  go_enter Tryz.func73, Tryz.ntmps73
  go_wp2_with fail
  go_loopw [0, 3] (fun a b wr => ∃ (x : Nat) (l : List Int), a = .int .i64 x ∧ b = .string (bstr l) ∧ x ≤ 1000000000000000 ∧ Hid (decZ m = decZ x ++ l) ∧ Hid (Below w.heap.size w wr)) (fun a _ _ => (intOf a).toNat)
  case atStart => exact ⟨m, [], rfl, rfl, hm, (by show _ = _; simp), Below.refl _ _⟩
  case round =>
    obtain ⟨x, l, rfl, rfl, hx, HK, HB⟩ := hrel
    by_cases h10 : x < 10
    · have h10i : ¬ (10 : Int) ≤ (x : Int) := by omega
      obtain ⟨A, hA⟩ : ∃ A, 48 + x = A := ⟨_, rfl⟩
      have eA : 48 + (x : Int) = (A : Int) := by omega
      have hA8 : A < 256 := by omega
      have wA : IntKind.u8.wrap (A : Int) = (A : Int) := byteN rfl hA8
      have hcv := conv_one wr A hA8
      have hln : l.length ≤ 16 := by
        have h1 := congrArg List.length (unhide HK)
        have h2 := decZ_le 15 m (by omega)
        rw [List.length_append] at h1
        omega
      have hno : ¬ 9223372036854775807 < (bstr [(A : Int)]).size + (bstr l).size := by rw [bstr_size, bstr_size]; simp; omega
      have hap : bstr [(A : Int)] ++ bstr l = bstr ((A : Int) :: l) := bstr_app _ _
      have HR : Hid (bstr ((A : Int) :: l) = bstr (decZ m)) := by show _ = _; rw [unhide HK, decZ_small h10, eA]; rfl
      have hsz := (unhide HB).size
      clear hA
      go_wp2_with fail
      go_ret
      exact ⟨by rw [unhide HR]; rfl, (unhide HB).alloc hsz _⟩
    · have h10i : (10 : Int) ≤ (x : Int) := by omega
      obtain ⟨y, hy⟩ : ∃ y, x / 10 = y := ⟨_, rfl⟩
      obtain ⟨r, hr⟩ : ∃ r, x % 10 = r := ⟨_, rfl⟩
      have ey : (x : Int).tdiv 10 = (y : Int) := by rw [Int.tdiv_eq_ediv_of_nonneg (by omega)]; omega
      have ey2 : (x : Int) / 10 = (y : Int) := by omega
      have er : (x : Int).tmod 10 = (r : Int) := by rw [Int.tmod_eq_emod_of_nonneg (by omega)]; omega
      have er2 : (x : Int) % 10 = (r : Int) := by omega
      obtain ⟨A, hA⟩ : ∃ A, 48 + r = A := ⟨_, rfl⟩
      have eA : 48 + (r : Int) = (A : Int) := by omega
      have hA8 : A < 256 := by omega
      have wA : IntKind.u8.wrap (A : Int) = (A : Int) := byteN rfl hA8
      have hcv := conv_one wr A hA8
      have hln : l.length ≤ 16 := by
        have h1 := congrArg List.length (unhide HK)
        have h2 := decZ_le 15 m (by omega)
        rw [List.length_append] at h1
        omega
      have hno : ¬ 9223372036854775807 < (bstr [(A : Int)]).size + (bstr l).size := by rw [bstr_size, bstr_size]; simp; omega
      have hap : bstr [(A : Int)] ++ bstr l = bstr ((A : Int) :: l) := bstr_app _ _
      have HN : Hid (decZ m = decZ y ++ ((A : Int) :: l)) := by show _ = _; rw [unhide HK, decZ_big h10, hy, hr, eA]; simp
      have hsz := (unhide HB).size
      have hyx : y < x := by omega
      clear hA hy hr
      go_wp2_with fail
      go_roundw
      case rel => exact ⟨y, (A : Int) :: l, by go_num, rfl, by omega, HN, (unhide HB).alloc hsz _⟩
      case measure => simp [intOf]; omega

theorem l1HighD_any (w : World) : Calls Tryz.prog 121 #[] w fun e w' => e = .returned (.string ⟨#[194, 175]⟩) ∧ w' = w := by
  go_enter Tryz.func121, Tryz.ntmps121
  go_wp2
  go_ret
  exact ⟨rfl, rfl⟩

set_option maxRecDepth 20000 in
set_option maxHeartbeats 2000000 in
theorem l1Dec_any (v : Int) (hv : -1000000000000000 ≤ v ∧ v ≤ 1000000000000000) (w : World) : Calls Tryz.prog 73 #[.int .i64 v] w fun e w' => e = .returned (.string (bstr (numT v))) ∧ Below w.heap.size w w' := by
  by_cases hn : v < 0
  · obtain ⟨m, rfl⟩ : ∃ m : Nat, v = -(m : Int) := ⟨v.natAbs, by omega⟩
    have hw : IntKind.i64.wrap (-(-(m : Int))) = (m : Int) := by rw [IntKind.wrap_i64]; omega
    have HR : Hid (bstr [194, 175] ++ bstr (decZ m) = bstr (numT (-(m : Int)))) := by
      show _ = _
      rw [bstr_app]
      unfold numT
      rw [if_pos hn]
      congr 2
      simp
    have hhigh : bstr [194, 175] = ⟨#[194, 175]⟩ := rfl
    have hno : ¬ 9223372036854775807 < (⟨#[194, 175]⟩ : ByteArray).size + (bstr (decZ m)).size := by
      have h2 := decZ_le 15 m (by omega)
      rw [← hhigh, bstr_size, bstr_size]
      simp
      omega
    have hc := l1Dec_pos m (by omega) w
    rw [hhigh] at HR
    have hmb : m ≤ 1000000000000000 := by omega
    clear hhigh hv
    go_enter Tryz.func73, Tryz.ntmps73
    go_wp2_with fail
    refine (l1HighD_any _).mono ?_
    rintro e w1 ⟨he, hw⟩
    subst hw
    subst he
    go_wp2_with fail
    refine hc.mono ?_
    rintro e w2 ⟨he, hb⟩
    subst he
    have HB := hide hb
    clear hb hc
    go_wp2_with fail
    go_ret
    exact ⟨by rw [← unhide HR]; rfl, unhide HB⟩
  · obtain ⟨m, rfl⟩ : ∃ m : Nat, v = (m : Int) := ⟨v.toNat, by omega⟩
    have e : numT (m : Int) = decZ m := by unfold numT; rw [if_neg hn]; simp
    rw [e]
    exact l1Dec_pos m (by omega) w

end Go.Proofs.YtinndpnilmmmjaaGreatDoor
namespace Go.Proofs.YtinndpnilmmmjaaGreatDoor
open Go.RowKit

theorem RowT.one {w : World} {g : Nat} {y : Tok} (h : RowT w (some ⟨g, 0, none⟩) 1 [y]) : w.cell? ⟨g, 0, none⟩ = some (.int .i64 y.k) ∧ w.cell? ⟨g, 1, none⟩ = some (.int .i64 y.n) ∧ w.cell? ⟨g, 2, none⟩ = some (.string y.t) ∧ w.cell? ⟨g, 3, none⟩ = some (.int .i64 (y.p : Nat)) := by
  obtain ⟨b, off, t, e, _, et, a0, a1, a2, a3⟩ := h.get (j := 0) (by omega)
  cases e
  have : y = t := by simpa using et
  subst this
  exact ⟨by simpa using a0, by simpa using a1, by simpa using a2, by simpa using a3⟩

set_option maxRecDepth 20000 in
set_option maxHeartbeats 4000000 in
theorem specTok_num (n at' : Int) (t : ByteArray) (w : World) (hn : -1000000000000000 ≤ n ∧ n ≤ 1000000000000000) :
    Calls Tryz.prog 55 #[.agg #[.int .i64 1, .int .i64 n, .string t, .int .i64 at']] w fun e w' => e = .returned (.string (if backB 1 n t (lexT (bstr (numT n))) = true then (bstr (numT n)) else ⟨#[]⟩)) ∧ Below w.heap.size w w' := by
  obtain ⟨x, hx⟩ : ∃ x : ByteArray, (bstr (numT n)) = x := ⟨_, rfl⟩
  rw [hx]
  obtain ⟨r, hr⟩ : ∃ r, lexT x = r := ⟨_, rfl⟩
  rw [hr]
  have HRR := hide hr
  obtain ⟨ts, cd, pl⟩ := r
  obtain ⟨res, hres⟩ : ∃ res, (if backB 1 n t (ts, cd, pl) = true then x else ⟨#[]⟩) = res := ⟨_, rfl⟩
  rw [hres]
  have HRES := hide hres
  clear hr hres
  obtain ⟨Q, hQ⟩ : ∃ Q, Q = w.alloc (.cells #[.int .i64 1, .int .i64 n, .string t, .int .i64 at'] 64) := ⟨_, rfl⟩
  have HQ := hide hQ
  have HXQ : Hid (TBox Q w.heap.size (.int .i64 1) (.int .i64 n) (.string t) (.int .i64 at')) := by rw [hQ]; exact TBox.new w _ _ _ _
  have HBQ : Hid (Below w.heap.size w Q) := by rw [hQ]; exact (Below.refl _ _).alloc (Nat.le_refl _) _
  clear hQ
  have hxs : x.size ≤ 21 := by rw [← hx, bstr_size]; exact (numT_parts n (by omega)).1
  have HD : Hid (∀ W, Calls Tryz.prog 73 #[.int .i64 n] W fun e w' => e = .returned (.string x) ∧ Below W.heap.size W w') := hide fun W => by rw [← hx]; exact l1Dec_any n hn W
  have hg1 : ¬ 1000000000000000 < n := by omega
  have hg2 : ¬ n < -1000000000000000 := by omega
  clear hx hn
  go_enter Tryz.func55, Tryz.ntmps55
  go_wp2_with (first | (go_at_call 73; refine (unhide HD _).mono ?_; rintro e w5 ⟨rfl, hb5⟩; rw [← unhide HQ] at hb5; have HB0 := hide ((unhide HBQ).trans (hb5.mono (unhide HBQ).size)); have HX0 := hide ((unhide HXQ).below (Nat.le_refl _) hb5); obtain ⟨cap, W1, hcv, hcap, hrow, hbW, hzW⟩ := conv_str w5 x; have HL := hide (specLex_any w5.heap.size 0 cap x W1 hrow (by omega)); have HB1 := hide ((unhide HB0).trans (hbW.mono (unhide HB0).size)); have HX1 := hide ((unhide HX0).below (Nat.le_refl _) hbW); clear hcap hrow hbW hzW hb5) | (go_at_call 42; refine (unhide HL).mono ?_; rintro e w6 ⟨g6, n6, c6, he, hR6, hb6⟩; rw [unhide HRR] at he hR6; have he' : e = .returned (.tuple #[.slice (some ⟨g6, 0, none⟩) n6 c6, .int .i64 cd, .int .i64 (pl : Nat)]) := he; subst he'; have HB6 := hide ((unhide HB1).trans (hb6.mono (unhide HB1).size)); have HX6 := hide ((unhide HX1).below (Nat.le_refl _) hb6); have HR6 : Hid (RowT w6 (some ⟨g6, 0, none⟩) n6 ts) := hR6; obtain ⟨q0, q1, q2, q3, f0, f1, f2, f3⟩ := (unhide HX6).all; clear he hR6 hb6))
  have HX6 := HX6
  by_cases hcd : cd = 0
  case neg =>
    have hd : (cd != 0) = true := by simpa using hcd
    have HE : Hid (backB 1 n t (ts, cd, pl) = false) := backB_code hcd
    clear hcd
    go_quiet (fail)
    go_wp2_with fail
    go_ret
    exact ⟨by rw [← unhide HRES, unhide HE]; rfl, Below.drewN (unhide HB6) _⟩
  subst hcd
  by_cases hn1 : n6 = 1
  case neg =>
    have hd : ((n6 : Int) != 1) = true := by simp; omega
    have HE : Hid (backB 1 n t (ts, 0, pl) = false) := backB_many (fun e => hn1 (by rw [← (unhide HR6).len]; exact e))
    clear hn1
    go_quiet (fail)
    go_wp2_with fail
    go_ret
    exact ⟨by rw [← unhide HRES, unhide HE]; rfl, Below.drewN (unhide HB6) _⟩
  subst hn1
  obtain ⟨y, rfl⟩ : ∃ y, ts = [y] := by
    have h := (unhide HR6).len
    match ts, h with
    | [y], _ => exact ⟨y, rfl⟩
  obtain ⟨y0, y1, y2, y3⟩ := (unhide HR6).one
  have HBB : Hid (backB 1 n t ([y], 0, pl) = (decide (y.k = 1) && decide (y.n = n) && decide (y.t = t))) := by show _ = _; unfold backB; simp
  obtain ⟨yk, yn, yt, yp⟩ := y
  by_cases e1 : yk = 1
  case neg =>
    have hd : (yk != 1) = true := by simpa using e1
    have HE : Hid (backB 1 n t ([⟨yk, yn, yt, yp⟩], 0, pl) = false) := by show _ = _; rw [unhide HBB, decide_eq_false e1]; rfl
    clear e1
    go_quiet (fail)
    go_wp2_with fail
    go_ret
    exact ⟨by rw [← unhide HRES, unhide HE]; rfl, Below.drewN (unhide HB6) _⟩
  subst e1
  by_cases e3 : yt = t
  case neg =>
    have hd := bytes_ne e3
    have HE : Hid (backB 1 n t ([⟨1, yn, yt, yp⟩], 0, pl) = false) := by show _ = _; rw [unhide HBB, decide_eq_false e3, Bool.and_false]
    clear e3
    go_quiet (fail)
    go_wp2_with fail
    go_ret
    exact ⟨by rw [← unhide HRES, unhide HE]; rfl, Below.drewN (unhide HB6) _⟩
  subst e3
  by_cases e2 : yn = n
  case neg =>
    have hd : (yn != n) = true := by simpa using e2
    have HE : Hid (backB 1 n yt ([⟨1, yn, yt, yp⟩], 0, pl) = false) := by show _ = _; rw [unhide HBB, decide_eq_false e2]; simp
    clear e2
    go_quiet (fail)
    go_wp2_with fail
    go_ret
    exact ⟨by rw [← unhide HRES, unhide HE]; rfl, Below.drewN (unhide HB6) _⟩
  subst e2
  have HE : Hid (backB 1 yn yt ([⟨1, yn, yt, yp⟩], 0, pl) = true) := by show _ = _; rw [unhide HBB]; simp
  go_quiet (fail)
  go_wp2_with fail
  go_ret
  exact ⟨by rw [← unhide HRES, unhide HE]; rfl, Below.drewN (unhide HB6) _⟩

set_option maxRecDepth 20000 in
set_option maxHeartbeats 4000000 in
theorem specTok_text (n at' : Int) (t : ByteArray) (w : World) (hn : t.size ≤ 2000) :
    Calls Tryz.prog 55 #[.agg #[.int .i64 2, .int .i64 n, .string t, .int .i64 at']] w fun e w' => e = .returned (.string (if backB 2 n t (lexT ⟨(quoteL t.data.toList).toArray⟩) = true then ⟨(quoteL t.data.toList).toArray⟩ else ⟨#[]⟩)) ∧ Below w.heap.size w w' := by
  obtain ⟨x, hx⟩ : ∃ x : ByteArray, ⟨(quoteL t.data.toList).toArray⟩ = x := ⟨_, rfl⟩
  rw [hx]
  obtain ⟨r, hr⟩ : ∃ r, lexT x = r := ⟨_, rfl⟩
  rw [hr]
  have HRR := hide hr
  obtain ⟨ts, cd, pl⟩ := r
  obtain ⟨res, hres⟩ : ∃ res, (if backB 2 n t (ts, cd, pl) = true then x else ⟨#[]⟩) = res := ⟨_, rfl⟩
  rw [hres]
  have HRES := hide hres
  clear hr hres
  obtain ⟨Q, hQ⟩ : ∃ Q, Q = w.alloc (.cells #[.int .i64 2, .int .i64 n, .string t, .int .i64 at'] 64) := ⟨_, rfl⟩
  have HQ := hide hQ
  have HXQ : Hid (TBox Q w.heap.size (.int .i64 2) (.int .i64 n) (.string t) (.int .i64 at')) := by rw [hQ]; exact TBox.new w _ _ _ _
  have HBQ : Hid (Below w.heap.size w Q) := by rw [hQ]; exact (Below.refl _ _).alloc (Nat.le_refl _) _
  clear hQ
  have hxs : x.size ≤ 4002 := by
    rw [← hx]
    show (quoteL t.data.toList).toArray.size ≤ 4002
    have := (qd_len t.data.toList).1
    rw [← Lib.size_eq] at this
    unfold quoteL
    unfold qd at this
    rw [List.size_toArray, List.length_cons, List.length_append]
    simp only [List.length_cons, List.length_nil]
    omega
  have HD : Hid (∀ W, Calls Tryz.prog 74 #[.string t] W fun e w' => e = .returned (.string x) ∧ Below W.heap.size W w') := hide fun W => by rw [← hx]; exact l1Quote_any t W (by omega)
  have hg1 : ¬ (2000 : Int) < (t.size : Int) := by omega
  clear hx hn
  go_enter Tryz.func55, Tryz.ntmps55
  go_wp2_with (first | (go_at_call 74; refine (unhide HD _).mono ?_; rintro e w5 ⟨rfl, hb5⟩; rw [← unhide HQ] at hb5; have HB0 := hide ((unhide HBQ).trans (hb5.mono (unhide HBQ).size)); have HX0 := hide ((unhide HXQ).below (Nat.le_refl _) hb5); obtain ⟨cap, W1, hcv, hcap, hrow, hbW, hzW⟩ := conv_str w5 x; have HL := hide (specLex_any w5.heap.size 0 cap x W1 hrow (by omega)); have HB1 := hide ((unhide HB0).trans (hbW.mono (unhide HB0).size)); have HX1 := hide ((unhide HX0).below (Nat.le_refl _) hbW); clear hcap hrow hbW hzW hb5) | (go_at_call 42; refine (unhide HL).mono ?_; rintro e w6 ⟨g6, n6, c6, he, hR6, hb6⟩; rw [unhide HRR] at he hR6; have he' : e = .returned (.tuple #[.slice (some ⟨g6, 0, none⟩) n6 c6, .int .i64 cd, .int .i64 (pl : Nat)]) := he; subst he'; have HB6 := hide ((unhide HB1).trans (hb6.mono (unhide HB1).size)); have HX6 := hide ((unhide HX1).below (Nat.le_refl _) hb6); have HR6 : Hid (RowT w6 (some ⟨g6, 0, none⟩) n6 ts) := hR6; obtain ⟨q0, q1, q2, q3, f0, f1, f2, f3⟩ := (unhide HX6).all; clear he hR6 hb6))
  have HX6 := HX6
  by_cases hcd : cd = 0
  case neg =>
    have hd : (cd != 0) = true := by simpa using hcd
    have HE : Hid (backB 2 n t (ts, cd, pl) = false) := backB_code hcd
    clear hcd
    go_quiet (fail)
    go_wp2_with fail
    go_ret
    exact ⟨by rw [← unhide HRES, unhide HE]; rfl, Below.drewN (unhide HB6) _⟩
  subst hcd
  by_cases hn1 : n6 = 1
  case neg =>
    have hd : ((n6 : Int) != 1) = true := by simp; omega
    have HE : Hid (backB 2 n t (ts, 0, pl) = false) := backB_many (fun e => hn1 (by rw [← (unhide HR6).len]; exact e))
    clear hn1
    go_quiet (fail)
    go_wp2_with fail
    go_ret
    exact ⟨by rw [← unhide HRES, unhide HE]; rfl, Below.drewN (unhide HB6) _⟩
  subst hn1
  obtain ⟨y, rfl⟩ : ∃ y, ts = [y] := by
    have h := (unhide HR6).len
    match ts, h with
    | [y], _ => exact ⟨y, rfl⟩
  obtain ⟨y0, y1, y2, y3⟩ := (unhide HR6).one
  have HBB : Hid (backB 2 n t ([y], 0, pl) = (decide (y.k = 2) && decide (y.n = n) && decide (y.t = t))) := by show _ = _; unfold backB; simp
  obtain ⟨yk, yn, yt, yp⟩ := y
  by_cases e1 : yk = 2
  case neg =>
    have hd : (yk != 2) = true := by simpa using e1
    have HE : Hid (backB 2 n t ([⟨yk, yn, yt, yp⟩], 0, pl) = false) := by show _ = _; rw [unhide HBB, decide_eq_false e1]; rfl
    clear e1
    go_quiet (fail)
    go_wp2_with fail
    go_ret
    exact ⟨by rw [← unhide HRES, unhide HE]; rfl, Below.drewN (unhide HB6) _⟩
  subst e1
  by_cases e3 : yt = t
  case neg =>
    have hd := bytes_ne e3
    have HE : Hid (backB 2 n t ([⟨2, yn, yt, yp⟩], 0, pl) = false) := by show _ = _; rw [unhide HBB, decide_eq_false e3, Bool.and_false]
    clear e3
    go_quiet (fail)
    go_wp2_with fail
    go_ret
    exact ⟨by rw [← unhide HRES, unhide HE]; rfl, Below.drewN (unhide HB6) _⟩
  subst e3
  by_cases e2 : yn = n
  case neg =>
    have hd : (yn != n) = true := by simpa using e2
    have HE : Hid (backB 2 n yt ([⟨2, yn, yt, yp⟩], 0, pl) = false) := by show _ = _; rw [unhide HBB, decide_eq_false e2]; simp
    clear e2
    go_quiet (fail)
    go_wp2_with fail
    go_ret
    exact ⟨by rw [← unhide HRES, unhide HE]; rfl, Below.drewN (unhide HB6) _⟩
  subst e2
  have HE : Hid (backB 2 yn yt ([⟨2, yn, yt, yp⟩], 0, pl) = true) := by show _ = _; rw [unhide HBB]; simp
  go_quiet (fail)
  go_wp2_with fail
  go_ret
  exact ⟨by rw [← unhide HRES, unhide HE]; rfl, Below.drewN (unhide HB6) _⟩

set_option maxRecDepth 20000 in
set_option maxHeartbeats 4000000 in
theorem specTok_other (k n at' : Int) (t : ByteArray) (w : World) (hk1 : k ≠ 1) (hk2 : k ≠ 2) (hs : t.size ≤ 1048576) :
    Calls Tryz.prog 55 #[.agg #[.int .i64 k, .int .i64 n, .string t, .int .i64 at']] w fun e w' => e = .returned (.string (if backB k n t (lexT t) = true then t else ⟨#[]⟩)) ∧ Below w.heap.size w w' := by
  obtain ⟨r, hr⟩ : ∃ r, lexT t = r := ⟨_, rfl⟩
  rw [hr]
  have HRR := hide hr
  obtain ⟨ts, cd, pl⟩ := r
  obtain ⟨res, hres⟩ : ∃ res, (if backB k n t (ts, cd, pl) = true then t else ⟨#[]⟩) = res := ⟨_, rfl⟩
  rw [hres]
  have HRES := hide hres
  clear hr hres
  obtain ⟨Q, hQ⟩ : ∃ Q, Q = w.alloc (.cells #[.int .i64 k, .int .i64 n, .string t, .int .i64 at'] 64) := ⟨_, rfl⟩
  have HQ := hide hQ
  have HXQ : Hid (TBox Q w.heap.size (.int .i64 k) (.int .i64 n) (.string t) (.int .i64 at')) := by rw [hQ]; exact TBox.new w _ _ _ _
  have HBQ : Hid (Below w.heap.size w Q) := by rw [hQ]; exact (Below.refl _ _).alloc (Nat.le_refl _) _
  clear hQ
  have e1 : (k == 1) = false := by simpa using hk1
  have e2 : (k == 2) = false := by simpa using hk2
  have HB0 := HBQ
  have HX0 := HXQ
  obtain ⟨cap, W1, hcv, hcap, hrow, hbW, hzW⟩ := conv_str Q t; have HL := hide (specLex_any Q.heap.size 0 cap t W1 hrow (by omega)); have HB1 := hide ((unhide HB0).trans (hbW.mono (unhide HB0).size)); have HX1 := hide ((unhide HX0).below (Nat.le_refl _) hbW)
  have hqz : Q.heap.size = w.heap.size + 1 := by rw [unhide HQ]; simp
  rw [hqz] at hcv HL
  rw [unhide HQ] at hcv
  clear hcap hrow hbW hzW hk1 hk2 hqz
  go_enter Tryz.func55, Tryz.ntmps55
  go_wp2_with (first | (go_at_call 42; refine (unhide HL).mono ?_; rintro e w6 ⟨g6, n6, c6, he, hR6, hb6⟩; rw [unhide HRR] at he hR6; have he' : e = .returned (.tuple #[.slice (some ⟨g6, 0, none⟩) n6 c6, .int .i64 cd, .int .i64 (pl : Nat)]) := he; subst he'; have HB6 := hide ((unhide HB1).trans (hb6.mono (unhide HB1).size)); have HX6 := hide ((unhide HX1).below (Nat.le_refl _) hb6); have HR6 : Hid (RowT w6 (some ⟨g6, 0, none⟩) n6 ts) := hR6; obtain ⟨q0, q1, q2, q3, f0, f1, f2, f3⟩ := (unhide HX6).all; clear he hR6 hb6))
  have HX6 := HX6
  by_cases hcd : cd = 0
  case neg =>
    have hd : (cd != 0) = true := by simpa using hcd
    have HE : Hid (backB k n t (ts, cd, pl) = false) := backB_code hcd
    clear hcd
    go_quiet (fail)
    go_wp2_with fail
    go_ret
    exact ⟨by rw [← unhide HRES, unhide HE]; rfl, Below.drewN (unhide HB6) _⟩
  subst hcd
  by_cases hn1 : n6 = 1
  case neg =>
    have hd : ((n6 : Int) != 1) = true := by simp; omega
    have HE : Hid (backB k n t (ts, 0, pl) = false) := backB_many (fun e => hn1 (by rw [← (unhide HR6).len]; exact e))
    clear hn1
    go_quiet (fail)
    go_wp2_with fail
    go_ret
    exact ⟨by rw [← unhide HRES, unhide HE]; rfl, Below.drewN (unhide HB6) _⟩
  subst hn1
  obtain ⟨y, rfl⟩ : ∃ y, ts = [y] := by
    have h := (unhide HR6).len
    match ts, h with
    | [y], _ => exact ⟨y, rfl⟩
  obtain ⟨y0, y1, y2, y3⟩ := (unhide HR6).one
  have HBB : Hid (backB k n t ([y], 0, pl) = (decide (y.k = k) && decide (y.n = n) && decide (y.t = t))) := by show _ = _; unfold backB; simp
  obtain ⟨yk, yn, yt, yp⟩ := y
  by_cases e1 : yk = k
  case neg =>
    have hd : (yk != k) = true := by simpa using e1
    have HE : Hid (backB k n t ([⟨yk, yn, yt, yp⟩], 0, pl) = false) := by show _ = _; rw [unhide HBB, decide_eq_false e1]; rfl
    clear e1
    go_quiet (fail)
    go_wp2_with fail
    go_ret
    exact ⟨by rw [← unhide HRES, unhide HE]; rfl, Below.drewN (unhide HB6) _⟩
  subst e1
  by_cases e3 : yt = t
  case neg =>
    have hd := bytes_ne e3
    have HE : Hid (backB yk n t ([⟨yk, yn, yt, yp⟩], 0, pl) = false) := by show _ = _; rw [unhide HBB, decide_eq_false e3, Bool.and_false]
    clear e3
    go_quiet (fail)
    go_wp2_with fail
    go_ret
    exact ⟨by rw [← unhide HRES, unhide HE]; rfl, Below.drewN (unhide HB6) _⟩
  subst e3
  by_cases e2 : yn = n
  case neg =>
    have hd : (yn != n) = true := by simpa using e2
    have HE : Hid (backB yk n yt ([⟨yk, yn, yt, yp⟩], 0, pl) = false) := by show _ = _; rw [unhide HBB, decide_eq_false e2]; simp
    clear e2
    go_quiet (fail)
    go_wp2_with fail
    go_ret
    exact ⟨by rw [← unhide HRES, unhide HE]; rfl, Below.drewN (unhide HB6) _⟩
  subst e2
  have HE : Hid (backB yk yn yt ([⟨yk, yn, yt, yp⟩], 0, pl) = true) := by show _ = _; rw [unhide HBB]; simp
  go_quiet (fail)
  go_wp2_with fail
  go_ret
  exact ⟨by rw [← unhide HRES, unhide HE]; rfl, Below.drewN (unhide HB6) _⟩

set_option maxRecDepth 20000 in
set_option maxHeartbeats 2000000 in
theorem specTok_big (n at' : Int) (t : ByteArray) (w : World) (hn : 1000000000000000 < n ∨ n < -1000000000000000) :
    Calls Tryz.prog 55 #[.agg #[.int .i64 1, .int .i64 n, .string t, .int .i64 at']] w fun e w' => e = .returned (.string ⟨#[]⟩) ∧ Below w.heap.size w w' := by
  by_cases h1 : 1000000000000000 < n
  · clear hn
    go_enter Tryz.func55, Tryz.ntmps55
    go_wp2_with fail
    go_ret
    exact ⟨rfl, (Below.refl _ _).alloc (Nat.le_refl _) _⟩
  · have h2 : n < -1000000000000000 := by omega
    clear hn
    go_enter Tryz.func55, Tryz.ntmps55
    go_wp2_with fail
    go_ret
    exact ⟨rfl, (Below.refl _ _).alloc (Nat.le_refl _) _⟩

set_option maxRecDepth 20000 in
set_option maxHeartbeats 2000000 in
theorem specTok_long (n at' : Int) (t : ByteArray) (w : World) (hn : 2000 < t.size) :
    Calls Tryz.prog 55 #[.agg #[.int .i64 2, .int .i64 n, .string t, .int .i64 at']] w fun e w' => e = .returned (.string ⟨#[]⟩) ∧ Below w.heap.size w w' := by
  have h1 : (2000 : Int) < (t.size : Int) := by omega
  go_enter Tryz.func55, Tryz.ntmps55
  go_wp2_with fail
  go_ret
  exact ⟨rfl, (Below.refl _ _).alloc (Nat.le_refl _) _⟩

end Go.Proofs.YtinndpnilmmmjaaGreatDoor
