import Derived.Test.YtgjpchnkodnieaaGreatDoorZv23
import Derived.Test.YtgjpchnkodnieaaGreatDoorZv25
import Derived.Test.YtgjpchnkodnieaaGreatDoorZv04
import Derived.Deep.RegionHeld3
import Derived.Deep.DeepCutAuto
import Derived.Deep.QuietTactic
import Derived.BigQuiet
import Derived.Test.YtgjpchnkodnieaaGreatDoorZv17
import Derived.Test.YtgjpchnkodnieaaGreatDoorZv08
namespace Go.Proofs.YtgjpchnkodnieaaGreatDoor
open Go.RowKit
set_option maxRecDepth 20000 in
set_option maxHeartbeats 8000000 in
theorem hasPart_any (c : Int) (sh st fr ns : List Int) (t1 t2 : Option Addr) (u1 u2 e1 e2 n : Nat) (hn : sh.length = n) (h5 : n ≤ 5) (hxb : ∀ k, 0 ≤ sh.getD k 0 ∧ sh.getD k 0 ≤ 10000) (f : Nat → Int) (hf : Hid (fl c sh st = f)) (w : World) (k1 : Row w t1 u1 fr) (k2 : Row w t2 u2 ns) (r : Bool) (hr : Hid ((decide (u1 = n ∧ u2 = n) && cutB sh fr ns n) = r)) :
    Calls Tryz.prog 90 #[lay f, .slice t1 u1 e1, .slice t2 u2 e2] w fun e w' => e = .returned (.bool r) ∧ Below w.heap.size w w' := by
  obtain ⟨p, hp⟩ : ∃ p, w.heap.size = p := ⟨_, rfl⟩
  obtain ⟨W, hW⟩ : ∃ W, w.alloc (objL f) = W := ⟨_, rfl⟩
  have HB : Hid (Below p w W) := by rw [← hW, ← hp]; exact (Below.refl _ _).alloc (Nat.le_refl _) _
  have HL : Hid (LBox W p f) := by rw [← hW, ← hp]; exact LBox.new w f
  have K1 : Hid (Row W t1 u1 fr) := k1.below (by rw [hp]; exact Nat.le_refl _) (unhide HB)
  have K2 : Hid (Row W t2 u2 ns) := k2.below (by rw [hp]; exact Nat.le_refl _) (unhide HB)
  have hc1' : W.cell? ⟨p, 1, none⟩ = some (.int .i64 n) := by rw [(unhide HL).at (by omega), ← unhide hf, fl_1, hn]
  have hlt := (unhide HL).lt
  have h5i : (n : Int) ≤ 5 := by omega
  have h0i : (0 : Int) ≤ n := by omega
  have HN := hide hn
  have HXB := hide hxb
  have HWE := hide hW
  have HPE := hide hp
  clear hn hxb hW hp k1 k2
  by_cases q1 : u1 = n
  · by_cases q2 : u2 = n
    · subst q1
      obtain rfl : u2 = u1 := q2
      go_enter Tryz.func90, Tryz.ntmps90
      go_upto_region 1 with fail
      rw [unhide HWE, unhide HPE]
      clear HWE
      go_wp2_with fail
      go_loopw [26] (fun i wr => ∃ k : Nat, k ≤ u2 ∧ i = .int .i64 k ∧ Hid (cutB sh fr ns k = true) ∧ Hid (Below W.heap.size W wr)) (fun i _ => u2 - (intOf i).toNat)
      case atStart => exact ⟨0, Nat.zero_le _, rfl, rfl, hide (Below.refl _ _)⟩
      case round =>
        obtain ⟨k, hk, rfl, hcb, hbw⟩ := hrel
        clear hc1'
        by_cases hin : k < u2
        · obtain ⟨b1, o1, rfl, hb1, cf⟩ := ((unhide K1).below (Nat.le_refl _) (unhide hbw)).get hin
          obtain ⟨b2, o2, rfl, hb2, cs⟩ := ((unhide K2).below (Nat.le_refl _) (unhide hbw)).get hin
          obtain ⟨fv, hfv⟩ : ∃ fv, fr.getD k 0 = fv := ⟨_, rfl⟩
          obtain ⟨sv, hsv⟩ : ∃ sv, ns.getD k 0 = sv := ⟨_, rfl⟩
          obtain ⟨x, hx⟩ : ∃ x, sh.getD k 0 = x := ⟨_, rfl⟩
          have cx : wr.cell? ⟨p, 2 + k, none⟩ = some (.int .i64 x) := by rw [((unhide HL).below (Nat.le_refl _) (unhide hbw)).at (by omega), ← unhide hf, fl_len _ _ _ (by omega), hx]
          rw [hfv] at cf
          rw [hsv] at cs
          have hxx := unhide HXB k
          rw [hx] at hxx
          have HONE : Hid (cutOne sh fr ns k = decide (0 ≤ fv ∧ 0 ≤ sv ∧ fv ≤ x ∧ sv ≤ x - fv)) := by show _ = _; unfold cutOne; rw [hfv, hsv, hx]
          have HNO : Hid (cutOne sh fr ns k = false → r = false) := fun h => by rw [← unhide hr, cutB_no hin h]; simp
          have hki : (k : Int) < u2 := by omega
          have hpl := ((unhide HL).below (Nat.le_refl _) (unhide hbw)).lt
          clear hfv hsv hx
          obtain ⟨rA, hrA⟩ : ∃ r, withinB fv 0 x = r := ⟨_, rfl⟩
          have HRA := hide hrA
          clear hrA
          cases rA with
          | false =>
            have HE : Hid (r = false) := unhide HNO (by rw [unhide HONE]; exact decide_eq_false (fun h => (of_decide_eq_false (unhide HRA)) ⟨h.1, h.2.2.1⟩))
            go_wp2_with fail
            go_quiet (first | (go_at_call 50; exact Calls.quiet_of_same (isWithin_eq fv 0 x _ _ HRA)))
            go_wp2_with fail
            go_ret
            exact ⟨ret_bool (unhide HE).symm, by rw [unhide HPE]; exact Below.drewN ((unhide HB).trans ((unhide hbw).mono (by omega))) _⟩
          | true =>
            have hA := of_decide_eq_true (unhide HRA)
            have hwx : IntKind.i64.wrap (x - fv) = x - fv := by rw [IntKind.wrap_i64]; omega
            obtain ⟨rB, hrB⟩ : ∃ r, withinB sv 0 (x - fv) = r := ⟨_, rfl⟩
            have HRB := hide hrB
            clear hrB
            cases rB with
            | false =>
              have HE : Hid (r = false) := unhide HNO (by rw [unhide HONE]; exact decide_eq_false (fun h => (of_decide_eq_false (unhide HRB)) ⟨h.2.1, h.2.2.2⟩))
              go_wp2_with fail
              go_quiet (first | (go_at_call_of 50 (Value.int .i64 fv); exact Calls.quiet_of_same (isWithin_eq fv 0 x _ _ HRA)) | (go_at_call_of 50 (Value.int .i64 sv); exact Calls.quiet_of_same (isWithin_eq sv 0 (x - fv) _ _ HRB)))
              go_wp2_with fail
              go_ret
              exact ⟨ret_bool (unhide HE).symm, by rw [unhide HPE]; exact Below.drewN ((unhide HB).trans ((unhide hbw).mono (by omega))) _⟩
            | true =>
              have hBq := of_decide_eq_true (unhide HRB)
              have HOK : Hid (cutB sh fr ns (k + 1) = true) := by
                show (cutB sh fr ns k && cutOne sh fr ns k) = true
                rw [unhide hcb, unhide HONE]
                exact decide_eq_true ⟨hA.1, hBq.1, hA.2, hBq.2⟩
              clear hBq
              go_wp2_with fail
              go_quiet (first | (go_at_call_of 50 (Value.int .i64 fv); exact Calls.quiet_of_same (isWithin_eq fv 0 x _ _ HRA)) | (go_at_call_of 50 (Value.int .i64 sv); exact Calls.quiet_of_same (isWithin_eq sv 0 (x - fv) _ _ HRB)))
              go_wp2_with fail
              go_roundw
              case rel => exact ⟨k + 1, by omega, by go_num, HOK, hide (Below.drewN (unhide hbw) _)⟩
              case measure => (simp [intOf] <;> omega)
        · obtain rfl : k = u2 := by omega
          have HE : Hid (r = true) := by show _ = _; rw [← unhide hr, unhide hcb]; simp
          go_wp2_with fail
          go_ret
          exact ⟨ret_bool (unhide HE).symm, by rw [unhide HPE]; exact (unhide HB).trans ((unhide hbw).mono (by omega))⟩
    · have g0 : ((u2 : Int) != (n : Int)) = true := by simp; omega
      have HE : Hid (r = false) := by rw [← unhide hr, decide_eq_false (fun h => q2 h.2)]; rfl
      subst q1
      clear q2
      go_enter Tryz.func90, Tryz.ntmps90
      go_upto_region 1 with fail
      rw [unhide HWE, unhide HPE]
      clear HWE
      go_wp2_with fail
      go_ret
      exact ⟨ret_bool (unhide HE).symm, by rw [unhide HPE]; exact unhide HB⟩
  · have g0 : ((u1 : Int) != (n : Int)) = true := by simp; omega
    have HE : Hid (r = false) := by rw [← unhide hr, decide_eq_false (fun h => q1 h.1)]; rfl
    clear q1
    go_enter Tryz.func90, Tryz.ntmps90
    go_upto_region 1 with fail
    rw [unhide HWE, unhide HPE]
    clear HWE
    go_wp2_with fail
    go_ret
    exact ⟨ret_bool (unhide HE).symm, by rw [unhide HPE]; exact unhide HB⟩
set_option maxRecDepth 20000 in
set_option maxHeartbeats 8000000 in
theorem part_any (c : Int) (sh st fr ns : List Int) (t1 t2 : Option Addr) (e1 e2 n : Nat) (hn : sh.length = n) (h5 : n ≤ 5) (hcb : -10000 ≤ c ∧ c ≤ 10000) (hxb : ∀ k, sh.getD k 0 ≤ 10000) (hyb : ∀ k, -10000 ≤ st.getD k 0 ∧ st.getD k 0 ≤ 10000) (hcut : cutB sh fr ns n = true) (f : Nat → Int) (hf : Hid (fl c sh st = f)) (w : World) (k1 : Row w t1 n fr) (k2 : Row w t2 n ns) :
    Calls Tryz.prog 91 #[lay f, .slice t1 n e1, .slice t2 n e2] w fun e w' => e = .returned (lay (fl (offN c fr st n) ns st)) ∧ Below w.heap.size w w' := by
  obtain ⟨p, hp⟩ : ∃ p, w.heap.size = p := ⟨_, rfl⟩
  obtain ⟨B0, B1, hB⟩ := lays2 w f
  obtain ⟨W, hW⟩ : ∃ W, ((w.alloc (objL f)).alloc objZ) = W := ⟨_, rfl⟩
  rw [hW, hp] at B0 B1 hB
  have HL0 : Hid (LBox W p (fl (offN c fr st 0) sh st)) := by show LBox W p (fl c sh st); rw [unhide hf]; exact B0
  have HZ := hide B1
  have HB := hide hB
  have K1 : Hid (Row W t1 n fr) := k1.below (by rw [hp]; exact Nat.le_refl _) hB
  have K2 : Hid (Row W t2 n ns) := k2.below (by rw [hp]; exact Nat.le_refl _) hB
  have KP1 : Hid (∀ k, At t1 n k → k < p) := fun k hk => by rw [← hp]; exact k1.hi hk
  have KP2 : Hid (∀ k, At t2 n k → k < p) := fun k hk => by rw [← hp]; exact k2.hi hk
  have hpz := B1.lt
  have hl2 := hide k2.len
  have HN := hide hn
  have HXB := hide hxb
  have HYB := hide hyb
  have HCB := hide hcb
  have HCT := hide hcut
  have HWE := hide hW
  have HPE := hide hp
  have hsz : (Tryz.prog.info? 3).map (·.size) = some 1 := by kernel_rfl
  clear hn hxb hyb hcb hcut hW hp k1 k2 B0 B1 hB
  go_enter Tryz.func91, Tryz.ntmps91
  go_upto_region 1 with fail
  rw [unhide HWE, unhide HPE]
  clear HWE
  go_wp2_with fail
  go_loopw [11] (fun i wr => ∃ k : Nat, k ≤ n ∧ i = .int .i64 k ∧ Hid (LBox wr p (fl (offN c fr st k) sh st)) ∧ Hid (But (fun x => x = p) W wr)) (fun i _ => n - (intOf i).toNat)
  case atStart => exact ⟨0, Nat.zero_le _, rfl, HL0, hide (But.refl _ _)⟩
  case round =>
    obtain ⟨k, hk, rfl, hb, hbut⟩ := hrel
    by_cases hin : k < n
    · obtain ⟨b1, o1, rfl, hb1, cf⟩ := ((unhide hbut).row (unhide K1) (by rintro x rfl h; have := unhide KP1 _ h; omega)).get hin
      obtain ⟨fv, hfv⟩ : ∃ fv, fr.getD k 0 = fv := ⟨_, rfl⟩
      obtain ⟨y, hy⟩ : ∃ y, st.getD k 0 = y := ⟨_, rfl⟩
      obtain ⟨ov, hov⟩ : ∃ ov, offN c fr st k = ov := ⟨_, rfl⟩
      have hone := cutB_le (unhide HCT) (show k + 1 ≤ n by omega)
      simp only [cutB, Bool.and_eq_true] at hone
      have hof := of_decide_eq_true (show decide _ = true from hone.2)
      have hxk := unhide HXB k
      have hyk := unhide HYB k
      have hob := offN_bd (unhide HCB) (unhide HXB) (unhide HYB) hone.1
      have cy : wr.cell? ⟨p, 7 + k, none⟩ = some (.int .i64 y) := by rw [(unhide hb).at (by omega), fl_str, hy]
      have co : wr.cell? ⟨p, 0, none⟩ = some (.int .i64 ov) := by rw [(unhide hb).at (by omega), fl_0, hov]
      have ff := (unhide hb).free 0
      have hlr := (unhide hb).lt
      rw [hfv] at cf hof
      rw [hy] at hyk
      rw [hov] at hob
      have hm := prod_bd (f := fv) (y := y) ⟨hof.1, by omega⟩ hyk
      obtain ⟨m, hmm⟩ : ∃ m, m = fv * y := ⟨_, rfl⟩
      rw [← hmm] at hm
      have hobn : -600000000 ≤ ov ∧ ov ≤ 600000000 := by omega
      have hw1 : IntKind.i64.wrap (fv * y) = m := by rw [← hmm, IntKind.wrap_i64]; omega
      have hw2 : IntKind.i64.wrap (ov + m) = ov + m := by rw [IntKind.wrap_i64]; omega
      have HN1 := hide ((unhide hb).set (i := 0) (by omega) (ov + m))
      rw [fl_off] at HN1
      have HOF : Hid (offN c fr st (k + 1) = ov + m) := by show offN c fr st k + fr.getD k 0 * st.getD k 0 = _; rw [hov, hfv, hy, hmm]
      have hki : (k : Int) < 5 := by omega
      have hk0 : (0 : Int) ≤ k := by omega
      have hkn : (k : Int) < n := by omega
      clear hfv hy hov hone hof hxk hyk hob hm hmm
      obtain ⟨wo, hwo⟩ : ∃ x, x = wr := ⟨_, rfl⟩
      subst hwo
      go_upto_region 4 with fail
      have HQ : Hid (∀ wx, wx = (wo.setCell ⟨p, 0, none⟩ (.int .i64 (ov + m))).drew → LBox wx p (fl (offN c fr st (k + 1)) sh st)) := fun wx h => by rw [h, unhide HOF]; exact (unhide HN1).drew
      have HBU : Hid (∀ wx, wx = (wo.setCell ⟨p, 0, none⟩ (.int .i64 (ov + m))).drew → But (fun x => x = p) W wx) := fun wx h => by rw [h]; exact ((unhide hbut).setCell (p := ⟨p, 0, none⟩) rfl _).drew
      go_region
      all_goals go_wp2_with fail
      all_goals go_roundw
      all_goals first
        | (case rel => exact ⟨k + 1, by omega, by go_num, unhide HQ _ rfl, unhide HBU _ rfl⟩)
        | skip
      all_goals first
        | (case measure => (simp [intOf] <;> omega))
        | skip
    · obtain rfl : k = n := by omega
      have KZ := hide ((unhide HZ).but (unhide hbut) (by show ¬ (p + 1 = p); omega))
      have KB := hide ((unhide HB).trans ((unhide hbut).below (B := p) (by omega) (fun x hx => by omega)))
      have KR := hide ((unhide hbut).row (unhide K2) (by rintro x rfl h; have := unhide KP2 _ h; omega))
      have KL := hb
      obtain ⟨w6, hw6⟩ : ∃ x, x = wr := ⟨_, rfl⟩
      subst hw6
      clear hb hbut HZ HB HL0 K1 K2
      have HMN : Hid ((ns.map (Value.int .i64)).length = Nat.min k 5) := by show _ = _; rw [List.length_map, unhide hl2]; exact (Nat.min_eq_left h5).symm
      have HMF : Hid (2 + (ns.map (Value.int .i64)).length ≤ 12) := by show _ ≤ _; rw [List.length_map, unhide hl2]; omega
      have HC := hide (row_src (unhide KR))
      go_upto_region 6 with fail
      go_cut [] (fun wx => LBox wx p (fl (offN c fr st k) ns st) ∧ LBox wx (p + 1) (fun _ => 0) ∧ Below p w wx)
      case first =>
        go_wp2_with (refine wpList_copy_but rfl (.tmp 28) (.tmp 29) rfl hsz _ _ _ _ _ _ rfl rfl p 2 _ 101 (unhide KL) (ns.map (Value.int .i64)) (unhide HMN) (fun h => ⟨rfl, unhide HC h⟩) (unhide HMF) (one_ints ns) ?_; intro w4 hg4 hb4; have HG4 : Hid (LBox w4 p (fl (offN c fr st k) ns st)) := (LBox.splice2 hg4.out (by rw [unhide hl2]; omega)).congr (fun i _ => fl_copyl _ sh st ns (by rw [unhide hl2, unhide HN]) (by rw [unhide hl2]; omega) i); have HB4 := hide hb4; clear hg4 hb4)
        go_meet
        case rel => exact ⟨unhide HG4, (unhide KZ).but (unhide HB4) (by show ¬ (p + 1 = p); omega), (unhide KB).trans ((unhide HB4).below (B := p) (by have := (unhide KZ).lt; omega) (fun k hk => by omega))⟩
      case rest =>
        obtain ⟨w7, hw7⟩ : ∃ x, x = wc := ⟨_, rfl⟩
        subst hw7
        obtain ⟨hq1, hq2, hq3⟩ := hcut
        have HB5 := hide hq3
        generalize hff : fl (offN c fr st k) ns st = g at *
        have HFF := hide hff
        obtain ⟨x0, x1, x2, x3, x4, x5, x6, x7, x8, x9, x10, x11, y0, y1, y2, y3, y4, y5, y6, y7, y8, y9, y10, y11, xl⟩ := hq1.all
        obtain ⟨z0, z1, z2, z3, z4, z5, z6, z7, z8, z9, z10, z11, f0, f1, f2, f3, f4, f5, f6, f7, f8, f9, f10, f11, zl⟩ := hq2.all
        clear hff hq1 hq2 hq3 KZ KB KR KL HMN HMF HC
        go_wp2_with fail
        refine bodyPost_ret (v := lay g) (by simp [results, Tryz.results91, go_sem, z0, z1, z2, z3, z4, z5, z6, z7, z8, z9, z10, z11]) rfl ?_
        exact ⟨by rw [← unhide HFF], by rw [unhide HPE]; exact Below.sets12 (unhide HB5) (by omega) g⟩
end Go.Proofs.YtgjpchnkodnieaaGreatDoor
namespace Go.Proofs.YtgjpchnkodnieaaGreatDoor
open Go.RowKit
set_option maxRecDepth 20000 in
set_option maxHeartbeats 4000000 in
theorem turned_any (c : Int) (sh st ps : List Int) (t : Option Addr) (n e1 : Nat) (hn : sh.length = n) (hs : st.length = n) (h5 : n ≤ 5) (hord : orderOk ps n n = true) (f : Nat → Int) (hf : Hid (fl c sh st = f)) (w : World) (hp : Row w t n ps) :
    Calls Tryz.prog 86 #[lay f, .slice t n e1] w fun e w' => e = .returned (lay (fl c (turnN ps sh n n) (turnN ps st n n))) ∧ Below w.heap.size w w' := by
  obtain ⟨p, hpp⟩ : ∃ p, w.heap.size = p := ⟨_, rfl⟩
  obtain ⟨B0, B1, hB⟩ := lays2 w f
  obtain ⟨W, hW⟩ : ∃ W, ((w.alloc (objL f)).alloc objZ) = W := ⟨_, rfl⟩
  rw [hW, hpp] at B0 B1 hB
  obtain ⟨S1, hS1⟩ : ∃ s, turnN ps sh n n = s := ⟨_, rfl⟩
  obtain ⟨S2, hS2⟩ : ∃ s, turnN ps st n n = s := ⟨_, rfl⟩
  have hl1 : S1.length = n := by rw [← hS1, turnN_len]
  have hl2 : S2.length = n := by rw [← hS2, turnN_len]
  have HL : Hid (LBox W p (fl c sh st)) := by rw [unhide hf]; exact B0
  have HZ := hide B1
  have HB := hide hB
  have HO := hide hord
  have HPR : Hid (∀ wx, Below p w wx → Row wx t n ps) := fun wx h => hp.below (by rw [hpp]; exact Nat.le_refl _) h
  have HN := hide hn
  have HS := hide hs
  have HL1 := hide hl1
  have HL2 := hide hl2
  have HWE := hide hW
  have HPE := hide hpp
  have hpz := B1.lt
  have hsz : (Tryz.prog.info? 3).map (·.size) = some 1 := by kernel_rfl
  have h5i : (n : Int) ≤ 5 := by omega
  have h0i : (0 : Int) ≤ n := by omega
  have HQ1 : Hid (∀ (a : Option Addr) (c1 : Nat) (w0 : World), Row w0 a n sh → Row w0 t n ps → Calls Tryz.prog 60 #[.slice a n c1, .slice t n e1] w0 fun e w' => ∃ g, e = .returned (.slice (some ⟨g, 0, none⟩) n n) ∧ w0.heap.size ≤ g ∧ Blk w' g S1 ∧ Below w0.heap.size w0 w') := fun a c1 w0 k1 k2 => by
    have := inOrder_any a t n c1 e1 sh ps w0 k1 k2 h5 hord
    rwa [hS1] at this
  have HQ2 : Hid (∀ (a : Option Addr) (c1 : Nat) (w0 : World), Row w0 a n st → Row w0 t n ps → Calls Tryz.prog 60 #[.slice a n c1, .slice t n e1] w0 fun e w' => ∃ g, e = .returned (.slice (some ⟨g, 0, none⟩) n n) ∧ w0.heap.size ≤ g ∧ Blk w' g S2 ∧ Below w0.heap.size w0 w') := fun a c1 w0 k1 k2 => by
    have := inOrder_any a t n c1 e1 st ps w0 k1 k2 h5 hord
    rwa [hS2] at this
  rw [hS1, hS2]
  clear hn hs hord hp hpp hW B0 B1 hB hl1 hl2 hS1 hS2
  go_enter Tryz.func86, Tryz.ntmps86
  go_upto_region 1 with fail
  rw [unhide HWE, unhide HPE]
  clear HWE
  have HRK : Hid (∀ wx, Below W.heap.size W wx → wx.cell? ⟨p, 1, none⟩ = some (.int .i64 n)) := fun wx h => by rw [((unhide HL).below (Nat.le_refl _) h).at (by omega), fl_1, unhide HN]
  have HRW : Hid (∀ wx, Below W.heap.size W wx → Row wx (some ⟨p, 2, none⟩) n sh) := fun wx h => ((unhide HL).below (Nat.le_refl _) h).row sh (unhide HN) 2 (by omega) (fun i hi => fl_len c sh st (by omega))
  have HRP : Hid (∀ wx, Below W.heap.size W wx → Row wx t n ps) := fun wx h => unhide HPR wx ((unhide HB).trans (h.mono (by omega)))
  have HMN : Hid ((S1.map (Value.int .i64)).length = Nat.min n 5) := by show _ = _; rw [List.length_map, unhide HL1]; exact (Nat.min_eq_left h5).symm
  have HMF : Hid (2 + (S1.map (Value.int .i64)).length ≤ 12) := by show _ ≤ _; rw [List.length_map, unhide HL1]; omega
  go_cut [] (fun wx => LBox wx p (fl c S1 st) ∧ LBox wx (p + 1) (fun _ => 0) ∧ Below p w wx)
  case first =>
    go_region_held3 (fun wx => wx.cell? ⟨p, 1, none⟩ = some (.int .i64 n))
      (first | exact unhide HK4 | exact unhide HRK _ hKA | exact unhide HRK _ (Below.refl _ _).drew)
      (first
      | (go_at_call 60; refine (unhide HQ1 _ _ _ (unhide HRW _ (Below.refl _ _).drew) (unhide HRP _ (Below.refl _ _).drew)).mono ?_; rintro e wA ⟨g, rfl, hg, hbk, hbA⟩; have hKA : Below W.heap.size W wA := (Below.refl _ _).drew.trans hbA; have HC : Hid (0 < (S1.map (Value.int .i64)).length → ∃ ad, (some ⟨g, 0, none⟩ : Option Addr) = some ad ∧ ∀ j v, (S1.map (Value.int .i64))[j]? = some v → wA.cell? (ad.add j) = some v) := row_src (hbk.row (unhide HL1) (by omega)); clear hbA hbk)
      | (refine step_copy_but rfl (.tmp 6) (.tmp 12) rfl hsz _ _ _ _ _ _ rfl rfl p 2 _ 101 ((unhide HL).below (Nat.le_refl _) hKA) (S1.map (Value.int .i64)) (unhide HMN) (fun h => ⟨rfl, unhide HC h⟩) (unhide HMF) (one_ints S1) ?_; intro w4 hg4 hb4; have HG4 : Hid (LBox w4 p (fl c S1 st)) := (LBox.splice2 hg4.out (by rw [unhide HL1]; omega)).congr (fun i _ => fl_copyl c sh st S1 (by rw [unhide HL1, unhide HN]) (by rw [unhide HL1]; omega) i); have HK4 : Hid (w4.cell? ⟨p, 1, none⟩ = some (.int .i64 n)) := (by show _ = _; rw [(unhide HG4).at (by omega), fl_1, unhide HL1]); have HB4 := hide hb4; clear hg4 hb4))
    all_goals go_wp2_with fail
    all_goals go_meet
    all_goals case rel => exact ⟨unhide HG4, ((unhide HZ).below (Nat.le_refl _) hKA).but (unhide HB4) (by show ¬ (p + 1 = p); omega), ((unhide HB).trans (hKA.mono (by omega))).trans ((unhide HB4).below (B := p) (by have := hKA.size; omega) (fun k hk => by omega))⟩
  case rest =>
    obtain ⟨w3, hw3⟩ : ∃ x, x = wc := ⟨_, rfl⟩
    subst hw3
    obtain ⟨hq1, hq2, hq3⟩ := hcut
    have JL := hide hq1
    have JZ := hide hq2
    have JB := hide hq3
    have hpz3 := hq2.lt
    clear hq1 hq2 hq3 HL HZ HB HRK HRW HRP HMN HMF hpz W
    have HRK : Hid (∀ wx, Below w3.heap.size w3 wx → wx.cell? ⟨p, 1, none⟩ = some (.int .i64 n)) := fun wx h => by rw [((unhide JL).below (Nat.le_refl _) h).at (by omega), fl_1, unhide HL1]
    have HRW : Hid (∀ wx, Below w3.heap.size w3 wx → Row wx (some ⟨p, 7, none⟩) n st) := fun wx h => ((unhide JL).below (Nat.le_refl _) h).row st (unhide HS) 7 (by omega) (fun i hi => fl_str c S1 st i)
    have HRP : Hid (∀ wx, Below w3.heap.size w3 wx → Row wx t n ps) := fun wx h => unhide HPR wx ((unhide JB).trans (h.mono (by omega)))
    have HMN : Hid ((S2.map (Value.int .i64)).length = Nat.min n 5) := by show _ = _; rw [List.length_map, unhide HL2]; exact (Nat.min_eq_left h5).symm
    have HMF : Hid (7 + (S2.map (Value.int .i64)).length ≤ 12) := by show _ ≤ _; rw [List.length_map, unhide HL2]; omega
    go_upto_region 2 with fail
    go_cut [] (fun wx => LBox wx p (fl c S1 S2) ∧ LBox wx (p + 1) (fun _ => 0) ∧ Below p w wx)
    case first =>
      go_region_held3 (fun wx => wx.cell? ⟨p, 1, none⟩ = some (.int .i64 n))
        (first | exact unhide HK4 | exact unhide HRK _ hKA | exact unhide HRK _ (Below.refl _ _).drew)
        (first
        | (go_at_call 60; refine (unhide HQ2 _ _ _ (unhide HRW _ (Below.refl _ _).drew) (unhide HRP _ (Below.refl _ _).drew)).mono ?_; rintro e wA ⟨g, rfl, hg, hbk, hbA⟩; have hKA : Below w3.heap.size w3 wA := (Below.refl _ _).drew.trans hbA; have HC : Hid (0 < (S2.map (Value.int .i64)).length → ∃ ad, (some ⟨g, 0, none⟩ : Option Addr) = some ad ∧ ∀ j v, (S2.map (Value.int .i64))[j]? = some v → wA.cell? (ad.add j) = some v) := row_src (hbk.row (unhide HL2) (by omega)); clear hbA hbk)
        | (refine step_copy_but rfl (.tmp 15) (.tmp 21) rfl hsz _ _ _ _ _ _ rfl rfl p 7 _ 101 ((unhide JL).below (Nat.le_refl _) hKA) (S2.map (Value.int .i64)) (unhide HMN) (fun h => ⟨rfl, unhide HC h⟩) (unhide HMF) (one_ints S2) ?_; intro w4 hg4 hb4; have HG4 : Hid (LBox w4 p (fl c S1 S2)) := (LBox.splice7 hg4.out (by rw [unhide HL2]; omega)).congr (fun i _ => fl_copys c S1 st S2 (by rw [unhide HL2, unhide HS]; exact Nat.le_refl _) i); have HK4 : Hid (w4.cell? ⟨p, 1, none⟩ = some (.int .i64 n)) := (by show _ = _; rw [(unhide HG4).at (by omega), fl_1, unhide HL1]); have HB4 := hide hb4; clear hg4 hb4))
      all_goals go_wp2_with fail
      all_goals go_meet
      all_goals case rel => exact ⟨unhide HG4, ((unhide JZ).below (Nat.le_refl _) hKA).but (unhide HB4) (by show ¬ (p + 1 = p); omega), ((unhide JB).trans (hKA.mono (by omega))).trans ((unhide HB4).below (B := p) (by have := hKA.size; omega) (fun k hk => by omega))⟩
    case rest =>
      obtain ⟨w5, hw5⟩ : ∃ x, x = wc := ⟨_, rfl⟩
      subst hw5
      obtain ⟨hq1, hq2, hq3⟩ := hcut
      have HB5 := hide hq3
      generalize hff : fl c S1 S2 = g at *
      have HFF := hide hff
      obtain ⟨x0, x1, x2, x3, x4, x5, x6, x7, x8, x9, x10, x11, y0, y1, y2, y3, y4, y5, y6, y7, y8, y9, y10, y11, xl⟩ := hq1.all
      obtain ⟨z0, z1, z2, z3, z4, z5, z6, z7, z8, z9, z10, z11, f0, f1, f2, f3, f4, f5, f6, f7, f8, f9, f10, f11, zl⟩ := hq2.all
      clear hff hq1 hq2 hq3 JL JZ JB HRK HRW HRP HMN HMF
      go_wp2_with fail
      refine bodyPost_ret (v := lay g) (by simp [results, Tryz.results86, go_sem, z0, z1, z2, z3, z4, z5, z6, z7, z8, z9, z10, z11]) rfl ?_
      exact ⟨by rw [← unhide HFF], by rw [unhide HPE]; exact Below.sets12 (unhide HB5) (by omega) g⟩
end Go.Proofs.YtgjpchnkodnieaaGreatDoor
namespace Go.Proofs.YtgjpchnkodnieaaGreatDoor
open Go.RowKit Go.Shelf
def ABox (w : World) (p B L A : Nat) (v : Value) : Prop := w.heap[p]? = some (.cells #[.int .i64 (B : Nat), .int .i64 (L : Nat), .int .i64 (A : Nat), v] 133 (0, 0))
theorem ABox.lt {w : World} {p B L A : Nat} {v : Value} (h : ABox w p B L A v) : p < w.heap.size := lt_of_block h
theorem ABox.cells {w : World} {p B L A : Nat} {v : Value} (h : ABox w p B L A v) : w.cell? ⟨p, 0, none⟩ = some (.int .i64 (B : Nat)) ∧ w.cell? ⟨p, 1, none⟩ = some (.int .i64 (L : Nat)) ∧ w.cell? ⟨p, 2, none⟩ = some (.int .i64 (A : Nat)) ∧ w.cell? ⟨p, 3, none⟩ = some v := ⟨cell_of_row _ _ 0 _ _ _ h, cell_of_row _ _ 1 _ _ _ h, cell_of_row _ _ 2 _ _ _ h, cell_of_row _ _ 3 _ _ _ h⟩
theorem ABox.below {w w' : World} {p B L A K : Nat} {v : Value} (h : ABox w p B L A v) (hB : w.heap.size ≤ K) (hb : Below K w w') : ABox w' p B L A v := (hb.block p (Nat.lt_of_lt_of_le h.lt hB)).trans h
theorem ABox.alloc {w : World} {p B L A : Nat} {v : Value} (h : ABox w p B L A v) (o : Obj) : ABox (w.alloc o) p B L A v := (Below.heap_alloc w o p h.lt).trans h
end Go.Proofs.YtgjpchnkodnieaaGreatDoor
