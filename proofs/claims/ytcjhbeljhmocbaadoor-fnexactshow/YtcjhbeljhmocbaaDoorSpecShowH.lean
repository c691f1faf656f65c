import Derived.Test.YtcjhbeljhmocbaaDoorSpecShow
import Derived.Test.YtcjhbeljhmocbaaDoorMMath
namespace Go.Proofs.YtcjhbeljhmocbaaDoor
open Go.RowKit

theorem GrowB.but {S : Nat → Prop} {Q V Z : World} {g cap j : Nat} {zs : List Int} (h : GrowB Q V g cap j zs) (hb : But S V Z) (hs : ¬ S g) (hl : ∀ k, S k → Q.heap.size ≤ k) : GrowB Q Z g cap j zs := by
  refine ⟨⟨h.own.1, ?_⟩, h.low.trans (hb.below h.low.size hl)⟩
  rcases h.own.2 with h' | ⟨g', cap', cur, e, h3, h4, h5⟩
  · exact .inl h'
  · cases e
    exact .inr ⟨g, cap, cur, rfl, h3, (hb.block g (lt_of_block h4) hs).trans h4, h5⟩

theorem GrowF.trans {Q Z wx w5 : World} {g g1 g' cap cap' j j' : Nat} {zs zs' : List Int} (h : GrowF Q Z g wx g1 cap j zs) (k : GrowF Q wx g1 w5 g' cap' j' zs') : GrowF Q Z g w5 g' cap' j' zs' := by
  refine ⟨k.grow, ⟨k.but.os.trans h.but.os, k.but.tape.trans h.but.tape, k.but.output.trans h.but.output, Nat.le_trans h.but.size k.but.size, fun q hq hn => (k.but.block q (by have := h.but.size; omega) (fun e => ?_)).trans (h.but.block q hq hn)⟩, ?_⟩
  · rcases h.at_ with h1 | h1
    · exact hn (by rw [e, h1])
    · omega
  · have := h.but.size
    rcases k.at_ with h1 | h1
    · rw [h1]; exact h.at_
    · right; omega

theorem Row.sub {w : World} {b o n N R r : Nat} {dt : List Int} (h : Row w (some ⟨b, o, none⟩) n dt) (hl : n = R * N) (hr : r < R) : Row w (some ⟨b, o + r * N, none⟩) N (rowAt dt N r) := by
  have hle : (r + 1) * N ≤ R * N := Nat.mul_le_mul_right N hr
  rw [Nat.add_mul, Nat.one_mul, ← hl] at hle
  refine ⟨rowAt_len (h.len.trans hl) hr, by have := h.small; omega, ?_⟩
  rcases h.at_ with h0 | ⟨b', o', e, hlt, hc⟩
  · exact .inl (by omega)
  · cases e
    refine .inr ⟨b, _, rfl, hlt, fun i hi => ?_⟩
    rw [rowAt_get hi, Nat.add_assoc]
    exact hc (r * N + i) (by omega)

theorem RowOk.sub {c : Bool} {dt : List Int} (h : RowOk c dt) (N r : Nat) : RowOk c (rowAt dt N r) := by
  intro k _
  cases c with
  | true => exact getD_sub (P := fun x => if true = true then 0 ≤ x ∧ x ≤ 1114111 else -1000000000000000 ≤ x ∧ x ≤ 1000000000000000) (by simp) h N r k
  | false => exact getD_sub (P := fun x => if false = true then 0 ≤ x ∧ x ≤ 1114111 else -1000000000000000 ≤ x ∧ x ≤ 1000000000000000) (by simp) h N r k

theorem addr_add (b o p : Nat) : (⟨b, o, none⟩ : Addr).add p = ⟨b, o + p, none⟩ := by
  by_cases h : p = 0
  · subst h; rfl
  · simp [Addr.add, h]

theorem run_slice_sub (b o n c p q m : Nat) (hp : p ≤ q) (hq : q ≤ c) (hm : q - p = m) (hpc : p < c) (W : World) : (Instr.slice 22 (.slice (some ⟨b, o, none⟩) n c) (some (.int .i64 (p : Nat))) (some (.int .i64 (q : Nat))) none).run Tryd.prog W = .ok (.slice (some ⟨b, o + p, none⟩) m (c - p)) W := by
  have h1 : (q : Int) ≤ (c : Int) := by omega
  have h2 : (p : Int) ≤ (q : Int) := by omega
  have h3 : ¬ c = p := by omega
  have h5 := addr_add b o p
  go_simp

set_option maxRecDepth 20000 in
set_option maxHeartbeats 8000000 in
theorem Show_high (c : Bool) (a1 a2 : Addr) (n1 n2 c1 c2 : Nat) (sh dt : List Int) (w : World) (h1 : Row w (some a1) n1 sh) (h2 : Row w (some a2) n2 dt) (hc2 : n2 ≤ c2) (hok : arrOk c sh dt = true) (hn1 : 2 ≤ n1) :
    Calls Tryd.prog 5 #[.agg #[.bool c, .slice (some a1) n1 c1, .slice (some a2) n2 c2]] w (GivesText w (showT c sh dt)) := by
  have hl1 := hide h1.len
  have hl2 := hide h2.len
  have hs2 := h2.small
  have H1 := hide h1
  have H2 := hide h2
  have HR := hide hok
  clear h1 h2
  have hn2 : n2 ≤ 10000 := by
    have e := arr_parts' hok
    have e1 := prodAll_bd sh e.1 sh.length
    rw [List.take_length, prodAll_count sh e.1, e.2.1, unhide hl2] at e1
    omega
  have hn15 : n1 ≤ 5 := by have := (arr_parts' hok).2.2.1; have := unhide hl1; omega
  have HOK := hide (rowOk_of hok)
  obtain ⟨N, hN⟩ : ∃ N : Nat, sh.getD (n1 - 1) 0 = (N : Int) := ⟨(sh.getD (n1 - 1) 0).toNat, by have := ((shapeIn_of hok).1.cell (n1 - 1)).1; omega⟩
  obtain ⟨M, hM⟩ : ∃ M : Nat, sh.getD (n1 - 2) 0 = (M : Int) := ⟨(sh.getD (n1 - 2) 0).toNat, by have := ((shapeIn_of hok).1.cell (n1 - 2)).1; omega⟩
  have hNb : N ≤ 10000 := by have := ((shapeIn_of hok).1.cell (n1 - 1)).2; omega
  have hMb : M ≤ 10000 := by have := ((shapeIn_of hok).1.cell (n1 - 2)).2; omega
  have HN := hide hN
  have HM := hide hM
  clear hok hN hM
  obtain ⟨Q, hQ⟩ : ∃ Q, Q = w.alloc (.cells #[.bool c, .slice (some a1) n1 c1, .slice (some a2) n2 c2] 28) := ⟨_, rfl⟩
  have HQ := hide hQ
  have HBX : Hid (Box Q w.heap.size c (.slice (some a1) n1 c1) (.slice (some a2) n2 c2)) := by rw [hQ]; exact Box.new w _ _ _
  have HBQ : Hid (Below w.heap.size w Q) := by rw [hQ]; exact (Below.refl _ _).alloc (Nat.le_refl _) _
  have hQs : Q.heap.size = w.heap.size + 1 := by rw [hQ]; simp
  have HG0 := hide (GrowB.start Q)
  have HB0 : Hid (Below Q.heap.size Q (Q.alloc (.cells #[] 5))) := (Below.refl _ _).alloc (Nat.le_refl _) _
  clear hQ
  have hc := ArrayOk_eq c (some a1) (some a2) n1 n2 c1 c2 sh dt _ (((unhide H1).below (Nat.le_refl _) (unhide HBQ)).below (Nat.le_refl _) (unhide HB0)) (((unhide H2).below (Nat.le_refl _) (unhide HBQ)).below (Nat.le_refl _) (unhide HB0)) true HR
  rw [unhide HQ] at hc
  have e1 : (n1 : Int) - 1 = ((n1 - 1 : Nat) : Int) := by omega
  have e2 : (n1 : Int) - 2 = ((n1 - 2 : Nat) : Int) := by omega
  obtain ⟨m1, hm1⟩ : ∃ m, n1 - 1 = m := ⟨_, rfl⟩
  obtain ⟨m2, hm2⟩ : ∃ m, n1 - 2 = m := ⟨_, rfl⟩
  rw [hm1] at e1 HN
  rw [hm2] at e2 HM
  have hm1n : (m1 : Int) < (n1 : Int) := by omega
  have hm2n : (m2 : Int) < (n1 : Int) := by omega
  have HM1 := hide hm1
  have HM2 := hide hm2
  have hn1i : ¬ (n1 : Int) < 2 := by omega
  clear hm1 hm2
  have HG : Hid (∀ k, k < n1 → k < n1) := fun _ h => h
  go_enter Tryd.func5, Tryd.ntmps5
  go_upto_region 9 with (go_at_call 14; refine hc.mono ?_; rintro e w2 ⟨he, hb2⟩; subst he; rw [← unhide HQ] at hb2; have HB2 := hide hb2; have HG2 := hide ((unhide HG0).below hb2); have HX2 := hide (((unhide HBX).below (Nat.le_refl _) (unhide HB0)).below (Nat.le_refl _) hb2); have HBL := hide ((unhide HBQ).trans (((unhide HB0).trans (hb2.mono (unhide HB0).size)).mono (by omega))); obtain ⟨x0, x1, x2⟩ := (unhide HX2).cells; obtain ⟨b1, o1, eb1, -, cN⟩ := ((unhide H1).below (Nat.le_refl _) (unhide HBL)).get (show m1 < n1 by omega); obtain ⟨_, _, eb1', -, cM⟩ := ((unhide H1).below (Nat.le_refl _) (unhide HBL)).get (show m2 < n1 by omega); cases eb1; cases eb1'; rw [unhide HN] at cN; rw [unhide HM] at cM; clear hb2 hc)
  obtain ⟨i0, hi, hz0, hz1, hz2⟩ := info_parts info_byte
  have hqz := (unhide HG2).low.size
  have hwl : w.heap.size < w2.heap.size := by omega
  have HQS := hide hQs
  rw [show w.heap.size + 1 = Q.heap.size from hQs.symm]
  clear hQs HBX HB0 HG0
  by_cases hz : n2 = 0
  · subst hz
    by_cases hn12 : n1 = 2
    · have HS : Hid (showT c sh dt = List.replicate M 10) := by
        show _ = _
        rw [show_flat (unhide HR) (unhide hl2) ((unhide hl1).trans hn12)]
        have h0 : m2 = 0 := by have := unhide HM2; omega
        have := unhide HM
        rw [h0] at this
        rw [this]
        simp
      have g2 : ((n1 : Int) == 2) = true := by simp [hn12]
      have HG2' : Hid (GrowB Q w2 Q.heap.size 0 0 (List.replicate 0 10)) := unhide HG2
      clear hn12
      go_wp2_with fail
      go_loopw [3, 7] (fun u v wr => ∃ (k g1 cap1 : Nat), u = .slice (some ⟨g1, 0, none⟩) k cap1 ∧ v = .int .i64 k ∧ k ≤ M ∧ Hid (GrowB Q wr g1 cap1 k (List.replicate k 10)) ∧ Hid (Below w.heap.size w wr)) (fun _ v _ => M - (intOf v).toNat)
      case atStart => exact ⟨0, Q.heap.size, 0, rfl, rfl, Nat.zero_le _, HG2', HBL⟩
      case round =>
        obtain ⟨k, g1, cap1, rfl, rfl, hk, HF, HBk⟩ := hrel
        have hqz := (unhide HF).low.size
        by_cases hlt : k < M
        · have hlti : (k : Int) < (M : Int) := by omega
          go_wp2_with (at_builtin; refine wpList_append_lies _ rfl _ _ 26 rfl Q.heap.size 5 i0 (.int .u8 0) 1 1 Tryd.underlying26 hi hz0 hz1 hz2 rfl (by decide) _ _ _ rfl ((unhide HF).below ((Below.refl _ _).alloc (Nat.le_refl _) _)).own ⟨wr.heap.size, 0, none⟩ 1 1 ([10].map (Value.int .u8)) rfl rfl (RowB.new wr [10]).news (one_bytes _) (by omega) (by unfold maxLen; omega) (by omega) (by simp; omega) (wr.heap.size + 1) (by simp) ?_; intro g' cap' w7 hown' hgrow hat hlt7; have HF7 := hide (((unhide HF).below ((Below.refl _ _).alloc (Nat.le_refl _) _)).push hown' hgrow); clear hgrow hat hown' hlt7)
          go_roundw
          case rel =>
            refine ⟨k + 1, g', cap', rfl, by go_num, by omega, ?_, ?_⟩
            · show GrowB _ _ _ _ _ _
              rw [List.replicate_succ']
              exact unhide HF7
            · exact (unhide HBQ).trans ((unhide HF7).low.mono (by have := unhide HQS; omega))
          case measure => simp [intOf]; omega
        · have hlti : ¬ (k : Int) < (M : Int) := by omega
          obtain rfl : k = M := by omega
          go_wp2_with fail
          go_ret
          exact ⟨g1, k, cap1, rfl, by rw [unhide HS]; exact (unhide HF).row, unhide HBk⟩
    · have HS := hide (show_none (unhide HR) (unhide hl2) (by rw [unhide hl1]; omega))
      have g2 : ((n1 : Int) == 2) = false := by simp; omega
      clear hn12
      go_wp2_with fail
      go_loopw [3, 7] (fun u v wr => u = .slice (some ⟨Q.heap.size, 0, none⟩) 0 0 ∧ v = .int .i64 0 ∧ wr = w2) (fun _ v _ => (intOf v).toNat)
      case atStart => exact ⟨rfl, rfl, rfl⟩
      case round =>
        obtain ⟨rfl, rfl, rfl⟩ := hrel
        by_cases hlt : 0 < M
        · have hlti : (0 : Int) < (M : Int) := by omega
          go_wp2_with fail
          go_ret
          exact ⟨_, 0, 0, rfl, by rw [unhide HS]; exact ⟨rfl, .inl rfl⟩, unhide HBL⟩
        · have hlti : ¬ (0 : Int) < (M : Int) := by omega
          go_wp2_with fail
          go_ret
          exact ⟨_, 0, 0, rfl, by rw [unhide HS]; exact ⟨rfl, .inl rfl⟩, unhide HBL⟩
  · obtain ⟨R, hlen, hN0, hM0, hS⟩ := show_high (n1 := n1) (N := N) (M := M) (unhide HR) (unhide hl1) hn1 (by rw [unhide HM1]; exact unhide HN) (by rw [unhide HM2]; exact unhide HM) (by rw [unhide hl2]; exact hz)
    have HS := hide hS
    rw [unhide hl2] at hlen
    have HLEN := hide hlen
    have hmk := run_make_row' (P := Tryd.prog) 22 3 (.int .i64 0) 8 Tryd.underlying22 info_int rfl .i64 .i64 N (by omega) (by omega)
    have HEL : Hid (∀ q, q < dt.length → -1000000000000000 ≤ dt.getD q 0 ∧ dt.getD q 0 ≤ 1000000000000000) := fun q hq => by
      have h5 := List.all_eq_true.1 (arr_parts' (unhide HR)).2.2.2 (dt.getD q 0) (by simp [hq])
      unfold dataOk at h5
      simp only [Bool.and_eq_true, decide_eq_true_eq] at h5
      exact h5.2
    have gz : ((n2 : Int) == 0) = false := by simp; omega
    have hn20 : 0 < n2 := by omega
    have HWB : Hid (∀ k, k ≤ n2 → ∀ i, 0 ≤ (wsN dt N k).getD i 0 ∧ (wsN dt N k).getD i 0 ≤ 100) := fun k hk i => wsN_bd (fun q hq => by
      have h6 := unhide HEL q hq
      have := wid_le h6
      omega) k (by rw [unhide hl2]; exact hk) i
    clear hS hlen hz cN cM
    go_wp2_with fail
    obtain ⟨gw, hgw⟩ : ∃ g, g = w2.heap.size := ⟨_, rfl⟩
    obtain ⟨V, hV⟩ : ∃ V, V = w2.alloc (.cells (madeCells #[.int .i64 0] N) 3) := ⟨_, rfl⟩
    have HB0 : Hid (Blk V gw (wsN dt N 0)) := by rw [hV]; exact Blk.made w2 N gw hgw
    have HXV : Hid (Box V w.heap.size c (.slice (some ⟨b1, o1, none⟩) n1 c1) (.slice (some a2) n2 c2)) := by rw [hV]; exact (unhide HX2).alloc _
    have HBV : Hid (Below w.heap.size w V) := by rw [hV]; exact (unhide HBL).alloc (unhide HBL).size _
    have HGV : Hid (GrowB Q V Q.heap.size 0 0 []) := by rw [hV]; exact (unhide HG2).below ((Below.refl _ _).alloc (Nat.le_refl _) _)
    have hgq : Q.heap.size < gw := by
      rw [hgw]
      rcases (unhide HG2).own.2 with ⟨h', _⟩ | ⟨g', cap', cur, h', _, hg, _⟩
      · simp at h'
      · cases h'; exact lt_of_block hg
    have hwgw : w.heap.size < gw := by omega
    rw [← hV, ← hgw]
    clear hV hgw hmk HG2 HX2 HBL HB2 x0 x1 x2 hqz hwl
    clear w2
    go_loopw [9] (fun v wr => ∃ k : Nat, k ≤ n2 ∧ v = .int .i64 k ∧ Hid (Blk wr gw (wsN dt N k)) ∧ Hid (But (fun x => x = gw) V wr)) (fun v _ => n2 - (intOf v).toNat)
    case atStart => exact ⟨0, Nat.zero_le _, rfl, HB0, But.refl _ _⟩
    case round =>
      obtain ⟨k, hk, rfl, HB, HU⟩ := hrel
      clear HB0
      obtain ⟨x0, x1, x2⟩ := ((unhide HXV).but (unhide HU) (by show ¬ w.heap.size = gw; omega)).cells
      have HD : Hid (∀ wx, But (fun x => x = gw) V wx → Row wx (some a2) n2 dt) := fun wx hw => hw.row ((unhide H2).below (Nat.le_refl _) (unhide HBV)) (by rintro q rfl hA; have := (unhide H2).hi hA; omega)
      by_cases hlt : k < n2
      case pos =>
        have hlti : (k : Int) < (n2 : Int) := by omega
        obtain ⟨b2, o2, e, -, cD⟩ := (unhide HD _ (unhide HU)).get hlt
        cases e
        obtain ⟨r, hr⟩ : ∃ r, k % N = r := ⟨_, rfl⟩
        have er : (k : Int).tmod (N : Int) = (r : Int) := by rw [Int.tmod_eq_emod_of_nonneg (by omega), ← hr]; rfl
        have er2 : (k : Int) % (N : Int) = (r : Int) := by rw [← hr]; rfl
        have hrN : r < N := by rw [← hr]; exact Nat.mod_lt _ hN0
        have hrNi : (r : Int) < (N : Int) := by omega
        have hN0i : ¬ (N : Int) = 0 := by omega
        have hN0n : ¬ N = 0 := by omega
        have cW := (unhide HB).cell (i := r) (by rw [wsN_len]; exact hrN)
        have fW := (unhide HB).free r
        have hwb := unhide HWB k hk r
        obtain ⟨y, hy⟩ : ∃ y : Nat, (wsN dt N k).getD r 0 = (y : Int) := ⟨((wsN dt N k).getD r 0).toNat, by omega⟩
        rw [hy] at cW
        have hv := unhide HEL k (by rw [unhide hl2]; exact hlt)
        obtain ⟨x, hx⟩ : ∃ x, dt.getD k 0 = x := ⟨_, rfl⟩
        rw [hx] at cD hv
        obtain ⟨wd, hwd⟩ : ∃ z, wid x = z := ⟨_, rfl⟩
        have HV := hide hv
        have HWD := hide hwd
        have HXX := hide hx
        have HYY := hide hy
        have HRR := hide hr
        have HLW : Hid (∀ W, Calls Tryd.prog 16 #[.int .i64 x] W fun e w' => e = .returned (.int .i64 (wd : Nat)) ∧ w' = W) := fun W => by rw [← hwd]; exact l3Width_any x hv W
        clear hv hwd hx hy hr hwb
        by_cases hgt : y < wd
        · have HN1 : Hid (∀ q, Blk ((wr.drewN q).setCell ⟨gw, r, none⟩ (.int .i64 (wd : Nat))) gw (wsN dt N (k + 1))) := fun q => by
            have hbq : Blk (wr.drewN q) gw (wsN dt N k) := unhide HB
            rw [wsN_take (by rw [unhide HRR, unhide HYY, unhide HXX, unhide HWD]; omega), unhide HRR, unhide HXX, unhide HWD]
            exact hbq.set r _
          have HU1 : Hid (∀ q, But (fun x => x = gw) V ((wr.drewN q).setCell ⟨gw, r, none⟩ (.int .i64 (wd : Nat)))) := fun q => (show But (fun x => x = gw) V (wr.drewN q) from ⟨(unhide HU).os, (unhide HU).tape, (unhide HU).output, (unhide HU).size, (unhide HU).block⟩).setCell (p := ⟨gw, r, none⟩) rfl _
          go_wp2_with fail
          have dg : decide (y < wd) = true := by simp; omega
          clear hgt
          go_quiet (first | (go_at_call 16; exact Calls.quiet_of_same (unhide HLW _)))
          clear dg
          go_wp2_with fail
          go_region_with (first | (go_at_call 16; refine (unhide HLW _).mono ?_; rintro e wz ⟨rfl, rfl⟩))
          all_goals go_wp2_with fail
          all_goals (go_roundw; (case rel => exact ⟨k + 1, by omega, by go_num, unhide HN1 _, unhide HU1 _⟩); (case measure => simp [intOf]; omega))
        · have HN1 : Hid (Blk wr gw (wsN dt N (k + 1))) := by
            show Blk _ _ _
            rw [wsN_stay (by rw [unhide HRR, unhide HYY, unhide HXX, unhide HWD]; omega)]
            exact unhide HB
          go_wp2_with fail
          have dg : decide (y < wd) = false := by simp; omega
          clear hgt
          go_quiet (first | (go_at_call 16; exact Calls.quiet_of_same (unhide HLW _)))
          go_wp2_with fail
          go_roundw
          case rel => exact ⟨k + 1, by omega, by go_num, unhide HN1, ⟨(unhide HU).os, (unhide HU).tape, (unhide HU).output, (unhide HU).size, (unhide HU).block⟩⟩
          case measure => simp [intOf]; omega
      case neg =>
        obtain rfl : k = n2 := by omega
        have hlti : ¬ (k : Int) < (k : Int) := by omega
        obtain ⟨Z, hZ⟩ : ∃ x, x = wr := ⟨_, rfl⟩
        subst hZ
        obtain ⟨ws, hws⟩ : ∃ l, wsN dt N k = l := ⟨_, rfl⟩
        have HWL : Hid (ws.length = N) := by show _ = _; rw [← hws]; exact wsN_len dt N k
        have HWB2 : Hid (∀ i, 0 ≤ ws.getD i 0 ∧ ws.getD i 0 ≤ 100) := fun i => by rw [← hws]; exact unhide HWB k (Nat.le_refl _) i
        have HSX : Hid (showT c sh dt = textN c ws dt N M R) := by show _ = _; rw [unhide HS, unhide hl2, hws]
        rw [hws] at HB
        have HGZ : Hid (GrowB Q Z Q.heap.size 0 0 []) := (unhide HGV).but (unhide HU) (by show ¬ Q.heap.size = gw; omega) (by rintro q rfl; omega)
        have HF0 : Hid (GrowF Q Z Q.heap.size Z Q.heap.size 0 0 (textN c ws dt N M 0)) := GrowF.start (unhide HGZ)
        have HXZ := hide ((unhide HXV).but (unhide HU) (by show ¬ w.heap.size = gw; omega))
        have HRZ := hide (unhide HD _ (unhide HU))
        have HWZ : Hid (Row Z (some ⟨gw, 0, none⟩) N ws) := (unhide HB).row (unhide HWL) (by omega)
        have HBZ : Hid (Below w.heap.size w Z) := (unhide HBV).trans ((unhide HU).below (unhide HBV).size (by rintro q rfl; omega))
        have hgwZ := (unhide HB).lt
        have HTL : Hid (∀ r, r ≤ R → (textN c ws dt N M r).length ≤ 1220000) := fun r hr => by
          have h1 := textN_len (c := c) (height := M) (ws := ws) ((unhide hl2).trans (unhide HLEN)) (fun i => (unhide HWB2 i).2) (fun _ => unhide HEL) r hr
          have h2 : r * N ≤ R * N := Nat.mul_le_mul_right N hr
          have h3 := unhide HLEN
          have h4 : R ≤ R * N := Nat.le_mul_of_pos_right R hN0
          omega
        clear hws hlt HB HU HGV HXV HGZ HD HWB x0 x1 x2
        obtain ⟨x0, x1, x2⟩ := (unhide HXZ).cells
        go_wp2_with fail
        go_loopw [3, 10] (fun u v wr => ∃ (r p g1 cap1 j1 : Nat), u = .slice (some ⟨g1, 0, none⟩) j1 cap1 ∧ v = .int .i64 p ∧ r ≤ R ∧ Hid (p = r * N) ∧ Hid (GrowF Q Z Q.heap.size wr g1 cap1 j1 (textN c ws dt N M r))) (fun _ v _ => k - (intOf v).toNat)
        case atStart => exact ⟨0, 0, Q.heap.size, 0, 0, rfl, rfl, Nat.zero_le _, (by show _ = _; simp), HF0⟩
        case round =>
          obtain ⟨r, p, g1, cap1, j1, rfl, rfl, hr, HP, HF⟩ := hrel
          clear HF0
          have hqz := (unhide HF).grow.low.size
          have hj1 : j1 ≤ 1220000 := by have h5 := (unhide HF).grow.len; have h6 := unhide HTL r hr; omega
          have hwQ : w.heap.size ≠ Q.heap.size := by have := unhide HQS; omega
          have hwZ : w.heap.size < Z.heap.size := (unhide HXZ).lt
          obtain ⟨z0, z1, z2⟩ := ((unhide HXZ).but (unhide HF).but (by show ¬ w.heap.size = Q.heap.size; omega)).cells
          obtain ⟨wo, hwo⟩ : ∃ x, x = wr := ⟨_, rfl⟩
          subst hwo
          clear x0 x1 x2
          have hkR := unhide HLEN
          by_cases hrR : r < R
          case neg =>
            obtain rfl : r = R := by omega
            have hpk : p = k := by rw [unhide HP]; exact hkR.symm
            subst hpk
            have HBE : Hid (Below w.heap.size w wo) := (unhide HBZ).trans ((unhide HF).but.below (unhide HBZ).size (by rintro q rfl; have := unhide HQS; omega))
            clear hkR
            go_wp2_with fail
            go_ret
            exact ⟨g1, j1, cap1, rfl, by rw [unhide HSX]; exact (unhide HF).grow.row, unhide HBE⟩
          have hpN : p + N ≤ k := by
            have h7 : (r + 1) * N ≤ R * N := Nat.mul_le_mul_right N hrR
            rw [Nat.add_mul, Nat.one_mul, ← unhide HP, ← hkR] at h7
            exact h7
          have hplt : (p : Int) < (k : Int) := by omega
          obtain ⟨K, hK⟩ : ∃ K, N * M = K := ⟨_, rfl⟩
          have eK : (N : Int) * (M : Int) = (K : Int) := by rw [← hK]; simp
          have hKb : K ≤ 100000000 := by rw [← hK]; exact Nat.le_trans (Nat.mul_le_mul hNb hMb) (by omega)
          have hK0 : 0 < K := by rw [← hK]; exact Nat.mul_pos hN0 hM0
          have hK0i : ¬ (K : Int) = 0 := by omega
          have hK0n : ¬ K = 0 := by omega
          obtain ⟨pm, hpm⟩ : ∃ q, p % K = q := ⟨_, rfl⟩
          have epm : (p : Int).tmod (K : Int) = (pm : Int) := by rw [Int.tmod_eq_emod_of_nonneg (by omega), ← hpm]; rfl
          have epm2 : (p : Int) % (K : Int) = (pm : Int) := by rw [← hpm]; rfl
          have HPM : Hid (pm = 0 ↔ r % M = 0) := by
            have h8 : p % K = N * (r % M) := by rw [unhide HP, ← hK, Nat.mul_comm r N, Nat.mul_mod_mul_left]
            rw [hpm] at h8
            show _ ↔ _
            constructor
            · intro h9
              rw [h9] at h8
              rcases Nat.mul_eq_zero.1 h8.symm with h10 | h10
              · omega
              · exact h10
            · intro h9
              rw [h9, Nat.mul_zero] at h8
              exact h8
          have HP0 : Hid (0 < p ↔ 0 < r) := by
            show _ ↔ _
            rw [unhide HP]
            constructor
            · intro h9; exact Nat.pos_of_ne_zero (fun h => by rw [h] at h9; simp at h9)
            · intro h9; exact Nat.mul_pos h9 hN0
          clear hK hpm hkR
          go_upto_region 24 with fail
          go_cut [109] (fun u wx => u = .bool (decide (0 < r ∧ r % M = 0)) ∧ wo = wx)
          case first =>
            by_cases h0 : 0 < p
            · have h0i : (0 : Int) < (p : Int) := by omega
              have h0r := (unhide HP0).1 h0
              by_cases hm0 : pm = 0
              · have hmr := (unhide HPM).1 hm0
                have g3 : ((pm : Int) == 0) = true := by simp [hm0]
                clear hm0
                go_wp2_with fail
                go_meet
                case rel => exact ⟨by simp [h0r, hmr], rfl⟩
              · have hmr : ¬ r % M = 0 := fun h => hm0 ((unhide HPM).2 h)
                have g3 : ((pm : Int) == 0) = false := by simp [hm0]
                clear hm0
                go_wp2_with fail
                go_meet
                case rel => exact ⟨by simp [hmr], rfl⟩
            · have h0i : ¬ (0 : Int) < (p : Int) := by omega
              have h0r : ¬ 0 < r := fun h => h0 ((unhide HP0).2 h)
              go_wp2_with fail
              go_meet
              case rel => exact ⟨by simp [h0r], rfl⟩
          case rest =>
          obtain ⟨rfl, rfl⟩ := hcut
          obtain ⟨rb, hrb⟩ : ∃ x, decide (0 < r ∧ r % M = 0) = x := ⟨_, rfl⟩
          rw [hrb]
          obtain ⟨tl, htl⟩ : ∃ l : List Int, (if 0 < r ∧ r % M = 0 then [10] else []) = l := ⟨_, rfl⟩
          have HTT := hide htl
          have HRB : Hid (tl = if rb = true then [10] else []) := by
            show _ = _
            rw [← hrb, ← htl]
            by_cases hh : 0 < r ∧ r % M = 0
            · rw [if_pos hh, if_pos (decide_eq_true hh)]
            · rw [if_neg hh, if_neg (by simp [hh])]
          clear hrb htl
          go_upto_if 109 with fail
          go_cut [3] (fun u wx => ∃ g2 cap2 j2, u = .slice (some ⟨g2, 0, none⟩) j2 cap2 ∧ j2 ≤ j1 + 1 ∧ Hid (GrowF Q Z Q.heap.size wx g2 cap2 j2 (textN c ws dt N M r ++ tl)))
          case first =>
            cases rb with
            | true =>
              go_wp2_with (at_builtin; refine wpList_append_lies _ rfl _ _ 26 rfl Q.heap.size 5 i0 (.int .u8 0) 1 1 Tryd.underlying26 hi hz0 hz1 hz2 rfl (by decide) _ _ _ rfl ((unhide HF).below ((Below.refl _ _).alloc (Nat.le_refl _) _)).grow.own ⟨wo.heap.size, 0, none⟩ 1 1 ([10].map (Value.int .u8)) rfl rfl (RowB.new wo [10]).news (one_bytes _) (by omega) (by unfold maxLen; omega) (by omega) (by simp; omega) (wo.heap.size + 1) (by simp) ?_; intro g' cap' w7 hown' hgrow hat hlt7; have HF7 := hide (((unhide HF).below ((Below.refl _ _).alloc (Nat.le_refl _) _)).push hown' hgrow (hat.imp (fun h => h) (fun h => by rw [h]; simp))); clear hgrow hat hown' hlt7)
              go_meet
              case rel =>
                have hT : tl = [10] := by simpa using unhide HRB
                exact ⟨g', cap', j1 + 1, rfl, Nat.le_refl _, by show GrowF _ _ _ _ _ _ _ (_ ++ tl); rw [hT]; exact unhide HF7⟩
            | false =>
              go_wp2_with fail
              go_meet
              case rel =>
                have hT : tl = [] := by simpa using unhide HRB
                exact ⟨g1, cap1, j1, rfl, by omega, by show GrowF _ _ _ _ _ _ _ (_ ++ tl); rw [hT, List.append_nil]; exact unhide HF⟩
          case rest =>
          obtain ⟨g2, cap2, j2, rfl, hj2, HF2⟩ := hcut
          obtain ⟨w3, hw3⟩ : ∃ x, x = wc := ⟨_, rfl⟩
          subst hw3
          clear z0 z1 z2 HF HRB hqz
          obtain ⟨z0, z1, z2⟩ := ((unhide HXZ).but (unhide HF2).but (by show ¬ w.heap.size = Q.heap.size; omega)).cells
          obtain ⟨b2, o2, ea2, -, -⟩ := (unhide HRZ).get (show 0 < k by omega)
          cases ea2
          have hpc2 : ¬ c2 = p := by omega
          have hadd := addr_add b2 o2 p
          obtain ⟨pe, hpe⟩ : ∃ q, p + N = q := ⟨_, rfl⟩
          have hwr1 : IntKind.i64.wrap ((p : Int) + (N : Int)) = (pe : Int) := by rw [IntKind.wrap_i64]; omega
          have hwr2 : IntKind.i64.wrap (pe : Int) = (pe : Int) := by rw [IntKind.wrap_i64]; omega
          have hpec : (pe : Int) ≤ (c2 : Int) := by omega
          have hppe : (p : Int) ≤ (pe : Int) := by omega
          have hdif : pe - p = N := by omega
          have HPE := hide hpe
          have hpek : pe ≤ k := by omega
          clear hpe
          have hb2 : b2 < w.heap.size := (unhide H2).hi (at_self (show k ≠ 0 by omega))
          have hg2 := (unhide HF2).at_
          have hrow : Row w3 (some ⟨b2, o2 + p, none⟩) N (rowAt dt N r) := by
            rw [unhide HP]
            exact Row.sub ((unhide HF2).but.row (unhide HRZ) (by rintro q rfl hA; have := at_eq hA; have := unhide HQS; omega)) (unhide HLEN) hrR
          have hwsr : Row w3 (some ⟨gw, 0, none⟩) N ws := (unhide HF2).but.row (unhide HWZ) (by rintro q rfl hA; have := at_eq hA; omega)
          have HCALL : Hid (∀ W, Below w3.heap.size w3 W → ∀ v1 v2 cn cw, Calls Tryd.prog 15 #[.slice (some ⟨g2, 0, none⟩) j2 cap2, .agg #[.bool c, v1, v2], .slice (some ⟨b2, o2 + p, none⟩) N cn, .slice (some ⟨gw, 0, none⟩) N cw] W (GivesLine Q w3 g2 (textN c ws dt N M r ++ tl ++ lineT c ws (rowAt dt N r)))) := fun W hW v1 v2 cn cw =>
            (l3Row_any c Q W g2 cap2 j2 _ ((unhide HF2).grow.below hW) (by omega) v1 v2 ⟨b2, o2 + p, none⟩ ⟨gw, 0, none⟩ N cn N cw (rowAt dt N r) ws (hrow.below (Nat.le_refl _) hW) (hwsr.below (Nat.le_refl _) hW) hNb (Nat.le_refl _) (fun q hq hA => by have h7 := at_eq hA; have := unhide HQS; rcases hg2 with h8 | h8 <;> omega) (fun q hq hA => by have h7 := at_eq hA; rcases hg2 with h8 | h8 <;> omega) ((unhide HOK).sub N r) (fun i _ => unhide HWB2 i)).mono (fun e w5 ⟨g', cap', j', he, hF⟩ => ⟨g', cap', j', he, line_end hW hF⟩)
          have HEND : Hid (∀ w5 g' cap' j', GrowF Q w3 g2 w5 g' cap' j' (textN c ws dt N M r ++ tl ++ lineT c ws (rowAt dt N r)) → GrowF Q Z Q.heap.size w5 g' cap' j' (textN c ws dt N M (r + 1))) := fun w5 g' cap' j' hF => by
            rw [textN_succ, unhide HTT]
            exact (unhide HF2).trans hF
          clear hrow hwsr hg2 hb2
          go_wp2_with fail
          go_region_with (first | (go_at_call 15; refine (unhide HCALL _ (by first | exact (Below.refl _ _).drew | exact Below.refl _ _) _ _ _ _).mono ?_; rintro e w5 ⟨g', cap', j', rfl, hF⟩; have HF5 := hide (unhide HEND _ _ _ _ hF); clear hF))
          all_goals go_wp2_with fail
          all_goals (go_roundw; (case rel => exact ⟨r + 1, pe, g', cap', j', rfl, by go_num, by omega, (by show _ = _; rw [Nat.add_mul, Nat.one_mul, ← unhide HP]; exact (unhide HPE).symm), HF5⟩); (case measure => simp [intOf]; have := unhide HPE; omega))

theorem Show_any (c : Bool) (a1 a2 : Addr) (n1 n2 c1 c2 : Nat) (sh dt : List Int) (w : World) (h1 : Row w (some a1) n1 sh) (h2 : Row w (some a2) n2 dt) (hc2 : n2 ≤ c2) :
    Calls Tryd.prog 5 #[.agg #[.bool c, .slice (some a1) n1 c1, .slice (some a2) n2 c2]] w (GivesText w (showT c sh dt)) := by
  by_cases h : arrOk c sh dt = true ∧ 2 ≤ n1
  · exact Show_high c a1 a2 n1 n2 c1 c2 sh dt w h1 h2 hc2 h.1 h.2
  · exact Show_low c a1 a2 n1 n2 c1 c2 sh dt w h1 h2 (fun hk => by rcases Nat.lt_or_ge n1 2 with h' | h'; exact h'; exact absurd ⟨hk, h'⟩ h)

end Go.Proofs.YtcjhbeljhmocbaaDoor
