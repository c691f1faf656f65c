import Derived.Test.YtcjhbeljhmocbaaDoorSpecRow
import Derived.Deep.DeepCutAuto
namespace Go.Proofs.YtcjhbeljhmocbaaDoor
open Go.RowKit

theorem numT_byte (v : Int) : ∀ x ∈ numT v, 0 ≤ x ∧ x ≤ 255 := by
  intro x hx
  unfold numT at hx
  rcases List.mem_append.1 hx with hx | hx
  · split at hx
    · simp at hx; omega
    · simp at hx
  · have := decZ_byte _ x hx; omega

set_option maxRecDepth 20000 in
set_option maxHeartbeats 8000000 in
theorem l3Row_num (Q w : World) (g cap j : Nat) (zs : List Int) (h : GrowB Q w g cap j zs) (hj : j ≤ 1000000000) (v1 v2 : Value) (ad aw : Addr) (n cn nw cw : Nat) (row ws : List Int) (hr : Row w (some ad) n row) (hwr : Row w (some aw) nw ws) (hn : n ≤ 10000) (hnw : n ≤ nw) (hap : ∀ k, k = g → ¬ At (some ad) n k) (haw : ∀ k, k = g → ¬ At (some aw) nw k) (hok : RowOk false row) (hws : ∀ k, k < nw → 0 ≤ ws.getD k 0 ∧ ws.getD k 0 ≤ 100) :
    Calls Tryd.prog 15 #[.slice (some ⟨g, 0, none⟩) j cap, .agg #[.bool false, v1, v2], .slice (some ad) n cn, .slice (some aw) nw cw] w (GivesLine Q w g (zs ++ lineT false ws row)) := by
  obtain ⟨i0, hi, hz0, hz1, hz2⟩ := info_parts info_byte
  obtain ⟨W, hW⟩ : ∃ W, W = w.alloc (.cells #[.bool false, v1, v2] 28) := ⟨_, rfl⟩
  have HF0 : Hid (GrowF Q W g W g cap j (zs ++ rowN false ws row 0)) := by
    rw [rowN_zero, List.append_nil, hW]
    exact GrowF.start (h.below ((Below.refl _ _).alloc (Nat.le_refl _) _))
  have HBW : Hid (Below w.heap.size w W) := by rw [hW]; exact (Below.refl _ _).alloc (Nat.le_refl _) _
  have hc0 : W.cell? ⟨w.heap.size, 0, none⟩ = some (.bool false) := by
    have hh : W.heap[w.heap.size]? = some (.cells #[.bool false, v1, v2] 28 (0, 0)) := by
      rw [hW]
      show (w.heap.push _)[w.heap.size]? = _
      simp
    simp [World.cell?, hh]
  have hWs : w.heap.size < W.heap.size := by rw [hW]; simp
  have HHW := hide hW
  have hglt : g < w.heap.size := by
    rcases h.own.2 with ⟨h', _⟩ | ⟨g', cap', cur, h', _, hg, _⟩
    · simp at h'
    · cases h'; exact lt_of_block hg
  have HLEN := hide hr.len
  have HOK := hide hok
  have HWS := hide hws
  have HAP := hide hap
  have HAW := hide haw
  have HRW : Hid (Row W (some ad) n row) := hr.below (Nat.le_refl _) (unhide HBW)
  have HWW : Hid (Row W (some aw) nw ws) := hwr.below (Nat.le_refl _) (unhide HBW)
  clear h hr hwr hok hW hap haw hws
  go_enter Tryd.func15, Tryd.ntmps15
  go_wp2_with fail
  rw [← unhide HHW]
  go_loopw [0, 9] (fun u v wr => ∃ (k g1 cap1 j1 : Nat), u = .slice (some ⟨g1, 0, none⟩) j1 cap1 ∧ v = .int .i64 k ∧ k ≤ n ∧ j1 ≤ j + 200 * k ∧ Hid (GrowF Q W g wr g1 cap1 j1 (zs ++ rowN false ws row k))) (fun _ v _ => n - (intOf v).toNat)
  case atStart => exact ⟨0, g, cap, j, rfl, rfl, Nat.zero_le _, by omega, HF0⟩
  case round =>
    obtain ⟨k, g1, cap1, j1, rfl, rfl, hk, hjk, HF⟩ := hrel
    clear HF0
    have hcb := ((unhide HF).but.block w.heap.size hWs (by omega))
    have cB : wr.cell? ⟨w.heap.size, 0, none⟩ = some (.bool false) := by
      rw [World.cell?_of_block (w := W) (a := ⟨w.heap.size, 0, none⟩) hcb]
      exact hc0
    have hqz := (unhide HF).grow.low.size
    obtain ⟨wo, hwo⟩ : ∃ x, x = wr := ⟨_, rfl⟩
    subst hwo
    by_cases hlt : k < n
    case neg =>
      have hlti : ¬ (k : Int) < (n : Int) := by omega
      obtain rfl : k = n := by omega
      clear hlt hcb
      go_wp2_with (at_builtin; refine wpList_append_lies _ rfl _ _ 26 rfl Q.heap.size 5 i0 (.int .u8 0) 1 1 Tryd.underlying26 hi hz0 hz1 hz2 rfl (by decide) _ _ _ rfl ((unhide HF).below ((Below.refl _ _).alloc (Nat.le_refl _) _)).grow.own ⟨wo.heap.size, 0, none⟩ 1 1 ([10].map (Value.int .u8)) rfl rfl (RowB.new wo [10]).news (one_bytes _) (by omega) (by unfold maxLen; omega) (by omega) (by simp; omega) (wo.heap.size + 1) (by simp) ?_; intro g' cap' w7 hown' hgrow hat hlt7; have HF7 := hide (((unhide HF).below ((Below.refl _ _).alloc (Nat.le_refl _) _)).push hown' hgrow (hat.imp (fun h => h) (fun h => by rw [h]; simp))); clear hgrow hat hown' hlt7)
      go_ret
      exact ⟨g', cap', j1 + 1, rfl, line_end (unhide HBW) (by unfold lineT; rw [unhide HLEN, ← List.append_assoc]; exact unhide HF7)⟩
    have hlti : (k : Int) < (n : Int) := by omega
    have hkw : (k : Int) < (nw : Int) := by omega
    have hv := unhide HOK k (by rw [unhide HLEN]; exact hlt)
    rw [if_neg (by decide)] at hv
    have hwk := unhide HWS k (by omega)
    obtain ⟨x, hx⟩ : ∃ x, row.getD k 0 = x := ⟨_, rfl⟩
    obtain ⟨y, hy⟩ : ∃ y : Nat, ws.getD k 0 = (y : Int) := ⟨(ws.getD k 0).toNat, by omega⟩
    rw [hx] at hv
    rw [hy] at hwk
    have hwd := wid_le hv
    have hwp := wid_pos x
    have hnl := numT_len hv
    obtain ⟨wd, hwde⟩ : ∃ z, wid x = z := ⟨_, rfl⟩
    rw [hwde] at hwd hwp
    have HV := hide hv
    have HCD : Hid (∀ wx, But (fun x => x = g) W wx → ∃ b off b' off', ad = ⟨b, off, none⟩ ∧ aw = ⟨b', off', none⟩ ∧ wx.cell? ⟨b, off + k, none⟩ = some (.int .i64 x) ∧ wx.cell? ⟨b', off' + k, none⟩ = some (.int .i64 (y : Nat)) ∧ wx.cell? ⟨w.heap.size, 0, none⟩ = some (.bool false)) := fun wx hwx => by
      obtain ⟨b, off, e, -, cD⟩ := (hwx.row (unhide HRW) (unhide HAP)).get hlt
      obtain ⟨b', off', e', -, cW⟩ := (hwx.row (unhide HWW) (unhide HAW)).get (show k < nw by omega)
      cases e
      cases e'
      rw [hx] at cD
      rw [hy] at cW
      refine ⟨b, off, b', off', rfl, rfl, cD, cW, ?_⟩
      rw [World.cell?_of_block (w := W) (a := ⟨w.heap.size, 0, none⟩) (hwx.block w.heap.size hWs (by omega))]
      exact hc0
    have HCT : Hid (cellT false ws row k = (if 0 < k then [32] else []) ++ List.replicate (y - wd) 32 ++ numT x) := by
      show _ = _
      unfold cellT
      rw [if_neg (by decide), hx, hy, hwde, Int.toNat_natCast]
    have HWD := hide hwde
    obtain ⟨b, off, b', off', rfl, rfl, cD, cW, -⟩ := unhide HCD _ (unhide HF).but
    clear hv hx hy hcb hwde
    go_upto_if 27 with fail
    go_cut [0] (fun u wx => ∃ g2 cap2 j2, u = .slice (some ⟨g2, 0, none⟩) j2 cap2 ∧ j2 ≤ j1 + 1 ∧ Hid (GrowF Q W g wx g2 cap2 j2 (zs ++ rowN false ws row k ++ (if 0 < k then [32] else []))))
    case first =>
      by_cases hk0 : 0 < k
      · have hk0i : (0 : Int) < (k : Int) := by omega
        go_wp2_with (at_builtin; refine wpList_append_lies _ rfl _ _ 26 rfl Q.heap.size 5 i0 (.int .u8 0) 1 1 Tryd.underlying26 hi hz0 hz1 hz2 rfl (by decide) _ _ _ rfl ((unhide HF).below ((Below.refl _ _).alloc (Nat.le_refl _) _)).grow.own ⟨wo.heap.size, 0, none⟩ 1 1 ([32].map (Value.int .u8)) rfl rfl (RowB.new wo [32]).news (one_bytes _) (by omega) (by unfold maxLen; omega) (by omega) (by simp; omega) (wo.heap.size + 1) (by simp) ?_; intro g' cap' w7 hown' hgrow hat hlt7; have HF7 := hide (((unhide HF).below ((Below.refl _ _).alloc (Nat.le_refl _) _)).push hown' hgrow (hat.imp (fun h => h) (fun h => by rw [h]; simp))); clear hgrow hat hown' hlt7)
        go_meet
        case rel => exact ⟨g', cap', j1 + 1, rfl, Nat.le_refl _, by rw [if_pos hk0]; exact unhide HF7⟩
      · have hk0i : ¬ (0 : Int) < (k : Int) := by omega
        go_wp2_with fail
        go_meet
        case rel => exact ⟨g1, cap1, j1, rfl, by omega, by rw [if_neg hk0, List.append_nil]; exact unhide HF⟩
    case rest =>
    obtain ⟨g2, cap2, j2, rfl, hj2, HF2⟩ := hcut
    obtain ⟨w2, hw2⟩ : ∃ x, x = wc := ⟨_, rfl⟩
    subst hw2
    clear cB cD cW HF hqz
    obtain ⟨_, _, _, _, e1, e2, cD, cW, -⟩ := unhide HCD _ (unhide HF2).but
    cases e1
    cases e2
    go_wp2_with fail
    refine (l3Width_any x (unhide HV) w2).mono ?_
    rw [unhide HWD]
    rintro e w3 ⟨rfl, rfl⟩
    go_wp2_with fail
    obtain ⟨pre, hpre⟩ : ∃ l, zs ++ rowN false ws row k ++ (if 0 < k then [32] else []) = l := ⟨_, rfl⟩
    have HPRE := hide hpre
    rw [hpre] at HF2
    clear hpre cW
    have H0 : Hid (GrowF Q W g w3 g2 cap2 j2 (pre ++ List.replicate 0 32)) := by show GrowF _ _ _ _ _ _ _ _; rw [List.replicate_zero, List.append_nil]; exact unhide HF2
    clear HF2
    go_loopw [0, 10] (fun u v wr => ∃ (t p g3 cap3 j3 : Nat), u = .slice (some ⟨g3, 0, none⟩) j3 cap3 ∧ v = .int .i64 p ∧ wd + t = p ∧ (t = 0 ∨ p ≤ y) ∧ j3 ≤ j2 + t ∧ Hid (GrowF Q W g wr g3 cap3 j3 (pre ++ List.replicate t 32))) (fun _ v _ => y - (intOf v).toNat)
    case atStart => exact ⟨0, wd, g2, cap2, j2, rfl, rfl, rfl, .inl rfl, by omega, H0⟩
    case round =>
      obtain ⟨t, p, g3, cap3, j3, rfl, rfl, hp, hpy, hj3, HF3⟩ := hrel
      clear H0
      have HP := hide hp
      have HPY := hide hpy
      have ht : t ≤ 100 := by omega
      have hqz := (unhide HF3).grow.low.size
      obtain ⟨_, _, _, _, e1, e2, cD3, cW3, -⟩ := unhide HCD _ (unhide HF3).but
      cases e1
      cases e2
      obtain ⟨wp, hwp'⟩ : ∃ x, x = wr := ⟨_, rfl⟩
      subst hwp'
      clear hp hpy cD
      by_cases hlt2 : p < y
      · have hlt2i : (p : Int) < (y : Int) := by omega
        go_wp2_with (at_builtin; refine wpList_append_lies _ rfl _ _ 26 rfl Q.heap.size 5 i0 (.int .u8 0) 1 1 Tryd.underlying26 hi hz0 hz1 hz2 rfl (by decide) _ _ _ rfl ((unhide HF3).below ((Below.refl _ _).alloc (Nat.le_refl _) _)).grow.own ⟨wp.heap.size, 0, none⟩ 1 1 ([32].map (Value.int .u8)) rfl rfl (RowB.new wp [32]).news (one_bytes _) (by omega) (by unfold maxLen; omega) (by omega) (by simp; omega) (wp.heap.size + 1) (by simp) ?_; intro g' cap' w7 hown' hgrow hat hlt7; have HF7 := hide (((unhide HF3).below ((Below.refl _ _).alloc (Nat.le_refl _) _)).push hown' hgrow (hat.imp (fun h => h) (fun h => by rw [h]; simp))); clear hgrow hat hown' hlt7)
        go_roundw
        case rel =>
          refine ⟨t + 1, p + 1, g', cap', j3 + 1, rfl, by go_num, by have := unhide HP; omega, .inr (by omega), by omega, ?_⟩
          show GrowF _ _ _ _ _ _ _ _
          rw [List.replicate_succ', ← List.append_assoc]
          exact unhide HF7
        case measure => simp [intOf]; omega
      · have hlt2i : ¬ (p : Int) < (y : Int) := by omega
        have htt : t = y - wd := by have := unhide HP; have := unhide HPY; omega
        subst htt
        go_wp2_with fail
        refine (l1Dec_any x (unhide HV) wp).mono ?_
        rintro e w5 ⟨rfl, hb5⟩
        have HF5 := hide ((unhide HF3).below hb5)
        clear hb5 HF3 cD3 cW3
        obtain ⟨cb, W6, hcv, hrb, hb6⟩ := conv_bytes w5 (numT x) (numT_byte x)
        have HF6 := hide ((unhide HF5).below hb6)
        have HRB := hide hrb
        obtain ⟨m, hm⟩ : ∃ m, (numT x).length = m := ⟨_, rfl⟩
        rw [hm] at HRB hnl hcv
        have HML := hide hm
        have hqz6 := (unhide HF6).grow.low.size
        clear hrb hb6 hm HF5
        go_wp2_with (at_builtin; refine wpList_append_lies _ rfl _ _ 26 rfl Q.heap.size 5 i0 (.int .u8 0) 1 1 Tryd.underlying26 hi hz0 hz1 hz2 rfl (by decide) _ _ _ rfl (unhide HF6).grow.own ⟨w5.heap.size, 0, none⟩ m cb ((numT x).map (Value.int .u8)) rfl (by rw [List.length_map, unhide HML]; simp) (unhide HRB).news (one_bytes _) (by omega) (by unfold maxLen; omega) (by omega) (by omega) W6.heap.size rfl ?_; intro g' cap' w7 hown' hgrow hat hlt7; have HF7 := hide ((unhide HF6).push hown' hgrow hat); clear hgrow hat hown' hlt7)
        go_roundw
        case rel =>
          refine ⟨k + 1, g', cap', j3 + m, rfl, by go_num, by omega, by omega, ?_⟩
          show GrowF _ _ _ _ _ _ _ _
          have e : zs ++ rowN false ws row (k + 1) = pre ++ List.replicate (y - wd) 32 ++ numT x := by
            rw [rowN_succ, unhide HCT, ← unhide HPRE]
            simp
          rw [e]
          exact unhide HF7
        case measure => simp [intOf]; omega

theorem l3Row_any (c : Bool) (Q w : World) (g cap j : Nat) (zs : List Int) (h : GrowB Q w g cap j zs) (hj : j ≤ 1000000000) (v1 v2 : Value) (ad aw : Addr) (n cn nw cw : Nat) (row ws : List Int) (hr : Row w (some ad) n row) (hwr : Row w (some aw) nw ws) (hn : n ≤ 10000) (hnw : n ≤ nw) (hap : ∀ k, k = g → ¬ At (some ad) n k) (haw : ∀ k, k = g → ¬ At (some aw) nw k) (hok : RowOk c row) (hws : ∀ k, k < nw → 0 ≤ ws.getD k 0 ∧ ws.getD k 0 ≤ 100) :
    Calls Tryd.prog 15 #[.slice (some ⟨g, 0, none⟩) j cap, .agg #[.bool c, v1, v2], .slice (some ad) n cn, .slice (some aw) nw cw] w (GivesLine Q w g (zs ++ lineT c ws row)) := by
  cases c with
  | true => exact l3Row_char Q w g cap j zs h hj v1 v2 ad n cn row hr hn hap hok _ ws
  | false => exact l3Row_num Q w g cap j zs h hj v1 v2 ad aw n cn nw cw row ws hr hwr hn hnw hap haw hok hws

end Go.Proofs.YtcjhbeljhmocbaaDoor
