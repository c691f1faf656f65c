import Derived.Test.YtadbhidpmihghabImplLays
import Derived.Test.YtadbhidpmihghabWholeMath
namespace Go.Proofs.Ytadbhidpmihghab
open Go.RowKit

theorem fl_whole0 (c : Int) (sh : List Int) (i : Nat) : fl c sh [] i = fl c sh (wholeN sh 0) i := by
  unfold fl
  rw [wholeN_zero]
  split
  · rfl
  · split
    · rfl
    · split
      · rfl
      · by_cases hk : i - 7 < sh.length
        · simp [List.getD, hk]
        · rw [getD_long (zs := []) (by simp), getD_long (zs := List.replicate sh.length 0) (by simp; omega)]

set_option maxRecDepth 20000 in
set_option maxHeartbeats 4000000 in
theorem wholeOf_any (a : Option Addr) (n cap : Nat) (sh : List Int) (w : World) (h : Row w a n sh) (hs : shapeB sh = true) :
    Calls Try.prog 46 #[.slice a n cap] w fun e w' => e = .returned (lay (fl 0 sh (wholeSt sh))) ∧ Below w.heap.size w w' := by
  obtain ⟨hin, h5⟩ := shapeB_in hs
  have hl := hide h.len
  have H5 := hide h5
  have HIN := hide hin
  have hn5 : n ≤ 5 := by rw [← h.len]; exact h5
  have H := hide h
  clear h hs hin h5
  have hsz : (Try.prog.info? 3).map (·.size) = some 1 := by kernel_rfl
  obtain ⟨W, hW⟩ : ∃ W, ((w.alloc objZ).alloc (.cells #[.int .i64 0, .int .i64 (n : Int), .int .i64 0, .int .i64 0, .int .i64 0, .int .i64 0, .int .i64 0, .int .i64 0, .int .i64 0, .int .i64 0, .int .i64 0, .int .i64 0] 45)) = W := ⟨_, rfl⟩
  obtain ⟨p, hp⟩ : ∃ p, w.heap.size = p := ⟨_, rfl⟩
  have HZ : Hid (LBox W p (fun _ => 0)) := by rw [← hW, ← hp]; exact (LBox.new w (fun _ => 0)).alloc _
  have HL : Hid (LBox W (p + 1) (fl 0 (List.replicate n 0) [])) := by
    have := LBox.new (w.alloc objZ) (fun i => if i = 0 then 0 else if i = 1 then (n : Int) else 0)
    rw [World.size_alloc, hp] at this
    rw [← hW]
    exact this.congr (fun i hi => fl_zero 0 n i)
  have HB : Hid (Below p w W) := by rw [← hW, ← hp]; exact ((Below.refl _ _).alloc (Nat.le_refl _) _).alloc (by simp) _
  have HRW : Hid (Row W a n sh) := (unhide H).below (Nat.le_refl _) (by rw [hp]; exact unhide HB)
  have HP1 : Hid (∀ k, At a n k → k < p) := fun k hk => by rw [← hp]; exact (unhide H).hi hk
  have HN : Hid ((sh.map (Value.int .i64)).length = Nat.min n 5) := by show _ = _; rw [List.length_map, unhide hl]; exact (Nat.min_eq_left hn5).symm
  have HF : Hid (2 + (sh.map (Value.int .i64)).length ≤ 12) := by show _ ≤ _; rw [List.length_map, unhide hl]; omega
  have HC : Hid (0 < (sh.map (Value.int .i64)).length → ∃ ad, a = some ad ∧ ∀ j v, (sh.map (Value.int .i64))[j]? = some v → W.cell? (ad.add j) = some v) := row_src (unhide HRW)
  have HPP := hide hp
  have HWE := hide hW
  clear hp hW
  go_enter Try.func46, Try.ntmps46
  go_upto_region 2 with fail
  rw [unhide HWE, unhide HPP]
  clear HWE
  go_cut [] (fun wx => LBox wx (p + 1) (fl 0 sh (wholeN sh 0)) ∧ Below (p + 1) W wx)
  case first =>
    go_wp2_with (refine wpList_copy_splice rfl (.tmp 10) (.tmp 11) 22 22 rfl 3 Try.underlying22 hsz _ _ _ _ _ _ rfl rfl (p + 1) 2 _ 45 (unhide HL) (sh.map (Value.int .i64)) (unhide HN) (fun h => ⟨rfl, unhide HC h⟩) (unhide HF) (one_ints sh) (p + 1) W (Below.refl _ _) (Nat.le_refl _) ?_; intro w4 hg4 hb4; have HG4 := hide hg4.out; clear hg4)
    go_meet
    case rel => exact ⟨((LBox.splice2 (unhide HG4) (unhide H5)).congr (fun i _ => fl_copyl 0 (List.replicate n 0) [] sh (by simp [unhide hl]) (unhide H5) i)).congr (fun i _ => fl_whole0 0 sh i), hb4⟩
  case rest =>
    obtain ⟨w4, hw4⟩ : ∃ x, x = wc := ⟨_, rfl⟩
    subst hw4
    obtain ⟨hq, hbc⟩ := hcut
    have JL := hide hq
    have JZ := hide ((unhide HZ).low (by omega) hbc)
    have HW4 := hide ((unhide HB).trans (hbc.mono (by omega)))
    have hpl := hq.lt
    clear hq hbc HZ HL HB HRW HN HF HC W
    have HT0 : Hid (tailProd (sh.drop (n - 0)) = 1) := by show _ = _; rw [Nat.sub_zero, ← unhide hl, List.drop_length]; rfl
    have hc1 : w4.cell? ⟨p + 1, 1, none⟩ = some (.int .i64 n) := by rw [(unhide JL).at (by omega), fl_1, unhide hl]
    go_wp2_with fail
    go_loopw [4, 5] (fun v i wr => ∃ t : Nat, t ≤ n ∧ i = .int .i64 ((n : Int) - 1 - (t : Nat)) ∧ v = .int .i64 (tailProd (sh.drop (n - t))) ∧ Hid (LBox wr (p + 1) (fl 0 sh (wholeN sh t))) ∧ Hid (But (fun x => x = p + 1) w4 wr)) (fun _ i _ => (intOf i + 1).toNat)
    case atStart => exact ⟨0, Nat.zero_le _, by first | rfl | (go_num) | simp, by rw [unhide HT0], JL, hide (But.refl _ _)⟩
    case round =>
      obtain ⟨t, ht, rfl, rfl, hb, hbut⟩ := hrel
      clear hc1
      by_cases htn : t < n
      · obtain ⟨j, hj⟩ : ∃ j : Nat, j = n - 1 - t := ⟨_, rfl⟩
        have e1 : (n : Int) - 1 - (t : Nat) = (j : Nat) := by omega
        have hjn : j < n := by omega
        obtain ⟨x, hx⟩ : ∃ x, sh.getD j 0 = x := ⟨_, rfl⟩
        have hxb : 0 ≤ x ∧ x ≤ 10000 := by rw [← hx]; exact (unhide HIN).cell j
        obtain ⟨m, hm⟩ : ∃ m, tailProd (sh.drop (n - t)) = m := ⟨_, rfl⟩
        have hmb := tailProd_bd (unhide HIN) (n - t)
        rw [hm] at hmb
        have hst := tailProd_step sh (i := j) (by rw [unhide hl]; exact hjn)
        rw [hx, show j + 1 = n - t by omega, hm] at hst
        have HNX : Hid (tailProd (sh.drop (n - (t + 1))) = if 0 < x then m * x else m) := by show _ = _; rw [show n - (t + 1) = j by omega]; exact hst
        have HSET : Hid ((wholeN sh t).set j m = wholeN sh (t + 1)) := by
          have := wholeN_step sh (t := t) (by rw [unhide hl]; exact htn)
          rw [unhide hl, hm, ← hj] at this
          exact this
        have hjs : Hid (j < (wholeN sh t).length) := by show _ < _; rw [wholeN_len, unhide hl]; exact hjn
        have hf7 := (unhide hb).free (7 + j)
        have hx7 := (unhide hb).at (i := 7 + j) (by omega)
        have HLn := hide ((unhide hb).set (i := 7 + j) (by omega) m)
        rw [fl_set _ _ _ _ (unhide hjs), unhide HSET] at HLn
        have hx2 : (wr.setCell ⟨p + 1, 7 + j, none⟩ (.int .i64 m)).cell? ⟨p + 1, 2 + j, none⟩ = some (.int .i64 x) := by rw [(unhide HLn).at (by omega), fl_len _ _ _ (by omega), hx]
        have hji : (j : Int) < 5 := by omega
        have hj0 : (0 : Int) ≤ j := by omega
        have hlr := (unhide hb).lt
        rw [e1, hm]
        have HJ := hide hj
        by_cases hx0 : x < 1
        · have hx1 : x = 0 := by omega
          subst hx1
          have HNY : Hid (tailProd (sh.drop (n - (t + 1))) = m) := by show _ = _; rw [unhide HNX, if_neg (by omega)]
          have hwy : IntKind.i64.wrap (m * 1) = m := by rw [Int.mul_one, IntKind.wrap_i64]; omega
          have hwm : IntKind.i64.wrap m = m := by rw [IntKind.wrap_i64]; omega
          clear hx hm hj hst HNX hx0
          go_wp2_with fail
          go_roundw
          case rel => exact ⟨t + 1, by omega, by rw [unhide HJ]; go_num, by rw [unhide HNY], HLn, hide ((unhide hbut).setCell (p := ⟨p + 1, 7 + j, none⟩) rfl _)⟩
          case measure => (simp [intOf] <;> omega)
        · obtain ⟨y, hy⟩ : ∃ y, y = m * x := ⟨_, rfl⟩
          have hyb : 0 ≤ y ∧ y ≤ 100000000 := by
            rw [hy]
            have q1 := Int.mul_le_mul hmb.2 hxb.2 hxb.1 (by omega : (0 : Int) ≤ 10000)
            have q2 := Int.mul_nonneg (show 0 ≤ m by omega) hxb.1
            omega
          have hwy : IntKind.i64.wrap (m * x) = y := by rw [← hy, IntKind.wrap_i64]; omega
          have hmy : m * x = y := hy.symm
          have HNY : Hid (tailProd (sh.drop (n - (t + 1))) = y) := by show _ = _; rw [unhide HNX, if_pos (by omega), hmy]
          clear hx hm hj hy hst HNX
          go_wp2_with fail
          go_roundw
          case rel => exact ⟨t + 1, by omega, by rw [unhide HJ]; go_num, by rw [unhide HNY], HLn, hide ((unhide hbut).setCell (p := ⟨p + 1, 7 + j, none⟩) rfl _)⟩
          case measure => (simp [intOf] <;> omega)
      · obtain rfl : t = n := by omega
        have e1 : ((t : Int) - 1 - (t : Nat)) = -1 := by omega
        rw [e1]
        have hfin := unhide hb
        have e2 : wholeN sh t = wholeSt sh := by rw [← unhide hl]; exact wholeN_all sh
        rw [e2] at hfin
        generalize hff : fl 0 sh (wholeSt sh) = f at *
        have HFF := hide hff
        have KZ := (unhide JZ).but (unhide hbut) (by show ¬ (p = p + 1); omega)
        have KB := hide ((unhide HW4).trans ((unhide hbut).below (B := p) (by omega) (fun k hk => by omega)))
        obtain ⟨x0, x1, x2, x3, x4, x5, x6, x7, x8, x9, x10, x11, y0, y1, y2, y3, y4, y5, y6, y7, y8, y9, y10, y11, xl⟩ := hfin.all
        obtain ⟨z0, z1, z2, z3, z4, z5, z6, z7, z8, z9, z10, z11, f0, f1, f2, f3, f4, f5, f6, f7, f8, f9, f10, f11, zl⟩ := KZ.all
        clear hff hfin KZ JZ JL hb hbut
        go_wp2_with fail
        refine bodyPost_ret (v := lay f) (by simp [results, Try.results46, go_sem, z0, z1, z2, z3, z4, z5, z6, z7, z8, z9, z10, z11]) rfl ?_
        exact ⟨by rw [← unhide HFF], by rw [unhide HPP]; exact Below.sets12 (unhide KB) (by omega) f⟩

end Go.Proofs.Ytadbhidpmihghab
