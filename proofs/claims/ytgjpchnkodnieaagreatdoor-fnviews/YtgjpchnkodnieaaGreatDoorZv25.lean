import Derived.Test.YtgjpchnkodnieaaGreatDoorZv23
import Derived.Test.YtgjpchnkodnieaaGreatDoorZv11
import Derived.Test.YtgjpchnkodnieaaGreatDoorZv05
import Derived.Laws.CopyOwn
import Derived.Test.YtgjpchnkodnieaaGreatDoorZv24
import Derived.Test.YtgjpchnkodnieaaGreatDoorZv22
import Derived.Test.YtgjpchnkodnieaaGreatDoorZv18
namespace Go.Proofs.YtgjpchnkodnieaaGreatDoor
open Go.RowKit
def stepF (f : Nat → Int) : Nat → Int
  | 0 => 0
  | k + 1 => if 1 < f (2 + k) then f (7 + k) else stepF f k
set_option maxRecDepth 20000 in
set_option maxHeartbeats 4000000 in
theorem firstStep_any (f : Nat → Int) (w : World) :
    Calls Tryz.prog 277 #[lay f] w fun e w' => e = .returned (.int .i64 (stepF f 5)) ∧ Below w.heap.size w w' := by
  have HB : Hid (Below w.heap.size w (w.alloc (objL f))) := (Below.refl _ _).alloc (Nat.le_refl _) _
  have HL := hide (LBox.new w f)
  obtain ⟨x0, x1, x2, x3, x4, x5, x6, x7, x8, x9, x10, x11, y0, y1, y2, y3, y4, y5, y6, y7, y8, y9, y10, y11, xl⟩ := (LBox.new w f).all
  obtain ⟨W, hW⟩ : ∃ W, w.alloc (objL f) = W := ⟨_, rfl⟩
  rw [hW] at HB HL x0 x1 x2 x3 x4 x5 x6 x7 x8 x9 x10 x11 xl
  have HWE := hide hW
  clear hW y0 y1 y2 y3 y4 y5 y6 y7 y8 y9 y10 y11
  have hix0 : ∀ w' : World, (Instr.index 99 (.agg #[.int .i64 (f 2), .int .i64 (f 3), .int .i64 (f 4), .int .i64 (f 5), .int .i64 (f 6)]) (.int .i64 0)).run Tryz.prog w' = .ok (.int .i64 (f 2)) w' := fun w' => by kernel_rfl
  have hix1 : ∀ w' : World, (Instr.index 99 (.agg #[.int .i64 (f 2), .int .i64 (f 3), .int .i64 (f 4), .int .i64 (f 5), .int .i64 (f 6)]) (.int .i64 1)).run Tryz.prog w' = .ok (.int .i64 (f 3)) w' := fun w' => by kernel_rfl
  have hix2 : ∀ w' : World, (Instr.index 99 (.agg #[.int .i64 (f 2), .int .i64 (f 3), .int .i64 (f 4), .int .i64 (f 5), .int .i64 (f 6)]) (.int .i64 2)).run Tryz.prog w' = .ok (.int .i64 (f 4)) w' := fun w' => by kernel_rfl
  have hix3 : ∀ w' : World, (Instr.index 99 (.agg #[.int .i64 (f 2), .int .i64 (f 3), .int .i64 (f 4), .int .i64 (f 5), .int .i64 (f 6)]) (.int .i64 3)).run Tryz.prog w' = .ok (.int .i64 (f 5)) w' := fun w' => by kernel_rfl
  have hix4 : ∀ w' : World, (Instr.index 99 (.agg #[.int .i64 (f 2), .int .i64 (f 3), .int .i64 (f 4), .int .i64 (f 5), .int .i64 (f 6)]) (.int .i64 4)).run Tryz.prog w' = .ok (.int .i64 (f 6)) w' := fun w' => by kernel_rfl
  go_enter Tryz.func277, Tryz.ntmps277
  go_upto_region 1 with fail
  rw [unhide HWE]
  clear HWE
  go_wp2_with fail
  go_loop [3, 8] (fun s i => ∃ (k : Nat) (m : Int), k ≤ 5 ∧ i = .int .i64 k ∧ s = .int .i64 m ∧ Hid (stepF f k = m)) (fun _ i => 5 - (intOf i).toNat)
  case atStart => exact ⟨0, 0, by omega, rfl, rfl, rfl⟩
  case round =>
    obtain ⟨k, m, hk, rfl, rfl, hm⟩ := hrel
    by_cases hlt : k < 5
    · have HN : Hid (stepF f (k + 1) = if 1 < f (2 + k) then f (7 + k) else m) := by show (if _ then _ else _) = _; rw [unhide hm]
      obtain rfl | rfl | rfl | rfl | rfl : k = 0 ∨ k = 1 ∨ k = 2 ∨ k = 3 ∨ k = 4 := by omega
      all_goals
        simp only [Nat.reduceAdd] at HN
      · by_cases h : 1 < f 2
        · rw [if_pos h] at HN
          go_wp2_with fail
          go_round
          case rel => exact ⟨1, _, by omega, by go_num, rfl, HN⟩
          case measure => simp [intOf]
        · rw [if_neg h] at HN
          go_wp2_with fail
          go_round
          case rel => exact ⟨1, _, by omega, by go_num, rfl, HN⟩
          case measure => simp [intOf]
      · by_cases h : 1 < f 3
        · rw [if_pos h] at HN
          go_wp2_with fail
          go_round
          case rel => exact ⟨2, _, by omega, by go_num, rfl, HN⟩
          case measure => simp [intOf]
        · rw [if_neg h] at HN
          go_wp2_with fail
          go_round
          case rel => exact ⟨2, _, by omega, by go_num, rfl, HN⟩
          case measure => simp [intOf]
      · by_cases h : 1 < f 4
        · rw [if_pos h] at HN
          go_wp2_with fail
          go_round
          case rel => exact ⟨3, _, by omega, by go_num, rfl, HN⟩
          case measure => simp [intOf]
        · rw [if_neg h] at HN
          go_wp2_with fail
          go_round
          case rel => exact ⟨3, _, by omega, by go_num, rfl, HN⟩
          case measure => simp [intOf]
      · by_cases h : 1 < f 5
        · rw [if_pos h] at HN
          go_wp2_with fail
          go_round
          case rel => exact ⟨4, _, by omega, by go_num, rfl, HN⟩
          case measure => simp [intOf]
        · rw [if_neg h] at HN
          go_wp2_with fail
          go_round
          case rel => exact ⟨4, _, by omega, by go_num, rfl, HN⟩
          case measure => simp [intOf]
      · by_cases h : 1 < f 6
        · rw [if_pos h] at HN
          go_wp2_with fail
          go_round
          case rel => exact ⟨5, _, by omega, by go_num, rfl, HN⟩
          case measure => simp [intOf]
        · rw [if_neg h] at HN
          go_wp2_with fail
          go_round
          case rel => exact ⟨5, _, by omega, by go_num, rfl, HN⟩
          case measure => simp [intOf]
    · obtain rfl : k = 5 := by omega
      go_wp2_with fail
      go_ret
      exact ⟨ret_int (unhide hm).symm, unhide HB⟩
end Go.Proofs.YtgjpchnkodnieaaGreatDoor
namespace Go.Proofs.YtgjpchnkodnieaaGreatDoor
open Go.RowKit
theorem vhead {w w1 : World} {c : Int} {v1 v2 : Value} (hb : Below ((w.alloc (.cells #[.int .i64 c, v1, v2] 46)).alloc (.cells #[.int .i64 0, .slice none 0 0, .slice none 0 0] 46)).heap.size ((w.alloc (.cells #[.int .i64 c, v1, v2] 46)).alloc (.cells #[.int .i64 0, .slice none 0 0, .slice none 0 0] 46)) w1) :
    VBox w1 (w.heap.size + 1) 0 (.slice none 0 0) (.slice none 0 0) ∧ Below w.heap.size w w1 := (vboxes2 hb).2
theorem gives_on {w w1 w2 : World} {r : VAns} {b1 b2 : Option Addr} {m1 d1 m2 d2 p : Nat} (h1 : Own w2 w1.heap.size b1 m1 r.sh) (h2 : Own w2 w1.heap.size b2 m2 r.dt) (ha : Apart b1 m1 b2 m2) (hb : Below w.heap.size w w1) (hb2 : Below w1.heap.size w1 w2) (hp : w.heap.size ≤ p) (hp1 : p < w1.heap.size) (u0 u1 u2 : Value) :
    GivesVO w r (.returned (.tuple #[.agg #[.int .i64 r.c, .slice b1 m1 d1, .slice b2 m2 d2], .bool r.code])) (((w2.setCell ⟨p, 0, none⟩ u0).setCell ⟨p, 1, none⟩ u1).setCell ⟨p, 2, none⟩ u2) := by
  have k1 : ∀ x, At b1 m1 x → x ≠ p := fun x hx => by have := h1.low hx; omega
  have k2 : ∀ x, At b2 m2 x → x ≠ p := fun x hx => by have := h2.low hx; omega
  have hs := hb.size
  exact ⟨b1, m1, d1, b2, m2, d2, rfl, (((h1.mono hs).other (q := ⟨p, 0, none⟩) k1 _).other (q := ⟨p, 1, none⟩) k1 _).other (q := ⟨p, 2, none⟩) k1 _, (((h2.mono hs).other (q := ⟨p, 0, none⟩) k2 _).other (q := ⟨p, 1, none⟩) k2 _).other (q := ⟨p, 2, none⟩) k2 _, ha, (((hb.trans (hb2.mono hs)).setCell (p := ⟨p, 0, none⟩) hp _).setCell (p := ⟨p, 1, none⟩) hp _).setCell (p := ⟨p, 2, none⟩) hp _⟩
end Go.Proofs.YtgjpchnkodnieaaGreatDoor
namespace Go.Proofs.YtgjpchnkodnieaaGreatDoor
open Go.RowKit
theorem fl_whole0 (c : Int) (sh : List Int) (i : Nat) : fl c sh [] i = fl c sh (wholeN sh 0) i := by
  unfold fl
  rw [wholeN_zero]
  split
  · rfl
  · split
    · rfl
    · split
      · rfl
      · by_cases hk : i - 7 < sh.length
        · simp [List.getD, hk]
        · rw [getD_long (zs := []) (by simp), getD_long (zs := List.replicate sh.length 0) (by simp; omega)]
set_option maxRecDepth 20000 in
set_option maxHeartbeats 4000000 in
theorem wholeOf_any (a : Option Addr) (n cap : Nat) (sh : List Int) (w : World) (h : Row w a n sh) (hs : shapeB sh = true) :
    Calls Tryz.prog 230 #[.slice a n cap] w fun e w' => e = .returned (lay (fl 0 sh (wholeSt sh))) ∧ Below w.heap.size w w' := by
  obtain ⟨hin, h5⟩ := shapeB_in hs
  have hl := hide h.len
  have H5 := hide h5
  have HIN := hide hin
  have hn5 : n ≤ 5 := by rw [← h.len]; exact h5
  have H := hide h
  clear h hs hin h5
  have hsz : (Tryz.prog.info? 3).map (·.size) = some 1 := by kernel_rfl
  obtain ⟨W, hW⟩ : ∃ W, ((w.alloc objZ).alloc (.cells #[.int .i64 0, .int .i64 (n : Int), .int .i64 0, .int .i64 0, .int .i64 0, .int .i64 0, .int .i64 0, .int .i64 0, .int .i64 0, .int .i64 0, .int .i64 0, .int .i64 0] 101)) = W := ⟨_, rfl⟩
  obtain ⟨p, hp⟩ : ∃ p, w.heap.size = p := ⟨_, rfl⟩
  have HZ : Hid (LBox W p (fun _ => 0)) := by rw [← hW, ← hp]; exact (LBox.new w (fun _ => 0)).alloc _
  have HL : Hid (LBox W (p + 1) (fl 0 (List.replicate n 0) [])) := by
    have := LBox.new (w.alloc objZ) (fun i => if i = 0 then 0 else if i = 1 then (n : Int) else 0)
    rw [World.size_alloc, hp] at this
    rw [← hW]
    exact this.congr (fun i hi => fl_zero 0 n i)
  have HB : Hid (Below p w W) := by rw [← hW, ← hp]; exact ((Below.refl _ _).alloc (Nat.le_refl _) _).alloc (by simp) _
  have HRW : Hid (Row W a n sh) := (unhide H).below (Nat.le_refl _) (by rw [hp]; exact unhide HB)
  have HP1 : Hid (∀ k, At a n k → k < p) := fun k hk => by rw [← hp]; exact (unhide H).hi hk
  have HN : Hid ((sh.map (Value.int .i64)).length = Nat.min n 5) := by show _ = _; rw [List.length_map, unhide hl]; exact (Nat.min_eq_left hn5).symm
  have HF : Hid (2 + (sh.map (Value.int .i64)).length ≤ 12) := by show _ ≤ _; rw [List.length_map, unhide hl]; omega
  have HC : Hid (0 < (sh.map (Value.int .i64)).length → ∃ ad, a = some ad ∧ ∀ j v, (sh.map (Value.int .i64))[j]? = some v → W.cell? (ad.add j) = some v) := row_src (unhide HRW)
  have HPP := hide hp
  have HWE := hide hW
  clear hp hW
  go_enter Tryz.func230, Tryz.ntmps230
  go_upto_region 2 with fail
  rw [unhide HWE, unhide HPP]
  clear HWE
  go_cut [] (fun wx => LBox wx (p + 1) (fl 0 sh (wholeN sh 0)) ∧ Below (p + 1) W wx)
  case first =>
    go_wp2_with (refine wpList_copy_splice rfl (.tmp 10) (.tmp 11) 23 23 rfl 3 Tryz.underlying23 hsz _ _ _ _ _ _ rfl rfl (p + 1) 2 _ 101 (unhide HL) (sh.map (Value.int .i64)) (unhide HN) (fun h => ⟨rfl, unhide HC h⟩) (unhide HF) (one_ints sh) (p + 1) W (Below.refl _ _) (Nat.le_refl _) ?_; intro w4 hg4 hb4; have HG4 := hide hg4.out; clear hg4)
    go_meet
    case rel => exact ⟨((LBox.splice2 (unhide HG4) (unhide H5)).congr (fun i _ => fl_copyl 0 (List.replicate n 0) [] sh (by simp [unhide hl]) (unhide H5) i)).congr (fun i _ => fl_whole0 0 sh i), hb4⟩
  case rest =>
    obtain ⟨w4, hw4⟩ : ∃ x, x = wc := ⟨_, rfl⟩
    subst hw4
    obtain ⟨hq, hbc⟩ := hcut
    have JL := hide hq
    have JZ := hide ((unhide HZ).low (by omega) hbc)
    have HW4 := hide ((unhide HB).trans (hbc.mono (by omega)))
    have hpl := hq.lt
    clear hq hbc HZ HL HB HRW HN HF HC W
    have HT0 : Hid (tailProd (sh.drop (n - 0)) = 1) := by show _ = _; rw [Nat.sub_zero, ← unhide hl, List.drop_length]; rfl
    have hc1 : w4.cell? ⟨p + 1, 1, none⟩ = some (.int .i64 n) := by rw [(unhide JL).at (by omega), fl_1, unhide hl]
    go_wp2_with fail
    go_loopw [4, 5] (fun v i wr => ∃ t : Nat, t ≤ n ∧ i = .int .i64 ((n : Int) - 1 - (t : Nat)) ∧ v = .int .i64 (tailProd (sh.drop (n - t))) ∧ Hid (LBox wr (p + 1) (fl 0 sh (wholeN sh t))) ∧ Hid (But (fun x => x = p + 1) w4 wr)) (fun _ i _ => (intOf i + 1).toNat)
    case atStart => exact ⟨0, Nat.zero_le _, by first | rfl | (go_num) | simp, by rw [unhide HT0], JL, hide (But.refl _ _)⟩
    case round =>
      obtain ⟨t, ht, rfl, rfl, hb, hbut⟩ := hrel
      clear hc1
      by_cases htn : t < n
      · obtain ⟨j, hj⟩ : ∃ j : Nat, j = n - 1 - t := ⟨_, rfl⟩
        have e1 : (n : Int) - 1 - (t : Nat) = (j : Nat) := by omega
        have hjn : j < n := by omega
        obtain ⟨x, hx⟩ : ∃ x, sh.getD j 0 = x := ⟨_, rfl⟩
        have hxb : 0 ≤ x ∧ x ≤ 10000 := by rw [← hx]; exact (unhide HIN).cell j
        obtain ⟨m, hm⟩ : ∃ m, tailProd (sh.drop (n - t)) = m := ⟨_, rfl⟩
        have hmb := tailProd_bd (unhide HIN) (n - t)
        rw [hm] at hmb
        have hst := tailProd_step sh (i := j) (by rw [unhide hl]; exact hjn)
        rw [hx, show j + 1 = n - t by omega, hm] at hst
        have HNX : Hid (tailProd (sh.drop (n - (t + 1))) = if 0 < x then m * x else m) := by show _ = _; rw [show n - (t + 1) = j by omega]; exact hst
        have HSET : Hid ((wholeN sh t).set j m = wholeN sh (t + 1)) := by
          have := wholeN_step sh (t := t) (by rw [unhide hl]; exact htn)
          rw [unhide hl, hm, ← hj] at this
          exact this
        have hjs : Hid (j < (wholeN sh t).length) := by show _ < _; rw [wholeN_len, unhide hl]; exact hjn
        have hf7 := (unhide hb).free (7 + j)
        have hx7 := (unhide hb).at (i := 7 + j) (by omega)
        have HLn := hide ((unhide hb).set (i := 7 + j) (by omega) m)
        rw [fl_set _ _ _ _ (unhide hjs), unhide HSET] at HLn
        have hx2 : (wr.setCell ⟨p + 1, 7 + j, none⟩ (.int .i64 m)).cell? ⟨p + 1, 2 + j, none⟩ = some (.int .i64 x) := by rw [(unhide HLn).at (by omega), fl_len _ _ _ (by omega), hx]
        have hji : (j : Int) < 5 := by omega
        have hj0 : (0 : Int) ≤ j := by omega
        have hlr := (unhide hb).lt
        rw [e1, hm]
        have HJ := hide hj
        by_cases hx0 : x < 1
        · have hx1 : x = 0 := by omega
          subst hx1
          have HNY : Hid (tailProd (sh.drop (n - (t + 1))) = m) := by show _ = _; rw [unhide HNX, if_neg (by omega)]
          have hwy : IntKind.i64.wrap (m * 1) = m := by rw [Int.mul_one, IntKind.wrap_i64]; omega
          have hwm : IntKind.i64.wrap m = m := by rw [IntKind.wrap_i64]; omega
          clear hx hm hj hst HNX hx0
          go_wp2_with fail
          go_roundw
          case rel => exact ⟨t + 1, by omega, by rw [unhide HJ]; go_num, by rw [unhide HNY] <;> (rw [show max (0 : Int) 1 = 1 by omega, Int.mul_one]; have h := hwm; rw [IntKind.wrap_i64] at h; unfold wrap64; rw [h]), HLn, hide ((unhide hbut).setCell (p := ⟨p + 1, 7 + j, none⟩) rfl _)⟩
          case measure => (simp [intOf] <;> omega)
        · obtain ⟨y, hy⟩ : ∃ y, y = m * x := ⟨_, rfl⟩
          have hyb : 0 ≤ y ∧ y ≤ 100000000 := by
            rw [hy]
            have q1 := Int.mul_le_mul hmb.2 hxb.2 hxb.1 (by omega : (0 : Int) ≤ 10000)
            have q2 := Int.mul_nonneg (show 0 ≤ m by omega) hxb.1
            omega
          have hwy : IntKind.i64.wrap (m * x) = y := by rw [← hy, IntKind.wrap_i64]; omega
          have hmy : m * x = y := hy.symm
          have HNY : Hid (tailProd (sh.drop (n - (t + 1))) = y) := by show _ = _; rw [unhide HNX, if_pos (by omega), hmy]
          clear hx hm hj hy hst HNX
          go_wp2_with fail
          go_roundw
          case rel => exact ⟨t + 1, by omega, by rw [unhide HJ]; go_num, by rw [unhide HNY] <;> (rw [show max x 1 = x by omega]; have h := hwy; rw [IntKind.wrap_i64] at h; unfold wrap64; rw [h]), HLn, hide ((unhide hbut).setCell (p := ⟨p + 1, 7 + j, none⟩) rfl _)⟩
          case measure => (simp [intOf] <;> omega)
      · obtain rfl : t = n := by omega
        have e1 : ((t : Int) - 1 - (t : Nat)) = -1 := by omega
        rw [e1]
        have hfin := unhide hb
        have e2 : wholeN sh t = wholeSt sh := by rw [← unhide hl]; exact wholeN_all sh
        rw [e2] at hfin
        generalize hff : fl 0 sh (wholeSt sh) = f at *
        have HFF := hide hff
        have KZ := (unhide JZ).but (unhide hbut) (by show ¬ (p = p + 1); omega)
        have KB := hide ((unhide HW4).trans ((unhide hbut).below (B := p) (by omega) (fun k hk => by omega)))
        obtain ⟨x0, x1, x2, x3, x4, x5, x6, x7, x8, x9, x10, x11, y0, y1, y2, y3, y4, y5, y6, y7, y8, y9, y10, y11, xl⟩ := hfin.all
        obtain ⟨z0, z1, z2, z3, z4, z5, z6, z7, z8, z9, z10, z11, f0, f1, f2, f3, f4, f5, f6, f7, f8, f9, f10, f11, zl⟩ := KZ.all
        clear hff hfin KZ JZ JL hb hbut
        go_wp2_with fail
        refine bodyPost_ret (v := lay f) (by simp [results, Tryz.results230, go_sem, z0, z1, z2, z3, z4, z5, z6, z7, z8, z9, z10, z11]) rfl ?_
        exact ⟨by rw [← unhide HFF], by rw [unhide HPP]; exact Below.sets12 (unhide KB) (by omega) f⟩
end Go.Proofs.YtgjpchnkodnieaaGreatDoor
namespace Go.Proofs.YtgjpchnkodnieaaGreatDoor
open Go.RowKit
theorem step_copy_but {ops : Array Oper} {o : Oper} {a : Act} {w : World} {K : Act → World → Prop} {Q : Exit → Act → World → Prop} {E : Prop} (hgd : o.guard = none) (d s : Operand)
    (ho : o.op = .call { callee := .builtin .copy, args := #[d, s], argTypes := #[23, 23] }) (hsz : (Tryz.prog.info? 3).map (·.size) = some 1)
    (dp sp : Option Addr) (dLen dCap sLen sCap : Nat) (hd : a.eval d = .slice dp dLen dCap) (hs : a.eval s = .slice sp sLen sCap)
    (g off : Nat) (cur : List Value) (t : TypeId) (hg : w.heap[g]? = some (.cells cur.toArray t (0, 0))) (cs : List Value) (hn : cs.length = Nat.min sLen dLen)
    (hpos : 0 < cs.length → dp = some ⟨g, off, none⟩ ∧ ∃ ad, sp = some ad ∧ ∀ j v, cs[j]? = some v → w.cell? (ad.add j) = some v)
    (hfit : off + cs.length ≤ cur.length) (h1 : ∀ v ∈ cs, v.oneCell' = true)
    (h : ∀ w', Hid (w'.heap[g]? = some (.cells (splice cur off cs).toArray t (0, 0))) → But (fun k => k = g) w w' → K (a.put o.dst (goInt cs.length)) w') :
    if Region.wanted o (yielded ops a.tmps) = true then Oper.wp Tryz.prog o a w K Q else E := by
  have hw : Region.wanted o (yielded ops a.tmps) = true := by simp [Region.wanted, hgd]
  rw [if_pos hw]
  by_cases h0 : cs.length = 0
  · obtain rfl : cs = [] := List.eq_nil_of_length_eq_zero h0
    have hrun := run_copy_none (P := Tryz.prog) w 23 23 o.type 3 dp sp dLen dCap sLen sCap Tryz.underlying23 hsz (by simpa using hn.symm)
    unfold Oper.wp
    simp [execOp, ho, resolve, invoke, builtin, hd, hs, hrun, Result.andThen]
    exact h w (show _ = _ by simpa [splice] using hg) (But.refl _ _)
  · obtain ⟨rfl, ad, rfl, hsrc⟩ := hpos (by omega)
    have hrun := run_copy_row (P := Tryz.prog) w 23 23 o.type 3 g off dLen dCap ad sLen sCap cur.toArray t cs Tryz.underlying23 hsz hg hn hsrc (by simpa using hfit) h1
    unfold Oper.wp
    simp [execOp, ho, resolve, invoke, builtin, hd, hs, hrun, Result.andThen]
    exact h _ (show _ = _ by simpa [splice] using setRow_heap w g _ _ t _ hg) ⟨rfl, rfl, rfl, by simp [World.setRow], fun k _ hk => setRow_other w g k _ hk⟩
theorem wpList_copy_but {ops : Array Oper} {rest : List Oper} {o : Oper} {a : Act} {w : World} {Q : Exit → Act → World → Prop} (hgd : o.guard = none) (d s : Operand)
    (ho : o.op = .call { callee := .builtin .copy, args := #[d, s], argTypes := #[23, 23] }) (hsz : (Tryz.prog.info? 3).map (·.size) = some 1)
    (dp sp : Option Addr) (dLen dCap sLen sCap : Nat) (hd : a.eval d = .slice dp dLen dCap) (hs : a.eval s = .slice sp sLen sCap)
    (g off : Nat) (cur : List Value) (t : TypeId) (hg : w.heap[g]? = some (.cells cur.toArray t (0, 0))) (cs : List Value) (hn : cs.length = Nat.min sLen dLen)
    (hpos : 0 < cs.length → dp = some ⟨g, off, none⟩ ∧ ∃ ad, sp = some ad ∧ ∀ j v, cs[j]? = some v → w.cell? (ad.add j) = some v)
    (hfit : off + cs.length ≤ cur.length) (h1 : ∀ v ∈ cs, v.oneCell' = true)
    (h : ∀ w', Hid (w'.heap[g]? = some (.cells (splice cur off cs).toArray t (0, 0))) → But (fun k => k = g) w w' → wpList Tryz.prog ops Q rest (a.put o.dst (goInt cs.length)) w') :
    wpList Tryz.prog ops Q (o :: rest) a w := by
  by_cases h0 : cs.length = 0
  · obtain rfl : cs = [] := List.eq_nil_of_length_eq_zero h0
    refine wpList_copy_nothing hgd d s 23 23 ho 3 Tryz.underlying23 hsz dp sp dLen dCap sLen sCap hd hs (by simpa using hn.symm) ?_
    exact h w (show _ = _ by simpa [splice] using hg) (But.refl _ _)
  · obtain ⟨rfl, ad, rfl, hsrc⟩ := hpos (by omega)
    refine wpList_copy_own hgd d s 23 23 ho 3 Tryz.underlying23 hsz g off dLen dCap ad sLen sCap hd hs cur.toArray t hg cs hn hsrc (by simpa using hfit) h1 ?_
    exact h _ (show _ = _ by simpa [splice] using setRow_heap w g _ _ t _ hg) ⟨rfl, rfl, rfl, by simp [World.setRow], fun k _ hk => setRow_other w g k _ hk⟩
end Go.Proofs.YtgjpchnkodnieaaGreatDoor
namespace Go.Proofs.YtgjpchnkodnieaaGreatDoor
open Go.RowKit
set_option maxRecDepth 20000 in
set_option maxHeartbeats 4000000 in
theorem flipped_any (f : Nat → Int) (k : Nat) (hk : k < 5) (x y : Int) (hx : Hid (f (2 + k) = x)) (hy : Hid (f (7 + k) = y)) (hx0 : 0 ≤ x) (hx1 : x ≤ 10000) (hy0 : -10000 ≤ y) (hy1 : y ≤ 10000) (hc0 : -10000 ≤ f 0) (hc1 : f 0 ≤ 10000) (z : Int) (HZ0 : Hid (z = (x - 1) * y)) (w : World) :
    Calls Tryz.prog 95 #[lay f, .int .i64 k] w fun e w' => e = .returned (lay (if 1 < x then upd (upd f 0 (f 0 + z)) (7 + k) (-y) else f)) ∧ Below w.heap.size w w' := by
  obtain ⟨W, hW⟩ : ∃ W, ((w.alloc (objL f)).alloc objZ) = W := ⟨_, rfl⟩
  obtain ⟨B0, B1, hB⟩ := lays2 w f
  rw [hW] at B0 B1 hB
  have hki : (k : Int) < 5 := by omega
  have hk0 : (0 : Int) ≤ k := by omega
  have hcx : W.cell? ⟨w.heap.size, 2 + k, none⟩ = some (.int .i64 x) := by rw [B0.at (by omega), unhide hx]
  have hcy : W.cell? ⟨w.heap.size, 7 + k, none⟩ = some (.int .i64 y) := by rw [B0.at (by omega), unhide hy]
  have HL := hide B0
  have HZ := hide B1
  have HB := hide hB
  have hz1 := B1.lt
  clear B0 B1 hB hz1
  by_cases h1 : 1 < x
  · have hz := unhide HZ0
    have hzb : -100000000 ≤ z ∧ z ≤ 100000000 := by
      rw [hz]
      have q1 := Int.mul_le_mul_of_nonneg_left hy1 (by omega : 0 ≤ x - 1)
      have q2 := Int.mul_le_mul_of_nonneg_left hy0 (by omega : 0 ≤ x - 1)
      have q3 : (x - 1) * -10000 = -((x - 1) * 10000) := by rw [Int.mul_neg]
      omega
    have hw1 : IntKind.i64.wrap (x - 1) = x - 1 := by rw [IntKind.wrap_i64]; omega
    have hw2 : IntKind.i64.wrap (y * (x - 1)) = z := by rw [Int.mul_comm, ← hz, IntKind.wrap_i64]; omega
    have hw3 : IntKind.i64.wrap (f 0 + z) = f 0 + z := by rw [IntKind.wrap_i64]; omega
    have hw4 : IntKind.i64.wrap (-y) = -y := by rw [IntKind.wrap_i64]; omega
    have hc0' := (unhide HL).at (i := 0) (by omega)
    have hf0' := (unhide HL).free 0
    clear hz
    go_enter Tryz.func95, Tryz.ntmps95
    go_upto_region 2 with fail
    go_cut [] (fun wx => LBox wx w.heap.size (upd f 0 (f 0 + z)) ∧ But (fun k => k = w.heap.size) W wx)
    case first =>
      as_aux_lemma =>
        go_region
        all_goals go_wp2_with fail
        all_goals go_meet
        all_goals case rel => exact ⟨(unhide HL).set (by omega) _, ((But.refl (fun k => k = w.heap.size) W).setCell (p := ⟨w.heap.size, 0, none⟩) rfl _).drew⟩
    case rest =>
      obtain ⟨w3, hw3⟩ : ∃ x, x = wc := ⟨_, rfl⟩
      subst hw3
      obtain ⟨hq, hbut⟩ := hcut
      have HL3 := hide hq
      have HZ3 := hide ((unhide HZ).but hbut (by show ¬ (w.heap.size + 1 = w.heap.size); omega))
      have HB3 := hide ((unhide HB).trans (hbut.below (B := w.heap.size) (unhide HB).size (fun k hk => by omega)))
      clear hcx hcy hc0' hf0' hq hbut hW HL HZ HB W
      have hcy : w3.cell? ⟨w.heap.size, 7 + k, none⟩ = some (.int .i64 y) := by rw [(unhide HL3).at (by omega)]; unfold upd; rw [if_neg (by omega), unhide hy]
      have hfy := (unhide HL3).free (7 + k)
      have HL4 := hide ((unhide HL3).set (i := 7 + k) (by omega) (-y))
      have HZ4 := hide ((unhide HZ3).other (q := ⟨w.heap.size, 7 + k, none⟩) (by show w.heap.size + 1 ≠ w.heap.size; omega) (.int .i64 (-y)))
      have HB4 := hide ((unhide HB3).setCell (p := ⟨w.heap.size, 7 + k, none⟩) (Nat.le_refl _) (.int .i64 (-y)))
      go_upto_region 4 with fail
      generalize w3.setCell ⟨w.heap.size, 7 + k, none⟩ (.int .i64 (-y)) = w4 at *
      generalize hff : upd (upd f 0 (f 0 + z)) (7 + k) (-y) = g at *
      have HFF := hide hff
      clear hff hcy hfy HL3 HZ3 HB3 w3
      obtain ⟨x0, x1, x2, x3, x4, x5, x6, x7, x8, x9, x10, x11, y0, y1, y2, y3, y4, y5, y6, y7, y8, y9, y10, y11, xl⟩ := (unhide HL4).all
      obtain ⟨z0, z1, z2, z3, z4, z5, z6, z7, z8, z9, z10, z11, f0, f1, f2, f3, f4, f5, f6, f7, f8, f9, f10, f11, zl⟩ := (unhide HZ4).all
      go_wp2
      refine bodyPost_ret (v := lay g) (by simp [results, Tryz.results95, go_sem, z0, z1, z2, z3, z4, z5, z6, z7, z8, z9, z10, z11]) rfl ?_
      exact ⟨by rw [← unhide HFF], Below.sets12 (unhide HB4) (by omega) g⟩
  · obtain ⟨x0, x1, x2, x3, x4, x5, x6, x7, x8, x9, x10, x11, y0, y1, y2, y3, y4, y5, y6, y7, y8, y9, y10, y11, xl⟩ := (unhide HL).all
    obtain ⟨z0, z1, z2, z3, z4, z5, z6, z7, z8, z9, z10, z11, f0, f1, f2, f3, f4, f5, f6, f7, f8, f9, f10, f11, zl⟩ := (unhide HZ).all
    go_enter Tryz.func95, Tryz.ntmps95
    go_wp2
    refine bodyPost_ret (v := lay f) (by simp [results, Tryz.results95, go_sem, z0, z1, z2, z3, z4, z5, z6, z7, z8, z9, z10, z11]) rfl ?_
    exact ⟨rfl, Below.sets12 (unhide HB) (by omega) f⟩
end Go.Proofs.YtgjpchnkodnieaaGreatDoor
namespace Go.Proofs.YtgjpchnkodnieaaGreatDoor
open Go.RowKit Go.Shelf
def FoldIs (ga gb : Addr) (op : Int) (v : Value) (w : World) : Prop :=
  ∃ g lb, v = .func (.func g) #[] lb ∧ (∀ args w, (callFunc g args).run Tryz.prog w = .ok (.enter g args) w) ∧ ∀ (W : World) (a2 : Addr) (n2 c2 s t C : Nat) (dt : List Int), Below w.heap.size w W → C ≤ 1000000 → Row W (some a2) n2 dt → (∀ k, k < C → s + k * t < n2) → (∀ k, k < n2 → -1000000000000000 ≤ dt.getD k 0 ∧ dt.getD k 0 ≤ 1000000000000000) →
    Calls Tryz.prog g (#[.agg #[.slice (some a2) n2 c2, .int .i64 s, .int .i64 t, .int .i64 (C : Nat)]] ++ lb) W fun e w' => e = .returned (.tuple #[.int .i64 (foldR op (stripOf dt s t C)).1, errV ga gb (foldR op (stripOf dt s t C)).2]) ∧ Below W.heap.size W w'
theorem FoldIs.below {ga gb : Addr} {op : Int} {v : Value} {w w' : World} (h : FoldIs ga gb op v w) (hb : Below w.heap.size w w') : FoldIs ga gb op v w' := by
  obtain ⟨g, lb, hv, eg, hc⟩ := h
  exact ⟨g, lb, hv, eg, fun W a2 n2 c2 s t C dt hW => hc W a2 n2 c2 s t C dt (hb.trans (hW.mono hb.size))⟩
end Go.Proofs.YtgjpchnkodnieaaGreatDoor
