import Derived.Test.YtgjpchnkodnieaaGreatDoorZv11
import Derived.Test.YtgjpchnkodnieaaGreatDoorZv12
import Derived.Test.YtgjpchnkodnieaaGreatDoorZv13
import Derived.Test.YtgjpchnkodnieaaGreatDoorZv00
import Derived.BigQuiet
import Derived.Test.YtgjpchnkodnieaaGreatDoorChecked
import Derived.Test.YtgjpchnkodnieaaGreatDoorZv04
import Derived.Test.YtgjpchnkodnieaaGreatDoorZv05
import Derived.Test.YtgjpchnkodnieaaGreatDoorZv01
import Derived.Test.YtgjpchnkodnieaaGreatDoorZv07
import Derived.Test.YtgjpchnkodnieaaGreatDoorZv03
import Derived.Test.YtgjpchnkodnieaaGreatDoorZv09
import Derived.Test.YtgjpchnkodnieaaGreatDoorZv02
import Derived.Shelf.Spec.SlicesGrow
import Derived.Deep.WholeRow
import Derived.Laws.CopyOwn
import Derived.Laws.StructEq
import Derived.Test.YtgjpchnkodnieaaGreatDoorZv14
import Derived.RangeFuncRecord
namespace Go.Proofs.YtgjpchnkodnieaaGreatDoor
open Go.RowKit Go.Shelf
def GivesEl (ga gb : Addr) (r : Int × Int) (w : World) (e : Ending) (w' : World) : Prop := e = .returned (.tuple #[.int .i64 r.1, errV ga gb r.2]) ∧ ∃ q, w' = w.drewN q
end Go.Proofs.YtgjpchnkodnieaaGreatDoor
namespace Go.Proofs.YtgjpchnkodnieaaGreatDoor
open Go.RowKit
def upToN (L k : Nat) : List Int := (List.range L).map fun (i : Nat) => if i < k then (i : Int) + 1 else 0
theorem upToN_zero (L : Nat) : upToN L 0 = List.replicate L 0 := by
  apply List.ext_getElem <;> simp [upToN]
theorem upToN_all (L : Nat) : upToN L L = upTo L := map_range_eq fun i hi => by rw [if_pos hi]
theorem upToN_step {L k : Nat} : (upToN L k).set k ((k : Int) + 1) = upToN L (k + 1) := by
  unfold upToN
  rw [map_range_set]
  refine map_range_eq fun i hi => ?_
  by_cases h : i = k
  · subst h; simp
  · rw [if_neg h]
    by_cases h2 : i < k
    · rw [if_pos h2, if_pos (by omega)]
    · rw [if_neg h2, if_neg (by omega)]
set_option maxHeartbeats 2000000 in
theorem numbersUpTo_any (L : Nat) (hL : L ≤ 10000) (w : World) :
    Calls Tryz.prog 218 #[.int .i64 (L : Nat)] w fun e w' => ∃ s g, e = .returned (.agg #[.bool false, .slice (some ⟨s, 0, none⟩) 1 1, .slice (some ⟨g, 0, none⟩) L L]) ∧ w.heap.size ≤ s ∧ w.heap.size ≤ g ∧ s ≠ g ∧ Blk w' s [(L : Int)] ∧ Blk w' g (upTo L) ∧ Below w.heap.size w w' := by
  have hmk := run_make_row' (P := Tryz.prog) 23 3 (.int .i64 0) 8 Tryz.underlying23 info_int rfl .i64 .i64 L (by omega) (by omega)
  go_enter Tryz.func218, Tryz.ntmps218
  go_wp2_with fail
  obtain ⟨g, hg⟩ : ∃ g, g = w.heap.size + 1 := ⟨_, rfl⟩
  obtain ⟨W, hW⟩ : ∃ W, W = (w.alloc (.cells #[.bool false, .slice none 0 0, .slice none 0 0] 25)).alloc (.cells (madeCells #[.int .i64 0] L) 3) := ⟨_, rfl⟩
  have HB0 : Hid (Box W w.heap.size false (.slice none 0 0) (.slice none 0 0)) := by rw [hW]; exact (Box.new w _ _ _).alloc _
  have HG : Hid (Blk W g (upToN L 0)) := by show Blk W g _; rw [upToN_zero, hW]; exact Blk.made _ _ _ (by rw [hg]; simp)
  have HBL : Hid (Below w.heap.size w W) := by rw [hW]; exact ((Below.refl _ w).alloc (Nat.le_refl _) _).alloc (by simp) _
  have hzw : W.heap.size = w.heap.size + 1 + 1 := by rw [hW]; simp
  have HZW := hide hzw
  have HGE := hide hg
  rw [← hW, ← hg]
  clear hW hzw hmk
  have hgw : w.heap.size < g := by omega
  clear hg
  go_loopw [9] (fun i wr => ∃ k : Nat, k ≤ L ∧ i = .int .i64 (k : Nat) ∧ Hid (Blk wr g (upToN L k)) ∧ Hid (But (fun x => x = g) W wr)) (fun i _ => L - (intOf i).toNat)
  case atStart => exact ⟨0, Nat.zero_le _, rfl, HG, hide (But.refl _ _)⟩
  case round =>
    obtain ⟨k, hk, rfl, hb, hbut⟩ := hrel
    by_cases hlt : k < L
    · have hc := (unhide hb).cell (i := k) (by simp [upToN, hlt])
      have hf := (unhide hb).free k
      have hkz : (k : Int) < (L : Int) := by omega
      go_wp2_with fail
      go_roundw
      case rel =>
        refine ⟨k + 1, by omega, by go_num, ?_, hide ((unhide hbut).setCell (p := ⟨g, k, none⟩) rfl _)⟩
        show Blk _ _ _
        rw [← upToN_step]
        exact (unhide hb).set k _
      case measure => simp [intOf]; omega
    · have e : k = L := by omega
      subst k
      obtain ⟨s, hs⟩ : ∃ s, s = wr.heap.size := ⟨_, rfl⟩
      have HBW : Hid (Below w.heap.size w wr) := (unhide HBL).trans ((unhide hbut).below (by have := unhide HZW; omega) (by rintro x rfl; omega))
      have hgl := (unhide hb).lt
      have hws := (unhide HBW).size
      have HB1 : Hid (Box (wr.alloc (.cells #[.int .i64 (L : Nat)] 3)) w.heap.size false (.slice none 0 0) (.slice none 0 0)) := ((unhide HB0).but (unhide hbut) (by show ¬ w.heap.size = g; omega)).alloc _
      obtain ⟨q0, q1, q2, q3, q4, q5, q6⟩ := (unhide HB1).all
      have hbs : Blk (wr.alloc (.cells #[.int .i64 (L : Nat)] 3)) wr.heap.size [(L : Int)] := by
        show (wr.heap.push _)[wr.heap.size]? = _
        simp
      have HBS := hide hbs
      clear hbs hk hlt
      go_wp2_with fail
      have hx := (unhide HB1).sets (c' := false) (u1 := .slice (some ⟨wr.heap.size, 0, none⟩) 1 1) (u2 := .slice (some ⟨g, 0, none⟩) L L)
      obtain ⟨r0, r1, r2, _, _, _⟩ := hx.all
      refine bodyPost_ret (v := .agg #[.bool false, .slice (some ⟨wr.heap.size, 0, none⟩) 1 1, .slice (some ⟨g, 0, none⟩) L L]) (by simp [results, Tryz.results218, go_sem, r0, r1, r2]) rfl ?_
      have n1 : wr.heap.size ≠ w.heap.size := by omega
      have n2 : g ≠ w.heap.size := by omega
      refine ⟨wr.heap.size, g, rfl, hws, by omega, by omega, ?_, ?_, ?_⟩
      · exact (((unhide HBS).other (p := ⟨w.heap.size, 0, none⟩) n1 _).other (p := ⟨w.heap.size, 1, none⟩) n1 _).other (p := ⟨w.heap.size, 2, none⟩) n1 _
      · rw [← upToN_all]
        exact ((((unhide hb).alloc _).other (p := ⟨w.heap.size, 0, none⟩) n2 _).other (p := ⟨w.heap.size, 1, none⟩) n2 _).other (p := ⟨w.heap.size, 2, none⟩) n2 _
      · exact ((((unhide HBW).alloc hws _).setCell (by simp) _).setCell (by simp) _).setCell (by simp) _
end Go.Proofs.YtgjpchnkodnieaaGreatDoor
namespace Go.Proofs.YtgjpchnkodnieaaGreatDoor
open Go.RowKit Go.Shelf
def SBox (w : World) (p : Nat) (a : Option Addr) (n c start step count : Nat) : Prop := w.heap[p]? = some (.cells #[.slice a n c, .int .i64 start, .int .i64 step, .int .i64 count] 145 (0, 0))
theorem SBox.lt {w : World} {p : Nat} {a : Option Addr} {n c start step count : Nat} (h : SBox w p a n c start step count) : p < w.heap.size := lt_of_block h
theorem SBox.cells {w : World} {p : Nat} {a : Option Addr} {n c start step count : Nat} (h : SBox w p a n c start step count) : w.cell? ⟨p, 0, none⟩ = some (.slice a n c) ∧ w.cell? ⟨p, 1, none⟩ = some (.int .i64 start) ∧ w.cell? ⟨p, 2, none⟩ = some (.int .i64 step) ∧ w.cell? ⟨p, 3, none⟩ = some (.int .i64 count) := by
  unfold SBox at h
  simp [World.cell?, h]
theorem SBox.below {w w' : World} {p B : Nat} {a : Option Addr} {n c start step count : Nat} (h : SBox w p a n c start step count) (hB : w.heap.size ≤ B) (hb : Below B w w') : SBox w' p a n c start step count := (hb.block p (Nat.lt_of_lt_of_le h.lt hB)).trans h
theorem SBox.alloc {w : World} {p : Nat} {a : Option Addr} {n c start step count : Nat} (h : SBox w p a n c start step count) (o : Obj) : SBox (w.alloc o) p a n c start step count := (Below.heap_alloc w o p h.lt).trans h
theorem SBox.new (w : World) (a : Option Addr) (n c start step count : Nat) : SBox (w.alloc (.cells #[.slice a n c, .int .i64 start, .int .i64 step, .int .i64 count] 145 (0, 0))) w.heap.size a n c start step count := heap_alloc_last w _
end Go.Proofs.YtgjpchnkodnieaaGreatDoor
namespace Go.Proofs.YtgjpchnkodnieaaGreatDoor
open Go.RowKit
set_option maxHeartbeats 400000 in
theorem isOffset_eq (v : Int) (r : Bool) (hr : Hid (viewIn v = r)) (w : World) : Calls Tryz.prog 172 #[.int .i64 v] w fun e w' => e = .returned (.bool r) ∧ w' = w := by
  have HW : Hid (withinB v (-10000) 10000 = r) := hr
  go_enter Tryz.func172, Tryz.ntmps172
  go_wp2_with (go_at_call 50; refine (isWithin_eq _ _ _ _ r HW).mono ?_; rintro e w' ⟨rfl, rfl⟩)
  go_ret
  exact ⟨rfl, rfl⟩
set_option maxHeartbeats 2000000 in
theorem isFormed_eq (off : Int) (a1 a2 : Option Addr) (n1 n2 c1 c2 : Nat) (sh st : List Int) (w : World) (h1 : Row w a1 n1 sh) (h2 : Row w a2 n2 st) (r : Bool) (hr : Hid (formed off sh st = r)) :
    Calls Tryz.prog 160 #[.agg #[.int .i64 off, .slice a1 n1 c1, .slice a2 n2 c2]] w fun e w' => e = .returned (.bool r) ∧ Below w.heap.size w w' := by
  have hl1 := hide h1.len
  have hl2 := hide h2.len
  have hs1 := h1.small
  have hs2 := h2.small
  have H1 := hide h1
  have H2 := hide h2
  clear h1 h2
  have hW : ∀ o, Below w.heap.size w (w.alloc o) := fun o => (Below.refl _ _).alloc (Nat.le_refl _) _
  obtain ⟨r1, hr1⟩ : ∃ r, shapeB sh = r := ⟨_, rfl⟩
  have HR1 := hide hr1
  clear hr1
  cases r1 with
  | false =>
    have HE : Hid (r = false) := by rw [← unhide hr]; exact formed_no1 (unhide HR1)
    go_enter Tryz.func160, Tryz.ntmps160
    go_wp2_with (go_at_call 114; refine (shapeOk_eq _ _ _ sh _ ((unhide H1).alloc _) _ HR1).mono ?_; rintro e wq ⟨rfl, hw⟩; obtain rfl := hw.symm)
    go_ret
    exact ⟨ret_bool (by rw [unhide HE]), hW _⟩
  | true =>
    by_cases hn : n2 = n1
    · subst hn
      obtain ⟨r3, hr3⟩ : ∃ r, viewIn off = r := ⟨_, rfl⟩
      have HR3 := hide hr3
      clear hr3
      go_enter Tryz.func160, Tryz.ntmps160
      go_wp2_with (go_at_call 114; refine (shapeOk_eq _ _ _ sh _ ((unhide H1).alloc _) _ HR1).mono ?_; rintro e wq ⟨rfl, hw⟩; obtain rfl := hw.symm)
      go_loop [21] (fun i => ∃ k : Nat, k ≤ n2 ∧ i = .int .i64 k ∧ Hid ((st.take k).all viewIn = true)) (fun i => n2 - (intOf i).toNat)
      case atStart => exact ⟨0, Nat.zero_le _, rfl, rfl⟩
      case round =>
        obtain ⟨k, hk, rfl, hall⟩ := hrel
        by_cases hlt : k < n2
        · obtain ⟨b, o, rfl, hb, hc⟩ := (unhide H2).get hlt
          have hc' := ((hW (.cells #[.int .i64 off, .slice a1 n2 c1, .slice (some ⟨b, o, none⟩) n2 c2] 46)).cell (p := ⟨b, o + k, none⟩) hb).trans hc
          have hks : Hid (k < st.length) := by show k < st.length; rw [unhide hl2]; exact hlt
          obtain ⟨x, hx⟩ : ∃ x, x = st.getD k 0 := ⟨_, rfl⟩
          rw [← hx] at hc'
          have HX := hide hx
          obtain ⟨rx, hrx⟩ : ∃ r, viewIn x = r := ⟨_, rfl⟩
          have HRX := hide hrx
          clear hx hc hrx
          cases rx with
          | false =>
            have HE : Hid (r = false) := by rw [← unhide hr]; exact formed_no4 (all_not st viewIn k (unhide hks) (by rw [← unhide HX]; exact unhide HRX))
            go_wp2_with (go_at_call 172; refine (isOffset_eq x _ HRX _).mono ?_; rintro e wq ⟨rfl, hw⟩; obtain rfl := hw.symm)
            go_ret
            exact ⟨ret_bool (by rw [unhide HE]), hW _⟩
          | true =>
            have HA := hide (all_step st viewIn k (unhide hks) (unhide hall) (by rw [← unhide HX]; exact unhide HRX))
            go_wp2_with (go_at_call 172; refine (isOffset_eq x _ HRX _).mono ?_; rintro e wq ⟨rfl, hw⟩; obtain rfl := hw.symm)
            go_round
            case rel => exact ⟨k + 1, by omega, by go_num, HA⟩
            case measure => simp [intOf]; omega
        · have HE : Hid (r = r3) := by
            rw [← unhide hr]
            have := unhide hall
            rw [List.take_of_length_le (by rw [unhide hl2]; omega)] at this
            cases r3 with
            | true => exact formed_yes (unhide HR1) (by rw [unhide hl1, unhide hl2]) (unhide HR3) this
            | false => exact formed_no3 (unhide HR3)
          go_wp2_with (go_at_call 172; refine (isOffset_eq off _ HR3 _).mono ?_; rintro e wq ⟨rfl, hw⟩; obtain rfl := hw.symm)
          go_ret
          exact ⟨ret_bool (by rw [unhide HE]), hW _⟩
    · have g0 : ((n2 : Int) != (n1 : Int)) = true := by simp; omega
      have HE : Hid (r = false) := by rw [← unhide hr]; exact formed_no2 (by rw [unhide hl1, unhide hl2]; exact hn)
      clear hn
      go_enter Tryz.func160, Tryz.ntmps160
      go_wp2_with (go_at_call 114; refine (shapeOk_eq _ _ _ sh _ ((unhide H1).alloc _) _ HR1).mono ?_; rintro e wq ⟨rfl, hw⟩; obtain rfl := hw.symm)
      go_ret
      exact ⟨ret_bool (by rw [unhide HE]), hW _⟩
end Go.Proofs.YtgjpchnkodnieaaGreatDoor
namespace Go.Proofs.YtgjpchnkodnieaaGreatDoor
open Go.RowKit
theorem run_eq_arr5 (d : Nat) (a0 a1 a2 a3 a4 b0 b1 b2 b3 b4 : Int) (w : World) : (Op.equalIn (d + 1 + 1) 99 (.agg #[.int .i64 a0, .int .i64 a1, .int .i64 a2, .int .i64 a3, .int .i64 a4]) (.agg #[.int .i64 b0, .int .i64 b1, .int .i64 b2, .int .i64 b3, .int .i64 b4])).run Tryz.prog w = .ok (a0 == b0 && (a1 == b1 && (a2 == b2 && (a3 == b3 && a4 == b4)))) w := by
  have u3 := Tryz.underlying3
  have z3 := Tryz.sizeOf3
  rw [Op.equalIn]
  simp only [Sem.run_bind, run_underlying Tryz.underlying99, Result.andThen_ok]
  simp only [Std.Legacy.Range.forIn_eq_forIn_range', Std.Legacy.Range.size, Nat.sub_zero, Nat.add_sub_cancel, Nat.div_one, List.range'_succ, List.range'_zero, List.forIn_cons, List.forIn_nil]
  go_simp
  by_cases h0 : a0 = b0
  · by_cases h1 : a1 = b1
    · by_cases h2 : a2 = b2
      · by_cases h3 : a3 = b3
        · by_cases h4 : a4 = b4 <;> simp [h0, h1, h2, h3, h4]
        · simp [h0, h1, h2, h3]
      · simp [h0, h1, h2]
    · simp [h0, h1]
  · simp [h0]
theorem run_neq_lay (f g : Nat → Int) (r : Bool) (hr : Hid ((∀ i, i < 12 → f i = g i) ↔ r = true)) (w : World) : (binOp .neq 101 (lay f) (lay g)).run Tryz.prog w = .ok (.bool (!r)) w := by
  have u3 := Tryz.underlying3
  have hS : Tryz.prog.underlying 101 = some (.struct (Tryz.prog.fieldsOf 101)) := by kernel_rfl
  have hp : Tryz.prog.stoodInHeld 101 = false := by kernel_rfl
  have e1 := fun w => run_eq_arr5 9997 (f 2) (f 3) (f 4) (f 5) (f 6) (g 2) (g 3) (g 4) (g 5) (g 6) w
  have e2 := fun w => run_eq_arr5 9997 (f 7) (f 8) (f 9) (f 10) (f 11) (g 7) (g 8) (g 9) (g 10) (g 11) w
  have key : (Op.equalIn 10000 101 (lay f) (lay g)).run Tryz.prog w = .ok r w := by
    rw [show (10000 : Nat) = 9999 + 1 from rfl, run_equalIn_agg w 9999 101 _ _ hS hp]
    simp only [Program.fieldsOf, Tryz.underlying101]
    go_simp
    cases r with
    | true =>
      have h := (unhide hr).mpr rfl
      simp [h 0 (by omega), h 1 (by omega), h 2 (by omega), h 3 (by omega), h 4 (by omega), h 5 (by omega), h 6 (by omega), h 7 (by omega), h 8 (by omega), h 9 (by omega), h 10 (by omega), h 11 (by omega)]
    | false =>
      have h : ¬ ∀ i, i < 12 → f i = g i := fun h => by cases (unhide hr).mp h
      by_cases h0 : f 0 = g 0
      · by_cases h1 : f 1 = g 1
        · rw [if_pos h0, if_pos h1]
          split
          · rfl
          · rename_i h2
            split
            · rfl
            · rename_i h3
              exfalso
              simp only [Classical.not_imp, Classical.not_not] at h2 h3
              obtain ⟨k2, k3, k4, k5, k6⟩ := h2
              obtain ⟨k7, k8, k9, k10, k11⟩ := h3
              apply h
              intro i hi
              rcases i with _ | _ | _ | _ | _ | _ | _ | _ | _ | _ | _ | _ | i
              · exact h0
              · exact h1
              · exact k2
              · exact k3
              · exact k4
              · exact k5
              · exact k6
              · exact k7
              · exact k8
              · exact k9
              · exact k10
              · exact k11
              · exact absurd hi (by omega)
        · rw [if_pos h0, if_neg h1]
      · rw [if_neg h0]
  rw [run_neq_struct, key]
  rfl
end Go.Proofs.YtgjpchnkodnieaaGreatDoor
namespace Go.Proofs.YtgjpchnkodnieaaGreatDoor
open Go.RowKit
def Res5 (w : World) (d : Bool) (zs ys : List Int) (n N box : Nat) (wx : World) : Prop :=
  ∃ ash csh gd, Box wx box d (.slice ash n csh) (.slice (some ⟨gd, 0, none⟩) N N) ∧ Own wx w.heap.size ash n zs ∧ w.heap.size ≤ gd ∧ Blk wx gd ys ∧ ¬ At ash n gd ∧ Below w.heap.size w wx
theorem Res5.set {w W : World} {d : Bool} {zs ys : List Int} {n N box gd csh : Nat} {ash : Option Addr} {v1 v2 : Value} {c : Bool} (hb : Box W box c v1 v2) (hO : Own W w.heap.size ash n zs) (hg : w.heap.size ≤ gd) (hB : Blk W gd ys) (hne : ¬ At ash n gd) (hbl : Below w.heap.size w W) (hb1 : ¬ At ash n box) (hb2 : gd ≠ box) (hw : w.heap.size ≤ box) :
    Res5 w d zs ys n N box (((W.setCell ⟨box, 0, none⟩ (.bool d)).setCell ⟨box, 1, none⟩ (.slice ash n csh)).setCell ⟨box, 2, none⟩ (.slice (some ⟨gd, 0, none⟩) N N)) := by
  have hk : ∀ k, At ash n k → k ≠ box := fun k hk e => hb1 (e ▸ hk)
  exact ⟨ash, csh, gd, hb.sets, ((hO.other (q := ⟨box, 0, none⟩) hk _).other (q := ⟨box, 1, none⟩) hk _).other (q := ⟨box, 2, none⟩) hk _, hg, ((hB.other (p := ⟨box, 0, none⟩) hb2 _).other (p := ⟨box, 1, none⟩) hb2 _).other (p := ⟨box, 2, none⟩) hb2 _, hne, ((hbl.setCell (p := ⟨box, 0, none⟩) hw _).setCell (p := ⟨box, 1, none⟩) hw _).setCell (p := ⟨box, 2, none⟩) hw _⟩
theorem gives_res {w wx : World} {d : Bool} {zs ys : List Int} {n N gd csh : Nat} {ash : Option Addr} (hl : ys.length = N) (hN : N ≤ 17592186044416) (hO : Own wx w.heap.size ash n zs) (hg : w.heap.size ≤ gd) (hB : Blk wx gd ys) (hne : ¬ At ash n gd) (hbl : Below w.heap.size w wx) :
    GivesOwn w ⟨d, zs, ys, 0⟩ (.returned (.tuple #[.agg #[.bool d, .slice ash n csh, .slice (some ⟨gd, 0, none⟩) N N], .int .i64 0])) wx :=
  ⟨ash, n, csh, some ⟨gd, 0, none⟩, N, N, rfl, hO, hB.own hl hN hg, fun k h1 h2 => by have := at_eq h2; subst this; exact hne h1, hbl⟩
end Go.Proofs.YtgjpchnkodnieaaGreatDoor
namespace Go.Proofs.YtgjpchnkodnieaaGreatDoor
open Go.RowKit
structure Var (W : World) (p : Nat) (c : Bool) (e1 : Option Addr) (k1 f1 : Nat) (e2 : Option Addr) (k2 f2 : Nat) (sh dt : List Int) : Prop where
  box : Box W p c (.slice e1 k1 f1) (.slice e2 k2 f2)
  r1 : Row W e1 k1 sh
  r2 : Row W e2 k2 dt
section
variable {W V : World} {p : Nat} {c : Bool} {e1 e2 : Option Addr} {k1 f1 k2 f2 : Nat} {sh dt : List Int}
theorem Var.below (h : Var W p c e1 k1 f1 e2 k2 f2 sh dt) (hb : Below W.heap.size W V) : Var V p c e1 k1 f1 e2 k2 f2 sh dt :=
  ⟨h.box.below (Nat.le_refl _) hb, h.r1.below (Nat.le_refl _) hb, h.r2.below (Nat.le_refl _) hb⟩
theorem Var.cells (h : Var W p c e1 k1 f1 e2 k2 f2 sh dt) : W.cell? ⟨p, 0, none⟩ = some (.bool c) ∧ W.cell? ⟨p, 1, none⟩ = some (.slice e1 k1 f1) ∧ W.cell? ⟨p, 2, none⟩ = some (.slice e2 k2 f2) := h.box.cells
theorem Var.new (r1 : Row W e1 k1 sh) (r2 : Row W e2 k2 dt) : Var (W.alloc (.cells #[.bool c, .slice e1 k1 f1, .slice e2 k2 f2] 25 (0, 0))) W.heap.size c e1 k1 f1 e2 k2 f2 sh dt :=
  ⟨Box.new W _ _ _, r1.alloc _, r2.alloc _⟩
theorem Var.put {x : Bool} {a1 a2 : Option Addr} {l1 l2 m1 m2 : Nat} (h : Box W p x (.slice a1 l1 m1) (.slice a2 l2 m2)) (r1 : Row W e1 k1 sh) (r2 : Row W e2 k2 dt) : Var (((W.setCell ⟨p, 0, none⟩ (.bool c)).setCell ⟨p, 1, none⟩ (.slice e1 k1 f1)).setCell ⟨p, 2, none⟩ (.slice e2 k2 f2)) p c e1 k1 f1 e2 k2 f2 sh dt :=
  ⟨h.sets, r1.sets h _ _ _, r2.sets h _ _ _⟩
theorem Var.but {q : Nat} {x : Bool} {a1 a2 : Option Addr} {l1 l2 m1 m2 : Nat} (h : Var W p c e1 k1 f1 e2 k2 f2 sh dt) (hq : Box W q x (.slice a1 l1 m1) (.slice a2 l2 m2)) (hb : But (fun y => y = q) W V) (hp : ¬ p = q) : Var V p c e1 k1 f1 e2 k2 f2 sh dt :=
  ⟨h.box.but hb hp, hb.row h.r1 (fun _ hx hh => h.r1.notBox hq hh hx), hb.row h.r2 (fun _ hx hh => h.r2.notBox hq hh hx)⟩
end
end Go.Proofs.YtgjpchnkodnieaaGreatDoor
namespace Go.Proofs.YtgjpchnkodnieaaGreatDoor
open Go.RowKit
set_option maxHeartbeats 2000000 in
theorem lwVector_some (ad : Addr) (n c : Nat) (zs : List Int) (w : World) (h : Row w (some ad) n zs) :
    Calls Tryz.prog 16 #[.slice (some ad) n c] w fun e w' => ∃ g1 g2 d2, e = .returned (.agg #[.bool false, .slice (some ⟨g1, 0, none⟩) 1 1, .slice (some ⟨g2, 0, none⟩) n d2]) ∧ Own w' w.heap.size (some ⟨g1, 0, none⟩) 1 [(n : Int)] ∧ Own w' w.heap.size (some ⟨g2, 0, none⟩) n zs ∧ n ≤ d2 ∧ Below w.heap.size w w' := by
  have hl := h.len
  have hs := h.small
  have H := hide h
  clear h
  obtain ⟨i0, hi, hz0, hz1, hz2⟩ := info_parts info_int
  have HOE : Hid ((((w.alloc (.cells #[.bool false, .slice none 0 0, .slice none 0 0] 25)).alloc (.cells #[.int .i64 (n : Nat)] 3)).alloc (.cells #[] 3)).ownsRow (w.heap.size + 1 + 1) 3 1 (.slice (some ⟨w.heap.size + 1 + 1, 0, none⟩) 0 0) 0 []) := by
    have := owns_empty ((w.alloc (.cells #[.bool false, .slice none 0 0, .slice none 0 0] 25)).alloc (.cells #[.int .i64 (n : Nat)] 3))
    exact hide (by simpa using this)
  have HX : Hid (Box ((w.alloc (.cells #[.bool false, .slice none 0 0, .slice none 0 0] 25)).alloc (.cells #[.int .i64 (n : Nat)] 3)) w.heap.size false (.slice none 0 0) (.slice none 0 0)) := (Box.new w _ _ _).alloc _
  have HO1 : Hid (Own ((w.alloc (.cells #[.bool false, .slice none 0 0, .slice none 0 0] 25)).alloc (.cells #[.int .i64 (n : Nat)] 3)) w.heap.size (some ⟨w.heap.size + 1, 0, none⟩) 1 [(n : Int)]) := by
    have hb := World.alloc_heap_new (w.alloc (.cells #[.bool false, .slice none 0 0, .slice none 0 0] 25)) (.cells #[.int .i64 (n : Nat)] 3)
    rw [World.size_alloc] at hb
    exact (show Blk _ (w.heap.size + 1) [(n : Int)] from hb).own rfl (by omega) (by omega)
  go_enter Tryz.func16, Tryz.ntmps16
  go_wp2_with (at_builtin; refine wpList_append_own _ rfl _ _ 23 rfl (w.heap.size + 1 + 1) 3 i0 (.int .i64 0) 1 8 Tryz.underlying23 hi hz0 hz1 hz2 rfl (by decide) _ _ _ rfl (unhide HOE) ad n c (zs.map (Value.int .i64)) rfl (by simpa using hl) (cells_ints ((((unhide H).alloc _).alloc _).alloc _)) (one_ints zs) (by unfold maxLen; omega) (by omega) (by simp) ?_; intro v1 w1 hown hgrow hnil; have hown' : w1.ownsRow (w.heap.size + 1 + 1) 3 1 v1 n (zs.map (Value.int .i64)) := (by simpa using hown); obtain ⟨g, cap', rfl⟩ : ∃ g cap', v1 = .slice (some ⟨g, 0, none⟩) n cap' := (by rcases hown'.2 with ⟨e, _⟩ | ⟨g, c', cur, e, _⟩; (· have := (hnil.mp e).1; cases this); exact ⟨g, c', e⟩); obtain ⟨_, _, hv, ho⟩ := Own.of_owns hown' hs; cases hv; have hcap : n ≤ cap' := (by rcases hown'.2 with ⟨h', h0⟩ | ⟨g', c', cur, h', _, _, hle, _⟩; (· simp at h'); cases h'; omega); have HO2 := hide ho; have hbel : Below (w.heap.size + 1 + 1) ((w.alloc (.cells #[.bool false, .slice none 0 0, .slice none 0 0] 25)).alloc (.cells #[.int .i64 (n : Nat)] 3)) w1 := (((Below.refl _ _).alloc (by simp) _).grown hgrow (by simp) (by intro k hk; cases hk; exact Nat.le_refl _)); have HBL := hide hbel; have HXW : Hid (Box w1 w.heap.size false (.slice none 0 0) (.slice none 0 0)) := hide (Box.below (unhide HX) (by simp) hbel); obtain ⟨y0, y1, y2, y3, y4, y5, y6⟩ := (unhide HXW).all; clear hown hgrow hnil hown' ho hbel)
  have hx := (unhide HXW).sets (c' := false) (u1 := .slice (some ⟨w.heap.size + 1, 0, none⟩) 1 1) (u2 := .slice (some ⟨g, 0, none⟩) n cap')
  obtain ⟨r0, r1, r2, _, _, _⟩ := hx.all
  refine bodyPost_ret (v := .agg #[.bool false, .slice (some ⟨w.heap.size + 1, 0, none⟩) 1 1, .slice (some ⟨g, 0, none⟩) n cap']) (by simp [results, Tryz.results16, go_sem, r0, r1, r2]) rfl ?_
  have hs' : But (fun x => x = w.heap.size) w1 (((w1.setCell ⟨w.heap.size, 0, none⟩ (.bool false)).setCell ⟨w.heap.size, 1, none⟩ (.slice (some ⟨w.heap.size + 1, 0, none⟩) 1 1)).setCell ⟨w.heap.size, 2, none⟩ (.slice (some ⟨g, 0, none⟩) n cap')) := (((But.refl (fun x => x = w.heap.size) w1).setCell (p := ⟨w.heap.size, 0, none⟩) rfl _).setCell (p := ⟨w.heap.size, 1, none⟩) rfl _).setCell (p := ⟨w.heap.size, 2, none⟩) rfl _
  have o1 : Own w1 w.heap.size (some ⟨w.heap.size + 1, 0, none⟩) 1 [(n : Int)] := (unhide HO1).below (by simp) (unhide HBL)
  have hb0 : Below w.heap.size w w1 := (((Below.refl _ w).alloc (Nat.le_refl _) _).alloc (by simp) _).trans ((unhide HBL).mono (by omega))
  exact ⟨_, _, _, rfl, hs'.own o1 (by rintro x rfl hk; have := at_eq hk; omega), hs'.own ((unhide HO2).mono (by omega)) (by rintro x rfl hk; have := (unhide HO2).low hk; omega), hcap, ((hb0.setCell (p := ⟨w.heap.size, 0, none⟩) (Nat.le_refl _) _).setCell (p := ⟨w.heap.size, 1, none⟩) (Nat.le_refl _) _).setCell (p := ⟨w.heap.size, 2, none⟩) (Nat.le_refl _) _⟩
end Go.Proofs.YtgjpchnkodnieaaGreatDoor
namespace Go.Proofs.YtgjpchnkodnieaaGreatDoor
theorem shapeInG_one {x : Int} (h : 0 ≤ x ∧ x ≤ 10000) : ShapeIn [x] := by
  refine ⟨by simp [inCells]; omega, ?_⟩
  by_cases h0 : x = 0
  · exact ⟨1, by simp [prodFrom, h0]⟩
  · exact ⟨x, by simp [prodFrom, h0]; omega⟩
theorem prodAllG_one (x : Int) : prodAll [x] = x := by simp [prodAll]
def modF (cnt : Nat) (D : List Int) (i : Nat) : Int := ((D.getD i 0).toNat % cnt : Nat)
theorem inside_of1 {x m : Int} (h1 : 0 ≤ x) (h2 : x < m) : insideN [m] [x] [m].length = true := by
  show (true && (decide (0 ≤ x) && decide (x < m))) = true
  rw [decide_eq_true h1, decide_eq_true h2]; rfl
theorem resh_gather {d : Bool} {dt : List Int} {m N k : Nat} (hk : k < N) : gatherAt d [(m : Int)] dt (modF (max m 1)) [(N : Int)] k = reshapeAt d dt m k := by
  have hd : digits [(N : Int)] (k : Int) = [(k : Int)] := by
    have : (k : Int) % (N : Int) = k := Int.emod_eq_of_lt (by omega) (by omega)
    simp [digits, digit, restN, List.range_succ, this]
  have hm : meant [(m : Int)] (modF (max m 1)) [(k : Int)] = [((k % max m 1 : Nat) : Int)] := by simp [meant, modF, List.range_succ]
  unfold gatherAt reshapeAt
  rw [hd, hm]
  by_cases h0 : m = 0
  · subst h0
    rw [if_neg (by simp [insideN]), if_pos rfl]
  · have e : max m 1 = m := by omega
    have hlt : k % m < m := Nat.mod_lt _ (by omega)
    rw [e, if_pos (inside_of1 (by omega) (by exact_mod_cast hlt)), if_neg h0]
    have e3 : place [(m : Int)] [((k % m : Nat) : Int)] = ((k % m : Nat) : Int) := by simp [place, placeN]
    rw [e3, Int.toNat_natCast]
theorem resh_vals {d : Bool} {dt zs : List Int} {m N : Nat} : (⟨d, zs, vals (gatherAt d [(m : Int)] dt (modF (max m 1)) [(N : Int)]) N, 0⟩ : Ans) = gatherAns d zs (reshapeAt d dt m) N := by
  have h0 : firstCode (reshapeAt d dt m) N = 0 := firstCode_zero.2 fun k _ => rfl
  rw [gather_good h0]
  congr 1
  exact map_range_eq fun k hk => by rw [resh_gather hk]
end Go.Proofs.YtgjpchnkodnieaaGreatDoor
