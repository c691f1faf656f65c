import Derived.Test.YtadbhidpmihghabVGot
import Derived.Test.YtadbhidpmihghabWholeMath
import Derived.Test.YtadbhidpmihghabSpecAnswer
import Derived.Test.YtadbhidpmihghabSpecShapeOk
import Derived.Deep.DeepCutAuto
namespace Go.Proofs.Ytadbhidpmihghab
open Go.RowKit

/-- WholeView. -/
def whole (sh : List Int) : VAns := if shapeB sh = true then ⟨0, sh, wholeSt sh, true⟩ else noView
theorem whole_no {sh : List Int} (h : shapeB sh = false) : whole sh = noView := by unfold whole; rw [if_neg (by simp [h])]
theorem whole_go {sh : List Int} (h : shapeB sh = true) : whole sh = ⟨0, sh, wholeSt sh, true⟩ := by unfold whole; rw [if_pos h]

theorem vl_box1 (w : World) {wC : World} (h : Below (w.drew.alloc (boxV (.slice none 0 0) (.slice none 0 0))).heap.size (w.drew.alloc (boxV (.slice none 0 0) (.slice none 0 0))) wC) : VBox wC w.heap.size 0 (.slice none 0 0) (.slice none 0 0) := (VBox.new w.drew 0 _ _).below (Nat.le_refl _) h
theorem vl_box2 (w : World) (N : Nat) {wC : World} (h : Below ((w.drew.alloc (boxV (.slice none 0 0) (.slice none 0 0))).alloc (madeV N)).heap.size ((w.drew.alloc (boxV (.slice none 0 0) (.slice none 0 0))).alloc (madeV N)) wC) : VBox wC w.heap.size 0 (.slice none 0 0) (.slice none 0 0) := ((VBox.new w.drew 0 _ _).alloc _).below (Nat.le_refl _) h
theorem vl_box3 (w : World) (N : Nat) {wC : World} (h : Below ((w.drew.alloc (madeV N)).alloc (boxV (.slice none 0 0) (.slice none 0 0))).heap.size ((w.drew.alloc (madeV N)).alloc (boxV (.slice none 0 0) (.slice none 0 0))) wC) : VBox wC (w.heap.size + 1) 0 (.slice none 0 0) (.slice none 0 0) := by
  have := VBox.new (w.drew.alloc (madeV N)) 0 (.slice none 0 0) (.slice none 0 0)
  rw [World.size_alloc] at this
  exact this.below (Nat.le_refl _) h
theorem Row.drewV {w : World} {a : Option Addr} {n : Nat} {zs : List Int} (h : Row w a n zs) : Row w.drew a n zs := ⟨h.len, h.small, h.at_⟩

/-- WholeView's answer: nothing, or two lists of the call's own. -/
def GivesWh (w : World) (sh : List Int) (n : Nat) (e : Ending) (w' : World) : Prop :=
  (shapeB sh = false ∧ e = .returned (.tuple #[.agg #[.int .i64 0, .slice none 0 0, .slice none 0 0], .bool false]) ∧ Below w.heap.size w w') ∨
  (shapeB sh = true ∧ ∃ ash csh gd, e = .returned (.tuple #[.agg #[.int .i64 0, .slice ash n csh, .slice (some ⟨gd, 0, none⟩) n n], .bool true]) ∧ Own w' w.heap.size ash n sh ∧ w.heap.size ≤ gd ∧ Blk w' gd (wholeSt sh) ∧ ¬ At ash n gd ∧ Below w.heap.size w w')

set_option maxRecDepth 20000 in
set_option maxHeartbeats 4000000 in
theorem WholeView_own (a1 : Addr) (n1 c1 : Nat) (sh : List Int) (w : World) (h1 : Row w (some a1) n1 sh) : Calls Try.prog 34 #[.slice (some a1) n1 c1] w (GivesWh w sh n1) := by
  have hl1 := hide h1.len
  have hs1 := h1.small
  have H1 := hide h1
  clear h1
  obtain ⟨r, hr⟩ : ∃ r, shapeB sh = r := ⟨_, rfl⟩
  have HR := hide hr
  clear hr
  obtain ⟨W, hW⟩ : ∃ W, W = w.alloc (.cells #[.int .i64 0, .slice none 0 0, .slice none 0 0] 26) := ⟨_, rfl⟩
  obtain ⟨p, hp⟩ : ∃ p, p = w.heap.size := ⟨_, rfl⟩
  have HW := hide hW
  have HP := hide hp
  have HX : Hid (VBox W p 0 (.slice none 0 0) (.slice none 0 0)) := by rw [hW, hp]; exact VBox.new w _ _ _
  have HBW : Hid (Below p w W) := by rw [hW, hp]; exact (Below.refl _ w).alloc (Nat.le_refl _) _
  have hzW : p < W.heap.size := by rw [hW, hp]; simp
  have H1W := hide (H1.out.below (by omega) HBW.out)
  have HP1 : Hid (∀ q, At (some a1) n1 q → q < p) := fun q h => by rw [hp]; exact H1.out.hi h
  clear hW hp H1
  cases r with
  | false =>
    have HE := hide (whole_no HR.out)
    obtain ⟨z0, z1, z2, z3, z4, z5, z6⟩ := HX.out.all
    go_enter Try.func34, Try.ntmps34
    go_wp2_with (go_at_call 40; rw [← HW.out, ← HP.out]; refine (l3ShapeOk_eq _ _ _ sh _ H1W.out _ HR).mono ?_; rintro e wq ⟨rfl, hw⟩; obtain rfl := hw.symm)
    refine bodyPost_ret (v := .tuple #[.agg #[.int .i64 0, .slice none 0 0, .slice none 0 0], .bool false]) (by simp [results, Try.results34, go_sem, z0, z1, z2]) rfl ?_
    exact .inl ⟨HR.out, rfl, by rw [← HP.out]; exact ((HBW.out.setCell (p := ⟨p, 0, none⟩) (Nat.le_refl _) _).setCell (p := ⟨p, 1, none⟩) (Nat.le_refl _) _).setCell (p := ⟨p, 2, none⟩) (Nat.le_refl _) _⟩
  | true =>
    have HE := hide (whole_go HR.out)
    have hn5 : n1 ≤ 5 := by rw [← hl1.out]; exact (shapeB_in HR.out).2
    have HIN := hide (shapeB_in HR.out).1
    have hmk := run_make_row' (P := Try.prog) 22 3 (.int .i64 0) 8 Try.underlying22 info_int rfl .i64 .i64 n1 (by omega) (by omega)
    go_enter Try.func34, Try.ntmps34
    go_upto_region 3 with (go_at_call 40; rw [← HW.out, ← HP.out]; refine (l3ShapeOk_eq _ _ _ sh _ H1W.out _ HR).mono ?_; rintro e wq ⟨rfl, hw⟩; obtain rfl := hw.symm)
    go_cut [4] (fun v wx => GotW W sh n1 n1 v wx)
    case first =>
      go_region_held3 (fun _ => True) (first | exact trivial)
        (first
        | (go_at_call 41; go_loud (refine (l3Ints_any a1 n1 c1 sh _ (by first | exact H1W.out.drewV | exact H1W.out.drewV.alloc _ | exact (H1W.out.drewV.alloc _).alloc _)).mono ?_); rintro e wC ⟨ash, csh, rfl, hO, hbC⟩; have hKC : Below W.heap.size W wC := (by refine Below.trans ?_ (hbC.mono (by first | exact Nat.le_refl _ | (simp <;> omega))); repeat (first | exact Below.refl _ _ | refine Below.drew ?_ | refine Below.alloc ?_ (by first | exact Nat.le_refl _ | (simp <;> omega)) _)); have HO := hide hO; have HBC := hide hbC; (first | (have hPC := hide (vl_box1 W hbC)) | (have hPC := hide (vl_box2 W n1 hbC)) | (have hPC := hide (vl_box3 W n1 hbC)) | skip); (first | (obtain ⟨r0, r1, r2, r3, r4, r5, r6⟩ := hPC.out.all) | skip); clear hO hbC))
      all_goals go_wp2_with fail
      · go_meet
        case rel => exact vordCMA HO.out hKC
      · go_meet
        case rel => exact vordCAM HO.out hKC
      · go_meet
        case rel => exact vordMCA (wy := W) (HO.out.mono (by simp)) rfl (Below.refl _ _) (Below.undrewV HBC.out)
      · go_meet
        case rel => exact vordMAC (wy := W) (HO.out.mono (by simp)) rfl (Below.refl _ _) (Below.undrewV HBC.out)
      · go_meet
        case rel => exact vordACM (wy := W) (HO.out.mono (by simp)) rfl (Below.refl _ _) (Below.undrewV HBC.out)
      · go_meet
        case rel => exact vordAMC (wy := W) (HO.out.mono (by simp)) rfl (Below.refl _ _) (Below.undrewV HBC.out)
    case rest =>
      obtain ⟨w4, hw4⟩ : ∃ x, x = wc := ⟨_, rfl⟩
      subst hw4
      obtain ⟨pb, gd, ash, csh, rfl, hpb, hbx, hgz, hne, hBk, hO, hag, hap, hb4⟩ := hcut
      have hz4 := hb4.size
      have hpl := hbx.lt
      have hgl := hBk.lt
      have HBX := hide hbx
      have HBK : Hid (Blk w4 gd (wholeN sh 0)) := by show Blk _ _ _; rw [wholeN_zero, hl1.out]; exact hBk
      have HO := hide hO
      have HAG := hide hag
      have HAP := hide hap
      have HX4 : Hid (VBox w4 p 0 (.slice none 0 0) (.slice none 0 0)) := HX.out.below (Nat.le_refl _) hb4
      have H14 := hide (H1W.out.below (Nat.le_refl _) hb4)
      have HW4 : Hid (Below p w w4) := HBW.out.trans (hb4.mono (by omega))
      clear hbx hBk hO hag hap hb4 HX H1W HBW hmk
      have HT0 : Hid (tailProd (sh.drop (n1 - 0)) = 1) := by show _ = _; rw [Nat.sub_zero, ← hl1.out, List.drop_length]; rfl
      go_wp2_with fail
      go_loopw [5, 6] (fun v i wr => ∃ t : Nat, t ≤ n1 ∧ i = .int .i64 ((n1 : Int) - 1 - (t : Nat)) ∧ v = .int .i64 (tailProd (sh.drop (n1 - t))) ∧ Hid (Blk wr gd (wholeN sh t)) ∧ Hid (But (fun x => x = gd) w4 wr)) (fun _ i _ => (intOf i + 1).toNat)
      case atStart => exact ⟨0, Nat.zero_le _, by first | rfl | (go_num) | simp, by rw [HT0.out], HBK, hide (But.refl _ _)⟩
      case round =>
        obtain ⟨t, ht, rfl, rfl, hb, hbut⟩ := hrel
        have hzr := hbut.out.size
        by_cases htn : t < n1
        · obtain ⟨j, hj⟩ : ∃ j : Nat, j = n1 - 1 - t := ⟨_, rfl⟩
          have e1 : (n1 : Int) - 1 - (t : Nat) = (j : Nat) := by omega
          have hjn : j < n1 := by omega
          obtain ⟨bb, ob, hbb, _, cb⟩ := (hbut.out.row H14.out (by rintro x rfl h; have := HP1.out _ h; omega)).get hjn
          cases hbb
          obtain ⟨x, hx⟩ : ∃ x, sh.getD j 0 = x := ⟨_, rfl⟩
          rw [hx] at cb
          have hxb : 0 ≤ x ∧ x ≤ 10000 := by rw [← hx]; exact HIN.out.cell j
          obtain ⟨m, hm⟩ : ∃ m, tailProd (sh.drop (n1 - t)) = m := ⟨_, rfl⟩
          have hmb := tailProd_bd HIN.out (n1 - t)
          have hmb' := tailProd_bd HIN.out j
          rw [hm] at hmb
          have hst := tailProd_step sh (i := j) (by rw [hl1.out]; exact hjn)
          rw [hx, show j + 1 = n1 - t by omega, hm] at hst
          have HNX : Hid (tailProd (sh.drop (n1 - (t + 1))) = if 0 < x then m * x else m) := by show _ = _; rw [show n1 - (t + 1) = j by omega]; exact hst
          have HSET : Hid ((wholeN sh t).set j m = wholeN sh (t + 1)) := by
            have := wholeN_step sh (t := t) (by rw [hl1.out]; exact htn)
            rw [hl1.out, hm, ← hj] at this
            exact this
          obtain ⟨v0, v1, v2, v3, v4, v5, v6⟩ := (show VBox wr pb 0 (.slice ash n1 csh) (.slice (some ⟨gd, 0, none⟩) n1 n1) from (hbut.out.block _ (by omega) (by omega)).trans HBX.out).all
          have cg := hb.out.cell (i := j) (by rw [wholeN_len, hl1.out]; exact hjn)
          have cf := hb.out.free j
          have hjl : (j : Int) < (n1 : Int) := by omega
          have hbn : bb < p := HP1.out bb ⟨by omega, _, rfl, rfl⟩
          have cb' : (wr.setCell ⟨gd, j, none⟩ (.int .i64 m)).cell? ⟨bb, ob + j, none⟩ = some (.int .i64 x) := (World.cell?_setCell_other _ _ _ _ (by simp <;> omega)).trans cb
          rw [e1, hm]
          have HJ := hide hj
          by_cases hx0 : 0 < x
          · obtain ⟨y, hy⟩ : ∃ y, y = m * x := ⟨_, rfl⟩
            have hyb : 0 ≤ y ∧ y ≤ 100000000 := by
              rw [hy]
              have q1 := Int.mul_le_mul hmb.2 hxb.2 hxb.1 (by omega : (0 : Int) ≤ 10000)
              have q2 := Int.mul_nonneg (show 0 ≤ m by omega) hxb.1
              omega
            have hwy : IntKind.i64.wrap (m * x) = y := by rw [← hy, IntKind.wrap_i64]; omega
            have hmy : m * x = y := hy.symm
            have HNY : Hid (tailProd (sh.drop (n1 - (t + 1))) = y) := by show _ = _; rw [HNX.out, if_pos hx0, hmy]
            clear hx hm hj hy hst cb HNX
            go_wp2_with fail
            go_roundw
            case rel =>
              refine ⟨t + 1, by omega, by rw [HJ.out]; go_num, by rw [HNY.out], ?_, hide (hbut.out.setCell (p := ⟨gd, j, none⟩) rfl _)⟩
              show Blk _ _ _
              rw [← HSET.out]
              exact hb.out.set j m
            case measure => (simp [intOf] <;> omega)
          · have HNY : Hid (tailProd (sh.drop (n1 - (t + 1))) = m) := by show _ = _; rw [HNX.out, if_neg hx0]
            clear hx hm hj hst cb HNX
            go_wp2_with fail
            go_roundw
            case rel =>
              refine ⟨t + 1, by omega, by rw [HJ.out]; go_num, by rw [HNY.out], ?_, hide (hbut.out.setCell (p := ⟨gd, j, none⟩) rfl _)⟩
              show Blk _ _ _
              rw [← HSET.out]
              exact hb.out.set j m
            case measure => (simp [intOf] <;> omega)
        · have hte : t = n1 := by omega
          subst hte
          have e1 : (t : Int) - 1 - (t : Nat) = -1 := by omega
          rw [e1]
          have hZr : VBox wr pb 0 (.slice ash t csh) (.slice (some ⟨gd, 0, none⟩) t t) := (hbut.out.block _ (by omega) (by omega)).trans HBX.out
          obtain ⟨v0, v1, v2, v3, v4, v5, v6⟩ := hZr.all
          have hX2 : VBox wr p 0 (.slice none 0 0) (.slice none 0 0) := (hbut.out.block _ (by omega) (by omega)).trans HX4.out
          obtain ⟨z0, z1, z2, z3, z4, z5, z6⟩ := hX2.all
          have HX2 := hide hX2
          clear hX2 hZr e1
          go_wp2_with fail
          have hOr : Own wr W.heap.size ash t sh := hbut.out.own HO.out (by rintro q rfl h; exact HAG.out h)
          have hall : wholeN sh t = wholeSt sh := by rw [← wholeN_all, hl1.out]
          have hrow : Row wr (some ⟨gd, 0, none⟩) t (wholeSt sh) := by rw [← hall]; exact hb.out.row (by rw [wholeN_len, hl1.out]) (by omega)
          obtain ⟨q0, q1, q2, q3, q4, q5, q6⟩ := (HX2.out.sets (c' := 0) (u1 := .slice ash t csh) (u2 := .slice (some ⟨gd, 0, none⟩) t t)).all
          refine bodyPost_ret (v := .tuple #[.agg #[.int .i64 0, .slice ash t csh, .slice (some ⟨gd, 0, none⟩) t t], .bool true]) (by simp [results, Try.results34, go_sem, q0, q1, q2]) rfl ?_
          have hne0 : gd ≠ p := by omega
          have hk2 : ∀ q, At ash t q → q ≠ p := fun q h e => by have := hOr.low h; omega
          have hB : Blk wr gd (wholeSt sh) := by rw [← hall]; exact hb.out
          refine .inr ⟨HR.out, ash, csh, gd, rfl, ((((hOr.mono (by rw [← HP.out]; omega)).other (q := ⟨p, 0, none⟩) hk2 _).other (q := ⟨p, 1, none⟩) hk2 _).other (q := ⟨p, 2, none⟩) hk2 _), by rw [← HP.out]; omega, ((hB.other (p := ⟨p, 0, none⟩) hne0 _).other (p := ⟨p, 1, none⟩) hne0 _).other (p := ⟨p, 2, none⟩) hne0 _, HAG.out, ?_⟩
          rw [← HP.out]
          exact (((HW4.out.trans (hbut.out.below (B := p) (by omega) (by rintro x rfl; omega))).setCell (p := ⟨p, 0, none⟩) (Nat.le_refl _) _).setCell (p := ⟨p, 1, none⟩) (Nat.le_refl _) _).setCell (p := ⟨p, 2, none⟩) (Nat.le_refl _) _

theorem wholeSt_len (sh : List Int) : (wholeSt sh).length = sh.length := by simp [wholeSt]

theorem WholeView_any (a1 : Addr) (n1 c1 : Nat) (sh : List Int) (w : World) (h1 : Row w (some a1) n1 sh) : Calls Try.prog 34 #[.slice (some a1) n1 c1] w (GivesV w (whole sh)) := by
  refine (WholeView_own a1 n1 c1 sh w h1).mono ?_
  rintro e w' (⟨hs, rfl, hb⟩ | ⟨hs, ash, csh, gd, rfl, hO, _, hB, _, hb⟩)
  · rw [whole_no hs]
    exact ⟨none, 0, 0, none, 0, 0, rfl, row_nil _ _, row_nil _ _, hb⟩
  · rw [whole_go hs]
    exact ⟨ash, n1, csh, some ⟨gd, 0, none⟩, n1, n1, rfl, hO.row, hB.row (by rw [wholeSt_len, h1.len]) h1.small, hb⟩

end Go.Proofs.Ytadbhidpmihghab
