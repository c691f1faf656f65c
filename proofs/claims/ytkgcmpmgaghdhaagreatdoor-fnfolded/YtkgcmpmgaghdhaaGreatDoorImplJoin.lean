import Derived.Test.YtkgcmpmgaghdhaaGreatDoorMFit0
import Derived.Test.YtkgcmpmgaghdhaaGreatDoorSliceEqual
import Derived.Test.YtkgcmpmgaghdhaaGreatDoorMFit3
import Derived.Test.YtkgcmpmgaghdhaaGreatDoorMFit0
import Derived.Deep.RegionHeld3
namespace Go.Proofs.YtkgcmpmgaghdhaaGreatDoor
open Go.RowKit Go.Shelf

/-- The code of joining two arrays as they are taken. -/
def joinN (c d : Bool) (L X R Y : List Int) : Int := if L.length ≠ R.length then 4 else if front L ≠ front R then 5 else if c ≠ d ∧ X ≠ [] ∧ Y ≠ [] then 3 else 0

theorem front_others (sh : List Int) (n : Nat) (h : sh.length = n + 1) : sh.take n ++ sh.drop (n + 1) = front sh := by
  unfold front
  rw [h, List.drop_of_length_le (by omega)]
  simp

/-- axisOf along the last axis: the others are the front. -/
theorem axisOf_last (b off n c : Nat) (sh : List Int) (w : World) (h : Row w (some ⟨b, off, none⟩) (n + 1) sh) (hc : n + 1 ≤ c) (hin : ShapeIn sh) (hl5 : n + 1 ≤ 5) :
    Calls Tryz.prog 94 #[.slice (some ⟨b, off, none⟩) (n + 1) c, .bool false] w (AxisOk w (prodAll (sh.take n)) (prodAll ((sh.drop n).take 1)) (prodAll (sh.drop (n + 1))) (front sh)) := by
  rw [← front_others sh n h.len]
  exact axisOf_pos false b off n c n sh _ _ _ w h hc hin hl5 (.inr ⟨rfl, rfl⟩) rfl rfl rfl

theorem fieldOthers (B N A : Int) (v : Value) (w : World) : (Instr.field 105 (.agg #[.int .i64 B, .int .i64 N, .int .i64 A, v]) 3).run Tryz.prog w = .ok v w := by kernel_rfl

set_option maxRecDepth 20000 in
set_option maxHeartbeats 4000000 in
theorem joinCode_any (c d : Bool) (ba oa bb ob : Nat) (a2 b2 : Addr) (n1 n2 m1 m2 c1 c2 d1 d2 : Nat) (L X R Y : List Int) (w : World) (h1 : Row w (some ⟨ba, oa, none⟩) (n1 + 1) L) (h2 : X.length = n2) (k1 : Row w (some ⟨bb, ob, none⟩) (m1 + 1) R) (k2 : Y.length = m2) (i1 : ShapeIn L) (i2 : ShapeIn R) (l1 : n1 + 1 ≤ c1) (l2 : m1 + 1 ≤ d1) (s1 : n1 + 1 ≤ 5) (s2 : m1 + 1 ≤ 5) (hn2 : n2 ≤ 10000) (hm2 : m2 ≤ 10000) :
    Calls Tryz.prog 104 #[.agg #[.bool c, .slice (some ⟨ba, oa, none⟩) (n1 + 1) c1, .slice (some a2) n2 c2], .agg #[.bool d, .slice (some ⟨bb, ob, none⟩) (m1 + 1) d1, .slice (some b2) m2 d2]] w fun e w' => e = .returned (.int .i64 (joinN c d L X R Y)) ∧ Below w.heap.size w w' := by
  have hl1 := h1.len
  have hl2 := k1.len
  obtain ⟨W, hW⟩ : ∃ W, W = (w.alloc (.cells #[.bool c, .slice (some ⟨ba, oa, none⟩) (n1 + 1) c1, .slice (some a2) n2 c2] 25)).alloc (.cells #[.bool d, .slice (some ⟨bb, ob, none⟩) (m1 + 1) d1, .slice (some b2) m2 d2] 25) := ⟨_, rfl⟩
  have HBW : Hid (Below w.heap.size w W) := by rw [hW]; exact ((Below.refl _ w).alloc (Nat.le_refl _) _).alloc (by simp) _
  have HX0 : Hid (Box W w.heap.size c (.slice (some ⟨ba, oa, none⟩) (n1 + 1) c1) (.slice (some a2) n2 c2)) := by rw [hW]; exact (Box.new w _ _ _).alloc _
  have HX1 : Hid (Box W (w.heap.size + 1) d (.slice (some ⟨bb, ob, none⟩) (m1 + 1) d1) (.slice (some b2) m2 d2)) := by
    rw [hW]
    have := Box.new (w.alloc (.cells #[.bool c, .slice (some ⟨ba, oa, none⟩) (n1 + 1) c1, .slice (some a2) n2 c2] 25)) d (.slice (some ⟨bb, ob, none⟩) (m1 + 1) d1) (.slice (some b2) m2 d2)
    rwa [World.size_alloc] at this
  have H1 := hide (h1.below (Nat.le_refl _) HBW.out)
  have K1 := hide (k1.below (Nat.le_refl _) HBW.out)
  have HI1 := hide i1
  have HI2 := hide i2
  have HW := hide hW
  obtain ⟨p, hp⟩ : ∃ p, p = n1 + 1 := ⟨_, rfl⟩
  obtain ⟨q, hq⟩ : ∃ q, q = m1 + 1 := ⟨_, rfl⟩
  rw [← hp] at HX0 H1 l1 s1 hl1 HW ⊢
  rw [← hq] at HX1 K1 l2 s2 hl2 HW ⊢
  obtain ⟨J, hJ⟩ : ∃ J, joinN c d L X R Y = J := ⟨_, rfl⟩
  rw [hJ]
  by_cases hpq : p = q
  · have HAX : Hid (∀ wx, Below W.heap.size W wx → Calls Tryz.prog 94 #[.slice (some ⟨ba, oa, none⟩) p c1, .bool false] wx (AxisOk wx (prodAll (L.take n1)) (prodAll ((L.drop n1).take 1)) (prodAll (L.drop (n1 + 1))) (front L))) := fun wx hwx => by rw [hp]; rw [hp] at H1 l1 s1; exact axisOf_last ba oa n1 c1 L wx (H1.out.below (Nat.le_refl _) hwx) l1 HI1.out s1
    have HAY : Hid (∀ wx, Below W.heap.size W wx → Calls Tryz.prog 94 #[.slice (some ⟨bb, ob, none⟩) q d1, .bool false] wx (AxisOk wx (prodAll (R.take m1)) (prodAll ((R.drop m1).take 1)) (prodAll (R.drop (m1 + 1))) (front R))) := fun wx hwx => by rw [hq]; rw [hq] at K1 l2 s2; exact axisOf_last bb ob m1 d1 R wx (K1.out.below (Nat.le_refl _) hwx) l2 HI2.out s2
    obtain ⟨B1, hB1⟩ : ∃ x, prodAll (L.take n1) = x := ⟨_, rfl⟩
    obtain ⟨N1, hN1⟩ : ∃ x, prodAll ((L.drop n1).take 1) = x := ⟨_, rfl⟩
    obtain ⟨A1, hA1⟩ : ∃ x, prodAll (L.drop (n1 + 1)) = x := ⟨_, rfl⟩
    obtain ⟨B2, hB2⟩ : ∃ x, prodAll (R.take m1) = x := ⟨_, rfl⟩
    obtain ⟨N2, hN2⟩ : ∃ x, prodAll ((R.drop m1).take 1) = x := ⟨_, rfl⟩
    obtain ⟨A2, hA2⟩ : ∃ x, prodAll (R.drop (m1 + 1)) = x := ⟨_, rfl⟩
    rw [hB1, hN1, hA1] at HAX
    rw [hB2, hN2, hA2] at HAY
    obtain ⟨rf, hrf⟩ : ∃ r, decide (front L = front R) = r := ⟨_, rfl⟩
    have HRF := hide hrf
    have HLE : Hid (L.length = R.length) := by show _ = _; rw [hl1, hl2, hpq]
    have g0 : ((p : Int) != (q : Int)) = false := by simp [hpq]
    have HJ : Hid (J = if rf = false then 5 else if c ≠ d ∧ 0 < n2 ∧ 0 < m2 then 3 else 0) := by
      show _ = _
      rw [← hJ]
      unfold joinN
      rw [if_neg (by simp [HLE.out]), ← hrf, ← h2, ← k2]
      by_cases hf : front L = front R
      · simp [hf, List.length_pos_iff]
      · simp [hf]
    clear hpq hrf hB1 hN1 hA1 hB2 hN2 hA2 hl1 hl2 h1 k1 i1 i2 h2 k2 hW hp hq hJ H1 K1 HI1 HI2 HLE
    obtain ⟨x0, x1, x2, x3, x4, x5, x6⟩ := HX0.out.all
    obtain ⟨y0, y1, y2, y3, y4, y5, y6⟩ := HX1.out.all
    go_enter Tryz.func104, Tryz.ntmps104
    go_upto_region 3 with fail
    rw [← HW.out]
    clear HW
    go_cut [13] (fun v wx => v = .bool (!rf) ∧ Below W.heap.size W wx)
    case first =>
      have HKEEP : ∀ wx, Below W.heap.size W wx → Below W.heap.size W wx ∧ wx.cell? ⟨w.heap.size, 1, none⟩ = some (.slice (some ⟨ba, oa, none⟩) p c1) ∧ wx.cell? ⟨w.heap.size + 1, 1, none⟩ = some (.slice (some ⟨bb, ob, none⟩) q d1) := fun wx hwx => ⟨hwx, (HX0.out.below (Nat.le_refl _) hwx).cells.2.1, (HX1.out.below (Nat.le_refl _) hwx).cells.2.1⟩
      have hf1 := fieldOthers B1 N1 A1
      have hf2 := fieldOthers B2 N2 A2
      go_region_held3 (fun wx => Below W.heap.size W wx ∧ wx.cell? ⟨w.heap.size, 1, none⟩ = some (.slice (some ⟨ba, oa, none⟩) p c1) ∧ wx.cell? ⟨w.heap.size + 1, 1, none⟩ = some (.slice (some ⟨bb, ob, none⟩) q d1)) (first | (refine HKEEP _ ?_; first | exact hKC | exact hKB | exact hKA | exact (Below.refl _ _).drew))
        (first
        | (go_at_call_of 94 (Value.slice (some ⟨ba, oa, none⟩) p c1); refine (HAX.out _ (Below.refl _ _).drew).mono ?_; rintro e wA ⟨ga, la, ca, rfl, hOA, hbA⟩; have hKA : Below W.heap.size W wA := (Below.refl _ _).drew.trans (hbA.mono (by first | exact Nat.le_refl _ | (simp <;> omega))))
        | (go_at_call_of 94 (Value.slice (some ⟨bb, ob, none⟩) q d1); refine (HAY.out _ hKA).mono ?_; rintro e wB ⟨gb, lb, cb, rfl, hOB, hbB⟩; have hKB : Below W.heap.size W wB := hKA.trans (hbB.mono hKA.size); have hOA' := hOA.below (Nat.le_refl _) hbB)
        | (go_at_call 116; refine (Equal_eq _ _ _ _ _ _ (front L) (front R) _ hOA'.row hOB.row rf HRF).mono ?_; rintro e wC ⟨rfl, qq, rfl⟩; have hKC : Below W.heap.size W (wB.drewN qq) := Below.drewN hKB qq))
      all_goals go_wp2_with fail
      all_goals go_meet
      all_goals case rel => exact ⟨rfl, hKC⟩
    case rest =>
      obtain ⟨w5, hw5⟩ : ∃ x, x = wc := ⟨_, rfl⟩
      subst hw5
      obtain ⟨rfl, hb5⟩ := hcut
      have HB5 := hide (HBW.out.trans (hb5.mono HBW.out.size))
      clear x0 x1 x2 x3 x4 x5 x6 y0 y1 y2 y3 y4 y5 y6
      obtain ⟨x0, x1, x2, x3, x4, x5, x6⟩ := (HX0.out.below (Nat.le_refl _) hb5).all
      obtain ⟨y0, y1, y2, y3, y4, y5, y6⟩ := (HX1.out.below (Nat.le_refl _) hb5).all
      clear hb5
      cases rf with
      | false =>
        have HJ5 : Hid (J = 5) := by show _ = _; rw [HJ.out]; rfl
        clear HJ HRF
        go_wp2_with fail
        go_ret
        exact ⟨ret_int HJ5.out.symm, HB5.out⟩
      | true =>
        by_cases hcd : c = d
        · have HJ0 : Hid (J = 0) := by show _ = _; rw [HJ.out]; simp [hcd]
          have g1 : (c == d) = true := by simp [hcd]
          clear HJ hcd HRF
          go_wp2_with fail
          go_ret
          exact ⟨ret_int HJ0.out.symm, HB5.out⟩
        · have g1 : (c == d) = false := by simp [hcd]
          by_cases h2 : 0 < n2
          · by_cases h3 : 0 < m2
            · have HJ3 : Hid (J = 3) := by show _ = _; rw [HJ.out]; simp [hcd, h2, h3]
              clear HJ hcd HRF
              go_wp2_with fail
              go_ret
              exact ⟨ret_int HJ3.out.symm, HB5.out⟩
            · have HJ0 : Hid (J = 0) := by show _ = _; rw [HJ.out]; simp [h3]
              obtain rfl : m2 = 0 := by omega
              clear HJ hcd h3 HRF
              go_wp2_with fail
              go_ret
              exact ⟨ret_int HJ0.out.symm, HB5.out⟩
          · have HJ0 : Hid (J = 0) := by show _ = _; rw [HJ.out]; simp [h2]
            obtain rfl : n2 = 0 := by omega
            clear HJ hcd h2 HRF
            go_wp2_with fail
            go_ret
            exact ⟨ret_int HJ0.out.symm, HB5.out⟩
  · have g0 : ((p : Int) != (q : Int)) = true := by simp; omega
    have HJ : Hid (J = 4) := by show _ = _; rw [← hJ]; unfold joinN; rw [if_pos (by rw [hl1, hl2]; exact hpq)]
    clear hpq hl1 hl2 h1 k1 i1 i2 h2 k2 hW hJ H1 K1 HI1 HI2 hp hq
    go_enter Tryz.func104, Tryz.ntmps104
    go_wp2_with fail
    go_ret
    exact ⟨ret_int HJ.out.symm, ((Below.refl _ w).alloc (Nat.le_refl _) _).alloc (by simp) _⟩

end Go.Proofs.YtkgcmpmgaghdhaaGreatDoor
