import Derived.Test.YtkgcmpmgaghdhaaGreatDoorImplBeside
import Derived.Test.YtkgcmpmgaghdhaaGreatDoorImplJoin
namespace Go.Proofs.YtkgcmpmgaghdhaaGreatDoor
open Go.RowKit Go.Shelf

theorem sideSh_nil (sh' : List Int) : sideSh [] sh' = front sh' ++ [1] := by unfold sideSh; rw [if_pos rfl]
theorem sideSh_more {sh sh' : List Int} (h0 : sh ≠ []) (h : sh.length + 1 = sh'.length) : sideSh sh sh' = sh ++ [1] := by unfold sideSh; rw [if_neg h0, if_pos h]
theorem sideSh_as {sh sh' : List Int} (h0 : sh ≠ []) (h : sh.length + 1 ≠ sh'.length) : sideSh sh sh' = sh := by unfold sideSh; rw [if_neg h0, if_neg h]
theorem sideDt_as {sh dt sh' : List Int} (h0 : sh ≠ []) : sideDt sh dt sh' = dt := by unfold sideDt; rw [if_neg h0]
theorem sideDt_nil (dt sh' : List Int) : sideDt [] dt sh' = List.replicate (countOf (front sh' ++ [1])).toNat (dt.getD 0 0) := by unfold sideDt; rw [if_pos rfl, sideSh_nil]

/-- An array as Catenate takes it. -/
def SideOk (w : World) (c : Bool) (L X : List Int) (e : Ending) (w' : World) : Prop :=
  ∃ ba oa p1 e1 A2 p2 e2, e = .returned (.agg #[.bool c, .slice (some ⟨ba, oa, none⟩) (p1 + 1) e1, .slice (some A2) p2 e2]) ∧ Row w' (some ⟨ba, oa, none⟩) (p1 + 1) L ∧ Row w' (some A2) p2 X ∧ p1 + 1 ≤ e1 ∧ p2 ≤ e2 ∧ Below w.heap.size w w'

theorem beside_any (c d : Bool) (a1 a2 : Addr) (n1 n2 c1 c2 : Nat) (o1 : Addr) (m1 d1 : Nat) (sh dt sh' dt' : List Int) (w : World) (h1 : Row w (some a1) n1 sh) (h2 : Row w (some a2) n2 dt) (k1 : Row w (some o1) m1 sh') (ok1 : arrOk c sh dt = true) (ok2 : arrOk d sh' dt' = true) (hc1 : n1 ≤ c1) (hc2 : n2 ≤ c2) (hd1 : m1 ≤ d1) :
    Calls Tryz.prog 103 #[.agg #[.bool c, .slice (some a1) n1 c1, .slice (some a2) n2 c2], .slice (some o1) m1 d1] w (SideOk w c (sideSh sh sh') (sideDt sh dt sh')) := by
  obtain ⟨i1, p1, l1⟩ := shapeIn_of ok1
  obtain ⟨i2, _, l2⟩ := shapeIn_of ok2
  have e1 := h1.len
  have e2 := h2.len
  have e3 := k1.len
  by_cases h0 : n1 = 0
  · subst h0
    obtain rfl : sh = [] := List.length_eq_zero_iff.mp e1
    have hn2 : n2 = 1 := by simp [prodAll] at p1; omega
    subst hn2
    obtain ⟨x, rfl⟩ : ∃ x, dt = [x] := by
      match dt, e2 with
      | [x], _ => exact ⟨x, rfl⟩
    have hsi : ShapeIn (front sh' ++ [1]) := shapeIn_snoc1 (i2.take _)
    have hfl : (front sh').length ≤ 4 := by simp [front]; omega
    have hb : shapeB (front sh' ++ [1]) = true := by
      obtain ⟨ha, m, hm⟩ := hsi
      exact shape_good (n := (front sh' ++ [1]).length) rfl (by simp; omega) m ha hm
    have hcb := shapeB_count hb
    obtain ⟨N, hN⟩ : ∃ N : Nat, countOf (front sh' ++ [1]) = (N : Int) := ⟨(countOf (front sh' ++ [1])).toNat, by omega⟩
    have hpN : prodAll (front sh' ++ [1]) = (N : Int) := by rw [prodAll_count _ hb]; exact hN
    rw [sideSh_nil, sideDt_nil, hN]
    have fin : ∀ (B K A : Int), (∀ wx, Below w.heap.size w wx → Calls Tryz.prog 94 #[.slice (some o1) m1 d1, .bool false] wx (AxisRow wx B K A (front sh'))) → Calls Tryz.prog 103 #[.agg #[.bool c, .slice (some a1) 0 c1, .slice (some a2) 1 c2], .slice (some o1) m1 d1] w (SideOk w c (front sh' ++ [1]) (List.replicate ((N : Int)).toNat (List.getD [x] 0 0))) := fun B K A hax => by
      refine (beside_nil c a1 a2 c1 c2 o1 m1 d1 x B K A (front sh') N w h2 hax (by omega) hsi hpN (by omega)).mono ?_
      rintro e w' ⟨g, cap, gd, rfl, hcap, r1, r2, _, _, hb⟩
      exact ⟨g, 0, (front sh').length, cap, ⟨gd, 0, none⟩, N, N, rfl, r1, by simpa using r2, hcap, Nat.le_refl _, hb⟩
    by_cases hm : m1 = 0
    · subst hm
      obtain rfl : sh' = [] := List.length_eq_zero_iff.mp e3
      exact fin 1 1 1 (fun wx _ => axisOf_zeroR false o1 d1 wx)
    · obtain ⟨m, rfl⟩ : ∃ m, m1 = m + 1 := ⟨m1 - 1, by omega⟩
      obtain ⟨b, off, eo, _, _⟩ := k1.get (show 0 < m + 1 by omega)
      cases eo
      refine fin (prodAll (sh'.take m)) (prodAll ((sh'.drop m).take 1)) (prodAll (sh'.drop (m + 1))) (fun wx hwx => ?_)
      rw [← front_others sh' m e3]
      exact axisOf_posR false b off m d1 m sh' _ _ _ wx (k1.below (Nat.le_refl _) hwx) hd1 i2 (by omega) (.inr ⟨rfl, rfl⟩) rfl rfl rfl
  · have hne : sh ≠ [] := fun e => h0 (by rw [← e1, e]; rfl)
    obtain ⟨b, off, eo, _, _⟩ := h1.get (show 0 < n1 by omega)
    cases eo
    obtain ⟨k, rfl⟩ : ∃ k, n1 = k + 1 := ⟨n1 - 1, by omega⟩
    rw [sideDt_as hne]
    by_cases hm : k + 1 + 1 = m1
    · rw [sideSh_more hne (by rw [e1, e3]; exact hm)]
      refine (beside_more c ⟨b, off, none⟩ a2 (k + 1) n2 c1 c2 o1 m1 d1 sh w h1 h0 hm (by omega)).mono ?_
      rintro e w' ⟨g, cap, rfl, ho, hb⟩
      obtain ⟨_, _, ev, hO⟩ := Own.of_owns ho (by omega)
      cases ev
      exact ⟨g, 0, k + 1, cap, a2, n2, c2, rfl, hO.row, h2.below (Nat.le_refl _) hb, owns_fits ho, hc2, hb⟩
    · rw [sideSh_as hne (by rw [e1, e3]; exact hm)]
      refine (beside_as c ⟨b, off, none⟩ a2 (k + 1) n2 c1 c2 o1 m1 d1 w h0 hm (by omega)).mono ?_
      rintro e w' ⟨rfl, hb⟩
      exact ⟨b, off, k, c1, a2, n2, c2, rfl, h1.below (Nat.le_refl _) hb, h2.below (Nat.le_refl _) hb, hc1, hc2, hb⟩

set_option maxHeartbeats 1000000 in
theorem jointChar_any (c d : Bool) (v1 v2 : Value) (a2 b2 : Option Addr) (n2 m2 c2 d2 : Nat) (w : World) (hn : n2 ≤ 10000) (hm : m2 ≤ 10000) :
    Calls Tryz.prog 105 #[.agg #[.bool c, v1, .slice a2 n2 c2], .agg #[.bool d, v2, .slice b2 m2 d2]] w fun e w' => e = .returned (.bool (if n2 = 0 ∧ 0 < m2 then d else c)) ∧ Below w.heap.size w w' := by
  have hb : Below w.heap.size w ((w.alloc (.cells #[.bool c, v1, .slice a2 n2 c2] 25)).alloc (.cells #[.bool d, v2, .slice b2 m2 d2] 25)) := ((Below.refl _ w).alloc (Nat.le_refl _) _).alloc (by simp) _
  by_cases h1 : n2 = 0
  · by_cases h2 : 0 < m2
    · rw [if_pos ⟨h1, h2⟩]
      subst h1
      go_enter Tryz.func105, Tryz.ntmps105
      go_wp2
      go_ret
      exact ⟨rfl, hb⟩
    · rw [if_neg (by omega)]
      subst h1
      obtain rfl : m2 = 0 := by omega
      clear h2
      go_enter Tryz.func105, Tryz.ntmps105
      go_wp2
      go_ret
      exact ⟨rfl, hb⟩
  · rw [if_neg (by omega)]
    have g1 : ((n2 : Int) == 0) = false := by simp; omega
    clear h1
    go_enter Tryz.func105, Tryz.ntmps105
    go_wp2
    go_ret
    exact ⟨rfl, hb⟩

end Go.Proofs.YtkgcmpmgaghdhaaGreatDoor
