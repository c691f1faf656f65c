import Derived.Test.YtgjpchnkodnieaaGreatDoorMFit0
import Derived.Test.YtgjpchnkodnieaaGreatDoorMFit0
import Derived.Deep.RegionHeld3
import Derived.BigRegion
import Derived.Deep.RegionLaw
import Derived.Deep.RegionHeld
import Derived.Deep.AppendLies
import Derived.Deep.DeepCutAuto
import Derived.OrdersHeld
import Derived.RegionTactic
import Derived.WalkKit
import Derived.Laws.OwnMore
import Derived.Laws.AppendOwnNone
import Derived.RangeFuncRecord
import Derived.MapKept
import Derived.Shelf.Abstract
import Derived.Laws.EntriesVeiled
import Derived.Test.YtgjpchnkodnieaaGreatDoorChecked
namespace Go.Proofs.YtgjpchnkodnieaaGreatDoor
open Go.RowKit

/-- An array of the draw's own lies in box p4, the answer's box p0 is untouched. -/
def AG (w : World) (pr p0 p4 : Nat) (wx : World) : Prop :=
  ∃ (c : Bool) (a1 a2 : Addr) (n1 n2 c1 c2 : Nat) (sh dt : List Int), Box wx p4 c (.slice (some a1) n1 c1) (.slice (some a2) n2 c2) ∧ Own wx w.heap.size (some a1) n1 sh ∧ Own wx w.heap.size (some a2) n2 dt ∧ n1 ≤ 6 ∧ n2 ≤ 10001 ∧ RdOk wx pr ∧ But (fun x => x = pr) w wx ∧ Box wx p0 false (.slice none 0 0) (.slice none 0 0)

theorem ag_set {w wx : World} {pr p0 p4 : Nat} {c c' : Bool} {v1 v2 : Value} {a1 a2 : Addr} {n1 n2 c1 c2 : Nat} {sh dt : List Int} (hb : Box wx p4 c v1 v2) (o1 : Own wx w.heap.size (some a1) n1 sh) (o2 : Own wx w.heap.size (some a2) n2 dt) (ne1 : ∀ k, At (some a1) n1 k → k ≠ p4) (ne2 : ∀ k, At (some a2) n2 k → k ≠ p4) (h1 : n1 ≤ 6) (h2 : n2 ≤ 10001) (hr : RdOk wx pr) (hbut : But (fun x => x = pr) w wx) (h0 : Box wx p0 false (.slice none 0 0) (.slice none 0 0)) (hp4 : w.heap.size ≤ p4) (hpr : pr < w.heap.size) (hne : p0 ≠ p4) :
    AG w pr p0 p4 (((wx.setCell ⟨p4, 0, none⟩ (.bool c')).setCell ⟨p4, 1, none⟩ (.slice (some a1) n1 c1)).setCell ⟨p4, 2, none⟩ (.slice (some a2) n2 c2)) := by
  have hs : But (fun x => x = p4) wx (((wx.setCell ⟨p4, 0, none⟩ (.bool c')).setCell ⟨p4, 1, none⟩ (.slice (some a1) n1 c1)).setCell ⟨p4, 2, none⟩ (.slice (some a2) n2 c2)) := (((But.refl (fun x => x = p4) wx).setCell (p := ⟨p4, 0, none⟩) rfl _).setCell (p := ⟨p4, 1, none⟩) rfl _).setCell (p := ⟨p4, 2, none⟩) rfl _
  exact ⟨c', a1, a2, n1, n2, c1, c2, sh, dt, hb.sets, hs.own o1 (by rintro k rfl hk; exact ne1 _ hk rfl), hs.own o2 (by rintro k rfl hk; exact ne2 _ hk rfl), h1, h2, hr.but hs (by rintro k rfl; omega), ((hbut.setNew (p := ⟨p4, 0, none⟩) hp4 _).setNew (p := ⟨p4, 1, none⟩) hp4 _).setNew (p := ⟨p4, 2, none⟩) hp4 _, h0.but hs (by show ¬ p0 = p4; exact hne)⟩

theorem own_of_lits (w : World) (B : Nat) (l : List Int) (hB : B ≤ w.heap.size) (hl : l.length ≤ 100) : Own (w.alloc (.cells (l.map (Value.int .i64)).toArray 3)) B (some ⟨w.heap.size, 0, none⟩) l.length l :=
  (show Blk (w.alloc _) w.heap.size l from World.alloc_heap_new w _).own rfl (by omega) hB

theorem divN (k m : Nat) : ∃ j : Nat, j = k / m ∧ (k : Int).tdiv (m : Int) = (j : Int) ∧ (k : Int) / (m : Int) = (j : Int) := ⟨k / m, rfl, by rw [Int.tdiv_eq_ediv_of_nonneg (by omega)]; rfl, rfl⟩

theorem Own.take {w : World} {B n m : Nat} {a : Option Addr} {zs : List Int} (h : Own w B a n zs) (hm : m ≤ n) : Own w B a m (zs.take m) := by
  refine ⟨by rw [List.length_take, h.len]; omega, by have := h.small; omega, ?_⟩
  rcases h.at_ with h0 | ⟨b, off, e, hb, hlt, hc, hf⟩
  · exact .inl (by omega)
  · refine .inr ⟨b, off, e, hb, hlt, fun i hi => ?_, fun i hi => hf i (by omega)⟩
    rw [hc i (by omega)]
    simp [List.getD, hi]

theorem box_set1 {w : World} {p : Nat} {c : Bool} {v1 v2 : Value} (h : Box w p c v1 v2) (v : Value) : Box (w.setCell ⟨p, 1, none⟩ v) p c v v2 := by
  unfold Box at h ⊢
  rw [heap_setCell_same w p 1 _ _ _ h]
  simp

/-- What is known of the array before it is spoilt. -/
structure AW (w : World) (pr p0 p4 : Nat) (c : Bool) (g1 g2 n1 n2 c1 c2 : Nat) (sh dt : List Int) (wx : World) : Prop where
  box : Box wx p4 c (.slice (some ⟨g1, 0, none⟩) n1 c1) (.slice (some ⟨g2, 0, none⟩) n2 c2)
  o1 : wx.ownsRow w.heap.size 3 1 (.slice (some ⟨g1, 0, none⟩) n1 c1) n1 (sh.map (Value.int .i64))
  o2 : wx.ownsRow w.heap.size 3 1 (.slice (some ⟨g2, 0, none⟩) n2 c2) n2 (dt.map (Value.int .i64))
  ne : g1 ≠ g2
  h1 : n1 ≤ 6
  h2 : n2 ≤ 10001
  rd : RdOk wx pr
  but : But (fun x => x = pr) w wx
  b0 : Box wx p0 false (.slice none 0 0) (.slice none 0 0)
  hp : pr < w.heap.size
  h4 : w.heap.size ≤ p4
  h0 : w.heap.size ≤ p0

section
variable {w wx w' : World} {pr p0 p4 g1 g2 n1 n2 c1 c2 : Nat} {c : Bool} {sh dt : List Int}
theorem AW.ag (h : AW w pr p0 p4 c g1 g2 n1 n2 c1 c2 sh dt wx) : AG w pr p0 p4 wx := by
  obtain ⟨_, _, e1, q1⟩ := Own.of_owns h.o1 (by have := h.h1; omega)
  obtain ⟨_, _, e2, q2⟩ := Own.of_owns h.o2 (by have := h.h2; omega)
  cases e1
  cases e2
  exact ⟨c, _, _, n1, n2, c1, c2, sh, dt, h.box, q1, q2, h.h1, h.h2, h.rd, h.but, h.b0⟩

theorem AW.next (h : AW w pr p0 p4 c g1 g2 n1 n2 c1 c2 sh dt wx) (hb : But (fun x => x = pr) wx w') (hr : RdOk w' pr) : AW w pr p0 p4 c g1 g2 n1 n2 c1 c2 sh dt w' :=
  ⟨h.box.but hb (by have := h.h4; have := h.hp; show ¬ p4 = pr; omega), owns_but h.o1 hb (by have := owns_from h.o1; have := h.hp; show ¬ g1 = pr; omega), owns_but h.o2 hb (by have := owns_from h.o2; have := h.hp; show ¬ g2 = pr; omega), h.ne, h.h1, h.h2, hr, (h.but.trans hb).mono (by rintro x (h | h) <;> exact h), h.b0.but hb (by have := h.h0; have := h.hp; show ¬ p0 = pr; omega), h.hp, h.h4, h.h0⟩

theorem AW.p04 (h : AW w pr p0 p4 c g1 g2 n1 n2 c1 c2 sh dt wx) : p0 ≠ p4 := by
  intro e
  subst e
  have h1 := h.box
  have h2 := h.b0
  unfold Box at h1 h2
  rw [h1] at h2
  simp at h2

theorem AW.below (h : AW w pr p0 p4 c g1 g2 n1 n2 c1 c2 sh dt wx) (hb : Below wx.heap.size wx w') : AW w pr p0 p4 c g1 g2 n1 n2 c1 c2 sh dt w' := h.next (But.of_below hb) (h.rd.below hb)

/-- One number more behind the shape. -/
theorem AW.push1 {g' cap' : Nat} {x : Int} {o : Obj} (h : AW w pr p0 p4 c g1 g2 n1 n2 c1 c2 sh dt wx) (hn : n1 ≤ 5) (hown : w'.ownsRow w.heap.size 3 1 (.slice (some ⟨g', 0, none⟩) (n1 + 1) cap') (n1 + 1) (sh.map (Value.int .i64) ++ [.int .i64 x])) (hg : (wx.alloc o).grownBy w' (Value.ownBlock (.slice (some ⟨g1, 0, none⟩) n1 c1))) :
    Box w' p4 c (.slice (some ⟨g1, 0, none⟩) n1 c1) (.slice (some ⟨g2, 0, none⟩) n2 c2) ∧ AG w pr p0 p4 (w'.setCell ⟨p4, 1, none⟩ (.slice (some ⟨g', 0, none⟩) (n1 + 1) cap')) := by
  have hg' : (wx.alloc o).grownBy w' (some g1) := hg
  have hb6 := h.box.grown h.o1 o hg
  have h06 := h.b0.grown h.o1 o hg
  obtain ⟨hrd, hbt⟩ := draw_grown h.rd h.but h.hp (owns_from h.o1) hg'
  have o26 := owns_but h.o2 (but_grown hg') (fun e => h.ne e.symm)
  have hs : But (fun x => x = p4) w' (w'.setCell ⟨p4, 1, none⟩ (.slice (some ⟨g', 0, none⟩) (n1 + 1) cap')) := (But.refl (fun x => x = p4) w').setCell (p := ⟨p4, 1, none⟩) rfl _
  rw [show sh.map (Value.int .i64) ++ [.int .i64 x] = (sh ++ [x]).map (Value.int .i64) by simp] at hown
  obtain ⟨_, _, e1, q1⟩ := Own.of_owns (owns_but hown hs (owns_nebox hown hb6)) (by omega)
  obtain ⟨_, _, e2, q2⟩ := Own.of_owns (owns_but o26 hs (owns_nebox o26 hb6)) (by have := h.h2; omega)
  cases e1
  cases e2
  have hp4 := h.h4
  have hp := h.hp
  exact ⟨hb6, c, _, _, n1 + 1, n2, cap', c2, sh ++ [x], dt, box_set1 hb6 _, q1, q2, by omega, h.h2, hrd.but hs (by rintro k rfl; omega), hbt.setNew (p := ⟨p4, 1, none⟩) hp4 _, h06.but hs (by show ¬ p0 = p4; exact h.p04)⟩

/-- One element more behind the elements. -/
theorem AW.push2 {g' cap' : Nat} {x : Int} {o : Obj} (h : AW w pr p0 p4 c g1 g2 n1 n2 c1 c2 sh dt wx) (hn : n2 ≤ 10000) (hown : w'.ownsRow w.heap.size 3 1 (.slice (some ⟨g', 0, none⟩) (n2 + 1) cap') (n2 + 1) (dt.map (Value.int .i64) ++ [.int .i64 x])) (hg : (wx.alloc o).grownBy w' (Value.ownBlock (.slice (some ⟨g2, 0, none⟩) n2 c2))) :
    Box w' p4 c (.slice (some ⟨g1, 0, none⟩) n1 c1) (.slice (some ⟨g2, 0, none⟩) n2 c2) ∧ AG w pr p0 p4 (w'.setCell ⟨p4, 2, none⟩ (.slice (some ⟨g', 0, none⟩) (n2 + 1) cap')) := by
  have hg' : (wx.alloc o).grownBy w' (some g2) := hg
  have hb6 := h.box.grown h.o2 o hg
  have h06 := h.b0.grown h.o2 o hg
  obtain ⟨hrd, hbt⟩ := draw_grown h.rd h.but h.hp (owns_from h.o2) hg'
  have o16 := owns_but h.o1 (but_grown hg') h.ne
  have hs : But (fun x => x = p4) w' (w'.setCell ⟨p4, 2, none⟩ (.slice (some ⟨g', 0, none⟩) (n2 + 1) cap')) := (But.refl (fun x => x = p4) w').setCell (p := ⟨p4, 2, none⟩) rfl _
  rw [show dt.map (Value.int .i64) ++ [.int .i64 x] = (dt ++ [x]).map (Value.int .i64) by simp] at hown
  obtain ⟨_, _, e1, q1⟩ := Own.of_owns (owns_but o16 hs (owns_nebox o16 hb6)) (by have := h.h1; omega)
  obtain ⟨_, _, e2, q2⟩ := Own.of_owns (owns_but hown hs (owns_nebox hown hb6)) (by omega)
  cases e1
  cases e2
  have hp4 := h.h4
  have hp := h.hp
  exact ⟨hb6, c, _, _, n1, n2 + 1, c1, cap', sh, dt ++ [x], hb6.set2 _, q1, q2, h.h1, by omega, hrd.but hs (by rintro k rfl; omega), hbt.setNew (p := ⟨p4, 2, none⟩) hp4 _, h06.but hs (by show ¬ p0 = p4; exact h.p04)⟩
end

set_option maxRecDepth 20000 in
set_option maxHeartbeats 8000000 in
theorem l3Array_any (pr : Nat) (w : World) (h : RdOk w pr) :
    Calls Tryz.prog 46 #[.pointer (some ⟨pr, 0, none⟩)] w fun e w' => (∃ (c : Bool) (a1 a2 : Addr) (n1 n2 c1 c2 : Nat) (sh dt : List Int), e = .returned (.agg #[.bool c, .slice (some a1) n1 c1, .slice (some a2) n2 c2]) ∧ Own w' w.heap.size (some a1) n1 sh ∧ Own w' w.heap.size (some a2) n2 dt ∧ n1 ≤ 6 ∧ n2 ≤ 10001) ∧ RdOk w' pr ∧ But (fun x => x = pr) w w' := by
  have hlw := h.lt
  obtain ⟨i0, hi, hz0, hz1, hz2⟩ := info_parts info_int
  have hb0 : Below w.heap.size w (w.alloc (.cells #[.bool false, .slice none 0 0, .slice none 0 0] 25)) := (Below.refl _ w).alloc (Nat.le_refl _) _
  have HP0 : Hid (Box (w.alloc (.cells #[.bool false, .slice none 0 0, .slice none 0 0] 25)) w.heap.size false (.slice none 0 0) (.slice none 0 0)) := Box.new w _ _ _
  have HBB : Hid (But (fun x => x = pr) w (w.alloc (.cells #[.bool false, .slice none 0 0, .slice none 0 0] 25))) := But.of_below hb0
  have hcall := next_any pr _ (h.below hb0)
  clear h hb0
  go_enter Tryz.func46, Tryz.ntmps46
  go_upto_region 2 with (go_at_call 45; refine hcall.mono ?_; rintro e w1 ⟨⟨k, hk, rfl⟩, hr1, hb1⟩; have HR1 := hide hr1; have HB1' := hide hb1; clear hr1 hb1)
  clear hcall
  have HP1 := hide ((unhide HP0).but (unhide HB1') (by show ¬ w.heap.size = pr; omega))
  have HB1 : Hid (But (fun x => x = pr) w w1) := ((unhide HBB).trans (unhide HB1')).mono (by rintro x (h | h) <;> exact h)
  clear HP0 HBB HB1'
  obtain ⟨j5, hj5, q5, q5'⟩ := modN k 5 (by omega)
  have r5 : (k : Int).tmod 5 = (j5 : Int) := q5
  have r5' : (k : Int) % 5 = (j5 : Int) := q5'
  obtain ⟨bc, hbc⟩ : ∃ bc, ((j5 : Int) == 4) = bc := ⟨_, rfl⟩
  have hcS := l3Shape_any pr w1 (unhide HR1)
  have hw1 := (unhide HP1).lt
  clear q5 q5'
  go_upto_region 3 with (first
    | (go_at_call 134; refine hcS.mono ?_; rintro e w2 ⟨⟨g1, n1, cap1, zs, rfl, hn1, ho1⟩, hr2, hb2⟩; obtain ⟨_, _, ev, hO1⟩ := Own.of_owns ho1 (by omega); cases ev; have HR2 := hide hr2; have HB2 := hide hb2; have HO2 := hide ho1; have HQ2 := hide hO1; clear hr2 hb2 ho1 hO1)
    | (go_at_call 102; refine (l3Of_any pr g1 n1 cap1 bc zs _ (unhide HR2) (unhide HQ2).row (by have := owns_from (unhide HO2); have := (unhide HR1).lt; omega)).mono ?_; rintro e w3 ⟨⟨g2, n2, cap2, dt, rfl, hn2, ho2⟩, hr3, hb3⟩; have HR3 := hide hr3; have HB3 := hide hb3; have HO3 := hide ho2; clear hr3 hb3 ho2))
  clear hcS
  obtain ⟨p4, hp4⟩ : ∃ p, p = w3.heap.size := ⟨_, rfl⟩
  obtain ⟨W4, hW4⟩ : ∃ W, W = w3.alloc (.cells #[.bool bc, .slice (some ⟨g1, 0, none⟩) n1 cap1, .slice (some ⟨g2, 0, none⟩) n2 cap2] 25) := ⟨_, rfl⟩
  have hz12 := (unhide HB2).size
  have hz23 := (unhide HB3).size
  have HAW : Hid (AW w pr w.heap.size p4 bc g1 g2 n1 n2 cap1 cap2 zs dt W4) := by
    have hge1 := owns_from (unhide HO2)
    have hge2 := owns_from (unhide HO3)
    have hg1l : g1 < w2.heap.size := owns_lt (unhide HO2) rfl
    have hprl := (unhide HR1).lt
    have hb4 : Below w3.heap.size w3 W4 := by rw [hW4]; exact (Below.refl _ _).alloc (Nat.le_refl _) _
    refine ⟨by rw [hW4, hp4]; exact Box.new w3 _ _ _, owns_mono (owns_below (owns_but (unhide HO2) (unhide HB3) (by show ¬ g1 = pr; omega)) (Nat.le_refl _) hb4) (by omega), owns_mono (owns_below (unhide HO3) (Nat.le_refl _) hb4) (by omega), by omega, by omega, by omega, (unhide HR3).below hb4, ?_, ?_, hlw, by omega, Nat.le_refl _⟩
    · exact ((((unhide HB1).trans (unhide HB2)).trans (unhide HB3)).trans (T := fun x => x = pr) (But.of_below hb4)).mono (by rintro x (((h | h) | h) | h) <;> exact h)
    · exact (((unhide HP1).but (unhide HB2) (by show ¬ w.heap.size = pr; omega)).but (unhide HB3) (by show ¬ w.heap.size = pr; omega)).below (Nat.le_refl _) hb4
  rw [← hW4, ← hp4]
  clear hW4 hp4 HR1 HR2 HR3 HB1 HB2 HB3 HP1 HO2 HO3 HQ2 hz12 hz23 hw1
  go_upto_if 17 with fail
  go_cut [] (fun wx => AG w pr w.heap.size p4 wx)
  case first =>
    by_cases h246 : 246 ≤ k
    · have h246z : (246 : Int) ≤ (k : Int) := by omega
      have hcall := next_any pr _ (unhide HAW).rd
      go_upto_region 5 with (go_at_call 45; refine hcall.mono ?_; rintro e w5 ⟨⟨v, hv, rfl⟩, hr5, hb5⟩; have HW5 := hide ((unhide HAW).next hb5 hr5); clear hr5 hb5)
      clear hcall HAW
      obtain ⟨j, hj, q6, q6'⟩ := modN v 6 (by omega)
      have r6 : (v : Int).tmod 6 = (j : Int) := q6
      have r6' : (v : Int) % 6 = (j : Int) := q6'
      obtain ⟨d, hd0, qd, qd'⟩ := divN v 6
      have rd' : (v : Int).tdiv 6 = (d : Int) := qd
      have rd'' : (v : Int) / 6 = (d : Int) := qd'
      have hd255 : d ≤ 255 := by rw [hd0]; exact Nat.le_trans (Nat.div_le_self v 6) hv
      clear q6 q6' qd qd' hd0 h246z h246 r5 r5'
      obtain ⟨y0, y1, y2, y3, y4, y5, y6⟩ := (unhide HW5).box.all
      have hsz5 := (unhide HW5).but.size
      have hn25 := (unhide HW5).h2
      by_cases e0 : j = 0
      · have g0 : ((j : Int) == 0) = true := by simp [e0]
        clear e0
        go_wp2_with (at_builtin; refine wpList_append_lies _ rfl _ _ 23 rfl w.heap.size 3 i0 (.int .i64 0) 1 8 Tryz.underlying23 hi hz0 hz1 hz2 rfl (by decide) _ _ _ rfl (owns_below (unhide HW5).o2 (Nat.le_refl _) ((Below.refl _ _).alloc (Nat.le_refl _) _)) ⟨w5.heap.size, 0, none⟩ 1 1 [.int .i64 1] rfl rfl (cells_new _ _) (one_one _) (by omega) (by unfold maxLen; omega) (by omega) (by simp; omega) (w5.heap.size + 1) (by simp) ?_; intro g' cap' w7 hown' hgrow hat hlt7; have HD7 := hide ((unhide HW5).push2 hn2 hown' hgrow); clear hown' hgrow hat hlt7 y0 y1 y2 y3 y4 y5 y6; obtain ⟨y0, y1, y2, y3, y4, y5, y6⟩ := (unhide HD7).1.all)
        go_meet
        case rel => exact (unhide HD7).2
      · have g0 : ((j : Int) == 0) = false := by simp; omega
        by_cases e1 : j = 1
        · have g1' : ((j : Int) == 1) = true := by simp [e1]
          obtain ⟨t4, ht4, qt, qt'⟩ := modN d 4 (by omega)
          have rt : (d : Int).tmod 4 = (t4 : Int) := qt
          have rt' : (d : Int) % 4 = (t4 : Int) := qt'
          have hwt : IntKind.i64.wrap (t4 : Int) = (t4 : Int) := by rw [IntKind.wrap_i64]; omega
          obtain ⟨x, hx⟩ : ∃ x, x = ([1, 0, -1, 10001] : List Int).getD t4 0 := ⟨_, rfl⟩
          have hc : ∀ W : World, (W.alloc (.cells #[.int .i64 1, .int .i64 0, .int .i64 (-1), .int .i64 10001] 3)).cell? ⟨W.heap.size, t4, none⟩ = some (.int .i64 x) := fun W => by
            rw [hx]; exact lits W [1, 0, -1, 10001] t4 (by simpa using ht4)
          have hc1 := hc w5
          have hc2 := hc w5.drew
          have HRD1 := hide rd'
          have HRT1 := hide rt
          have hn15 : n1 ≤ 5 := hn1
          have hnw : ∀ (u : Int) (j : Nat) (y : Value), ([.int .i64 u] : List Value)[j]? = some y → ((w5.alloc (.cells #[.int .i64 1, .int .i64 0, .int .i64 (-1), .int .i64 10001] 3)).alloc (.cells #[.int .i64 u] 3)).cell? ((⟨w5.heap.size + 1, 0, none⟩ : Addr).add j) = some y := fun u => by
            have h := cells_new (w5.alloc (.cells #[.int .i64 1, .int .i64 0, .int .i64 (-1), .int .i64 10001] 3)) u
            rw [World.size_alloc] at h
            exact h
          have HY : Hid (AW w pr w.heap.size p4 bc g1 g2 n1 n2 cap1 cap2 zs dt (w5.alloc (.cells #[.int .i64 1, .int .i64 0, .int .i64 (-1), .int .i64 10001] 3)).drew) := (unhide HW5).below (((Below.refl _ _).alloc (Nat.le_refl _) _).drew)
          clear hx qt qt' hc
          go_upto_region 9 with fail
          have htz0 : (0 : Int) ≤ (t4 : Int) := by omega
          have htz2 : (t4 : Int) < 4 := by omega
          have rd3 : (v : Int).tdiv 6 = (d : Int) := unhide HRD1
          have rt3 : (d : Int).tmod 4 = (t4 : Int) := unhide HRT1
          have hwd : IntKind.i64.wrap (d : Int) = (d : Int) := by rw [IntKind.wrap_i64]; omega
          go_region_law (first | (refine step_append_lies _ (by rfl) _ _ _ (by rfl) w.heap.size 3 i0 _ 1 8 Tryz.underlying23 hi hz0 hz1 hz2 rfl (by omega) (.slice (some ⟨g1, 0, none⟩) n1 cap1) n1 (zs.map (Value.int .i64)) (by rfl) (by exact (unhide HY).o1.alloc _) ⟨w5.heap.size + 1, 0, none⟩ 1 1 [.int .i64 x] (by rfl) (by rfl) (by exact hnw _) (one_one _) (by omega) (by unfold maxLen; omega) (by omega) (by simp; omega) (w5.heap.size + 2) (by simp) ?_; intro g' cap' w7 hown' hgrow hat hlt7; have HD7 := hide ((unhide HY).push1 hn15 hown' (by exact hgrow)); clear hown' hgrow hat hlt7 y0 y1 y2 y3 y4 y5 y6; obtain ⟨y0, y1, y2, y3, y4, y5, y6⟩ := (unhide HD7).1.all))
          all_goals go_wp2_with fail
          all_goals (go_meet; case rel => exact (unhide HD7).2)
        · have g1' : ((j : Int) == 1) = false := by simp; omega
          by_cases e2 : j = 2
          · have g2' : ((j : Int) == 2) = true := by simp [e2]
            obtain ⟨t2, ht2, qt, qt'⟩ := modN d 2 (by omega)
            have rt : (d : Int).tmod 2 = (t2 : Int) := qt
            have rt' : (d : Int) % 2 = (t2 : Int) := qt'
            obtain ⟨nn, hnn⟩ : ∃ nn : Nat, nn = 10000 + t2 := ⟨_, rfl⟩
            have hsum : (10000 : Int) + (t2 : Int) = (nn : Int) := by omega
            have hnb : nn ≤ 10001 := by omega
            have hwn : IntKind.i64.wrap (nn : Int) = (nn : Int) := by rw [IntKind.wrap_i64]; omega
            have hmk := run_make_row' (P := Tryz.prog) 23 3 (.int .i64 0) 8 Tryz.underlying23 info_int rfl .i64 .i64 nn (by omega) (by omega)
            clear qt qt' hnn e0 e1 e2
            go_wp2_with fail
            go_meet
            case rel =>
              obtain ⟨X, hX⟩ : ∃ X, X = ((w5.setCell ⟨p4, 0, none⟩ (.bool false)).setCell ⟨p4, 1, none⟩ (.slice (some ⟨w5.heap.size, 0, none⟩) 1 1)).setCell ⟨p4, 2, none⟩ (.slice (some ⟨w5.heap.size + 1, 0, none⟩) nn nn) := ⟨_, rfl⟩
              have hXs : X.heap.size = w5.heap.size := by rw [hX]; simp
              have hs : But (fun x => x = p4) w5 X := by rw [hX]; exact (((But.refl (fun x => x = p4) w5).setCell (p := ⟨p4, 0, none⟩) rfl _).setCell (p := ⟨p4, 1, none⟩) rfl _).setCell (p := ⟨p4, 2, none⟩) rfl _
              have hbx : Box X p4 false (.slice (some ⟨w5.heap.size, 0, none⟩) 1 1) (.slice (some ⟨w5.heap.size + 1, 0, none⟩) nn nn) := by rw [hX]; exact (unhide HW5).box.sets
              have hbt : But (fun x => x = pr) w X := by rw [hX]; exact (((unhide HW5).but.setNew (p := ⟨p4, 0, none⟩) (unhide HW5).h4 _).setNew (p := ⟨p4, 1, none⟩) (unhide HW5).h4 _).setNew (p := ⟨p4, 2, none⟩) (unhide HW5).h4 _
              rw [← hX]
              have h44 := (unhide HW5).h4
              have hpp := (unhide HW5).hp
              have hrd := (unhide HW5).rd.but hs (by rintro k rfl; omega)
              have hb0 := (unhide HW5).b0.but hs (by show ¬ w.heap.size = p4; exact (unhide HW5).p04)
              have b1 : Blk ((X.alloc (.cells #[.int .i64 (nn : Nat)] 3)).alloc (.cells (madeCells #[.int .i64 0] nn) 3)) w5.heap.size [(nn : Int)] := by rw [← hXs]; exact (show Blk (X.alloc _) X.heap.size [(nn : Int)] from World.alloc_heap_new X _).alloc _
              have b2 : Blk ((X.alloc (.cells #[.int .i64 (nn : Nat)] 3)).alloc (.cells (madeCells #[.int .i64 0] nn) 3)) (w5.heap.size + 1) (List.replicate nn 0) := Blk.made _ _ _ (by simp [hXs])
              have hbw : Below X.heap.size X ((X.alloc (.cells #[.int .i64 (nn : Nat)] 3)).alloc (.cells (madeCells #[.int .i64 0] nn) 3)) := ((Below.refl _ X).alloc (Nat.le_refl _) _).alloc (by simp) _
              refine ⟨false, ⟨w5.heap.size, 0, none⟩, ⟨w5.heap.size + 1, 0, none⟩, 1, nn, 1, nn, [(nn : Int)], List.replicate nn 0, hbx.below (Nat.le_refl _) hbw, b1.own rfl (by omega) (by omega), b2.own (by simp) (by omega) (by omega), by omega, hnb, hrd.below hbw, ?_, hb0.below (Nat.le_refl _) hbw⟩
              exact (hbt.trans (T := fun x => x = pr) (But.of_below hbw)).mono (by rintro x (h | h) <;> exact h)
          · have g2' : ((j : Int) == 2) = false := by simp; omega
            by_cases e3 : j = 3
            · have g3' : ((j : Int) == 3) = true := by simp [e3]
              obtain ⟨t2, ht2, qt, qt'⟩ := modN d 2 (by omega)
              have rt : (d : Int).tmod 2 = (t2 : Int) := qt
              have rt' : (d : Int) % 2 = (t2 : Int) := qt'
              obtain ⟨nn, hnn⟩ : ∃ nn : Nat, nn = 5 + t2 := ⟨_, rfl⟩
              have hsum : (5 : Int) + (t2 : Int) = (nn : Int) := by omega
              have hnb : nn ≤ 6 := by omega
              have hnz : (nn : Int) ≤ 6 := by omega
              have hwn : IntKind.i64.wrap (nn : Int) = (nn : Int) := by rw [IntKind.wrap_i64]; omega
              have hp4l := (unhide HW5).box.lt
              clear qt qt' hnn e0 e1 e2 e3
              go_wp2_with fail
              go_meet
              case rel =>
                obtain ⟨X, hX⟩ : ∃ X, X = (w5.setCell ⟨p4, 1, none⟩ (.slice (some ⟨w5.heap.size, 0, none⟩) nn 6)).setCell ⟨p4, 2, none⟩ (.slice (some ⟨w5.heap.size + 1, 0, none⟩) 1 1) := ⟨_, rfl⟩
                have hXs : X.heap.size = w5.heap.size := by rw [hX]; simp
                have hs : But (fun x => x = p4) w5 X := by rw [hX]; exact ((But.refl (fun x => x = p4) w5).setCell (p := ⟨p4, 1, none⟩) rfl _).setCell (p := ⟨p4, 2, none⟩) rfl _
                have hbx : Box X p4 bc (.slice (some ⟨w5.heap.size, 0, none⟩) nn 6) (.slice (some ⟨w5.heap.size + 1, 0, none⟩) 1 1) := by rw [hX]; exact (box_set1 (unhide HW5).box _).set2 _
                have hbt : But (fun x => x = pr) w X := by rw [hX]; exact ((unhide HW5).but.setNew (p := ⟨p4, 1, none⟩) (unhide HW5).h4 _).setNew (p := ⟨p4, 2, none⟩) (unhide HW5).h4 _
                rw [← hX]
                have h44 := (unhide HW5).h4
                have hpp := (unhide HW5).hp
                have hrd := (unhide HW5).rd.but hs (by rintro k rfl; omega)
                have hb0 := (unhide HW5).b0.but hs (by show ¬ w.heap.size = p4; exact (unhide HW5).p04)
                have b1 : Own ((X.alloc (.cells #[.int .i64 1, .int .i64 1, .int .i64 1, .int .i64 1, .int .i64 1, .int .i64 1] 3)).alloc (.cells #[.int .i64 1] 3)) w.heap.size (some ⟨w5.heap.size, 0, none⟩) 6 [1, 1, 1, 1, 1, 1] := by
                  rw [← hXs]
                  exact ((show Blk (X.alloc _) X.heap.size [1, 1, 1, 1, 1, 1] from World.alloc_heap_new X _).alloc _).own rfl (by omega) (by omega)
                have b2 : Blk ((X.alloc (.cells #[.int .i64 1, .int .i64 1, .int .i64 1, .int .i64 1, .int .i64 1, .int .i64 1] 3)).alloc (.cells #[.int .i64 1] 3)) (w5.heap.size + 1) [1] := by
                  have h3 := World.alloc_heap_new (X.alloc (.cells #[.int .i64 1, .int .i64 1, .int .i64 1, .int .i64 1, .int .i64 1, .int .i64 1] 3)) (.cells #[.int .i64 1] 3)
                  rw [World.size_alloc, hXs] at h3
                  exact h3
                have hbw : Below X.heap.size X ((X.alloc (.cells #[.int .i64 1, .int .i64 1, .int .i64 1, .int .i64 1, .int .i64 1, .int .i64 1] 3)).alloc (.cells #[.int .i64 1] 3)) := ((Below.refl _ X).alloc (Nat.le_refl _) _).alloc (by simp) _
                refine ⟨bc, ⟨w5.heap.size, 0, none⟩, ⟨w5.heap.size + 1, 0, none⟩, nn, 1, 6, 1, _, [1], hbx.below (Nat.le_refl _) hbw, b1.take hnb, b2.own rfl (by omega) (by omega), hnb, by omega, hrd.below hbw, ?_, hb0.below (Nat.le_refl _) hbw⟩
                exact (hbt.trans (T := fun x => x = pr) (But.of_below hbw)).mono (by rintro x (h | h) <;> exact h)
            · have g3' : ((j : Int) == 3) = false := by simp; omega
              by_cases en : 0 < n2
              · have enz : (0 : Int) < (n2 : Int) := by omega
                obtain ⟨t5, ht5, qt, qt'⟩ := modN d 5 (by omega)
                have rt : (d : Int).tmod 5 = (t5 : Int) := qt
                have rt' : (d : Int) % 5 = (t5 : Int) := qt'
                have htz : (t5 : Int) < 5 := by omega
                have hwt : IntKind.i64.wrap (t5 : Int) = (t5 : Int) := by rw [IntKind.wrap_i64]; omega
                obtain ⟨x, hx⟩ : ∃ x, x = ([1000000000000001, -1000000000000001, 55296, 1114112, -1] : List Int).getD t5 0 := ⟨_, rfl⟩
                have hc : ∀ W : World, (W.alloc (.cells #[.int .i64 1000000000000001, .int .i64 (-1000000000000001), .int .i64 55296, .int .i64 1114112, .int .i64 (-1)] 3)).cell? ⟨W.heap.size, t5, none⟩ = some (.int .i64 x) := fun W => by
                  rw [hx]; exact lits W [1000000000000001, -1000000000000001, 55296, 1114112, -1] t5 (by simpa using ht5)
                obtain ⟨_, _, ev, hOd⟩ := Own.of_owns (unhide HW5).o2 (by omega)
                cases ev
                rcases hOd.at_ with h | ⟨gg, oo, hgg, hgl, hgs, hce, hfr⟩
                · omega
                cases hgg
                have cd0 := hce 0 en
                have fd0 := hfr 0 en
                simp only [Nat.add_zero] at cd0 fd0
                have hgp4 : g2 ≠ p4 := owns_nebox (unhide HW5).o2 (unhide HW5).box
                have hp4l := (unhide HW5).box.lt
                have HKEEP : ∀ wx, But (fun x => x = g2) w5 wx → wx.cell? ⟨p4, 2, none⟩ = some (.slice (some ⟨g2, 0, none⟩) n2 cap2) := fun wx hwx => (hwx.cellAt hp4l (by show ¬ p4 = g2; omega)).trans (unhide HW5).box.cells.2.2
                have hc1 := hc w5
                have hc2 := hc w5.drew
                have HRD1 := hide rd'
                have HRT1 := hide rt
                clear hx qt qt' hce hfr hc
                go_upto_region 16 with fail
                have htz0 : (0 : Int) ≤ (t5 : Int) := by omega
                have htz2 : (t5 : Int) < 5 := by omega
                have enz2 : (0 : Int) < (n2 : Int) := by omega
                have rd3 : (v : Int).tdiv 6 = (d : Int) := unhide HRD1
                have rt3 : (d : Int).tmod 5 = (t5 : Int) := unhide HRT1
                have hwd : IntKind.i64.wrap (d : Int) = (d : Int) := by rw [IntKind.wrap_i64]; omega
                go_region
                all_goals go_wp2_with fail
                go_meet
                case rel =>
                  obtain ⟨_, _, ev, hO1⟩ := Own.of_owns (unhide HW5).o1 (by have := (unhide HW5).h1; omega)
                  cases ev
                  have hb : But (fun x => x = g2) w5 (w5.setCell ⟨g2, 0, none⟩ (.int .i64 x)) := (But.refl (fun x => x = g2) w5).setCell (p := ⟨g2, 0, none⟩) rfl _
                  have hbw : Below (w5.setCell ⟨g2, 0, none⟩ (.int .i64 x)).heap.size (w5.setCell ⟨g2, 0, none⟩ (.int .i64 x)) ((w5.setCell ⟨g2, 0, none⟩ (.int .i64 x)).alloc (.cells #[.int .i64 1000000000000001, .int .i64 (-1000000000000001), .int .i64 55296, .int .i64 1114112, .int .i64 (-1)] 3)).drew := ((Below.refl _ _).alloc (Nat.le_refl _) _).drew
                  have hge2 := owns_from (unhide HW5).o2
                  have hpp := (unhide HW5).hp
                  have hne := (unhide HW5).ne
                  have hO2 := hOd.set en x
                  simp only [Nat.add_zero] at hO2
                  refine ⟨bc, ⟨g1, 0, none⟩, ⟨g2, 0, none⟩, n1, n2, cap1, cap2, zs, dt.set 0 x, ((unhide HW5).box.but hb (by show ¬ p4 = g2; omega)).below (Nat.le_refl _) hbw, (hb.own hO1 (by rintro k rfl hk; have := at_eq hk; omega)).below (Nat.le_refl _) hbw, hO2.below (Nat.le_refl _) hbw, (unhide HW5).h1, (unhide HW5).h2, ((unhide HW5).rd.but hb (by rintro k rfl; omega)).below hbw, ?_, ((unhide HW5).b0.but hb (by show ¬ w.heap.size = g2; exact (owns_nebox (unhide HW5).o2 (unhide HW5).b0).symm)).below (Nat.le_refl _) hbw⟩
                  exact (((unhide HW5).but.setNew (p := ⟨g2, 0, none⟩) hge2 _).trans (T := fun x => x = pr) (But.of_below hbw)).mono (by rintro x (h | h) <;> exact h)
              · have enz : ¬ (0 : Int) < (n2 : Int) := by omega
                go_wp2_with fail
                go_meet
                case rel => exact (unhide HW5).ag
    · have h246z : ¬ (246 : Int) ≤ (k : Int) := by omega
      go_wp2_with fail
      go_meet
      case rel => exact (unhide HAW).ag
  case rest =>
    obtain ⟨w6, hw6⟩ : ∃ x, x = wc := ⟨_, rfl⟩
    subst hw6
    obtain ⟨c, a1, a2, m1, m2, d1, d2, sh, dt2, hb, o1, o2, hm1, hm2, hrd, hbt, hb0⟩ := hcut
    obtain ⟨y0, y1, y2, y3, y4, y5, y6⟩ := hb.all
    obtain ⟨q0, q1, q2, q3, q4, q5, q6⟩ := hb0.all
    have HB0 := hide hb0
    have HO1 := hide o1
    have HO2 := hide o2
    have HRD := hide hrd
    have HBT := hide hbt
    have HNB : Hid ((∀ k, At (some a1) m1 k → k ≠ w.heap.size) ∧ ∀ k, At (some a2) m2 k → k ≠ w.heap.size) := ⟨fun k hk => o1.row.notBox hb0 hk, fun k hk => o2.row.notBox hb0 hk⟩
    clear hb hb0 o1 o2 hrd hbt HAW
    go_wp2_with fail
    have hx := (unhide HB0).sets (c' := c) (u1 := .slice (some a1) m1 d1) (u2 := .slice (some a2) m2 d2)
    obtain ⟨r0, r1, r2, _, _, _⟩ := hx.all
    refine bodyPost_ret (v := .agg #[.bool c, .slice (some a1) m1 d1, .slice (some a2) m2 d2]) (by simp [results, Tryz.results46, go_sem, r0, r1, r2]) rfl ?_
    have hs : But (fun x => x = w.heap.size) w6 (((w6.setCell ⟨w.heap.size, 0, none⟩ (.bool c)).setCell ⟨w.heap.size, 1, none⟩ (.slice (some a1) m1 d1)).setCell ⟨w.heap.size, 2, none⟩ (.slice (some a2) m2 d2)) := (((But.refl (fun x => x = w.heap.size) w6).setCell (p := ⟨w.heap.size, 0, none⟩) rfl _).setCell (p := ⟨w.heap.size, 1, none⟩) rfl _).setCell (p := ⟨w.heap.size, 2, none⟩) rfl _
    exact ⟨⟨c, a1, a2, m1, m2, d1, d2, sh, dt2, rfl, hs.own (unhide HO1) (by rintro k rfl hk; exact (unhide HNB).1 _ hk rfl), hs.own (unhide HO2) (by rintro k rfl hk; exact (unhide HNB).2 _ hk rfl), hm1, hm2⟩, (unhide HRD).but hs (by rintro k rfl; omega), (((unhide HBT).setNew (p := ⟨w.heap.size, 0, none⟩) (Nat.le_refl _) _).setNew (p := ⟨w.heap.size, 1, none⟩) (Nat.le_refl _) _).setNew (p := ⟨w.heap.size, 2, none⟩) (Nat.le_refl _) _⟩

end Go.Proofs.YtgjpchnkodnieaaGreatDoor
namespace Go.Proofs.YtgjpchnkodnieaaGreatDoor
open Go.RowKit

/-- A slice of bytes lies in memory. -/
def Bytes (w : World) (a : Option Addr) (n : Nat) : Prop :=
  n = 0 ∨ ∃ b off, a = some ⟨b, off, none⟩ ∧ b < w.heap.size ∧ ∀ i, i < n → ∃ v : Nat, v ≤ 255 ∧ w.cell? ⟨b, off + i, none⟩ = some (.int .u8 (v : Nat))

theorem Bytes.below {w w' : World} {a : Option Addr} {n : Nat} (h : Bytes w a n) (hb : Below w.heap.size w w') : Bytes w' a n := by
  rcases h with h | ⟨b, off, e, hbl, hv⟩
  · exact .inl h
  · refine .inr ⟨b, off, e, by have := hb.size; omega, fun i hi => ?_⟩
    obtain ⟨v, h1, h2⟩ := hv i hi
    exact ⟨v, h1, (hb.cell (p := ⟨b, off + i, none⟩) hbl).trans h2⟩

theorem Bytes.take {w : World} {a : Option Addr} {n m : Nat} (h : Bytes w a n) (hm : m ≤ n) : Bytes w a m := by
  rcases h with h | ⟨b, off, e, hbl, hv⟩
  · exact .inl (by omega)
  · exact .inr ⟨b, off, e, hbl, fun i hi => hv i (by omega)⟩

theorem rd_new {w : World} {a : Option Addr} {n c : Nat} (h : Bytes w a n) (hn : n ≤ 1000) : RdOk (w.alloc (.cells #[.slice a n c, .int .i64 0] 157)) w.heap.size := by
  refine ⟨a, n, c, 0, World.alloc_heap_new w _, hn, Nat.zero_le _, ?_⟩
  rcases h with h | ⟨b, off, e, hbl, hv⟩
  · exact .inl h
  · refine .inr ⟨b, off, e, hbl, fun i hi => ?_⟩
    obtain ⟨v, h1, h2⟩ := hv i hi
    exact ⟨v, h1, (((Below.refl w.heap.size w).alloc (Nat.le_refl _) _).cell (p := ⟨b, off + i, none⟩) hbl).trans h2⟩

set_option maxHeartbeats 2000000 in
theorem l1Open_any (a : Option Addr) (n c : Nat) (w : World) (h : Bytes w a n) (hc : n ≤ c) (hn : n ≤ 1048576) :
    Calls Tryz.prog 44 #[.slice a n c] w fun e w' => ∃ pr, e = .returned (.pointer (some ⟨pr, 0, none⟩)) ∧ RdOk w' pr ∧ w.heap.size ≤ pr ∧ Below w.heap.size w w' := by
  by_cases hlt : 1000 < n
  · have hltz : (1000 : Int) < (n : Int) := by omega
    rcases h with h | ⟨b, off, rfl, hbl, hv⟩
    · omega
    have HBY : Hid (Bytes w (some ⟨b, off, none⟩) 1000) := Bytes.take (n := n) (.inr ⟨b, off, rfl, hbl, hv⟩) (by omega)
    have hc1 : (1000 : Int) ≤ (c : Int) := by omega
    clear hv
    go_enter Tryz.func44, Tryz.ntmps44
    go_wp2_with fail
    refine bodyPost_ret (v := .pointer (some ⟨w.heap.size, 0, none⟩)) (by simp [results, Tryz.results44, go_sem]) rfl ⟨w.heap.size, rfl, rd_new (unhide HBY) (Nat.le_refl _), Nat.le_refl _, (Below.refl _ _).alloc (Nat.le_refl _) _⟩
  · have hltz : ¬ (1000 : Int) < (n : Int) := by omega
    have HBY := hide h
    clear h
    go_enter Tryz.func44, Tryz.ntmps44
    go_wp2_with fail
    refine bodyPost_ret (v := .pointer (some ⟨w.heap.size, 0, none⟩)) (by simp [results, Tryz.results44, go_sem]) rfl ⟨w.heap.size, rfl, rd_new (unhide HBY) (by omega), Nat.le_refl _, (Below.refl _ _).alloc (Nat.le_refl _) _⟩

end Go.Proofs.YtgjpchnkodnieaaGreatDoor
namespace Go.Proofs.YtgjpchnkodnieaaGreatDoor
open Go.RowKit

/-- What a draw of two arrays gives. -/
def DrawnTwo (w : World) (e : Ending) (w' : World) : Prop := ∃ (c d : Bool) (a1 a2 b1 b2 : Addr) (n1 n2 m1 m2 c1 c2 d1 d2 : Nat) (sh dt sh' dt' : List Int), e = .returned (.tuple #[.agg #[.bool c, .slice (some a1) n1 c1, .slice (some a2) n2 c2], .agg #[.bool d, .slice (some b1) m1 d1, .slice (some b2) m2 d2]]) ∧ Row w' (some a1) n1 sh ∧ Row w' (some a2) n2 dt ∧ Row w' (some b1) m1 sh' ∧ Row w' (some b2) m2 dt' ∧ n1 ≤ 6 ∧ n2 ≤ 10001 ∧ m1 ≤ 6 ∧ m2 ≤ 10001 ∧ Below w.heap.size w w'

/-- The two boxes of the answer are written. -/
theorem drawn2_end {w V : World} {x0 x1 : Bool} {c d : Bool} {a1 a2 b1 b2 : Addr} {n1 n2 m1 m2 c1 c2 d1 d2 : Nat} {sh dt sh' dt' : List Int} (h0 : Box V w.heap.size x0 (.slice none 0 0) (.slice none 0 0)) (h1 : Box V (w.heap.size + 1) x1 (.slice none 0 0) (.slice none 0 0)) (r1 : Row V (some a1) n1 sh) (r2 : Row V (some a2) n2 dt) (q1 : Row V (some b1) m1 sh') (q2 : Row V (some b2) m2 dt') (hn1 : n1 ≤ 6) (hn2 : n2 ≤ 10001) (hm1 : m1 ≤ 6) (hm2 : m2 ≤ 10001) (hl : Below w.heap.size w V) :
    DrawnTwo w (.returned (.tuple #[.agg #[.bool c, .slice (some a1) n1 c1, .slice (some a2) n2 c2], .agg #[.bool d, .slice (some b1) m1 d1, .slice (some b2) m2 d2]]))
      ((((((V.setCell ⟨w.heap.size, 0, none⟩ (.bool c)).setCell ⟨w.heap.size, 1, none⟩ (.slice (some a1) n1 c1)).setCell ⟨w.heap.size, 2, none⟩ (.slice (some a2) n2 c2)).setCell ⟨w.heap.size + 1, 0, none⟩ (.bool d)).setCell ⟨w.heap.size + 1, 1, none⟩ (.slice (some b1) m1 d1)).setCell ⟨w.heap.size + 1, 2, none⟩ (.slice (some b2) m2 d2)) := by
  have hb : But (fun x => x = w.heap.size ∨ x = w.heap.size + 1) V ((((((V.setCell ⟨w.heap.size, 0, none⟩ (.bool c)).setCell ⟨w.heap.size, 1, none⟩ (.slice (some a1) n1 c1)).setCell ⟨w.heap.size, 2, none⟩ (.slice (some a2) n2 c2)).setCell ⟨w.heap.size + 1, 0, none⟩ (.bool d)).setCell ⟨w.heap.size + 1, 1, none⟩ (.slice (some b1) m1 d1)).setCell ⟨w.heap.size + 1, 2, none⟩ (.slice (some b2) m2 d2)) :=
    ((((((But.refl _ V).setCell (p := ⟨w.heap.size, 0, none⟩) (.inl rfl) _).setCell (p := ⟨w.heap.size, 1, none⟩) (.inl rfl) _).setCell (p := ⟨w.heap.size, 2, none⟩) (.inl rfl) _).setCell (p := ⟨w.heap.size + 1, 0, none⟩) (.inr rfl) _).setCell (p := ⟨w.heap.size + 1, 1, none⟩) (.inr rfl) _).setCell (p := ⟨w.heap.size + 1, 2, none⟩) (.inr rfl) _
  have hk : ∀ {a : Option Addr} {n : Nat} {zs : List Int}, Row V a n zs → ∀ x, x = w.heap.size ∨ x = w.heap.size + 1 → ¬ At a n x := fun hr x hx hh => by have := hr.notBox h0 hh; have := hr.notBox h1 hh; omega
  exact ⟨c, d, a1, a2, b1, b2, n1, n2, m1, m2, c1, c2, d1, d2, sh, dt, sh', dt', rfl, hb.row r1 (hk r1), hb.row r2 (hk r2), hb.row q1 (hk q1), hb.row q2 (hk q2), hn1, hn2, hm1, hm2, hl.trans (hb.below hl.size (fun x hx => by omega))⟩

theorem drawn2_drew {w w' : World} {e : Ending} (h : DrawnTwo w e w') : DrawnTwo w e w'.drew := by
  obtain ⟨c, d, a1, a2, b1, b2, n1, n2, m1, m2, c1, c2, d1, d2, sh, dt, sh', dt', he, r1, r2, q1, q2, h1, h2, h3, h4, hb⟩ := h
  have hk : Below w'.heap.size w' w'.drew := (Below.refl _ _).drew
  exact ⟨c, d, a1, a2, b1, b2, n1, n2, m1, m2, c1, c2, d1, d2, sh, dt, sh', dt', he, r1.below (Nat.le_refl _) hk, r2.below (Nat.le_refl _) hk, q1.below (Nat.le_refl _) hk, q2.below (Nat.le_refl _) hk, h1, h2, h3, h4, hb.drew⟩

end Go.Proofs.YtgjpchnkodnieaaGreatDoor
namespace Go.Proofs.YtgjpchnkodnieaaGreatDoor
open Go.RowKit

/-- What a function that draws an array by the reader pr gives: its slices read so. -/
def DrawnRow (pr : Nat) (w : World) (e : Ending) (w' : World) : Prop := (∃ (c : Bool) (a1 a2 : Addr) (n1 n2 c1 c2 : Nat) (sh dt : List Int), e = .returned (.agg #[.bool c, .slice (some a1) n1 c1, .slice (some a2) n2 c2]) ∧ Own w' w.heap.size (some a1) n1 sh ∧ Own w' w.heap.size (some a2) n2 dt ∧ n1 ≤ 6 ∧ n2 ≤ 10001) ∧ RdOk w' pr ∧ But (fun x => x = pr) w w'

/-- The answer's box is filled. -/
theorem drawnR_end {w wx : World} {pr p0 : Nat} {c k : Bool} {s1 s2 : Option Addr} {l1 l2 k1 k2 : Nat} {a1 a2 : Addr} {n1 n2 c1 c2 : Nat} {sh dt : List Int} (hp : Box wx p0 c (.slice s1 l1 k1) (.slice s2 l2 k2)) (hp0 : w.heap.size ≤ p0) (o1 : Own wx w.heap.size (some a1) n1 sh) (o2 : Own wx w.heap.size (some a2) n2 dt) (h1 : n1 ≤ 6) (h2 : n2 ≤ 10001) (hr : RdOk wx pr) (hpr : pr < w.heap.size) (hb : But (fun x => x = pr) w wx) :
    DrawnRow pr w (.returned (.agg #[.bool k, .slice (some a1) n1 c1, .slice (some a2) n2 c2])) (((wx.setCell ⟨p0, 0, none⟩ (.bool k)).setCell ⟨p0, 1, none⟩ (.slice (some a1) n1 c1)).setCell ⟨p0, 2, none⟩ (.slice (some a2) n2 c2)) := by
  have hs : But (fun x => x = p0) wx (((wx.setCell ⟨p0, 0, none⟩ (.bool k)).setCell ⟨p0, 1, none⟩ (.slice (some a1) n1 c1)).setCell ⟨p0, 2, none⟩ (.slice (some a2) n2 c2)) := (((But.refl (fun x => x = p0) wx).setCell (p := ⟨p0, 0, none⟩) rfl _).setCell (p := ⟨p0, 1, none⟩) rfl _).setCell (p := ⟨p0, 2, none⟩) rfl _
  have hn1 : ∀ x, x = p0 → ¬ At (some a1) n1 x := fun x e hk => (o1.row.notBox hp hk) e
  have hn2 : ∀ x, x = p0 → ¬ At (some a2) n2 x := fun x e hk => (o2.row.notBox hp hk) e
  exact ⟨⟨k, a1, a2, n1, n2, c1, c2, sh, dt, rfl, hs.own o1 hn1, hs.own o2 hn2, h1, h2⟩, hr.but hs (by rintro x rfl; omega), ((hb.setNew (p := ⟨p0, 0, none⟩) hp0 _).setNew (p := ⟨p0, 1, none⟩) hp0 _).setNew (p := ⟨p0, 2, none⟩) hp0 _⟩

end Go.Proofs.YtgjpchnkodnieaaGreatDoor
namespace Go.Proofs.YtgjpchnkodnieaaGreatDoor
open Go.RowKit


set_option maxRecDepth 20000 in
set_option maxHeartbeats 4000000 in
theorem l3Of_gen (pr : Nat) (sa : Option Addr) (n1 cap1 : Nat) (c : Bool) (zs : List Int) (w : World) (h : RdOk w pr) (hz : Row w sa n1 zs) (hgp : ∀ k, At sa n1 k → k ≠ pr) :
    Calls Tryz.prog 102 #[.pointer (some ⟨pr, 0, none⟩), .slice sa n1 cap1, .bool c] w fun e w' => (∃ (g n cap : Nat) (l : List Int), e = .returned (.agg #[.bool c, .slice sa n1 cap1, .slice (some ⟨g, 0, none⟩) n cap]) ∧ n ≤ 10000 ∧ w'.ownsRow w.heap.size 3 1 (.slice (some ⟨g, 0, none⟩) n cap) n (l.map (Value.int .i64))) ∧ RdOk w' pr ∧ But (fun x => x = pr) w w' := by
  have hlw := h.lt
  obtain ⟨i0, hi, hz0, hz1, hz2⟩ := info_parts info_int
  obtain ⟨N, hN⟩ : ∃ N, countOf zs = N := ⟨_, rfl⟩
  have HN := hide hN
  have hNb : N ≤ 10000 := by
    rw [← hN]
    unfold countOf
    split
    · rename_i ha
      cases hp : prodFrom zs 1 with
      | none => simp
      | some m =>
        have := prodFrom_bd zs 1 m ha (by omega) (by omega) hp
        simp only
        split <;> omega
    · omega
  obtain ⟨NN, hNN⟩ : ∃ NN : Nat, NN = N.toNat := ⟨_, rfl⟩
  have hN1 : NN ≤ 10000 := by omega
  have HLT : Hid (∀ n : Nat, n < NN → (n : Int) < N) := fun n hn => by omega
  have HGE : Hid (∀ n : Nat, ¬ n < NN → ¬ (n : Int) < N) := fun n hn => by omega
  clear hNN hNb
  have HR := hide h
  have HZ := hide hz
  clear h hz hN
  go_enter Tryz.func102, Tryz.ntmps102
  go_upto_region 2 with fail
  obtain ⟨W, hW⟩ : ∃ W, W = ((w.alloc (.cells #[.bool false, .slice none 0 0, .slice none 0 0] 25)).alloc (.cells #[] 3)).alloc (.cells #[.bool c, .slice sa n1 cap1, .slice (some ⟨w.heap.size + 1, 0, none⟩) 0 0] 25) := ⟨_, rfl⟩
  have HD : Hid (DG w pr w.heap.size (w.heap.size + 1 + 1) c (.slice sa n1 cap1) W [] 0 (w.heap.size + 1) 0) := by
    have hb : Below w.heap.size w W := by rw [hW]; exact (((Below.refl _ w).alloc (Nat.le_refl _) _).alloc (by simp) _).alloc (by simp; omega) _
    have b1 : Box W w.heap.size false (.slice none 0 0) (.slice none 0 0) := by rw [hW]; exact ((Box.new w _ _ _).alloc _).alloc _
    have b2 : Box W (w.heap.size + 1 + 1) c (.slice sa n1 cap1) (.slice (some ⟨w.heap.size + 1, 0, none⟩) 0 0) := by
      rw [hW]
      have := Box.new ((w.alloc (.cells #[.bool false, .slice none 0 0, .slice none 0 0] 25)).alloc (.cells #[] 3)) c (.slice sa n1 cap1) (.slice (some ⟨w.heap.size + 1, 0, none⟩) 0 0)
      rw [World.size_alloc, World.size_alloc] at this
      exact this
    have b3 : Blk W (w.heap.size + 1) [] := by
      rw [hW]
      have := Blk.new (w.alloc (.cells #[.bool false, .slice none 0 0, .slice none 0 0] 25))
      rw [World.size_alloc] at this
      exact this.alloc _
    exact ⟨b2, b3.owns (by omega), b1, (unhide HR).below hb, But.of_below hb, Nat.le_refl _, by omega, hlw⟩
  rw [← hW]
  clear hW
  have HZW : Hid (Row W sa n1 zs) := (unhide HD).but.row (unhide HZ) (fun k hk hh => hgp k hh hk)
  generalize w.heap.size + 1 + 1 = p7 at *
  generalize w.heap.size + 1 = g0 at *
  go_upto_region 3 with (go_at_call 48; refine (l3Count_eq _ _ _ zs _ (unhide HZW) _ HN).mono ?_; rintro e wq ⟨rfl, hwq⟩; obtain rfl := hwq.symm)
  clear HZW HR HZ
  go_wp2_with fail
  go_loopw [9] (fun i wr => ∃ (n g cap : Nat) (l : List Int), n ≤ NN ∧ i = .int .i64 (n : Nat) ∧ Hid (DG w pr w.heap.size p7 c (.slice sa n1 cap1) wr l n g cap)) (fun i _ => NN - (intOf i).toNat)
  case atStart => exact ⟨0, g0, 0, [], Nat.zero_le _, rfl, HD⟩
  case round =>
    clear HD
    obtain ⟨n, g, cap, l, hn, rfl, hd⟩ := hrel
    by_cases hlt : n < NN
    · have hnz : (n : Int) < N := unhide HLT n hlt
      have hcall := l3Num_any pr wr (unhide hd).rd
      go_upto_if 24 with (go_at_call 178; refine hcall.mono ?_; rintro e w2 ⟨⟨v, hv1, hv2, rfl⟩, hr2, hb2⟩; have HD2 := hide ((unhide hd).next hb2 hr2); clear hr2 hb2)
      clear hd hcall
      go_cut [10] (fun v wx => (∃ x : Int, v = .int .i64 x) ∧ Below w2.heap.size w2 wx)
      case first =>
        cases c with
        | true =>
          obtain ⟨y, hy⟩ : ∃ y : Nat, (y : Int) = v + 1000000000000000 := ⟨(v + 1000000000000000).toNat, by omega⟩
          obtain ⟨j, hj, q1, q2⟩ := modN y 8 (by omega)
          have q1' : (y : Int).tmod 8 = (j : Int) := q1
          have q2' : (y : Int) % 8 = (j : Int) := q2
          have hyb : y ≤ 2000000000000000 := by omega
          have hw0 : v + 1000000000000000 = (y : Int) := hy.symm
          have hw1 : IntKind.i64.wrap (y : Int) = (y : Int) := by rw [IntKind.wrap_i64]; omega
          have hw2 : IntKind.i64.wrap (j : Int) = (j : Int) := by rw [IntKind.wrap_i64]; omega
          have hc := lits w2 [97, 98, 99, 32, 9077, 120, 128512, 233] j (by simpa using hj)
          obtain ⟨x, hx⟩ : ∃ x, x = ([97, 98, 99, 32, 9077, 120, 128512, 233] : List Int).getD j 0 := ⟨_, rfl⟩
          rw [← hx] at hc
          simp only [List.map_cons, List.map_nil] at hc
          have hjz : (j : Int) < 8 := by omega
          clear hx q1 q2 hy hv1 hv2
          go_wp2_with fail
          go_meet
          case rel => exact ⟨⟨x, rfl⟩, (Below.refl _ _).alloc (Nat.le_refl _) _⟩
        | false =>
          go_wp2_with fail
          go_meet
          case rel => exact ⟨⟨v, rfl⟩, Below.refl _ _⟩
      case rest =>
        obtain ⟨w3, hw3⟩ : ∃ x, x = wc := ⟨_, rfl⟩
        subst hw3
        obtain ⟨⟨x, rfl⟩, hb3⟩ := hcut
        have HD3 := hide ((unhide HD2).below hb3)
        clear HD2 hb3
        obtain ⟨y0, y1, y2, y3, y4, y5, y6⟩ := (unhide HD3).box.all
        have hsz3 := (unhide HD3).but.size
        go_wp2_with (at_builtin; refine wpList_append_lies _ rfl _ _ 23 rfl w.heap.size 3 i0 (.int .i64 0) 1 8 Tryz.underlying23 hi hz0 hz1 hz2 rfl (by decide) _ _ _ rfl (owns_below (unhide HD3).owns (Nat.le_refl _) ((Below.refl _ _).alloc (Nat.le_refl _) _)) ⟨w3.heap.size, 0, none⟩ 1 1 [.int .i64 x] rfl rfl (cells_new _ _) (one_one _) (by omega) (by unfold maxLen; omega) (by omega) (by simp; omega) (w3.heap.size + 1) (by simp) ?_; intro g' cap' w7 hown' hgrow hat hlt7; have HD7 := hide ((unhide HD3).push hown' hgrow); clear hown' hgrow hat hlt7 y0 y1 y2 y3 y4 y5 y6; obtain ⟨y0, y1, y2, y3, y4, y5, y6⟩ := (unhide HD7).1.all)
        go_roundw
        case rel => exact ⟨n + 1, g', cap', l ++ [x], by omega, by go_num, hide (unhide HD7).2⟩
        case measure => simp [intOf]; omega
    · have hnz := unhide HGE n hlt
      have hd' := unhide hd
      obtain ⟨y0, y1, y2, y3, y4, y5, y6⟩ := hd'.box.all
      obtain ⟨q0, q1, q2, q3, q4, q5, q6⟩ := hd'.res.all
      clear hd'
      go_wp2_with fail
      have hx := (unhide hd).res.sets (c' := c) (u1 := .slice sa n1 cap1) (u2 := .slice (some ⟨g, 0, none⟩) n cap)
      obtain ⟨r0, r1, r2, _, _, _⟩ := hx.all
      refine bodyPost_ret (v := .agg #[.bool c, .slice sa n1 cap1, .slice (some ⟨g, 0, none⟩) n cap]) (by simp [results, Tryz.results102, go_sem, r0, r1, r2]) rfl ?_
      have hs : But (fun x => x = w.heap.size) wr (((wr.setCell ⟨w.heap.size, 0, none⟩ (.bool c)).setCell ⟨w.heap.size, 1, none⟩ (.slice sa n1 cap1)).setCell ⟨w.heap.size, 2, none⟩ (.slice (some ⟨g, 0, none⟩) n cap)) := (((But.refl (fun x => x = w.heap.size) wr).setCell (p := ⟨w.heap.size, 0, none⟩) rfl _).setCell (p := ⟨w.heap.size, 1, none⟩) rfl _).setCell (p := ⟨w.heap.size, 2, none⟩) rfl _
      exact ⟨⟨g, n, cap, l, rfl, by omega, owns_but (unhide hd).owns hs (owns_nebox (unhide hd).owns (unhide hd).res)⟩, (unhide hd).rd.but hs (by rintro k rfl; omega), (((unhide hd).but.setNew (p := ⟨w.heap.size, 0, none⟩) (Nat.le_refl _) _).setNew (p := ⟨w.heap.size, 1, none⟩) (Nat.le_refl _) _).setNew (p := ⟨w.heap.size, 2, none⟩) (Nat.le_refl _) _⟩

end Go.Proofs.YtgjpchnkodnieaaGreatDoor
namespace Go.Proofs.YtgjpchnkodnieaaGreatDoor
open Go.RowKit

/-- A list of N numbers is drawn. -/
def DrawnN (pr N : Nat) (w : World) (e : Ending) (w' : World) : Prop := (∃ (c : Bool) (a1 a2 : Addr) (n1 c1 c2 : Nat) (sh dt : List Int), e = .returned (.agg #[.bool c, .slice (some a1) n1 c1, .slice (some a2) N c2]) ∧ Own w' w.heap.size (some a1) n1 sh ∧ Own w' w.heap.size (some a2) N dt ∧ n1 ≤ 6) ∧ RdOk w' pr ∧ But (fun x => x = pr) w w'

theorem DrawnN.below {pr N : Nat} {w w' w'' : World} {e : Ending} (h : DrawnN pr N w e w') (hb : Below w'.heap.size w' w'') : DrawnN pr N w e w'' := by
  obtain ⟨⟨c, a1, a2, n1, c1, c2, sh, dt, he, o1, o2, l1⟩, hr, hbt⟩ := h
  exact ⟨⟨c, a1, a2, n1, c1, c2, sh, dt, he, o1.below (Nat.le_refl _) hb, o2.below (Nat.le_refl _) hb, l1⟩, hr.below hb, (hbt.trans (T := fun x => x = pr) (But.of_below hb)).mono (by rintro x (h | h) <;> exact h)⟩

theorem drawnN_end {w wx : World} {pr p0 : Nat} {c k : Bool} {s1 s2 : Option Addr} {l1 l2 k1 k2 : Nat} {a1 a2 : Addr} {n1 n2 c1 c2 : Nat} {sh dt : List Int} (hp : Box wx p0 c (.slice s1 l1 k1) (.slice s2 l2 k2)) (hp0 : w.heap.size ≤ p0) (o1 : Own wx w.heap.size (some a1) n1 sh) (o2 : Own wx w.heap.size (some a2) n2 dt) (h1 : n1 ≤ 6) (hr : RdOk wx pr) (hpr : pr < w.heap.size) (hb : But (fun x => x = pr) w wx) :
    DrawnN pr n2 w (.returned (.agg #[.bool k, .slice (some a1) n1 c1, .slice (some a2) n2 c2])) (((wx.setCell ⟨p0, 0, none⟩ (.bool k)).setCell ⟨p0, 1, none⟩ (.slice (some a1) n1 c1)).setCell ⟨p0, 2, none⟩ (.slice (some a2) n2 c2)) := by
  have hs : But (fun x => x = p0) wx (((wx.setCell ⟨p0, 0, none⟩ (.bool k)).setCell ⟨p0, 1, none⟩ (.slice (some a1) n1 c1)).setCell ⟨p0, 2, none⟩ (.slice (some a2) n2 c2)) := (((But.refl (fun x => x = p0) wx).setCell (p := ⟨p0, 0, none⟩) rfl _).setCell (p := ⟨p0, 1, none⟩) rfl _).setCell (p := ⟨p0, 2, none⟩) rfl _
  have hn1 : ∀ x, x = p0 → ¬ At (some a1) n1 x := fun x e hk => (o1.row.notBox hp hk) e
  have hn2 : ∀ x, x = p0 → ¬ At (some a2) n2 x := fun x e hk => (o2.row.notBox hp hk) e
  exact ⟨⟨k, a1, a2, n1, c1, c2, sh, dt, rfl, hs.own o1 hn1, hs.own o2 hn2, h1⟩, hr.but hs (by rintro x rfl; omega), ((hb.setNew (p := ⟨p0, 0, none⟩) hp0 _).setNew (p := ⟨p0, 1, none⟩) hp0 _).setNew (p := ⟨p0, 2, none⟩) hp0 _⟩

set_option maxRecDepth 20000 in
set_option maxHeartbeats 8000000 in
theorem l5Small_any (pr N : Nat) (hN : N ≤ 10000) (w : World) (h : RdOk w pr) :
    Calls Tryz.prog 135 #[.pointer (some ⟨pr, 0, none⟩), .int .i64 (N : Nat)] w (DrawnN pr N w) := by
  have hlw := h.lt
  obtain ⟨i0, hi, hz0, hz1, hz2⟩ := info_parts info_int
  have hb0 : Below w.heap.size w (w.alloc (.cells #[.bool false, .slice none 0 0, .slice none 0 0] 25)) := (Below.refl _ w).alloc (Nat.le_refl _) _
  have HP0 : Hid (Box (w.alloc (.cells #[.bool false, .slice none 0 0, .slice none 0 0] 25)) w.heap.size false (.slice none 0 0) (.slice none 0 0)) := Box.new w _ _ _
  have HB0 : Hid (But (fun x => x = pr) w (w.alloc (.cells #[.bool false, .slice none 0 0, .slice none 0 0] 25))) := But.of_below hb0
  have hcall := next_any pr _ (h.below hb0)
  clear h hb0
  go_enter Tryz.func135, Tryz.ntmps135
  go_upto_region 3 with (go_at_call 45; refine hcall.mono ?_; rintro e w1 ⟨⟨k, hk, rfl⟩, hr1, hb1⟩; have HR1 := hide hr1; have HB1' := hide hb1; clear hr1 hb1)
  clear hcall
  have HP1 := hide ((unhide HP0).but (unhide HB1') (by show ¬ w.heap.size = pr; omega))
  have HB1 : Hid (But (fun x => x = pr) w w1) := ((unhide HB0).trans (unhide HB1')).mono (by rintro x (h | h) <;> exact h)
  have hw1 := (unhide HP1).lt
  clear HP0 HB0 HB1'
  obtain ⟨W, hW⟩ : ∃ W, W = ((w1.alloc (.cells #[.int .i64 (N : Nat)] 3)).alloc (.cells #[] 3)).alloc (.cells #[.bool false, .slice (some ⟨w1.heap.size, 0, none⟩) 1 1, .slice (some ⟨w1.heap.size + 1, 0, none⟩) 0 0] 25) := ⟨_, rfl⟩
  have hKW : Below w1.heap.size w1 W := by rw [hW]; exact (((Below.refl _ _).alloc (Nat.le_refl _) _).alloc (by simp) _).alloc (by simp; omega) _
  have HS : Hid (Own W w.heap.size (some ⟨w1.heap.size, 0, none⟩) 1 [(N : Int)]) := by
    rw [hW]
    refine Blk.own (zs := [(N : Int)]) ?_ rfl (by omega) (by omega)
    exact (Blk.alloc (Blk.alloc (show Blk (w1.alloc (.cells #[.int .i64 (N : Nat)] 3)) w1.heap.size [(N : Int)] from (by show (w1.heap.push _)[w1.heap.size]? = _; simp)) _) _)
  have HD : Hid (DG w pr w.heap.size (w1.heap.size + 1 + 1) false (.slice (some ⟨w1.heap.size, 0, none⟩) 1 1) W [] 0 (w1.heap.size + 1) 0) := by
    have b2 : Box W (w1.heap.size + 1 + 1) false (.slice (some ⟨w1.heap.size, 0, none⟩) 1 1) (.slice (some ⟨w1.heap.size + 1, 0, none⟩) 0 0) := by
      rw [hW]
      have := Box.new ((w1.alloc (.cells #[.int .i64 (N : Nat)] 3)).alloc (.cells #[] 3)) false (.slice (some ⟨w1.heap.size, 0, none⟩) 1 1) (.slice (some ⟨w1.heap.size + 1, 0, none⟩) 0 0)
      rw [World.size_alloc, World.size_alloc] at this
      exact this
    have b3 : Blk W (w1.heap.size + 1) [] := by
      rw [hW]
      have := Blk.new (w1.alloc (.cells #[.int .i64 (N : Nat)] 3))
      rw [World.size_alloc] at this
      exact this.alloc _
    exact ⟨b2, b3.owns (by omega), (unhide HP1).below (Nat.le_refl _) hKW, (unhide HR1).below hKW, ((unhide HB1).trans (T := fun x => x = pr) (But.of_below hKW)).mono (by rintro x (h | h) <;> exact h), Nat.le_refl _, by omega, hlw⟩
  rw [← hW]
  clear hW HR1 HP1
  obtain ⟨gs, hgs⟩ : ∃ g, g = w1.heap.size := ⟨_, rfl⟩
  rw [← hgs] at HD HS ⊢
  have hgw : w.heap.size < gs := by omega
  clear hgs HB1 hw1 hKW
  have hg0 : gs + 1 ≠ gs := by omega
  have hp7g : gs + 1 + 1 ≠ gs := by omega
  have hp7r : gs + 1 + 1 ≠ pr := by omega
  have hp7w : gs + 1 + 1 ≠ w.heap.size := by omega
  generalize gs + 1 + 1 = p7 at *
  generalize gs + 1 = g0 at *
  go_wp2_with fail
  go_loopw [7] (fun i wr => ∃ (n g cap : Nat) (l : List Int), n ≤ N ∧ i = .int .i64 (n : Nat) ∧ Hid (g ≠ gs) ∧ Hid (DG w pr w.heap.size p7 false (.slice (some ⟨gs, 0, none⟩) 1 1) wr l n g cap) ∧ Hid (Own wr w.heap.size (some ⟨gs, 0, none⟩) 1 [(N : Int)])) (fun i _ => N - (intOf i).toNat)
  case atStart => exact ⟨0, g0, 0, [], Nat.zero_le _, rfl, hide hg0, HD, HS⟩
  case round =>
    clear HD HS
    obtain ⟨n, g, cap, l, hn, rfl, hgn, hd, hs⟩ := hrel
    by_cases hlt : n < N
    · have hnz : (n : Int) < (N : Int) := by omega
      have HC := hide (next_any pr wr.drew ((unhide hd).rd.below (Below.refl _ _).drew))
      have HDD := hide ((unhide hd).below (Below.refl _ _).drew)
      have HSD := hide ((unhide hs).below (Nat.le_refl _) (Below.refl _ _).drew)
      obtain ⟨y0, y1, y2, y3, y4, y5, y6⟩ := (unhide HDD).box.all
      have h7 := (unhide hd).h7
      clear hd hs
      go_wp2_with fail
      go_region_law (first | (refine step_append_lies _ (by rfl) _ _ _ (by rfl) w.heap.size 3 i0 _ 1 8 Tryz.underlying23 hi hz0 hz1 hz2 rfl (by omega) (.slice (some ⟨g, 0, none⟩) n cap) n (l.map (Value.int .i64)) (by rfl) (by exact owns_below (unhide HD2).owns (Nat.le_refl _) ((Below.refl _ _).alloc (Nat.le_refl _) _)) ⟨w2.heap.size, 0, none⟩ 1 1 [.int .i64 ((j9 : Int) - 3)] (by rfl) (by rfl) (by exact cells_new _ _) (one_one _) (by omega) (by unfold maxLen; omega) (by omega) (by have := (unhide HD2).but.size; simp; omega) (w2.heap.size + 1) (by simp) ?_; intro g' cap' w7 hown' hgrow hat hlt7; have HD7 := hide ((unhide HD2).push hown' (by exact hgrow)); have hgn' : g' ≠ gs := (by have h2 := unhide hgn; have h3 := unhide HGL; rcases hat with h | h; (· have h4 := Option.some.inj (show some g = some g' from h); omega); omega); have HS7 := hide ((unhide HS2).grown _ (g := g) (by exact hgrow) (fun x hx => by have := at_eq hx; have h2 := unhide hgn; omega)); clear hown' hgrow hat hlt7 y0 y1 y2 y3 y4 y5 y6; obtain ⟨y0, y1, y2, y3, y4, y5, y6⟩ := (unhide HD7).1.all) | (go_simp; go_at_call 45; refine (unhide HC).mono ?_; rintro e w2 ⟨⟨q, hq, rfl⟩, hr2, hb2⟩; have HD2 := hide ((unhide HDD).next hb2 hr2); have HS2 := hide (hb2.own (unhide HSD) (by rintro x rfl hk; have := at_eq hk; omega)); have HGL : Hid (gs < w2.heap.size) := (by obtain ⟨b, off, eb, hlt, _⟩ := (unhide HS2).row.get (k := 0) (by omega); cases eb; exact hlt); obtain ⟨j9, hj9, q9, q9'⟩ := modN q 9 (by omega); have r9 : (q : Int).tmod 9 = (j9 : Int) := q9; have r9' : (q : Int) % 9 = (j9 : Int) := q9'; have w9 : IntKind.i64.wrap ((j9 : Int) - 3) = (j9 : Int) - 3 := (by rw [IntKind.wrap_i64]; omega); clear hr2 hb2 q9 q9' y0 y1 y2 y3 y4 y5 y6; obtain ⟨y0, y1, y2, y3, y4, y5, y6⟩ := (unhide HD2).box.all))
      all_goals go_wp2_with fail
      all_goals refine ⟨⟨n + 1, g', cap', l ++ [(j9 : Int) - 3], by omega, by go_num, hide hgn', hide (unhide HD7).2, hide ((unhide HS7).other (q := ⟨p7, 2, none⟩) (fun x hx e => by have := at_eq hx; simp at e; omega) _)⟩, ?_⟩
      all_goals (simp [intOf]; omega)
    · have hnz : ¬ (n : Int) < (N : Int) := by omega
      have hnN : n = N := by omega
      subst hnN
      obtain ⟨y0, y1, y2, y3, y4, y5, y6⟩ := (unhide hd).box.all
      obtain ⟨q0, q1, q2, q3, q4, q5, q6⟩ := (unhide hd).res.all
      obtain ⟨_, _, ev, hO2⟩ := Own.of_owns (unhide hd).owns (by omega)
      cases ev
      have HO2 := hide hO2
      have hgp7 := owns_nebox (unhide hd).owns (unhide hd).box
      have h0w := (unhide hd).h0
      clear hO2
      obtain ⟨j2, hj2, q2m, q2m'⟩ := modN k 2 (by omega)
      have r2 : (k : Int).tmod 2 = (j2 : Int) := q2m
      have r2' : (k : Int) % 2 = (j2 : Int) := q2m'
      clear q2m q2m'
      by_cases hc : n = 1 ∧ j2 = 0
      · have g1 : ((n : Int) == 1) = true := by simp [hc.1]
        have g2 : ((j2 : Int) == 0) = true := by simp [hc.2]
        have HN := hide hc
        clear hc
        go_wp2_with fail
        have hres : Box (wr.setCell ⟨p7, 1, none⟩ (.slice (some ⟨wr.heap.size, 0, none⟩) 0 0)) w.heap.size false (.slice none 0 0) (.slice none 0 0) := (unhide hd).res.other (q := ⟨p7, 1, none⟩) (fun e => hp7w e.symm) _
        have hx := (hres.sets (c' := false) (u1 := .slice (some ⟨wr.heap.size, 0, none⟩) 0 0) (u2 := .slice (some ⟨g, 0, none⟩) n cap)).alloc (.cells #[] 3)
        obtain ⟨t0, t1, t2, _, _, _⟩ := hx.all
        refine bodyPost_ret (v := .agg #[.bool false, .slice (some ⟨wr.heap.size, 0, none⟩) 0 0, .slice (some ⟨g, 0, none⟩) n cap]) (by simp [results, Tryz.results135, go_sem, t0, t1, t2]) rfl ?_
        have hbs : But (fun x => x = p7) wr (wr.setCell ⟨p7, 1, none⟩ (.slice (some ⟨wr.heap.size, 0, none⟩) 0 0)) := (But.refl (fun x => x = p7) wr).setCell (p := ⟨p7, 1, none⟩) rfl _
        have h7x := (unhide hd).h7
        have hO0 : Own (wr.setCell ⟨p7, 1, none⟩ (.slice (some ⟨wr.heap.size, 0, none⟩) 0 0)) w.heap.size (some ⟨wr.heap.size, 0, none⟩) 0 [] := ⟨rfl, by omega, .inl rfl⟩
        exact (drawnN_end hres (Nat.le_refl _) hO0 ((unhide HO2).other (q := ⟨p7, 1, none⟩) (fun x hx e => by have := at_eq hx; simp at e; omega) _) (by omega) ((unhide hd).rd.but hbs (by rintro x rfl; omega)) hlw ((unhide hd).but.setNew (p := ⟨p7, 1, none⟩) (unhide hd).h7 _)).below ((Below.refl _ _).alloc (Nat.le_refl _) _)
      · by_cases hc1 : n = 1
        · have g1 : ((n : Int) == 1) = true := by simp [hc1]
          have g2 : ((j2 : Int) == 0) = false := by simp; omega
          clear hc hc1
          go_wp2_with fail
          have hx := (unhide hd).res.sets (c' := false) (u1 := .slice (some ⟨gs, 0, none⟩) 1 1) (u2 := .slice (some ⟨g, 0, none⟩) n cap)
          obtain ⟨t0, t1, t2, _, _, _⟩ := hx.all
          refine bodyPost_ret (v := .agg #[.bool false, .slice (some ⟨gs, 0, none⟩) 1 1, .slice (some ⟨g, 0, none⟩) n cap]) (by simp [results, Tryz.results135, go_sem, t0, t1, t2]) rfl ?_
          exact drawnN_end (unhide hd).res (Nat.le_refl _) (unhide hs) (unhide HO2) (by omega) (unhide hd).rd hlw (unhide hd).but
        · have g1 : ((n : Int) == 1) = false := by simp; omega
          clear hc hc1
          go_wp2_with fail
          have hx := (unhide hd).res.sets (c' := false) (u1 := .slice (some ⟨gs, 0, none⟩) 1 1) (u2 := .slice (some ⟨g, 0, none⟩) n cap)
          obtain ⟨t0, t1, t2, _, _, _⟩ := hx.all
          refine bodyPost_ret (v := .agg #[.bool false, .slice (some ⟨gs, 0, none⟩) 1 1, .slice (some ⟨g, 0, none⟩) n cap]) (by simp [results, Tryz.results135, go_sem, t0, t1, t2]) rfl ?_
          exact drawnN_end (unhide hd).res (Nat.le_refl _) (unhide hs) (unhide HO2) (by omega) (unhide hd).rd hlw (unhide hd).but

end Go.Proofs.YtgjpchnkodnieaaGreatDoor
namespace Go.Proofs.YtgjpchnkodnieaaGreatDoor
open Go.RowKit

/-- A number is written somewhere: a list of numbers stays a list of numbers. -/
theorem Own.scar {w : World} {B n : Nat} {a : Option Addr} {zs : List Int} (h : Own w B a n zs) (p : Addr) (x : Int) : ∃ ys, Own (w.setCell p (.int .i64 x)) B a n ys := by
  rcases h.at_ with h0 | ⟨g, off, rfl, hg, hlt, hc, hf⟩
  · exact ⟨zs, h.len, h.small, .inl h0⟩
  · refine ⟨(List.range n).map fun i => if (⟨g, off + i, none⟩ : Addr) = p then x else zs.getD i 0, by simp, h.small, .inr ⟨g, off, rfl, hg, by simpa using hlt, fun i hi => ?_, fun i hi => by simpa using hf i hi⟩⟩
    by_cases e : (⟨g, off + i, none⟩ : Addr) = p
    · rw [← e, World.cell?_setCell_same _ _ _ (hc i hi)]
      simp [List.getD, hi]
    · rw [World.cell?_setCell_other _ _ _ _ (fun e2 => e e2.symm), hc i hi]
      simp [List.getD, hi, e]

set_option maxRecDepth 20000 in
set_option maxHeartbeats 8000000 in
theorem l5Odd_any (pr N : Nat) (hN : N ≤ 10000) (w : World) (h : RdOk w pr) :
    Calls Tryz.prog 47 #[.pointer (some ⟨pr, 0, none⟩), .int .i64 (N : Nat)] w (DrawnRow pr w) := by
  have hlw := h.lt
  have hb0 : Below w.heap.size w (w.alloc (.cells #[.bool false, .slice none 0 0, .slice none 0 0] 25)) := (Below.refl _ w).alloc (Nat.le_refl _) _
  have HP0 : Hid (Box (w.alloc (.cells #[.bool false, .slice none 0 0, .slice none 0 0] 25)) w.heap.size false (.slice none 0 0) (.slice none 0 0)) := Box.new w _ _ _
  have HB0 : Hid (But (fun x => x = pr) w (w.alloc (.cells #[.bool false, .slice none 0 0, .slice none 0 0] 25))) := But.of_below hb0
  have hcall := next_any pr _ (h.below hb0)
  clear h hb0
  go_enter Tryz.func47, Tryz.ntmps47
  go_upto_region 2 with (go_at_call 45; refine hcall.mono ?_; rintro e w1 ⟨⟨k, hk, rfl⟩, hr1, hb1⟩; have HR1 := hide hr1; have HB1' := hide hb1; clear hr1 hb1)
  clear hcall
  have HP1 := hide ((unhide HP0).but (unhide HB1') (by show ¬ w.heap.size = pr; omega))
  have HB1 : Hid (But (fun x => x = pr) w w1) := ((unhide HB0).trans (unhide HB1')).mono (by rintro x (h | h) <;> exact h)
  have hw1 := (unhide HP1).lt
  clear HP0 HB0 HB1'
  by_cases hb : 240 ≤ k
  · have g0 : decide ((240 : Int) ≤ (k : Int)) = true := by simp; omega
    have hcA := l3Array_any pr w1 (unhide HR1)
    clear hb
    go_wp2_with (go_at_call 46; refine hcA.mono ?_; rintro e w2 ⟨⟨c, a1, a2, n1, n2, c1, c2, sh, dt, rfl, o1, o2, h1, h2⟩, hr2, hb2⟩; have HO1 := hide o1; have HO2 := hide o2; have HR2 := hide hr2; have HB2 := hide hb2; have HP2 := hide ((unhide HP1).but hb2 (by show ¬ w.heap.size = pr; omega)); obtain ⟨y0, y1, y2, y3, y4, y5, y6⟩ := (unhide HP2).all; clear o1 o2 hr2 hb2)
    have hx := (unhide HP2).sets (c' := c) (u1 := .slice (some a1) n1 c1) (u2 := .slice (some a2) n2 c2)
    obtain ⟨r0, r1, r2, _, _, _⟩ := hx.all
    refine bodyPost_ret (v := .agg #[.bool c, .slice (some a1) n1 c1, .slice (some a2) n2 c2]) (by simp [results, Tryz.results47, go_sem, r0, r1, r2]) rfl ?_
    exact drawnR_end (unhide HP2) (Nat.le_refl _) ((unhide HO1).mono (by omega)) ((unhide HO2).mono (by omega)) h1 h2 (unhide HR2) hlw (((unhide HB1).trans (unhide HB2)).mono (by rintro x (h | h) <;> exact h))
  · have g0 : decide ((240 : Int) ≤ (k : Int)) = false := by simp; omega
    have hcS := l5Small_any pr N hN w1 (unhide HR1)
    clear hb
    by_cases hq : 230 ≤ k ∧ 0 < N
    · have g1 : decide ((230 : Int) ≤ (k : Int)) = true := by simp; omega
      have g2 : decide ((0 : Int) < (N : Int)) = true := by simp; omega
      have hN0 : 0 < N := hq.2
      clear hq
      obtain ⟨j4, hj4, q4, q4'⟩ := modN k 4 (by omega)
      have r4 : (k : Int).tmod 4 = (j4 : Int) := q4
      have r4' : (k : Int) % 4 = (j4 : Int) := q4'
      clear q4 q4'
      go_upto_if 21 with (go_at_call 135; refine hcS.mono ?_; rintro e w2 ⟨⟨c, a1, a2, n1, c1, c2, sh, dt, rfl, o1, o2, h1⟩, hr2, hb2⟩; have HO1 := hide o1; have HO2 := hide o2; have HR2 := hide hr2; have HB2 := hide hb2; clear o1 o2 hr2 hb2)
      obtain ⟨X, hX⟩ : ∃ X, X = w2.alloc (.cells #[.bool c, .slice (some a1) n1 c1, .slice (some a2) N c2] 25) := ⟨_, rfl⟩
      obtain ⟨p6, hp6⟩ : ∃ p, p = w2.heap.size := ⟨_, rfl⟩
      have hsz := (unhide HB2).size
      have hKX : Below w2.heap.size w2 X := by rw [hX]; exact (Below.refl _ _).alloc (Nat.le_refl _) _
      have HBX : Hid (Box X p6 c (.slice (some a1) n1 c1) (.slice (some a2) N c2)) := by rw [hX, hp6]; exact Box.new _ _ _ _
      have HRX := hide (((unhide HP1).but (unhide HB2) (by show ¬ w.heap.size = pr; omega)).below (Nat.le_refl _) hKX)
      have O1X := hide (((unhide HO1).below (Nat.le_refl _) hKX).mono (B' := w.heap.size) (by have h9 := hw1; omega))
      have O2X := hide (((unhide HO2).below (Nat.le_refl _) hKX).mono (B' := w.heap.size) (by have h9 := hw1; omega))
      have RDX := hide ((unhide HR2).below hKX)
      have BTX : Hid (But (fun x => x = pr) w X) := (((unhide HB1).trans (unhide HB2)).trans (T := fun x => x = pr) (But.of_below hKX)).mono (by rintro x ((h | h) | h) <;> exact h)
      have hp6w : w.heap.size < p6 := by omega
      rw [← hX, ← hp6]
      clear hX hp6 hKX HO1 HO2 HR2 HB2 hsz HP1 HB1 HR1
      rcases (unhide O2X).at_ with h0 | ⟨b, off, eb, hbw, hlt, hc, hf⟩
      · omega
      cases eb
      have hc0 := hc 0 hN0
      have hf0 := hf 0 hN0
      rw [Nat.add_zero] at hc0 hf0
      have hnb : ¬ b = p6 := fun e => (unhide O2X).row.notBox (unhide HBX) (show At (some ⟨b, off, none⟩) N b from ⟨by omega, _, rfl, rfl⟩) e
      have hnw : ¬ b = w.heap.size := fun e => (unhide O2X).row.notBox (unhide HRX) (show At (some ⟨b, off, none⟩) N b from ⟨by omega, _, rfl, rfl⟩) e
      have hlit := lits X [10000, 10001, -10001, 1000000000000000] j4 (by simpa using hj4)
      obtain ⟨x, hx⟩ : ∃ x, x = ([10000, 10001, -10001, 1000000000000000] : List Int).getD j4 0 := ⟨_, rfl⟩
      rw [← hx] at hlit
      simp only [List.map_cons, List.map_nil] at hlit
      have hjz : (j4 : Int) < 4 := by omega
      obtain ⟨y0, y1, y2, y3, y4, y5, y6⟩ := (unhide HBX).all
      clear hc hf hx
      go_wp2_with fail
      go_region
      obtain ⟨V, hV⟩ : ∃ V, V = ((X.setCell ⟨b, off, none⟩ (.int .i64 x)).alloc (.cells #[.int .i64 10000, .int .i64 10001, .int .i64 (-10001), .int .i64 1000000000000000] 3)).drew := ⟨_, rfl⟩
      obtain ⟨s1, hs1⟩ := (unhide O1X).scar ⟨b, off, none⟩ x
      obtain ⟨s2, hs2⟩ := (unhide O2X).scar ⟨b, off, none⟩ x
      have hKV : Below (X.setCell ⟨b, off, none⟩ (.int .i64 x)).heap.size (X.setCell ⟨b, off, none⟩ (.int .i64 x)) V := by rw [hV]; exact ((Below.refl _ _).alloc (Nat.le_refl _) _).drew
      have hbs : But (fun y => y = b) X (X.setCell ⟨b, off, none⟩ (.int .i64 x)) := (But.refl (fun y => y = b) X).setCell (p := ⟨b, off, none⟩) rfl _
      have BXV := hide (((unhide HBX).other (q := ⟨b, off, none⟩) (fun e => hnb e.symm) (.int .i64 x)).below (Nat.le_refl _) hKV)
      have RXV := hide (((unhide HRX).other (q := ⟨b, off, none⟩) (fun e => hnw e.symm) (.int .i64 x)).below (Nat.le_refl _) hKV)
      have O1V := hide (hs1.below (Nat.le_refl _) hKV)
      have O2V := hide (hs2.below (Nat.le_refl _) hKV)
      have RDV := hide (((unhide RDX).but hbs (by rintro y rfl; omega)).below hKV)
      have BTV : Hid (But (fun x => x = pr) w V) := (((unhide BTX).setNew (p := ⟨b, off, none⟩) hbw (.int .i64 x)).trans (T := fun x => x = pr) (But.of_below hKV)).mono (by rintro x (h | h) <;> exact h)
      rw [← hV]
      clear hV hKV hbs hs1 hs2 hc0 hf0 hlit y0 y1 y2 y3 y4 y5 y6
      obtain ⟨y0, y1, y2, y3, y4, y5, y6⟩ := (unhide BXV).all
      obtain ⟨z0, z1, z2, z3, z4, z5, z6⟩ := (unhide RXV).all
      go_wp2_with fail
      have hx := (unhide RXV).sets (c' := c) (u1 := .slice (some a1) n1 c1) (u2 := .slice (some ⟨b, off, none⟩) N c2)
      obtain ⟨t0, t1, t2, _, _, _⟩ := hx.all
      refine bodyPost_ret (v := .agg #[.bool c, .slice (some a1) n1 c1, .slice (some ⟨b, off, none⟩) N c2]) (by simp [results, Tryz.results47, go_sem, t0, t1, t2]) rfl ?_
      exact drawnR_end (unhide RXV) (Nat.le_refl _) (unhide O1V) (unhide O2V) h1 (by omega) (unhide RDV) hlw (unhide BTV)
    · by_cases hk2 : 230 ≤ k
      · have g1 : decide ((230 : Int) ≤ (k : Int)) = true := by simp; omega
        obtain ⟨Z, hZ⟩ : ∃ Z : Nat, N = Z ∧ Z = 0 := ⟨_, rfl, by omega⟩
        obtain ⟨rfl, hZ0⟩ := hZ
        have HZ := hide hZ0
        have g2 : decide ((0 : Int) < (N : Int)) = false := by simp; omega
        have g3 : decide (0 < N) = false := by simp; omega
        clear hq hk2 hZ0
        go_upto_if 21 with (go_at_call 135; refine hcS.mono ?_; rintro e w2 ⟨⟨c, a1, a2, n1, c1, c2, sh, dt, rfl, o1, o2, h1⟩, hr2, hb2⟩; have HO1 := hide o1; have HO2 := hide o2; have HR2 := hide hr2; have HB2 := hide hb2; clear o1 o2 hr2 hb2)
        obtain ⟨X, hX⟩ : ∃ X, X = w2.alloc (.cells #[.bool c, .slice (some a1) n1 c1, .slice (some a2) N c2] 25) := ⟨_, rfl⟩
        obtain ⟨p6, hp6⟩ : ∃ p, p = w2.heap.size := ⟨_, rfl⟩
        have hsz := (unhide HB2).size
        have hKX : Below w2.heap.size w2 X := by rw [hX]; exact (Below.refl _ _).alloc (Nat.le_refl _) _
        have BXV : Hid (Box X p6 c (.slice (some a1) n1 c1) (.slice (some a2) N c2)) := by rw [hX, hp6]; exact Box.new _ _ _ _
        have RXV := hide (((unhide HP1).but (unhide HB2) (by show ¬ w.heap.size = pr; omega)).below (Nat.le_refl _) hKX)
        have O1V := hide (((unhide HO1).below (Nat.le_refl _) hKX).mono (B' := w.heap.size) (by have h9 := hw1; omega))
        have O2V := hide (((unhide HO2).below (Nat.le_refl _) hKX).mono (B' := w.heap.size) (by have h9 := hw1; omega))
        have RDV := hide ((unhide HR2).below hKX)
        have BTV : Hid (But (fun x => x = pr) w X) := (((unhide HB1).trans (unhide HB2)).trans (T := fun x => x = pr) (But.of_below hKX)).mono (by rintro x ((h | h) | h) <;> exact h)
        rw [← hX, ← hp6]
        clear hX hp6 hKX HO1 HO2 HR2 HB2 hsz HP1 HB1 HR1
        obtain ⟨y0, y1, y2, y3, y4, y5, y6⟩ := (unhide BXV).all
        obtain ⟨z0, z1, z2, z3, z4, z5, z6⟩ := (unhide RXV).all
        go_wp2_with fail
        have hx := (unhide RXV).sets (c' := c) (u1 := .slice (some a1) n1 c1) (u2 := .slice (some a2) N c2)
        obtain ⟨t0, t1, t2, _, _, _⟩ := hx.all
        refine bodyPost_ret (v := .agg #[.bool c, .slice (some a1) n1 c1, .slice (some a2) N c2]) (by simp [results, Tryz.results47, go_sem, t0, t1, t2]) rfl ?_
        exact drawnR_end (unhide RXV) (Nat.le_refl _) (unhide O1V) (unhide O2V) h1 (by omega) (unhide RDV) hlw (unhide BTV)
      · have g1 : decide ((230 : Int) ≤ (k : Int)) = false := by simp; omega
        clear hq hk2
        obtain ⟨bn, hbn⟩ : ∃ b, decide ((0 : Int) < (N : Int)) = b := ⟨_, rfl⟩
        go_upto_if 21 with (go_at_call 135; refine hcS.mono ?_; rintro e w2 ⟨⟨c, a1, a2, n1, c1, c2, sh, dt, rfl, o1, o2, h1⟩, hr2, hb2⟩; have HO1 := hide o1; have HO2 := hide o2; have HR2 := hide hr2; have HB2 := hide hb2; clear o1 o2 hr2 hb2)
        obtain ⟨X, hX⟩ : ∃ X, X = w2.alloc (.cells #[.bool c, .slice (some a1) n1 c1, .slice (some a2) N c2] 25) := ⟨_, rfl⟩
        obtain ⟨p6, hp6⟩ : ∃ p, p = w2.heap.size := ⟨_, rfl⟩
        have hsz := (unhide HB2).size
        have hKX : Below w2.heap.size w2 X := by rw [hX]; exact (Below.refl _ _).alloc (Nat.le_refl _) _
        have BXV : Hid (Box X p6 c (.slice (some a1) n1 c1) (.slice (some a2) N c2)) := by rw [hX, hp6]; exact Box.new _ _ _ _
        have RXV := hide (((unhide HP1).but (unhide HB2) (by show ¬ w.heap.size = pr; omega)).below (Nat.le_refl _) hKX)
        have O1V := hide (((unhide HO1).below (Nat.le_refl _) hKX).mono (B' := w.heap.size) (by have h9 := hw1; omega))
        have O2V := hide (((unhide HO2).below (Nat.le_refl _) hKX).mono (B' := w.heap.size) (by have h9 := hw1; omega))
        have RDV := hide ((unhide HR2).below hKX)
        have BTV : Hid (But (fun x => x = pr) w X) := (((unhide HB1).trans (unhide HB2)).trans (T := fun x => x = pr) (But.of_below hKX)).mono (by rintro x ((h | h) | h) <;> exact h)
        rw [← hX, ← hp6]
        clear hX hp6 hKX HO1 HO2 HR2 HB2 hsz HP1 HB1 HR1
        obtain ⟨y0, y1, y2, y3, y4, y5, y6⟩ := (unhide BXV).all
        obtain ⟨z0, z1, z2, z3, z4, z5, z6⟩ := (unhide RXV).all
        go_wp2_with fail
        have hx := (unhide RXV).sets (c' := c) (u1 := .slice (some a1) n1 c1) (u2 := .slice (some a2) N c2)
        obtain ⟨t0, t1, t2, _, _, _⟩ := hx.all
        refine bodyPost_ret (v := .agg #[.bool c, .slice (some a1) n1 c1, .slice (some a2) N c2]) (by simp [results, Tryz.results47, go_sem, t0, t1, t2]) rfl ?_
        exact drawnR_end (unhide RXV) (Nat.le_refl _) (unhide O1V) (unhide O2V) h1 (by omega) (unhide RDV) hlw (unhide BTV)

end Go.Proofs.YtgjpchnkodnieaaGreatDoor
namespace Go.Proofs.YtgjpchnkodnieaaGreatDoor
open Go.RowKit

theorem Row.at_lt {w : World} {a : Option Addr} {n x : Nat} {zs : List Int} (h : Row w a n zs) (hx : At a n x) : x < w.heap.size := by
  obtain ⟨hn, ad, rfl, rfl⟩ := hx
  obtain ⟨b, off, eb, hlt, _⟩ := h.get (k := 0) (Nat.pos_of_ne_zero hn)
  cases eb
  exact hlt

theorem blk_lit (w : World) (z : Int) : Blk (w.alloc (.cells #[.int .i64 z] 3)) w.heap.size [z] := by
  show (w.heap.push _)[w.heap.size]? = _
  simp

theorem own_cellT {w : World} {B g n k : Nat} {zs : List Int} (h : Own w B (some ⟨g, 0, none⟩) n zs) (hk : k < n) : w.cell? ⟨g, k, none⟩ = some (.int .i64 (zs.getD k 0)) ∧ w.frozen? ⟨g, k, none⟩ = false := by
  rcases h.at_ with h0 | ⟨g', off', e, _, _, hc, hf⟩
  · omega
  · cases e
    have h1 := hc k hk
    have h2 := hf k hk
    rw [Nat.zero_add] at h1 h2
    exact ⟨h1, h2⟩

/-- An array is drawn (its box p6), and a list of numbers is being made behind it (its box p8). -/
structure DT (w : World) (pr p6 gs p8 : Nat) (c : Bool) (a1 a2 : Addr) (n1 n2 c1 c2 : Nat) (V : World) (l : List Int) (n g cap : Nat) : Prop where
  b0 : Box V w.heap.size false (.slice none 0 0) (.slice none 0 0)
  b1 : Box V (w.heap.size + 1) false (.slice none 0 0) (.slice none 0 0)
  b6 : Box V p6 c (.slice (some a1) n1 c1) (.slice (some a2) n2 c2)
  b8 : Box V p8 false (.slice (some ⟨gs, 0, none⟩) 1 1) (.slice (some ⟨g, 0, none⟩) n cap)
  o1 : ∃ sh, Own V (pr + 1) (some a1) n1 sh
  o2 : ∃ dt, Own V (pr + 1) (some a2) n2 dt
  lo1 : ∀ x, At (some a1) n1 x → x < gs
  lo2 : ∀ x, At (some a2) n2 x → x < gs
  os : Own V (pr + 1) (some ⟨gs, 0, none⟩) 1 [(n1 : Int)]
  owns : V.ownsRow (pr + 1) 3 1 (.slice (some ⟨g, 0, none⟩) n cap) n (l.map (Value.int .i64))
  rd : RdOk V pr
  low : Below w.heap.size w V
  hp : w.heap.size + 2 ≤ pr
  hq : pr < p6
  h6 : p6 < gs
  hg : gs < g
  h8 : gs < p8

section
variable {w V V' w' : World} {pr p6 gs p8 : Nat} {c : Bool} {a1 a2 : Addr} {n1 n2 c1 c2 : Nat} {l : List Int} {n g cap g' cap' : Nat}
theorem DT.below (h : DT w pr p6 gs p8 c a1 a2 n1 n2 c1 c2 V l n g cap) (hb : Below V.heap.size V V') : DT w pr p6 gs p8 c a1 a2 n1 n2 c1 c2 V' l n g cap := by
  obtain ⟨s1, hs1⟩ := h.o1
  obtain ⟨s2, hs2⟩ := h.o2
  exact ⟨h.b0.below (Nat.le_refl _) hb, h.b1.below (Nat.le_refl _) hb, h.b6.below (Nat.le_refl _) hb, h.b8.below (Nat.le_refl _) hb, ⟨s1, hs1.below (Nat.le_refl _) hb⟩, ⟨s2, hs2.below (Nat.le_refl _) hb⟩, h.lo1, h.lo2, h.os.below (Nat.le_refl _) hb, owns_below h.owns (Nat.le_refl _) hb, h.rd.below hb, h.low.trans (hb.mono h.low.size), h.hp, h.hq, h.h6, h.hg, h.h8⟩

theorem DT.push (h : DT w pr p6 gs p8 c a1 a2 n1 n2 c1 c2 V l n g cap) {x : Int} {o : Obj} (hown : w'.ownsRow (pr + 1) 3 1 (.slice (some ⟨g', 0, none⟩) (n + 1) cap') (n + 1) (l.map (Value.int .i64) ++ [.int .i64 x])) (hgr : (V.alloc o).grownBy w' (Value.ownBlock (.slice (some ⟨g, 0, none⟩) n cap))) (hg' : gs < g') :
    Box w' p8 false (.slice (some ⟨gs, 0, none⟩) 1 1) (.slice (some ⟨g, 0, none⟩) n cap) ∧ DT w pr p6 gs p8 c a1 a2 n1 n2 c1 c2 (w'.setCell ⟨p8, 2, none⟩ (.slice (some ⟨g', 0, none⟩) (n + 1) cap')) (l ++ [x]) (n + 1) g' cap' := by
  have hbt : But (fun x => x = g) V w' := but_grown (show (V.alloc o).grownBy w' (some g) from hgr)
  have hne := owns_nebox h.owns h.b8
  have e1 := h.hp
  have e2 := h.hq
  have e3 := h.h6
  have e4 := h.hg
  have e5 := h.h8
  have hb8 := h.b8.but hbt (fun e => hne e.symm)
  have hs : But (fun x => x = p8) w' (w'.setCell ⟨p8, 2, none⟩ (.slice (some ⟨g', 0, none⟩) (n + 1) cap')) := (But.refl (fun x => x = p8) w').setCell (p := ⟨p8, 2, none⟩) rfl _
  obtain ⟨s1, hs1⟩ := h.o1
  obtain ⟨s2, hs2⟩ := h.o2
  refine ⟨hb8, (h.b0.but hbt (by show ¬ _ = _; omega)).but hs (by show ¬ _ = _; omega), (h.b1.but hbt (by show ¬ _ = _; omega)).but hs (by show ¬ _ = _; omega), (h.b6.but hbt (by show ¬ _ = _; omega)).but hs (by show ¬ _ = _; omega), hb8.set2 _,
    ⟨s1, hs.own (hbt.own hs1 (fun x hx hk => by have := h.lo1 x hk; omega)) (fun x hx hk => by have := h.lo1 x hk; omega)⟩,
    ⟨s2, hs.own (hbt.own hs2 (fun x hx hk => by have := h.lo2 x hk; omega)) (fun x hx hk => by have := h.lo2 x hk; omega)⟩, h.lo1, h.lo2,
    hs.own (hbt.own h.os (fun x hx hk => by have := at_eq hk; omega)) (fun x hx hk => by have := at_eq hk; omega), ?_,
    (h.rd.but hbt (by rintro k rfl; omega)).but hs (by rintro k rfl; omega), (h.low.trans (hbt.below h.low.size (fun x hx => by omega))).setCell (p := ⟨p8, 2, none⟩) (by show _ ≤ p8; omega) _, h.hp, h.hq, h.h6, hg', h.h8⟩
  rw [List.map_append]
  exact owns_box_set hown hb8 _ _
end

/-- .. and the list is made. -/
structure DP (w : World) (pr p6 gs p8 : Nat) (c : Bool) (a1 a2 : Addr) (n1 n2 c1 c2 g cap : Nat) (V : World) : Prop where
  b0 : Box V w.heap.size false (.slice none 0 0) (.slice none 0 0)
  b1 : Box V (w.heap.size + 1) false (.slice none 0 0) (.slice none 0 0)
  b6 : Box V p6 c (.slice (some a1) n1 c1) (.slice (some a2) n2 c2)
  b8 : Box V p8 false (.slice (some ⟨gs, 0, none⟩) 1 1) (.slice (some ⟨g, 0, none⟩) n1 cap)
  o1 : ∃ sh, Own V (pr + 1) (some a1) n1 sh
  o2 : ∃ dt, Own V (pr + 1) (some a2) n2 dt
  os : ∃ dt, Own V (pr + 1) (some ⟨gs, 0, none⟩) 1 dt
  og : ∃ dt, Own V (pr + 1) (some ⟨g, 0, none⟩) n1 dt
  rd : RdOk V pr
  low : Below w.heap.size w V
  hp : w.heap.size + 2 ≤ pr
  hq : pr < p6
  h6 : p6 < gs
  hg : gs < g
  h8 : gs < p8
  h9 : ¬ g = p8

section
variable {w V V' : World} {pr p6 gs p8 : Nat} {c : Bool} {a1 a2 : Addr} {n1 n2 c1 c2 : Nat} {l : List Int} {g cap : Nat}
theorem DT.made (h : DT w pr p6 gs p8 c a1 a2 n1 n2 c1 c2 V l n1 g cap) (hn : n1 ≤ 6) : DP w pr p6 gs p8 c a1 a2 n1 n2 c1 c2 g cap V := by
  obtain ⟨_, _, ev, hO2⟩ := Own.of_owns h.owns (by omega)
  cases ev
  exact ⟨h.b0, h.b1, h.b6, h.b8, h.o1, h.o2, ⟨_, h.os⟩, ⟨_, hO2⟩, h.rd, h.low, h.hp, h.hq, h.h6, h.hg, h.h8, owns_nebox h.owns h.b8⟩
theorem DP.below (h : DP w pr p6 gs p8 c a1 a2 n1 n2 c1 c2 g cap V) (hb : Below V.heap.size V V') : DP w pr p6 gs p8 c a1 a2 n1 n2 c1 c2 g cap V' := by
  obtain ⟨s1, hs1⟩ := h.o1
  obtain ⟨s2, hs2⟩ := h.o2
  obtain ⟨s3, hs3⟩ := h.os
  obtain ⟨s4, hs4⟩ := h.og
  exact ⟨h.b0.below (Nat.le_refl _) hb, h.b1.below (Nat.le_refl _) hb, h.b6.below (Nat.le_refl _) hb, h.b8.below (Nat.le_refl _) hb, ⟨s1, hs1.below (Nat.le_refl _) hb⟩, ⟨s2, hs2.below (Nat.le_refl _) hb⟩, ⟨s3, hs3.below (Nat.le_refl _) hb⟩, ⟨s4, hs4.below (Nat.le_refl _) hb⟩, h.rd.below hb, h.low.trans (hb.mono h.low.size), h.hp, h.hq, h.h6, h.hg, h.h8, h.h9⟩
theorem DP.write (h : DP w pr p6 gs p8 c a1 a2 n1 n2 c1 c2 g cap V) (k : Nat) (x : Int) : DP w pr p6 gs p8 c a1 a2 n1 n2 c1 c2 g cap (V.setCell ⟨g, k, none⟩ (.int .i64 x)) := by
  have e1 := h.hp
  have e2 := h.hq
  have e3 := h.h6
  have e4 := h.hg
  have e5 := h.h8
  have e6 := h.h9
  obtain ⟨s1, hs1⟩ := h.o1
  obtain ⟨s2, hs2⟩ := h.o2
  obtain ⟨s3, hs3⟩ := h.os
  obtain ⟨s4, hs4⟩ := h.og
  have hs : But (fun y => y = g) V (V.setCell ⟨g, k, none⟩ (.int .i64 x)) := (But.refl (fun y => y = g) V).setCell (p := ⟨g, k, none⟩) rfl _
  exact ⟨h.b0.but hs (by show ¬ _ = _; omega), h.b1.but hs (by show ¬ _ = _; omega), h.b6.but hs (by show ¬ _ = _; omega), h.b8.but hs (by show ¬ _ = _; omega), hs1.scar ⟨g, k, none⟩ x, hs2.scar ⟨g, k, none⟩ x, hs3.scar ⟨g, k, none⟩ x, hs4.scar ⟨g, k, none⟩ x, h.rd.but hs (by rintro y rfl; omega), h.low.setCell (p := ⟨g, k, none⟩) (by show w.heap.size ≤ g; omega) _, h.hp, h.hq, h.h6, h.hg, h.h8, h.h9⟩
end

end Go.Proofs.YtgjpchnkodnieaaGreatDoor
namespace Go.Proofs.YtgjpchnkodnieaaGreatDoor
open Go.RowKit

set_option maxRecDepth 20000 in
set_option maxHeartbeats 8000000 in
theorem DrawTranspose_any (a : Option Addr) (n cn : Nat) (w : World) (h : Bytes w a n) (hc : n ≤ cn) (hn : n ≤ 1048576) :
    Calls Tryz.prog 8 #[.slice a n cn] w (DrawnTwo w) := by
  obtain ⟨i0, hi, hz0, hz1, hz2⟩ := info_parts info_int
  have HB0 : Hid (Below w.heap.size w ((w.alloc (.cells #[.bool false, .slice none 0 0, .slice none 0 0] 25)).alloc (.cells #[.bool false, .slice none 0 0, .slice none 0 0] 25))) := ((Below.refl _ _).alloc (Nat.le_refl _) _).alloc (by simp) _
  have HX0 : Hid (Box ((w.alloc (.cells #[.bool false, .slice none 0 0, .slice none 0 0] 25)).alloc (.cells #[.bool false, .slice none 0 0, .slice none 0 0] 25)) w.heap.size false (.slice none 0 0) (.slice none 0 0)) := (Box.new w _ _ _).alloc _
  have HX1 : Hid (Box ((w.alloc (.cells #[.bool false, .slice none 0 0, .slice none 0 0] 25)).alloc (.cells #[.bool false, .slice none 0 0, .slice none 0 0] 25)) (w.heap.size + 1) false (.slice none 0 0) (.slice none 0 0)) := by
    have := Box.new (w.alloc (.cells #[.bool false, .slice none 0 0, .slice none 0 0] 25)) false (.slice none 0 0) (.slice none 0 0)
    rw [World.size_alloc] at this
    exact this
  have HBY := hide (h.below (unhide HB0))
  clear h
  go_enter Tryz.func8, Tryz.ntmps8
  go_wp2_with fail
  refine (l1Open_any a n cn _ (unhide HBY) hc hn).mono ?_
  rintro e w1 ⟨pr, rfl, hr1, hpr, hb1⟩
  have hpr2 : w.heap.size + 2 ≤ pr := by simp at hpr; omega
  have HX0' := hide ((unhide HX0).below (Nat.le_refl _) hb1)
  have HX1' := hide ((unhide HX1).below (Nat.le_refl _) hb1)
  have HB1 := hide ((unhide HB0).trans (hb1.mono (by simp; omega)))
  have HR1 := hide hr1
  clear HX0 HX1 HB0 HBY hr1 hpr hb1
  go_wp2_with fail
  refine (next_any pr _ (unhide HR1)).mono ?_
  rintro e w2 ⟨⟨kk, hkk, rfl⟩, hr2, hb2⟩
  have HX0 := hide ((unhide HX0').but hb2 (by show ¬ w.heap.size = pr; omega))
  have HX1 := hide ((unhide HX1').but hb2 (by show ¬ w.heap.size + 1 = pr; omega))
  have HB2 := hide ((unhide HB1).trans (hb2.below (unhide HB1).size (fun x hx => by omega)))
  have HR2 := hide hr2
  have hprw : pr < w2.heap.size := hr2.lt
  clear HX0' HX1' HB1 HR1 hr2 hb2
  go_wp2_with fail
  refine (l3Array_any pr _ (unhide HR2)).mono ?_
  rintro e w3 ⟨⟨c, a1, a2, n1, n2, c1, c2, sh, dt, rfl, o1, o2, hn1, hn2⟩, hr3, hb3⟩
  have hsz3 := hb3.size
  have hb3' := (unhide HB2).trans (hb3.below (unhide HB2).size (fun x hx => by omega))
  obtain ⟨X, hX⟩ : ∃ X, X = (((w3.alloc (.cells #[.bool c, .slice (some a1) n1 c1, .slice (some a2) n2 c2] 25)).alloc (.cells #[.int .i64 (n1 : Nat)] 3)).alloc (.cells #[] 3)).alloc (.cells #[.bool false, .slice (some ⟨w3.heap.size + 1, 0, none⟩) 1 1, .slice (some ⟨w3.heap.size + 1 + 1, 0, none⟩) 0 0] 25) := ⟨_, rfl⟩
  have hKX : Below w3.heap.size w3 X := by rw [hX]; exact ((((Below.refl _ _).alloc (Nat.le_refl _) _).alloc (by simp) _).alloc (by simp; omega) _).alloc (by simp; omega) _
  have hlt1 : ∀ x, At (some a1) n1 x → x < w3.heap.size := fun x hx => o1.row.at_lt hx
  have hlt2 : ∀ x, At (some a2) n2 x → x < w3.heap.size := fun x hx => o2.row.at_lt hx
  have HD : Hid (DT w pr w3.heap.size (w3.heap.size + 1) (w3.heap.size + 1 + 1 + 1) c a1 a2 n1 n2 c1 c2 X [] 0 (w3.heap.size + 1 + 1) 0) := by
    have b6 : Box X w3.heap.size c (.slice (some a1) n1 c1) (.slice (some a2) n2 c2) := by
      rw [hX]
      exact (((Box.new _ _ _ _).alloc _).alloc _).alloc _
    have b8 : Box X (w3.heap.size + 1 + 1 + 1) false (.slice (some ⟨w3.heap.size + 1, 0, none⟩) 1 1) (.slice (some ⟨w3.heap.size + 1 + 1, 0, none⟩) 0 0) := by
      rw [hX]
      have := Box.new (((w3.alloc (.cells #[.bool c, .slice (some a1) n1 c1, .slice (some a2) n2 c2] 25)).alloc (.cells #[.int .i64 (n1 : Nat)] 3)).alloc (.cells #[] 3)) false (.slice (some ⟨w3.heap.size + 1, 0, none⟩) 1 1) (.slice (some ⟨w3.heap.size + 1 + 1, 0, none⟩) 0 0)
      rw [World.size_alloc, World.size_alloc, World.size_alloc] at this
      exact this
    have bg : Blk X (w3.heap.size + 1 + 1) [] := by
      rw [hX]
      have := Blk.new ((w3.alloc (.cells #[.bool c, .slice (some a1) n1 c1, .slice (some a2) n2 c2] 25)).alloc (.cells #[.int .i64 (n1 : Nat)] 3))
      rw [World.size_alloc, World.size_alloc] at this
      exact this.alloc _
    have bs : Blk X (w3.heap.size + 1) [(n1 : Int)] := by
      rw [hX]
      have := blk_lit (w3.alloc (.cells #[.bool c, .slice (some a1) n1 c1, .slice (some a2) n2 c2] 25)) (n1 : Int)
      rw [World.size_alloc] at this
      exact (this.alloc _).alloc _
    exact ⟨((unhide HX0).but hb3 (by show ¬ w.heap.size = pr; omega)).below (Nat.le_refl _) hKX, ((unhide HX1).but hb3 (by show ¬ w.heap.size + 1 = pr; omega)).below (Nat.le_refl _) hKX, b6, b8, ⟨sh, (o1.below (Nat.le_refl _) hKX).mono (by omega)⟩, ⟨dt, (o2.below (Nat.le_refl _) hKX).mono (by omega)⟩, fun x hx => by have := hlt1 x hx; omega, fun x hx => by have := hlt2 x hx; omega, bs.own rfl (by omega) (by omega), bg.owns (by omega), hr3.below hKX, hb3'.trans (hKX.mono hb3'.size), hpr2, by omega, by omega, by omega, by omega⟩
  have HXE := hide hX
  clear HX0 HX1 HB2 HR2 o1 o2 hr3 hb3 hb3' hX hKX hlt1 hlt2
  go_upto_region 6 with fail
  rw [← unhide HXE]
  clear HXE
  obtain ⟨p6, hp6⟩ : ∃ p, p = w3.heap.size := ⟨_, rfl⟩
  rw [← hp6] at HD ⊢
  clear hp6 hsz3 hprw sh dt
  obtain ⟨gs, hgs⟩ : ∃ g, g = p6 + 1 := ⟨_, rfl⟩
  rw [← hgs] at HD ⊢
  obtain ⟨g0, hg0⟩ : ∃ g, g = gs + 1 := ⟨_, rfl⟩
  rw [← hg0] at HD ⊢
  obtain ⟨p8, hp8⟩ : ∃ g, g = g0 + 1 := ⟨_, rfl⟩
  rw [← hp8] at HD ⊢
  clear hgs hg0 hp8
  go_wp2_with fail
  go_loopw [9] (fun i wr => ∃ (n g cap : Nat) (l : List Int), n ≤ n1 ∧ i = .int .i64 (n : Nat) ∧ Hid (DT w pr p6 gs p8 c a1 a2 n1 n2 c1 c2 wr l n g cap)) (fun i _ => n1 - (intOf i).toNat)
  case atStart => exact ⟨0, g0, 0, [], Nat.zero_le _, rfl, HD⟩
  case round =>
    clear HD
    obtain ⟨n, g, cap, l, hn, rfl, hd⟩ := hrel
    by_cases hlt : n < n1
    · have hnz : (n : Int) < (n1 : Int) := by omega
      have hn0 : ¬ (n1 : Int) = 0 := by omega
      obtain ⟨s, hs⟩ : ∃ s : Nat, s = n + kk := ⟨_, rfl⟩
      have ws : IntKind.i64.wrap ((n : Int) + (kk : Int)) = (s : Int) := by rw [IntKind.wrap_i64]; omega
      obtain ⟨j, hj, q, q'⟩ := modN s n1 (by omega)
      have hn1z : ¬ n1 = 0 := by omega
      have wj : IntKind.i64.wrap ((j : Int) + 1) = (j : Int) + 1 := by rw [IntKind.wrap_i64]; omega
      have HDD := hide ((unhide hd).below (Below.refl _ _).drew)
      obtain ⟨y0, y1, y2, y3, y4, y5, y6⟩ := (unhide HDD).b8.all
      obtain ⟨t0, t1, t2, t3, t4, t5, t6⟩ := ((unhide hd).below (((Below.refl _ wr).alloc (Nat.le_refl _) (.cells #[.int .i64 ((j : Int) + 1)] 3)).drew)).b8.all
      have hszr : pr + 1 ≤ wr.heap.size := by have h1 := (unhide hd).b6.lt; have h2 := (unhide hd).hq; omega
      have HGL : Hid (gs < wr.heap.size) := by have h1 := (unhide hd).b8.lt; have h2 := (unhide hd).h8; show _ < _; omega
      have HGG := hide (unhide hd).hg
      clear hd hs
      go_wp2_with fail
      go_region_law (first | (refine step_append_lies _ (by rfl) _ _ _ (by rfl) (pr + 1) 3 i0 _ 1 8 Tryz.underlying23 hi hz0 hz1 hz2 rfl (by omega) (.slice (some ⟨g, 0, none⟩) n cap) n (l.map (Value.int .i64)) (by rfl) (by exact owns_below (unhide HDD).owns (Nat.le_refl _) ((Below.refl _ _).alloc (Nat.le_refl _) _)) ⟨wr.heap.size, 0, none⟩ 1 1 [.int .i64 ((j : Int) + 1)] (by rfl) (by rfl) (by exact cells_new _ _) (one_one _) (by omega) (by unfold maxLen; omega) (by omega) (by simp; omega) (wr.heap.size + 1) (by simp) ?_; intro g' cap' w7 hown' hgrow hat hlt7; have hgn' : gs < g' := (by have h2 := unhide HGG; have h3 := unhide HGL; rcases hat with h | h; (· have h4 := Option.some.inj (show some g = some g' from h); omega); omega); have HD7 := hide ((unhide HDD).push hown' (by exact hgrow) hgn'); clear hown' hgrow hat hlt7 y0 y1 y2 y3 y4 y5 y6 t0 t1 t2 t3 t4 t5 t6; obtain ⟨y0, y1, y2, y3, y4, y5, y6⟩ := (unhide HD7).1.all))
      all_goals go_wp2_with fail
      all_goals refine ⟨⟨n + 1, g', cap', l ++ [(j : Int) + 1], by omega, by go_num, hide (unhide HD7).2⟩, ?_⟩
      all_goals (simp [intOf]; omega)
    · have hnz : ¬ (n : Int) < (n1 : Int) := by omega
      have hnN : n = n1 := by omega
      subst hnN
      have HP := hide ((unhide hd).made hn1)
      clear hd hnz hlt
      obtain ⟨j3, hj3, q3, q3'⟩ := modN kk 3 (by omega)
      have r3 : (kk : Int).tmod 3 = (j3 : Int) := q3
      have r3' : (kk : Int) % 3 = (j3 : Int) := q3'
      clear q3 q3'
      go_upto_region 10 with fail
      go_cut [45] (fun u wx => (∃ bb : Bool, u = .bool bb ∧ (bb = true → 1 < n)) ∧ wx = wr)
      case first =>
        by_cases hj : j3 = 1
        · have g0 : ((j3 : Int) == 1) = true := by simp [hj]
          by_cases hk : 1 < n
          · have hkz : (1 : Int) < (n : Int) := by omega
            go_wp2_with fail
            go_meet
            case rel => exact ⟨⟨_, rfl, fun _ => hk⟩, rfl⟩
          · have hkz : ¬ (1 : Int) < (n : Int) := by omega
            go_wp2_with fail
            go_meet
            case rel => exact ⟨⟨_, rfl, fun hh => by simp at hh⟩, rfl⟩
        · have g0 : ((j3 : Int) == 1) = false := by simp; omega
          go_wp2_with fail
          go_meet
          case rel => exact ⟨⟨_, rfl, fun hh => by simp at hh⟩, rfl⟩
      case rest =>
      obtain ⟨⟨bb, rfl, hbb⟩, rfl⟩ := hcut
      obtain ⟨Y, hY⟩ : ∃ x, x = wc := ⟨_, rfl⟩
      subst hY
      clear r3 r3' hj3
      go_upto_if 45 with fail
      go_cut [] (fun wx => DP w pr p6 gs p8 c a1 a2 n n2 c1 c2 g cap wx)
      case first =>
        cases bb with
        | false =>
          go_wp2_with fail
          go_meet
          case rel => exact unhide HP
        | true =>
          have hk := hbb rfl
          clear hbb
          obtain ⟨m, hm⟩ : ∃ m : Nat, n = m + 1 := ⟨n - 1, by omega⟩
          have hwm : IntKind.i64.wrap ((n : Int) - 1) = (m : Int) := by rw [IntKind.wrap_i64]; omega
          have hmz : (m : Int) < (n : Int) := by omega
          have h0z : (0 : Int) < (n : Int) := by omega
          have hn0 : ¬ (n : Int) = 0 := by omega
          obtain ⟨jn, hjn, qn, qn'⟩ := modN kk n (by omega)
          have hn1z : ¬ n = 0 := by omega
          have wjn : IntKind.i64.wrap ((jn : Int) + 1) = (jn : Int) + 1 := by rw [IntKind.wrap_i64]; omega
          obtain ⟨s4, hs4⟩ := (unhide HP).og
          obtain ⟨ca, cb⟩ := own_cellT hs4 (k := m) (by omega)
          obtain ⟨cc, cd⟩ := own_cellT hs4 (k := 0) (by omega)
          obtain ⟨xv, hxv⟩ : ∃ x, x = s4.getD m 0 := ⟨_, rfl⟩
          obtain ⟨xu, hxu⟩ : ∃ x, x = s4.getD 0 0 := ⟨_, rfl⟩
          rw [← hxv] at ca
          rw [← hxu] at cc
          clear hxv hxu hs4 hm
          obtain ⟨y0, y1, y2, y3, y4, y5, y6⟩ := (unhide HP).b8.all
          go_wp2_with fail
          go_region
          obtain ⟨Y2, hY2⟩ : ∃ x, x = (Y.setCell ⟨g, 0, none⟩ (.int .i64 xv)).drew := ⟨_, rfl⟩
          have HP2 : Hid (DP w pr p6 gs p8 c a1 a2 n n2 c1 c2 g cap Y2) := by rw [hY2]; exact ((unhide HP).write 0 xv).below (Below.refl _ _).drew
          rw [← hY2]
          clear hY2 ca cb cc cd y0 y1 y2 y3 y4 y5 y6 HP
          obtain ⟨s4', hs4⟩ := (unhide HP2).og
          obtain ⟨ca, cb⟩ := own_cellT hs4 (k := m) (by omega)
          obtain ⟨xw, hxw⟩ : ∃ x, x = s4'.getD m 0 := ⟨_, rfl⟩
          rw [← hxw] at ca
          clear hxw hs4
          obtain ⟨y0, y1, y2, y3, y4, y5, y6⟩ := (unhide HP2).b8.all
          go_wp2_with fail
          go_region
          go_wp2_with fail
          go_meet
          case rel => exact ((unhide HP2).write m _).below (Below.refl _ _).drew
      case rest =>
      obtain ⟨Z, hZ⟩ : ∃ x, x = wc := ⟨_, rfl⟩
      subst hZ
      clear HP hbb
      have HP := hide hcut
      clear hcut
      have hwr := (unhide HP).b6.lt
      have h0 := (unhide HP).hp
      have h1 := (unhide HP).hq
      obtain ⟨sh, hs1⟩ := (unhide HP).o1
      obtain ⟨dt, hs2⟩ := (unhide HP).o2
      have HL1 : Hid (∀ x, At (some a1) n x → x ≠ pr) := fun x hx => by have := hs1.low hx; omega
      have HL2 : Hid (∀ x, At (some a2) n2 x → x ≠ pr) := fun x hx => by have := hs2.low hx; omega
      have HO1 := hide hs1.row
      have HO2 := hide hs2.row
      clear hs1 hs2
      by_cases hb : 230 ≤ kk
      · have g0 : decide ((230 : Int) ≤ (kk : Int)) = true := by simp; omega
        clear hb
        have hKEEP : ∀ wx, But (fun x => x = pr) Z wx → wx.cell? ⟨p6, 0, none⟩ = some (.bool c) ∧ wx.cell? ⟨p6, 1, none⟩ = some (.slice (some a1) n c1) ∧ wx.cell? ⟨p6, 2, none⟩ = some (.slice (some a2) n2 c2) := fun wx hwx => ((unhide HP).b6.but hwx (by show ¬ p6 = pr; omega)).cells
        obtain ⟨y0, y1, y2⟩ := hKEEP _ (But.refl _ _)
        obtain ⟨z0, z1, z2, z3, z4, z5, z6⟩ := (unhide HP).b0.all
        obtain ⟨u0, u1, u2, u3, u4, u5, u6⟩ := (unhide HP).b1.all
        go_wp2_with fail
        go_region_with (go_at_call 47; refine (l5Odd_any pr n (by omega) _ (by first | exact (unhide HP).rd | exact (unhide HP).rd.below (Below.refl _ _).drew)).mono ?_; rintro e w4 ⟨⟨d, b1, b2, m1, m2, d1, d2, sh', dt', rfl, q1, q2, hm1, hm2⟩, _, hb4⟩; have hb5 : But (fun x => x = pr) Z w4 := (by first | exact hb4 | exact ((But.of_below (Below.refl _ _).drew).trans hb4).mono (by rintro x (h | h) <;> exact h)); clear y0 y1 y2 z0 z1 z2 z3 z4 z5 z6 u0 u1 u2 u3 u4 u5 u6; obtain ⟨y0, y1, y2⟩ := hKEEP _ hb5; have HZ0 := hide ((unhide HP).b0.but hb5 (by show ¬ w.heap.size = pr; omega)); have HZ1 := hide ((unhide HP).b1.but hb5 (by show ¬ w.heap.size + 1 = pr; omega)); obtain ⟨z0, z1, z2, z3, z4, z5, z6⟩ := (unhide HZ0).all; obtain ⟨u0, u1, u2, u3, u4, u5, u6⟩ := (unhide HZ1).all; have HQ1 := hide q1.row; have HQ2 := hide q2.row; have HB5 := hide hb5; clear q1 q2 hb4 hb5)
        all_goals go_wp2_with fail
        all_goals
          have hF0 := ((((unhide HZ0).sets (c' := d) (u1 := .slice (some b1) m1 d1) (u2 := .slice (some b2) m2 d2)).other (q := ⟨w.heap.size + 1, 0, none⟩) (by simp) (.bool c)).other (q := ⟨w.heap.size + 1, 1, none⟩) (by simp) (.slice (some a1) n c1)).other (q := ⟨w.heap.size + 1, 2, none⟩) (by simp) (.slice (some a2) n2 c2)
          have hF1 := ((((unhide HZ1).other (q := ⟨w.heap.size, 0, none⟩) (by simp) (.bool d)).other (q := ⟨w.heap.size, 1, none⟩) (by simp) (.slice (some b1) m1 d1)).other (q := ⟨w.heap.size, 2, none⟩) (by simp) (.slice (some b2) m2 d2)).sets (c' := c) (u1 := .slice (some a1) n c1) (u2 := .slice (some a2) n2 c2)
          obtain ⟨t0, t1, t2, _, _, _⟩ := hF0.all
          obtain ⟨v0, v1, v2, _, _, _⟩ := hF1.all
          refine bodyPost_ret (v := .tuple #[.agg #[.bool d, .slice (some b1) m1 d1, .slice (some b2) m2 d2], .agg #[.bool c, .slice (some a1) n c1, .slice (some a2) n2 c2]]) (by simp [results, Tryz.results8, go_sem, t0, t1, t2, v0, v1, v2]) rfl ?_
          exact drawn2_end (unhide HZ0) (unhide HZ1) (unhide HQ1) (unhide HQ2) ((unhide HB5).row (unhide HO1) (fun x hx hh => unhide HL1 x hh hx)) ((unhide HB5).row (unhide HO2) (fun x hx hh => unhide HL2 x hh hx)) hm1 hm2 hn1 hn2 ((unhide HP).low.trans ((unhide HB5).below (unhide HP).low.size (fun x hx => by omega)))
      · have g0 : decide ((230 : Int) ≤ (kk : Int)) = false := by simp; omega
        clear hb
        obtain ⟨shx, hs3⟩ := (unhide HP).os
        obtain ⟨dtx, hs4⟩ := (unhide HP).og
        have HQ1 := hide hs3.row
        have HQ2 := hide hs4.row
        clear hs3 hs4
        obtain ⟨y0, y1, y2, y3, y4, y5, y6⟩ := (unhide HP).b6.all
        obtain ⟨x0, x1, x2, x3, x4, x5, x6⟩ := (unhide HP).b8.all
        obtain ⟨z0, z1, z2, z3, z4, z5, z6⟩ := (unhide HP).b0.all
        obtain ⟨u0, u1, u2, u3, u4, u5, u6⟩ := (unhide HP).b1.all
        go_wp2_with fail
        go_region
        all_goals go_wp2_with fail
        all_goals
          have hB0 := (unhide HP).b0
          have hB1 := (unhide HP).b1
          have hF0 := (((hB0.sets (c' := false) (u1 := .slice (some ⟨gs, 0, none⟩) 1 1) (u2 := .slice (some ⟨g, 0, none⟩) n cap)).other (q := ⟨w.heap.size + 1, 0, none⟩) (by simp) (.bool c)).other (q := ⟨w.heap.size + 1, 1, none⟩) (by simp) (.slice (some a1) n c1)).other (q := ⟨w.heap.size + 1, 2, none⟩) (by simp) (.slice (some a2) n2 c2)
          have hF1 := (((hB1.other (q := ⟨w.heap.size, 0, none⟩) (by simp) (.bool false)).other (q := ⟨w.heap.size, 1, none⟩) (by simp) (.slice (some ⟨gs, 0, none⟩) 1 1)).other (q := ⟨w.heap.size, 2, none⟩) (by simp) (.slice (some ⟨g, 0, none⟩) n cap)).sets (c' := c) (u1 := .slice (some a1) n c1) (u2 := .slice (some a2) n2 c2)
          obtain ⟨t0, t1, t2, _, _, _⟩ := hF0.all
          obtain ⟨v0, v1, v2, _, _, _⟩ := hF1.all
          refine bodyPost_ret (v := .tuple #[.agg #[.bool false, .slice (some ⟨gs, 0, none⟩) 1 1, .slice (some ⟨g, 0, none⟩) n cap], .agg #[.bool c, .slice (some a1) n c1, .slice (some a2) n2 c2]]) (by simp [results, Tryz.results8, go_sem, t0, t1, t2, v0, v1, v2]) rfl ?_
          exact drawn2_drew (drawn2_end hB0 hB1 (unhide HQ1) (unhide HQ2) (unhide HO1) (unhide HO2) (by omega) (by omega) hn1 hn2 (unhide HP).low)

end Go.Proofs.YtgjpchnkodnieaaGreatDoor
namespace Go.Proofs.YtgjpchnkodnieaaGreatDoor
open Go.RowKit

/-- What a draw of two arrays and a flag gives. -/
def DrawnTwoF (w : World) (e : Ending) (w' : World) : Prop := ∃ (c d fl : Bool) (a1 a2 b1 b2 : Addr) (n1 n2 m1 m2 c1 c2 d1 d2 : Nat) (sh dt sh' dt' : List Int), e = .returned (.tuple #[.agg #[.bool c, .slice (some a1) n1 c1, .slice (some a2) n2 c2], .agg #[.bool d, .slice (some b1) m1 d1, .slice (some b2) m2 d2], .bool fl]) ∧ Row w' (some a1) n1 sh ∧ Row w' (some a2) n2 dt ∧ Row w' (some b1) m1 sh' ∧ Row w' (some b2) m2 dt' ∧ n1 ≤ 6 ∧ n2 ≤ 10001 ∧ m1 ≤ 6 ∧ m2 ≤ 10001 ∧ Below w.heap.size w w'

set_option maxRecDepth 20000 in
set_option maxHeartbeats 8000000 in
theorem DrawRotate_any (a : Option Addr) (n cn : Nat) (w : World) (h : Bytes w a n) (hc : n ≤ cn) (hn : n ≤ 1048576) :
    Calls Tryz.prog 9 #[.slice a n cn] w (DrawnTwoF w) := by
  have HB0 : Hid (Below w.heap.size w ((w.alloc (.cells #[.bool false, .slice none 0 0, .slice none 0 0] 25)).alloc (.cells #[.bool false, .slice none 0 0, .slice none 0 0] 25))) := ((Below.refl _ _).alloc (Nat.le_refl _) _).alloc (by simp) _
  have HX0 : Hid (Box ((w.alloc (.cells #[.bool false, .slice none 0 0, .slice none 0 0] 25)).alloc (.cells #[.bool false, .slice none 0 0, .slice none 0 0] 25)) w.heap.size false (.slice none 0 0) (.slice none 0 0)) := (Box.new w _ _ _).alloc _
  have HX1 : Hid (Box ((w.alloc (.cells #[.bool false, .slice none 0 0, .slice none 0 0] 25)).alloc (.cells #[.bool false, .slice none 0 0, .slice none 0 0] 25)) (w.heap.size + 1) false (.slice none 0 0) (.slice none 0 0)) := by
    have := Box.new (w.alloc (.cells #[.bool false, .slice none 0 0, .slice none 0 0] 25)) false (.slice none 0 0) (.slice none 0 0)
    rw [World.size_alloc] at this
    exact this
  have HBY := hide (h.below (unhide HB0))
  clear h
  go_enter Tryz.func9, Tryz.ntmps9
  go_wp2_with fail
  refine (l1Open_any a n cn _ (unhide HBY) hc hn).mono ?_
  rintro e w1 ⟨pr, rfl, hr1, hpr, hb1⟩
  have hpr2 : w.heap.size + 2 ≤ pr := by simp at hpr; omega
  have HX0' := hide ((unhide HX0).below (Nat.le_refl _) hb1)
  have HX1' := hide ((unhide HX1).below (Nat.le_refl _) hb1)
  have HB1 := hide ((unhide HB0).trans (hb1.mono (by simp; omega)))
  have HR1 := hide hr1
  clear HX0 HX1 HB0 HBY hr1 hpr hb1
  go_wp2_with fail
  refine (next_any pr _ (unhide HR1)).mono ?_
  rintro e w2 ⟨⟨kk, hkk, rfl⟩, hr2, hb2⟩
  have HX0 := hide ((unhide HX0').but hb2 (by show ¬ w.heap.size = pr; omega))
  have HX1 := hide ((unhide HX1').but hb2 (by show ¬ w.heap.size + 1 = pr; omega))
  have HB2 := hide ((unhide HB1).trans (hb2.below (unhide HB1).size (fun x hx => by omega)))
  have HR2 := hide hr2
  have hprw : pr < w2.heap.size := hr2.lt
  clear HX0' HX1' HB1 HR1 hr2 hb2
  obtain ⟨j2, hj2, q2, q2'⟩ := modN kk 2 (by omega)
  have r2 : (kk : Int).tmod 2 = (j2 : Int) := q2
  have r2' : (kk : Int) % 2 = (j2 : Int) := q2'
  obtain ⟨jd, hjd, qd, qd'⟩ := divN kk 240
  have rd : (kk : Int).tdiv 240 = (jd : Int) := qd
  have rd' : (kk : Int) / 240 = (jd : Int) := qd'
  have hjb : jd ≤ 1 := by rw [hjd]; exact Nat.le_of_lt_succ (Nat.div_lt_of_lt_mul (by omega))
  clear hjd
  obtain ⟨N, hN⟩ : ∃ N : Nat, N = 1 + jd := ⟨_, rfl⟩
  have hN2 : N ≤ 10000 := by clear r2 r2' rd rd' qd qd' q2 q2'; omega
  have rw1 : IntKind.i64.wrap (1 + (jd : Int)) = (N : Int) := by rw [IntKind.wrap_i64]; omega
  have rw2 : wrap64 (1 + (jd : Int)) = (N : Int) := by unfold wrap64; omega
  obtain ⟨fb, hfb⟩ : ∃ b, ((j2 : Int) == 1) = b := ⟨_, rfl⟩
  clear q2 q2' qd qd' hN hjb
  go_wp2_with fail
  refine (l5Odd_any pr N hN2 _ (unhide HR2)).mono ?_
  rintro e w3 ⟨⟨c, a1, a2, n1, n2, c1, c2, sh, dt, rfl, o1, o2, hn1, hn2⟩, hr3, hb3⟩
  have HX0' := hide ((unhide HX0).but hb3 (by show ¬ w.heap.size = pr; omega))
  have HX1' := hide ((unhide HX1).but hb3 (by show ¬ w.heap.size + 1 = pr; omega))
  have HB3 := hide ((unhide HB2).trans (hb3.below (unhide HB2).size (fun x hx => by omega)))
  have HL1 : Hid (∀ x, At (some a1) n1 x → x ≠ pr) := fun x hx => by have := o1.low hx; omega
  have HL2 : Hid (∀ x, At (some a2) n2 x → x ≠ pr) := fun x hx => by have := o2.low hx; omega
  have HO1 := hide o1.row
  have HO2 := hide o2.row
  have HR3 := hide hr3
  clear HX0 HX1 HB2 HR2 o1 o2 hr3 hb3
  go_wp2_with fail
  refine (l3Array_any pr _ (unhide HR3)).mono ?_
  rintro e w4 ⟨⟨d, b1, b2, m1, m2, d1, d2, sh', dt', rfl, q1, q2, hm1, hm2⟩, _, hb4⟩
  have HZ0 := hide ((unhide HX0').but hb4 (by show ¬ w.heap.size = pr; omega))
  have HZ1 := hide ((unhide HX1').but hb4 (by show ¬ w.heap.size + 1 = pr; omega))
  have HQ1 := hide q1.row
  have HQ2 := hide q2.row
  have P1 := hide (hb4.row (unhide HO1) (fun x hx hh => unhide HL1 x hh hx))
  have P2 := hide (hb4.row (unhide HO2) (fun x hx hh => unhide HL2 x hh hx))
  have HB4 := hide ((unhide HB3).trans (hb4.below (unhide HB3).size (fun x hx => by omega)))
  clear HX0' HX1' HB3 HO1 HO2 HL1 HL2 HR3 q1 q2 hb4
  obtain ⟨z0, z1, z2, z3, z4, z5, z6⟩ := (unhide HZ0).all
  obtain ⟨u0, u1, u2, u3, u4, u5, u6⟩ := (unhide HZ1).all
  go_wp2_with fail
  have hF0 := ((((unhide HZ0).sets (c' := c) (u1 := .slice (some a1) n1 c1) (u2 := .slice (some a2) n2 c2)).other (q := ⟨w.heap.size + 1, 0, none⟩) (by simp) (.bool d)).other (q := ⟨w.heap.size + 1, 1, none⟩) (by simp) (.slice (some b1) m1 d1)).other (q := ⟨w.heap.size + 1, 2, none⟩) (by simp) (.slice (some b2) m2 d2)
  have hF1 := ((((unhide HZ1).other (q := ⟨w.heap.size, 0, none⟩) (by simp) (.bool c)).other (q := ⟨w.heap.size, 1, none⟩) (by simp) (.slice (some a1) n1 c1)).other (q := ⟨w.heap.size, 2, none⟩) (by simp) (.slice (some a2) n2 c2)).sets (c' := d) (u1 := .slice (some b1) m1 d1) (u2 := .slice (some b2) m2 d2)
  obtain ⟨t0, t1, t2, _, _, _⟩ := hF0.all
  obtain ⟨v0, v1, v2, _, _, _⟩ := hF1.all
  refine bodyPost_ret (v := .tuple #[.agg #[.bool c, .slice (some a1) n1 c1, .slice (some a2) n2 c2], .agg #[.bool d, .slice (some b1) m1 d1, .slice (some b2) m2 d2], .bool fb]) (by simp [results, Tryz.results9, go_sem, t0, t1, t2, v0, v1, v2]) rfl ?_
  obtain ⟨c', d', x1, x2, y1, y2, i1, i2, j1, j2', g1, g2, f1, f2, s1, s2, s3, s4, he, hh⟩ := drawn2_end (c := c) (d := d) (c1 := c1) (c2 := c2) (d1 := d1) (d2 := d2) (unhide HZ0) (unhide HZ1) (unhide P1) (unhide P2) (unhide HQ1) (unhide HQ2) hn1 hn2 hm1 hm2 (unhide HB4)
  cases he
  exact ⟨_, _, fb, _, _, _, _, _, _, _, _, _, _, _, _, _, _, _, _, rfl, hh⟩

end Go.Proofs.YtgjpchnkodnieaaGreatDoor
namespace Go.Proofs.YtgjpchnkodnieaaGreatDoor
open Go

section
variable {P : Program} {ops : Array Oper} {Q : Exit → Act → World → Prop} {md : Region.Mode} {S : World → Prop} {st : Nat}

/-- Whatever order is picked from here on, and S holds behind every operation but number st. -/
def wpAnyL (P : Program) (md : Region.Mode) (ops : Array Oper) (Q : Exit → Act → World → Prop) (S : World → Prop) (st : Nat) : Nat → Array Bool → Act → World → Prop
  | 0, listed, a, w => Region.ready md ops listed = [] ∧ Q .normal a w
  | fuel + 1, listed, a, w =>
    (Region.ready md ops listed = [] → Q .normal a w) ∧
    ∀ i ∈ Region.ready md ops listed, wpOp P ops Q i (fun a' w' => (i ≠ st → S w') ∧ wpAnyL P md ops Q S st fuel (listed.setIfInBounds i true) a' w') a w

theorem wpAny_of_L : ∀ (fuel : Nat) (listed : Array Bool) (a : Act) (w : World), wpAnyL P md ops Q S st fuel listed a w → wpAny P md ops Q fuel listed a w
  | 0, _, _, _, h => h
  | fuel + 1, _, _, _, h => ⟨h.1, fun i hi => wpOp_mono (fun a' w' h' => wpAny_of_L fuel _ a' w' h'.2) (h.2 i hi)⟩

/-- Operation st waits for operation i. -/
def waitsFor (md : Region.Mode) (ops : Array Oper) (st i : Nat) : Bool := ((ops[st]?).map (·.after.any fun e => Region.binds md e && e.on == i)).getD false

theorem waits_not {i : Nat} {listed : Array Bool} (hw : waitsFor md ops st i = true) (hi : listed.getD i true = false) : st ∉ Region.ready md ops listed := by
  intro hst
  obtain ⟨_, o, ho, hall⟩ := mem_ready.1 hst
  unfold waitsFor at hw
  rw [ho] at hw
  simp only [Option.map_some, Option.getD_some, Array.any_eq_true'] at hw
  obtain ⟨e, he, hb⟩ := hw
  simp only [Bool.and_eq_true, beq_iff_eq] at hb
  have h1 := hall e he hb.1
  rw [hb.2] at h1
  rcases Nat.lt_or_ge i listed.size with h' | h'
  · simp [h'] at hi h1; rw [hi] at h1; cases h1
  · simp [Array.getElem?_eq_none h'] at h1

theorem wpAnyL_first {i : Nat} {oi : Oper} {v : Value} (hi : ops[i]? = some oi) (hsel : ∀ (j : Nat) (o : Oper) cs b, ops[j]? = some o → o.op ≠ .select cs b)
    (hQ : ∀ c a w, Q (.panic c) (a.put oi.dst v) w → Q (.panic c) a w) (hw : waitsFor md ops st i = true) :
    ∀ (fuel : Nat) (listed : Array Bool) (a : Act) (w : World),
      (∀ j oj, ops[j]? = some oj → j ≠ i → listed.getD j true = false → (∀ e ∈ oj.after, Region.binds md e = true → e.on ≠ i) → oi.apart ops oj = true) →
      i ∈ Region.ready md ops listed → YieldsIf P ops S oi v a → S w →
      wpAnyL P md ops Q S st fuel (listed.setIfInBounds i true) (a.put oi.dst v) w → wpAnyL P md ops Q S st (fuel + 1) listed a w := by
  intro fuel
  induction fuel with
  | zero =>
    intro listed a w _ hr hy hS H
    refine ⟨fun h => (by rw [h] at hr; cases hr), fun j hj => ?_⟩
    by_cases hji : j = i
    · subst hji; exact hy.wpOp hi hS ⟨fun _ => hS, H⟩
    · have := ready_mono hj hji
      rw [H.1] at this
      cases this
  | succ fuel ih =>
    intro listed a w hfree hr hy hS H
    refine ⟨fun h => (by rw [h] at hr; cases hr), fun j hj => ?_⟩
    by_cases hji : j = i
    · subst hji; exact hy.wpOp hi hS ⟨fun _ => hS, H⟩
    · have h1 := H.2 j (ready_mono hj hji)
      have hjst : j ≠ st := fun e => waits_not hw (mem_ready.1 hr).1 (e ▸ hj)
      obtain ⟨hjun, oj, hoj, hall⟩ := mem_ready.1 hj
      have hnot : ∀ e ∈ oj.after, Region.binds md e = true → e.on ≠ i := fun e he hb heq => by
        have h1 := hall e he hb
        have h0 := (mem_ready.1 hr).1
        rw [heq] at h1
        rcases Nat.lt_or_ge i listed.size with h' | h'
        · simp [h'] at h0 h1; rw [h0] at h1; cases h1
        · simp [Array.getElem?_eq_none h'] at h1
      have h2 := wpOp_putIf hoj (hfree j oj hoj hji hjun hnot) (fun cs b => hsel i oi cs b hi) (fun cs b => hsel j oj cs b hoj) hQ hy h1
      have hfree' : ∀ k ok, ops[k]? = some ok → k ≠ i → (listed.setIfInBounds j true).getD k true = false →
          (∀ e ∈ ok.after, Region.binds md e = true → e.on ≠ i) → oi.apart ops ok = true := fun k ok hk hki hun hno => by
        refine hfree k ok hk hki ?_ hno
        by_cases hjk : j = k
        · subst hjk; exact hjun
        · rw [getD_set_ne true hjk] at hun; exact hun
      refine wpOp_mono (fun a' w' h3 => ⟨h3.2.1, ih (listed.setIfInBounds j true) a' w' hfree' (ready_mono hr (Ne.symm hji)) h3.1 (h3.2.1 hjst) ?_⟩) h2
      rw [Array.setIfInBounds_comm _ _ hji]
      exact h3.2.2

/-- Take number i first. -/
theorem wpAnyL_take {i : Nat} {oi : Oper} {v : Value} {fuel : Nat} {listed : Array Bool} {a : Act} {w : World} (hi : ops[i]? = some oi)
    (hs : Region.noSelect ops = true) (hf : Region.free md ops listed i = true) (hr : (Region.ready md ops listed).contains i = true) (hw : waitsFor md ops st i = true)
    (hQ : ∀ c a w, Q (.panic c) (a.put oi.dst v) w → Q (.panic c) a w) (hy : YieldsIf P ops S oi v a) (hS : S w)
    (h : wpAnyL P md ops Q S st fuel (listed.setIfInBounds i true) (a.put oi.dst v) w) : wpAnyL P md ops Q S st (fuel + 1) listed a w :=
  wpAnyL_first hi (Region.noSelect_spec hs) hQ hw fuel listed a w (Region.free_spec hi hf) (by simpa using hr) hy hS h

/-- Take number i first, its value into slot d. -/
theorem wpAnyL_put (i d : Nat) (v : Value) {oi : Oper} {fuel : Nat} {listed : Array Bool} {a : Act} {w : World} (hi : ops[i]? = some oi) (hd : oi.dst = some d)
    (hs : Region.noSelect ops = true) (hf : Region.free md ops listed i = true) (hr : (Region.ready md ops listed).contains i = true) (hw : waitsFor md ops st i = true)
    (hQ : ∀ c a (d : Nat) v w, Q (.panic c) (a.put (some d) v) w → Q (.panic c) a w) (hg : Region.wanted oi (yielded ops a.tmps) = true) (hy : ∀ w, S w → (execOp a.eval oi).run P w = .ok (.value v) w) (hS : S w)
    (h : wpAnyL P md ops Q S st fuel (listed.setIfInBounds i true) (a.put (some d) v) w) : wpAnyL P md ops Q S st (fuel + 1) listed a w :=
  wpAnyL_take hi hs hf hr hw (fun c a w h => by rw [hd] at h; exact hQ c a d v w h) (Or.inl ⟨hg, hy⟩) hS (by rw [hd]; exact h)

/-- One alone may come up. -/
theorem wpAnyL_one {i : Nat} {fuel : Nat} {listed : Array Bool} {a : Act} {w : World} (hr : Region.ready md ops listed = [i])
    (h : wpOp P ops Q i (fun a' w' => (i ≠ st → S w') ∧ wpAnyL P md ops Q S st fuel (listed.setIfInBounds i true) a' w') a w) : wpAnyL P md ops Q S st (fuel + 1) listed a w :=
  ⟨fun h0 => (by rw [hr] at h0; cases h0), fun j hj => (by rw [hr] at hj; simp at hj; subst hj; exact h)⟩

theorem wpAnyL_done {listed : Array Bool} {a : Act} {w : World} (hr : Region.ready md ops listed = []) (h : Q .normal a w) : ∀ fuel, wpAnyL P md ops Q S st fuel listed a w
  | 0 => ⟨hr, h⟩
  | _ + 1 => ⟨fun _ => h, by rw [hr]; simp⟩

theorem wp_region_L {id : Nat} {a : Act} {w : World} (S : World → Prop) (st : Nat) (hm : P.follows .mixedOrders = true)
    (h : wpAnyL P .any ops Q S st ops.size (Array.replicate ops.size false) a { w with drawn := w.drawn + 1 }) : (Code.region id ops true).wp P Q a w :=
  wp_region_any hm (wpAny_of_L _ _ _ _ h)

theorem op_wp {K : Act → World → Prop} {a : Act} {w : World} {i : Nat} {o : Oper} (hi : ops[i]? = some o) (hg : Region.wanted o (yielded ops a.tmps) = true) (h : o.wp P a w K Q) : wpOp P ops Q i K a w := by
  unfold wpOp
  rw [hi]
  show if Region.wanted o (yielded ops a.tmps) = true then _ else _
  rw [if_pos hg]
  exact .inl h

theorem eval_ne {a : Act} {d e : Nat} {v : Value} (h : d ≠ e) : (a.put (some d) v).eval (.tmp e) = a.eval (.tmp e) :=
  Act.eval_put (dst := some d) (x := .tmp e) (by simp; exact fun hy => h hy.symm)

theorem eval_eq {a : Act} {d : Nat} {v : Value} (h : d < a.tmps.size) : (a.put (some d) v).eval (.tmp d) = v := by
  simp [Act.eval, Act.put, h]

theorem put_size {a : Act} {d : Nat} {v : Value} : (a.put (some d) v).tmps.size = a.tmps.size := by simp [Act.put]
end

end Go.Proofs.YtgjpchnkodnieaaGreatDoor
namespace Go.Proofs.YtgjpchnkodnieaaGreatDoor
open Go.RowKit

section
variable {o : Oper} {a : Act}
theorem rgF0 (x : Operand) (b : Nat) (ho : o.op = .fieldAddr 25 x 0) (hx : a.eval x = .pointer (some ⟨b, 0, none⟩)) (w : World) : (execOp a.eval o).run Tryz.prog w = .ok (.value (.pointer (some ⟨b, 0, none⟩))) w := by
  unfold execOp
  simp only [ho, hx]
  go_simp
theorem rgF1 (x : Operand) (b : Nat) (ho : o.op = .fieldAddr 25 x 1) (hx : a.eval x = .pointer (some ⟨b, 0, none⟩)) (w : World) : (execOp a.eval o).run Tryz.prog w = .ok (.value (.pointer (some ⟨b, 1, none⟩))) w := by
  unfold execOp
  simp only [ho, hx]
  go_simp
theorem rgF2 (x : Operand) (b : Nat) (ho : o.op = .fieldAddr 25 x 2) (hx : a.eval x = .pointer (some ⟨b, 0, none⟩)) (w : World) : (execOp a.eval o).run Tryz.prog w = .ok (.value (.pointer (some ⟨b, 2, none⟩))) w := by
  unfold execOp
  simp only [ho, hx]
  go_simp
theorem rgL (x : Operand) (p : Addr) {s : Option Addr} {l c : Nat} (ho : o.op = .load 23 x) (hx : a.eval x = .pointer (some p)) (w : World) (hc : w.cell? p = some (.slice s l c)) : (execOp a.eval o).run Tryz.prog w = .ok (.value (.slice s l c)) w := by
  unfold execOp
  simp only [ho, hx]
  go_simp
theorem rgI (x : Operand) (p : Addr) {z : Int} (ho : o.op = .load 3 x) (hx : a.eval x = .pointer (some p)) (w : World) (hc : w.cell? p = some (.int .i64 z)) : (execOp a.eval o).run Tryz.prog w = .ok (.value (.int .i64 z)) w := by
  unfold execOp
  simp only [ho, hx]
  go_simp
theorem rgM (x : Operand) {v : Value} (ho : o.op = .move x) (hx : a.eval x = v) (w : World) : (execOp a.eval o).run Tryz.prog w = .ok (.value v) w := by
  unfold execOp
  simp only [ho, hx]
  go_simp
theorem rg_mul (x y : Operand) {i j k : Int} (ho : o.op = .binOp .mul 3 x y 3) (hx : a.eval x = .int .i64 i) (hy : a.eval y = .int .i64 j) (hk : IntKind.i64.wrap (i * j) = k) (w : World) : (execOp a.eval o).run Tryz.prog w = .ok (.value (.int .i64 k)) w := by
  unfold execOp
  simp only [ho, hx, hy]
  go_simp
theorem rg_add (x y : Operand) {i j k : Int} (ho : o.op = .binOp .add 3 x y 3) (hx : a.eval x = .int .i64 i) (hy : a.eval y = .int .i64 j) (hk : IntKind.i64.wrap (i + j) = k) (w : World) : (execOp a.eval o).run Tryz.prog w = .ok (.value (.int .i64 k)) w := by
  unfold execOp
  simp only [ho, hx, hy]
  go_simp
theorem rg_rem (x y : Operand) {i j k : Nat} (ho : o.op = .binOp .rem 3 x y 3) (hx : a.eval x = .int .i64 (i : Nat)) (hy : a.eval y = .int .i64 (j : Nat)) (hk : 0 < j ∧ i % j = k ∧ j ≤ 4611686018427387904) (w : World) : (execOp a.eval o).run Tryz.prog w = .ok (.value (.int .i64 (k : Nat))) w := by
  obtain ⟨h0, hk, hj⟩ := hk
  have hjz : ¬ (j : Int) = 0 := by omega
  have hjn : ¬ j = 0 := by omega
  have h2 : (i : Int).tmod (j : Int) = (k : Int) := by rw [Int.tmod_eq_emod_of_nonneg (by omega), ← hk]; rfl
  have hkj : k < j := by rw [← hk]; exact Nat.mod_lt _ h0
  have h3 : IntKind.i64.wrap (k : Int) = (k : Int) := by rw [IntKind.wrap_i64]; omega
  unfold execOp
  simp only [ho, hx, hy]
  go_simp
theorem rgN (t : Nat) {s : Option Addr} {l c : Nat} (ho : o.op = .call { callee := .builtin .len, args := #[.tmp t], argTypes := #[23] }) (hx : a.eval (.tmp t) = .slice s l c) (w : World) : (execOp a.eval o).run Tryz.prog w = .ok (.value (.int .i64 (l : Nat))) w := by
  have hx' : a.tmps[t]?.getD undef = .slice s l c := by simpa [Act.eval] using hx
  unfold execOp
  simp only [ho]
  go_simp
theorem rgX (x y : Operand) {b off m c J : Nat} (ho : o.op = .indexAddr 23 x y) (hx : a.eval x = .slice (some ⟨b, off, none⟩) m c) (hy : a.eval y = .int .i64 (J : Nat)) (hJ : J < m) (w : World) : (execOp a.eval o).run Tryz.prog w = .ok (.value (.pointer (some ⟨b, off + J, none⟩))) w := by
  have h1 : (J : Int) < (m : Int) := by omega
  unfold execOp
  simp only [ho, hx, hy]
  go_simp
theorem rgS1 (t : Nat) {z : Int} (ho : o.op = .buildSlice 23 1 #[(0, .tmp t)]) (hx : a.eval (.tmp t) = .int .i64 z) (w : World) : (execOp a.eval o).run Tryz.prog w = .ok (.value (.slice (some ⟨w.heap.size, 0, none⟩) 1 1)) (w.alloc (.cells #[.int .i64 z] 3)) := by
  have hx' : a.tmps[t]?.getD undef = .int .i64 z := by simpa [Act.eval] using hx
  unfold execOp
  simp only [ho]
  go_simp
theorem rgSt (x y : Operand) (p : Nat) {v1 : Value} {s : Option Addr} {l c : Nat} (ho : o.op = .store 23 x y) (hx : a.eval x = .pointer (some ⟨p, 2, none⟩)) (hy : a.eval y = .slice s l c) (w : World) (hc : w.cell? ⟨p, 2, none⟩ = some v1) (hf : w.frozen? ⟨p, 2, none⟩ = false) : (execOp a.eval o).run Tryz.prog w = .ok .skip (w.setCell ⟨p, 2, none⟩ (.slice s l c)) := by
  unfold execOp
  simp only [ho, hx, hy]
  go_simp
theorem put_nothing {a : Act} {v : Value} : a.put none v = a := rfl
theorem wanted_free {o : Oper} {y : Nat → Option Bool} (h : o.guard = none) : Region.wanted o y = true := by simp [Region.wanted, h]
end

end Go.Proofs.YtgjpchnkodnieaaGreatDoor
namespace Go.Proofs.YtgjpchnkodnieaaGreatDoor

def front (sh : List Int) : List Int := sh.take (sh.length - 1)
def last (sh : List Int) : Int := sh.getD (sh.length - 1) 0

/-- The shape of an array as Catenate takes it beside another. -/
def sideSh (sh sh' : List Int) : List Int := if sh = [] then front sh' ++ [1] else if sh.length + 1 = sh'.length then sh ++ [1] else sh
def sideDt (sh dt sh' : List Int) : List Int := if sh = [] then List.replicate (countOf (sideSh sh sh')).toNat (dt.getD 0 0) else dt

/-- k rows, each of m elements of one list and of n of another. -/
def catN (x y : List Int) (m n : Nat) : Nat → List Int
  | 0 => []
  | k + 1 => catN x y m n k ++ (x.drop (k * m)).take m ++ (y.drop (k * n)).take n

def catenate (c d : Bool) (sh dt sh' dt' : List Int) : Ans :=
  if arrOk c sh dt = true ∧ arrOk d sh' dt' = true then
    if (sideSh sh sh').length ≠ (sideSh sh' sh).length then noAns 4
    else if front (sideSh sh sh') ≠ front (sideSh sh' sh) then noAns 5
    else if c ≠ d ∧ sideDt sh dt sh' ≠ [] ∧ sideDt sh' dt' sh ≠ [] then noAns 3
    else if shapeB (front (sideSh sh sh') ++ [last (sideSh sh sh') + last (sideSh sh' sh)]) = false then noAns 7
    else ⟨if sideDt sh dt sh' = [] ∧ sideDt sh' dt' sh ≠ [] then d else c, front (sideSh sh sh') ++ [last (sideSh sh sh') + last (sideSh sh' sh)],
      catN (sideDt sh dt sh') (sideDt sh' dt' sh) (last (sideSh sh sh')).toNat (last (sideSh sh' sh)).toNat (prodAll (front (sideSh sh sh'))).toNat, 0⟩
  else noAns 3

section
variable {c d : Bool} {sh dt sh' dt' : List Int}
theorem cat_bad1 (h : arrOk c sh dt = false) : catenate c d sh dt sh' dt' = noAns 3 := by unfold catenate; rw [if_neg (by simp [h])]
theorem cat_bad2 (h : arrOk d sh' dt' = false) : catenate c d sh dt sh' dt' = noAns 3 := by unfold catenate; rw [if_neg (by simp [h])]
theorem cat_rank (h1 : arrOk c sh dt = true) (h2 : arrOk d sh' dt' = true) (h : (sideSh sh sh').length ≠ (sideSh sh' sh).length) : catenate c d sh dt sh' dt' = noAns 4 := by
  unfold catenate; rw [if_pos ⟨h1, h2⟩, if_pos h]
variable {L R x y : List Int}
theorem cat_len (h1 : arrOk c sh dt = true) (h2 : arrOk d sh' dt' = true) (hL : sideSh sh sh' = L) (hR : sideSh sh' sh = R) (h : L.length = R.length) (hf : front L ≠ front R) : catenate c d sh dt sh' dt' = noAns 5 := by
  unfold catenate; rw [if_pos ⟨h1, h2⟩, hL, hR, if_neg (by simp [h]), if_pos hf]
theorem cat_dom (h1 : arrOk c sh dt = true) (h2 : arrOk d sh' dt' = true) (hL : sideSh sh sh' = L) (hR : sideSh sh' sh = R) (hx : sideDt sh dt sh' = x) (hy : sideDt sh' dt' sh = y) (h : L.length = R.length) (hf : front L = front R) (hd : c ≠ d ∧ x ≠ [] ∧ y ≠ []) : catenate c d sh dt sh' dt' = noAns 3 := by
  unfold catenate; rw [if_pos ⟨h1, h2⟩, hL, hR, hx, hy, if_neg (by simp [h]), if_neg (by simp [hf]), if_pos hd]
theorem cat_big (h1 : arrOk c sh dt = true) (h2 : arrOk d sh' dt' = true) (hL : sideSh sh sh' = L) (hR : sideSh sh' sh = R) (hx : sideDt sh dt sh' = x) (hy : sideDt sh' dt' sh = y) (h : L.length = R.length) (hf : front L = front R) (hd : ¬ (c ≠ d ∧ x ≠ [] ∧ y ≠ [])) (hz : shapeB (front L ++ [last L + last R]) = false) : catenate c d sh dt sh' dt' = noAns 7 := by
  unfold catenate; rw [if_pos ⟨h1, h2⟩, hL, hR, hx, hy, if_neg (by simp [h]), if_neg (by simp [hf]), if_neg hd, if_pos hz]
theorem cat_go (h1 : arrOk c sh dt = true) (h2 : arrOk d sh' dt' = true) (hL : sideSh sh sh' = L) (hR : sideSh sh' sh = R) (hx : sideDt sh dt sh' = x) (hy : sideDt sh' dt' sh = y) (h : L.length = R.length) (hf : front L = front R) (hd : ¬ (c ≠ d ∧ x ≠ [] ∧ y ≠ [])) (hz : shapeB (front L ++ [last L + last R]) = true) :
    catenate c d sh dt sh' dt' = ⟨if x = [] ∧ y ≠ [] then d else c, front L ++ [last L + last R], catN x y (last L).toNat (last R).toNat (prodAll (front L)).toNat, 0⟩ := by
  unfold catenate; rw [if_pos ⟨h1, h2⟩, hL, hR, hx, hy, if_neg (by simp [h]), if_neg (by simp [hf]), if_neg hd, if_neg (by simp [hz])]
end

theorem shapeIn_snoc1 {l : List Int} (h : ShapeIn l) : ShapeIn (l ++ [1]) := by
  obtain ⟨ha, m, hm⟩ := h
  refine ⟨by rw [List.all_append, ha]; rfl, m, ?_⟩
  have key : ∀ (l : List Int) (n : Int), 1 ≤ n → n ≤ 10000 → l.all inCells = true → ∀ m, prodFrom l n = some m → prodFrom (l ++ [1]) n = some m := by
    intro l
    induction l with
    | nil => intro n h1 h2 _ m hm; simp only [prodFrom] at hm ⊢; simp [prodFrom]; cases hm; omega
    | cons x r ih =>
      intro n h1 h2 hl m hm
      simp only [List.all_cons, Bool.and_eq_true] at hl
      have hx : 0 ≤ x ∧ x ≤ 10000 := by simpa [inCells] using hl.1
      simp only [prodFrom, List.cons_append] at hm ⊢
      by_cases h0 : x = 0
      · rw [if_pos h0] at hm ⊢; exact ih n h1 h2 hl.2 m hm
      · rw [if_neg h0] at hm ⊢
        split at hm
        · cases hm
        · rename_i hle
          rw [if_neg hle]
          have : 1 * 1 ≤ n * x := Int.mul_le_mul h1 (by omega) (by omega) (by omega)
          exact ih _ (by omega) (by omega) hl.2 m hm
  exact key l 1 (by omega) (by omega) ha m hm

theorem front_snoc (l : List Int) (x : Int) : front (l ++ [x]) = l := by simp [front]
theorem last_snoc (l : List Int) (x : Int) : last (l ++ [x]) = x := by simp [last]
theorem front_last {l : List Int} (h : l ≠ []) : l = front l ++ [last l] := by
  have hl : 0 < l.length := List.length_pos_iff.mpr h
  unfold front last
  have := List.take_append_drop (l.length - 1) l
  have e : l.drop (l.length - 1) = [l.getD (l.length - 1) 0] := by
    rw [List.drop_eq_getElem_cons (by omega)]
    simp [List.getD, show l.length - 1 < l.length by omega, show l.length - 1 + 1 = l.length by omega]
  rw [e] at this
  exact this.symm

/-- The array as it is taken has a valid shape. -/
theorem side_in {c d : Bool} {sh dt sh' dt' : List Int} (h1 : arrOk c sh dt = true) (h2 : arrOk d sh' dt' = true) : ShapeIn (sideSh sh sh') ∧ (sideSh sh sh').length ≤ 5 ∧ 0 < (sideSh sh sh').length ∧ prodAll (sideSh sh sh') = (sideDt sh dt sh').length := by
  obtain ⟨i1, p1, l1⟩ := shapeIn_of h1
  obtain ⟨i2, p2, l2⟩ := shapeIn_of h2
  unfold sideDt
  by_cases e : sh = []
  · have hs : sideSh sh sh' = front sh' ++ [1] := by unfold sideSh; rw [if_pos e]
    have hi : ShapeIn (front sh' ++ [1]) := shapeIn_snoc1 (i2.take _)
    have hl : (front sh' ++ [1]).length ≤ 5 := by simp [front]; omega
    rw [if_pos e, hs]
    refine ⟨hi, hl, by simp, ?_⟩
    have hb : shapeB (front sh' ++ [1]) = true := by
      obtain ⟨ha, m, hm⟩ := hi
      exact shape_good (n := (front sh' ++ [1]).length) rfl hl m ha hm
    have hc := prodAll_count _ hb
    have hn := hi.bd.1
    simp
    omega
  · rw [if_neg e]
    unfold sideSh
    rw [if_neg e]
    by_cases e2 : sh.length + 1 = sh'.length
    · rw [if_pos e2]
      refine ⟨shapeIn_snoc1 i1, by simp; omega, by simp, ?_⟩
      rw [prodAll_append, p1]; simp [prodAll]
    · rw [if_neg e2]
      exact ⟨i1, l1, List.length_pos_iff.mpr e, p1⟩

end Go.Proofs.YtgjpchnkodnieaaGreatDoor
namespace Go.Proofs.YtgjpchnkodnieaaGreatDoor
open Go.RowKit

/-- k elements have been gathered into the array in box p. -/
structure Stage (w2 : World) (p : Nat) (c : Bool) (ash : Option Addr) (m csh : Nat) (zs : List Int) (f : Nat → Int × Int) (k : Nat) (wr : World) (g cap : Nat) : Prop where
  box : Box wr p c (.slice ash m csh) (.slice (some ⟨g, 0, none⟩) k cap)
  owns : wr.ownsRow w2.heap.size 3 1 (.slice (some ⟨g, 0, none⟩) k cap) k ((vals f k).map (Value.int .i64))
  own : Own wr w2.heap.size ash m zs
  ne : ∀ x, At ash m x → x ≠ g
  low : Below w2.heap.size w2 wr
  code : firstCode f k = 0
  place : w2.heap.size ≤ p

theorem Stage.start {w2 wx : World} {p g : Nat} {c : Bool} {ash : Option Addr} {m csh : Nat} {zs : List Int} (f : Nat → Int × Int) (h1 : Box wx p c (.slice ash m csh) (.slice (some ⟨g, 0, none⟩) 0 0)) (h2 : Blk wx g []) (h3 : Own wx w2.heap.size ash m zs) (h4 : Below w2.heap.size w2 wx) (h7 : w2.heap.size ≤ p) (h5 : w2.heap.size ≤ g) (h6 : ∀ x, At ash m x → x ≠ g) : Stage w2 p c ash m csh zs f 0 wx g 0 :=
  ⟨h1, h2.owns h5, h3, h6, h4, rfl, h7⟩

theorem Stage.below {w2 wr w5 : World} {p g cap k : Nat} {c : Bool} {ash : Option Addr} {m csh : Nat} {zs : List Int} {f : Nat → Int × Int} (h : Stage w2 p c ash m csh zs f k wr g cap) (hb : Below wr.heap.size wr w5) : Stage w2 p c ash m csh zs f k w5 g cap :=
  ⟨h.box.below (Nat.le_refl _) hb, owns_below h.owns (Nat.le_refl _) hb, h.own.below (Nat.le_refl _) hb, h.ne, h.low.trans (hb.mono h.low.size), h.code, h.place⟩

theorem Stage.drew {w2 wr : World} {p g cap k : Nat} {c : Bool} {ash : Option Addr} {m csh : Nat} {zs : List Int} {f : Nat → Int × Int} (h : Stage w2 p c ash m csh zs f k wr g cap) : Stage w2 p c ash m csh zs f k wr.drew g cap := h.below (Below.refl _ _).drew

theorem Stage.push {w2 w5 w6 : World} {p g g' cap cap' k : Nat} {c : Bool} {ash : Option Addr} {m csh : Nat} {zs : List Int} {f : Nat → Int × Int} {r1 : Int} (o : Obj) (h : Stage w2 p c ash m csh zs f k w5 g cap) (hf : f k = (r1, 0))
    (hown : w6.ownsRow w2.heap.size 3 1 (.slice (some ⟨g', 0, none⟩) (k + 1) cap') (k + 1) ((vals f k).map (Value.int .i64) ++ [.int .i64 r1])) (hg : (w5.alloc o).grownBy w6 (Value.ownBlock (.slice (some ⟨g, 0, none⟩) k cap))) (hat : Value.ownBlock (.slice (some ⟨g, 0, none⟩) k cap) = some g' ∨ g' = w5.heap.size + 1) :
    Box w6 p c (.slice ash m csh) (.slice (some ⟨g, 0, none⟩) k cap) ∧ Stage w2 p c ash m csh zs f (k + 1) (w6.setCell ⟨p, 2, none⟩ (.slice (some ⟨g', 0, none⟩) (k + 1) cap')) g' cap' := by
  have hb6 := h.box.grown h.owns o hg
  have hg' : (w5.alloc o).grownBy w6 (some g) := hg
  have ho6 := h.own.grown o hg' h.ne
  have hlow := h.low.trans (below_append o h.owns h.low.size hg)
  have hne' : ∀ x, At ash m x → x ≠ g' := by
    intro x hx
    rcases hat with e | e
    · have e' : g = g' := by simpa [Value.ownBlock] using e
      rw [← e']; exact h.ne x hx
    · have := h.own.row.hi hx; omega
  refine ⟨hb6, hb6.set2 _, ?_, ho6.other (fun x hx => ho6.row.notBox hb6 hx) _, hne', hlow.setCell h.place _, code_step h.code (by rw [hf]), h.place⟩
  · rw [vals_snoc, hf]
    exact owns_box_set hown hb6 _ _

end Go.Proofs.YtgjpchnkodnieaaGreatDoor
namespace Go.Proofs.YtgjpchnkodnieaaGreatDoor
open Go.RowKit

section
variable {P : Program} (w : World)

/-- append of whatever number of elements to a slice that is there. -/
theorem run_append_some (t ty : TypeId) (base : Nat) (e : TypeId) (i : TypeInfo) (z : Value) (size bytes : Nat) (ht : P.underlying t = some (.slice e)) (hi : P.info? e = some i) (hz : i.zero = some z)
    (hsize : i.size = size) (hby : i.bytes = bytes) (hzs : z.cells.size = size) (hsz : 0 < size)
    (g0 n cap0 : Nat) (xs : List Value) (hown : w.ownsRow base e size (.slice (some ⟨g0, 0, none⟩) n cap0) n xs)
    (ad : Addr) (m c : Nat) (news : List Value) (hl : news.length = m * size) (hnews : ∀ j u, news[j]? = some u → w.cell? (ad.add j) = some u) (h1 : ∀ u ∈ news, u.oneCell' = true)
    (h63 : n + m ≤ maxLen) (hbytes : (n + m) * bytes ≤ 140737488355328) (hbase : base ≤ w.heap.size) :
    ∃ g cap w', (Builtin.append_ #[t, t] ty #[.slice (some ⟨g0, 0, none⟩) n cap0, .slice (some ad) m c]).run P w = .ok (.slice (some ⟨g, 0, none⟩) (n + m) cap) w' ∧
      w'.ownsRow base e size (.slice (some ⟨g, 0, none⟩) (n + m) cap) (n + m) (xs ++ news) ∧ w.grownBy w' (some g0) ∧ (g = g0 ∨ g = w.heap.size) := by
  obtain ⟨v', w', hr, h2, h3, h4, h5⟩ := run_append_own_at (P := P) w base t ty e i z size bytes ht hi hz hsize hby hzs hsz _ n xs hown ad m c news hl hnews h1 h63 hbytes hbase
  have hf : ∃ g cap, v' = .slice (some ⟨g, 0, none⟩) (n + m) cap := by
    rcases h2.2 with ⟨e0, e1⟩ | ⟨g, cap, cur, hv, _⟩
    · exact absurd (h4.1 e0).1 (by simp)
    · exact ⟨g, cap, hv⟩
  obtain ⟨g, cap, rfl⟩ := hf
  refine ⟨g, cap, w', hr, h2, h3, ?_⟩
  rcases h5 with h5 | h5
  · left; simpa [Value.ownBlock] using h5
  · right; simpa [Value.ownBlock] using h5

theorem wp_append_some {o : Oper} {a : Act} {K : Act → World → Prop} {Q : Exit → Act → World → Prop} (s x : Operand) (t : TypeId)
    (ho : o.op = .call { callee := .builtin .append, args := #[s, x], argTypes := #[t, t] })
    (base : Nat) (e : TypeId) (i : TypeInfo) (z : Value) (size bytes : Nat) (ht : P.underlying t = some (.slice e)) (hi : P.info? e = some i) (hz : i.zero = some z)
    (hsize : i.size = size) (hby : i.bytes = bytes) (hzs : z.cells.size = size) (hsz : 0 < size)
    (g0 n cap0 : Nat) (xs : List Value) (hs : a.eval s = .slice (some ⟨g0, 0, none⟩) n cap0) (hown : w.ownsRow base e size (.slice (some ⟨g0, 0, none⟩) n cap0) n xs)
    (ad : Addr) (m c : Nat) (news : List Value) (hx : a.eval x = .slice (some ad) m c) (hl : news.length = m * size) (hnews : ∀ j u, news[j]? = some u → w.cell? (ad.add j) = some u) (h1 : ∀ u ∈ news, u.oneCell' = true)
    (h63 : n + m ≤ maxLen) (hbytes : (n + m) * bytes ≤ 140737488355328) (hbase : base ≤ w.heap.size)
    (h : ∀ g cap w', w'.ownsRow base e size (.slice (some ⟨g, 0, none⟩) (n + m) cap) (n + m) (xs ++ news) → w.grownBy w' (some g0) → (g = g0 ∨ g = w.heap.size) → K (a.put o.dst (.slice (some ⟨g, 0, none⟩) (n + m) cap)) w') : o.wp P a w K Q := by
  obtain ⟨g, cap, w', hr, h2, h3, h4⟩ := run_append_some (P := P) w t o.type base e i z size bytes ht hi hz hsize hby hzs hsz g0 n cap0 xs hown ad m c news hl hnews h1 h63 hbytes hbase
  unfold Oper.wp execOp
  simp only [ho, resolve, invoke, builtin, Sem.run_bind, Sem.run_pure, Result.andThen_ok, List.map_toArray, List.map_cons, List.map_nil, hs, hx, hr]
  exact h g cap w' h2 h3 h4

theorem step_append_some {ops : Array Oper} {o : Oper} {a : Act} {K : Act → World → Prop} {Q : Exit → Act → World → Prop} {E : Prop} (hgd : o.guard = none) (s x : Operand) (t : TypeId)
    (ho : o.op = .call { callee := .builtin .append, args := #[s, x], argTypes := #[t, t] })
    (base : Nat) (e : TypeId) (i : TypeInfo) (z : Value) (size bytes : Nat) (ht : P.underlying t = some (.slice e)) (hi : P.info? e = some i) (hz : i.zero = some z)
    (hsize : i.size = size) (hby : i.bytes = bytes) (hzs : z.cells.size = size) (hsz : 0 < size)
    (g0 n cap0 : Nat) (xs : List Value) (hs : a.eval s = .slice (some ⟨g0, 0, none⟩) n cap0) (hown : w.ownsRow base e size (.slice (some ⟨g0, 0, none⟩) n cap0) n xs)
    (ad : Addr) (m c : Nat) (news : List Value) (hx : a.eval x = .slice (some ad) m c) (hl : news.length = m * size) (hnews : ∀ j u, news[j]? = some u → w.cell? (ad.add j) = some u) (h1 : ∀ u ∈ news, u.oneCell' = true)
    (h63 : n + m ≤ maxLen) (hbytes : (n + m) * bytes ≤ 140737488355328) (hbase : base ≤ w.heap.size)
    (h : ∀ g cap w', w'.ownsRow base e size (.slice (some ⟨g, 0, none⟩) (n + m) cap) (n + m) (xs ++ news) → w.grownBy w' (some g0) → (g = g0 ∨ g = w.heap.size) → K (a.put o.dst (.slice (some ⟨g, 0, none⟩) (n + m) cap)) w') :
    if Region.wanted o (yielded ops a.tmps) = true then Oper.wp P o a w K Q else E := by
  have hw : Region.wanted o (yielded ops a.tmps) = true := by simp [Region.wanted, hgd]
  rw [if_pos hw]
  exact wp_append_some w s x t ho base e i z size bytes ht hi hz hsize hby hzs hsz g0 n cap0 xs hs hown ad m c news hx hl hnews h1 h63 hbytes hbase h

end

theorem Box.grown0 {w w1 : World} {p base n g cap : Nat} {c : Bool} {v1 v2 : Value} {xs : List Value} (h : Box w p c v1 v2) (hown : w.ownsRow base 3 1 (.slice (some ⟨g, 0, none⟩) n cap) n xs) (hg : w.grownBy w1 (some g)) : Box w1 p c v1 v2 := by
  refine (hg.block p h.lt ?_).trans h
  rcases hown.2 with ⟨e, _⟩ | ⟨g', cap', cur, e, _, hh, _⟩
  · cases e
  · cases e
    intro e
    cases e
    unfold Box at h
    rw [h] at hh
    have := congrArg (fun o => match o with | some (.cells _ t _) => t | _ => 0) hh
    simp at this

theorem Own.grown0 {w w1 : World} {B g n : Nat} {a : Option Addr} {zs : List Int} (h : Own w B a n zs) (hg : w.grownBy w1 (some g)) (hne : ∀ x, At a n x → x ≠ g) : Own w1 B a n zs := by
  refine ⟨h.len, h.small, ?_⟩
  rcases h.at_ with h0 | ⟨b, off, rfl, hb, hlt, hc, hf⟩
  · exact .inl h0
  · by_cases hn : n = 0
    · exact .inl hn
    have hk : w1.heap[b]? = w.heap[b]? := hg.block b hlt (fun e => hne b (at_self hn) (by simpa using e))
    refine .inr ⟨b, off, rfl, hb, Nat.lt_of_lt_of_le hlt hg.size, fun i hi => ?_, fun i hi => ?_⟩
    · exact (World.cell?_of_block hk).trans (hc i hi)
    · exact (World.frozen?_of_block hk).trans (hf i hi)

/-- An array in box p, its elements so far l. -/
structure Gat (w2 : World) (p : Nat) (c : Bool) (ash : Option Addr) (m csh : Nat) (zs l : List Int) (n : Nat) (wr : World) (g cap : Nat) : Prop where
  box : Box wr p c (.slice ash m csh) (.slice (some ⟨g, 0, none⟩) n cap)
  owns : wr.ownsRow w2.heap.size 3 1 (.slice (some ⟨g, 0, none⟩) n cap) n (l.map (Value.int .i64))
  own : Own wr w2.heap.size ash m zs
  ne : ∀ x, At ash m x → x ≠ g
  low : Below w2.heap.size w2 wr
  place : w2.heap.size ≤ p

theorem Gat.len {w2 wr : World} {p g cap n : Nat} {c : Bool} {ash : Option Addr} {m csh : Nat} {zs l : List Int} (h : Gat w2 p c ash m csh zs l n wr g cap) : l.length = n := by
  have := h.owns.1
  simpa using this

theorem Gat.drew {w2 wr : World} {p g cap n : Nat} {c : Bool} {ash : Option Addr} {m csh : Nat} {zs l : List Int} (h : Gat w2 p c ash m csh zs l n wr g cap) : Gat w2 p c ash m csh zs l n wr.drew g cap :=
  have hb : Below wr.heap.size wr wr.drew := (Below.refl _ _).drew
  ⟨h.box.below (Nat.le_refl _) hb, owns_below h.owns (Nat.le_refl _) hb, h.own.below (Nat.le_refl _) hb, h.ne, h.low.trans (hb.mono h.low.size), h.place⟩

theorem Gat.push {w2 w5 w6 : World} {p g g' cap cap' n k : Nat} {c : Bool} {ash : Option Addr} {m csh : Nat} {zs l r : List Int} (h : Gat w2 p c ash m csh zs l n w5 g cap)
    (hown : w6.ownsRow w2.heap.size 3 1 (.slice (some ⟨g', 0, none⟩) (n + k) cap') (n + k) (l.map (Value.int .i64) ++ r.map (Value.int .i64))) (hg : w5.grownBy w6 (some g)) (hat : g' = g ∨ g' = w5.heap.size) :
    (Box w6 p c (.slice ash m csh) (.slice (some ⟨g, 0, none⟩) n cap) ∧ Below w2.heap.size w2 w6) ∧ Gat w2 p c ash m csh zs (l ++ r) (n + k) (w6.setCell ⟨p, 2, none⟩ (.slice (some ⟨g', 0, none⟩) (n + k) cap')) g' cap' := by
  have hb6 := h.box.grown0 h.owns hg
  have ho6 := h.own.grown0 hg h.ne
  have hge : w2.heap.size ≤ g := by
    rcases h.owns.2 with ⟨e, _⟩ | ⟨g1, _, _, e, hb, _⟩
    · cases e
    · cases e; exact hb
  have hlow : Below w2.heap.size w2 w6 := h.low.grown hg h.low.size (by intro k hk; cases hk; exact hge)
  have hne' : ∀ x, At ash m x → x ≠ g' := by
    intro x hx
    rcases hat with e | e
    · rw [e]; exact h.ne x hx
    · have := h.own.row.hi hx; omega
  refine ⟨⟨hb6, hlow⟩, hb6.set2 _, ?_, ho6.other (fun x hx => ho6.row.notBox hb6 hx) _, hne', hlow.setCell h.place _, h.place⟩
  rw [List.map_append]
  exact owns_box_set hown hb6 _ _

theorem addr_plus (b o k : Nat) : (⟨b, o, none⟩ : Addr).add k = ⟨b, o + k, none⟩ := by
  unfold Addr.add
  split
  · simp
  · rfl

/-- What a statement reads that appends to the array's elements. -/
theorem holds_of {wx : World} {p b : Nat} {c d : Bool} {v1 v2 u1 u2 : Value} (h : Box wx p c v1 v2) (hb : Box wx b d u1 u2) : wx.cell? ⟨p, 2, none⟩ = some v2 ∧ wx.cell? ⟨b, 2, none⟩ = some u2 ∧ wx.frozen? ⟨p, 2, none⟩ = false := by
  obtain ⟨x0, x1, x2, x3, x4, x5, x6⟩ := h.all
  exact ⟨x2, hb.cells.2.2, by assumption⟩

theorem Gat.holds {w2 wr : World} {p g cap n b : Nat} {c d : Bool} {ash : Option Addr} {m csh : Nat} {zs l : List Int} {u1 u2 : Value} (h : Gat w2 p c ash m csh zs l n wr g cap) (hb : Box wr b d u1 u2) : wr.cell? ⟨p, 2, none⟩ = some (.slice (some ⟨g, 0, none⟩) n cap) ∧ wr.cell? ⟨b, 2, none⟩ = some u2 ∧ wr.frozen? ⟨p, 2, none⟩ = false := holds_of h.box hb

theorem Gat.grew {w2 w5 w6 : World} {p g cap n : Nat} {c : Bool} {ash : Option Addr} {m csh : Nat} {zs l : List Int} (h : Gat w2 p c ash m csh zs l n w5 g cap) (hg : w5.grownBy w6 (some g)) :
    Box w6 p c (.slice ash m csh) (.slice (some ⟨g, 0, none⟩) n cap) ∧ Below w2.heap.size w2 w6 := by
  have hge : w2.heap.size ≤ g := by
    rcases h.owns.2 with ⟨e, _⟩ | ⟨g1, _, _, e, hb, _⟩
    · cases e
    · cases e; exact hb
  exact ⟨h.box.grown0 h.owns hg, h.low.grown hg h.low.size (by intro k hk; cases hk; exact hge)⟩

/-- The cells of a piece of a row. -/
theorem sub_cells {w : World} {a : Addr} {n u m : Nat} {zs : List Int} (h : Row w (some a) n zs) (hu : u + m ≤ n) : ∀ (j : Nat) v, (((zs.drop u).take m).map (Value.int .i64))[j]? = some v → w.cell? ((a.add u).add j) = some v := by
  intro j v hj
  have hlen := h.len
  have hjm : j < m := by
    rcases Nat.lt_or_ge j m with h' | h'
    · exact h'
    · rw [List.getElem?_eq_none (by simp; omega)] at hj; cases hj
  obtain ⟨b, o, e, _, _⟩ := h.get (show 0 < n by omega)
  cases e
  have hc := cells_ints h (u + j) v (by
    rw [← hj]
    simp only [List.getElem?_map, List.getElem?_take_of_lt hjm, List.getElem?_drop])
  rw [addr_plus] at hc
  rw [addr_plus, addr_plus, Nat.add_assoc]
  exact hc

theorem sub_cells' {w : World} {a A : Addr} {n u m e : Nat} {zs : List Int} (hA : (if e = u then some a else some (a.add u)) = some A) (h : Row w (some a) n zs) (hu : u + m ≤ n) (hn : n ≤ e) : ∀ (j : Nat) v, (((zs.drop u).take m).map (Value.int .i64))[j]? = some v → w.cell? (A.add j) = some v := by
  by_cases he : e = u
  · intro j v hj
    have : m = 0 := by omega
    subst this
    simp at hj
  · rw [if_neg he] at hA
    cases hA
    exact sub_cells h hu

theorem sub_len {n u m : Nat} {zs : List Int} (h : zs.length = n) (hu : u + m ≤ n) : (((zs.drop u).take m).map (Value.int .i64)).length = m * 1 := by
  simp; omega

theorem cat_bounds {k B x y p q n : Nat} (hk : k < B) (hp : B * x = p) (hq : B * y = q) (hn : n ≤ k * (x + y)) : k * x + x ≤ p ∧ k * y + y ≤ q ∧ n + x + y ≤ p + q := by
  have h1 : (k + 1) * x ≤ B * x := Nat.mul_le_mul_right _ hk
  have h2 : (k + 1) * y ≤ B * y := Nat.mul_le_mul_right _ hk
  rw [Nat.add_mul, Nat.one_mul] at h1 h2
  rw [Nat.mul_add] at hn
  omega

theorem cat_next {k x y n : Nat} (hn : n ≤ k * (x + y)) : n + x + y ≤ (k + 1) * (x + y) := by
  rw [Nat.add_mul, Nat.one_mul]; omega

end Go.Proofs.YtgjpchnkodnieaaGreatDoor
namespace Go.Proofs.YtgjpchnkodnieaaGreatDoor
open Go.RowKit

theorem row_none {w : World} {n : Nat} {zs : List Int} (h : Row w none n zs) : n = 0 ∧ zs = [] := by
  obtain ⟨hl, _, h0 | ⟨b, off, hb, _⟩⟩ := h
  · subst h0; exact ⟨rfl, List.length_eq_zero_iff.mp hl⟩
  · cases hb

theorem run_append_nocap {P : Program} {w : World} (base : Nat) (t ty e : TypeId) (i : TypeInfo) (size : Nat) (ht : P.underlying t = some (.slice e)) (hi : P.info? e = some i)
    (v : Value) (n : Nat) (xs : List Value) (hown : w.ownsRow base e size v n xs) (c : Nat) : (Builtin.append_ #[t, t] ty #[v, .slice none 0 c]).run P w = .ok v w := by
  rcases hown.2 with ⟨rfl, rfl⟩ | ⟨g, cap, cur, rfl, _, _, hnc, _⟩
  · simp [Builtin.append_, run_underlying ht, sizeOf, typeInfo, hi, Builtin.lenOf, Builtin.firstCells]
  · simp [Builtin.append_, run_underlying ht, sizeOf, typeInfo, hi, Builtin.lenOf, Builtin.firstCells, hnc, storeCells]

theorem wpList_append_nocap {P : Program} {w : World} {ops : Array Oper} {rest : List Oper} {o : Oper} {a : Act} {Q : Exit → Act → World → Prop} (hgd : o.guard = none) (s x : Operand) (t : TypeId)
    (ho : o.op = .call { callee := .builtin .append, args := #[s, x], argTypes := #[t, t] })
    (base : Nat) (e : TypeId) (i : TypeInfo) (size : Nat) (ht : P.underlying t = some (.slice e)) (hi : P.info? e = some i)
    (v : Value) (n : Nat) (xs : List Value) (hs : a.eval s = v) (hown : w.ownsRow base e size v n xs) (k : Nat) (hk : k = 0) (c : Nat) (hx : a.eval x = .slice none k c)
    (h : wpList P ops Q rest (a.put o.dst v) w) : wpList P ops Q (o :: rest) a w := by
  subst hk
  refine wpList_plain hgd fun K hK => ?_
  have hrun := run_append_nocap (P := P) (w := w) base t o.type e i size ht hi v n xs hown c
  unfold Oper.wp
  simp [execOp, ho, resolve, invoke, builtin, hs, hx, hrun, Result.andThen]
  exact hK _ _ h

end Go.Proofs.YtgjpchnkodnieaaGreatDoor
namespace Go.Proofs.YtgjpchnkodnieaaGreatDoor
open Go.RowKit

/-- A slice that reads as zs and is nil only where it is empty. -/
def Src (w : World) (s : Option Addr) (n _c : Nat) (zs : List Int) : Prop := Row w s n zs ∧ ((∃ ad, s = some ad) ∨ (s = none ∧ n = 0))
theorem Src.below {w w' : World} {s : Option Addr} {n c B : Nat} {zs : List Int} (h : Src w s n c zs) (hB : w.heap.size ≤ B) (hb : Below B w w') : Src w' s n c zs := ⟨h.1.below hB hb, h.2⟩
theorem Src.some {w : World} {s : Addr} {n c : Nat} {zs : List Int} (h : Row w (some s) n zs) : Src w (some s) n c zs := ⟨h, .inl ⟨s, rfl⟩⟩
theorem Src.none (w : World) : Src w none 0 0 [] := ⟨row_nil _ _, .inr ⟨rfl, rfl⟩⟩
theorem Src.of {w : World} {s : Option Addr} {n c : Nat} {zs : List Int} (h : Row w s n zs) : Src w s n c zs := by
  cases s with
  | some a => exact Src.some h
  | none => exact ⟨h, .inr ⟨rfl, (row_none h).1⟩⟩

def oLw_0 : Oper := { dst := some 3, op := Op.fieldAddr 25 (Operand.tmp 1) 0, type := 0, pos := "laws.go:46", after := #[], guard := none }
def oLw_1 : Oper := { dst := some 4, op := Op.load 4 (Operand.tmp 3), type := 4, pos := "laws.go:46", after := #[{ on := 0, ground := Ground.data }], guard := none }
def oLw_2 : Oper := { dst := some 5, op := Op.buildSlice 23 0 #[], type := 23, pos := "laws.go:46", after := #[], guard := none }
def oLw_3 : Oper := { dst := some 6, op := Op.fieldAddr 25 (Operand.tmp 1) 1, type := 0, pos := "laws.go:46", after := #[], guard := none }
def oLw_4 : Oper := { dst := some 7, op := Op.load 23 (Operand.tmp 6), type := 23, pos := "laws.go:46", after := #[{ on := 3, ground := Ground.data }], guard := none }
def oLw_5 : Oper := { dst := some 8, op := Op.call { callee := Callee.builtin Builtin.append, args := #[Operand.tmp 5, Operand.tmp 7], argTypes := #[23, 23] }, type := 23, pos := "laws.go:46", after := #[{ on := 2, ground := Ground.data }, { on := 4, ground := Ground.data }], guard := none }
def oLw_6 : Oper := { dst := some 9, op := Op.buildSlice 23 0 #[], type := 23, pos := "laws.go:46", after := #[], guard := none }
def oLw_7 : Oper := { dst := some 10, op := Op.fieldAddr 25 (Operand.tmp 1) 2, type := 0, pos := "laws.go:46", after := #[], guard := none }
def oLw_8 : Oper := { dst := some 11, op := Op.load 23 (Operand.tmp 10), type := 23, pos := "laws.go:46", after := #[{ on := 7, ground := Ground.data }], guard := none }
def oLw_9 : Oper := { dst := some 12, op := Op.call { callee := Callee.builtin Builtin.append, args := #[Operand.tmp 9, Operand.tmp 11], argTypes := #[23, 23] }, type := 23, pos := "laws.go:46", after := #[{ on := 6, ground := Ground.data }, { on := 8, ground := Ground.data }, { on := 5, ground := Ground.chain }], guard := none }
def oLw_10 : Oper := { dst := some 13, op := Op.build 25 #[(0, Operand.tmp 4), (1, Operand.tmp 8), (2, Operand.tmp 12)], type := 25, pos := "laws.go:46", after := #[{ on := 1, ground := Ground.data }, { on := 5, ground := Ground.data }, { on := 9, ground := Ground.data }], guard := none }
def oLw_11 : Oper := { dst := none, op := Op.store 25 (Operand.tmp 2) (Operand.tmp 13), type := 0, pos := "laws.go:46", after := #[{ on := 10, ground := Ground.data }, { on := 9, ground := Ground.chain }, { on := 0, ground := Ground.phase }, { on := 1, ground := Ground.phase }, { on := 2, ground := Ground.phase }, { on := 3, ground := Ground.phase }, { on := 4, ground := Ground.phase }, { on := 5, ground := Ground.phase }, { on := 6, ground := Ground.phase }, { on := 7, ground := Ground.phase }, { on := 8, ground := Ground.phase }, { on := 9, ground := Ground.phase }, { on := 10, ground := Ground.phase }], guard := none }

/-- laws.lwArray's region 1. -/
def opsLw : Array Oper := #[oLw_0, oLw_1, oLw_2, oLw_3, oLw_4, oLw_5, oLw_6, oLw_7, oLw_8, oLw_9, oLw_10, oLw_11]

section
variable {P : Program} {ops : Array Oper} {Q : Exit → Act → World → Prop} {md : Region.Mode} {S : World → Prop} {st : Nat}
theorem wpAnyL_two {i j : Nat} {fuel : Nat} {listed : Array Bool} {a : Act} {w : World} (hr : Region.ready md ops listed = [i, j])
    (h : wpOp P ops Q i (fun a' w' => (i ≠ st → S w') ∧ wpAnyL P md ops Q S st fuel (listed.setIfInBounds i true) a' w') a w)
    (h' : wpOp P ops Q j (fun a' w' => (j ≠ st → S w') ∧ wpAnyL P md ops Q S st fuel (listed.setIfInBounds j true) a' w') a w) : wpAnyL P md ops Q S st (fuel + 1) listed a w :=
  ⟨fun h0 => (by rw [hr] at h0; cases h0), fun k hk => (by rw [hr] at hk; simp at hk; rcases hk with rfl | rfl <;> assumption)⟩
end

section
variable {o : Oper} {a : Act}
theorem rgS0 (ho : o.op = .buildSlice 23 0 #[]) (w : World) : (execOp a.eval o).run Tryz.prog w = .ok (.value (.slice (some ⟨w.heap.size, 0, none⟩) 0 0)) (w.alloc (.cells #[] 3)) := by
  unfold execOp
  simp only [ho]
  go_simp
theorem rgBool (x : Operand) (p : Addr) {z : Bool} (ho : o.op = .load 4 x) (hx : a.eval x = .pointer (some p)) (w : World) (hc : w.cell? p = some (.bool z)) : (execOp a.eval o).run Tryz.prog w = .ok (.value (.bool z)) w := by
  unfold execOp
  simp only [ho, hx]
  go_simp
theorem rgStruct (i j k : Nat) {z : Bool} {s1 s2 : Option Addr} {m1 d1 m2 d2 : Nat} (ho : o.op = .build 25 #[(0, .tmp i), (1, .tmp j), (2, .tmp k)]) (h0 : a.eval (.tmp i) = .bool z) (h1 : a.eval (.tmp j) = .slice s1 m1 d1) (h2 : a.eval (.tmp k) = .slice s2 m2 d2) (w : World) : (execOp a.eval o).run Tryz.prog w = .ok (.value (.agg #[.bool z, .slice s1 m1 d1, .slice s2 m2 d2])) w := by
  have h0' : a.tmps[i]?.getD undef = .bool z := by simpa [Act.eval] using h0
  have h1' : a.tmps[j]?.getD undef = .slice s1 m1 d1 := by simpa [Act.eval] using h1
  have h2' : a.tmps[k]?.getD undef = .slice s2 m2 d2 := by simpa [Act.eval] using h2
  unfold execOp
  simp only [ho]
  go_simp
theorem rgStoreA (x y : Operand) (p : Nat) {c c' : Bool} {u1 u2 : Value} {s1 s2 : Option Addr} {m1 d1 m2 d2 : Nat} (ho : o.op = .store 25 x y) (hx : a.eval x = .pointer (some ⟨p, 0, none⟩)) (hy : a.eval y = .agg #[.bool c', .slice s1 m1 d1, .slice s2 m2 d2]) (w : World) (hb : Box w p c u1 u2) : (execOp a.eval o).run Tryz.prog w = .ok .skip (((w.setCell ⟨p, 0, none⟩ (.bool c')).setCell ⟨p, 1, none⟩ (.slice s1 m1 d1)).setCell ⟨p, 2, none⟩ (.slice s2 m2 d2)) := by
  obtain ⟨y0, y1, y2, y3, y4, y5, y6⟩ := hb.all
  unfold execOp
  simp only [ho, hx, hy]
  go_simp
end

theorem row_news {w : World} {s : Addr} {n : Nat} {zs : List Int} (h : Row w (some s) n zs) : ∀ (j : Nat) u, (zs.map (Value.int .i64))[j]? = some u → w.cell? (s.add j) = some u := by
  intro j u hj
  have hl := h.len
  have hjn : j < n := by
    rcases Nat.lt_or_ge j n with h' | h'
    · exact h'
    · rw [List.getElem?_eq_none (by rw [List.length_map]; omega)] at hj
      cases hj
  obtain ⟨b, o, hab, _, hc⟩ := h.get hjn
  cases hab
  have hadd : (⟨b, o, none⟩ : Addr).add j = ⟨b, o + j, none⟩ := by unfold Addr.add; split <;> simp_all
  rw [hadd, hc]
  have hjz : j < zs.length := by omega
  simp [List.getElem?_eq_getElem hjz] at hj
  simp [List.getD, List.getElem?_eq_getElem hjz, hj]

theorem ints_one (zs : List Int) : ∀ u ∈ zs.map (Value.int .i64), u.oneCell' = true := by
  intro u hu
  obtain ⟨x, _, rfl⟩ := List.mem_map.1 hu
  rfl

theorem put_defers {a : Act} {d : Nat} {v : Value} : (a.put (some d) v).defers = a.defers := rfl

theorem wp_append_src {P : Program} (w : World) {o : Oper} {a : Act} {K : Act → World → Prop} {Q : Exit → Act → World → Prop} (s x : Operand) (t : TypeId)
    (ho : o.op = .call { callee := .builtin .append, args := #[s, x], argTypes := #[t, t] })
    (base : Nat) (e : TypeId) (i : TypeInfo) (ht : P.underlying t = some (.slice e)) (hi : P.info? e = some i) (hz : i.zero = some (.int .i64 0))
    (hsize : i.size = 1) (hby : i.bytes = 8)
    (g0 : Nat) (hs : a.eval s = .slice (some ⟨g0, 0, none⟩) 0 0) (hown : w.ownsRow base e 1 (.slice (some ⟨g0, 0, none⟩) 0 0) 0 [])
    (ad : Option Addr) (m c : Nat) (zs : List Int) (hx : a.eval x = .slice ad m c) (hsrc : Src w ad m c zs) (hm : m ≤ 20000) (hbase : base ≤ w.heap.size)
    (h : ∀ g cap w', w'.ownsRow base e 1 (.slice (some ⟨g, 0, none⟩) m cap) m (zs.map (Value.int .i64)) → w.grownBy w' (some g0) → (g = g0 ∨ g = w.heap.size) → K (a.put o.dst (.slice (some ⟨g, 0, none⟩) m cap)) w') : o.wp P a w K Q := by
  obtain ⟨hrow, hk⟩ := hsrc
  have hlen := hrow.len
  rcases hk with ⟨ad, rfl⟩ | ⟨rfl, rfl⟩
  · refine wp_append_some w s x t ho base e i (.int .i64 0) 1 8 ht hi hz hsize hby rfl (by decide) g0 0 0 [] hs hown ad m c (zs.map (Value.int .i64)) hx (by simp [hlen]) (row_news hrow) (ints_one _) (by unfold maxLen; omega) (by omega) hbase ?_
    intro g d w' ho' hg hat
    rw [Nat.zero_add] at ho' ⊢
    exact h g d w' (by simpa using ho') hg hat
  · have hrun := run_append_nocap (P := P) (w := w) base t o.type e i 1 ht hi _ 0 [] hown c
    obtain rfl : zs = [] := List.length_eq_zero_iff.1 hlen
    unfold Oper.wp execOp
    simp only [ho, resolve, invoke, builtin, Sem.run_bind, Sem.run_pure, Result.andThen_ok, List.map_toArray, List.map_cons, List.map_nil, hs, hx, hrun]
    exact h g0 0 w hown ⟨rfl, rfl, rfl, Nat.le_refl _, fun _ _ _ => rfl⟩ (.inl rfl)

/-- How far the two copies have come: 0 not begun, 1 an empty row lies, 2 copied. -/
structure LwS (W : World) (p q : Nat) (c : Bool) (s1 s2 : Option Addr) (n1 n2 c1 c2 : Nat) (sh dt : List Int) (A B gA gB dA dB : Nat) (a : Act) (wx : World) : Prop where
  low : Below W.heap.size W wx
  size : 14 ≤ a.tmps.size
  df : a.defers = []
  e2 : a.eval (.tmp 2) = .pointer (some ⟨q, 0, none⟩)
  e4 : a.eval (.tmp 4) = .bool c
  e7 : a.eval (.tmp 7) = .slice s1 n1 c1
  e11 : a.eval (.tmp 11) = .slice s2 n2 c2
  a1 : A = 1 → a.eval (.tmp 5) = .slice (some ⟨gA, 0, none⟩) 0 0 ∧ wx.ownsRow W.heap.size 3 1 (.slice (some ⟨gA, 0, none⟩) 0 0) 0 []
  a2 : A = 2 → a.eval (.tmp 8) = .slice (some ⟨gA, 0, none⟩) n1 dA ∧ wx.ownsRow W.heap.size 3 1 (.slice (some ⟨gA, 0, none⟩) n1 dA) n1 (sh.map (Value.int .i64))
  b1 : B = 1 → a.eval (.tmp 9) = .slice (some ⟨gB, 0, none⟩) 0 0 ∧ wx.ownsRow W.heap.size 3 1 (.slice (some ⟨gB, 0, none⟩) 0 0) 0 []
  b2 : B = 2 → a.eval (.tmp 12) = .slice (some ⟨gB, 0, none⟩) n2 dB ∧ wx.ownsRow W.heap.size 3 1 (.slice (some ⟨gB, 0, none⟩) n2 dB) n2 (dt.map (Value.int .i64))
  la : A ≠ 0 → gA < wx.heap.size
  lb : B ≠ 0 → gB < wx.heap.size
  ne : A ≠ 0 → B ≠ 0 → gA ≠ gB

section
variable {W wx w' : World} {p q n1 n2 c1 c2 A B gA gB dA dB g d : Nat} {c : Bool} {s1 s2 : Option Addr} {sh dt : List Int} {a : Act}
theorem lw_owns {v : Value} {n : Nat} {xs : List Value} (h : wx.ownsRow W.heap.size 3 1 v n xs) : (wx.alloc (.cells #[] 3)).ownsRow W.heap.size 3 1 v n xs := h.alloc _
theorem lw_grown {n cap k : Nat} {xs : List Value} (h : wx.ownsRow W.heap.size 3 1 (.slice (some ⟨k, 0, none⟩) n cap) n xs) (hg : wx.grownBy w' (some g)) (hk : k ≠ g) : w'.ownsRow W.heap.size 3 1 (.slice (some ⟨k, 0, none⟩) n cap) n xs := by
  refine ⟨h.1, ?_⟩
  rcases h.2 with ⟨e, _⟩ | ⟨g', cap', cur, e, hge, hh, hr⟩
  · cases e
  · cases e
    exact .inr ⟨_, _, cur, rfl, hge, (hg.block _ (lt_of_block hh) (fun e => hk (by simpa using e))).trans hh, hr⟩
theorem lw_low (h : Below W.heap.size W wx) (hg : wx.grownBy w' (some g)) (hge : W.heap.size ≤ g) : Below W.heap.size W w' :=
  ⟨hg.os.trans h.os, hg.tape.trans h.tape, hg.output.trans h.output, Nat.le_trans h.size hg.size, fun k hk => (hg.block k (by have := h.size; omega) (fun e => by have := (Option.some.inj e : k = g); omega)).trans (h.block k hk)⟩
theorem lw_from {n cap k : Nat} {xs : List Value} (h : wx.ownsRow W.heap.size 3 1 (.slice (some ⟨k, 0, none⟩) n cap) n xs) : W.heap.size ≤ k := by
  rcases h.2 with ⟨e, _⟩ | ⟨g', cap', cur, e, hge, hh, hr⟩
  · cases e
  · cases e; exact hge
theorem lw_lt {n cap k : Nat} {xs : List Value} (h : wx.ownsRow W.heap.size 3 1 (.slice (some ⟨k, 0, none⟩) n cap) n xs) : k < wx.heap.size := by
  rcases h.2 with ⟨e, _⟩ | ⟨g', cap', cur, e, hge, hh, hr⟩
  · cases e
  · cases e; exact lt_of_block hh

theorem LwS.buildA (h : LwS W p q c s1 s2 n1 n2 c1 c2 sh dt 0 B gA gB dA dB a wx) : LwS W p q c s1 s2 n1 n2 c1 c2 sh dt 1 B wx.heap.size gB dA dB (a.put (some 5) (.slice (some ⟨wx.heap.size, 0, none⟩) 0 0)) (wx.alloc (.cells #[] 3)) :=
  ⟨h.low.alloc h.low.size _, by rw [put_size]; exact h.size, by rw [put_defers]; exact h.df, by rw [eval_ne (by decide)]; exact h.e2, by rw [eval_ne (by decide)]; exact h.e4, by rw [eval_ne (by decide)]; exact h.e7, by rw [eval_ne (by decide)]; exact h.e11,
    fun _ => ⟨eval_eq (by have := h.size; omega), (Blk.new wx).owns h.low.size⟩, fun e => by omega,
    fun e => ⟨by rw [eval_ne (by decide)]; exact (h.b1 e).1, lw_owns (h.b1 e).2⟩, fun e => ⟨by rw [eval_ne (by decide)]; exact (h.b2 e).1, lw_owns (h.b2 e).2⟩,
    fun _ => by simp, fun e => by have := h.lb e; simp; omega, fun _ e => by have := h.lb e; omega⟩
theorem LwS.buildB (h : LwS W p q c s1 s2 n1 n2 c1 c2 sh dt A 0 gA gB dA dB a wx) : LwS W p q c s1 s2 n1 n2 c1 c2 sh dt A 1 gA wx.heap.size dA dB (a.put (some 9) (.slice (some ⟨wx.heap.size, 0, none⟩) 0 0)) (wx.alloc (.cells #[] 3)) :=
  ⟨h.low.alloc h.low.size _, by rw [put_size]; exact h.size, by rw [put_defers]; exact h.df, by rw [eval_ne (by decide)]; exact h.e2, by rw [eval_ne (by decide)]; exact h.e4, by rw [eval_ne (by decide)]; exact h.e7, by rw [eval_ne (by decide)]; exact h.e11,
    fun e => ⟨by rw [eval_ne (by decide)]; exact (h.a1 e).1, lw_owns (h.a1 e).2⟩, fun e => ⟨by rw [eval_ne (by decide)]; exact (h.a2 e).1, lw_owns (h.a2 e).2⟩,
    fun _ => ⟨eval_eq (by have := h.size; omega), (Blk.new wx).owns h.low.size⟩, fun e => by omega,
    fun e => by have := h.la e; simp; omega, fun _ => by simp, fun e _ => by have := h.la e; omega⟩
theorem LwS.appA (h : LwS W p q c s1 s2 n1 n2 c1 c2 sh dt 1 B gA gB dA dB a wx) (ho : w'.ownsRow W.heap.size 3 1 (.slice (some ⟨g, 0, none⟩) n1 d) n1 (sh.map (Value.int .i64))) (hg : wx.grownBy w' (some gA)) (hat : g = gA ∨ g = wx.heap.size) : LwS W p q c s1 s2 n1 n2 c1 c2 sh dt 2 B g gB d dB (a.put (some 8) (.slice (some ⟨g, 0, none⟩) n1 d)) w' :=
  ⟨lw_low h.low hg (lw_from (h.a1 rfl).2), by rw [put_size]; exact h.size, by rw [put_defers]; exact h.df, by rw [eval_ne (by decide)]; exact h.e2, by rw [eval_ne (by decide)]; exact h.e4, by rw [eval_ne (by decide)]; exact h.e7, by rw [eval_ne (by decide)]; exact h.e11,
    fun e => by omega, fun _ => ⟨eval_eq (by have := h.size; omega), ho⟩,
    fun e => ⟨by rw [eval_ne (by decide)]; exact (h.b1 e).1, lw_grown (h.b1 e).2 hg (h.ne (by omega) (by omega)).symm⟩, fun e => ⟨by rw [eval_ne (by decide)]; exact (h.b2 e).1, lw_grown (h.b2 e).2 hg (h.ne (by omega) (by omega)).symm⟩,
    fun _ => lw_lt ho, fun e => Nat.lt_of_lt_of_le (h.lb e) hg.size, fun _ e => by have h1 := h.lb e; have h2 := h.ne (by omega) e; rcases hat with rfl | rfl <;> omega⟩
theorem LwS.appB (h : LwS W p q c s1 s2 n1 n2 c1 c2 sh dt A 1 gA gB dA dB a wx) (ho : w'.ownsRow W.heap.size 3 1 (.slice (some ⟨g, 0, none⟩) n2 d) n2 (dt.map (Value.int .i64))) (hg : wx.grownBy w' (some gB)) (hat : g = gB ∨ g = wx.heap.size) : LwS W p q c s1 s2 n1 n2 c1 c2 sh dt A 2 gA g dA d (a.put (some 12) (.slice (some ⟨g, 0, none⟩) n2 d)) w' :=
  ⟨lw_low h.low hg (lw_from (h.b1 rfl).2), by rw [put_size]; exact h.size, by rw [put_defers]; exact h.df, by rw [eval_ne (by decide)]; exact h.e2, by rw [eval_ne (by decide)]; exact h.e4, by rw [eval_ne (by decide)]; exact h.e7, by rw [eval_ne (by decide)]; exact h.e11,
    fun e => ⟨by rw [eval_ne (by decide)]; exact (h.a1 e).1, lw_grown (h.a1 e).2 hg (h.ne (by omega) (by omega))⟩, fun e => ⟨by rw [eval_ne (by decide)]; exact (h.a2 e).1, lw_grown (h.a2 e).2 hg (h.ne (by omega) (by omega))⟩,
    fun e => by omega, fun _ => ⟨eval_eq (by have := h.size; omega), ho⟩,
    fun e => Nat.lt_of_lt_of_le (h.la e) hg.size, fun _ => lw_lt ho, fun e _ => by have h1 := h.la e; have h2 := h.ne e (by omega); rcases hat with rfl | rfl <;> omega⟩
end

section
variable {Q : Exit → Act → World → Prop} (W : World) (p q : Nat) (c : Bool) (s1 s2 : Option Addr) (n1 n2 c1 c2 : Nat) (sh dt : List Int)
theorem lw_22 (u1 u2 : Value) (hq : Box W q false u1 u2) (hend : ∀ a g1 g2 d1 d2 wx, LwS W p q c s1 s2 n1 n2 c1 c2 sh dt 2 2 g1 g2 d1 d2 a wx → Q .normal (a.put (some 13) (.agg #[.bool c, .slice (some ⟨g1, 0, none⟩) n1 d1, .slice (some ⟨g2, 0, none⟩) n2 d2])) (((wx.setCell ⟨q, 0, none⟩ (.bool c)).setCell ⟨q, 1, none⟩ (.slice (some ⟨g1, 0, none⟩) n1 d1)).setCell ⟨q, 2, none⟩ (.slice (some ⟨g2, 0, none⟩) n2 d2))) (a : Act) (gA gB dA dB : Nat) (wx : World) (h : LwS W p q c s1 s2 n1 n2 c1 c2 sh dt 2 2 gA gB dA dB a wx) : wpAnyL Tryz.prog .any opsLw Q (fun wx => Below W.heap.size W wx) 11 2 #[true, true, true, true, true, true, true, true, true, true, false, false] a wx := by
  refine wpAnyL_one (i := 10) (by kernel_rfl) ?_
  refine op_wp (o := oLw_10) rfl (wanted_free rfl) ?_
  unfold Oper.wp
  rw [rgStruct (o := oLw_10) 4 8 12 rfl h.e4 (h.a2 rfl).1 (h.b2 rfl).1 wx]
  refine ⟨fun _ => h.low, ?_⟩
  show wpAnyL _ _ _ _ _ _ (0 + 1) _ (Act.put _ (some 13) _) _
  refine wpAnyL_one (i := 11) (by kernel_rfl) ?_
  refine op_wp (o := oLw_11) rfl (wanted_free rfl) ?_
  unfold Oper.wp
  rw [rgStoreA (o := oLw_11) (.tmp 2) (.tmp 13) q (c' := c) (s1 := some ⟨gA, 0, none⟩) (s2 := some ⟨gB, 0, none⟩) (m1 := n1) (d1 := dA) (m2 := n2) (d2 := dB) rfl (by rw [eval_ne (by decide)]; exact h.e2) (eval_eq (by have := h.size; omega)) wx (hq.below (Nat.le_refl _) h.low)]
  refine ⟨fun h => absurd rfl h, ?_⟩
  refine wpAnyL_done (by kernel_rfl) ?_ _
  rw [show oLw_11.dst = none from rfl, put_nothing]
  exact hend a gA gB dA dB wx h

theorem lw_21 (r2 : Src W s2 n2 c2 dt) (h2 : n2 ≤ 20000) (u1 u2 : Value) (hq : Box W q false u1 u2) (hend : ∀ a g1 g2 d1 d2 wx, LwS W p q c s1 s2 n1 n2 c1 c2 sh dt 2 2 g1 g2 d1 d2 a wx → Q .normal (a.put (some 13) (.agg #[.bool c, .slice (some ⟨g1, 0, none⟩) n1 d1, .slice (some ⟨g2, 0, none⟩) n2 d2])) (((wx.setCell ⟨q, 0, none⟩ (.bool c)).setCell ⟨q, 1, none⟩ (.slice (some ⟨g1, 0, none⟩) n1 d1)).setCell ⟨q, 2, none⟩ (.slice (some ⟨g2, 0, none⟩) n2 d2))) (a : Act) (gA gB dA dB : Nat) (wx : World) (h : LwS W p q c s1 s2 n1 n2 c1 c2 sh dt 2 1 gA gB dA dB a wx) : wpAnyL Tryz.prog .any opsLw Q (fun wx => Below W.heap.size W wx) 11 3 #[true, true, true, true, true, true, true, true, true, false, false, false] a wx := by
  obtain ⟨i0, hi, hz0, hz1, hz2⟩ := info_parts info_int
  refine wpAnyL_one (i := 9) (by kernel_rfl) ?_
  ·
    have hL : (#[true, true, true, true, true, true, true, true, true, false, false, false] : Array Bool).setIfInBounds 9 true = #[true, true, true, true, true, true, true, true, true, true, false, false] := by kernel_rfl
    refine op_wp (o := oLw_9) rfl (wanted_free rfl) ?_
    have hrow := r2.below (Nat.le_refl _) h.low
    refine wp_append_src wx (.tmp 9) (.tmp 11) 23 rfl W.heap.size 3 i0 Tryz.underlying23 hi hz0 hz1 hz2 gB (h.b1 rfl).1 (h.b1 rfl).2 s2 n2 c2 dt h.e11 hrow (by omega) h.low.size ?_
    intro g d w' ho hg hat
    have h' := h.appB ho hg hat
    refine ⟨fun _ => h'.low, ?_⟩
    rw [hL]
    exact lw_22 W p q c s1 s2 n1 n2 c1 c2 sh dt u1 u2 hq hend _ _ _ _ _ _ h'

theorem lw_20 (r2 : Src W s2 n2 c2 dt) (h2 : n2 ≤ 20000) (u1 u2 : Value) (hq : Box W q false u1 u2) (hend : ∀ a g1 g2 d1 d2 wx, LwS W p q c s1 s2 n1 n2 c1 c2 sh dt 2 2 g1 g2 d1 d2 a wx → Q .normal (a.put (some 13) (.agg #[.bool c, .slice (some ⟨g1, 0, none⟩) n1 d1, .slice (some ⟨g2, 0, none⟩) n2 d2])) (((wx.setCell ⟨q, 0, none⟩ (.bool c)).setCell ⟨q, 1, none⟩ (.slice (some ⟨g1, 0, none⟩) n1 d1)).setCell ⟨q, 2, none⟩ (.slice (some ⟨g2, 0, none⟩) n2 d2))) (a : Act) (gA gB dA dB : Nat) (wx : World) (h : LwS W p q c s1 s2 n1 n2 c1 c2 sh dt 2 0 gA gB dA dB a wx) : wpAnyL Tryz.prog .any opsLw Q (fun wx => Below W.heap.size W wx) 11 4 #[true, true, true, true, true, true, false, true, true, false, false, false] a wx := by
  obtain ⟨i0, hi, hz0, hz1, hz2⟩ := info_parts info_int
  refine wpAnyL_one (i := 6) (by kernel_rfl) ?_
  ·
    have hL : (#[true, true, true, true, true, true, false, true, true, false, false, false] : Array Bool).setIfInBounds 6 true = #[true, true, true, true, true, true, true, true, true, false, false, false] := by kernel_rfl
    refine op_wp (o := oLw_6) rfl (wanted_free rfl) ?_
    unfold Oper.wp
    rw [rgS0 (o := oLw_6) rfl wx]
    refine ⟨fun _ => h.buildB.low, ?_⟩
    rw [hL]
    exact lw_21 W p q c s1 s2 n1 n2 c1 c2 sh dt r2 h2 u1 u2 hq hend _ _ _ _ _ _ h.buildB

theorem lw_11 (r1 : Src W s1 n1 c1 sh) (r2 : Src W s2 n2 c2 dt) (h1 : n1 ≤ 20000) (h2 : n2 ≤ 20000) (u1 u2 : Value) (hq : Box W q false u1 u2) (hend : ∀ a g1 g2 d1 d2 wx, LwS W p q c s1 s2 n1 n2 c1 c2 sh dt 2 2 g1 g2 d1 d2 a wx → Q .normal (a.put (some 13) (.agg #[.bool c, .slice (some ⟨g1, 0, none⟩) n1 d1, .slice (some ⟨g2, 0, none⟩) n2 d2])) (((wx.setCell ⟨q, 0, none⟩ (.bool c)).setCell ⟨q, 1, none⟩ (.slice (some ⟨g1, 0, none⟩) n1 d1)).setCell ⟨q, 2, none⟩ (.slice (some ⟨g2, 0, none⟩) n2 d2))) (a : Act) (gA gB dA dB : Nat) (wx : World) (h : LwS W p q c s1 s2 n1 n2 c1 c2 sh dt 1 1 gA gB dA dB a wx) : wpAnyL Tryz.prog .any opsLw Q (fun wx => Below W.heap.size W wx) 11 4 #[true, true, true, true, true, false, true, true, true, false, false, false] a wx := by
  obtain ⟨i0, hi, hz0, hz1, hz2⟩ := info_parts info_int
  refine wpAnyL_one (i := 5) (by kernel_rfl) ?_
  ·
    have hL : (#[true, true, true, true, true, false, true, true, true, false, false, false] : Array Bool).setIfInBounds 5 true = #[true, true, true, true, true, true, true, true, true, false, false, false] := by kernel_rfl
    refine op_wp (o := oLw_5) rfl (wanted_free rfl) ?_
    have hrow := r1.below (Nat.le_refl _) h.low
    refine wp_append_src wx (.tmp 5) (.tmp 7) 23 rfl W.heap.size 3 i0 Tryz.underlying23 hi hz0 hz1 hz2 gA (h.a1 rfl).1 (h.a1 rfl).2 s1 n1 c1 sh h.e7 hrow (by omega) h.low.size ?_
    intro g d w' ho hg hat
    have h' := h.appA ho hg hat
    refine ⟨fun _ => h'.low, ?_⟩
    rw [hL]
    exact lw_21 W p q c s1 s2 n1 n2 c1 c2 sh dt r2 h2 u1 u2 hq hend _ _ _ _ _ _ h'

theorem lw_10 (r1 : Src W s1 n1 c1 sh) (r2 : Src W s2 n2 c2 dt) (h1 : n1 ≤ 20000) (h2 : n2 ≤ 20000) (u1 u2 : Value) (hq : Box W q false u1 u2) (hend : ∀ a g1 g2 d1 d2 wx, LwS W p q c s1 s2 n1 n2 c1 c2 sh dt 2 2 g1 g2 d1 d2 a wx → Q .normal (a.put (some 13) (.agg #[.bool c, .slice (some ⟨g1, 0, none⟩) n1 d1, .slice (some ⟨g2, 0, none⟩) n2 d2])) (((wx.setCell ⟨q, 0, none⟩ (.bool c)).setCell ⟨q, 1, none⟩ (.slice (some ⟨g1, 0, none⟩) n1 d1)).setCell ⟨q, 2, none⟩ (.slice (some ⟨g2, 0, none⟩) n2 d2))) (a : Act) (gA gB dA dB : Nat) (wx : World) (h : LwS W p q c s1 s2 n1 n2 c1 c2 sh dt 1 0 gA gB dA dB a wx) : wpAnyL Tryz.prog .any opsLw Q (fun wx => Below W.heap.size W wx) 11 5 #[true, true, true, true, true, false, false, true, true, false, false, false] a wx := by
  obtain ⟨i0, hi, hz0, hz1, hz2⟩ := info_parts info_int
  refine wpAnyL_two (i := 5) (j := 6) (by kernel_rfl) ?_ ?_
  ·
    have hL : (#[true, true, true, true, true, false, false, true, true, false, false, false] : Array Bool).setIfInBounds 5 true = #[true, true, true, true, true, true, false, true, true, false, false, false] := by kernel_rfl
    refine op_wp (o := oLw_5) rfl (wanted_free rfl) ?_
    have hrow := r1.below (Nat.le_refl _) h.low
    refine wp_append_src wx (.tmp 5) (.tmp 7) 23 rfl W.heap.size 3 i0 Tryz.underlying23 hi hz0 hz1 hz2 gA (h.a1 rfl).1 (h.a1 rfl).2 s1 n1 c1 sh h.e7 hrow (by omega) h.low.size ?_
    intro g d w' ho hg hat
    have h' := h.appA ho hg hat
    refine ⟨fun _ => h'.low, ?_⟩
    rw [hL]
    exact lw_20 W p q c s1 s2 n1 n2 c1 c2 sh dt r2 h2 u1 u2 hq hend _ _ _ _ _ _ h'
  ·
    have hL : (#[true, true, true, true, true, false, false, true, true, false, false, false] : Array Bool).setIfInBounds 6 true = #[true, true, true, true, true, false, true, true, true, false, false, false] := by kernel_rfl
    refine op_wp (o := oLw_6) rfl (wanted_free rfl) ?_
    unfold Oper.wp
    rw [rgS0 (o := oLw_6) rfl wx]
    refine ⟨fun _ => h.buildB.low, ?_⟩
    rw [hL]
    exact lw_11 W p q c s1 s2 n1 n2 c1 c2 sh dt r1 r2 h1 h2 u1 u2 hq hend _ _ _ _ _ _ h.buildB

theorem lw_01 (r1 : Src W s1 n1 c1 sh) (r2 : Src W s2 n2 c2 dt) (h1 : n1 ≤ 20000) (h2 : n2 ≤ 20000) (u1 u2 : Value) (hq : Box W q false u1 u2) (hend : ∀ a g1 g2 d1 d2 wx, LwS W p q c s1 s2 n1 n2 c1 c2 sh dt 2 2 g1 g2 d1 d2 a wx → Q .normal (a.put (some 13) (.agg #[.bool c, .slice (some ⟨g1, 0, none⟩) n1 d1, .slice (some ⟨g2, 0, none⟩) n2 d2])) (((wx.setCell ⟨q, 0, none⟩ (.bool c)).setCell ⟨q, 1, none⟩ (.slice (some ⟨g1, 0, none⟩) n1 d1)).setCell ⟨q, 2, none⟩ (.slice (some ⟨g2, 0, none⟩) n2 d2))) (a : Act) (gA gB dA dB : Nat) (wx : World) (h : LwS W p q c s1 s2 n1 n2 c1 c2 sh dt 0 1 gA gB dA dB a wx) : wpAnyL Tryz.prog .any opsLw Q (fun wx => Below W.heap.size W wx) 11 5 #[true, true, false, true, true, false, true, true, true, false, false, false] a wx := by
  obtain ⟨i0, hi, hz0, hz1, hz2⟩ := info_parts info_int
  refine wpAnyL_one (i := 2) (by kernel_rfl) ?_
  ·
    have hL : (#[true, true, false, true, true, false, true, true, true, false, false, false] : Array Bool).setIfInBounds 2 true = #[true, true, true, true, true, false, true, true, true, false, false, false] := by kernel_rfl
    refine op_wp (o := oLw_2) rfl (wanted_free rfl) ?_
    unfold Oper.wp
    rw [rgS0 (o := oLw_2) rfl wx]
    refine ⟨fun _ => h.buildA.low, ?_⟩
    rw [hL]
    exact lw_11 W p q c s1 s2 n1 n2 c1 c2 sh dt r1 r2 h1 h2 u1 u2 hq hend _ _ _ _ _ _ h.buildA

theorem lw_00 (r1 : Src W s1 n1 c1 sh) (r2 : Src W s2 n2 c2 dt) (h1 : n1 ≤ 20000) (h2 : n2 ≤ 20000) (u1 u2 : Value) (hq : Box W q false u1 u2) (hend : ∀ a g1 g2 d1 d2 wx, LwS W p q c s1 s2 n1 n2 c1 c2 sh dt 2 2 g1 g2 d1 d2 a wx → Q .normal (a.put (some 13) (.agg #[.bool c, .slice (some ⟨g1, 0, none⟩) n1 d1, .slice (some ⟨g2, 0, none⟩) n2 d2])) (((wx.setCell ⟨q, 0, none⟩ (.bool c)).setCell ⟨q, 1, none⟩ (.slice (some ⟨g1, 0, none⟩) n1 d1)).setCell ⟨q, 2, none⟩ (.slice (some ⟨g2, 0, none⟩) n2 d2))) (a : Act) (gA gB dA dB : Nat) (wx : World) (h : LwS W p q c s1 s2 n1 n2 c1 c2 sh dt 0 0 gA gB dA dB a wx) : wpAnyL Tryz.prog .any opsLw Q (fun wx => Below W.heap.size W wx) 11 6 #[true, true, false, true, true, false, false, true, true, false, false, false] a wx := by
  obtain ⟨i0, hi, hz0, hz1, hz2⟩ := info_parts info_int
  refine wpAnyL_two (i := 2) (j := 6) (by kernel_rfl) ?_ ?_
  ·
    have hL : (#[true, true, false, true, true, false, false, true, true, false, false, false] : Array Bool).setIfInBounds 2 true = #[true, true, true, true, true, false, false, true, true, false, false, false] := by kernel_rfl
    refine op_wp (o := oLw_2) rfl (wanted_free rfl) ?_
    unfold Oper.wp
    rw [rgS0 (o := oLw_2) rfl wx]
    refine ⟨fun _ => h.buildA.low, ?_⟩
    rw [hL]
    exact lw_10 W p q c s1 s2 n1 n2 c1 c2 sh dt r1 r2 h1 h2 u1 u2 hq hend _ _ _ _ _ _ h.buildA
  ·
    have hL : (#[true, true, false, true, true, false, false, true, true, false, false, false] : Array Bool).setIfInBounds 6 true = #[true, true, false, true, true, false, true, true, true, false, false, false] := by kernel_rfl
    refine op_wp (o := oLw_6) rfl (wanted_free rfl) ?_
    unfold Oper.wp
    rw [rgS0 (o := oLw_6) rfl wx]
    refine ⟨fun _ => h.buildB.low, ?_⟩
    rw [hL]
    exact lw_01 W p q c s1 s2 n1 n2 c1 c2 sh dt r1 r2 h1 h2 u1 u2 hq hend _ _ _ _ _ _ h.buildB

theorem regionLw (r1 : Src W s1 n1 c1 sh) (r2 : Src W s2 n2 c2 dt) (h1 : n1 ≤ 20000) (h2 : n2 ≤ 20000) (u1 u2 : Value) (hq : Box W q false u1 u2) (hend : ∀ a g1 g2 d1 d2 wx, LwS W p q c s1 s2 n1 n2 c1 c2 sh dt 2 2 g1 g2 d1 d2 a wx → Q .normal (a.put (some 13) (.agg #[.bool c, .slice (some ⟨g1, 0, none⟩) n1 d1, .slice (some ⟨g2, 0, none⟩) n2 d2])) (((wx.setCell ⟨q, 0, none⟩ (.bool c)).setCell ⟨q, 1, none⟩ (.slice (some ⟨g1, 0, none⟩) n1 d1)).setCell ⟨q, 2, none⟩ (.slice (some ⟨g2, 0, none⟩) n2 d2))) (a : Act) (hsz : 14 ≤ a.tmps.size) (hdf : a.defers = []) (h1p : a.eval (.tmp 1) = .pointer (some ⟨p, 0, none⟩)) (h2q : a.eval (.tmp 2) = .pointer (some ⟨q, 0, none⟩)) (hp : Box W p c (.slice s1 n1 c1) (.slice s2 n2 c2)) (hQ : ∀ c a (d : Nat) v w, Q (.panic c) (a.put (some d) v) w → Q (.panic c) a w) :
    (Code.region 1 opsLw true).wp Tryz.prog Q a W := by
  have hb0 : Below W.heap.size W W.drew := (Below.refl _ _).drew
  have hS0 : (fun wx => Below W.heap.size W wx) W.drew := hb0
  have hS : ∀ w, Below W.heap.size W w → _ := fun w hw => (hp.below (Nat.le_refl _) hw).cells
  refine wp_region_L (fun wx => Below W.heap.size W wx) 11 (by kernel_rfl) ?_
  show wpAnyL _ _ _ _ _ _ (11 + 1) _ _ W.drew
  refine wpAnyL_put 0 3 (.pointer (some ⟨p, 0, none⟩)) (oi := oLw_0) rfl rfl (by kernel_rfl) (by kernel_rfl) (by kernel_rfl) (by kernel_rfl) hQ (wanted_free rfl) (fun w hw => rgF0 (.tmp 1) p rfl h1p w) hS0 ?_
  refine wpAnyL_put 1 4 (.bool c) (oi := oLw_1) rfl rfl (by kernel_rfl) (by kernel_rfl) (by kernel_rfl) (by kernel_rfl) hQ (wanted_free rfl) (fun w hw => rgBool (.tmp 3) _ rfl (eval_eq (by omega)) w (hS w hw).1) hS0 ?_
  refine wpAnyL_put 3 6 (.pointer (some ⟨p, 1, none⟩)) (oi := oLw_3) rfl rfl (by kernel_rfl) (by kernel_rfl) (by kernel_rfl) (by kernel_rfl) hQ (wanted_free rfl) (fun w hw => rgF1 (.tmp 1) p rfl (by rw [eval_ne (by decide), eval_ne (by decide)]; exact h1p) w) hS0 ?_
  refine wpAnyL_put 4 7 (.slice s1 n1 c1) (oi := oLw_4) rfl rfl (by kernel_rfl) (by kernel_rfl) (by kernel_rfl) (by kernel_rfl) hQ (wanted_free rfl) (fun w hw => rgL (.tmp 6) _ rfl (eval_eq (by rw [put_size, put_size]; omega)) w (hS w hw).2.1) hS0 ?_
  refine wpAnyL_put 7 10 (.pointer (some ⟨p, 2, none⟩)) (oi := oLw_7) rfl rfl (by kernel_rfl) (by kernel_rfl) (by kernel_rfl) (by kernel_rfl) hQ (wanted_free rfl) (fun w hw => rgF2 (.tmp 1) p rfl (by rw [eval_ne (by decide), eval_ne (by decide), eval_ne (by decide), eval_ne (by decide)]; exact h1p) w) hS0 ?_
  refine wpAnyL_put 8 11 (.slice s2 n2 c2) (oi := oLw_8) rfl rfl (by kernel_rfl) (by kernel_rfl) (by kernel_rfl) (by kernel_rfl) hQ (wanted_free rfl) (fun w hw => rgL (.tmp 10) _ rfl (eval_eq (by rw [put_size, put_size, put_size, put_size]; omega)) w (hS w hw).2.2) hS0 ?_
  have hL : ((((((Array.replicate opsLw.size false).setIfInBounds 0 true).setIfInBounds 1 true).setIfInBounds 3 true).setIfInBounds 4 true).setIfInBounds 7 true).setIfInBounds 8 true = #[true, true, false, true, true, false, false, true, true, false, false, false] := by kernel_rfl
  rw [hL]
  refine lw_00 W p q c s1 s2 n1 n2 c1 c2 sh dt r1 r2 h1 h2 u1 u2 hq hend _ 0 0 0 0 _ ⟨hb0, by rw [put_size, put_size, put_size, put_size, put_size, put_size]; exact hsz, by rw [put_defers, put_defers, put_defers, put_defers, put_defers, put_defers]; exact hdf, (by rw [eval_ne (by decide), eval_ne (by decide), eval_ne (by decide), eval_ne (by decide), eval_ne (by decide), eval_ne (by decide)]; exact h2q), (by rw [eval_ne (by decide), eval_ne (by decide), eval_ne (by decide), eval_ne (by decide)]; exact eval_eq (by rw [put_size]; omega)), (by rw [eval_ne (by decide), eval_ne (by decide)]; exact eval_eq (by rw [put_size, put_size, put_size]; omega)), (eval_eq (by rw [put_size, put_size, put_size, put_size, put_size]; omega)), fun e => by omega, fun e => by omega, fun e => by omega, fun e => by omega, fun e => absurd rfl e, fun e => absurd rfl e, fun e => absurd rfl e⟩
end

end Go.Proofs.YtgjpchnkodnieaaGreatDoor
namespace Go.Proofs.YtgjpchnkodnieaaGreatDoor
open Go.RowKit

set_option maxHeartbeats 2000000 in
theorem lwArray_src (c : Bool) (s1 s2 : Option Addr) (n1 n2 c1 c2 : Nat) (sh dt : List Int) (w : World) (r1 : Src w s1 n1 c1 sh) (r2 : Src w s2 n2 c2 dt) (h1 : n1 ≤ 20000) (h2 : n2 ≤ 20000) :
    Calls Tryz.prog 12 #[.agg #[.bool c, .slice s1 n1 c1, .slice s2 n2 c2]] w fun e w' => ∃ g1 g2 d1 d2, e = .returned (.agg #[.bool c, .slice (some ⟨g1, 0, none⟩) n1 d1, .slice (some ⟨g2, 0, none⟩) n2 d2]) ∧ Own w' w.heap.size (some ⟨g1, 0, none⟩) n1 sh ∧ Own w' w.heap.size (some ⟨g2, 0, none⟩) n2 dt ∧ n1 ≤ d1 ∧ n2 ≤ d2 ∧ Below w.heap.size w w' := by
  obtain ⟨W0, hW0⟩ : ∃ W0, W0 = (w.alloc (.cells #[.bool c, .slice s1 n1 c1, .slice s2 n2 c2] 25)).alloc (.cells #[.bool false, .slice none 0 0, .slice none 0 0] 25) := ⟨_, rfl⟩
  have hz0 : W0.heap.size = w.heap.size + 1 + 1 := by rw [hW0]; simp
  have HB0 : Hid (Below w.heap.size w W0) := by rw [hW0]; exact ((Below.refl _ w).alloc (Nat.le_refl _) _).alloc (by simp) _
  have HX0 : Hid (Box W0 w.heap.size c (.slice s1 n1 c1) (.slice s2 n2 c2)) := by
    rw [hW0]; exact (Box.new w _ _ _).below (Nat.le_refl _) ((Below.refl _ _).alloc (Nat.le_refl _) _)
  have HX1 : Hid (Box W0 (w.heap.size + 1) false (.slice none 0 0) (.slice none 0 0)) := by
    rw [hW0]
    have := Box.new (w.alloc (.cells #[.bool c, .slice s1 n1 c1, .slice s2 n2 c2] 25)) false (.slice none 0 0) (.slice none 0 0)
    rw [World.size_alloc] at this
    exact this
  have HW0 := hide hW0
  have R1 := hide (r1.below (Nat.le_refl _) (unhide HB0))
  have R2 := hide (r2.below (Nat.le_refl _) (unhide HB0))
  have HZ0 := hide hz0
  clear hW0 hz0 r1 r2
  go_enter Tryz.func12, Tryz.ntmps12
  go_upto_region 1 with fail
  rw [← unhide HW0]
  refine regionLw W0 w.heap.size (w.heap.size + 1) c s1 s2 n1 n2 c1 c2 sh dt (unhide R1) (unhide R2) h1 h2 _ _ (unhide HX1) ?_ _ (by simp) rfl rfl rfl (unhide HX0) ?_
  · intro a g1 g2 d1 d2 wx hlw
    apply_assumption
    have hv2 : (a.put (some 13) (.agg #[.bool c, .slice (some ⟨g1, 0, none⟩) n1 d1, .slice (some ⟨g2, 0, none⟩) n2 d2])).eval (.tmp 2) = .pointer (some ⟨w.heap.size + 1, 0, none⟩) := by rw [eval_ne (by decide)]; exact hlw.e2
    obtain ⟨a', ha'⟩ : ∃ a', a' = a.put (some 13) (.agg #[.bool c, .slice (some ⟨g1, 0, none⟩) n1 d1, .slice (some ⟨g2, 0, none⟩) n2 d2]) := ⟨_, rfl⟩
    have hdf : a'.defers = [] := by rw [ha', put_defers]; exact hlw.df
    rw [← ha'] at hv2 ⊢
    have hv3 : a'.tmps[2]?.getD undef = .pointer (some ⟨w.heap.size + 1, 0, none⟩) := by simpa [Act.eval] using hv2
    clear ha'
    have hb := ((unhide HX1).below (Nat.le_refl _) hlw.low).sets (c' := c) (u1 := .slice (some ⟨g1, 0, none⟩) n1 d1) (u2 := .slice (some ⟨g2, 0, none⟩) n2 d2)
    obtain ⟨r0, r1, r2, _, _, _⟩ := hb.all
    have hbx := (unhide HX1).below (Nat.le_refl _) hlw.low
    have hz0 := unhide HZ0
    have o1 := (hlw.a2 rfl).2
    have o2 := (hlw.b2 rfl).2
    have hk1 : n1 ≤ d1 := by
      rcases o1.2 with ⟨e, _⟩ | ⟨g', cap', cur, e, _, _, hr, _⟩
      · cases e
      · cases e; exact hr
    have hk2 : n2 ≤ d2 := by
      rcases o2.2 with ⟨e, _⟩ | ⟨g', cap', cur, e, _, _, hr, _⟩
      · cases e
      · cases e; exact hr
    obtain ⟨_, _, e1, q1⟩ := Own.of_owns o1 (by omega)
    obtain ⟨_, _, e2, q2⟩ := Own.of_owns o2 (by omega)
    cases e1
    cases e2
    have hn1 : ∀ k, At (some ⟨g1, 0, none⟩) n1 k → k ≠ w.heap.size + 1 := fun k hk => q1.row.notBox hbx hk
    have hn2 : ∀ k, At (some ⟨g2, 0, none⟩) n2 k → k ≠ w.heap.size + 1 := fun k hk => q2.row.notBox hbx hk
    have hlow := (unhide HB0).trans (hlw.low.mono (by omega))
    go_wp2_with fail
    refine bodyPost_ret (v := .agg #[.bool c, .slice (some ⟨g1, 0, none⟩) n1 d1, .slice (some ⟨g2, 0, none⟩) n2 d2]) (by simp [results, Tryz.results12, go_sem, hv3, r0, r1, r2]) hdf ?_
    exact ⟨g1, g2, d1, d2, rfl, (((q1.mono (by omega)).other (q := ⟨w.heap.size + 1, 0, none⟩) hn1 _).other (q := ⟨w.heap.size + 1, 1, none⟩) hn1 _).other (q := ⟨w.heap.size + 1, 2, none⟩) hn1 _, (((q2.mono (by omega)).other (q := ⟨w.heap.size + 1, 0, none⟩) hn2 _).other (q := ⟨w.heap.size + 1, 1, none⟩) hn2 _).other (q := ⟨w.heap.size + 1, 2, none⟩) hn2 _, hk1, hk2, ((hlow.setCell (p := ⟨w.heap.size + 1, 0, none⟩) (by simp) _).setCell (p := ⟨w.heap.size + 1, 1, none⟩) (by simp) _).setCell (p := ⟨w.heap.size + 1, 2, none⟩) (by simp) _⟩
  · exact fun _ _ _ _ _ h => h

end Go.Proofs.YtgjpchnkodnieaaGreatDoor
namespace Go.Proofs.YtgjpchnkodnieaaGreatDoor
open Go.RowKit

/-- What an impl function's answer is. -/
def GivesOwn (w : World) (r : Ans) (e : Ending) (w' : World) : Prop := ∃ b1 m1 d1 b2 m2 d2, e = .returned (.tuple #[.agg #[.bool r.c, .slice b1 m1 d1, .slice b2 m2 d2], .int .i64 r.code]) ∧ Own w' w.heap.size b1 m1 r.sh ∧ Own w' w.heap.size b2 m2 r.dt ∧ Apart b1 m1 b2 m2 ∧ Below w.heap.size w w'

theorem own_none (w : World) (B : Nat) (a : Option Addr) : Own w B a 0 [] := ⟨rfl, by omega, .inl rfl⟩

theorem gives_none {w w' : World} {code : Int} (h : Below w.heap.size w w') : GivesOwn w (noAns code) (.returned (.tuple #[.agg #[.bool false, .slice none 0 0, .slice none 0 0], .int .i64 code])) w' :=
  ⟨none, 0, 0, none, 0, 0, rfl, own_none _ _ _, own_none _ _ _, fun _ h => absurd rfl h.1, h⟩

theorem arr_parts {c : Bool} {sh dt : List Int} (h : arrOk c sh dt = true) : shapeB sh = true ∧ countOf sh = (dt.length : Int) := by
  unfold arrOk at h
  simp only [Bool.and_eq_true, decide_eq_true_eq] at h
  refine ⟨?_, h.2.1⟩
  unfold shapeB
  rw [decide_eq_true h.1, decide_eq_true (by omega)]; rfl

theorem firstCode_zero {f : Nat → Int × Int} {n : Nat} : firstCode f n = 0 ↔ ∀ k, k < n → (f k).2 = 0 := by
  induction n with
  | zero => exact ⟨fun _ k hk => absurd hk (Nat.not_lt_zero _), fun _ => rfl⟩
  | succ n ih =>
    constructor
    · intro h
      have h0 : firstCode f n = 0 := by
        by_cases h0 : firstCode f n = 0
        · exact h0
        · simp only [firstCode, if_neg h0] at h; exact h
      have h1 : (f n).2 = 0 := by simpa only [firstCode, if_pos h0] using h
      intro k hk
      by_cases hkn : k = n
      · subst hkn; exact h1
      · exact ih.mp h0 k (by omega)
    · intro h
      exact code_step (ih.mpr fun k hk => h k (by omega)) (h n (by omega))

end Go.Proofs.YtgjpchnkodnieaaGreatDoor
namespace Go.Proofs.YtgjpchnkodnieaaGreatDoor
open Go.RowKit

set_option maxHeartbeats 2000000 in
theorem lwScalar_any (v : Int) (w : World) :
    Calls Tryz.prog 18 #[.int .i64 v] w fun e w' => ∃ g, e = .returned (.agg #[.bool false, .slice none 0 0, .slice (some ⟨g, 0, none⟩) 1 1]) ∧ Own w' w.heap.size (some ⟨g, 0, none⟩) 1 [v] ∧ Below w.heap.size w w' := by
  have HP0 : Hid (Box (w.alloc (.cells #[.bool false, .slice none 0 0, .slice none 0 0] 25)) w.heap.size false (.slice none 0 0) (.slice none 0 0)) := Box.new w _ _ _
  obtain ⟨y0, y1, y2, y3, y4, y5, y6⟩ := (unhide HP0).all
  go_enter Tryz.func18, Tryz.ntmps18
  go_wp2_with fail
  have hx := Box.new w false (.slice none 0 0) (.slice (some ⟨w.heap.size + 1, 0, none⟩) 1 1)
  obtain ⟨r0, r1, r2, _, _, _⟩ := (hx.below (Nat.le_refl _) ((Below.refl _ _).alloc (Nat.le_refl _) (.cells #[.int .i64 v] 3))).all
  refine bodyPost_ret (v := .agg #[.bool false, .slice none 0 0, .slice (some ⟨w.heap.size + 1, 0, none⟩) 1 1]) (by simp [results, Tryz.results18, go_sem]) rfl ⟨w.heap.size + 1, rfl, ?_, ((Below.refl _ _).alloc (Nat.le_refl _) _).alloc (by simp) _⟩
  have hb := World.alloc_heap_new (w.alloc (.cells #[.bool false, .slice none 0 0, .slice (some ⟨w.heap.size + 1, 0, none⟩) 1 1] 25)) (.cells #[.int .i64 v] 3)
  rw [World.size_alloc] at hb
  exact (show Blk _ (w.heap.size + 1) [v] from hb).own rfl (by omega) (by omega)

end Go.Proofs.YtgjpchnkodnieaaGreatDoor
namespace Go.Proofs.YtgjpchnkodnieaaGreatDoor
open Go.RowKit

set_option maxHeartbeats 400000 in
theorem l3Ints_nil (cap : Nat) (w : World) :
    Calls Tryz.prog 71 #[.slice none 0 cap] w fun e w' => ∃ a' cap', e = .returned (.slice a' 0 cap') ∧ Own w' w.heap.size a' 0 [] ∧ Below w.heap.size w w' := by
  obtain ⟨i0, hi, hz0, hz1, hz2⟩ := info_parts info_int
  have hown := owns_empty w
  go_enter Tryz.func71, Tryz.ntmps71
  go_wp2_with (at_builtin; refine wpList_append_nocap rfl _ _ 23 rfl w.heap.size 3 i0 1 Tryz.underlying23 hi _ 0 [] rfl hown 0 rfl cap rfl ?_)
  go_ret
  exact ⟨_, _, rfl, ⟨rfl, by omega, .inl rfl⟩, (Below.refl _ _).alloc (Nat.le_refl _) _⟩

/-- A copy of a list that may be nil. -/
theorem l3Ints_opt (ad : Option Addr) (n cap : Nat) (zs : List Int) (w : World) (h : Row w ad n zs) :
    Calls Tryz.prog 71 #[.slice ad n cap] w fun e w' => ∃ a' cap', e = .returned (.slice a' n cap') ∧ Own w' w.heap.size a' n zs ∧ Below w.heap.size w w' := by
  cases ad with
  | some a => exact l3Ints_any a n cap zs w h
  | none =>
    obtain ⟨rfl, rfl⟩ := row_none h
    exact l3Ints_nil cap w

end Go.Proofs.YtgjpchnkodnieaaGreatDoor
namespace Go.Proofs.YtgjpchnkodnieaaGreatDoor
open Go.RowKit

set_option maxHeartbeats 400000 in
theorem l3Ints_some (ad : Addr) (n cap : Nat) (zs : List Int) (w : World) (h : Row w (some ad) n zs) :
    Calls Tryz.prog 71 #[.slice (some ad) n cap] w fun e w' => ∃ g cap', e = .returned (.slice (some ⟨g, 0, none⟩) n cap') ∧ Own w' w.heap.size (some ⟨g, 0, none⟩) n zs ∧ Below w.heap.size w w' := by
  have hl := h.len
  have hs := h.small
  have H := hide h
  clear h
  obtain ⟨i0, hi, hz0, hz1, hz2⟩ := info_parts info_int
  go_enter Tryz.func71, Tryz.ntmps71
  go_wp2_with (at_builtin; refine wpList_append_own _ rfl _ _ 23 rfl w.heap.size 3 i0 (.int .i64 0) 1 8 Tryz.underlying23 hi hz0 hz1 hz2 rfl (by decide) _ _ _ rfl (owns_empty w) ad n cap (zs.map (Value.int .i64)) rfl (by simpa using hl) (cells_ints ((unhide H).alloc _)) (one_ints zs) (by unfold maxLen; omega) (by omega) (by simp) ?_; intro v1 w1 hown hgrow hnil)
  have hown' : w1.ownsRow w.heap.size 3 1 v1 n (zs.map (Value.int .i64)) := by simpa using hown
  have hsome : ∃ g cap', v1 = .slice (some ⟨g, 0, none⟩) n cap' := by
    rcases hown'.2 with ⟨e, _⟩ | ⟨g, c', cur, e, _⟩
    · have := (hnil.mp e).1
      cases this
    · exact ⟨g, c', e⟩
  obtain ⟨g, cap', rfl⟩ := hsome
  obtain ⟨a', cap'', hv, ho⟩ := Own.of_owns hown' hs
  cases hv
  have hbel : Below w.heap.size w w1 := ((Below.refl _ _).alloc (Nat.le_refl _) _).grown hgrow (by simp) (by intro k hk; cases hk; exact Nat.le_refl _)
  clear hown hgrow hnil
  go_wp2
  go_ret
  exact ⟨_, _, rfl, ho, hbel⟩

end Go.Proofs.YtgjpchnkodnieaaGreatDoor
namespace Go.Proofs.YtgjpchnkodnieaaGreatDoor
open Go.RowKit

set_option maxHeartbeats 2000000 in
theorem lwVector_some (ad : Addr) (n c : Nat) (zs : List Int) (w : World) (h : Row w (some ad) n zs) :
    Calls Tryz.prog 16 #[.slice (some ad) n c] w fun e w' => ∃ g1 g2 d2, e = .returned (.agg #[.bool false, .slice (some ⟨g1, 0, none⟩) 1 1, .slice (some ⟨g2, 0, none⟩) n d2]) ∧ Own w' w.heap.size (some ⟨g1, 0, none⟩) 1 [(n : Int)] ∧ Own w' w.heap.size (some ⟨g2, 0, none⟩) n zs ∧ n ≤ d2 ∧ Below w.heap.size w w' := by
  have hl := h.len
  have hs := h.small
  have H := hide h
  clear h
  obtain ⟨i0, hi, hz0, hz1, hz2⟩ := info_parts info_int
  have HOE : Hid ((((w.alloc (.cells #[.bool false, .slice none 0 0, .slice none 0 0] 25)).alloc (.cells #[.int .i64 (n : Nat)] 3)).alloc (.cells #[] 3)).ownsRow (w.heap.size + 1 + 1) 3 1 (.slice (some ⟨w.heap.size + 1 + 1, 0, none⟩) 0 0) 0 []) := by
    have := owns_empty ((w.alloc (.cells #[.bool false, .slice none 0 0, .slice none 0 0] 25)).alloc (.cells #[.int .i64 (n : Nat)] 3))
    exact hide (by simpa using this)
  have HX : Hid (Box ((w.alloc (.cells #[.bool false, .slice none 0 0, .slice none 0 0] 25)).alloc (.cells #[.int .i64 (n : Nat)] 3)) w.heap.size false (.slice none 0 0) (.slice none 0 0)) := (Box.new w _ _ _).alloc _
  have HO1 : Hid (Own ((w.alloc (.cells #[.bool false, .slice none 0 0, .slice none 0 0] 25)).alloc (.cells #[.int .i64 (n : Nat)] 3)) w.heap.size (some ⟨w.heap.size + 1, 0, none⟩) 1 [(n : Int)]) := by
    have hb := World.alloc_heap_new (w.alloc (.cells #[.bool false, .slice none 0 0, .slice none 0 0] 25)) (.cells #[.int .i64 (n : Nat)] 3)
    rw [World.size_alloc] at hb
    exact (show Blk _ (w.heap.size + 1) [(n : Int)] from hb).own rfl (by omega) (by omega)
  go_enter Tryz.func16, Tryz.ntmps16
  go_wp2_with (at_builtin; refine wpList_append_own _ rfl _ _ 23 rfl (w.heap.size + 1 + 1) 3 i0 (.int .i64 0) 1 8 Tryz.underlying23 hi hz0 hz1 hz2 rfl (by decide) _ _ _ rfl (unhide HOE) ad n c (zs.map (Value.int .i64)) rfl (by simpa using hl) (cells_ints ((((unhide H).alloc _).alloc _).alloc _)) (one_ints zs) (by unfold maxLen; omega) (by omega) (by simp) ?_; intro v1 w1 hown hgrow hnil; have hown' : w1.ownsRow (w.heap.size + 1 + 1) 3 1 v1 n (zs.map (Value.int .i64)) := (by simpa using hown); obtain ⟨g, cap', rfl⟩ : ∃ g cap', v1 = .slice (some ⟨g, 0, none⟩) n cap' := (by rcases hown'.2 with ⟨e, _⟩ | ⟨g, c', cur, e, _⟩; (· have := (hnil.mp e).1; cases this); exact ⟨g, c', e⟩); obtain ⟨_, _, hv, ho⟩ := Own.of_owns hown' hs; cases hv; have hcap : n ≤ cap' := (by rcases hown'.2 with ⟨h', h0⟩ | ⟨g', c', cur, h', _, _, hle, _⟩; (· simp at h'); cases h'; omega); have HO2 := hide ho; have hbel : Below (w.heap.size + 1 + 1) ((w.alloc (.cells #[.bool false, .slice none 0 0, .slice none 0 0] 25)).alloc (.cells #[.int .i64 (n : Nat)] 3)) w1 := (((Below.refl _ _).alloc (by simp) _).grown hgrow (by simp) (by intro k hk; cases hk; exact Nat.le_refl _)); have HBL := hide hbel; have HXW : Hid (Box w1 w.heap.size false (.slice none 0 0) (.slice none 0 0)) := hide (Box.below (unhide HX) (by simp) hbel); obtain ⟨y0, y1, y2, y3, y4, y5, y6⟩ := (unhide HXW).all; clear hown hgrow hnil hown' ho hbel)
  have hx := (unhide HXW).sets (c' := false) (u1 := .slice (some ⟨w.heap.size + 1, 0, none⟩) 1 1) (u2 := .slice (some ⟨g, 0, none⟩) n cap')
  obtain ⟨r0, r1, r2, _, _, _⟩ := hx.all
  refine bodyPost_ret (v := .agg #[.bool false, .slice (some ⟨w.heap.size + 1, 0, none⟩) 1 1, .slice (some ⟨g, 0, none⟩) n cap']) (by simp [results, Tryz.results16, go_sem, r0, r1, r2]) rfl ?_
  have hs' : But (fun x => x = w.heap.size) w1 (((w1.setCell ⟨w.heap.size, 0, none⟩ (.bool false)).setCell ⟨w.heap.size, 1, none⟩ (.slice (some ⟨w.heap.size + 1, 0, none⟩) 1 1)).setCell ⟨w.heap.size, 2, none⟩ (.slice (some ⟨g, 0, none⟩) n cap')) := (((But.refl (fun x => x = w.heap.size) w1).setCell (p := ⟨w.heap.size, 0, none⟩) rfl _).setCell (p := ⟨w.heap.size, 1, none⟩) rfl _).setCell (p := ⟨w.heap.size, 2, none⟩) rfl _
  have o1 : Own w1 w.heap.size (some ⟨w.heap.size + 1, 0, none⟩) 1 [(n : Int)] := (unhide HO1).below (by simp) (unhide HBL)
  have hb0 : Below w.heap.size w w1 := (((Below.refl _ w).alloc (Nat.le_refl _) _).alloc (by simp) _).trans ((unhide HBL).mono (by omega))
  exact ⟨_, _, _, rfl, hs'.own o1 (by rintro x rfl hk; have := at_eq hk; omega), hs'.own ((unhide HO2).mono (by omega)) (by rintro x rfl hk; have := (unhide HO2).low hk; omega), hcap, ((hb0.setCell (p := ⟨w.heap.size, 0, none⟩) (Nat.le_refl _) _).setCell (p := ⟨w.heap.size, 1, none⟩) (Nat.le_refl _) _).setCell (p := ⟨w.heap.size, 2, none⟩) (Nat.le_refl _) _⟩

end Go.Proofs.YtgjpchnkodnieaaGreatDoor
namespace Go.Proofs.YtgjpchnkodnieaaGreatDoor
open Go.RowKit

/-- A variable of a law that holds an array: its box and what its two slices read as. -/
structure Var (W : World) (p : Nat) (c : Bool) (e1 : Option Addr) (k1 f1 : Nat) (e2 : Option Addr) (k2 f2 : Nat) (sh dt : List Int) : Prop where
  box : Box W p c (.slice e1 k1 f1) (.slice e2 k2 f2)
  r1 : Row W e1 k1 sh
  r2 : Row W e2 k2 dt

section
variable {W V : World} {p : Nat} {c : Bool} {e1 e2 : Option Addr} {k1 f1 k2 f2 : Nat} {sh dt : List Int}
theorem Var.below (h : Var W p c e1 k1 f1 e2 k2 f2 sh dt) (hb : Below W.heap.size W V) : Var V p c e1 k1 f1 e2 k2 f2 sh dt :=
  ⟨h.box.below (Nat.le_refl _) hb, h.r1.below (Nat.le_refl _) hb, h.r2.below (Nat.le_refl _) hb⟩
theorem Var.cells (h : Var W p c e1 k1 f1 e2 k2 f2 sh dt) : W.cell? ⟨p, 0, none⟩ = some (.bool c) ∧ W.cell? ⟨p, 1, none⟩ = some (.slice e1 k1 f1) ∧ W.cell? ⟨p, 2, none⟩ = some (.slice e2 k2 f2) := h.box.cells
/-- A new variable, its box laid last. -/
theorem Var.new (r1 : Row W e1 k1 sh) (r2 : Row W e2 k2 dt) : Var (W.alloc (.cells #[.bool c, .slice e1 k1 f1, .slice e2 k2 f2] 25 (0, 0))) W.heap.size c e1 k1 f1 e2 k2 f2 sh dt :=
  ⟨Box.new W _ _ _, r1.alloc _, r2.alloc _⟩
/-- .. or written into a box that lies. -/
theorem Var.put {x : Bool} {a1 a2 : Option Addr} {l1 l2 m1 m2 : Nat} (h : Box W p x (.slice a1 l1 m1) (.slice a2 l2 m2)) (r1 : Row W e1 k1 sh) (r2 : Row W e2 k2 dt) : Var (((W.setCell ⟨p, 0, none⟩ (.bool c)).setCell ⟨p, 1, none⟩ (.slice e1 k1 f1)).setCell ⟨p, 2, none⟩ (.slice e2 k2 f2)) p c e1 k1 f1 e2 k2 f2 sh dt :=
  ⟨h.sets, r1.sets h _ _ _, r2.sets h _ _ _⟩
/-- Another variable's box is written. -/
theorem Var.but {q : Nat} {x : Bool} {a1 a2 : Option Addr} {l1 l2 m1 m2 : Nat} (h : Var W p c e1 k1 f1 e2 k2 f2 sh dt) (hq : Box W q x (.slice a1 l1 m1) (.slice a2 l2 m2)) (hb : But (fun y => y = q) W V) (hp : ¬ p = q) : Var V p c e1 k1 f1 e2 k2 f2 sh dt :=
  ⟨h.box.but hb hp, hb.row h.r1 (fun _ hx hh => h.r1.notBox hq hh hx), hb.row h.r2 (fun _ hx hh => h.r2.notBox hq hh hx)⟩
end

end Go.Proofs.YtgjpchnkodnieaaGreatDoor
namespace Go.Proofs.YtgjpchnkodnieaaGreatDoor
open Go.RowKit

/-- The two sentinels lie as their initialisers lay them: errNoResult points to a, errTooGreat to b. -/
structure Gl (w : World) (a b : Addr) : Prop where
  no : w.cell? ⟨2, 0, none⟩ = some (.iface 278 (.pointer (some a)))
  big : w.cell? ⟨1, 0, none⟩ = some (.iface 278 (.pointer (some b)))
  ne : a ≠ b
  rowA : ∃ ca ta, w.heap[a.block]? = some (.cells ca ta (0, 0))
  rowB : ∃ cb tb, w.heap[b.block]? = some (.cells cb tb (0, 0))

theorem Gl.below {w w' : World} {a b : Addr} (h : Gl w a b) (hb : Below w.heap.size w w') : Gl w' a b := by
  obtain ⟨h1, h2, h3, ⟨ca, ta, h4⟩, ⟨cb, tb, h5⟩⟩ := h
  exact ⟨(hb.cell (p := ⟨2, 0, none⟩) (World.block_lt_of_cell? _ _ h1)).trans h1, (hb.cell (p := ⟨1, 0, none⟩) (World.block_lt_of_cell? _ _ h2)).trans h2, h3,
    ⟨ca, ta, (hb.block _ (lt_of_block h4)).trans h4⟩, ⟨cb, tb, (hb.block _ (lt_of_block h5)).trans h5⟩⟩

theorem Gl.alloc {w : World} {a b : Addr} (h : Gl w a b) (o : Obj) : Gl (w.alloc o) a b := h.below ((Below.refl _ _).alloc (Nat.le_refl _) _)
theorem Gl.drewN {w : World} {a b : Addr} (h : Gl w a b) (q : Nat) : Gl (w.drewN q) a b := h.below (Below.drewN (Below.refl _ _) _)

/-- What an axis of no elements gives for the ops 1 to 16. -/
def emptyTab : List Int := [0, 0, 1, 1, 1000000000000000, -1000000000000000, 0, 1, 1, 0, 0, 1, 1, 0, 1, 0]

/-- The sentinels and the table emptyFolds lie as laid. -/
structure GlF (w : World) (a b : Addr) : Prop where
  gl : Gl w a b
  tab : ∀ i, i < 16 → w.cell? ⟨0, i, none⟩ = some (.int .i64 (emptyTab.getD i 0))

theorem GlF.below {w w' : World} {a b : Addr} (h : GlF w a b) (hb : Below w.heap.size w w') : GlF w' a b :=
  ⟨h.gl.below hb, fun i hi => (hb.cell (p := ⟨0, i, none⟩) (World.block_lt_of_cell? _ _ (h.tab i hi))).trans (h.tab i hi)⟩
theorem GlF.alloc {w : World} {a b : Addr} (h : GlF w a b) (o : Obj) : GlF (w.alloc o) a b := h.below ((Below.refl _ _).alloc (Nat.le_refl _) _)

/-- What an element's function gives for a code: nil, errTooGreat or errNoResult. -/
def errV (a b : Addr) (code : Int) : Value := if code = 0 then .nilIface else if code = 7 then .iface 278 (.pointer (some b)) else .iface 278 (.pointer (some a))

theorem errV_0 (a b : Addr) : errV a b 0 = .nilIface := rfl
theorem errV_7 (a b : Addr) : errV a b 7 = .iface 278 (.pointer (some b)) := rfl
theorem errV_3 (a b : Addr) : errV a b 3 = .iface 278 (.pointer (some a)) := rfl

/-- The codes that elements can have. -/
def codeIn (code : Int) : Prop := code = 0 ∨ code = 3 ∨ code = 7

end Go.Proofs.YtgjpchnkodnieaaGreatDoor
namespace Go.Proofs.YtgjpchnkodnieaaGreatDoor
open Go.RowKit Go.Shelf

theorem check_int (w : World) (em : Bool) (k : Int) : (Instr.checkKey em 10000 3 (.int .i64 k)).run Tryz.prog w = .ok () w := MapKept.run_checkKey Tryz.underlying3 (by simp [MapKept.IsKey]) em 9999
theorem find_int (w : World) (k : Int) (es : List MapEntry) (r : Option (Nat × Value)) (hf : Instr.findNow (.int .i64) (.int .i64 k) es 0 = some r) : (Instr.findKey 3 (.int .i64 k) es).run Tryz.prog w = .ok r w := by
  unfold Instr.findKey
  simp only [Sem.run_bind, run_underlying Tryz.underlying3, Result.andThen, hf]
  rfl

/-- An entry more in a map that was made last. -/
theorem ins_step (T E : TypeId) (hT : Tryz.prog.underlying T = some (.map 3 E)) (w : World) (es : List MapEntry) (c : Nat) (k : Int) (v : Value) (hf : Instr.findNow (.int .i64) (.int .i64 k) es 0 = some none) :
    (Instr.mapUpdate T (.map (some w.heap.size)) (.int .i64 k) v).run Tryz.prog (w.alloc (.map es.toArray c)) = .ok () (w.alloc (.map (es ++ [(⟨.int .i64 k, v, c⟩ : MapEntry)]).toArray (c + 1))) := by
  have hb := World.alloc_heap_new w (.map es.toArray c)
  have e : (w.heap.push (Obj.map es.toArray c)).setIfInBounds w.heap.size (Obj.map (es ++ [(⟨.int .i64 k, v, c⟩ : MapEntry)]).toArray (c + 1)) = w.heap.push (Obj.map (es ++ [(⟨.int .i64 k, v, c⟩ : MapEntry)]).toArray (c + 1)) := by
    apply Array.ext'
    simp
  unfold Instr.mapUpdate
  simp only [Sem.run_bind, run_underlying hT, Result.andThen, MapKept.run_getObj_map hb, check_int, find_int _ _ _ _ hf]
  rw [show (es.toArray.push ({ key := Value.int IntKind.i64 k, val := v, born := c } : MapEntry)) = (es ++ [(⟨.int .i64 k, v, c⟩ : MapEntry)]).toArray by simp]
  rw [MapKept.run_setObj_map _ hb]
  exact congrArg (fun h => Result.ok () ({ w with heap := h } : World)) e

theorem look_hit (T E : TypeId) (hT : Tryz.prog.underlying T = some (.map 3 E)) (w : World) (p : Nat) (es : List MapEntry) (c i : Nat) (k : Int) (v : Value) (hb : w.heap[p]? = some (.map es.toArray c)) (hf : Instr.findNow (.int .i64) (.int .i64 k) es 0 = some (some (i, v))) :
    (Instr.lookup T (.map (some p)) (.int .i64 k) true).run Tryz.prog w = .ok (.tuple #[v, .bool true]) w := by
  simp [Instr.lookup, run_underlying hT, MapKept.run_getObj_map hb, check_int, find_int _ _ _ _ hf, Result.andThen]

theorem look_miss (T E : TypeId) (hT : Tryz.prog.underlying T = some (.map 3 E)) (w : World) (p : Nat) (es : List MapEntry) (c : Nat) (k : Int) (z : Value) (hz : (zeroValue E).run Tryz.prog w = .ok z w) (hb : w.heap[p]? = some (.map es.toArray c)) (hf : Instr.findNow (.int .i64) (.int .i64 k) es 0 = some none) :
    (Instr.lookup T (.map (some p)) (.int .i64 k) true).run Tryz.prog w = .ok (.tuple #[z, .bool false]) w := by
  simp [Instr.lookup, run_underlying hT, MapKept.run_getObj_map hb, check_int, find_int _ _ _ _ hf, hz, Result.andThen]

theorem make_map (T : TypeId) (w : World) : (Instr.makeMap T none).run Tryz.prog w = .ok (.map (some w.heap.size)) (w.alloc (.map #[] 0)) := by
  simp [Instr.makeMap, Result.andThen]

/-- The functions of one argument. -/
def monTab (op : Int) : List MapEntry := [⟨.int .i64 1, .func (.func 137) #[.int .i64 op] #[], 0⟩,
  ⟨.int .i64 2, .func (.func 137) #[.int .i64 op] #[], 1⟩,
  ⟨.int .i64 3, .func (.func 137) #[.int .i64 op] #[], 2⟩,
  ⟨.int .i64 7, .func (.func 137) #[.int .i64 op] #[], 3⟩,
  ⟨.int .i64 17, .func (.func 137) #[.int .i64 op] #[], 4⟩,
  ⟨.int .i64 18, .func (.func 138) #[.int .i64 op] #[], 5⟩,
  ⟨.int .i64 19, .func (.func 139) #[.int .i64 op] #[], 6⟩,
  ⟨.int .i64 20, .func (.func 140) #[.int .i64 op] #[], 7⟩,
  ⟨.int .i64 28, .func (.func 140) #[.int .i64 op] #[], 8⟩,
  ⟨.int .i64 21, .func (.func 141) #[.int .i64 op] #[], 9⟩,
  ⟨.int .i64 22, .func (.func 141) #[.int .i64 op] #[], 10⟩,
  ⟨.int .i64 23, .func (.func 142) #[.int .i64 op] #[], 11⟩,
  ⟨.int .i64 24, .func (.func 143) #[.int .i64 op] #[], 12⟩,
  ⟨.int .i64 26, .func (.func 144) #[.int .i64 op] #[], 13⟩,
  ⟨.int .i64 27, .func (.func 144) #[.int .i64 op] #[], 14⟩,
  ⟨.int .i64 33, .func (.func 145) #[.int .i64 op] #[], 15⟩]

set_option maxRecDepth 100000 in
set_option maxHeartbeats 8000000 in
theorem monads_any (op : Int) (w : World) :
    Calls Tryz.prog 52 #[.int .i64 op] w fun e w' => e = .returned (.map (some w.heap.size)) ∧ w' = w.alloc (.map (monTab op).toArray 16) := by
  have i0 := ins_step 74 _ Tryz.underlying74 w [] 0 1 (.func (.func 137) #[.int .i64 op] #[]) (by rfl)
  simp only [List.nil_append, Nat.reduceAdd] at i0
  have i1 := ins_step 74 _ Tryz.underlying74 w [⟨.int .i64 1, .func (.func 137) #[.int .i64 op] #[], 0⟩] 1 2 (.func (.func 137) #[.int .i64 op] #[]) (by rfl)
  simp only [List.cons_append, List.nil_append, Nat.reduceAdd] at i1
  have i2 := ins_step 74 _ Tryz.underlying74 w [⟨.int .i64 1, .func (.func 137) #[.int .i64 op] #[], 0⟩, ⟨.int .i64 2, .func (.func 137) #[.int .i64 op] #[], 1⟩] 2 3 (.func (.func 137) #[.int .i64 op] #[]) (by rfl)
  simp only [List.cons_append, List.nil_append, Nat.reduceAdd] at i2
  have i3 := ins_step 74 _ Tryz.underlying74 w [⟨.int .i64 1, .func (.func 137) #[.int .i64 op] #[], 0⟩, ⟨.int .i64 2, .func (.func 137) #[.int .i64 op] #[], 1⟩, ⟨.int .i64 3, .func (.func 137) #[.int .i64 op] #[], 2⟩] 3 7 (.func (.func 137) #[.int .i64 op] #[]) (by rfl)
  simp only [List.cons_append, List.nil_append, Nat.reduceAdd] at i3
  have i4 := ins_step 74 _ Tryz.underlying74 w [⟨.int .i64 1, .func (.func 137) #[.int .i64 op] #[], 0⟩, ⟨.int .i64 2, .func (.func 137) #[.int .i64 op] #[], 1⟩, ⟨.int .i64 3, .func (.func 137) #[.int .i64 op] #[], 2⟩, ⟨.int .i64 7, .func (.func 137) #[.int .i64 op] #[], 3⟩] 4 17 (.func (.func 137) #[.int .i64 op] #[]) (by rfl)
  simp only [List.cons_append, List.nil_append, Nat.reduceAdd] at i4
  have i5 := ins_step 74 _ Tryz.underlying74 w [⟨.int .i64 1, .func (.func 137) #[.int .i64 op] #[], 0⟩, ⟨.int .i64 2, .func (.func 137) #[.int .i64 op] #[], 1⟩, ⟨.int .i64 3, .func (.func 137) #[.int .i64 op] #[], 2⟩, ⟨.int .i64 7, .func (.func 137) #[.int .i64 op] #[], 3⟩, ⟨.int .i64 17, .func (.func 137) #[.int .i64 op] #[], 4⟩] 5 18 (.func (.func 138) #[.int .i64 op] #[]) (by rfl)
  simp only [List.cons_append, List.nil_append, Nat.reduceAdd] at i5
  have i6 := ins_step 74 _ Tryz.underlying74 w [⟨.int .i64 1, .func (.func 137) #[.int .i64 op] #[], 0⟩, ⟨.int .i64 2, .func (.func 137) #[.int .i64 op] #[], 1⟩, ⟨.int .i64 3, .func (.func 137) #[.int .i64 op] #[], 2⟩, ⟨.int .i64 7, .func (.func 137) #[.int .i64 op] #[], 3⟩, ⟨.int .i64 17, .func (.func 137) #[.int .i64 op] #[], 4⟩, ⟨.int .i64 18, .func (.func 138) #[.int .i64 op] #[], 5⟩] 6 19 (.func (.func 139) #[.int .i64 op] #[]) (by rfl)
  simp only [List.cons_append, List.nil_append, Nat.reduceAdd] at i6
  have i7 := ins_step 74 _ Tryz.underlying74 w [⟨.int .i64 1, .func (.func 137) #[.int .i64 op] #[], 0⟩, ⟨.int .i64 2, .func (.func 137) #[.int .i64 op] #[], 1⟩, ⟨.int .i64 3, .func (.func 137) #[.int .i64 op] #[], 2⟩, ⟨.int .i64 7, .func (.func 137) #[.int .i64 op] #[], 3⟩, ⟨.int .i64 17, .func (.func 137) #[.int .i64 op] #[], 4⟩, ⟨.int .i64 18, .func (.func 138) #[.int .i64 op] #[], 5⟩, ⟨.int .i64 19, .func (.func 139) #[.int .i64 op] #[], 6⟩] 7 20 (.func (.func 140) #[.int .i64 op] #[]) (by rfl)
  simp only [List.cons_append, List.nil_append, Nat.reduceAdd] at i7
  have i8 := ins_step 74 _ Tryz.underlying74 w [⟨.int .i64 1, .func (.func 137) #[.int .i64 op] #[], 0⟩, ⟨.int .i64 2, .func (.func 137) #[.int .i64 op] #[], 1⟩, ⟨.int .i64 3, .func (.func 137) #[.int .i64 op] #[], 2⟩, ⟨.int .i64 7, .func (.func 137) #[.int .i64 op] #[], 3⟩, ⟨.int .i64 17, .func (.func 137) #[.int .i64 op] #[], 4⟩, ⟨.int .i64 18, .func (.func 138) #[.int .i64 op] #[], 5⟩, ⟨.int .i64 19, .func (.func 139) #[.int .i64 op] #[], 6⟩, ⟨.int .i64 20, .func (.func 140) #[.int .i64 op] #[], 7⟩] 8 28 (.func (.func 140) #[.int .i64 op] #[]) (by rfl)
  simp only [List.cons_append, List.nil_append, Nat.reduceAdd] at i8
  have i9 := ins_step 74 _ Tryz.underlying74 w [⟨.int .i64 1, .func (.func 137) #[.int .i64 op] #[], 0⟩, ⟨.int .i64 2, .func (.func 137) #[.int .i64 op] #[], 1⟩, ⟨.int .i64 3, .func (.func 137) #[.int .i64 op] #[], 2⟩, ⟨.int .i64 7, .func (.func 137) #[.int .i64 op] #[], 3⟩, ⟨.int .i64 17, .func (.func 137) #[.int .i64 op] #[], 4⟩, ⟨.int .i64 18, .func (.func 138) #[.int .i64 op] #[], 5⟩, ⟨.int .i64 19, .func (.func 139) #[.int .i64 op] #[], 6⟩, ⟨.int .i64 20, .func (.func 140) #[.int .i64 op] #[], 7⟩, ⟨.int .i64 28, .func (.func 140) #[.int .i64 op] #[], 8⟩] 9 21 (.func (.func 141) #[.int .i64 op] #[]) (by rfl)
  simp only [List.cons_append, List.nil_append, Nat.reduceAdd] at i9
  have i10 := ins_step 74 _ Tryz.underlying74 w [⟨.int .i64 1, .func (.func 137) #[.int .i64 op] #[], 0⟩, ⟨.int .i64 2, .func (.func 137) #[.int .i64 op] #[], 1⟩, ⟨.int .i64 3, .func (.func 137) #[.int .i64 op] #[], 2⟩, ⟨.int .i64 7, .func (.func 137) #[.int .i64 op] #[], 3⟩, ⟨.int .i64 17, .func (.func 137) #[.int .i64 op] #[], 4⟩, ⟨.int .i64 18, .func (.func 138) #[.int .i64 op] #[], 5⟩, ⟨.int .i64 19, .func (.func 139) #[.int .i64 op] #[], 6⟩, ⟨.int .i64 20, .func (.func 140) #[.int .i64 op] #[], 7⟩, ⟨.int .i64 28, .func (.func 140) #[.int .i64 op] #[], 8⟩, ⟨.int .i64 21, .func (.func 141) #[.int .i64 op] #[], 9⟩] 10 22 (.func (.func 141) #[.int .i64 op] #[]) (by rfl)
  simp only [List.cons_append, List.nil_append, Nat.reduceAdd] at i10
  have i11 := ins_step 74 _ Tryz.underlying74 w [⟨.int .i64 1, .func (.func 137) #[.int .i64 op] #[], 0⟩, ⟨.int .i64 2, .func (.func 137) #[.int .i64 op] #[], 1⟩, ⟨.int .i64 3, .func (.func 137) #[.int .i64 op] #[], 2⟩, ⟨.int .i64 7, .func (.func 137) #[.int .i64 op] #[], 3⟩, ⟨.int .i64 17, .func (.func 137) #[.int .i64 op] #[], 4⟩, ⟨.int .i64 18, .func (.func 138) #[.int .i64 op] #[], 5⟩, ⟨.int .i64 19, .func (.func 139) #[.int .i64 op] #[], 6⟩, ⟨.int .i64 20, .func (.func 140) #[.int .i64 op] #[], 7⟩, ⟨.int .i64 28, .func (.func 140) #[.int .i64 op] #[], 8⟩, ⟨.int .i64 21, .func (.func 141) #[.int .i64 op] #[], 9⟩, ⟨.int .i64 22, .func (.func 141) #[.int .i64 op] #[], 10⟩] 11 23 (.func (.func 142) #[.int .i64 op] #[]) (by rfl)
  simp only [List.cons_append, List.nil_append, Nat.reduceAdd] at i11
  have i12 := ins_step 74 _ Tryz.underlying74 w [⟨.int .i64 1, .func (.func 137) #[.int .i64 op] #[], 0⟩, ⟨.int .i64 2, .func (.func 137) #[.int .i64 op] #[], 1⟩, ⟨.int .i64 3, .func (.func 137) #[.int .i64 op] #[], 2⟩, ⟨.int .i64 7, .func (.func 137) #[.int .i64 op] #[], 3⟩, ⟨.int .i64 17, .func (.func 137) #[.int .i64 op] #[], 4⟩, ⟨.int .i64 18, .func (.func 138) #[.int .i64 op] #[], 5⟩, ⟨.int .i64 19, .func (.func 139) #[.int .i64 op] #[], 6⟩, ⟨.int .i64 20, .func (.func 140) #[.int .i64 op] #[], 7⟩, ⟨.int .i64 28, .func (.func 140) #[.int .i64 op] #[], 8⟩, ⟨.int .i64 21, .func (.func 141) #[.int .i64 op] #[], 9⟩, ⟨.int .i64 22, .func (.func 141) #[.int .i64 op] #[], 10⟩, ⟨.int .i64 23, .func (.func 142) #[.int .i64 op] #[], 11⟩] 12 24 (.func (.func 143) #[.int .i64 op] #[]) (by rfl)
  simp only [List.cons_append, List.nil_append, Nat.reduceAdd] at i12
  have i13 := ins_step 74 _ Tryz.underlying74 w [⟨.int .i64 1, .func (.func 137) #[.int .i64 op] #[], 0⟩, ⟨.int .i64 2, .func (.func 137) #[.int .i64 op] #[], 1⟩, ⟨.int .i64 3, .func (.func 137) #[.int .i64 op] #[], 2⟩, ⟨.int .i64 7, .func (.func 137) #[.int .i64 op] #[], 3⟩, ⟨.int .i64 17, .func (.func 137) #[.int .i64 op] #[], 4⟩, ⟨.int .i64 18, .func (.func 138) #[.int .i64 op] #[], 5⟩, ⟨.int .i64 19, .func (.func 139) #[.int .i64 op] #[], 6⟩, ⟨.int .i64 20, .func (.func 140) #[.int .i64 op] #[], 7⟩, ⟨.int .i64 28, .func (.func 140) #[.int .i64 op] #[], 8⟩, ⟨.int .i64 21, .func (.func 141) #[.int .i64 op] #[], 9⟩, ⟨.int .i64 22, .func (.func 141) #[.int .i64 op] #[], 10⟩, ⟨.int .i64 23, .func (.func 142) #[.int .i64 op] #[], 11⟩, ⟨.int .i64 24, .func (.func 143) #[.int .i64 op] #[], 12⟩] 13 26 (.func (.func 144) #[.int .i64 op] #[]) (by rfl)
  simp only [List.cons_append, List.nil_append, Nat.reduceAdd] at i13
  have i14 := ins_step 74 _ Tryz.underlying74 w [⟨.int .i64 1, .func (.func 137) #[.int .i64 op] #[], 0⟩, ⟨.int .i64 2, .func (.func 137) #[.int .i64 op] #[], 1⟩, ⟨.int .i64 3, .func (.func 137) #[.int .i64 op] #[], 2⟩, ⟨.int .i64 7, .func (.func 137) #[.int .i64 op] #[], 3⟩, ⟨.int .i64 17, .func (.func 137) #[.int .i64 op] #[], 4⟩, ⟨.int .i64 18, .func (.func 138) #[.int .i64 op] #[], 5⟩, ⟨.int .i64 19, .func (.func 139) #[.int .i64 op] #[], 6⟩, ⟨.int .i64 20, .func (.func 140) #[.int .i64 op] #[], 7⟩, ⟨.int .i64 28, .func (.func 140) #[.int .i64 op] #[], 8⟩, ⟨.int .i64 21, .func (.func 141) #[.int .i64 op] #[], 9⟩, ⟨.int .i64 22, .func (.func 141) #[.int .i64 op] #[], 10⟩, ⟨.int .i64 23, .func (.func 142) #[.int .i64 op] #[], 11⟩, ⟨.int .i64 24, .func (.func 143) #[.int .i64 op] #[], 12⟩, ⟨.int .i64 26, .func (.func 144) #[.int .i64 op] #[], 13⟩] 14 27 (.func (.func 144) #[.int .i64 op] #[]) (by rfl)
  simp only [List.cons_append, List.nil_append, Nat.reduceAdd] at i14
  have i15 := ins_step 74 _ Tryz.underlying74 w [⟨.int .i64 1, .func (.func 137) #[.int .i64 op] #[], 0⟩, ⟨.int .i64 2, .func (.func 137) #[.int .i64 op] #[], 1⟩, ⟨.int .i64 3, .func (.func 137) #[.int .i64 op] #[], 2⟩, ⟨.int .i64 7, .func (.func 137) #[.int .i64 op] #[], 3⟩, ⟨.int .i64 17, .func (.func 137) #[.int .i64 op] #[], 4⟩, ⟨.int .i64 18, .func (.func 138) #[.int .i64 op] #[], 5⟩, ⟨.int .i64 19, .func (.func 139) #[.int .i64 op] #[], 6⟩, ⟨.int .i64 20, .func (.func 140) #[.int .i64 op] #[], 7⟩, ⟨.int .i64 28, .func (.func 140) #[.int .i64 op] #[], 8⟩, ⟨.int .i64 21, .func (.func 141) #[.int .i64 op] #[], 9⟩, ⟨.int .i64 22, .func (.func 141) #[.int .i64 op] #[], 10⟩, ⟨.int .i64 23, .func (.func 142) #[.int .i64 op] #[], 11⟩, ⟨.int .i64 24, .func (.func 143) #[.int .i64 op] #[], 12⟩, ⟨.int .i64 26, .func (.func 144) #[.int .i64 op] #[], 13⟩, ⟨.int .i64 27, .func (.func 144) #[.int .i64 op] #[], 14⟩] 15 33 (.func (.func 145) #[.int .i64 op] #[]) (by rfl)
  simp only [List.cons_append, List.nil_append, Nat.reduceAdd] at i15
  have hmm := make_map 74 w
  go_enter Tryz.func52, Tryz.ntmps52
  go_wp2_with fail
  go_ret
  exact ⟨rfl, rfl⟩

end Go.Proofs.YtgjpchnkodnieaaGreatDoor
namespace Go.Proofs.YtgjpchnkodnieaaGreatDoor

/-- Place p comes ahead of place q: its key is less, or the same and the place is. -/
def bef (K : Int → Int) (p q : Int) : Prop := K p < K q ∨ (K p = K q ∧ p < q)

section
variable {K : Int → Int} {p q r : Int}
theorem bef_trans (h1 : bef K p q) (h2 : bef K q r) : bef K p r := by unfold bef at *; omega
theorem bef_irrefl : ¬ bef K p p := by unfold bef; omega
theorem bef_asymm (h1 : bef K p q) : ¬ bef K q p := by unfold bef at *; omega
theorem bef_of_le (h1 : K p ≤ K q) (h2 : p < q) : bef K p q := by unfold bef; omega
end

/-- Two lists of the same numbers that rise are one. -/
theorem rise_unique {K : Int → Int} {l1 l2 : List Int} (h1 : l1.Pairwise (bef K)) (h2 : l2.Pairwise (bef K)) (hp : l1.Perm l2) : l1 = l2 := by
  induction l1 generalizing l2 with
  | nil => exact (List.nil_perm.1 hp).symm
  | cons x t ih =>
    cases l2 with
    | nil => exact absurd (List.perm_nil.1 hp) (by simp)
    | cons y u =>
      rw [List.pairwise_cons] at h1 h2
      have hx : x ∈ y :: u := hp.subset (by simp)
      have hy : y ∈ x :: t := hp.symm.subset (by simp)
      have e : x = y := by
        rcases List.mem_cons.1 hx with h | h
        · exact h
        · rcases List.mem_cons.1 hy with h' | h'
          · exact h'.symm
          · exact absurd (h2.1 x h) (bef_asymm (h1.1 y h'))
      subst e
      rw [ih h1.2 h2.2 (List.Perm.cons_inv hp)]

/-- What D says from a on, below b. -/
def seg (D : Nat → Int) (a b : Nat) : List Int := (List.range' a (b - a)).map D

section
variable {K : Int → Int} {D E : Nat → Int} {a m b : Nat}

theorem seg_split (h1 : a ≤ m) (h2 : m ≤ b) : seg D a b = seg D a m ++ seg D m b := by
  unfold seg
  rw [← List.map_append]
  congr 1
  have e : b - a = (m - a) + (b - m) := by omega
  rw [e, ← List.range'_append]
  congr 2
  omega

theorem seg_mem {x : Int} : x ∈ seg D a b ↔ ∃ i, a ≤ i ∧ i < b ∧ D i = x := by
  unfold seg
  rw [List.mem_map]
  constructor
  · rintro ⟨i, hi, e⟩
    have := List.mem_range'.1 hi
    obtain ⟨j, hj, rfl⟩ := this
    exact ⟨_, by omega, by omega, e⟩
  · rintro ⟨i, h1, h2, e⟩
    refine ⟨i, ?_, e⟩
    rw [List.mem_range']
    exact ⟨i - a, by omega, by omega⟩

theorem seg_congr (h : ∀ i, a ≤ i → i < b → D i = E i) : seg D a b = seg E a b := by
  unfold seg
  refine List.map_congr_left fun i hi => ?_
  obtain ⟨j, hj, rfl⟩ := List.mem_range'.1 hi
  exact h _ (by omega) (by omega)

theorem seg_none (h : b ≤ a) : seg D a b = [] := by
  unfold seg
  rw [show b - a = 0 by omega]
  rfl

theorem seg_one : seg D a (a + 1) = [D a] := by
  unfold seg
  rw [show a + 1 - a = 1 by omega]
  rfl

/-- From a on, below b, D rises. -/
def Rise (K : Int → Int) (D : Nat → Int) (a b : Nat) : Prop := ∀ i j, a ≤ i → i < j → j < b → bef K (D i) (D j)

theorem Rise.pairwise (h : Rise K D a b) : (seg D a b).Pairwise (bef K) := by
  unfold seg
  rw [List.pairwise_map]
  have key : ∀ n s, (∀ i j, s ≤ i → i < j → j < s + n → bef K (D i) (D j)) → (List.range' s n).Pairwise (fun i j => bef K (D i) (D j)) := by
    intro n
    induction n with
    | zero => intro s _; simp
    | succ n ih =>
      intro s hs
      rw [List.range'_succ, List.pairwise_cons]
      refine ⟨fun j hj => ?_, ih (s + 1) (fun i j h1 h2 h3 => hs i j (by omega) h2 (by omega))⟩
      obtain ⟨t, ht, rfl⟩ := List.mem_range'.1 hj
      exact hs s _ (Nat.le_refl _) (by omega) (by omega)
  exact key _ _ (fun i j h1 h2 h3 => h i j h1 h2 (by omega))

theorem Rise.sub {a' b' : Nat} (h : Rise K D a b) (h1 : a ≤ a') (h2 : b' ≤ b) : Rise K D a' b' := fun i j h3 h4 h5 => h i j (by omega) h4 (by omega)

/-- D with the numbers of [a, m) and those of [m, b) changed about. -/
def rot (D : Nat → Int) (a m b : Nat) : Nat → Int := fun x => if a ≤ x ∧ x < b then (if x < a + (b - m) then D (x + (m - a)) else D (x - (b - m))) else D x

theorem rot_out (x : Nat) (h : x < a ∨ b ≤ x) : rot D a m b x = D x := by unfold rot; rw [if_neg (by omega)]
theorem rot_low {x : Nat} (h1 : a ≤ x) (h2 : x < a + (b - m)) (hm : a ≤ m) (hb : m ≤ b) : rot D a m b x = D (x + (m - a)) := by unfold rot; rw [if_pos (by omega), if_pos h2]
theorem rot_high {x : Nat} (h1 : a + (b - m) ≤ x) (h2 : x < b) : rot D a m b x = D (x - (b - m)) := by unfold rot; rw [if_pos (by omega), if_neg (by omega)]

theorem seg_shift (k : Nat) : seg (fun x => D (x + k)) a b = seg D (a + k) (b + k) := by
  unfold seg
  have e : b + k - (a + k) = b - a := by omega
  rw [e]
  have key : ∀ n s, (List.range' s n).map (fun x => D (x + k)) = (List.range' (s + k) n).map D := by
    intro n
    induction n with
    | zero => intro s; rfl
    | succ n ih => intro s; rw [List.range'_succ, List.range'_succ, List.map_cons, List.map_cons, ih (s + 1), show s + 1 + k = s + k + 1 by omega]
  exact key _ _

theorem rot_seg_low (h1 : a ≤ m) (h2 : m ≤ b) : seg (rot D a m b) a (a + (b - m)) = seg D m b := by
  have e : seg (rot D a m b) a (a + (b - m)) = seg (fun x => D (x + (m - a))) a (a + (b - m)) := seg_congr fun i h3 h4 => rot_low h3 h4 h1 h2
  rw [e, seg_shift]
  congr 1 <;> omega

theorem rot_seg_high (h2 : m ≤ b) : seg (rot D a m b) (a + (b - m)) b = seg D a m := by
  have e : seg D a m = seg (fun x => D (x - (b - m))) (a + (b - m)) b := by
    have := seg_shift (D := fun x => D (x - (b - m))) (a := a) (b := m) (b - m)
    rw [show m + (b - m) = b by omega] at this
    rw [← this]
    exact seg_congr fun i _ _ => by rw [Nat.add_sub_cancel]
  rw [e]
  exact seg_congr fun i h3 h4 => rot_high h3 h4

theorem rot_perm (h1 : a ≤ m) (h2 : m ≤ b) : (seg (rot D a m b) a b).Perm (seg D a b) := by
  rw [seg_split (m := a + (b - m)) (by omega) (by omega), rot_seg_low h1 h2, rot_seg_high h2, seg_split h1 h2]
  exact List.perm_append_comm

/-- D' is D with the numbers of [a, b) in order. -/
structure Merged (K : Int → Int) (D D' : Nat → Int) (a b : Nat) : Prop where
  perm : (seg D' a b).Perm (seg D a b)
  rise : Rise K D' a b
  out : ∀ i, (i < a ∨ b ≤ i) → D' i = D i

theorem perm_all {P : Int → Prop} (h : (seg E a b).Perm (seg D a b)) (hp : ∀ i, a ≤ i → i < b → P (D i)) : ∀ i, a ≤ i → i < b → P (E i) := fun i h1 h2 => by
  have : E i ∈ seg D a b := h.subset (seg_mem.2 ⟨i, h1, h2, rfl⟩)
  obtain ⟨j, h3, h4, e⟩ := seg_mem.1 this
  rw [← e]
  exact hp j h3 h4

theorem Merged.refl (h : Rise K D a b) : Merged K D D a b := ⟨List.Perm.refl _, h, fun _ _ => rfl⟩

/-- Each place of [a, m) is less than each of [m, b). -/
def Low (D : Nat → Int) (a m b : Nat) : Prop := ∀ i j, a ≤ i → i < m → m ≤ j → j < b → D i < D j

/-- Where a merge is cut: so many from the left, and from the right. -/
structure Cut (K : Int → Int) (D : Nat → Int) (a s m e b : Nat) : Prop where
  as_ : a ≤ s
  sm : s ≤ m
  me : m ≤ e
  eb : e ≤ b
  l : Rise K D a m
  r : Rise K D m b
  low : Low D a m b
  c1 : s = a ∨ e = b ∨ K (D (s - 1)) ≤ K (D e)
  c2 : e = m ∨ s = m ∨ K (D (e - 1)) < K (D s)

theorem Rise.key (h : Rise K D a b) {i j : Nat} (h1 : a ≤ i) (h2 : i ≤ j) (h3 : j < b) : K (D i) ≤ K (D j) := by
  rcases Nat.lt_or_ge i j with h4 | h4
  · have := h i j h1 h4 h3; unfold bef at this; omega
  · rw [show i = j by omega]; omega

theorem Rise.join (h1 : Rise K D a m) (h2 : Rise K D m b) (h3 : ∀ i j, a ≤ i → i < m → m ≤ j → j < b → bef K (D i) (D j)) : Rise K D a b := fun i j hi hij hj => by
  rcases Nat.lt_or_ge j m with h | h
  · exact h1 i j hi hij h
  · rcases Nat.lt_or_ge i m with h' | h'
    · exact h3 i j hi h' h hj
    · exact h2 i j h' hij hj

theorem Cut.e1 {s e i : Nat} (_h : Cut K D a s m e b) (_h1 : a ≤ i) (h2 : i < s) : rot D s m e i = D i := rot_out _ (by omega)
theorem Cut.e3 {s e i : Nat} (_h : Cut K D a s m e b) (h1 : s + (e - m) ≤ i) (h2 : i < e) : rot D s m e i = D (i - (e - m)) := rot_high h1 h2
theorem Cut.e4 {s e i : Nat} (_h : Cut K D a s m e b) (h1 : e ≤ i) : rot D s m e i = D i := rot_out _ (by omega)


theorem Cut.e2 {s e i : Nat} (h : Cut K D a s m e b) (h1 : s ≤ i) (h2 : i < s + (e - m)) : rot D s m e i = D (i + (m - s)) := rot_low h1 h2 h.sm h.me

theorem Cut.left {s e : Nat} (h : Cut K D a s m e b) : Rise K (rot D s m e) a s ∧ Rise K (rot D s m e) s (s + (e - m)) ∧ Low (rot D s m e) a s (s + (e - m)) := by
  have h1 := h.as_
  have h2 := h.sm
  have h3 := h.me
  have h4 := h.eb
  refine ⟨fun i j hi hij hj => ?_, fun i j hi hij hj => ?_, fun i j hi hi2 hj hj2 => ?_⟩
  · rw [h.e1 hi (by omega), h.e1 (by omega) hj]
    exact h.l i j hi hij (by omega)
  · rw [h.e2 hi (by omega), h.e2 (by omega) hj]
    exact h.r _ _ (by omega) (by omega) (by omega)
  · rw [h.e1 hi hi2, h.e2 hj hj2]
    exact h.low _ _ hi (by omega) (by omega) (by omega)

theorem Cut.right {s e : Nat} (h : Cut K D a s m e b) : Rise K (rot D s m e) (s + (e - m)) e ∧ Rise K (rot D s m e) e b ∧ Low (rot D s m e) (s + (e - m)) e b := by
  have h1 := h.as_
  have h2 := h.sm
  have h3 := h.me
  have h4 := h.eb
  refine ⟨fun i j hi hij hj => ?_, fun i j hi hij hj => ?_, fun i j hi hi2 hj hj2 => ?_⟩
  · rw [h.e3 hi (by omega), h.e3 (by omega) hj]
    exact h.l _ _ (by omega) (by omega) (by omega)
  · rw [h.e4 hi, h.e4 (by omega)]
    exact h.r i j (by omega) hij hj
  · rw [h.e3 hi hi2, h.e4 hj]
    exact h.low _ _ (by omega) (by omega) (by omega) hj2

/-- All of the first half come ahead of all of the second. -/
theorem Cut.cross {s e i j : Nat} (h : Cut K D a s m e b) (h1 : a ≤ i) (h2 : i < s + (e - m)) (h3 : s + (e - m) ≤ j) (h4 : j < b) : bef K (rot D s m e i) (rot D s m e j) := by
  have k1 := h.as_
  have k2 := h.sm
  have k3 := h.me
  have k4 := h.eb
  rcases Nat.lt_or_ge i s with hi | hi
  · rw [h.e1 h1 hi]
    rcases Nat.lt_or_ge j e with hj | hj
    · rw [h.e3 h3 hj]
      exact h.l _ _ h1 (by omega) (by omega)
    · rw [h.e4 hj]
      refine bef_of_le ?_ (h.low _ _ h1 (by omega) (by omega) h4)
      have q1 := h.l.key (i := i) (j := s - 1) h1 (by omega) (by omega)
      have q2 := h.r.key (i := e) (j := j) k3 hj h4
      rcases h.c1 with c | c | c <;> omega
  · rw [h.e2 hi h2]
    rcases Nat.lt_or_ge j e with hj | hj
    · rw [h.e3 h3 hj]
      left
      have q1 := h.r.key (i := i + (m - s)) (j := e - 1) (by omega) (by omega) (by omega)
      have q2 := h.l.key (i := s) (j := j - (e - m)) k1 (by omega) (by omega)
      rcases h.c2 with c | c | c <;> omega
    · rw [h.e4 hj]
      exact h.r _ _ (by omega) (by omega) h4

/-- The halves put in order, one behind the other. -/
theorem Cut.merged {s e : Nat} (h : Cut K D a s m e b) {E1 E2 : Nat → Int} (m1 : Merged K (rot D s m e) E1 a (s + (e - m))) (m2 : Merged K E1 E2 (s + (e - m)) b) : Merged K D E2 a b := by
  have k1 := h.as_
  have k2 := h.sm
  have k3 := h.me
  have k4 := h.eb
  have hE1h : ∀ i, s + (e - m) ≤ i → E1 i = rot D s m e i := fun i hi => m1.out i (by omega)
  have hE2l : ∀ i, i < s + (e - m) → E2 i = E1 i := fun i hi => m2.out i (by omega)
  have p2 : (seg E2 (s + (e - m)) b).Perm (seg (rot D s m e) (s + (e - m)) b) := by
    rw [← seg_congr (D := E1) (E := rot D s m e) (fun i h1 _ => hE1h i h1)]
    exact m2.perm
  have s1 : seg E2 a (s + (e - m)) = seg E1 a (s + (e - m)) := seg_congr fun i _ h2 => hE2l i h2
  have hr : (seg (rot D s m e) a b).Perm (seg D a b) := by
    rw [seg_split (m := s) k1 (by omega), seg_split (a := s) (m := e) (by omega) k4, seg_split (D := D) (m := s) k1 (by omega), seg_split (D := D) (a := s) (m := e) (by omega) k4]
    rw [seg_congr (D := rot D s m e) (E := D) (a := a) (b := s) (fun i h1 h2 => h.e1 h1 h2), seg_congr (D := rot D s m e) (E := D) (a := e) (b := b) (fun i h1 _ => h.e4 h1)]
    exact List.Perm.append_left _ (List.Perm.append_right _ (rot_perm k2 k3))
  refine ⟨?_, fun i j hi hij hj => ?_, fun i hi => ?_⟩
  · refine List.Perm.trans ?_ hr
    rw [seg_split (m := s + (e - m)) (by omega) (by omega), seg_split (D := rot D s m e) (m := s + (e - m)) (by omega) (by omega), s1]
    exact List.Perm.append m1.perm p2
  · rcases Nat.lt_or_ge j (s + (e - m)) with h1 | h1
    · rw [hE2l i (by omega), hE2l j h1]
      exact m1.rise i j hi hij h1
    · rcases Nat.lt_or_ge i (s + (e - m)) with h2 | h2
      · rw [hE2l i h2]
        refine perm_all (P := fun y => bef K (E1 i) y) p2 (fun t ht1 ht2 => ?_) j h1 hj
        exact perm_all (P := fun x => bef K x (rot D s m e t)) m1.perm (fun u hu1 hu2 => h.cross hu1 hu2 ht1 ht2) i hi h2
      · exact m2.rise i j h2 hij hj
  · rw [m2.out i (by omega), m1.out i (by omega)]
    exact rot_out _ (by omega)

/-- The first number brought to its place among those behind it. -/
theorem ins_left {e : Nat} (hae : a + 1 ≤ e) (heb : e ≤ b) (hr : Rise K D (a + 1) b) (hlow : Low D a (a + 1) b) (hc2 : e = a + 1 ∨ K (D (e - 1)) < K (D a)) (hc1 : e = b ∨ K (D a) ≤ K (D e)) : Merged K D (rot D a (a + 1) e) a b := by
  have h : Cut K D a a (a + 1) e b := ⟨Nat.le_refl _, by omega, hae, heb, fun i j h1 h2 h3 => by omega, hr, hlow, .inl rfl, by rcases hc2 with c | c; exact .inl c; exact .inr (.inr c)⟩
  refine h.merged (Merged.refl h.left.2.1) (Merged.refl (h.right.1.join h.right.2.1 fun i j h1 h2 h3 h4 => ?_))
  rw [h.e3 h1 h2, h.e4 h3]
  have ei : i - (e - (a + 1)) = a := by omega
  rw [ei]
  refine bef_of_le ?_ (hlow _ _ (Nat.le_refl _) (by omega) (by omega) h4)
  have := hr.key (i := e) (j := j) (by omega) h3 h4
  rcases hc1 with c | c <;> omega

/-- The last number brought to its place among those ahead of it. -/
theorem ins_right {s : Nat} (has : a ≤ s) (hsm : s ≤ m) (hl : Rise K D a m) (hlow : Low D a m (m + 1)) (hc2 : s = m ∨ K (D m) < K (D s)) (hc1 : s = a ∨ K (D (s - 1)) ≤ K (D m)) : Merged K D (rot D s m (m + 1)) a (m + 1) := by
  have h : Cut K D a s m (m + 1) (m + 1) := ⟨has, hsm, by omega, Nat.le_refl _, hl, fun i j h1 h2 h3 => by omega, hlow, .inr (.inl rfl), by rcases hc2 with c | c; exact .inr (.inl c); exact .inr (.inr (by simpa using c))⟩
  refine h.merged (Merged.refl (h.left.1.join h.left.2.1 fun i j h1 h2 h3 h4 => ?_)) (Merged.refl h.right.1)
  rw [h.e1 h1 h2, h.e2 h3 h4]
  have ej : j + (m - s) = m := by omega
  rw [ej]
  refine bef_of_le ?_ (hlow _ _ h1 (by omega) (Nat.le_refl _) (by omega))
  have := hl.key (i := i) (j := s - 1) h1 (by omega) (by omega)
  rcases hc1 with c | c <;> omega

/-- D with two numbers changed about. -/
def swap2 (D : Nat → Int) (x y : Nat) : Nat → Int := fun z => if z = x then D y else if z = y then D x else D z

theorem rot_self (D : Nat → Int) (a b : Nat) : rot D a a b = D := by
  funext x
  unfold rot
  by_cases h : a ≤ x ∧ x < b
  · rw [if_pos h, if_pos (by omega)]; congr 1; omega
  · rw [if_neg h]

theorem rot_self2 (D : Nat → Int) (a b : Nat) : rot D a b b = D := by
  funext x
  unfold rot
  by_cases h : a ≤ x ∧ x < b
  · rw [if_pos h, if_neg (by omega)]; congr 1; omega
  · rw [if_neg h]

/-- The first number goes one place on. -/
theorem swap_on (D : Nat → Int) {a k : Nat} (h : a ≤ k) : swap2 (rot D a (a + 1) (k + 1)) k (k + 1) = rot D a (a + 1) (k + 2) := by
  funext x
  unfold swap2
  by_cases h1 : x = k
  · subst h1
    rw [if_pos rfl, rot_out _ (by omega), rot_low h (by omega) (by omega) (by omega)]
    congr 1
    omega
  · rw [if_neg h1]
    by_cases h2 : x = k + 1
    · subst h2
      rw [if_pos rfl, rot_high (x := k) (by omega) (by omega), rot_high (x := k + 1) (by omega) (by omega)]
      congr 1
      omega
    · rw [if_neg h2]
      by_cases h3 : a ≤ x ∧ x < k
      · rw [rot_low h3.1 (by omega) (by omega) (by omega), rot_low h3.1 (by omega) (by omega) (by omega)]
      · rw [rot_out _ (by omega), rot_out _ (by omega)]

/-- The last number goes one place back. -/
theorem swap_back (D : Nat → Int) {m k : Nat} (h : k + 1 ≤ m) : swap2 (rot D (k + 1) m (m + 1)) (k + 1) k = rot D k m (m + 1) := by
  funext x
  unfold swap2
  by_cases h1 : x = k + 1
  · subst h1
    rw [if_pos rfl, rot_out _ (by omega), rot_high (x := k + 1) (by omega) (by omega)]
    congr 1
    omega
  · rw [if_neg h1]
    by_cases h2 : x = k
    · subst h2
      rw [if_pos rfl, rot_low (x := x + 1) (Nat.le_refl _) (by omega) h (by omega), rot_low (Nat.le_refl _) (by omega) (by omega) (by omega)]
      congr 1
      omega
    · rw [if_neg h2]
      by_cases h3 : k + 1 ≤ x ∧ x < m + 1
      · rw [rot_high (by omega) h3.2, rot_high (by omega) h3.2]
      · rw [rot_out _ (by omega), rot_out _ (by omega)]

/-- D with n numbers from x on and n from y on changed about. -/
def swapR (D : Nat → Int) (x y n : Nat) : Nat → Int := fun z => if x ≤ z ∧ z < x + n then D (y + (z - x)) else if y ≤ z ∧ z < y + n then D (x + (z - y)) else D z

theorem swapR_zero (D : Nat → Int) (x y : Nat) : swapR D x y 0 = D := by
  funext z
  unfold swapR
  rw [if_neg (by omega), if_neg (by omega)]

theorem swapR_step (D : Nat → Int) {x y n : Nat} (h : x + n < y) : swap2 (swapR D x y n) (x + n) (y + n) = swapR D x y (n + 1) := by
  funext z
  unfold swap2 swapR
  repeat' split
  all_goals first
    | rfl
    | (congr 1; omega)

theorem rot_more (D : Nat → Int) {m i j : Nat} (h : j < i) (him : i ≤ m) : rot (swapR D (m - i) m j) (m - (i - j)) m (m + j) = rot D (m - i) m (m + j) := by
  funext x
  unfold rot swapR
  repeat' split
  all_goals first
    | rfl
    | (congr 1; omega)

theorem rot_less (D : Nat → Int) {m i j : Nat} (h : i < j) (him : i ≤ m) : rot (swapR D (m - i) (m + j - i) i) (m - i) m (m + (j - i)) = rot D (m - i) m (m + j) := by
  funext x
  unfold rot swapR
  repeat' split
  all_goals first
    | rfl
    | (congr 1; omega)

theorem rot_even (D : Nat → Int) {m i : Nat} (him : i ≤ m) : swapR D (m - i) m i = rot D (m - i) m (m + i) := by
  funext x
  unfold rot swapR
  repeat' split
  all_goals first
    | rfl
    | (congr 1; omega)

theorem Merged.grow {E' : Nat → Int} (h1 : Merged K D E a m) (h2 : Merged K E E' a (m + 1)) (ham : a ≤ m) : Merged K D E' a (m + 1) := by
  refine ⟨h2.perm.trans ?_, h2.rise, fun i hi => (h2.out i hi).trans (h1.out i (by omega))⟩
  rw [seg_split (m := m) ham (by omega), seg_split (D := D) (m := m) ham (by omega), seg_congr (D := E) (E := D) (a := m) (b := m + 1) (fun i h _ => h1.out i (by omega))]
  exact List.Perm.append_right _ h1.perm

theorem Merged.all {P : Int → Prop} {n : Nat} (h : Merged K D E a b) (hp : ∀ i, i < n → P (D i)) (hb : b ≤ n) : ∀ i, i < n → P (E i) := fun i hi => by
  by_cases hx : a ≤ i ∧ i < b
  · exact perm_all h.perm (fun j _ h2 => hp j (by omega)) i hx.1 hx.2
  · rw [h.out i (by omega)]; exact hp i hi

end

end Go.Proofs.YtgjpchnkodnieaaGreatDoor
namespace Go.Proofs.YtgjpchnkodnieaaGreatDoor

/-- The numbers 1, 2, .. up to L. -/
def upTo (L : Nat) : List Int := (List.range L).map fun (i : Nat) => (i : Int) + 1
theorem upTo_len (L : Nat) : (upTo L).length = L := by simp [upTo]
theorem upTo_get {L i : Nat} (h : i < L) : (upTo L).getD i 0 = (i : Int) + 1 := by simp [upTo, h]

end Go.Proofs.YtgjpchnkodnieaaGreatDoor
namespace Go.Proofs.YtgjpchnkodnieaaGreatDoor

/-- What a place is ordered by: its element, or the element with the other sign. -/
def gradeK (down : Bool) (dt : List Int) (p : Int) : Int := if down then - dt.getD (p - 1).toNat 0 else dt.getD (p - 1).toNat 0

/-- A list of the places 1 to n that rises. -/
def IsGrade (K : Int → Int) (n : Nat) (l : List Int) : Prop := l.Perm (upTo n) ∧ l.Pairwise (bef K)

def gradeL (K : Int → Int) (n : Nat) : List Int := (upTo n).mergeSort fun x y => decide (K x < K y ∨ (K x = K y ∧ x ≤ y))

theorem upTo_ne (n : Nat) : (upTo n).Pairwise (· ≠ ·) := by
  unfold upTo
  rw [List.pairwise_map]
  exact (List.nodup_iff_pairwise_ne.1 List.nodup_range).imp (fun h => by omega)

theorem gradeL_is (K : Int → Int) (n : Nat) : IsGrade K n (gradeL K n) := by
  have hp : (gradeL K n).Perm (upTo n) := List.mergeSort_perm _ _
  refine ⟨hp, ?_⟩
  have h1 : (gradeL K n).Pairwise (fun x y => decide (K x < K y ∨ (K x = K y ∧ x ≤ y)) = true) :=
    List.pairwise_mergeSort (fun a b c h1 h2 => by simp only [decide_eq_true_eq] at *; omega) (fun a b => by simp only [Bool.or_eq_true, decide_eq_true_eq]; omega) _
  have h2 : (gradeL K n).Pairwise (· ≠ ·) := hp.symm.pairwise (upTo_ne n) (fun h => Ne.symm h)
  refine (h1.and h2).imp fun {x y} h => ?_
  have h3 := h.1
  have h4 := h.2
  simp only [decide_eq_true_eq] at h3
  unfold bef
  omega

theorem gradeL_eq {K : Int → Int} {n : Nat} {l : List Int} (h : IsGrade K n l) : gradeL K n = l :=
  rise_unique (gradeL_is K n).2 h.2 ((gradeL_is K n).1.trans h.1.symm)

def gradeA (c : Bool) (sh dt : List Int) (down : Bool) : Ans :=
  if arrOk c sh dt = true then (if sh.length = 1 then ⟨false, sh, gradeL (gradeK down dt) dt.length, 0⟩ else noAns 4) else noAns 3

theorem grade_bad {c : Bool} {sh dt : List Int} {down : Bool} (h : arrOk c sh dt = false) : gradeA c sh dt down = noAns 3 := by unfold gradeA; rw [if_neg (by rw [h]; decide)]
theorem grade_rank {c : Bool} {sh dt : List Int} {down : Bool} (h : arrOk c sh dt = true) (hn : sh.length ≠ 1) : gradeA c sh dt down = noAns 4 := by unfold gradeA; rw [if_pos h, if_neg hn]
theorem grade_go {c : Bool} {sh dt l : List Int} {down : Bool} (h : arrOk c sh dt = true) (hn : sh.length = 1) (hl : IsGrade (gradeK down dt) dt.length l) : gradeA c sh dt down = ⟨false, sh, l, 0⟩ := by unfold gradeA; rw [if_pos h, if_pos hn, gradeL_eq hl]

/-- The shape of a line is its number of elements. -/
theorem line_shape {c : Bool} {sh dt : List Int} (h : arrOk c sh dt = true) (hn : sh.length = 1) : sh = [(dt.length : Int)] := by
  have h1 := (arr_parts h).2
  obtain ⟨x, rfl⟩ : ∃ x, sh = [x] := by
    cases sh with
    | nil => simp at hn
    | cons x t => cases t with
      | nil => exact ⟨x, rfl⟩
      | cons y u => simp at hn
  have h2 := prodAll_count _ (arr_parts h).1
  rw [h1] at h2
  have h3 : prodAll [x] = x := by simp [prodAll]
  rw [← h2, h3]

theorem merged_grade {K : Int → Int} {E : Nat → Int} {n : Nat} (h : Merged K (fun i => (i : Int) + 1) E 0 n) : IsGrade K n ((List.range n).map E) := by
  have e : ∀ D : Nat → Int, seg D 0 n = (List.range n).map D := fun D => by unfold seg; rw [Nat.sub_zero, List.range_eq_range']
  refine ⟨?_, ?_⟩
  · have := h.perm
    rw [e, e] at this
    exact this
  · have := h.rise.pairwise
    rwa [e] at this

end Go.Proofs.YtgjpchnkodnieaaGreatDoor
namespace Go.Proofs.YtgjpchnkodnieaaGreatDoor
open Go.RowKit

set_option maxHeartbeats 400000 in
theorem l4None_any (w : World) : Calls Tryz.prog 53 #[] w fun e w' => e = .returned (.agg #[.bool false, .slice none 0 0, .slice none 0 0]) ∧ Below w.heap.size w w' := by
  go_enter Tryz.func53, Tryz.ntmps53
  go_wp2
  exact bodyPost_ret (v := .agg #[.bool false, .slice none 0 0, .slice none 0 0]) (by simp [results, Tryz.results53, go_sem]) rfl ⟨rfl, (Below.refl _ _).alloc (Nat.le_refl _) _⟩

end Go.Proofs.YtgjpchnkodnieaaGreatDoor
namespace Go.Proofs.YtgjpchnkodnieaaGreatDoor
open Go.RowKit

set_option maxHeartbeats 400000 in
theorem l4Truth_any (b : Bool) (w : World) : Calls Tryz.prog 200 #[.bool b] w fun e w' => e = .returned (.int .i64 (truth b)) ∧ w' = w := by
  cases b
  all_goals
    go_enter Tryz.func200, Tryz.ntmps200
    go_wp2
    go_ret
    exact ⟨rfl, rfl⟩

end Go.Proofs.YtgjpchnkodnieaaGreatDoor
namespace Go.Proofs.YtgjpchnkodnieaaGreatDoor
open Go.RowKit



/-- A scalar function on one number: what it gives and its code. -/
def oneOf (op v : Int) : Int × Int :=
  if op = 1 then (v, 0) else if op = 2 then (-v, 0) else if op = 3 then (truth (decide (0 < v)) - truth (decide (v < 0)), 0)
  else if op = 7 then (if v < 0 then -v else v, 0) else if v ≠ 0 ∧ v ≠ 1 then (0, 3) else (1 - v, 0)

def oneOp (op : Int) : Bool := decide (op = 1 ∨ op = 2 ∨ op = 3 ∨ op = 7 ∨ op = 17)

def scalar1 (op : Int) (c : Bool) (sh dt : List Int) : Ans :=
  if arrOk c sh dt = true ∧ oneOp op = true ∧ c = false ∧ (dt.all fun v => decide ((oneOf op v).2 = 0)) = true then ⟨false, sh, dt.map fun v => (oneOf op v).1, 0⟩ else noAns 3

set_option maxHeartbeats 400000 in
theorem l4One_any (op v : Int) (w : World) (hv : -1000000000000000 ≤ v ∧ v ≤ 1000000000000000) : Calls Tryz.prog 153 #[.int .i64 op, .int .i64 v] w fun e w' => e = .returned (.tuple #[.int .i64 (oneOf op v).1, .int .i64 (oneOf op v).2]) ∧ w' = w := by
  obtain ⟨hv1, hv2⟩ := hv
  by_cases h1 : op = 1
  · subst h1
    have HE : Hid (oneOf 1 v = (v, 0)) := rfl
    go_enter Tryz.func153, Tryz.ntmps153
    go_wp2
    go_ret2
    exact ⟨ret_two (by rw [unhide HE]) (by rw [unhide HE]), rfl⟩
  by_cases h2 : op = 2
  · subst h2
    have HE : Hid (oneOf 2 v = (-v, 0)) := rfl
    go_enter Tryz.func153, Tryz.ntmps153
    go_wp2
    go_ret2
    exact ⟨ret_two (by rw [unhide HE]) (by rw [unhide HE]), rfl⟩
  by_cases h3 : op = 3
  · subst h3
    obtain ⟨r1, hr1⟩ : ∃ r, decide (0 < v) = r := ⟨_, rfl⟩
    obtain ⟨r2, hr2⟩ : ∃ r, decide (v < 0) = r := ⟨_, rfl⟩
    have HE : Hid (oneOf 3 v = (truth r1 - truth r2, 0)) := by show _ = _; rw [← hr1, ← hr2]; rfl
    obtain ⟨b1, b2⟩ := truth_bd r1
    obtain ⟨b3, b4⟩ := truth_bd r2
    go_enter Tryz.func153, Tryz.ntmps153
    go_wp2_with (go_at_call 200; refine (l4Truth_any _ _).mono ?_; rintro e w1 ⟨rfl, rfl⟩)
    go_ret2
    exact ⟨ret_two (by rw [unhide HE]) (by rw [unhide HE]), rfl⟩
  by_cases h7 : op = 7
  · subst h7
    by_cases hn : v < 0
    · have HE : Hid (oneOf 7 v = (-v, 0)) := by show _ = _; simp [oneOf, hn]
      go_enter Tryz.func153, Tryz.ntmps153
      go_wp2
      go_ret2
      exact ⟨ret_two (by rw [unhide HE]) (by rw [unhide HE]), rfl⟩
    · have HE : Hid (oneOf 7 v = (v, 0)) := by show _ = _; simp [oneOf, hn]
      go_enter Tryz.func153, Tryz.ntmps153
      go_wp2
      go_ret2
      exact ⟨ret_two (by rw [unhide HE]) (by rw [unhide HE]), rfl⟩
  have q1 : (op == 1) = false := by simp [h1]
  have q2 : (op == 2) = false := by simp [h2]
  have q3 : (op == 3) = false := by simp [h3]
  have q7 : (op == 7) = false := by simp [h7]
  by_cases hv0 : v = 0
  · subst hv0
    have HE : Hid (oneOf op 0 = (1, 0)) := by show _ = _; simp [oneOf, h1, h2, h3, h7]
    clear h1 h2 h3 h7
    go_enter Tryz.func153, Tryz.ntmps153
    go_wp2
    go_ret2
    exact ⟨ret_two (by rw [unhide HE]) (by rw [unhide HE]), rfl⟩
  by_cases hv3 : v = 1
  · subst hv3
    have HE : Hid (oneOf op 1 = (0, 0)) := by show _ = _; simp [oneOf, h1, h2, h3, h7]
    clear h1 h2 h3 h7
    go_enter Tryz.func153, Tryz.ntmps153
    go_wp2
    go_ret2
    exact ⟨ret_two (by rw [unhide HE]) (by rw [unhide HE]), rfl⟩
  have HE : Hid (oneOf op v = (0, 3)) := by show _ = _; simp [oneOf, h1, h2, h3, h7, hv0, hv3]
  have u0 : (v != 0) = true := by simp [hv0]
  have u1 : (v != 1) = true := by simp [hv3]
  clear h1 h2 h3 h7 hv0 hv3
  go_enter Tryz.func153, Tryz.ntmps153
  go_wp2
  go_ret2
  exact ⟨ret_two (by rw [unhide HE]) (by rw [unhide HE]), rfl⟩

end Go.Proofs.YtgjpchnkodnieaaGreatDoor
