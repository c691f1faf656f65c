import Derived.Test.YtkgcmpmgaghdhaaGreatDoorMFit0
import Derived.Test.YtkgcmpmgaghdhaaGreatDoorMFit0
import Derived.Deep.RegionHeld3
import Derived.BigRegion
import Derived.Deep.RegionLaw
import Derived.Deep.RegionHeld
import Derived.OrdersHeld
import Derived.RegionTactic
import Derived.WalkKit
import Derived.Deep.AppendLies
import Derived.Laws.OwnMore
import Derived.Laws.AppendOwnNone
import Derived.RangeFuncRecord
import Derived.RangeFuncNested
import Derived.RangeFuncLeaves
import Derived.RangeFuncWrites
import Derived.BigQuiet
import Derived.RangeFuncBound
import Derived.RangeFuncCalls
import Derived.Shelf.Abstract
import Derived.Shelf.RegionOpen
import Derived.OwnWalkIn
import Derived.TacticsInMore
import Derived.LoopNIn
import Derived.LoopIn
import Derived.Maps.Views
import Derived.Maps.OwnIn
import Derived.Maps.Own
import Derived.WalkSpells
import Derived.Lib.SliceRun
import Derived.Maps.OwnOps
import Derived.Deep.DeepCutAuto
namespace Go.Proofs.YtkgcmpmgaghdhaaGreatDoor
open Go.RowKit

/-- An array of the draw's own lies in box p4, the answer's box p0 is untouched. -/
def AG (w : World) (pr p0 p4 : Nat) (wx : World) : Prop :=
  ∃ (c : Bool) (a1 a2 : Addr) (n1 n2 c1 c2 : Nat) (sh dt : List Int), Box wx p4 c (.slice (some a1) n1 c1) (.slice (some a2) n2 c2) ∧ Own wx w.heap.size (some a1) n1 sh ∧ Own wx w.heap.size (some a2) n2 dt ∧ n1 ≤ 6 ∧ n2 ≤ 10001 ∧ RdOk wx pr ∧ But (fun x => x = pr) w wx ∧ Box wx p0 false (.slice none 0 0) (.slice none 0 0)

theorem ag_set {w wx : World} {pr p0 p4 : Nat} {c c' : Bool} {v1 v2 : Value} {a1 a2 : Addr} {n1 n2 c1 c2 : Nat} {sh dt : List Int} (hb : Box wx p4 c v1 v2) (o1 : Own wx w.heap.size (some a1) n1 sh) (o2 : Own wx w.heap.size (some a2) n2 dt) (ne1 : ∀ k, At (some a1) n1 k → k ≠ p4) (ne2 : ∀ k, At (some a2) n2 k → k ≠ p4) (h1 : n1 ≤ 6) (h2 : n2 ≤ 10001) (hr : RdOk wx pr) (hbut : But (fun x => x = pr) w wx) (h0 : Box wx p0 false (.slice none 0 0) (.slice none 0 0)) (hp4 : w.heap.size ≤ p4) (hpr : pr < w.heap.size) (hne : p0 ≠ p4) :
    AG w pr p0 p4 (((wx.setCell ⟨p4, 0, none⟩ (.bool c')).setCell ⟨p4, 1, none⟩ (.slice (some a1) n1 c1)).setCell ⟨p4, 2, none⟩ (.slice (some a2) n2 c2)) := by
  have hs : But (fun x => x = p4) wx (((wx.setCell ⟨p4, 0, none⟩ (.bool c')).setCell ⟨p4, 1, none⟩ (.slice (some a1) n1 c1)).setCell ⟨p4, 2, none⟩ (.slice (some a2) n2 c2)) := (((But.refl (fun x => x = p4) wx).setCell (p := ⟨p4, 0, none⟩) rfl _).setCell (p := ⟨p4, 1, none⟩) rfl _).setCell (p := ⟨p4, 2, none⟩) rfl _
  exact ⟨c', a1, a2, n1, n2, c1, c2, sh, dt, hb.sets, hs.own o1 (by rintro k rfl hk; exact ne1 _ hk rfl), hs.own o2 (by rintro k rfl hk; exact ne2 _ hk rfl), h1, h2, hr.but hs (by rintro k rfl; omega), ((hbut.setNew (p := ⟨p4, 0, none⟩) hp4 _).setNew (p := ⟨p4, 1, none⟩) hp4 _).setNew (p := ⟨p4, 2, none⟩) hp4 _, h0.but hs (by show ¬ p0 = p4; exact hne)⟩

theorem own_of_lits (w : World) (B : Nat) (l : List Int) (hB : B ≤ w.heap.size) (hl : l.length ≤ 100) : Own (w.alloc (.cells (l.map (Value.int .i64)).toArray 3)) B (some ⟨w.heap.size, 0, none⟩) l.length l :=
  (show Blk (w.alloc _) w.heap.size l from World.alloc_heap_new w _).own rfl (by omega) hB

theorem divN (k m : Nat) : ∃ j : Nat, j = k / m ∧ (k : Int).tdiv (m : Int) = (j : Int) ∧ (k : Int) / (m : Int) = (j : Int) := ⟨k / m, rfl, by rw [Int.tdiv_eq_ediv_of_nonneg (by omega)]; rfl, rfl⟩

theorem Own.take {w : World} {B n m : Nat} {a : Option Addr} {zs : List Int} (h : Own w B a n zs) (hm : m ≤ n) : Own w B a m (zs.take m) := by
  refine ⟨by rw [List.length_take, h.len]; omega, by have := h.small; omega, ?_⟩
  rcases h.at_ with h0 | ⟨b, off, e, hb, hlt, hc, hf⟩
  · exact .inl (by omega)
  · refine .inr ⟨b, off, e, hb, hlt, fun i hi => ?_, fun i hi => hf i (by omega)⟩
    rw [hc i (by omega)]
    simp [List.getD, hi]

theorem box_set1 {w : World} {p : Nat} {c : Bool} {v1 v2 : Value} (h : Box w p c v1 v2) (v : Value) : Box (w.setCell ⟨p, 1, none⟩ v) p c v v2 := by
  unfold Box at h ⊢
  rw [heap_setCell_same w p 1 _ _ _ h]
  simp

/-- What is known of the array before it is spoilt. -/
structure AW (w : World) (pr p0 p4 : Nat) (c : Bool) (g1 g2 n1 n2 c1 c2 : Nat) (sh dt : List Int) (wx : World) : Prop where
  box : Box wx p4 c (.slice (some ⟨g1, 0, none⟩) n1 c1) (.slice (some ⟨g2, 0, none⟩) n2 c2)
  o1 : wx.ownsRow w.heap.size 3 1 (.slice (some ⟨g1, 0, none⟩) n1 c1) n1 (sh.map (Value.int .i64))
  o2 : wx.ownsRow w.heap.size 3 1 (.slice (some ⟨g2, 0, none⟩) n2 c2) n2 (dt.map (Value.int .i64))
  ne : g1 ≠ g2
  h1 : n1 ≤ 6
  h2 : n2 ≤ 10001
  rd : RdOk wx pr
  but : But (fun x => x = pr) w wx
  b0 : Box wx p0 false (.slice none 0 0) (.slice none 0 0)
  hp : pr < w.heap.size
  h4 : w.heap.size ≤ p4
  h0 : w.heap.size ≤ p0

section
variable {w wx w' : World} {pr p0 p4 g1 g2 n1 n2 c1 c2 : Nat} {c : Bool} {sh dt : List Int}
theorem AW.ag (h : AW w pr p0 p4 c g1 g2 n1 n2 c1 c2 sh dt wx) : AG w pr p0 p4 wx := by
  obtain ⟨_, _, e1, q1⟩ := Own.of_owns h.o1 (by have := h.h1; omega)
  obtain ⟨_, _, e2, q2⟩ := Own.of_owns h.o2 (by have := h.h2; omega)
  cases e1
  cases e2
  exact ⟨c, _, _, n1, n2, c1, c2, sh, dt, h.box, q1, q2, h.h1, h.h2, h.rd, h.but, h.b0⟩

theorem AW.next (h : AW w pr p0 p4 c g1 g2 n1 n2 c1 c2 sh dt wx) (hb : But (fun x => x = pr) wx w') (hr : RdOk w' pr) : AW w pr p0 p4 c g1 g2 n1 n2 c1 c2 sh dt w' :=
  ⟨h.box.but hb (by have := h.h4; have := h.hp; show ¬ p4 = pr; omega), owns_but h.o1 hb (by have := owns_from h.o1; have := h.hp; show ¬ g1 = pr; omega), owns_but h.o2 hb (by have := owns_from h.o2; have := h.hp; show ¬ g2 = pr; omega), h.ne, h.h1, h.h2, hr, (h.but.trans hb).mono (by rintro x (h | h) <;> exact h), h.b0.but hb (by have := h.h0; have := h.hp; show ¬ p0 = pr; omega), h.hp, h.h4, h.h0⟩

theorem AW.p04 (h : AW w pr p0 p4 c g1 g2 n1 n2 c1 c2 sh dt wx) : p0 ≠ p4 := by
  intro e
  subst e
  have h1 := h.box
  have h2 := h.b0
  unfold Box at h1 h2
  rw [h1] at h2
  simp at h2

theorem AW.below (h : AW w pr p0 p4 c g1 g2 n1 n2 c1 c2 sh dt wx) (hb : Below wx.heap.size wx w') : AW w pr p0 p4 c g1 g2 n1 n2 c1 c2 sh dt w' := h.next (But.of_below hb) (h.rd.below hb)

/-- One number more behind the shape. -/
theorem AW.push1 {g' cap' : Nat} {x : Int} {o : Obj} (h : AW w pr p0 p4 c g1 g2 n1 n2 c1 c2 sh dt wx) (hn : n1 ≤ 5) (hown : w'.ownsRow w.heap.size 3 1 (.slice (some ⟨g', 0, none⟩) (n1 + 1) cap') (n1 + 1) (sh.map (Value.int .i64) ++ [.int .i64 x])) (hg : (wx.alloc o).grownBy w' (Value.ownBlock (.slice (some ⟨g1, 0, none⟩) n1 c1))) :
    Box w' p4 c (.slice (some ⟨g1, 0, none⟩) n1 c1) (.slice (some ⟨g2, 0, none⟩) n2 c2) ∧ AG w pr p0 p4 (w'.setCell ⟨p4, 1, none⟩ (.slice (some ⟨g', 0, none⟩) (n1 + 1) cap')) := by
  have hg' : (wx.alloc o).grownBy w' (some g1) := hg
  have hb6 := h.box.grown h.o1 o hg
  have h06 := h.b0.grown h.o1 o hg
  obtain ⟨hrd, hbt⟩ := draw_grown h.rd h.but h.hp (owns_from h.o1) hg'
  have o26 := owns_but h.o2 (but_grown hg') (fun e => h.ne e.symm)
  have hs : But (fun x => x = p4) w' (w'.setCell ⟨p4, 1, none⟩ (.slice (some ⟨g', 0, none⟩) (n1 + 1) cap')) := (But.refl (fun x => x = p4) w').setCell (p := ⟨p4, 1, none⟩) rfl _
  rw [show sh.map (Value.int .i64) ++ [.int .i64 x] = (sh ++ [x]).map (Value.int .i64) by simp] at hown
  obtain ⟨_, _, e1, q1⟩ := Own.of_owns (owns_but hown hs (owns_nebox hown hb6)) (by omega)
  obtain ⟨_, _, e2, q2⟩ := Own.of_owns (owns_but o26 hs (owns_nebox o26 hb6)) (by have := h.h2; omega)
  cases e1
  cases e2
  have hp4 := h.h4
  have hp := h.hp
  exact ⟨hb6, c, _, _, n1 + 1, n2, cap', c2, sh ++ [x], dt, box_set1 hb6 _, q1, q2, by omega, h.h2, hrd.but hs (by rintro k rfl; omega), hbt.setNew (p := ⟨p4, 1, none⟩) hp4 _, h06.but hs (by show ¬ p0 = p4; exact h.p04)⟩

/-- One element more behind the elements. -/
theorem AW.push2 {g' cap' : Nat} {x : Int} {o : Obj} (h : AW w pr p0 p4 c g1 g2 n1 n2 c1 c2 sh dt wx) (hn : n2 ≤ 10000) (hown : w'.ownsRow w.heap.size 3 1 (.slice (some ⟨g', 0, none⟩) (n2 + 1) cap') (n2 + 1) (dt.map (Value.int .i64) ++ [.int .i64 x])) (hg : (wx.alloc o).grownBy w' (Value.ownBlock (.slice (some ⟨g2, 0, none⟩) n2 c2))) :
    Box w' p4 c (.slice (some ⟨g1, 0, none⟩) n1 c1) (.slice (some ⟨g2, 0, none⟩) n2 c2) ∧ AG w pr p0 p4 (w'.setCell ⟨p4, 2, none⟩ (.slice (some ⟨g', 0, none⟩) (n2 + 1) cap')) := by
  have hg' : (wx.alloc o).grownBy w' (some g2) := hg
  have hb6 := h.box.grown h.o2 o hg
  have h06 := h.b0.grown h.o2 o hg
  obtain ⟨hrd, hbt⟩ := draw_grown h.rd h.but h.hp (owns_from h.o2) hg'
  have o16 := owns_but h.o1 (but_grown hg') h.ne
  have hs : But (fun x => x = p4) w' (w'.setCell ⟨p4, 2, none⟩ (.slice (some ⟨g', 0, none⟩) (n2 + 1) cap')) := (But.refl (fun x => x = p4) w').setCell (p := ⟨p4, 2, none⟩) rfl _
  rw [show dt.map (Value.int .i64) ++ [.int .i64 x] = (dt ++ [x]).map (Value.int .i64) by simp] at hown
  obtain ⟨_, _, e1, q1⟩ := Own.of_owns (owns_but o16 hs (owns_nebox o16 hb6)) (by have := h.h1; omega)
  obtain ⟨_, _, e2, q2⟩ := Own.of_owns (owns_but hown hs (owns_nebox hown hb6)) (by omega)
  cases e1
  cases e2
  have hp4 := h.h4
  have hp := h.hp
  exact ⟨hb6, c, _, _, n1, n2 + 1, c1, cap', sh, dt ++ [x], hb6.set2 _, q1, q2, h.h1, by omega, hrd.but hs (by rintro k rfl; omega), hbt.setNew (p := ⟨p4, 2, none⟩) hp4 _, h06.but hs (by show ¬ p0 = p4; exact h.p04)⟩
end

set_option maxRecDepth 20000 in
set_option maxHeartbeats 8000000 in
theorem l3Array_any (pr : Nat) (w : World) (h : RdOk w pr) :
    Calls Tryz.prog 40 #[.pointer (some ⟨pr, 0, none⟩)] w fun e w' => (∃ (c : Bool) (a1 a2 : Addr) (n1 n2 c1 c2 : Nat) (sh dt : List Int), e = .returned (.agg #[.bool c, .slice (some a1) n1 c1, .slice (some a2) n2 c2]) ∧ Own w' w.heap.size (some a1) n1 sh ∧ Own w' w.heap.size (some a2) n2 dt ∧ n1 ≤ 6 ∧ n2 ≤ 10001) ∧ RdOk w' pr ∧ But (fun x => x = pr) w w' := by
  have hlw := h.lt
  obtain ⟨i0, hi, hz0, hz1, hz2⟩ := info_parts info_int
  have hb0 : Below w.heap.size w (w.alloc (.cells #[.bool false, .slice none 0 0, .slice none 0 0] 25)) := (Below.refl _ w).alloc (Nat.le_refl _) _
  have HP0 : Hid (Box (w.alloc (.cells #[.bool false, .slice none 0 0, .slice none 0 0] 25)) w.heap.size false (.slice none 0 0) (.slice none 0 0)) := Box.new w _ _ _
  have HBB : Hid (But (fun x => x = pr) w (w.alloc (.cells #[.bool false, .slice none 0 0, .slice none 0 0] 25))) := But.of_below hb0
  have hcall := next_any pr _ (h.below hb0)
  clear h hb0
  go_enter Tryz.func40, Tryz.ntmps40
  go_upto_region 2 with (go_at_call 72; refine hcall.mono ?_; rintro e w1 ⟨⟨k, hk, rfl⟩, hr1, hb1⟩; have HR1 := hide hr1; have HB1' := hide hb1; clear hr1 hb1)
  clear hcall
  have HP1 := hide ((unhide HP0).but (unhide HB1') (by show ¬ w.heap.size = pr; omega))
  have HB1 : Hid (But (fun x => x = pr) w w1) := ((unhide HBB).trans (unhide HB1')).mono (by rintro x (h | h) <;> exact h)
  clear HP0 HBB HB1'
  obtain ⟨j5, hj5, q5, q5'⟩ := modN k 5 (by omega)
  have r5 : (k : Int).tmod 5 = (j5 : Int) := q5
  have r5' : (k : Int) % 5 = (j5 : Int) := q5'
  obtain ⟨bc, hbc⟩ : ∃ bc, ((j5 : Int) == 4) = bc := ⟨_, rfl⟩
  have hcS := l3Shape_any pr w1 (unhide HR1)
  have hw1 := (unhide HP1).lt
  clear q5 q5'
  go_upto_region 3 with (first
    | (go_at_call 112; refine hcS.mono ?_; rintro e w2 ⟨⟨g1, n1, cap1, zs, rfl, hn1, ho1⟩, hr2, hb2⟩; obtain ⟨_, _, ev, hO1⟩ := Own.of_owns ho1 (by omega); cases ev; have HR2 := hide hr2; have HB2 := hide hb2; have HO2 := hide ho1; have HQ2 := hide hO1; clear hr2 hb2 ho1 hO1)
    | (go_at_call 111; refine (l3Of_any pr g1 n1 cap1 bc zs _ (unhide HR2) (unhide HQ2).row (by have := owns_from (unhide HO2); have := (unhide HR1).lt; omega)).mono ?_; rintro e w3 ⟨⟨g2, n2, cap2, dt, rfl, hn2, ho2⟩, hr3, hb3⟩; have HR3 := hide hr3; have HB3 := hide hb3; have HO3 := hide ho2; clear hr3 hb3 ho2))
  clear hcS
  obtain ⟨p4, hp4⟩ : ∃ p, p = w3.heap.size := ⟨_, rfl⟩
  obtain ⟨W4, hW4⟩ : ∃ W, W = w3.alloc (.cells #[.bool bc, .slice (some ⟨g1, 0, none⟩) n1 cap1, .slice (some ⟨g2, 0, none⟩) n2 cap2] 25) := ⟨_, rfl⟩
  have hz12 := (unhide HB2).size
  have hz23 := (unhide HB3).size
  have HAW : Hid (AW w pr w.heap.size p4 bc g1 g2 n1 n2 cap1 cap2 zs dt W4) := by
    have hge1 := owns_from (unhide HO2)
    have hge2 := owns_from (unhide HO3)
    have hg1l : g1 < w2.heap.size := owns_lt (unhide HO2) rfl
    have hprl := (unhide HR1).lt
    have hb4 : Below w3.heap.size w3 W4 := by rw [hW4]; exact (Below.refl _ _).alloc (Nat.le_refl _) _
    refine ⟨by rw [hW4, hp4]; exact Box.new w3 _ _ _, owns_mono (owns_below (owns_but (unhide HO2) (unhide HB3) (by show ¬ g1 = pr; omega)) (Nat.le_refl _) hb4) (by omega), owns_mono (owns_below (unhide HO3) (Nat.le_refl _) hb4) (by omega), by omega, by omega, by omega, (unhide HR3).below hb4, ?_, ?_, hlw, by omega, Nat.le_refl _⟩
    · exact ((((unhide HB1).trans (unhide HB2)).trans (unhide HB3)).trans (T := fun x => x = pr) (But.of_below hb4)).mono (by rintro x (((h | h) | h) | h) <;> exact h)
    · exact (((unhide HP1).but (unhide HB2) (by show ¬ w.heap.size = pr; omega)).but (unhide HB3) (by show ¬ w.heap.size = pr; omega)).below (Nat.le_refl _) hb4
  rw [← hW4, ← hp4]
  clear hW4 hp4 HR1 HR2 HR3 HB1 HB2 HB3 HP1 HO2 HO3 HQ2 hz12 hz23 hw1
  go_upto_if 17 with fail
  go_cut [] (fun wx => AG w pr w.heap.size p4 wx)
  case first =>
    by_cases h246 : 246 ≤ k
    · have h246z : (246 : Int) ≤ (k : Int) := by omega
      have hcall := next_any pr _ (unhide HAW).rd
      go_upto_region 5 with (go_at_call 72; refine hcall.mono ?_; rintro e w5 ⟨⟨v, hv, rfl⟩, hr5, hb5⟩; have HW5 := hide ((unhide HAW).next hb5 hr5); clear hr5 hb5)
      clear hcall HAW
      obtain ⟨j, hj, q6, q6'⟩ := modN v 6 (by omega)
      have r6 : (v : Int).tmod 6 = (j : Int) := q6
      have r6' : (v : Int) % 6 = (j : Int) := q6'
      obtain ⟨d, hd0, qd, qd'⟩ := divN v 6
      have rd' : (v : Int).tdiv 6 = (d : Int) := qd
      have rd'' : (v : Int) / 6 = (d : Int) := qd'
      have hd255 : d ≤ 255 := by rw [hd0]; exact Nat.le_trans (Nat.div_le_self v 6) hv
      clear q6 q6' qd qd' hd0 h246z h246 r5 r5'
      obtain ⟨y0, y1, y2, y3, y4, y5, y6⟩ := (unhide HW5).box.all
      have hsz5 := (unhide HW5).but.size
      have hn25 := (unhide HW5).h2
      by_cases e0 : j = 0
      · have g0 : ((j : Int) == 0) = true := by simp [e0]
        clear e0
        go_wp2_with (at_builtin; refine wpList_append_lies _ rfl _ _ 23 rfl w.heap.size 3 i0 (.int .i64 0) 1 8 Tryz.underlying23 hi hz0 hz1 hz2 rfl (by decide) _ _ _ rfl (owns_below (unhide HW5).o2 (Nat.le_refl _) ((Below.refl _ _).alloc (Nat.le_refl _) _)) ⟨w5.heap.size, 0, none⟩ 1 1 [.int .i64 1] rfl rfl (cells_new _ _) (one_one _) (by omega) (by unfold maxLen; omega) (by omega) (by simp; omega) (w5.heap.size + 1) (by simp) ?_; intro g' cap' w7 hown' hgrow hat hlt7; have HD7 := hide ((unhide HW5).push2 hn2 hown' hgrow); clear hown' hgrow hat hlt7 y0 y1 y2 y3 y4 y5 y6; obtain ⟨y0, y1, y2, y3, y4, y5, y6⟩ := (unhide HD7).1.all)
        go_meet
        case rel => exact (unhide HD7).2
      · have g0 : ((j : Int) == 0) = false := by simp; omega
        by_cases e1 : j = 1
        · have g1' : ((j : Int) == 1) = true := by simp [e1]
          obtain ⟨t4, ht4, qt, qt'⟩ := modN d 4 (by omega)
          have rt : (d : Int).tmod 4 = (t4 : Int) := qt
          have rt' : (d : Int) % 4 = (t4 : Int) := qt'
          have hwt : IntKind.i64.wrap (t4 : Int) = (t4 : Int) := by rw [IntKind.wrap_i64]; omega
          obtain ⟨x, hx⟩ : ∃ x, x = ([1, 0, -1, 10001] : List Int).getD t4 0 := ⟨_, rfl⟩
          have hc : ∀ W : World, (W.alloc (.cells #[.int .i64 1, .int .i64 0, .int .i64 (-1), .int .i64 10001] 3)).cell? ⟨W.heap.size, t4, none⟩ = some (.int .i64 x) := fun W => by
            rw [hx]; exact lits W [1, 0, -1, 10001] t4 (by simpa using ht4)
          have hc1 := hc w5
          have hc2 := hc w5.drew
          have HRD1 := hide rd'
          have HRT1 := hide rt
          have hn15 : n1 ≤ 5 := hn1
          have hnw : ∀ (u : Int) (j : Nat) (y : Value), ([.int .i64 u] : List Value)[j]? = some y → ((w5.alloc (.cells #[.int .i64 1, .int .i64 0, .int .i64 (-1), .int .i64 10001] 3)).alloc (.cells #[.int .i64 u] 3)).cell? ((⟨w5.heap.size + 1, 0, none⟩ : Addr).add j) = some y := fun u => by
            have h := cells_new (w5.alloc (.cells #[.int .i64 1, .int .i64 0, .int .i64 (-1), .int .i64 10001] 3)) u
            rw [World.size_alloc] at h
            exact h
          have HY : Hid (AW w pr w.heap.size p4 bc g1 g2 n1 n2 cap1 cap2 zs dt (w5.alloc (.cells #[.int .i64 1, .int .i64 0, .int .i64 (-1), .int .i64 10001] 3)).drew) := (unhide HW5).below (((Below.refl _ _).alloc (Nat.le_refl _) _).drew)
          clear hx qt qt' hc
          go_upto_region 9 with fail
          have htz0 : (0 : Int) ≤ (t4 : Int) := by omega
          have htz2 : (t4 : Int) < 4 := by omega
          have rd3 : (v : Int).tdiv 6 = (d : Int) := unhide HRD1
          have rt3 : (d : Int).tmod 4 = (t4 : Int) := unhide HRT1
          have hwd : IntKind.i64.wrap (d : Int) = (d : Int) := by rw [IntKind.wrap_i64]; omega
          go_region_law (first | (refine step_append_lies _ (by rfl) _ _ _ (by rfl) w.heap.size 3 i0 _ 1 8 Tryz.underlying23 hi hz0 hz1 hz2 rfl (by omega) (.slice (some ⟨g1, 0, none⟩) n1 cap1) n1 (zs.map (Value.int .i64)) (by rfl) (by exact (unhide HY).o1.alloc _) ⟨w5.heap.size + 1, 0, none⟩ 1 1 [.int .i64 x] (by rfl) (by rfl) (by exact hnw _) (one_one _) (by omega) (by unfold maxLen; omega) (by omega) (by simp; omega) (w5.heap.size + 2) (by simp) ?_; intro g' cap' w7 hown' hgrow hat hlt7; have HD7 := hide ((unhide HY).push1 hn15 hown' (by exact hgrow)); clear hown' hgrow hat hlt7 y0 y1 y2 y3 y4 y5 y6; obtain ⟨y0, y1, y2, y3, y4, y5, y6⟩ := (unhide HD7).1.all))
          all_goals go_wp2_with fail
          all_goals (go_meet; case rel => exact (unhide HD7).2)
        · have g1' : ((j : Int) == 1) = false := by simp; omega
          by_cases e2 : j = 2
          · have g2' : ((j : Int) == 2) = true := by simp [e2]
            obtain ⟨t2, ht2, qt, qt'⟩ := modN d 2 (by omega)
            have rt : (d : Int).tmod 2 = (t2 : Int) := qt
            have rt' : (d : Int) % 2 = (t2 : Int) := qt'
            obtain ⟨nn, hnn⟩ : ∃ nn : Nat, nn = 10000 + t2 := ⟨_, rfl⟩
            have hsum : (10000 : Int) + (t2 : Int) = (nn : Int) := by omega
            have hnb : nn ≤ 10001 := by omega
            have hwn : IntKind.i64.wrap (nn : Int) = (nn : Int) := by rw [IntKind.wrap_i64]; omega
            have hmk := run_make_row' (P := Tryz.prog) 23 3 (.int .i64 0) 8 Tryz.underlying23 info_int rfl .i64 .i64 nn (by omega) (by omega)
            clear qt qt' hnn e0 e1 e2
            go_wp2_with fail
            go_meet
            case rel =>
              obtain ⟨X, hX⟩ : ∃ X, X = ((w5.setCell ⟨p4, 0, none⟩ (.bool false)).setCell ⟨p4, 1, none⟩ (.slice (some ⟨w5.heap.size, 0, none⟩) 1 1)).setCell ⟨p4, 2, none⟩ (.slice (some ⟨w5.heap.size + 1, 0, none⟩) nn nn) := ⟨_, rfl⟩
              have hXs : X.heap.size = w5.heap.size := by rw [hX]; simp
              have hs : But (fun x => x = p4) w5 X := by rw [hX]; exact (((But.refl (fun x => x = p4) w5).setCell (p := ⟨p4, 0, none⟩) rfl _).setCell (p := ⟨p4, 1, none⟩) rfl _).setCell (p := ⟨p4, 2, none⟩) rfl _
              have hbx : Box X p4 false (.slice (some ⟨w5.heap.size, 0, none⟩) 1 1) (.slice (some ⟨w5.heap.size + 1, 0, none⟩) nn nn) := by rw [hX]; exact (unhide HW5).box.sets
              have hbt : But (fun x => x = pr) w X := by rw [hX]; exact (((unhide HW5).but.setNew (p := ⟨p4, 0, none⟩) (unhide HW5).h4 _).setNew (p := ⟨p4, 1, none⟩) (unhide HW5).h4 _).setNew (p := ⟨p4, 2, none⟩) (unhide HW5).h4 _
              rw [← hX]
              have h44 := (unhide HW5).h4
              have hpp := (unhide HW5).hp
              have hrd := (unhide HW5).rd.but hs (by rintro k rfl; omega)
              have hb0 := (unhide HW5).b0.but hs (by show ¬ w.heap.size = p4; exact (unhide HW5).p04)
              have b1 : Blk ((X.alloc (.cells #[.int .i64 (nn : Nat)] 3)).alloc (.cells (madeCells #[.int .i64 0] nn) 3)) w5.heap.size [(nn : Int)] := by rw [← hXs]; exact (show Blk (X.alloc _) X.heap.size [(nn : Int)] from World.alloc_heap_new X _).alloc _
              have b2 : Blk ((X.alloc (.cells #[.int .i64 (nn : Nat)] 3)).alloc (.cells (madeCells #[.int .i64 0] nn) 3)) (w5.heap.size + 1) (List.replicate nn 0) := Blk.made _ _ _ (by simp [hXs])
              have hbw : Below X.heap.size X ((X.alloc (.cells #[.int .i64 (nn : Nat)] 3)).alloc (.cells (madeCells #[.int .i64 0] nn) 3)) := ((Below.refl _ X).alloc (Nat.le_refl _) _).alloc (by simp) _
              refine ⟨false, ⟨w5.heap.size, 0, none⟩, ⟨w5.heap.size + 1, 0, none⟩, 1, nn, 1, nn, [(nn : Int)], List.replicate nn 0, hbx.below (Nat.le_refl _) hbw, b1.own rfl (by omega) (by omega), b2.own (by simp) (by omega) (by omega), by omega, hnb, hrd.below hbw, ?_, hb0.below (Nat.le_refl _) hbw⟩
              exact (hbt.trans (T := fun x => x = pr) (But.of_below hbw)).mono (by rintro x (h | h) <;> exact h)
          · have g2' : ((j : Int) == 2) = false := by simp; omega
            by_cases e3 : j = 3
            · have g3' : ((j : Int) == 3) = true := by simp [e3]
              obtain ⟨t2, ht2, qt, qt'⟩ := modN d 2 (by omega)
              have rt : (d : Int).tmod 2 = (t2 : Int) := qt
              have rt' : (d : Int) % 2 = (t2 : Int) := qt'
              obtain ⟨nn, hnn⟩ : ∃ nn : Nat, nn = 5 + t2 := ⟨_, rfl⟩
              have hsum : (5 : Int) + (t2 : Int) = (nn : Int) := by omega
              have hnb : nn ≤ 6 := by omega
              have hnz : (nn : Int) ≤ 6 := by omega
              have hwn : IntKind.i64.wrap (nn : Int) = (nn : Int) := by rw [IntKind.wrap_i64]; omega
              have hp4l := (unhide HW5).box.lt
              clear qt qt' hnn e0 e1 e2 e3
              go_wp2_with fail
              go_meet
              case rel =>
                obtain ⟨X, hX⟩ : ∃ X, X = (w5.setCell ⟨p4, 1, none⟩ (.slice (some ⟨w5.heap.size, 0, none⟩) nn 6)).setCell ⟨p4, 2, none⟩ (.slice (some ⟨w5.heap.size + 1, 0, none⟩) 1 1) := ⟨_, rfl⟩
                have hXs : X.heap.size = w5.heap.size := by rw [hX]; simp
                have hs : But (fun x => x = p4) w5 X := by rw [hX]; exact ((But.refl (fun x => x = p4) w5).setCell (p := ⟨p4, 1, none⟩) rfl _).setCell (p := ⟨p4, 2, none⟩) rfl _
                have hbx : Box X p4 bc (.slice (some ⟨w5.heap.size, 0, none⟩) nn 6) (.slice (some ⟨w5.heap.size + 1, 0, none⟩) 1 1) := by rw [hX]; exact (box_set1 (unhide HW5).box _).set2 _
                have hbt : But (fun x => x = pr) w X := by rw [hX]; exact ((unhide HW5).but.setNew (p := ⟨p4, 1, none⟩) (unhide HW5).h4 _).setNew (p := ⟨p4, 2, none⟩) (unhide HW5).h4 _
                rw [← hX]
                have h44 := (unhide HW5).h4
                have hpp := (unhide HW5).hp
                have hrd := (unhide HW5).rd.but hs (by rintro k rfl; omega)
                have hb0 := (unhide HW5).b0.but hs (by show ¬ w.heap.size = p4; exact (unhide HW5).p04)
                have b1 : Own ((X.alloc (.cells #[.int .i64 1, .int .i64 1, .int .i64 1, .int .i64 1, .int .i64 1, .int .i64 1] 3)).alloc (.cells #[.int .i64 1] 3)) w.heap.size (some ⟨w5.heap.size, 0, none⟩) 6 [1, 1, 1, 1, 1, 1] := by
                  rw [← hXs]
                  exact ((show Blk (X.alloc _) X.heap.size [1, 1, 1, 1, 1, 1] from World.alloc_heap_new X _).alloc _).own rfl (by omega) (by omega)
                have b2 : Blk ((X.alloc (.cells #[.int .i64 1, .int .i64 1, .int .i64 1, .int .i64 1, .int .i64 1, .int .i64 1] 3)).alloc (.cells #[.int .i64 1] 3)) (w5.heap.size + 1) [1] := by
                  have h3 := World.alloc_heap_new (X.alloc (.cells #[.int .i64 1, .int .i64 1, .int .i64 1, .int .i64 1, .int .i64 1, .int .i64 1] 3)) (.cells #[.int .i64 1] 3)
                  rw [World.size_alloc, hXs] at h3
                  exact h3
                have hbw : Below X.heap.size X ((X.alloc (.cells #[.int .i64 1, .int .i64 1, .int .i64 1, .int .i64 1, .int .i64 1, .int .i64 1] 3)).alloc (.cells #[.int .i64 1] 3)) := ((Below.refl _ X).alloc (Nat.le_refl _) _).alloc (by simp) _
                refine ⟨bc, ⟨w5.heap.size, 0, none⟩, ⟨w5.heap.size + 1, 0, none⟩, nn, 1, 6, 1, _, [1], hbx.below (Nat.le_refl _) hbw, b1.take hnb, b2.own rfl (by omega) (by omega), hnb, by omega, hrd.below hbw, ?_, hb0.below (Nat.le_refl _) hbw⟩
                exact (hbt.trans (T := fun x => x = pr) (But.of_below hbw)).mono (by rintro x (h | h) <;> exact h)
            · have g3' : ((j : Int) == 3) = false := by simp; omega
              by_cases en : 0 < n2
              · have enz : (0 : Int) < (n2 : Int) := by omega
                obtain ⟨t5, ht5, qt, qt'⟩ := modN d 5 (by omega)
                have rt : (d : Int).tmod 5 = (t5 : Int) := qt
                have rt' : (d : Int) % 5 = (t5 : Int) := qt'
                have htz : (t5 : Int) < 5 := by omega
                have hwt : IntKind.i64.wrap (t5 : Int) = (t5 : Int) := by rw [IntKind.wrap_i64]; omega
                obtain ⟨x, hx⟩ : ∃ x, x = ([1000000000000001, -1000000000000001, 55296, 1114112, -1] : List Int).getD t5 0 := ⟨_, rfl⟩
                have hc : ∀ W : World, (W.alloc (.cells #[.int .i64 1000000000000001, .int .i64 (-1000000000000001), .int .i64 55296, .int .i64 1114112, .int .i64 (-1)] 3)).cell? ⟨W.heap.size, t5, none⟩ = some (.int .i64 x) := fun W => by
                  rw [hx]; exact lits W [1000000000000001, -1000000000000001, 55296, 1114112, -1] t5 (by simpa using ht5)
                obtain ⟨_, _, ev, hOd⟩ := Own.of_owns (unhide HW5).o2 (by omega)
                cases ev
                rcases hOd.at_ with h | ⟨gg, oo, hgg, hgl, hgs, hce, hfr⟩
                · omega
                cases hgg
                have cd0 := hce 0 en
                have fd0 := hfr 0 en
                simp only [Nat.add_zero] at cd0 fd0
                have hgp4 : g2 ≠ p4 := owns_nebox (unhide HW5).o2 (unhide HW5).box
                have hp4l := (unhide HW5).box.lt
                have HKEEP : ∀ wx, But (fun x => x = g2) w5 wx → wx.cell? ⟨p4, 2, none⟩ = some (.slice (some ⟨g2, 0, none⟩) n2 cap2) := fun wx hwx => (hwx.cellAt hp4l (by show ¬ p4 = g2; omega)).trans (unhide HW5).box.cells.2.2
                have hc1 := hc w5
                have hc2 := hc w5.drew
                have HRD1 := hide rd'
                have HRT1 := hide rt
                clear hx qt qt' hce hfr hc
                go_upto_region 16 with fail
                have htz0 : (0 : Int) ≤ (t5 : Int) := by omega
                have htz2 : (t5 : Int) < 5 := by omega
                have enz2 : (0 : Int) < (n2 : Int) := by omega
                have rd3 : (v : Int).tdiv 6 = (d : Int) := unhide HRD1
                have rt3 : (d : Int).tmod 5 = (t5 : Int) := unhide HRT1
                have hwd : IntKind.i64.wrap (d : Int) = (d : Int) := by rw [IntKind.wrap_i64]; omega
                go_region
                all_goals go_wp2_with fail
                go_meet
                case rel =>
                  obtain ⟨_, _, ev, hO1⟩ := Own.of_owns (unhide HW5).o1 (by have := (unhide HW5).h1; omega)
                  cases ev
                  have hb : But (fun x => x = g2) w5 (w5.setCell ⟨g2, 0, none⟩ (.int .i64 x)) := (But.refl (fun x => x = g2) w5).setCell (p := ⟨g2, 0, none⟩) rfl _
                  have hbw : Below (w5.setCell ⟨g2, 0, none⟩ (.int .i64 x)).heap.size (w5.setCell ⟨g2, 0, none⟩ (.int .i64 x)) ((w5.setCell ⟨g2, 0, none⟩ (.int .i64 x)).alloc (.cells #[.int .i64 1000000000000001, .int .i64 (-1000000000000001), .int .i64 55296, .int .i64 1114112, .int .i64 (-1)] 3)).drew := ((Below.refl _ _).alloc (Nat.le_refl _) _).drew
                  have hge2 := owns_from (unhide HW5).o2
                  have hpp := (unhide HW5).hp
                  have hne := (unhide HW5).ne
                  have hO2 := hOd.set en x
                  simp only [Nat.add_zero] at hO2
                  refine ⟨bc, ⟨g1, 0, none⟩, ⟨g2, 0, none⟩, n1, n2, cap1, cap2, zs, dt.set 0 x, ((unhide HW5).box.but hb (by show ¬ p4 = g2; omega)).below (Nat.le_refl _) hbw, (hb.own hO1 (by rintro k rfl hk; have := at_eq hk; omega)).below (Nat.le_refl _) hbw, hO2.below (Nat.le_refl _) hbw, (unhide HW5).h1, (unhide HW5).h2, ((unhide HW5).rd.but hb (by rintro k rfl; omega)).below hbw, ?_, ((unhide HW5).b0.but hb (by show ¬ w.heap.size = g2; exact (owns_nebox (unhide HW5).o2 (unhide HW5).b0).symm)).below (Nat.le_refl _) hbw⟩
                  exact (((unhide HW5).but.setNew (p := ⟨g2, 0, none⟩) hge2 _).trans (T := fun x => x = pr) (But.of_below hbw)).mono (by rintro x (h | h) <;> exact h)
              · have enz : ¬ (0 : Int) < (n2 : Int) := by omega
                go_wp2_with fail
                go_meet
                case rel => exact (unhide HW5).ag
    · have h246z : ¬ (246 : Int) ≤ (k : Int) := by omega
      go_wp2_with fail
      go_meet
      case rel => exact (unhide HAW).ag
  case rest =>
    obtain ⟨w6, hw6⟩ : ∃ x, x = wc := ⟨_, rfl⟩
    subst hw6
    obtain ⟨c, a1, a2, m1, m2, d1, d2, sh, dt2, hb, o1, o2, hm1, hm2, hrd, hbt, hb0⟩ := hcut
    obtain ⟨y0, y1, y2, y3, y4, y5, y6⟩ := hb.all
    obtain ⟨q0, q1, q2, q3, q4, q5, q6⟩ := hb0.all
    have HB0 := hide hb0
    have HO1 := hide o1
    have HO2 := hide o2
    have HRD := hide hrd
    have HBT := hide hbt
    have HNB : Hid ((∀ k, At (some a1) m1 k → k ≠ w.heap.size) ∧ ∀ k, At (some a2) m2 k → k ≠ w.heap.size) := ⟨fun k hk => o1.row.notBox hb0 hk, fun k hk => o2.row.notBox hb0 hk⟩
    clear hb hb0 o1 o2 hrd hbt HAW
    go_wp2_with fail
    have hx := (unhide HB0).sets (c' := c) (u1 := .slice (some a1) m1 d1) (u2 := .slice (some a2) m2 d2)
    obtain ⟨r0, r1, r2, _, _, _⟩ := hx.all
    refine bodyPost_ret (v := .agg #[.bool c, .slice (some a1) m1 d1, .slice (some a2) m2 d2]) (by simp [results, Tryz.results40, go_sem, r0, r1, r2]) rfl ?_
    have hs : But (fun x => x = w.heap.size) w6 (((w6.setCell ⟨w.heap.size, 0, none⟩ (.bool c)).setCell ⟨w.heap.size, 1, none⟩ (.slice (some a1) m1 d1)).setCell ⟨w.heap.size, 2, none⟩ (.slice (some a2) m2 d2)) := (((But.refl (fun x => x = w.heap.size) w6).setCell (p := ⟨w.heap.size, 0, none⟩) rfl _).setCell (p := ⟨w.heap.size, 1, none⟩) rfl _).setCell (p := ⟨w.heap.size, 2, none⟩) rfl _
    exact ⟨⟨c, a1, a2, m1, m2, d1, d2, sh, dt2, rfl, hs.own (unhide HO1) (by rintro k rfl hk; exact (unhide HNB).1 _ hk rfl), hs.own (unhide HO2) (by rintro k rfl hk; exact (unhide HNB).2 _ hk rfl), hm1, hm2⟩, (unhide HRD).but hs (by rintro k rfl; omega), (((unhide HBT).setNew (p := ⟨w.heap.size, 0, none⟩) (Nat.le_refl _) _).setNew (p := ⟨w.heap.size, 1, none⟩) (Nat.le_refl _) _).setNew (p := ⟨w.heap.size, 2, none⟩) (Nat.le_refl _) _⟩

end Go.Proofs.YtkgcmpmgaghdhaaGreatDoor
namespace Go.Proofs.YtkgcmpmgaghdhaaGreatDoor
open Go.RowKit

/-- A slice of bytes lies in memory. -/
def Bytes (w : World) (a : Option Addr) (n : Nat) : Prop :=
  n = 0 ∨ ∃ b off, a = some ⟨b, off, none⟩ ∧ b < w.heap.size ∧ ∀ i, i < n → ∃ v : Nat, v ≤ 255 ∧ w.cell? ⟨b, off + i, none⟩ = some (.int .u8 (v : Nat))

theorem Bytes.below {w w' : World} {a : Option Addr} {n : Nat} (h : Bytes w a n) (hb : Below w.heap.size w w') : Bytes w' a n := by
  rcases h with h | ⟨b, off, e, hbl, hv⟩
  · exact .inl h
  · refine .inr ⟨b, off, e, by have := hb.size; omega, fun i hi => ?_⟩
    obtain ⟨v, h1, h2⟩ := hv i hi
    exact ⟨v, h1, (hb.cell (p := ⟨b, off + i, none⟩) hbl).trans h2⟩

theorem Bytes.take {w : World} {a : Option Addr} {n m : Nat} (h : Bytes w a n) (hm : m ≤ n) : Bytes w a m := by
  rcases h with h | ⟨b, off, e, hbl, hv⟩
  · exact .inl (by omega)
  · exact .inr ⟨b, off, e, hbl, fun i hi => hv i (by omega)⟩

theorem rd_new {w : World} {a : Option Addr} {n c : Nat} (h : Bytes w a n) (hn : n ≤ 1000) : RdOk (w.alloc (.cells #[.slice a n c, .int .i64 0] 115)) w.heap.size := by
  refine ⟨a, n, c, 0, World.alloc_heap_new w _, hn, Nat.zero_le _, ?_⟩
  rcases h with h | ⟨b, off, e, hbl, hv⟩
  · exact .inl h
  · refine .inr ⟨b, off, e, hbl, fun i hi => ?_⟩
    obtain ⟨v, h1, h2⟩ := hv i hi
    exact ⟨v, h1, (((Below.refl w.heap.size w).alloc (Nat.le_refl _) _).cell (p := ⟨b, off + i, none⟩) hbl).trans h2⟩

set_option maxHeartbeats 2000000 in
theorem l1Open_any (a : Option Addr) (n c : Nat) (w : World) (h : Bytes w a n) (hc : n ≤ c) (hn : n ≤ 1048576) :
    Calls Tryz.prog 38 #[.slice a n c] w fun e w' => ∃ pr, e = .returned (.pointer (some ⟨pr, 0, none⟩)) ∧ RdOk w' pr ∧ w.heap.size ≤ pr ∧ Below w.heap.size w w' := by
  by_cases hlt : 1000 < n
  · have hltz : (1000 : Int) < (n : Int) := by omega
    rcases h with h | ⟨b, off, rfl, hbl, hv⟩
    · omega
    have HBY : Hid (Bytes w (some ⟨b, off, none⟩) 1000) := Bytes.take (n := n) (.inr ⟨b, off, rfl, hbl, hv⟩) (by omega)
    have hc1 : (1000 : Int) ≤ (c : Int) := by omega
    clear hv
    go_enter Tryz.func38, Tryz.ntmps38
    go_wp2_with fail
    refine bodyPost_ret (v := .pointer (some ⟨w.heap.size, 0, none⟩)) (by simp [results, Tryz.results38, go_sem]) rfl ⟨w.heap.size, rfl, rd_new (unhide HBY) (Nat.le_refl _), Nat.le_refl _, (Below.refl _ _).alloc (Nat.le_refl _) _⟩
  · have hltz : ¬ (1000 : Int) < (n : Int) := by omega
    have HBY := hide h
    clear h
    go_enter Tryz.func38, Tryz.ntmps38
    go_wp2_with fail
    refine bodyPost_ret (v := .pointer (some ⟨w.heap.size, 0, none⟩)) (by simp [results, Tryz.results38, go_sem]) rfl ⟨w.heap.size, rfl, rd_new (unhide HBY) (by omega), Nat.le_refl _, (Below.refl _ _).alloc (Nat.le_refl _) _⟩

end Go.Proofs.YtkgcmpmgaghdhaaGreatDoor
namespace Go.Proofs.YtkgcmpmgaghdhaaGreatDoor
open Go.RowKit

/-- What a draw of two arrays gives. -/
def DrawnTwo (w : World) (e : Ending) (w' : World) : Prop := ∃ (c d : Bool) (a1 a2 b1 b2 : Addr) (n1 n2 m1 m2 c1 c2 d1 d2 : Nat) (sh dt sh' dt' : List Int), e = .returned (.tuple #[.agg #[.bool c, .slice (some a1) n1 c1, .slice (some a2) n2 c2], .agg #[.bool d, .slice (some b1) m1 d1, .slice (some b2) m2 d2]]) ∧ Row w' (some a1) n1 sh ∧ Row w' (some a2) n2 dt ∧ Row w' (some b1) m1 sh' ∧ Row w' (some b2) m2 dt' ∧ n1 ≤ 6 ∧ n2 ≤ 10001 ∧ m1 ≤ 6 ∧ m2 ≤ 10001 ∧ Below w.heap.size w w'

/-- The two boxes of the answer are written. -/
theorem drawn2_end {w V : World} {x0 x1 : Bool} {c d : Bool} {a1 a2 b1 b2 : Addr} {n1 n2 m1 m2 c1 c2 d1 d2 : Nat} {sh dt sh' dt' : List Int} (h0 : Box V w.heap.size x0 (.slice none 0 0) (.slice none 0 0)) (h1 : Box V (w.heap.size + 1) x1 (.slice none 0 0) (.slice none 0 0)) (r1 : Row V (some a1) n1 sh) (r2 : Row V (some a2) n2 dt) (q1 : Row V (some b1) m1 sh') (q2 : Row V (some b2) m2 dt') (hn1 : n1 ≤ 6) (hn2 : n2 ≤ 10001) (hm1 : m1 ≤ 6) (hm2 : m2 ≤ 10001) (hl : Below w.heap.size w V) :
    DrawnTwo w (.returned (.tuple #[.agg #[.bool c, .slice (some a1) n1 c1, .slice (some a2) n2 c2], .agg #[.bool d, .slice (some b1) m1 d1, .slice (some b2) m2 d2]]))
      ((((((V.setCell ⟨w.heap.size, 0, none⟩ (.bool c)).setCell ⟨w.heap.size, 1, none⟩ (.slice (some a1) n1 c1)).setCell ⟨w.heap.size, 2, none⟩ (.slice (some a2) n2 c2)).setCell ⟨w.heap.size + 1, 0, none⟩ (.bool d)).setCell ⟨w.heap.size + 1, 1, none⟩ (.slice (some b1) m1 d1)).setCell ⟨w.heap.size + 1, 2, none⟩ (.slice (some b2) m2 d2)) := by
  have hb : But (fun x => x = w.heap.size ∨ x = w.heap.size + 1) V ((((((V.setCell ⟨w.heap.size, 0, none⟩ (.bool c)).setCell ⟨w.heap.size, 1, none⟩ (.slice (some a1) n1 c1)).setCell ⟨w.heap.size, 2, none⟩ (.slice (some a2) n2 c2)).setCell ⟨w.heap.size + 1, 0, none⟩ (.bool d)).setCell ⟨w.heap.size + 1, 1, none⟩ (.slice (some b1) m1 d1)).setCell ⟨w.heap.size + 1, 2, none⟩ (.slice (some b2) m2 d2)) :=
    ((((((But.refl _ V).setCell (p := ⟨w.heap.size, 0, none⟩) (.inl rfl) _).setCell (p := ⟨w.heap.size, 1, none⟩) (.inl rfl) _).setCell (p := ⟨w.heap.size, 2, none⟩) (.inl rfl) _).setCell (p := ⟨w.heap.size + 1, 0, none⟩) (.inr rfl) _).setCell (p := ⟨w.heap.size + 1, 1, none⟩) (.inr rfl) _).setCell (p := ⟨w.heap.size + 1, 2, none⟩) (.inr rfl) _
  have hk : ∀ {a : Option Addr} {n : Nat} {zs : List Int}, Row V a n zs → ∀ x, x = w.heap.size ∨ x = w.heap.size + 1 → ¬ At a n x := fun hr x hx hh => by have := hr.notBox h0 hh; have := hr.notBox h1 hh; omega
  exact ⟨c, d, a1, a2, b1, b2, n1, n2, m1, m2, c1, c2, d1, d2, sh, dt, sh', dt', rfl, hb.row r1 (hk r1), hb.row r2 (hk r2), hb.row q1 (hk q1), hb.row q2 (hk q2), hn1, hn2, hm1, hm2, hl.trans (hb.below hl.size (fun x hx => by omega))⟩

end Go.Proofs.YtkgcmpmgaghdhaaGreatDoor
namespace Go.Proofs.YtkgcmpmgaghdhaaGreatDoor
open Go.RowKit

/-- What a function that draws an array by the reader pr gives. -/
def Drawn6 (pr : Nat) (w : World) (e : Ending) (w' : World) : Prop := (∃ (c : Bool) (a1 a2 : Addr) (n1 n2 c1 c2 : Nat) (sh dt : List Int), e = .returned (.agg #[.bool c, .slice (some a1) n1 c1, .slice (some a2) n2 c2]) ∧ Own w' w.heap.size (some a1) n1 sh ∧ Own w' w.heap.size (some a2) n2 dt ∧ n1 ≤ 6 ∧ n2 ≤ 10001) ∧ RdOk w' pr ∧ But (fun x => x = pr) w w'

/-- The answer's box is filled. -/
theorem drawn6_end {w wx : World} {pr p0 : Nat} {c k : Bool} {s1 s2 : Option Addr} {l1 l2 k1 k2 : Nat} {a1 a2 : Addr} {n1 n2 c1 c2 : Nat} {sh dt : List Int} (hp : Box wx p0 c (.slice s1 l1 k1) (.slice s2 l2 k2)) (hp0 : w.heap.size ≤ p0) (o1 : Own wx w.heap.size (some a1) n1 sh) (o2 : Own wx w.heap.size (some a2) n2 dt) (h1 : n1 ≤ 6) (h2 : n2 ≤ 10001) (hr : RdOk wx pr) (hpr : pr < w.heap.size) (hb : But (fun x => x = pr) w wx) :
    Drawn6 pr w (.returned (.agg #[.bool k, .slice (some a1) n1 c1, .slice (some a2) n2 c2])) (((wx.setCell ⟨p0, 0, none⟩ (.bool k)).setCell ⟨p0, 1, none⟩ (.slice (some a1) n1 c1)).setCell ⟨p0, 2, none⟩ (.slice (some a2) n2 c2)) := by
  have hs : But (fun x => x = p0) wx (((wx.setCell ⟨p0, 0, none⟩ (.bool k)).setCell ⟨p0, 1, none⟩ (.slice (some a1) n1 c1)).setCell ⟨p0, 2, none⟩ (.slice (some a2) n2 c2)) := (((But.refl (fun x => x = p0) wx).setCell (p := ⟨p0, 0, none⟩) rfl _).setCell (p := ⟨p0, 1, none⟩) rfl _).setCell (p := ⟨p0, 2, none⟩) rfl _
  have hn1 : ∀ x, x = p0 → ¬ At (some a1) n1 x := fun x e hk => (o1.row.notBox hp hk) e
  have hn2 : ∀ x, x = p0 → ¬ At (some a2) n2 x := fun x e hk => (o2.row.notBox hp hk) e
  exact ⟨⟨k, a1, a2, n1, n2, c1, c2, sh, dt, rfl, hs.own o1 hn1, hs.own o2 hn2, h1, h2⟩, hr.but hs (by rintro x rfl; omega), ((hb.setNew (p := ⟨p0, 0, none⟩) hp0 _).setNew (p := ⟨p0, 1, none⟩) hp0 _).setNew (p := ⟨p0, 2, none⟩) hp0 _⟩

set_option maxRecDepth 20000 in
set_option maxHeartbeats 4000000 in
theorem l6List_any (pr : Nat) (w : World) (h : RdOk w pr) : Calls Tryz.prog 39 #[.pointer (some ⟨pr, 0, none⟩)] w (Drawn6 pr w) := by
  have hlw := h.lt
  have hb0 : Below w.heap.size w (w.alloc (.cells #[.bool false, .slice none 0 0, .slice none 0 0] 25)) := (Below.refl _ w).alloc (Nat.le_refl _) _
  have HP0 : Hid (Box (w.alloc (.cells #[.bool false, .slice none 0 0, .slice none 0 0] 25)) w.heap.size false (.slice none 0 0) (.slice none 0 0)) := Box.new w _ _ _
  have HBB : Hid (But (fun x => x = pr) w (w.alloc (.cells #[.bool false, .slice none 0 0, .slice none 0 0] 25))) := But.of_below hb0
  have hcall := next_any pr _ (h.below hb0)
  clear h hb0
  go_enter Tryz.func39, Tryz.ntmps39
  go_upto_region 2 with (go_at_call 72; refine hcall.mono ?_; rintro e w1 ⟨⟨k, hk, rfl⟩, hr1, hb1⟩; have HR1 := hide hr1; have HB1' := hide hb1; clear hr1 hb1)
  clear hcall
  have HP1 := hide ((unhide HP0).but (unhide HB1') (by show ¬ w.heap.size = pr; omega))
  have HB1 : Hid (But (fun x => x = pr) w w1) := ((unhide HBB).trans (unhide HB1')).mono (by rintro x (h | h) <;> exact h)
  have hw1 := (unhide HP1).lt
  clear HP0 HBB HB1'
  obtain ⟨j8, hj8, q8, q8'⟩ := modN k 8 (by omega)
  have r8 : (k : Int).tmod 8 = (j8 : Int) := q8
  have r8' : (k : Int) % 8 = (j8 : Int) := q8'
  obtain ⟨j9, hj9, q9, q9'⟩ := modN k 9 (by omega)
  have r9 : (k : Int).tmod 9 = (j9 : Int) := q9
  have r9' : (k : Int) % 9 = (j9 : Int) := q9'
  clear q8 q8' q9 q9'
  by_cases h7 : j8 = 7
  · have g7 : ((j8 : Int) == 7) = true := by simp [h7]
    have hcA := l3Array_any pr w1 (unhide HR1)
    clear h7
    go_wp2_with (go_at_call 40; refine hcA.mono ?_; rintro e w2 ⟨⟨c, a1, a2, n1, n2, c1, c2, sh, dt, rfl, o1, o2, h1, h2⟩, hr2, hb2⟩; have HO1 := hide o1; have HO2 := hide o2; have HR2 := hide hr2; have HB2 := hide hb2; have HP2 := hide ((unhide HP1).but hb2 (by show ¬ w.heap.size = pr; omega)); obtain ⟨y0, y1, y2, y3, y4, y5, y6⟩ := (unhide HP2).all; clear o1 o2 hr2 hb2)
    have hx := (unhide HP2).sets (c' := c) (u1 := .slice (some a1) n1 c1) (u2 := .slice (some a2) n2 c2)
    obtain ⟨r0, r1, r2, _, _, _⟩ := hx.all
    refine bodyPost_ret (v := .agg #[.bool c, .slice (some a1) n1 c1, .slice (some a2) n2 c2]) (by simp [results, Tryz.results39, go_sem, r0, r1, r2]) rfl ?_
    exact drawn6_end (unhide HP2) (Nat.le_refl _) ((unhide HO1).mono (by omega)) ((unhide HO2).mono (by omega)) h1 h2 (unhide HR2) hlw (((unhide HB1).trans (unhide HB2)).mono (by rintro x (h | h) <;> exact h))
  · have g7 : ((j8 : Int) == 7) = false := by simp; omega
    obtain ⟨bc, hbc⟩ : ∃ bc, decide ((190 : Int) ≤ (k : Int)) = bc := ⟨_, rfl⟩
    have hown : Own (w1.alloc (.cells #[.int .i64 (j9 : Nat)] 3)) w.heap.size (some ⟨w1.heap.size, 0, none⟩) 1 [(j9 : Int)] := by
      refine Blk.own (zs := [(j9 : Int)]) ?_ rfl (by omega) (by omega)
      show (w1.heap.push _)[w1.heap.size]? = _
      simp
    have hrow := hown.row
    have HOWN := hide hown
    have hprl := (unhide HR1).lt
    have hcO := l3Of_any pr w1.heap.size 1 1 bc [(j9 : Int)] _ ((unhide HR1).below ((Below.refl _ _).alloc (Nat.le_refl _) _)) hrow (by omega)
    have HROW := hide hrow
    have HBA : Hid (Below w1.heap.size w1 (w1.alloc (.cells #[.int .i64 (j9 : Nat)] 3))) := (Below.refl _ _).alloc (Nat.le_refl _) _
    clear h7 hrow hown
    go_wp2_with (go_at_call 111; (try rw [hbc]); refine hcO.mono ?_; rintro e w2 ⟨⟨g, n, cap, l, rfl, hn, ho⟩, hr2, hb2⟩; obtain ⟨_, _, ev, hO2⟩ := Own.of_owns ho (by omega); cases ev; have HO2 := hide hO2; have HR2 := hide hr2; have HB2 := hide hb2; have HP2 := hide (((unhide HP1).alloc _).but hb2 (by show ¬ w.heap.size = pr; omega)); obtain ⟨y0, y1, y2, y3, y4, y5, y6⟩ := (unhide HP2).all; clear ho hO2 hr2 hb2)
    have hx := (unhide HP2).sets (c' := bc) (u1 := .slice (some ⟨w1.heap.size, 0, none⟩) 1 1) (u2 := .slice (some ⟨g, 0, none⟩) n cap)
    obtain ⟨r0, r1, r2, _, _, _⟩ := hx.all
    refine bodyPost_ret (v := .agg #[.bool bc, .slice (some ⟨w1.heap.size, 0, none⟩) 1 1, .slice (some ⟨g, 0, none⟩) n cap]) (by simp [results, Tryz.results39, go_sem, r0, r1, r2]) rfl ?_
    have hsz := (unhide HBA).size
    refine drawn6_end (sh := [(j9 : Int)]) (dt := l) (unhide HP2) (Nat.le_refl _) ((unhide HB2).own (unhide HOWN) (by rintro x rfl hk; have := at_eq hk; omega)) ((unhide HO2).mono (by omega)) (by omega) (by omega) (unhide HR2) hlw ?_
    exact (((unhide HB1).trans (T := fun x => x = pr) (But.of_below (unhide HBA))).trans (unhide HB2)).mono (by rintro x ((h | h) | h) <;> exact h)

end Go.Proofs.YtkgcmpmgaghdhaaGreatDoor
namespace Go.Proofs.YtkgcmpmgaghdhaaGreatDoor
open Go.RowKit

set_option maxRecDepth 20000 in
set_option maxHeartbeats 4000000 in
theorem DrawFind_any (a : Option Addr) (n cn : Nat) (w : World) (h : Bytes w a n) (hc : n ≤ cn) (hn : n ≤ 1048576) :
    Calls Tryz.prog 8 #[.slice a n cn] w (DrawnTwo w) := by
  have HB0 : Hid (Below w.heap.size w ((w.alloc (.cells #[.bool false, .slice none 0 0, .slice none 0 0] 25)).alloc (.cells #[.bool false, .slice none 0 0, .slice none 0 0] 25))) := ((Below.refl _ _).alloc (Nat.le_refl _) _).alloc (by simp) _
  have HX0 : Hid (Box ((w.alloc (.cells #[.bool false, .slice none 0 0, .slice none 0 0] 25)).alloc (.cells #[.bool false, .slice none 0 0, .slice none 0 0] 25)) w.heap.size false (.slice none 0 0) (.slice none 0 0)) := (Box.new w _ _ _).alloc _
  have HX1 : Hid (Box ((w.alloc (.cells #[.bool false, .slice none 0 0, .slice none 0 0] 25)).alloc (.cells #[.bool false, .slice none 0 0, .slice none 0 0] 25)) (w.heap.size + 1) false (.slice none 0 0) (.slice none 0 0)) := by
    have := Box.new (w.alloc (.cells #[.bool false, .slice none 0 0, .slice none 0 0] 25)) false (.slice none 0 0) (.slice none 0 0)
    rw [World.size_alloc] at this
    exact this
  have HBY := hide (h.below (unhide HB0))
  clear h
  go_enter Tryz.func8, Tryz.ntmps8
  go_wp2_with fail
  refine (l1Open_any a n cn _ (unhide HBY) hc hn).mono ?_
  rintro e w1 ⟨pr, rfl, hr1, hpr, hb1⟩
  have hpr2 : w.heap.size + 2 ≤ pr := by simp at hpr; omega
  have HX0' := hide ((unhide HX0).below (Nat.le_refl _) hb1)
  have HX1' := hide ((unhide HX1).below (Nat.le_refl _) hb1)
  have HB1 := hide ((unhide HB0).trans (hb1.mono (by simp; omega)))
  have HR1 := hide hr1
  clear HX0 HX1 HB0 HBY hr1 hpr hb1
  go_wp2_with fail
  refine (l6List_any pr _ (unhide HR1)).mono ?_
  rintro e w3 ⟨⟨c, a1, a2, n1, n2, c1, c2, sh, dt, rfl, o1, o2, hn1, hn2⟩, hr3, hb3⟩
  obtain ⟨X3, hX3⟩ : ∃ X, X = w3.alloc (.cells #[.bool c, .slice (some a1) n1 c1, .slice (some a2) n2 c2] 25) := ⟨_, rfl⟩
  obtain ⟨p7, hp7⟩ : ∃ p, p = w3.heap.size := ⟨_, rfl⟩
  have hsz3 := hb3.size
  have hprl := (unhide HR1).lt
  have HA3 : Hid (Below w3.heap.size w3 X3) := by rw [hX3]; exact (Below.refl _ _).alloc (Nat.le_refl _) _
  have HX0 := hide (((unhide HX0').but hb3 (by show ¬ w.heap.size = pr; omega)).below (Nat.le_refl _) (unhide HA3))
  have HX1 := hide (((unhide HX1').but hb3 (by show ¬ w.heap.size + 1 = pr; omega)).below (Nat.le_refl _) (unhide HA3))
  have hb3' := (unhide HB1).trans (hb3.below (unhide HB1).size (fun x hx => by omega))
  have HB3 := hide (hb3'.trans ((unhide HA3).mono hb3'.size))
  have HR3 := hide (hr3.below (unhide HA3))
  have HX7 : Hid (Box X3 p7 c (.slice (some a1) n1 c1) (.slice (some a2) n2 c2)) := by rw [hX3, hp7]; exact Box.new _ _ _ _
  have HL1 : Hid (∀ x, At (some a1) n1 x → x ≠ pr) := fun x hx => by have := o1.low hx; omega
  have HL2 : Hid (∀ x, At (some a2) n2 x → x ≠ pr) := fun x hx => by have := o2.low hx; omega
  have HO1 := hide (o1.row.below (Nat.le_refl _) (unhide HA3))
  have HO2 := hide (o2.row.below (Nat.le_refl _) (unhide HA3))
  have hq7 : ¬ p7 = pr := by omega
  have HX3 := hide hX3
  have HP7 := hide hp7
  clear HX0' HX1' HB1 HR1 o1 o2 hr3 hb3 hb3' hX3 hp7
  go_upto_region 3 with fail
  rw [← unhide HX3, ← unhide HP7]
  clear HX3 HP7 HA3
  clear hsz3 hprl
  have hKEEP : ∀ wx, But (fun x => x = pr) X3 wx → wx.cell? ⟨p7, 0, none⟩ = some (.bool c) ∧ wx.cell? ⟨p7, 1, none⟩ = some (.slice (some a1) n1 c1) ∧ wx.cell? ⟨p7, 2, none⟩ = some (.slice (some a2) n2 c2) := fun wx hwx => ((unhide HX7).but hwx hq7).cells
  obtain ⟨y0, y1, y2⟩ := hKEEP _ (But.refl _ _)
  go_region_with (go_at_call 40; refine (l3Array_any pr _ (by first | exact unhide HR3 | exact (unhide HR3).below (Below.refl _ _).drew)).mono ?_; rintro e w4 ⟨⟨d, b1, b2, m1, m2, d1, d2, sh', dt', rfl, q1, q2, hm1, hm2⟩, _, hb4⟩; have hb5 : But (fun x => x = pr) X3 w4 := (by first | exact hb4 | exact ((But.of_below (Below.refl _ _).drew).trans hb4).mono (by rintro x (h | h) <;> exact h)); obtain ⟨y0, y1, y2⟩ := hKEEP _ hb5; have HZ0 := hide ((unhide HX0).but hb5 (by show ¬ w.heap.size = pr; omega)); have HZ1 := hide ((unhide HX1).but hb5 (by show ¬ w.heap.size + 1 = pr; omega)); obtain ⟨z0, z1, z2, z3, z4, z5, z6⟩ := (unhide HZ0).all; obtain ⟨u0, u1, u2, u3, u4, u5, u6⟩ := (unhide HZ1).all; have HQ1 := hide q1.row; have HQ2 := hide q2.row; have HB5 := hide hb5; clear q1 q2 hb4 hb5)
  all_goals go_wp2_with fail
  all_goals
    have hF0 := ((((unhide HZ0).sets (c' := c) (u1 := .slice (some a1) n1 c1) (u2 := .slice (some a2) n2 c2)).other (q := ⟨w.heap.size + 1, 0, none⟩) (by simp) (.bool d)).other (q := ⟨w.heap.size + 1, 1, none⟩) (by simp) (.slice (some b1) m1 d1)).other (q := ⟨w.heap.size + 1, 2, none⟩) (by simp) (.slice (some b2) m2 d2)
    have hF1 := ((((unhide HZ1).other (q := ⟨w.heap.size, 0, none⟩) (by simp) (.bool c)).other (q := ⟨w.heap.size, 1, none⟩) (by simp) (.slice (some a1) n1 c1)).other (q := ⟨w.heap.size, 2, none⟩) (by simp) (.slice (some a2) n2 c2)).sets (c' := d) (u1 := .slice (some b1) m1 d1) (u2 := .slice (some b2) m2 d2)
    obtain ⟨t0, t1, t2, _, _, _⟩ := hF0.all
    obtain ⟨v0, v1, v2, _, _, _⟩ := hF1.all
    refine bodyPost_ret (v := .tuple #[.agg #[.bool c, .slice (some a1) n1 c1, .slice (some a2) n2 c2], .agg #[.bool d, .slice (some b1) m1 d1, .slice (some b2) m2 d2]]) (by simp [results, Tryz.results8, go_sem, t0, t1, t2, v0, v1, v2]) rfl ?_
    exact drawn2_end (unhide HZ0) (unhide HZ1) ((unhide HB5).row (unhide HO1) (fun x hx hh => unhide HL1 x hh hx)) ((unhide HB5).row (unhide HO2) (fun x hx hh => unhide HL2 x hh hx)) (unhide HQ1) (unhide HQ2) hn1 hn2 hm1 hm2 ((unhide HB3).trans ((unhide HB5).below (unhide HB3).size (fun x hx => by omega)))

end Go.Proofs.YtkgcmpmgaghdhaaGreatDoor
namespace Go.Proofs.YtkgcmpmgaghdhaaGreatDoor
open Go

section
variable {P : Program} {ops : Array Oper} {Q : Exit → Act → World → Prop} {md : Region.Mode} {S : World → Prop} {st : Nat}

/-- Whatever order is picked from here on, and S holds behind every operation but number st. -/
def wpAnyL (P : Program) (md : Region.Mode) (ops : Array Oper) (Q : Exit → Act → World → Prop) (S : World → Prop) (st : Nat) : Nat → Array Bool → Act → World → Prop
  | 0, listed, a, w => Region.ready md ops listed = [] ∧ Q .normal a w
  | fuel + 1, listed, a, w =>
    (Region.ready md ops listed = [] → Q .normal a w) ∧
    ∀ i ∈ Region.ready md ops listed, wpOp P ops Q i (fun a' w' => (i ≠ st → S w') ∧ wpAnyL P md ops Q S st fuel (listed.setIfInBounds i true) a' w') a w

theorem wpAny_of_L : ∀ (fuel : Nat) (listed : Array Bool) (a : Act) (w : World), wpAnyL P md ops Q S st fuel listed a w → wpAny P md ops Q fuel listed a w
  | 0, _, _, _, h => h
  | fuel + 1, _, _, _, h => ⟨h.1, fun i hi => wpOp_mono (fun a' w' h' => wpAny_of_L fuel _ a' w' h'.2) (h.2 i hi)⟩

/-- Operation st waits for operation i. -/
def waitsFor (md : Region.Mode) (ops : Array Oper) (st i : Nat) : Bool := ((ops[st]?).map (·.after.any fun e => Region.binds md e && e.on == i)).getD false

theorem waits_not {i : Nat} {listed : Array Bool} (hw : waitsFor md ops st i = true) (hi : listed.getD i true = false) : st ∉ Region.ready md ops listed := by
  intro hst
  obtain ⟨_, o, ho, hall⟩ := mem_ready.1 hst
  unfold waitsFor at hw
  rw [ho] at hw
  simp only [Option.map_some, Option.getD_some, Array.any_eq_true'] at hw
  obtain ⟨e, he, hb⟩ := hw
  simp only [Bool.and_eq_true, beq_iff_eq] at hb
  have h1 := hall e he hb.1
  rw [hb.2] at h1
  rcases Nat.lt_or_ge i listed.size with h' | h'
  · simp [h'] at hi h1; rw [hi] at h1; cases h1
  · simp [Array.getElem?_eq_none h'] at h1

theorem wpAnyL_first {i : Nat} {oi : Oper} {v : Value} (hi : ops[i]? = some oi) (hsel : ∀ (j : Nat) (o : Oper) cs b, ops[j]? = some o → o.op ≠ .select cs b)
    (hQ : ∀ c a w, Q (.panic c) (a.put oi.dst v) w → Q (.panic c) a w) (hw : waitsFor md ops st i = true) :
    ∀ (fuel : Nat) (listed : Array Bool) (a : Act) (w : World),
      (∀ j oj, ops[j]? = some oj → j ≠ i → listed.getD j true = false → (∀ e ∈ oj.after, Region.binds md e = true → e.on ≠ i) → oi.apart ops oj = true) →
      i ∈ Region.ready md ops listed → YieldsIf P ops S oi v a → S w →
      wpAnyL P md ops Q S st fuel (listed.setIfInBounds i true) (a.put oi.dst v) w → wpAnyL P md ops Q S st (fuel + 1) listed a w := by
  intro fuel
  induction fuel with
  | zero =>
    intro listed a w _ hr hy hS H
    refine ⟨fun h => (by rw [h] at hr; cases hr), fun j hj => ?_⟩
    by_cases hji : j = i
    · subst hji; exact hy.wpOp hi hS ⟨fun _ => hS, H⟩
    · have := ready_mono hj hji
      rw [H.1] at this
      cases this
  | succ fuel ih =>
    intro listed a w hfree hr hy hS H
    refine ⟨fun h => (by rw [h] at hr; cases hr), fun j hj => ?_⟩
    by_cases hji : j = i
    · subst hji; exact hy.wpOp hi hS ⟨fun _ => hS, H⟩
    · have h1 := H.2 j (ready_mono hj hji)
      have hjst : j ≠ st := fun e => waits_not hw (mem_ready.1 hr).1 (e ▸ hj)
      obtain ⟨hjun, oj, hoj, hall⟩ := mem_ready.1 hj
      have hnot : ∀ e ∈ oj.after, Region.binds md e = true → e.on ≠ i := fun e he hb heq => by
        have h1 := hall e he hb
        have h0 := (mem_ready.1 hr).1
        rw [heq] at h1
        rcases Nat.lt_or_ge i listed.size with h' | h'
        · simp [h'] at h0 h1; rw [h0] at h1; cases h1
        · simp [Array.getElem?_eq_none h'] at h1
      have h2 := wpOp_putIf hoj (hfree j oj hoj hji hjun hnot) (fun cs b => hsel i oi cs b hi) (fun cs b => hsel j oj cs b hoj) hQ hy h1
      have hfree' : ∀ k ok, ops[k]? = some ok → k ≠ i → (listed.setIfInBounds j true).getD k true = false →
          (∀ e ∈ ok.after, Region.binds md e = true → e.on ≠ i) → oi.apart ops ok = true := fun k ok hk hki hun hno => by
        refine hfree k ok hk hki ?_ hno
        by_cases hjk : j = k
        · subst hjk; exact hjun
        · rw [getD_set_ne true hjk] at hun; exact hun
      refine wpOp_mono (fun a' w' h3 => ⟨h3.2.1, ih (listed.setIfInBounds j true) a' w' hfree' (ready_mono hr (Ne.symm hji)) h3.1 (h3.2.1 hjst) ?_⟩) h2
      rw [Array.setIfInBounds_comm _ _ hji]
      exact h3.2.2

/-- Take number i first. -/
theorem wpAnyL_take {i : Nat} {oi : Oper} {v : Value} {fuel : Nat} {listed : Array Bool} {a : Act} {w : World} (hi : ops[i]? = some oi)
    (hs : Region.noSelect ops = true) (hf : Region.free md ops listed i = true) (hr : (Region.ready md ops listed).contains i = true) (hw : waitsFor md ops st i = true)
    (hQ : ∀ c a w, Q (.panic c) (a.put oi.dst v) w → Q (.panic c) a w) (hy : YieldsIf P ops S oi v a) (hS : S w)
    (h : wpAnyL P md ops Q S st fuel (listed.setIfInBounds i true) (a.put oi.dst v) w) : wpAnyL P md ops Q S st (fuel + 1) listed a w :=
  wpAnyL_first hi (Region.noSelect_spec hs) hQ hw fuel listed a w (Region.free_spec hi hf) (by simpa using hr) hy hS h

/-- Take number i first, its value into slot d. -/
theorem wpAnyL_put (i d : Nat) (v : Value) {oi : Oper} {fuel : Nat} {listed : Array Bool} {a : Act} {w : World} (hi : ops[i]? = some oi) (hd : oi.dst = some d)
    (hs : Region.noSelect ops = true) (hf : Region.free md ops listed i = true) (hr : (Region.ready md ops listed).contains i = true) (hw : waitsFor md ops st i = true)
    (hQ : ∀ c a (d : Nat) v w, Q (.panic c) (a.put (some d) v) w → Q (.panic c) a w) (hg : Region.wanted oi (yielded ops a.tmps) = true) (hy : ∀ w, S w → (execOp a.eval oi).run P w = .ok (.value v) w) (hS : S w)
    (h : wpAnyL P md ops Q S st fuel (listed.setIfInBounds i true) (a.put (some d) v) w) : wpAnyL P md ops Q S st (fuel + 1) listed a w :=
  wpAnyL_take hi hs hf hr hw (fun c a w h => by rw [hd] at h; exact hQ c a d v w h) (Or.inl ⟨hg, hy⟩) hS (by rw [hd]; exact h)

/-- One alone may come up. -/
theorem wpAnyL_one {i : Nat} {fuel : Nat} {listed : Array Bool} {a : Act} {w : World} (hr : Region.ready md ops listed = [i])
    (h : wpOp P ops Q i (fun a' w' => (i ≠ st → S w') ∧ wpAnyL P md ops Q S st fuel (listed.setIfInBounds i true) a' w') a w) : wpAnyL P md ops Q S st (fuel + 1) listed a w :=
  ⟨fun h0 => (by rw [hr] at h0; cases h0), fun j hj => (by rw [hr] at hj; simp at hj; subst hj; exact h)⟩

theorem wpAnyL_done {listed : Array Bool} {a : Act} {w : World} (hr : Region.ready md ops listed = []) (h : Q .normal a w) : ∀ fuel, wpAnyL P md ops Q S st fuel listed a w
  | 0 => ⟨hr, h⟩
  | _ + 1 => ⟨fun _ => h, by rw [hr]; simp⟩

theorem wp_region_L {id : Nat} {a : Act} {w : World} (S : World → Prop) (st : Nat) (hm : P.follows .mixedOrders = true)
    (h : wpAnyL P .any ops Q S st ops.size (Array.replicate ops.size false) a { w with drawn := w.drawn + 1 }) : (Code.region id ops true).wp P Q a w :=
  wp_region_any hm (wpAny_of_L _ _ _ _ h)

theorem op_wp {K : Act → World → Prop} {a : Act} {w : World} {i : Nat} {o : Oper} (hi : ops[i]? = some o) (hg : Region.wanted o (yielded ops a.tmps) = true) (h : o.wp P a w K Q) : wpOp P ops Q i K a w := by
  unfold wpOp
  rw [hi]
  show if Region.wanted o (yielded ops a.tmps) = true then _ else _
  rw [if_pos hg]
  exact .inl h

theorem eval_ne {a : Act} {d e : Nat} {v : Value} (h : d ≠ e) : (a.put (some d) v).eval (.tmp e) = a.eval (.tmp e) :=
  Act.eval_put (dst := some d) (x := .tmp e) (by simp; exact fun hy => h hy.symm)

theorem eval_eq {a : Act} {d : Nat} {v : Value} (h : d < a.tmps.size) : (a.put (some d) v).eval (.tmp d) = v := by
  simp [Act.eval, Act.put, h]

theorem put_size {a : Act} {d : Nat} {v : Value} : (a.put (some d) v).tmps.size = a.tmps.size := by simp [Act.put]
end

end Go.Proofs.YtkgcmpmgaghdhaaGreatDoor
namespace Go.Proofs.YtkgcmpmgaghdhaaGreatDoor
open Go.RowKit

section
variable {o : Oper} {a : Act}
theorem rgF0 (x : Operand) (b : Nat) (ho : o.op = .fieldAddr 25 x 0) (hx : a.eval x = .pointer (some ⟨b, 0, none⟩)) (w : World) : (execOp a.eval o).run Tryz.prog w = .ok (.value (.pointer (some ⟨b, 0, none⟩))) w := by
  unfold execOp
  simp only [ho, hx]
  go_simp
theorem rgF1 (x : Operand) (b : Nat) (ho : o.op = .fieldAddr 25 x 1) (hx : a.eval x = .pointer (some ⟨b, 0, none⟩)) (w : World) : (execOp a.eval o).run Tryz.prog w = .ok (.value (.pointer (some ⟨b, 1, none⟩))) w := by
  unfold execOp
  simp only [ho, hx]
  go_simp
theorem rgF2 (x : Operand) (b : Nat) (ho : o.op = .fieldAddr 25 x 2) (hx : a.eval x = .pointer (some ⟨b, 0, none⟩)) (w : World) : (execOp a.eval o).run Tryz.prog w = .ok (.value (.pointer (some ⟨b, 2, none⟩))) w := by
  unfold execOp
  simp only [ho, hx]
  go_simp
theorem rgL (x : Operand) (p : Addr) {s : Option Addr} {l c : Nat} (ho : o.op = .load 23 x) (hx : a.eval x = .pointer (some p)) (w : World) (hc : w.cell? p = some (.slice s l c)) : (execOp a.eval o).run Tryz.prog w = .ok (.value (.slice s l c)) w := by
  unfold execOp
  simp only [ho, hx]
  go_simp
theorem rgI (x : Operand) (p : Addr) {z : Int} (ho : o.op = .load 3 x) (hx : a.eval x = .pointer (some p)) (w : World) (hc : w.cell? p = some (.int .i64 z)) : (execOp a.eval o).run Tryz.prog w = .ok (.value (.int .i64 z)) w := by
  unfold execOp
  simp only [ho, hx]
  go_simp
theorem rgM (x : Operand) {v : Value} (ho : o.op = .move x) (hx : a.eval x = v) (w : World) : (execOp a.eval o).run Tryz.prog w = .ok (.value v) w := by
  unfold execOp
  simp only [ho, hx]
  go_simp
theorem rg_mul (x y : Operand) {i j k : Int} (ho : o.op = .binOp .mul 3 x y 3) (hx : a.eval x = .int .i64 i) (hy : a.eval y = .int .i64 j) (hk : IntKind.i64.wrap (i * j) = k) (w : World) : (execOp a.eval o).run Tryz.prog w = .ok (.value (.int .i64 k)) w := by
  unfold execOp
  simp only [ho, hx, hy]
  go_simp
theorem rg_add (x y : Operand) {i j k : Int} (ho : o.op = .binOp .add 3 x y 3) (hx : a.eval x = .int .i64 i) (hy : a.eval y = .int .i64 j) (hk : IntKind.i64.wrap (i + j) = k) (w : World) : (execOp a.eval o).run Tryz.prog w = .ok (.value (.int .i64 k)) w := by
  unfold execOp
  simp only [ho, hx, hy]
  go_simp
theorem rg_rem (x y : Operand) {i j k : Nat} (ho : o.op = .binOp .rem 3 x y 3) (hx : a.eval x = .int .i64 (i : Nat)) (hy : a.eval y = .int .i64 (j : Nat)) (hk : 0 < j ∧ i % j = k ∧ j ≤ 4611686018427387904) (w : World) : (execOp a.eval o).run Tryz.prog w = .ok (.value (.int .i64 (k : Nat))) w := by
  obtain ⟨h0, hk, hj⟩ := hk
  have hjz : ¬ (j : Int) = 0 := by omega
  have hjn : ¬ j = 0 := by omega
  have h2 : (i : Int).tmod (j : Int) = (k : Int) := by rw [Int.tmod_eq_emod_of_nonneg (by omega), ← hk]; rfl
  have hkj : k < j := by rw [← hk]; exact Nat.mod_lt _ h0
  have h3 : IntKind.i64.wrap (k : Int) = (k : Int) := by rw [IntKind.wrap_i64]; omega
  unfold execOp
  simp only [ho, hx, hy]
  go_simp
theorem rgN (t : Nat) {s : Option Addr} {l c : Nat} (ho : o.op = .call { callee := .builtin .len, args := #[.tmp t], argTypes := #[23] }) (hx : a.eval (.tmp t) = .slice s l c) (w : World) : (execOp a.eval o).run Tryz.prog w = .ok (.value (.int .i64 (l : Nat))) w := by
  have hx' : a.tmps[t]?.getD undef = .slice s l c := by simpa [Act.eval] using hx
  unfold execOp
  simp only [ho]
  go_simp
theorem rgX (x y : Operand) {b off m c J : Nat} (ho : o.op = .indexAddr 23 x y) (hx : a.eval x = .slice (some ⟨b, off, none⟩) m c) (hy : a.eval y = .int .i64 (J : Nat)) (hJ : J < m) (w : World) : (execOp a.eval o).run Tryz.prog w = .ok (.value (.pointer (some ⟨b, off + J, none⟩))) w := by
  have h1 : (J : Int) < (m : Int) := by omega
  unfold execOp
  simp only [ho, hx, hy]
  go_simp
theorem rgS1 (t : Nat) {z : Int} (ho : o.op = .buildSlice 23 1 #[(0, .tmp t)]) (hx : a.eval (.tmp t) = .int .i64 z) (w : World) : (execOp a.eval o).run Tryz.prog w = .ok (.value (.slice (some ⟨w.heap.size, 0, none⟩) 1 1)) (w.alloc (.cells #[.int .i64 z] 3)) := by
  have hx' : a.tmps[t]?.getD undef = .int .i64 z := by simpa [Act.eval] using hx
  unfold execOp
  simp only [ho]
  go_simp
theorem rgSt (x y : Operand) (p : Nat) {v1 : Value} {s : Option Addr} {l c : Nat} (ho : o.op = .store 23 x y) (hx : a.eval x = .pointer (some ⟨p, 2, none⟩)) (hy : a.eval y = .slice s l c) (w : World) (hc : w.cell? ⟨p, 2, none⟩ = some v1) (hf : w.frozen? ⟨p, 2, none⟩ = false) : (execOp a.eval o).run Tryz.prog w = .ok .skip (w.setCell ⟨p, 2, none⟩ (.slice s l c)) := by
  unfold execOp
  simp only [ho, hx, hy]
  go_simp
theorem put_nothing {a : Act} {v : Value} : a.put none v = a := rfl
theorem wanted_free {o : Oper} {y : Nat → Option Bool} (h : o.guard = none) : Region.wanted o y = true := by simp [Region.wanted, h]
end

end Go.Proofs.YtkgcmpmgaghdhaaGreatDoor
namespace Go.Proofs.YtkgcmpmgaghdhaaGreatDoor
open Go.RowKit

/-- k elements have been gathered into the array in box p. -/
structure Stage (w2 : World) (p : Nat) (c : Bool) (ash : Option Addr) (m csh : Nat) (zs : List Int) (f : Nat → Int × Int) (k : Nat) (wr : World) (g cap : Nat) : Prop where
  box : Box wr p c (.slice ash m csh) (.slice (some ⟨g, 0, none⟩) k cap)
  owns : wr.ownsRow w2.heap.size 3 1 (.slice (some ⟨g, 0, none⟩) k cap) k ((vals f k).map (Value.int .i64))
  own : Own wr w2.heap.size ash m zs
  ne : ∀ x, At ash m x → x ≠ g
  low : Below w2.heap.size w2 wr
  code : firstCode f k = 0
  place : w2.heap.size ≤ p

theorem Stage.start {w2 wx : World} {p g : Nat} {c : Bool} {ash : Option Addr} {m csh : Nat} {zs : List Int} (f : Nat → Int × Int) (h1 : Box wx p c (.slice ash m csh) (.slice (some ⟨g, 0, none⟩) 0 0)) (h2 : Blk wx g []) (h3 : Own wx w2.heap.size ash m zs) (h4 : Below w2.heap.size w2 wx) (h7 : w2.heap.size ≤ p) (h5 : w2.heap.size ≤ g) (h6 : ∀ x, At ash m x → x ≠ g) : Stage w2 p c ash m csh zs f 0 wx g 0 :=
  ⟨h1, h2.owns h5, h3, h6, h4, rfl, h7⟩

theorem Stage.below {w2 wr w5 : World} {p g cap k : Nat} {c : Bool} {ash : Option Addr} {m csh : Nat} {zs : List Int} {f : Nat → Int × Int} (h : Stage w2 p c ash m csh zs f k wr g cap) (hb : Below wr.heap.size wr w5) : Stage w2 p c ash m csh zs f k w5 g cap :=
  ⟨h.box.below (Nat.le_refl _) hb, owns_below h.owns (Nat.le_refl _) hb, h.own.below (Nat.le_refl _) hb, h.ne, h.low.trans (hb.mono h.low.size), h.code, h.place⟩

theorem Stage.drew {w2 wr : World} {p g cap k : Nat} {c : Bool} {ash : Option Addr} {m csh : Nat} {zs : List Int} {f : Nat → Int × Int} (h : Stage w2 p c ash m csh zs f k wr g cap) : Stage w2 p c ash m csh zs f k wr.drew g cap := h.below (Below.refl _ _).drew

theorem Stage.push {w2 w5 w6 : World} {p g g' cap cap' k : Nat} {c : Bool} {ash : Option Addr} {m csh : Nat} {zs : List Int} {f : Nat → Int × Int} {r1 : Int} (o : Obj) (h : Stage w2 p c ash m csh zs f k w5 g cap) (hf : f k = (r1, 0))
    (hown : w6.ownsRow w2.heap.size 3 1 (.slice (some ⟨g', 0, none⟩) (k + 1) cap') (k + 1) ((vals f k).map (Value.int .i64) ++ [.int .i64 r1])) (hg : (w5.alloc o).grownBy w6 (Value.ownBlock (.slice (some ⟨g, 0, none⟩) k cap))) (hat : Value.ownBlock (.slice (some ⟨g, 0, none⟩) k cap) = some g' ∨ g' = w5.heap.size + 1) :
    Box w6 p c (.slice ash m csh) (.slice (some ⟨g, 0, none⟩) k cap) ∧ Stage w2 p c ash m csh zs f (k + 1) (w6.setCell ⟨p, 2, none⟩ (.slice (some ⟨g', 0, none⟩) (k + 1) cap')) g' cap' := by
  have hb6 := h.box.grown h.owns o hg
  have hg' : (w5.alloc o).grownBy w6 (some g) := hg
  have ho6 := h.own.grown o hg' h.ne
  have hlow := h.low.trans (below_append o h.owns h.low.size hg)
  have hne' : ∀ x, At ash m x → x ≠ g' := by
    intro x hx
    rcases hat with e | e
    · have e' : g = g' := by simpa [Value.ownBlock] using e
      rw [← e']; exact h.ne x hx
    · have := h.own.row.hi hx; omega
  refine ⟨hb6, hb6.set2 _, ?_, ho6.other (fun x hx => ho6.row.notBox hb6 hx) _, hne', hlow.setCell h.place _, code_step h.code (by rw [hf]), h.place⟩
  · rw [vals_snoc, hf]
    exact owns_box_set hown hb6 _ _

end Go.Proofs.YtkgcmpmgaghdhaaGreatDoor
namespace Go.Proofs.YtkgcmpmgaghdhaaGreatDoor
open Go.RowKit

section
variable {P : Program} (w : World)

/-- append of whatever number of elements to a slice that is there. -/
theorem run_append_some (t ty : TypeId) (base : Nat) (e : TypeId) (i : TypeInfo) (z : Value) (size bytes : Nat) (ht : P.underlying t = some (.slice e)) (hi : P.info? e = some i) (hz : i.zero = some z)
    (hsize : i.size = size) (hby : i.bytes = bytes) (hzs : z.cells.size = size) (hsz : 0 < size)
    (g0 n cap0 : Nat) (xs : List Value) (hown : w.ownsRow base e size (.slice (some ⟨g0, 0, none⟩) n cap0) n xs)
    (ad : Addr) (m c : Nat) (news : List Value) (hl : news.length = m * size) (hnews : ∀ j u, news[j]? = some u → w.cell? (ad.add j) = some u) (h1 : ∀ u ∈ news, u.oneCell' = true)
    (h63 : n + m ≤ maxLen) (hbytes : (n + m) * bytes ≤ 140737488355328) (hbase : base ≤ w.heap.size) :
    ∃ g cap w', (Builtin.append_ #[t, t] ty #[.slice (some ⟨g0, 0, none⟩) n cap0, .slice (some ad) m c]).run P w = .ok (.slice (some ⟨g, 0, none⟩) (n + m) cap) w' ∧
      w'.ownsRow base e size (.slice (some ⟨g, 0, none⟩) (n + m) cap) (n + m) (xs ++ news) ∧ w.grownBy w' (some g0) ∧ (g = g0 ∨ g = w.heap.size) := by
  obtain ⟨v', w', hr, h2, h3, h4, h5⟩ := run_append_own_at (P := P) w base t ty e i z size bytes ht hi hz hsize hby hzs hsz _ n xs hown ad m c news hl hnews h1 h63 hbytes hbase
  have hf : ∃ g cap, v' = .slice (some ⟨g, 0, none⟩) (n + m) cap := by
    rcases h2.2 with ⟨e0, e1⟩ | ⟨g, cap, cur, hv, _⟩
    · exact absurd (h4.1 e0).1 (by simp)
    · exact ⟨g, cap, hv⟩
  obtain ⟨g, cap, rfl⟩ := hf
  refine ⟨g, cap, w', hr, h2, h3, ?_⟩
  rcases h5 with h5 | h5
  · left; simpa [Value.ownBlock] using h5
  · right; simpa [Value.ownBlock] using h5

theorem wp_append_some {o : Oper} {a : Act} {K : Act → World → Prop} {Q : Exit → Act → World → Prop} (s x : Operand) (t : TypeId)
    (ho : o.op = .call { callee := .builtin .append, args := #[s, x], argTypes := #[t, t] })
    (base : Nat) (e : TypeId) (i : TypeInfo) (z : Value) (size bytes : Nat) (ht : P.underlying t = some (.slice e)) (hi : P.info? e = some i) (hz : i.zero = some z)
    (hsize : i.size = size) (hby : i.bytes = bytes) (hzs : z.cells.size = size) (hsz : 0 < size)
    (g0 n cap0 : Nat) (xs : List Value) (hs : a.eval s = .slice (some ⟨g0, 0, none⟩) n cap0) (hown : w.ownsRow base e size (.slice (some ⟨g0, 0, none⟩) n cap0) n xs)
    (ad : Addr) (m c : Nat) (news : List Value) (hx : a.eval x = .slice (some ad) m c) (hl : news.length = m * size) (hnews : ∀ j u, news[j]? = some u → w.cell? (ad.add j) = some u) (h1 : ∀ u ∈ news, u.oneCell' = true)
    (h63 : n + m ≤ maxLen) (hbytes : (n + m) * bytes ≤ 140737488355328) (hbase : base ≤ w.heap.size)
    (h : ∀ g cap w', w'.ownsRow base e size (.slice (some ⟨g, 0, none⟩) (n + m) cap) (n + m) (xs ++ news) → w.grownBy w' (some g0) → (g = g0 ∨ g = w.heap.size) → K (a.put o.dst (.slice (some ⟨g, 0, none⟩) (n + m) cap)) w') : o.wp P a w K Q := by
  obtain ⟨g, cap, w', hr, h2, h3, h4⟩ := run_append_some (P := P) w t o.type base e i z size bytes ht hi hz hsize hby hzs hsz g0 n cap0 xs hown ad m c news hl hnews h1 h63 hbytes hbase
  unfold Oper.wp execOp
  simp only [ho, resolve, invoke, builtin, Sem.run_bind, Sem.run_pure, Result.andThen_ok, List.map_toArray, List.map_cons, List.map_nil, hs, hx, hr]
  exact h g cap w' h2 h3 h4

theorem step_append_some {ops : Array Oper} {o : Oper} {a : Act} {K : Act → World → Prop} {Q : Exit → Act → World → Prop} {E : Prop} (hgd : o.guard = none) (s x : Operand) (t : TypeId)
    (ho : o.op = .call { callee := .builtin .append, args := #[s, x], argTypes := #[t, t] })
    (base : Nat) (e : TypeId) (i : TypeInfo) (z : Value) (size bytes : Nat) (ht : P.underlying t = some (.slice e)) (hi : P.info? e = some i) (hz : i.zero = some z)
    (hsize : i.size = size) (hby : i.bytes = bytes) (hzs : z.cells.size = size) (hsz : 0 < size)
    (g0 n cap0 : Nat) (xs : List Value) (hs : a.eval s = .slice (some ⟨g0, 0, none⟩) n cap0) (hown : w.ownsRow base e size (.slice (some ⟨g0, 0, none⟩) n cap0) n xs)
    (ad : Addr) (m c : Nat) (news : List Value) (hx : a.eval x = .slice (some ad) m c) (hl : news.length = m * size) (hnews : ∀ j u, news[j]? = some u → w.cell? (ad.add j) = some u) (h1 : ∀ u ∈ news, u.oneCell' = true)
    (h63 : n + m ≤ maxLen) (hbytes : (n + m) * bytes ≤ 140737488355328) (hbase : base ≤ w.heap.size)
    (h : ∀ g cap w', w'.ownsRow base e size (.slice (some ⟨g, 0, none⟩) (n + m) cap) (n + m) (xs ++ news) → w.grownBy w' (some g0) → (g = g0 ∨ g = w.heap.size) → K (a.put o.dst (.slice (some ⟨g, 0, none⟩) (n + m) cap)) w') :
    if Region.wanted o (yielded ops a.tmps) = true then Oper.wp P o a w K Q else E := by
  have hw : Region.wanted o (yielded ops a.tmps) = true := by simp [Region.wanted, hgd]
  rw [if_pos hw]
  exact wp_append_some w s x t ho base e i z size bytes ht hi hz hsize hby hzs hsz g0 n cap0 xs hs hown ad m c news hx hl hnews h1 h63 hbytes hbase h

end

theorem Box.grown0 {w w1 : World} {p base n g cap : Nat} {c : Bool} {v1 v2 : Value} {xs : List Value} (h : Box w p c v1 v2) (hown : w.ownsRow base 3 1 (.slice (some ⟨g, 0, none⟩) n cap) n xs) (hg : w.grownBy w1 (some g)) : Box w1 p c v1 v2 := by
  refine (hg.block p h.lt ?_).trans h
  rcases hown.2 with ⟨e, _⟩ | ⟨g', cap', cur, e, _, hh, _⟩
  · cases e
  · cases e
    intro e
    cases e
    unfold Box at h
    rw [h] at hh
    have := congrArg (fun o => match o with | some (.cells _ t _) => t | _ => 0) hh
    simp at this

theorem Own.grown0 {w w1 : World} {B g n : Nat} {a : Option Addr} {zs : List Int} (h : Own w B a n zs) (hg : w.grownBy w1 (some g)) (hne : ∀ x, At a n x → x ≠ g) : Own w1 B a n zs := by
  refine ⟨h.len, h.small, ?_⟩
  rcases h.at_ with h0 | ⟨b, off, rfl, hb, hlt, hc, hf⟩
  · exact .inl h0
  · by_cases hn : n = 0
    · exact .inl hn
    have hk : w1.heap[b]? = w.heap[b]? := hg.block b hlt (fun e => hne b (at_self hn) (by simpa using e))
    refine .inr ⟨b, off, rfl, hb, Nat.lt_of_lt_of_le hlt hg.size, fun i hi => ?_, fun i hi => ?_⟩
    · exact (World.cell?_of_block hk).trans (hc i hi)
    · exact (World.frozen?_of_block hk).trans (hf i hi)

/-- An array in box p, its elements so far l. -/
structure Gat (w2 : World) (p : Nat) (c : Bool) (ash : Option Addr) (m csh : Nat) (zs l : List Int) (n : Nat) (wr : World) (g cap : Nat) : Prop where
  box : Box wr p c (.slice ash m csh) (.slice (some ⟨g, 0, none⟩) n cap)
  owns : wr.ownsRow w2.heap.size 3 1 (.slice (some ⟨g, 0, none⟩) n cap) n (l.map (Value.int .i64))
  own : Own wr w2.heap.size ash m zs
  ne : ∀ x, At ash m x → x ≠ g
  low : Below w2.heap.size w2 wr
  place : w2.heap.size ≤ p

theorem Gat.len {w2 wr : World} {p g cap n : Nat} {c : Bool} {ash : Option Addr} {m csh : Nat} {zs l : List Int} (h : Gat w2 p c ash m csh zs l n wr g cap) : l.length = n := by
  have := h.owns.1
  simpa using this

theorem Gat.drew {w2 wr : World} {p g cap n : Nat} {c : Bool} {ash : Option Addr} {m csh : Nat} {zs l : List Int} (h : Gat w2 p c ash m csh zs l n wr g cap) : Gat w2 p c ash m csh zs l n wr.drew g cap :=
  have hb : Below wr.heap.size wr wr.drew := (Below.refl _ _).drew
  ⟨h.box.below (Nat.le_refl _) hb, owns_below h.owns (Nat.le_refl _) hb, h.own.below (Nat.le_refl _) hb, h.ne, h.low.trans (hb.mono h.low.size), h.place⟩

theorem Gat.push {w2 w5 w6 : World} {p g g' cap cap' n k : Nat} {c : Bool} {ash : Option Addr} {m csh : Nat} {zs l r : List Int} (h : Gat w2 p c ash m csh zs l n w5 g cap)
    (hown : w6.ownsRow w2.heap.size 3 1 (.slice (some ⟨g', 0, none⟩) (n + k) cap') (n + k) (l.map (Value.int .i64) ++ r.map (Value.int .i64))) (hg : w5.grownBy w6 (some g)) (hat : g' = g ∨ g' = w5.heap.size) :
    (Box w6 p c (.slice ash m csh) (.slice (some ⟨g, 0, none⟩) n cap) ∧ Below w2.heap.size w2 w6) ∧ Gat w2 p c ash m csh zs (l ++ r) (n + k) (w6.setCell ⟨p, 2, none⟩ (.slice (some ⟨g', 0, none⟩) (n + k) cap')) g' cap' := by
  have hb6 := h.box.grown0 h.owns hg
  have ho6 := h.own.grown0 hg h.ne
  have hge : w2.heap.size ≤ g := by
    rcases h.owns.2 with ⟨e, _⟩ | ⟨g1, _, _, e, hb, _⟩
    · cases e
    · cases e; exact hb
  have hlow : Below w2.heap.size w2 w6 := h.low.grown hg h.low.size (by intro k hk; cases hk; exact hge)
  have hne' : ∀ x, At ash m x → x ≠ g' := by
    intro x hx
    rcases hat with e | e
    · rw [e]; exact h.ne x hx
    · have := h.own.row.hi hx; omega
  refine ⟨⟨hb6, hlow⟩, hb6.set2 _, ?_, ho6.other (fun x hx => ho6.row.notBox hb6 hx) _, hne', hlow.setCell h.place _, h.place⟩
  rw [List.map_append]
  exact owns_box_set hown hb6 _ _

theorem addr_plus (b o k : Nat) : (⟨b, o, none⟩ : Addr).add k = ⟨b, o + k, none⟩ := by
  unfold Addr.add
  split
  · simp
  · rfl

/-- What a statement reads that appends to the array's elements. -/
theorem holds_of {wx : World} {p b : Nat} {c d : Bool} {v1 v2 u1 u2 : Value} (h : Box wx p c v1 v2) (hb : Box wx b d u1 u2) : wx.cell? ⟨p, 2, none⟩ = some v2 ∧ wx.cell? ⟨b, 2, none⟩ = some u2 ∧ wx.frozen? ⟨p, 2, none⟩ = false := by
  obtain ⟨x0, x1, x2, x3, x4, x5, x6⟩ := h.all
  exact ⟨x2, hb.cells.2.2, by assumption⟩

theorem Gat.holds {w2 wr : World} {p g cap n b : Nat} {c d : Bool} {ash : Option Addr} {m csh : Nat} {zs l : List Int} {u1 u2 : Value} (h : Gat w2 p c ash m csh zs l n wr g cap) (hb : Box wr b d u1 u2) : wr.cell? ⟨p, 2, none⟩ = some (.slice (some ⟨g, 0, none⟩) n cap) ∧ wr.cell? ⟨b, 2, none⟩ = some u2 ∧ wr.frozen? ⟨p, 2, none⟩ = false := holds_of h.box hb

theorem Gat.grew {w2 w5 w6 : World} {p g cap n : Nat} {c : Bool} {ash : Option Addr} {m csh : Nat} {zs l : List Int} (h : Gat w2 p c ash m csh zs l n w5 g cap) (hg : w5.grownBy w6 (some g)) :
    Box w6 p c (.slice ash m csh) (.slice (some ⟨g, 0, none⟩) n cap) ∧ Below w2.heap.size w2 w6 := by
  have hge : w2.heap.size ≤ g := by
    rcases h.owns.2 with ⟨e, _⟩ | ⟨g1, _, _, e, hb, _⟩
    · cases e
    · cases e; exact hb
  exact ⟨h.box.grown0 h.owns hg, h.low.grown hg h.low.size (by intro k hk; cases hk; exact hge)⟩

/-- The cells of a piece of a row. -/
theorem sub_cells {w : World} {a : Addr} {n u m : Nat} {zs : List Int} (h : Row w (some a) n zs) (hu : u + m ≤ n) : ∀ (j : Nat) v, (((zs.drop u).take m).map (Value.int .i64))[j]? = some v → w.cell? ((a.add u).add j) = some v := by
  intro j v hj
  have hlen := h.len
  have hjm : j < m := by
    rcases Nat.lt_or_ge j m with h' | h'
    · exact h'
    · rw [List.getElem?_eq_none (by simp; omega)] at hj; cases hj
  obtain ⟨b, o, e, _, _⟩ := h.get (show 0 < n by omega)
  cases e
  have hc := cells_ints h (u + j) v (by
    rw [← hj]
    simp only [List.getElem?_map, List.getElem?_take_of_lt hjm, List.getElem?_drop])
  rw [addr_plus] at hc
  rw [addr_plus, addr_plus, Nat.add_assoc]
  exact hc

theorem sub_cells' {w : World} {a A : Addr} {n u m e : Nat} {zs : List Int} (hA : (if e = u then some a else some (a.add u)) = some A) (h : Row w (some a) n zs) (hu : u + m ≤ n) (hn : n ≤ e) : ∀ (j : Nat) v, (((zs.drop u).take m).map (Value.int .i64))[j]? = some v → w.cell? (A.add j) = some v := by
  by_cases he : e = u
  · intro j v hj
    have : m = 0 := by omega
    subst this
    simp at hj
  · rw [if_neg he] at hA
    cases hA
    exact sub_cells h hu

theorem sub_len {n u m : Nat} {zs : List Int} (h : zs.length = n) (hu : u + m ≤ n) : (((zs.drop u).take m).map (Value.int .i64)).length = m * 1 := by
  simp; omega

theorem cat_bounds {k B x y p q n : Nat} (hk : k < B) (hp : B * x = p) (hq : B * y = q) (hn : n ≤ k * (x + y)) : k * x + x ≤ p ∧ k * y + y ≤ q ∧ n + x + y ≤ p + q := by
  have h1 : (k + 1) * x ≤ B * x := Nat.mul_le_mul_right _ hk
  have h2 : (k + 1) * y ≤ B * y := Nat.mul_le_mul_right _ hk
  rw [Nat.add_mul, Nat.one_mul] at h1 h2
  rw [Nat.mul_add] at hn
  omega

theorem cat_next {k x y n : Nat} (hn : n ≤ k * (x + y)) : n + x + y ≤ (k + 1) * (x + y) := by
  rw [Nat.add_mul, Nat.one_mul]; omega

end Go.Proofs.YtkgcmpmgaghdhaaGreatDoor
namespace Go.Proofs.YtkgcmpmgaghdhaaGreatDoor
open Go.RowKit

theorem row_none {w : World} {n : Nat} {zs : List Int} (h : Row w none n zs) : n = 0 ∧ zs = [] := by
  obtain ⟨hl, _, h0 | ⟨b, off, hb, _⟩⟩ := h
  · subst h0; exact ⟨rfl, List.length_eq_zero_iff.mp hl⟩
  · cases hb

theorem run_append_nocap {P : Program} {w : World} (base : Nat) (t ty e : TypeId) (i : TypeInfo) (size : Nat) (ht : P.underlying t = some (.slice e)) (hi : P.info? e = some i)
    (v : Value) (n : Nat) (xs : List Value) (hown : w.ownsRow base e size v n xs) (c : Nat) : (Builtin.append_ #[t, t] ty #[v, .slice none 0 c]).run P w = .ok v w := by
  rcases hown.2 with ⟨rfl, rfl⟩ | ⟨g, cap, cur, rfl, _, _, hnc, _⟩
  · simp [Builtin.append_, run_underlying ht, sizeOf, typeInfo, hi, Builtin.lenOf, Builtin.firstCells]
  · simp [Builtin.append_, run_underlying ht, sizeOf, typeInfo, hi, Builtin.lenOf, Builtin.firstCells, hnc, storeCells]

theorem wpList_append_nocap {P : Program} {w : World} {ops : Array Oper} {rest : List Oper} {o : Oper} {a : Act} {Q : Exit → Act → World → Prop} (hgd : o.guard = none) (s x : Operand) (t : TypeId)
    (ho : o.op = .call { callee := .builtin .append, args := #[s, x], argTypes := #[t, t] })
    (base : Nat) (e : TypeId) (i : TypeInfo) (size : Nat) (ht : P.underlying t = some (.slice e)) (hi : P.info? e = some i)
    (v : Value) (n : Nat) (xs : List Value) (hs : a.eval s = v) (hown : w.ownsRow base e size v n xs) (k : Nat) (hk : k = 0) (c : Nat) (hx : a.eval x = .slice none k c)
    (h : wpList P ops Q rest (a.put o.dst v) w) : wpList P ops Q (o :: rest) a w := by
  subst hk
  refine wpList_plain hgd fun K hK => ?_
  have hrun := run_append_nocap (P := P) (w := w) base t o.type e i size ht hi v n xs hown c
  unfold Oper.wp
  simp [execOp, ho, resolve, invoke, builtin, hs, hx, hrun, Result.andThen]
  exact hK _ _ h

end Go.Proofs.YtkgcmpmgaghdhaaGreatDoor
namespace Go.Proofs.YtkgcmpmgaghdhaaGreatDoor
open Go.RowKit

/-- A slice that reads as zs and is nil only where it is empty. -/
def Src (w : World) (s : Option Addr) (n _c : Nat) (zs : List Int) : Prop := Row w s n zs ∧ ((∃ ad, s = some ad) ∨ (s = none ∧ n = 0))
theorem Src.below {w w' : World} {s : Option Addr} {n c B : Nat} {zs : List Int} (h : Src w s n c zs) (hB : w.heap.size ≤ B) (hb : Below B w w') : Src w' s n c zs := ⟨h.1.below hB hb, h.2⟩
theorem Src.some {w : World} {s : Addr} {n c : Nat} {zs : List Int} (h : Row w (some s) n zs) : Src w (some s) n c zs := ⟨h, .inl ⟨s, rfl⟩⟩
theorem Src.none (w : World) : Src w none 0 0 [] := ⟨row_nil _ _, .inr ⟨rfl, rfl⟩⟩
theorem Src.of {w : World} {s : Option Addr} {n c : Nat} {zs : List Int} (h : Row w s n zs) : Src w s n c zs := by
  cases s with
  | some a => exact Src.some h
  | none => exact ⟨h, .inr ⟨rfl, (row_none h).1⟩⟩

def oLw_0 : Oper := { dst := some 3, op := Op.fieldAddr 25 (Operand.tmp 1) 0, type := 0, pos := "laws.go:46", after := #[], guard := none }
def oLw_1 : Oper := { dst := some 4, op := Op.load 4 (Operand.tmp 3), type := 4, pos := "laws.go:46", after := #[{ on := 0, ground := Ground.data }], guard := none }
def oLw_2 : Oper := { dst := some 5, op := Op.buildSlice 23 0 #[], type := 23, pos := "laws.go:46", after := #[], guard := none }
def oLw_3 : Oper := { dst := some 6, op := Op.fieldAddr 25 (Operand.tmp 1) 1, type := 0, pos := "laws.go:46", after := #[], guard := none }
def oLw_4 : Oper := { dst := some 7, op := Op.load 23 (Operand.tmp 6), type := 23, pos := "laws.go:46", after := #[{ on := 3, ground := Ground.data }], guard := none }
def oLw_5 : Oper := { dst := some 8, op := Op.call { callee := Callee.builtin Builtin.append, args := #[Operand.tmp 5, Operand.tmp 7], argTypes := #[23, 23] }, type := 23, pos := "laws.go:46", after := #[{ on := 2, ground := Ground.data }, { on := 4, ground := Ground.data }], guard := none }
def oLw_6 : Oper := { dst := some 9, op := Op.buildSlice 23 0 #[], type := 23, pos := "laws.go:46", after := #[], guard := none }
def oLw_7 : Oper := { dst := some 10, op := Op.fieldAddr 25 (Operand.tmp 1) 2, type := 0, pos := "laws.go:46", after := #[], guard := none }
def oLw_8 : Oper := { dst := some 11, op := Op.load 23 (Operand.tmp 10), type := 23, pos := "laws.go:46", after := #[{ on := 7, ground := Ground.data }], guard := none }
def oLw_9 : Oper := { dst := some 12, op := Op.call { callee := Callee.builtin Builtin.append, args := #[Operand.tmp 9, Operand.tmp 11], argTypes := #[23, 23] }, type := 23, pos := "laws.go:46", after := #[{ on := 6, ground := Ground.data }, { on := 8, ground := Ground.data }, { on := 5, ground := Ground.chain }], guard := none }
def oLw_10 : Oper := { dst := some 13, op := Op.build 25 #[(0, Operand.tmp 4), (1, Operand.tmp 8), (2, Operand.tmp 12)], type := 25, pos := "laws.go:46", after := #[{ on := 1, ground := Ground.data }, { on := 5, ground := Ground.data }, { on := 9, ground := Ground.data }], guard := none }
def oLw_11 : Oper := { dst := none, op := Op.store 25 (Operand.tmp 2) (Operand.tmp 13), type := 0, pos := "laws.go:46", after := #[{ on := 10, ground := Ground.data }, { on := 9, ground := Ground.chain }, { on := 0, ground := Ground.phase }, { on := 1, ground := Ground.phase }, { on := 2, ground := Ground.phase }, { on := 3, ground := Ground.phase }, { on := 4, ground := Ground.phase }, { on := 5, ground := Ground.phase }, { on := 6, ground := Ground.phase }, { on := 7, ground := Ground.phase }, { on := 8, ground := Ground.phase }, { on := 9, ground := Ground.phase }, { on := 10, ground := Ground.phase }], guard := none }

/-- laws.lwArray's region 1. -/
def opsLw : Array Oper := #[oLw_0, oLw_1, oLw_2, oLw_3, oLw_4, oLw_5, oLw_6, oLw_7, oLw_8, oLw_9, oLw_10, oLw_11]

section
variable {P : Program} {ops : Array Oper} {Q : Exit → Act → World → Prop} {md : Region.Mode} {S : World → Prop} {st : Nat}
theorem wpAnyL_two {i j : Nat} {fuel : Nat} {listed : Array Bool} {a : Act} {w : World} (hr : Region.ready md ops listed = [i, j])
    (h : wpOp P ops Q i (fun a' w' => (i ≠ st → S w') ∧ wpAnyL P md ops Q S st fuel (listed.setIfInBounds i true) a' w') a w)
    (h' : wpOp P ops Q j (fun a' w' => (j ≠ st → S w') ∧ wpAnyL P md ops Q S st fuel (listed.setIfInBounds j true) a' w') a w) : wpAnyL P md ops Q S st (fuel + 1) listed a w :=
  ⟨fun h0 => (by rw [hr] at h0; cases h0), fun k hk => (by rw [hr] at hk; simp at hk; rcases hk with rfl | rfl <;> assumption)⟩
end

section
variable {o : Oper} {a : Act}
theorem rgS0 (ho : o.op = .buildSlice 23 0 #[]) (w : World) : (execOp a.eval o).run Tryz.prog w = .ok (.value (.slice (some ⟨w.heap.size, 0, none⟩) 0 0)) (w.alloc (.cells #[] 3)) := by
  unfold execOp
  simp only [ho]
  go_simp
theorem rgBool (x : Operand) (p : Addr) {z : Bool} (ho : o.op = .load 4 x) (hx : a.eval x = .pointer (some p)) (w : World) (hc : w.cell? p = some (.bool z)) : (execOp a.eval o).run Tryz.prog w = .ok (.value (.bool z)) w := by
  unfold execOp
  simp only [ho, hx]
  go_simp
theorem rgStruct (i j k : Nat) {z : Bool} {s1 s2 : Option Addr} {m1 d1 m2 d2 : Nat} (ho : o.op = .build 25 #[(0, .tmp i), (1, .tmp j), (2, .tmp k)]) (h0 : a.eval (.tmp i) = .bool z) (h1 : a.eval (.tmp j) = .slice s1 m1 d1) (h2 : a.eval (.tmp k) = .slice s2 m2 d2) (w : World) : (execOp a.eval o).run Tryz.prog w = .ok (.value (.agg #[.bool z, .slice s1 m1 d1, .slice s2 m2 d2])) w := by
  have h0' : a.tmps[i]?.getD undef = .bool z := by simpa [Act.eval] using h0
  have h1' : a.tmps[j]?.getD undef = .slice s1 m1 d1 := by simpa [Act.eval] using h1
  have h2' : a.tmps[k]?.getD undef = .slice s2 m2 d2 := by simpa [Act.eval] using h2
  unfold execOp
  simp only [ho]
  go_simp
theorem rgStoreA (x y : Operand) (p : Nat) {c c' : Bool} {u1 u2 : Value} {s1 s2 : Option Addr} {m1 d1 m2 d2 : Nat} (ho : o.op = .store 25 x y) (hx : a.eval x = .pointer (some ⟨p, 0, none⟩)) (hy : a.eval y = .agg #[.bool c', .slice s1 m1 d1, .slice s2 m2 d2]) (w : World) (hb : Box w p c u1 u2) : (execOp a.eval o).run Tryz.prog w = .ok .skip (((w.setCell ⟨p, 0, none⟩ (.bool c')).setCell ⟨p, 1, none⟩ (.slice s1 m1 d1)).setCell ⟨p, 2, none⟩ (.slice s2 m2 d2)) := by
  obtain ⟨y0, y1, y2, y3, y4, y5, y6⟩ := hb.all
  unfold execOp
  simp only [ho, hx, hy]
  go_simp
end

theorem row_news {w : World} {s : Addr} {n : Nat} {zs : List Int} (h : Row w (some s) n zs) : ∀ (j : Nat) u, (zs.map (Value.int .i64))[j]? = some u → w.cell? (s.add j) = some u := by
  intro j u hj
  have hl := h.len
  have hjn : j < n := by
    rcases Nat.lt_or_ge j n with h' | h'
    · exact h'
    · rw [List.getElem?_eq_none (by rw [List.length_map]; omega)] at hj
      cases hj
  obtain ⟨b, o, hab, _, hc⟩ := h.get hjn
  cases hab
  have hadd : (⟨b, o, none⟩ : Addr).add j = ⟨b, o + j, none⟩ := by unfold Addr.add; split <;> simp_all
  rw [hadd, hc]
  have hjz : j < zs.length := by omega
  simp [List.getElem?_eq_getElem hjz] at hj
  simp [List.getD, List.getElem?_eq_getElem hjz, hj]

theorem ints_one (zs : List Int) : ∀ u ∈ zs.map (Value.int .i64), u.oneCell' = true := by
  intro u hu
  obtain ⟨x, _, rfl⟩ := List.mem_map.1 hu
  rfl

theorem put_defers {a : Act} {d : Nat} {v : Value} : (a.put (some d) v).defers = a.defers := rfl

theorem wp_append_src {P : Program} (w : World) {o : Oper} {a : Act} {K : Act → World → Prop} {Q : Exit → Act → World → Prop} (s x : Operand) (t : TypeId)
    (ho : o.op = .call { callee := .builtin .append, args := #[s, x], argTypes := #[t, t] })
    (base : Nat) (e : TypeId) (i : TypeInfo) (ht : P.underlying t = some (.slice e)) (hi : P.info? e = some i) (hz : i.zero = some (.int .i64 0))
    (hsize : i.size = 1) (hby : i.bytes = 8)
    (g0 : Nat) (hs : a.eval s = .slice (some ⟨g0, 0, none⟩) 0 0) (hown : w.ownsRow base e 1 (.slice (some ⟨g0, 0, none⟩) 0 0) 0 [])
    (ad : Option Addr) (m c : Nat) (zs : List Int) (hx : a.eval x = .slice ad m c) (hsrc : Src w ad m c zs) (hm : m ≤ 20000) (hbase : base ≤ w.heap.size)
    (h : ∀ g cap w', w'.ownsRow base e 1 (.slice (some ⟨g, 0, none⟩) m cap) m (zs.map (Value.int .i64)) → w.grownBy w' (some g0) → (g = g0 ∨ g = w.heap.size) → K (a.put o.dst (.slice (some ⟨g, 0, none⟩) m cap)) w') : o.wp P a w K Q := by
  obtain ⟨hrow, hk⟩ := hsrc
  have hlen := hrow.len
  rcases hk with ⟨ad, rfl⟩ | ⟨rfl, rfl⟩
  · refine wp_append_some w s x t ho base e i (.int .i64 0) 1 8 ht hi hz hsize hby rfl (by decide) g0 0 0 [] hs hown ad m c (zs.map (Value.int .i64)) hx (by simp [hlen]) (row_news hrow) (ints_one _) (by unfold maxLen; omega) (by omega) hbase ?_
    intro g d w' ho' hg hat
    rw [Nat.zero_add] at ho' ⊢
    exact h g d w' (by simpa using ho') hg hat
  · have hrun := run_append_nocap (P := P) (w := w) base t o.type e i 1 ht hi _ 0 [] hown c
    obtain rfl : zs = [] := List.length_eq_zero_iff.1 hlen
    unfold Oper.wp execOp
    simp only [ho, resolve, invoke, builtin, Sem.run_bind, Sem.run_pure, Result.andThen_ok, List.map_toArray, List.map_cons, List.map_nil, hs, hx, hrun]
    exact h g0 0 w hown ⟨rfl, rfl, rfl, Nat.le_refl _, fun _ _ _ => rfl⟩ (.inl rfl)

/-- How far the two copies have come: 0 not begun, 1 an empty row lies, 2 copied. -/
structure LwS (W : World) (p q : Nat) (c : Bool) (s1 s2 : Option Addr) (n1 n2 c1 c2 : Nat) (sh dt : List Int) (A B gA gB dA dB : Nat) (a : Act) (wx : World) : Prop where
  low : Below W.heap.size W wx
  size : 14 ≤ a.tmps.size
  df : a.defers = []
  e2 : a.eval (.tmp 2) = .pointer (some ⟨q, 0, none⟩)
  e4 : a.eval (.tmp 4) = .bool c
  e7 : a.eval (.tmp 7) = .slice s1 n1 c1
  e11 : a.eval (.tmp 11) = .slice s2 n2 c2
  a1 : A = 1 → a.eval (.tmp 5) = .slice (some ⟨gA, 0, none⟩) 0 0 ∧ wx.ownsRow W.heap.size 3 1 (.slice (some ⟨gA, 0, none⟩) 0 0) 0 []
  a2 : A = 2 → a.eval (.tmp 8) = .slice (some ⟨gA, 0, none⟩) n1 dA ∧ wx.ownsRow W.heap.size 3 1 (.slice (some ⟨gA, 0, none⟩) n1 dA) n1 (sh.map (Value.int .i64))
  b1 : B = 1 → a.eval (.tmp 9) = .slice (some ⟨gB, 0, none⟩) 0 0 ∧ wx.ownsRow W.heap.size 3 1 (.slice (some ⟨gB, 0, none⟩) 0 0) 0 []
  b2 : B = 2 → a.eval (.tmp 12) = .slice (some ⟨gB, 0, none⟩) n2 dB ∧ wx.ownsRow W.heap.size 3 1 (.slice (some ⟨gB, 0, none⟩) n2 dB) n2 (dt.map (Value.int .i64))
  la : A ≠ 0 → gA < wx.heap.size
  lb : B ≠ 0 → gB < wx.heap.size
  ne : A ≠ 0 → B ≠ 0 → gA ≠ gB

section
variable {W wx w' : World} {p q n1 n2 c1 c2 A B gA gB dA dB g d : Nat} {c : Bool} {s1 s2 : Option Addr} {sh dt : List Int} {a : Act}
theorem lw_owns {v : Value} {n : Nat} {xs : List Value} (h : wx.ownsRow W.heap.size 3 1 v n xs) : (wx.alloc (.cells #[] 3)).ownsRow W.heap.size 3 1 v n xs := h.alloc _
theorem lw_grown {n cap k : Nat} {xs : List Value} (h : wx.ownsRow W.heap.size 3 1 (.slice (some ⟨k, 0, none⟩) n cap) n xs) (hg : wx.grownBy w' (some g)) (hk : k ≠ g) : w'.ownsRow W.heap.size 3 1 (.slice (some ⟨k, 0, none⟩) n cap) n xs := by
  refine ⟨h.1, ?_⟩
  rcases h.2 with ⟨e, _⟩ | ⟨g', cap', cur, e, hge, hh, hr⟩
  · cases e
  · cases e
    exact .inr ⟨_, _, cur, rfl, hge, (hg.block _ (lt_of_block hh) (fun e => hk (by simpa using e))).trans hh, hr⟩
theorem lw_low (h : Below W.heap.size W wx) (hg : wx.grownBy w' (some g)) (hge : W.heap.size ≤ g) : Below W.heap.size W w' :=
  ⟨hg.os.trans h.os, hg.tape.trans h.tape, hg.output.trans h.output, Nat.le_trans h.size hg.size, fun k hk => (hg.block k (by have := h.size; omega) (fun e => by have := (Option.some.inj e : k = g); omega)).trans (h.block k hk)⟩
theorem lw_from {n cap k : Nat} {xs : List Value} (h : wx.ownsRow W.heap.size 3 1 (.slice (some ⟨k, 0, none⟩) n cap) n xs) : W.heap.size ≤ k := by
  rcases h.2 with ⟨e, _⟩ | ⟨g', cap', cur, e, hge, hh, hr⟩
  · cases e
  · cases e; exact hge
theorem lw_lt {n cap k : Nat} {xs : List Value} (h : wx.ownsRow W.heap.size 3 1 (.slice (some ⟨k, 0, none⟩) n cap) n xs) : k < wx.heap.size := by
  rcases h.2 with ⟨e, _⟩ | ⟨g', cap', cur, e, hge, hh, hr⟩
  · cases e
  · cases e; exact lt_of_block hh

theorem LwS.buildA (h : LwS W p q c s1 s2 n1 n2 c1 c2 sh dt 0 B gA gB dA dB a wx) : LwS W p q c s1 s2 n1 n2 c1 c2 sh dt 1 B wx.heap.size gB dA dB (a.put (some 5) (.slice (some ⟨wx.heap.size, 0, none⟩) 0 0)) (wx.alloc (.cells #[] 3)) :=
  ⟨h.low.alloc h.low.size _, by rw [put_size]; exact h.size, by rw [put_defers]; exact h.df, by rw [eval_ne (by decide)]; exact h.e2, by rw [eval_ne (by decide)]; exact h.e4, by rw [eval_ne (by decide)]; exact h.e7, by rw [eval_ne (by decide)]; exact h.e11,
    fun _ => ⟨eval_eq (by have := h.size; omega), (Blk.new wx).owns h.low.size⟩, fun e => by omega,
    fun e => ⟨by rw [eval_ne (by decide)]; exact (h.b1 e).1, lw_owns (h.b1 e).2⟩, fun e => ⟨by rw [eval_ne (by decide)]; exact (h.b2 e).1, lw_owns (h.b2 e).2⟩,
    fun _ => by simp, fun e => by have := h.lb e; simp; omega, fun _ e => by have := h.lb e; omega⟩
theorem LwS.buildB (h : LwS W p q c s1 s2 n1 n2 c1 c2 sh dt A 0 gA gB dA dB a wx) : LwS W p q c s1 s2 n1 n2 c1 c2 sh dt A 1 gA wx.heap.size dA dB (a.put (some 9) (.slice (some ⟨wx.heap.size, 0, none⟩) 0 0)) (wx.alloc (.cells #[] 3)) :=
  ⟨h.low.alloc h.low.size _, by rw [put_size]; exact h.size, by rw [put_defers]; exact h.df, by rw [eval_ne (by decide)]; exact h.e2, by rw [eval_ne (by decide)]; exact h.e4, by rw [eval_ne (by decide)]; exact h.e7, by rw [eval_ne (by decide)]; exact h.e11,
    fun e => ⟨by rw [eval_ne (by decide)]; exact (h.a1 e).1, lw_owns (h.a1 e).2⟩, fun e => ⟨by rw [eval_ne (by decide)]; exact (h.a2 e).1, lw_owns (h.a2 e).2⟩,
    fun _ => ⟨eval_eq (by have := h.size; omega), (Blk.new wx).owns h.low.size⟩, fun e => by omega,
    fun e => by have := h.la e; simp; omega, fun _ => by simp, fun e _ => by have := h.la e; omega⟩
theorem LwS.appA (h : LwS W p q c s1 s2 n1 n2 c1 c2 sh dt 1 B gA gB dA dB a wx) (ho : w'.ownsRow W.heap.size 3 1 (.slice (some ⟨g, 0, none⟩) n1 d) n1 (sh.map (Value.int .i64))) (hg : wx.grownBy w' (some gA)) (hat : g = gA ∨ g = wx.heap.size) : LwS W p q c s1 s2 n1 n2 c1 c2 sh dt 2 B g gB d dB (a.put (some 8) (.slice (some ⟨g, 0, none⟩) n1 d)) w' :=
  ⟨lw_low h.low hg (lw_from (h.a1 rfl).2), by rw [put_size]; exact h.size, by rw [put_defers]; exact h.df, by rw [eval_ne (by decide)]; exact h.e2, by rw [eval_ne (by decide)]; exact h.e4, by rw [eval_ne (by decide)]; exact h.e7, by rw [eval_ne (by decide)]; exact h.e11,
    fun e => by omega, fun _ => ⟨eval_eq (by have := h.size; omega), ho⟩,
    fun e => ⟨by rw [eval_ne (by decide)]; exact (h.b1 e).1, lw_grown (h.b1 e).2 hg (h.ne (by omega) (by omega)).symm⟩, fun e => ⟨by rw [eval_ne (by decide)]; exact (h.b2 e).1, lw_grown (h.b2 e).2 hg (h.ne (by omega) (by omega)).symm⟩,
    fun _ => lw_lt ho, fun e => Nat.lt_of_lt_of_le (h.lb e) hg.size, fun _ e => by have h1 := h.lb e; have h2 := h.ne (by omega) e; rcases hat with rfl | rfl <;> omega⟩
theorem LwS.appB (h : LwS W p q c s1 s2 n1 n2 c1 c2 sh dt A 1 gA gB dA dB a wx) (ho : w'.ownsRow W.heap.size 3 1 (.slice (some ⟨g, 0, none⟩) n2 d) n2 (dt.map (Value.int .i64))) (hg : wx.grownBy w' (some gB)) (hat : g = gB ∨ g = wx.heap.size) : LwS W p q c s1 s2 n1 n2 c1 c2 sh dt A 2 gA g dA d (a.put (some 12) (.slice (some ⟨g, 0, none⟩) n2 d)) w' :=
  ⟨lw_low h.low hg (lw_from (h.b1 rfl).2), by rw [put_size]; exact h.size, by rw [put_defers]; exact h.df, by rw [eval_ne (by decide)]; exact h.e2, by rw [eval_ne (by decide)]; exact h.e4, by rw [eval_ne (by decide)]; exact h.e7, by rw [eval_ne (by decide)]; exact h.e11,
    fun e => ⟨by rw [eval_ne (by decide)]; exact (h.a1 e).1, lw_grown (h.a1 e).2 hg (h.ne (by omega) (by omega))⟩, fun e => ⟨by rw [eval_ne (by decide)]; exact (h.a2 e).1, lw_grown (h.a2 e).2 hg (h.ne (by omega) (by omega))⟩,
    fun e => by omega, fun _ => ⟨eval_eq (by have := h.size; omega), ho⟩,
    fun e => Nat.lt_of_lt_of_le (h.la e) hg.size, fun _ => lw_lt ho, fun e _ => by have h1 := h.la e; have h2 := h.ne e (by omega); rcases hat with rfl | rfl <;> omega⟩
end

section
variable {Q : Exit → Act → World → Prop} (W : World) (p q : Nat) (c : Bool) (s1 s2 : Option Addr) (n1 n2 c1 c2 : Nat) (sh dt : List Int)
theorem lw_22 (u1 u2 : Value) (hq : Box W q false u1 u2) (hend : ∀ a g1 g2 d1 d2 wx, LwS W p q c s1 s2 n1 n2 c1 c2 sh dt 2 2 g1 g2 d1 d2 a wx → Q .normal (a.put (some 13) (.agg #[.bool c, .slice (some ⟨g1, 0, none⟩) n1 d1, .slice (some ⟨g2, 0, none⟩) n2 d2])) (((wx.setCell ⟨q, 0, none⟩ (.bool c)).setCell ⟨q, 1, none⟩ (.slice (some ⟨g1, 0, none⟩) n1 d1)).setCell ⟨q, 2, none⟩ (.slice (some ⟨g2, 0, none⟩) n2 d2))) (a : Act) (gA gB dA dB : Nat) (wx : World) (h : LwS W p q c s1 s2 n1 n2 c1 c2 sh dt 2 2 gA gB dA dB a wx) : wpAnyL Tryz.prog .any opsLw Q (fun wx => Below W.heap.size W wx) 11 2 #[true, true, true, true, true, true, true, true, true, true, false, false] a wx := by
  refine wpAnyL_one (i := 10) (by kernel_rfl) ?_
  refine op_wp (o := oLw_10) rfl (wanted_free rfl) ?_
  unfold Oper.wp
  rw [rgStruct (o := oLw_10) 4 8 12 rfl h.e4 (h.a2 rfl).1 (h.b2 rfl).1 wx]
  refine ⟨fun _ => h.low, ?_⟩
  show wpAnyL _ _ _ _ _ _ (0 + 1) _ (Act.put _ (some 13) _) _
  refine wpAnyL_one (i := 11) (by kernel_rfl) ?_
  refine op_wp (o := oLw_11) rfl (wanted_free rfl) ?_
  unfold Oper.wp
  rw [rgStoreA (o := oLw_11) (.tmp 2) (.tmp 13) q (c' := c) (s1 := some ⟨gA, 0, none⟩) (s2 := some ⟨gB, 0, none⟩) (m1 := n1) (d1 := dA) (m2 := n2) (d2 := dB) rfl (by rw [eval_ne (by decide)]; exact h.e2) (eval_eq (by have := h.size; omega)) wx (hq.below (Nat.le_refl _) h.low)]
  refine ⟨fun h => absurd rfl h, ?_⟩
  refine wpAnyL_done (by kernel_rfl) ?_ _
  rw [show oLw_11.dst = none from rfl, put_nothing]
  exact hend a gA gB dA dB wx h

theorem lw_21 (r2 : Src W s2 n2 c2 dt) (h2 : n2 ≤ 20000) (u1 u2 : Value) (hq : Box W q false u1 u2) (hend : ∀ a g1 g2 d1 d2 wx, LwS W p q c s1 s2 n1 n2 c1 c2 sh dt 2 2 g1 g2 d1 d2 a wx → Q .normal (a.put (some 13) (.agg #[.bool c, .slice (some ⟨g1, 0, none⟩) n1 d1, .slice (some ⟨g2, 0, none⟩) n2 d2])) (((wx.setCell ⟨q, 0, none⟩ (.bool c)).setCell ⟨q, 1, none⟩ (.slice (some ⟨g1, 0, none⟩) n1 d1)).setCell ⟨q, 2, none⟩ (.slice (some ⟨g2, 0, none⟩) n2 d2))) (a : Act) (gA gB dA dB : Nat) (wx : World) (h : LwS W p q c s1 s2 n1 n2 c1 c2 sh dt 2 1 gA gB dA dB a wx) : wpAnyL Tryz.prog .any opsLw Q (fun wx => Below W.heap.size W wx) 11 3 #[true, true, true, true, true, true, true, true, true, false, false, false] a wx := by
  obtain ⟨i0, hi, hz0, hz1, hz2⟩ := info_parts info_int
  refine wpAnyL_one (i := 9) (by kernel_rfl) ?_
  ·
    have hL : (#[true, true, true, true, true, true, true, true, true, false, false, false] : Array Bool).setIfInBounds 9 true = #[true, true, true, true, true, true, true, true, true, true, false, false] := by kernel_rfl
    refine op_wp (o := oLw_9) rfl (wanted_free rfl) ?_
    have hrow := r2.below (Nat.le_refl _) h.low
    refine wp_append_src wx (.tmp 9) (.tmp 11) 23 rfl W.heap.size 3 i0 Tryz.underlying23 hi hz0 hz1 hz2 gB (h.b1 rfl).1 (h.b1 rfl).2 s2 n2 c2 dt h.e11 hrow (by omega) h.low.size ?_
    intro g d w' ho hg hat
    have h' := h.appB ho hg hat
    refine ⟨fun _ => h'.low, ?_⟩
    rw [hL]
    exact lw_22 W p q c s1 s2 n1 n2 c1 c2 sh dt u1 u2 hq hend _ _ _ _ _ _ h'

theorem lw_20 (r2 : Src W s2 n2 c2 dt) (h2 : n2 ≤ 20000) (u1 u2 : Value) (hq : Box W q false u1 u2) (hend : ∀ a g1 g2 d1 d2 wx, LwS W p q c s1 s2 n1 n2 c1 c2 sh dt 2 2 g1 g2 d1 d2 a wx → Q .normal (a.put (some 13) (.agg #[.bool c, .slice (some ⟨g1, 0, none⟩) n1 d1, .slice (some ⟨g2, 0, none⟩) n2 d2])) (((wx.setCell ⟨q, 0, none⟩ (.bool c)).setCell ⟨q, 1, none⟩ (.slice (some ⟨g1, 0, none⟩) n1 d1)).setCell ⟨q, 2, none⟩ (.slice (some ⟨g2, 0, none⟩) n2 d2))) (a : Act) (gA gB dA dB : Nat) (wx : World) (h : LwS W p q c s1 s2 n1 n2 c1 c2 sh dt 2 0 gA gB dA dB a wx) : wpAnyL Tryz.prog .any opsLw Q (fun wx => Below W.heap.size W wx) 11 4 #[true, true, true, true, true, true, false, true, true, false, false, false] a wx := by
  obtain ⟨i0, hi, hz0, hz1, hz2⟩ := info_parts info_int
  refine wpAnyL_one (i := 6) (by kernel_rfl) ?_
  ·
    have hL : (#[true, true, true, true, true, true, false, true, true, false, false, false] : Array Bool).setIfInBounds 6 true = #[true, true, true, true, true, true, true, true, true, false, false, false] := by kernel_rfl
    refine op_wp (o := oLw_6) rfl (wanted_free rfl) ?_
    unfold Oper.wp
    rw [rgS0 (o := oLw_6) rfl wx]
    refine ⟨fun _ => h.buildB.low, ?_⟩
    rw [hL]
    exact lw_21 W p q c s1 s2 n1 n2 c1 c2 sh dt r2 h2 u1 u2 hq hend _ _ _ _ _ _ h.buildB

theorem lw_11 (r1 : Src W s1 n1 c1 sh) (r2 : Src W s2 n2 c2 dt) (h1 : n1 ≤ 20000) (h2 : n2 ≤ 20000) (u1 u2 : Value) (hq : Box W q false u1 u2) (hend : ∀ a g1 g2 d1 d2 wx, LwS W p q c s1 s2 n1 n2 c1 c2 sh dt 2 2 g1 g2 d1 d2 a wx → Q .normal (a.put (some 13) (.agg #[.bool c, .slice (some ⟨g1, 0, none⟩) n1 d1, .slice (some ⟨g2, 0, none⟩) n2 d2])) (((wx.setCell ⟨q, 0, none⟩ (.bool c)).setCell ⟨q, 1, none⟩ (.slice (some ⟨g1, 0, none⟩) n1 d1)).setCell ⟨q, 2, none⟩ (.slice (some ⟨g2, 0, none⟩) n2 d2))) (a : Act) (gA gB dA dB : Nat) (wx : World) (h : LwS W p q c s1 s2 n1 n2 c1 c2 sh dt 1 1 gA gB dA dB a wx) : wpAnyL Tryz.prog .any opsLw Q (fun wx => Below W.heap.size W wx) 11 4 #[true, true, true, true, true, false, true, true, true, false, false, false] a wx := by
  obtain ⟨i0, hi, hz0, hz1, hz2⟩ := info_parts info_int
  refine wpAnyL_one (i := 5) (by kernel_rfl) ?_
  ·
    have hL : (#[true, true, true, true, true, false, true, true, true, false, false, false] : Array Bool).setIfInBounds 5 true = #[true, true, true, true, true, true, true, true, true, false, false, false] := by kernel_rfl
    refine op_wp (o := oLw_5) rfl (wanted_free rfl) ?_
    have hrow := r1.below (Nat.le_refl _) h.low
    refine wp_append_src wx (.tmp 5) (.tmp 7) 23 rfl W.heap.size 3 i0 Tryz.underlying23 hi hz0 hz1 hz2 gA (h.a1 rfl).1 (h.a1 rfl).2 s1 n1 c1 sh h.e7 hrow (by omega) h.low.size ?_
    intro g d w' ho hg hat
    have h' := h.appA ho hg hat
    refine ⟨fun _ => h'.low, ?_⟩
    rw [hL]
    exact lw_21 W p q c s1 s2 n1 n2 c1 c2 sh dt r2 h2 u1 u2 hq hend _ _ _ _ _ _ h'

theorem lw_10 (r1 : Src W s1 n1 c1 sh) (r2 : Src W s2 n2 c2 dt) (h1 : n1 ≤ 20000) (h2 : n2 ≤ 20000) (u1 u2 : Value) (hq : Box W q false u1 u2) (hend : ∀ a g1 g2 d1 d2 wx, LwS W p q c s1 s2 n1 n2 c1 c2 sh dt 2 2 g1 g2 d1 d2 a wx → Q .normal (a.put (some 13) (.agg #[.bool c, .slice (some ⟨g1, 0, none⟩) n1 d1, .slice (some ⟨g2, 0, none⟩) n2 d2])) (((wx.setCell ⟨q, 0, none⟩ (.bool c)).setCell ⟨q, 1, none⟩ (.slice (some ⟨g1, 0, none⟩) n1 d1)).setCell ⟨q, 2, none⟩ (.slice (some ⟨g2, 0, none⟩) n2 d2))) (a : Act) (gA gB dA dB : Nat) (wx : World) (h : LwS W p q c s1 s2 n1 n2 c1 c2 sh dt 1 0 gA gB dA dB a wx) : wpAnyL Tryz.prog .any opsLw Q (fun wx => Below W.heap.size W wx) 11 5 #[true, true, true, true, true, false, false, true, true, false, false, false] a wx := by
  obtain ⟨i0, hi, hz0, hz1, hz2⟩ := info_parts info_int
  refine wpAnyL_two (i := 5) (j := 6) (by kernel_rfl) ?_ ?_
  ·
    have hL : (#[true, true, true, true, true, false, false, true, true, false, false, false] : Array Bool).setIfInBounds 5 true = #[true, true, true, true, true, true, false, true, true, false, false, false] := by kernel_rfl
    refine op_wp (o := oLw_5) rfl (wanted_free rfl) ?_
    have hrow := r1.below (Nat.le_refl _) h.low
    refine wp_append_src wx (.tmp 5) (.tmp 7) 23 rfl W.heap.size 3 i0 Tryz.underlying23 hi hz0 hz1 hz2 gA (h.a1 rfl).1 (h.a1 rfl).2 s1 n1 c1 sh h.e7 hrow (by omega) h.low.size ?_
    intro g d w' ho hg hat
    have h' := h.appA ho hg hat
    refine ⟨fun _ => h'.low, ?_⟩
    rw [hL]
    exact lw_20 W p q c s1 s2 n1 n2 c1 c2 sh dt r2 h2 u1 u2 hq hend _ _ _ _ _ _ h'
  ·
    have hL : (#[true, true, true, true, true, false, false, true, true, false, false, false] : Array Bool).setIfInBounds 6 true = #[true, true, true, true, true, false, true, true, true, false, false, false] := by kernel_rfl
    refine op_wp (o := oLw_6) rfl (wanted_free rfl) ?_
    unfold Oper.wp
    rw [rgS0 (o := oLw_6) rfl wx]
    refine ⟨fun _ => h.buildB.low, ?_⟩
    rw [hL]
    exact lw_11 W p q c s1 s2 n1 n2 c1 c2 sh dt r1 r2 h1 h2 u1 u2 hq hend _ _ _ _ _ _ h.buildB

theorem lw_01 (r1 : Src W s1 n1 c1 sh) (r2 : Src W s2 n2 c2 dt) (h1 : n1 ≤ 20000) (h2 : n2 ≤ 20000) (u1 u2 : Value) (hq : Box W q false u1 u2) (hend : ∀ a g1 g2 d1 d2 wx, LwS W p q c s1 s2 n1 n2 c1 c2 sh dt 2 2 g1 g2 d1 d2 a wx → Q .normal (a.put (some 13) (.agg #[.bool c, .slice (some ⟨g1, 0, none⟩) n1 d1, .slice (some ⟨g2, 0, none⟩) n2 d2])) (((wx.setCell ⟨q, 0, none⟩ (.bool c)).setCell ⟨q, 1, none⟩ (.slice (some ⟨g1, 0, none⟩) n1 d1)).setCell ⟨q, 2, none⟩ (.slice (some ⟨g2, 0, none⟩) n2 d2))) (a : Act) (gA gB dA dB : Nat) (wx : World) (h : LwS W p q c s1 s2 n1 n2 c1 c2 sh dt 0 1 gA gB dA dB a wx) : wpAnyL Tryz.prog .any opsLw Q (fun wx => Below W.heap.size W wx) 11 5 #[true, true, false, true, true, false, true, true, true, false, false, false] a wx := by
  obtain ⟨i0, hi, hz0, hz1, hz2⟩ := info_parts info_int
  refine wpAnyL_one (i := 2) (by kernel_rfl) ?_
  ·
    have hL : (#[true, true, false, true, true, false, true, true, true, false, false, false] : Array Bool).setIfInBounds 2 true = #[true, true, true, true, true, false, true, true, true, false, false, false] := by kernel_rfl
    refine op_wp (o := oLw_2) rfl (wanted_free rfl) ?_
    unfold Oper.wp
    rw [rgS0 (o := oLw_2) rfl wx]
    refine ⟨fun _ => h.buildA.low, ?_⟩
    rw [hL]
    exact lw_11 W p q c s1 s2 n1 n2 c1 c2 sh dt r1 r2 h1 h2 u1 u2 hq hend _ _ _ _ _ _ h.buildA

theorem lw_00 (r1 : Src W s1 n1 c1 sh) (r2 : Src W s2 n2 c2 dt) (h1 : n1 ≤ 20000) (h2 : n2 ≤ 20000) (u1 u2 : Value) (hq : Box W q false u1 u2) (hend : ∀ a g1 g2 d1 d2 wx, LwS W p q c s1 s2 n1 n2 c1 c2 sh dt 2 2 g1 g2 d1 d2 a wx → Q .normal (a.put (some 13) (.agg #[.bool c, .slice (some ⟨g1, 0, none⟩) n1 d1, .slice (some ⟨g2, 0, none⟩) n2 d2])) (((wx.setCell ⟨q, 0, none⟩ (.bool c)).setCell ⟨q, 1, none⟩ (.slice (some ⟨g1, 0, none⟩) n1 d1)).setCell ⟨q, 2, none⟩ (.slice (some ⟨g2, 0, none⟩) n2 d2))) (a : Act) (gA gB dA dB : Nat) (wx : World) (h : LwS W p q c s1 s2 n1 n2 c1 c2 sh dt 0 0 gA gB dA dB a wx) : wpAnyL Tryz.prog .any opsLw Q (fun wx => Below W.heap.size W wx) 11 6 #[true, true, false, true, true, false, false, true, true, false, false, false] a wx := by
  obtain ⟨i0, hi, hz0, hz1, hz2⟩ := info_parts info_int
  refine wpAnyL_two (i := 2) (j := 6) (by kernel_rfl) ?_ ?_
  ·
    have hL : (#[true, true, false, true, true, false, false, true, true, false, false, false] : Array Bool).setIfInBounds 2 true = #[true, true, true, true, true, false, false, true, true, false, false, false] := by kernel_rfl
    refine op_wp (o := oLw_2) rfl (wanted_free rfl) ?_
    unfold Oper.wp
    rw [rgS0 (o := oLw_2) rfl wx]
    refine ⟨fun _ => h.buildA.low, ?_⟩
    rw [hL]
    exact lw_10 W p q c s1 s2 n1 n2 c1 c2 sh dt r1 r2 h1 h2 u1 u2 hq hend _ _ _ _ _ _ h.buildA
  ·
    have hL : (#[true, true, false, true, true, false, false, true, true, false, false, false] : Array Bool).setIfInBounds 6 true = #[true, true, false, true, true, false, true, true, true, false, false, false] := by kernel_rfl
    refine op_wp (o := oLw_6) rfl (wanted_free rfl) ?_
    unfold Oper.wp
    rw [rgS0 (o := oLw_6) rfl wx]
    refine ⟨fun _ => h.buildB.low, ?_⟩
    rw [hL]
    exact lw_01 W p q c s1 s2 n1 n2 c1 c2 sh dt r1 r2 h1 h2 u1 u2 hq hend _ _ _ _ _ _ h.buildB

theorem regionLw (r1 : Src W s1 n1 c1 sh) (r2 : Src W s2 n2 c2 dt) (h1 : n1 ≤ 20000) (h2 : n2 ≤ 20000) (u1 u2 : Value) (hq : Box W q false u1 u2) (hend : ∀ a g1 g2 d1 d2 wx, LwS W p q c s1 s2 n1 n2 c1 c2 sh dt 2 2 g1 g2 d1 d2 a wx → Q .normal (a.put (some 13) (.agg #[.bool c, .slice (some ⟨g1, 0, none⟩) n1 d1, .slice (some ⟨g2, 0, none⟩) n2 d2])) (((wx.setCell ⟨q, 0, none⟩ (.bool c)).setCell ⟨q, 1, none⟩ (.slice (some ⟨g1, 0, none⟩) n1 d1)).setCell ⟨q, 2, none⟩ (.slice (some ⟨g2, 0, none⟩) n2 d2))) (a : Act) (hsz : 14 ≤ a.tmps.size) (hdf : a.defers = []) (h1p : a.eval (.tmp 1) = .pointer (some ⟨p, 0, none⟩)) (h2q : a.eval (.tmp 2) = .pointer (some ⟨q, 0, none⟩)) (hp : Box W p c (.slice s1 n1 c1) (.slice s2 n2 c2)) (hQ : ∀ c a (d : Nat) v w, Q (.panic c) (a.put (some d) v) w → Q (.panic c) a w) :
    (Code.region 1 opsLw true).wp Tryz.prog Q a W := by
  have hb0 : Below W.heap.size W W.drew := (Below.refl _ _).drew
  have hS0 : (fun wx => Below W.heap.size W wx) W.drew := hb0
  have hS : ∀ w, Below W.heap.size W w → _ := fun w hw => (hp.below (Nat.le_refl _) hw).cells
  refine wp_region_L (fun wx => Below W.heap.size W wx) 11 (by kernel_rfl) ?_
  show wpAnyL _ _ _ _ _ _ (11 + 1) _ _ W.drew
  refine wpAnyL_put 0 3 (.pointer (some ⟨p, 0, none⟩)) (oi := oLw_0) rfl rfl (by kernel_rfl) (by kernel_rfl) (by kernel_rfl) (by kernel_rfl) hQ (wanted_free rfl) (fun w hw => rgF0 (.tmp 1) p rfl h1p w) hS0 ?_
  refine wpAnyL_put 1 4 (.bool c) (oi := oLw_1) rfl rfl (by kernel_rfl) (by kernel_rfl) (by kernel_rfl) (by kernel_rfl) hQ (wanted_free rfl) (fun w hw => rgBool (.tmp 3) _ rfl (eval_eq (by omega)) w (hS w hw).1) hS0 ?_
  refine wpAnyL_put 3 6 (.pointer (some ⟨p, 1, none⟩)) (oi := oLw_3) rfl rfl (by kernel_rfl) (by kernel_rfl) (by kernel_rfl) (by kernel_rfl) hQ (wanted_free rfl) (fun w hw => rgF1 (.tmp 1) p rfl (by rw [eval_ne (by decide), eval_ne (by decide)]; exact h1p) w) hS0 ?_
  refine wpAnyL_put 4 7 (.slice s1 n1 c1) (oi := oLw_4) rfl rfl (by kernel_rfl) (by kernel_rfl) (by kernel_rfl) (by kernel_rfl) hQ (wanted_free rfl) (fun w hw => rgL (.tmp 6) _ rfl (eval_eq (by rw [put_size, put_size]; omega)) w (hS w hw).2.1) hS0 ?_
  refine wpAnyL_put 7 10 (.pointer (some ⟨p, 2, none⟩)) (oi := oLw_7) rfl rfl (by kernel_rfl) (by kernel_rfl) (by kernel_rfl) (by kernel_rfl) hQ (wanted_free rfl) (fun w hw => rgF2 (.tmp 1) p rfl (by rw [eval_ne (by decide), eval_ne (by decide), eval_ne (by decide), eval_ne (by decide)]; exact h1p) w) hS0 ?_
  refine wpAnyL_put 8 11 (.slice s2 n2 c2) (oi := oLw_8) rfl rfl (by kernel_rfl) (by kernel_rfl) (by kernel_rfl) (by kernel_rfl) hQ (wanted_free rfl) (fun w hw => rgL (.tmp 10) _ rfl (eval_eq (by rw [put_size, put_size, put_size, put_size]; omega)) w (hS w hw).2.2) hS0 ?_
  have hL : ((((((Array.replicate opsLw.size false).setIfInBounds 0 true).setIfInBounds 1 true).setIfInBounds 3 true).setIfInBounds 4 true).setIfInBounds 7 true).setIfInBounds 8 true = #[true, true, false, true, true, false, false, true, true, false, false, false] := by kernel_rfl
  rw [hL]
  refine lw_00 W p q c s1 s2 n1 n2 c1 c2 sh dt r1 r2 h1 h2 u1 u2 hq hend _ 0 0 0 0 _ ⟨hb0, by rw [put_size, put_size, put_size, put_size, put_size, put_size]; exact hsz, by rw [put_defers, put_defers, put_defers, put_defers, put_defers, put_defers]; exact hdf, (by rw [eval_ne (by decide), eval_ne (by decide), eval_ne (by decide), eval_ne (by decide), eval_ne (by decide), eval_ne (by decide)]; exact h2q), (by rw [eval_ne (by decide), eval_ne (by decide), eval_ne (by decide), eval_ne (by decide)]; exact eval_eq (by rw [put_size]; omega)), (by rw [eval_ne (by decide), eval_ne (by decide)]; exact eval_eq (by rw [put_size, put_size, put_size]; omega)), (eval_eq (by rw [put_size, put_size, put_size, put_size, put_size]; omega)), fun e => by omega, fun e => by omega, fun e => by omega, fun e => by omega, fun e => absurd rfl e, fun e => absurd rfl e, fun e => absurd rfl e⟩
end

end Go.Proofs.YtkgcmpmgaghdhaaGreatDoor
namespace Go.Proofs.YtkgcmpmgaghdhaaGreatDoor
open Go.RowKit

set_option maxHeartbeats 2000000 in
theorem lwArray_src (c : Bool) (s1 s2 : Option Addr) (n1 n2 c1 c2 : Nat) (sh dt : List Int) (w : World) (r1 : Src w s1 n1 c1 sh) (r2 : Src w s2 n2 c2 dt) (h1 : n1 ≤ 20000) (h2 : n2 ≤ 20000) :
    Calls Tryz.prog 11 #[.agg #[.bool c, .slice s1 n1 c1, .slice s2 n2 c2]] w fun e w' => ∃ g1 g2 d1 d2, e = .returned (.agg #[.bool c, .slice (some ⟨g1, 0, none⟩) n1 d1, .slice (some ⟨g2, 0, none⟩) n2 d2]) ∧ Own w' w.heap.size (some ⟨g1, 0, none⟩) n1 sh ∧ Own w' w.heap.size (some ⟨g2, 0, none⟩) n2 dt ∧ n1 ≤ d1 ∧ n2 ≤ d2 ∧ Below w.heap.size w w' := by
  obtain ⟨W0, hW0⟩ : ∃ W0, W0 = (w.alloc (.cells #[.bool c, .slice s1 n1 c1, .slice s2 n2 c2] 25)).alloc (.cells #[.bool false, .slice none 0 0, .slice none 0 0] 25) := ⟨_, rfl⟩
  have hz0 : W0.heap.size = w.heap.size + 1 + 1 := by rw [hW0]; simp
  have HB0 : Hid (Below w.heap.size w W0) := by rw [hW0]; exact ((Below.refl _ w).alloc (Nat.le_refl _) _).alloc (by simp) _
  have HX0 : Hid (Box W0 w.heap.size c (.slice s1 n1 c1) (.slice s2 n2 c2)) := by
    rw [hW0]; exact (Box.new w _ _ _).below (Nat.le_refl _) ((Below.refl _ _).alloc (Nat.le_refl _) _)
  have HX1 : Hid (Box W0 (w.heap.size + 1) false (.slice none 0 0) (.slice none 0 0)) := by
    rw [hW0]
    have := Box.new (w.alloc (.cells #[.bool c, .slice s1 n1 c1, .slice s2 n2 c2] 25)) false (.slice none 0 0) (.slice none 0 0)
    rw [World.size_alloc] at this
    exact this
  have HW0 := hide hW0
  have R1 := hide (r1.below (Nat.le_refl _) (unhide HB0))
  have R2 := hide (r2.below (Nat.le_refl _) (unhide HB0))
  have HZ0 := hide hz0
  clear hW0 hz0 r1 r2
  go_enter Tryz.func11, Tryz.ntmps11
  go_upto_region 1 with fail
  rw [← unhide HW0]
  refine regionLw W0 w.heap.size (w.heap.size + 1) c s1 s2 n1 n2 c1 c2 sh dt (unhide R1) (unhide R2) h1 h2 _ _ (unhide HX1) ?_ _ (by simp) rfl rfl rfl (unhide HX0) ?_
  · intro a g1 g2 d1 d2 wx hlw
    apply_assumption
    have hv2 : (a.put (some 13) (.agg #[.bool c, .slice (some ⟨g1, 0, none⟩) n1 d1, .slice (some ⟨g2, 0, none⟩) n2 d2])).eval (.tmp 2) = .pointer (some ⟨w.heap.size + 1, 0, none⟩) := by rw [eval_ne (by decide)]; exact hlw.e2
    obtain ⟨a', ha'⟩ : ∃ a', a' = a.put (some 13) (.agg #[.bool c, .slice (some ⟨g1, 0, none⟩) n1 d1, .slice (some ⟨g2, 0, none⟩) n2 d2]) := ⟨_, rfl⟩
    have hdf : a'.defers = [] := by rw [ha', put_defers]; exact hlw.df
    rw [← ha'] at hv2 ⊢
    have hv3 : a'.tmps[2]?.getD undef = .pointer (some ⟨w.heap.size + 1, 0, none⟩) := by simpa [Act.eval] using hv2
    clear ha'
    have hb := ((unhide HX1).below (Nat.le_refl _) hlw.low).sets (c' := c) (u1 := .slice (some ⟨g1, 0, none⟩) n1 d1) (u2 := .slice (some ⟨g2, 0, none⟩) n2 d2)
    obtain ⟨r0, r1, r2, _, _, _⟩ := hb.all
    have hbx := (unhide HX1).below (Nat.le_refl _) hlw.low
    have hz0 := unhide HZ0
    have o1 := (hlw.a2 rfl).2
    have o2 := (hlw.b2 rfl).2
    have hk1 : n1 ≤ d1 := by
      rcases o1.2 with ⟨e, _⟩ | ⟨g', cap', cur, e, _, _, hr, _⟩
      · cases e
      · cases e; exact hr
    have hk2 : n2 ≤ d2 := by
      rcases o2.2 with ⟨e, _⟩ | ⟨g', cap', cur, e, _, _, hr, _⟩
      · cases e
      · cases e; exact hr
    obtain ⟨_, _, e1, q1⟩ := Own.of_owns o1 (by omega)
    obtain ⟨_, _, e2, q2⟩ := Own.of_owns o2 (by omega)
    cases e1
    cases e2
    have hn1 : ∀ k, At (some ⟨g1, 0, none⟩) n1 k → k ≠ w.heap.size + 1 := fun k hk => q1.row.notBox hbx hk
    have hn2 : ∀ k, At (some ⟨g2, 0, none⟩) n2 k → k ≠ w.heap.size + 1 := fun k hk => q2.row.notBox hbx hk
    have hlow := (unhide HB0).trans (hlw.low.mono (by omega))
    go_wp2_with fail
    refine bodyPost_ret (v := .agg #[.bool c, .slice (some ⟨g1, 0, none⟩) n1 d1, .slice (some ⟨g2, 0, none⟩) n2 d2]) (by simp [results, Tryz.results11, go_sem, hv3, r0, r1, r2]) hdf ?_
    exact ⟨g1, g2, d1, d2, rfl, (((q1.mono (by omega)).other (q := ⟨w.heap.size + 1, 0, none⟩) hn1 _).other (q := ⟨w.heap.size + 1, 1, none⟩) hn1 _).other (q := ⟨w.heap.size + 1, 2, none⟩) hn1 _, (((q2.mono (by omega)).other (q := ⟨w.heap.size + 1, 0, none⟩) hn2 _).other (q := ⟨w.heap.size + 1, 1, none⟩) hn2 _).other (q := ⟨w.heap.size + 1, 2, none⟩) hn2 _, hk1, hk2, ((hlow.setCell (p := ⟨w.heap.size + 1, 0, none⟩) (by simp) _).setCell (p := ⟨w.heap.size + 1, 1, none⟩) (by simp) _).setCell (p := ⟨w.heap.size + 1, 2, none⟩) (by simp) _⟩
  · exact fun _ _ _ _ _ h => h

end Go.Proofs.YtkgcmpmgaghdhaaGreatDoor
namespace Go.Proofs.YtkgcmpmgaghdhaaGreatDoor
open Go.RowKit

/-- What an impl function's answer is. -/
def GivesOwn (w : World) (r : Ans) (e : Ending) (w' : World) : Prop := ∃ b1 m1 d1 b2 m2 d2, e = .returned (.tuple #[.agg #[.bool r.c, .slice b1 m1 d1, .slice b2 m2 d2], .int .i64 r.code]) ∧ Own w' w.heap.size b1 m1 r.sh ∧ Own w' w.heap.size b2 m2 r.dt ∧ Apart b1 m1 b2 m2 ∧ Below w.heap.size w w'

theorem own_none (w : World) (B : Nat) (a : Option Addr) : Own w B a 0 [] := ⟨rfl, by omega, .inl rfl⟩

theorem gives_none {w w' : World} {code : Int} (h : Below w.heap.size w w') : GivesOwn w (noAns code) (.returned (.tuple #[.agg #[.bool false, .slice none 0 0, .slice none 0 0], .int .i64 code])) w' :=
  ⟨none, 0, 0, none, 0, 0, rfl, own_none _ _ _, own_none _ _ _, fun _ h => absurd rfl h.1, h⟩

theorem arr_parts {c : Bool} {sh dt : List Int} (h : arrOk c sh dt = true) : shapeB sh = true ∧ countOf sh = (dt.length : Int) := by
  unfold arrOk at h
  simp only [Bool.and_eq_true, decide_eq_true_eq] at h
  refine ⟨?_, h.2.1⟩
  unfold shapeB
  rw [decide_eq_true h.1, decide_eq_true (by omega)]; rfl

theorem firstCode_zero {f : Nat → Int × Int} {n : Nat} : firstCode f n = 0 ↔ ∀ k, k < n → (f k).2 = 0 := by
  induction n with
  | zero => exact ⟨fun _ k hk => absurd hk (Nat.not_lt_zero _), fun _ => rfl⟩
  | succ n ih =>
    constructor
    · intro h
      have h0 : firstCode f n = 0 := by
        by_cases h0 : firstCode f n = 0
        · exact h0
        · simp only [firstCode, if_neg h0] at h; exact h
      have h1 : (f n).2 = 0 := by simpa only [firstCode, if_pos h0] using h
      intro k hk
      by_cases hkn : k = n
      · subst hkn; exact h1
      · exact ih.mp h0 k (by omega)
    · intro h
      exact code_step (ih.mpr fun k hk => h k (by omega)) (h n (by omega))

end Go.Proofs.YtkgcmpmgaghdhaaGreatDoor
namespace Go.Proofs.YtkgcmpmgaghdhaaGreatDoor
open Go.RowKit

set_option maxHeartbeats 2000000 in
theorem lwScalar_any (v : Int) (w : World) :
    Calls Tryz.prog 14 #[.int .i64 v] w fun e w' => ∃ g, e = .returned (.agg #[.bool false, .slice none 0 0, .slice (some ⟨g, 0, none⟩) 1 1]) ∧ Own w' w.heap.size (some ⟨g, 0, none⟩) 1 [v] ∧ Below w.heap.size w w' := by
  have HP0 : Hid (Box (w.alloc (.cells #[.bool false, .slice none 0 0, .slice none 0 0] 25)) w.heap.size false (.slice none 0 0) (.slice none 0 0)) := Box.new w _ _ _
  obtain ⟨y0, y1, y2, y3, y4, y5, y6⟩ := (unhide HP0).all
  go_enter Tryz.func14, Tryz.ntmps14
  go_wp2_with fail
  have hx := Box.new w false (.slice none 0 0) (.slice (some ⟨w.heap.size + 1, 0, none⟩) 1 1)
  obtain ⟨r0, r1, r2, _, _, _⟩ := (hx.below (Nat.le_refl _) ((Below.refl _ _).alloc (Nat.le_refl _) (.cells #[.int .i64 v] 3))).all
  refine bodyPost_ret (v := .agg #[.bool false, .slice none 0 0, .slice (some ⟨w.heap.size + 1, 0, none⟩) 1 1]) (by simp [results, Tryz.results14, go_sem]) rfl ⟨w.heap.size + 1, rfl, ?_, ((Below.refl _ _).alloc (Nat.le_refl _) _).alloc (by simp) _⟩
  have hb := World.alloc_heap_new (w.alloc (.cells #[.bool false, .slice none 0 0, .slice (some ⟨w.heap.size + 1, 0, none⟩) 1 1] 25)) (.cells #[.int .i64 v] 3)
  rw [World.size_alloc] at hb
  exact (show Blk _ (w.heap.size + 1) [v] from hb).own rfl (by omega) (by omega)

end Go.Proofs.YtkgcmpmgaghdhaaGreatDoor
namespace Go.Proofs.YtkgcmpmgaghdhaaGreatDoor
open Go.RowKit

/-- A variable of a law that holds an array: its box and what its two slices read as. -/
structure Var (W : World) (p : Nat) (c : Bool) (e1 : Option Addr) (k1 f1 : Nat) (e2 : Option Addr) (k2 f2 : Nat) (sh dt : List Int) : Prop where
  box : Box W p c (.slice e1 k1 f1) (.slice e2 k2 f2)
  r1 : Row W e1 k1 sh
  r2 : Row W e2 k2 dt

section
variable {W V : World} {p : Nat} {c : Bool} {e1 e2 : Option Addr} {k1 f1 k2 f2 : Nat} {sh dt : List Int}
theorem Var.below (h : Var W p c e1 k1 f1 e2 k2 f2 sh dt) (hb : Below W.heap.size W V) : Var V p c e1 k1 f1 e2 k2 f2 sh dt :=
  ⟨h.box.below (Nat.le_refl _) hb, h.r1.below (Nat.le_refl _) hb, h.r2.below (Nat.le_refl _) hb⟩
theorem Var.cells (h : Var W p c e1 k1 f1 e2 k2 f2 sh dt) : W.cell? ⟨p, 0, none⟩ = some (.bool c) ∧ W.cell? ⟨p, 1, none⟩ = some (.slice e1 k1 f1) ∧ W.cell? ⟨p, 2, none⟩ = some (.slice e2 k2 f2) := h.box.cells
/-- A new variable, its box laid last. -/
theorem Var.new (r1 : Row W e1 k1 sh) (r2 : Row W e2 k2 dt) : Var (W.alloc (.cells #[.bool c, .slice e1 k1 f1, .slice e2 k2 f2] 25 (0, 0))) W.heap.size c e1 k1 f1 e2 k2 f2 sh dt :=
  ⟨Box.new W _ _ _, r1.alloc _, r2.alloc _⟩
/-- .. or written into a box that lies. -/
theorem Var.put {x : Bool} {a1 a2 : Option Addr} {l1 l2 m1 m2 : Nat} (h : Box W p x (.slice a1 l1 m1) (.slice a2 l2 m2)) (r1 : Row W e1 k1 sh) (r2 : Row W e2 k2 dt) : Var (((W.setCell ⟨p, 0, none⟩ (.bool c)).setCell ⟨p, 1, none⟩ (.slice e1 k1 f1)).setCell ⟨p, 2, none⟩ (.slice e2 k2 f2)) p c e1 k1 f1 e2 k2 f2 sh dt :=
  ⟨h.sets, r1.sets h _ _ _, r2.sets h _ _ _⟩
end

end Go.Proofs.YtkgcmpmgaghdhaaGreatDoor
namespace Go.Proofs.YtkgcmpmgaghdhaaGreatDoor
open Go.RowKit

/-- A function that hands out N rounds, each with its number and a value of which H says what lies there, and that keeps cells of its own from one round to the next. T: the blocks that a round may change. -/
def SeqCells (m : Nat) (P : Program) (g : Nat) (lb : Array Value) (N : Nat) (H : Nat → Value → World → Prop) (T : Nat → Prop) (w0 : World) : Prop :=
  ∀ (l : Nat) (J : Nat → World → Prop) (W : World), Below w0.heap.size w0 W → w0.heap.size + 2 ≤ W.heap.size → (∀ k, T k → k < W.heap.size) → (∀ k A B, J k A → Below W.heap.size A B → J k B) →
    (∀ k v W1, k < N → J k W1 → H k v W1 → YieldAt Fence.wide (m - 1) P l #[.int .i64 (k : Nat), v] W1 fun e W' => e = .returned (.bool true) ∧ J (k + 1) W' ∧ But T W1 W') →
    J 0 W → CallsIn Fence.wide m P g (#[.func (.yield l) #[] #[]] ++ lb) W fun e W' => (∃ v, e = .returned v) ∧ J N W'

/-- How a round's body is left: off its end, with what it wrote in S alone. -/
def roundEnd (S : Nat → Prop) (I : World → Prop) (W : World) : Exit → Act → World → Prop
  | .normal, _, W' => But S W W' ∧ I W'
  | _, _, _ => False

theorem But.putObj {S : Nat → Prop} (W : World) {l : Nat} (hl : S l) (o : Obj) : But S W (W.putObj l o) :=
  ⟨rfl, rfl, rfl, by simp, fun k _ hn => World.putObj_heap_other (fun e => hn (e ▸ hl))⟩

theorem below_putObj {B : Nat} (W : World) {l : Nat} (hl : B ≤ l) (o : Obj) : Below B W (W.putObj l o) :=
  ⟨rfl, rfl, rfl, by simp, fun k hk => World.putObj_heap_other (by omega)⟩

/-- A range over such a function whose body never leaves it. -/
theorem range_cells {P : Program} {m N : Nat} {g : Operand} {ps : Array Tmp} {assign body : Code} {Q : Exit → Act → World → Prop} {a : Act} {w : World}
    {gf : Nat} {lb : Array Value} (hg : a.eval g = .func (.func gf) #[] lb) (eg : ∀ args w, (callFunc gf args).run P w = .ok (.enter gf args) w) (hps : ps.size = 2)
    {H : Nat → Value → World → Prop} (S : Nat → Prop) (hS : ∀ k, S k → k < w.heap.size) (hseq : SeqCells (m - 1) P gf lb N H (fun k => S k ∨ k = w.heap.size + 1) w)
    (hH : ∀ k v A o, H k v A → w.heap.size + 1 < A.heap.size → H k v (A.putObj (w.heap.size + 1) o))
    (I : Nat → World → Prop) (hI : ∀ k A B, I k A → Below w.heap.size A B → I k B) (h0 : I 0 w) (a₁ : Nat → Value → Act)
    (hassign : ∀ (l k : Nat) (v : Value) (W : World) (K : Act → World → Prop), K (a₁ k v) W →
      assign.wpIn (Fence.wide.inRound l) (m - 1 - 1) P (Exit.then K (fun _ _ _ => False)) { tmps := (ps.zip #[.int .i64 (k : Nat), v]).foldl (fun t (p, v) => t.setIfInBounds p v) a.tmps, defers := [] } W)
    (hbody : ∀ (l k : Nat) (v : Value) (W : World), k < N → I k W → H k v W → w.heap.size ≤ W.heap.size → body.wpIn (Fence.wide.inRound l) (m - 1 - 1) P (roundEnd S (I (k + 1)) W) (a₁ k v) W)
    (hdone : ∀ (D : Nat) (W : World), w.heap.size ≤ D → I N W → W.heap[D]? = some (.deferred (some [])) → Q .normal { a with defers := { target := .collected D, args := #[] } :: a.defers } W) :
    (Code.rangeFunc g ps assign body).wpIn Fence.wide m P Q a w := by
  refine wpIn_rangeFunc ?_
  intro fn hfn
  obtain ⟨rec, hrec⟩ : ∃ rec : LoopState → Loop, rec = fun st => { state := st, pending := none, fn, tmps := a.tmps, params := ps, assign, body, defers := w.heap.size } := ⟨_, rfl⟩
  obtain ⟨W1, hW1⟩ : ∃ W1, (w.alloc (.deferred (some []))).alloc (.loop (rec .ready)) = W1 := ⟨_, rfl⟩
  have hL1 : W1.heap[w.heap.size + 1]? = some (.loop (rec .ready)) := by
    rw [← hW1]; have := World.alloc_heap_new (w.alloc (.deferred (some []))) (.loop (rec .ready)); rwa [World.size_alloc] at this
  have hK1 : W1.heap[w.heap.size]? = some (.deferred (some [])) := by rw [← hW1]; exact (Below.heap_alloc _ _ _ (by simp)).trans (World.alloc_heap_new w _)
  have hb1 : Below w.heap.size w W1 := by rw [← hW1]; exact ((Below.refl _ w).alloc (Nat.le_refl _) _).alloc (by simp) _
  have hz1 : W1.heap.size = w.heap.size + 2 := by rw [← hW1]; simp
  refine ⟨w.heap.size + 1, [{ target := .collected w.heap.size, args := #[] }], W1, { target := .fn (.func gf) lb, args := #[.func (.yield (w.heap.size + 1)) #[] #[]] }, W1, gf,
    #[.func (.yield (w.heap.size + 1)) #[] #[]] ++ lb, W1, ?_, ?_, ?_, ?_, ?_, ?_⟩
  · rw [← hW1, hrec]; exact run_enterLoop_outer _ _ _ _ _
  · simp only [resolve, hg]; simp [go_sem]
  · intro _ _; exact trivial
  · simp [invoke, go_sem, eg]
  · intro h; simp [Fence.wide] at h
  · refine (hseq (w.heap.size + 1) (fun k W => I k W ∧ W.heap[w.heap.size + 1]? = some (.loop (rec .ready)) ∧ W.heap[w.heap.size]? = some (.deferred (some []))) W1 hb1 (by omega)
      (by rintro k (h | rfl); exact Nat.lt_of_lt_of_le (hS k h) (by omega); omega) ?_ ?_ ⟨hI _ _ _ h0 hb1, hL1, hK1⟩).mono ?_
    · rintro k A B ⟨i, l, d⟩ hb
      rw [hz1] at hb
      exact ⟨hI _ _ _ i (hb.mono (by omega)), (hb.block _ (by omega)).trans l, (hb.block _ (by omega)).trans d⟩
    · rintro k v W hk ⟨hi, hl, hd⟩ hh
      have hlt : w.heap.size + 1 < W.heap.size := (Array.getElem?_eq_some_iff.1 hl).1
      have hy := run_yield (P := P) (args := #[.int .i64 (k : Nat), v]) hl (by rw [hrec]; simp [hps])
      rw [hrec] at hy
      refine ⟨fn, _, assign, body, hy, roundIn_of_wpIn hfn (hassign _ k v W _ ⟨_, run_beginRound hl (by rw [hrec]), ?_⟩)⟩
      refine wpIn_mono (hbody _ k v _ hk (hI _ _ _ hi (below_putObj W (by omega) _)) (hH _ _ _ _ hh hlt) (by simp; omega)) ?_
      rintro e a3 W3 hp
      cases e with
      | normal =>
        obtain ⟨hbut, hi3⟩ := hp
        have hne : ¬ S (w.heap.size + 1) := fun h => by have := hS _ h; omega
        have hnd : ¬ S w.heap.size := fun h => by have := hS _ h; omega
        have hl3 := (hbut.block (w.heap.size + 1) (by simpa using hlt) hne).trans (World.putObj_heap_same hlt)
        have hd3 := (hbut.block w.heap.size (by simp; omega) hnd).trans ((World.putObj_heap_other (by omega)).trans hd)
        have hr := run_endRound (P := P) none hl3
        have hlt3 : w.heap.size + 1 < W3.heap.size := (Array.getElem?_eq_some_iff.1 hl3).1
        refine ⟨_, _, hr, rfl, ⟨hI _ _ _ hi3 (below_putObj W3 (by omega) _), ?_, (World.putObj_heap_other (by omega)).trans hd3⟩, ?_⟩
        · rw [World.putObj_heap_same hlt3, hrec]; rfl
        · exact (((But.putObj (S := fun k => S k ∨ k = w.heap.size + 1) W (.inr rfl) _).trans (hbut.mono (T := fun k => S k ∨ k = w.heap.size + 1) (fun k hk => Or.inl hk))).trans (But.putObj (S := fun k => S k ∨ k = w.heap.size + 1) W3 (.inr rfl) _)).mono (by rintro k ((h | h) | h) <;> exact h)
      | ret => exact hp.elim
      | exit id => exact hp.elim
      | goto t => exact hp.elim
      | panic ch => exact hp.elim
      | outgrown => exact hp.elim
    · rintro e W2 ⟨⟨v, rfl⟩, hi, hl, hd⟩
      refine ⟨none, _, by have := run_endLoop (P := P) hl (by rw [hrec]; simp); rw [hrec] at this; exact this, hdone w.heap.size _ (Nat.le_refl _) (hI _ _ _ hi (below_putObj W2 (by omega) _)) ((World.putObj_heap_other (by omega)).trans hd)⟩

end Go.Proofs.YtkgcmpmgaghdhaaGreatDoor

namespace Go.Proofs.YtkgcmpmgaghdhaaGreatDoor
open Go.RowKit

/-- A function that hands out N rounds, the k-th with the values ar k, as long as R holds of the world; it writes nothing. -/
def SeqWhen (m : Nat) (P : Program) (g : Nat) (lb : Array Value) (N : Nat) (ar : Nat → Array Value) (R : World → Prop) : Prop :=
  ∀ (l : Nat) (J : Nat → World → Prop) (W : World), (∀ k A, J k A → R A) →
    (∀ k W1, k < N → J k W1 → YieldAt Fence.wide (m - 1) P l (ar k) W1 fun e W' => e = .returned (.bool true) ∧ J (k + 1) W') →
    J 0 W → CallsIn Fence.wide m P g (#[.func (.yield l) #[] #[]] ++ lb) W fun e W' => (∃ v, e = .returned v) ∧ J N W'

/-- How a round's body is left: off its end; whatever holds no cells and lies at or beyond B lies as it lay. -/
def roundEndF (B : Nat) (I : World → Prop) (W : World) : Exit → Act → World → Prop
  | .normal, _, W' => KeepsFrom B W W' ∧ I W'
  | _, _, _ => False

/-- A range over such a function whose body never leaves it. -/
theorem range_when {P : Program} {m N : Nat} {g : Operand} {ps : Array Tmp} {assign body : Code} {Q : Exit → Act → World → Prop} {a : Act} {w : World} {R : World → Prop}
    {gf : Nat} {lb : Array Value} (hg : a.eval g = .func (.func gf) #[] lb) (eg : ∀ args w, (callFunc gf args).run P w = .ok (.enter gf args) w) {ar : Nat → Array Value} (hps : ∀ k, (ar k).size = ps.size)
    (hseq : SeqWhen (m - 1) P gf lb N ar R)
    (I : Nat → World → Prop) (hI : ∀ k A, I k A → R A) (hIp : ∀ k A l o o', I k A → w.heap.size ≤ l → A.heap[l]? = some o → o.isCells = false → I k (A.putObj l o')) (h0 : ∀ o o', I 0 ((w.alloc o).alloc o')) (a₁ : Nat → Act)
    (hassign : ∀ (l k : Nat) (W : World) (K : Act → World → Prop), K (a₁ k) W →
      assign.wpIn (Fence.wide.inRound l) (m - 1 - 1) P (Exit.then K (fun _ _ _ => False)) { tmps := (ps.zip (ar k)).foldl (fun t (p, v) => t.setIfInBounds p v) a.tmps, defers := [] } W)
    (hbody : ∀ (l k : Nat) (W : World), k < N → I k W → body.wpIn (Fence.wide.inRound l) (m - 1 - 1) P (roundEndF w.heap.size (I (k + 1)) W) (a₁ k) W)
    (hdone : ∀ (D : Nat) (W : World), w.heap.size ≤ D → I N W → W.heap[D]? = some (.deferred (some [])) → Q .normal { a with defers := { target := .collected D, args := #[] } :: a.defers } W) :
    (Code.rangeFunc g ps assign body).wpIn Fence.wide m P Q a w := by
  refine wpIn_rangeFunc ?_
  intro fn hfn
  obtain ⟨rec, hrec⟩ : ∃ rec : LoopState → Loop, rec = fun st => { state := st, pending := none, fn, tmps := a.tmps, params := ps, assign, body, defers := w.heap.size } := ⟨_, rfl⟩
  obtain ⟨W1, hW1⟩ : ∃ W1, (w.alloc (.deferred (some []))).alloc (.loop (rec .ready)) = W1 := ⟨_, rfl⟩
  have hL1 : W1.heap[w.heap.size + 1]? = some (.loop (rec .ready)) := by
    rw [← hW1]; have := World.alloc_heap_new (w.alloc (.deferred (some []))) (.loop (rec .ready)); rwa [World.size_alloc] at this
  have hK1 : W1.heap[w.heap.size]? = some (.deferred (some [])) := by rw [← hW1]; exact (Below.heap_alloc _ _ _ (by simp)).trans (World.alloc_heap_new w _)
  refine ⟨w.heap.size + 1, [{ target := .collected w.heap.size, args := #[] }], W1, { target := .fn (.func gf) lb, args := #[.func (.yield (w.heap.size + 1)) #[] #[]] }, W1, gf,
    #[.func (.yield (w.heap.size + 1)) #[] #[]] ++ lb, W1, ?_, ?_, ?_, ?_, ?_, ?_⟩
  · rw [← hW1, hrec]; exact run_enterLoop_outer _ _ _ _ _
  · simp only [resolve, hg]; simp [go_sem]
  · intro _ _; exact trivial
  · simp [invoke, go_sem, eg]
  · intro h; simp [Fence.wide] at h
  · refine (hseq (w.heap.size + 1) (fun k W => I k W ∧ W.heap[w.heap.size + 1]? = some (.loop (rec .ready)) ∧ W.heap[w.heap.size]? = some (.deferred (some []))) W1 (fun k A h => hI k A h.1) ?_ ⟨by rw [← hW1]; exact h0 _ _, hL1, hK1⟩).mono ?_
    · rintro k W hk ⟨hi, hl, hd⟩
      have hlt : w.heap.size + 1 < W.heap.size := (Array.getElem?_eq_some_iff.1 hl).1
      have hy := run_yield (P := P) (args := ar k) hl (by rw [hrec]; exact hps k)
      rw [hrec] at hy
      refine ⟨fn, _, assign, body, hy, roundIn_of_wpIn hfn (hassign _ k W _ ⟨_, run_beginRound hl (by rw [hrec]), ?_⟩)⟩
      refine wpIn_mono (hbody _ k _ hk (hIp _ _ _ _ _ hi (by omega) hl rfl)) ?_
      rintro e a3 W3 hp
      cases e with
      | normal =>
        obtain ⟨hkeep, hi3⟩ := hp
        have hl3 := hkeep.same _ _ (by omega) (World.putObj_heap_same (o := .loop { rec .ready with state := .busy }) hlt) rfl
        have hd3 := hkeep.same _ _ (Nat.le_refl _) ((World.putObj_heap_other (r := w.heap.size + 1) (by omega)).trans hd) rfl
        have hr := run_endRound (P := P) none hl3
        have hlt3 : w.heap.size + 1 < W3.heap.size := (Array.getElem?_eq_some_iff.1 hl3).1
        refine ⟨_, _, hr, rfl, hIp _ _ _ _ _ hi3 (by omega) hl3 rfl, ?_, (World.putObj_heap_other (by omega)).trans hd3⟩
        rw [World.putObj_heap_same hlt3, hrec]; rfl
      | ret => exact hp.elim
      | exit id => exact hp.elim
      | goto t => exact hp.elim
      | panic ch => exact hp.elim
      | outgrown => exact hp.elim
    · rintro e W2 ⟨⟨v, rfl⟩, hi, hl, hd⟩
      refine ⟨none, _, by have := run_endLoop (P := P) hl (by rw [hrec]; simp); rw [hrec] at this; exact this, hdone w.heap.size _ (Nat.le_refl _) (hIp _ _ _ _ _ hi (by omega) hl rfl) ((World.putObj_heap_other (by omega)).trans hd)⟩

end Go.Proofs.YtkgcmpmgaghdhaaGreatDoor

namespace Go.Proofs.YtkgcmpmgaghdhaaGreatDoor
open Go.RowKit

def withinB (v lo hi : Int) : Bool := decide (lo ≤ v ∧ v ≤ hi)

set_option maxHeartbeats 400000 in
theorem isWithin_any (v lo hi : Int) (w : World) : Calls Tryz.prog 115 #[.int .i64 v, .int .i64 lo, .int .i64 hi] w fun e w' => e = .returned (.bool (withinB v lo hi)) ∧ w' = w := by
  by_cases h1 : lo ≤ v
  · by_cases h2 : v ≤ hi
    · have HE : Hid (withinB v lo hi = true) := decide_eq_true ⟨h1, h2⟩
      go_enter Tryz.func115, Tryz.ntmps115
      go_wp2
      go_ret
      exact ⟨ret_bool HE.out.symm, rfl⟩
    · have HE : Hid (withinB v lo hi = false) := decide_eq_false (fun h => by omega)
      go_enter Tryz.func115, Tryz.ntmps115
      go_wp2
      go_ret
      exact ⟨ret_bool HE.out.symm, rfl⟩
  · have HE : Hid (withinB v lo hi = false) := decide_eq_false (fun h => by omega)
    go_enter Tryz.func115, Tryz.ntmps115
    go_wp2
    go_ret
    exact ⟨ret_bool HE.out.symm, rfl⟩

theorem isWithin_eq (v lo hi : Int) (w : World) (b : Bool) (h : Hid (withinB v lo hi = b)) : Calls Tryz.prog 115 #[.int .i64 v, .int .i64 lo, .int .i64 hi] w fun e w' => e = .returned (.bool b) ∧ w' = w := by
  rw [← h.out]; exact isWithin_any v lo hi w

set_option maxHeartbeats 1000000 in
theorem shapeOk_any (a : Option Addr) (n cap : Nat) (sh : List Int) (w : World) (h : Row w a n sh) : Calls Tryz.prog 67 #[.slice a n cap] w fun e w' => e = .returned (.bool (shapeB sh)) ∧ w' = w := by
  have hlen := hide h.len
  have hsm := h.small
  have H := hide h
  clear h
  by_cases h5 : 5 < n
  · have HE := hide (shape_long (unhide hlen) h5)
    go_enter Tryz.func67, Tryz.ntmps67
    go_wp2
    go_ret
    exact ⟨ret_bool HE.out.symm, rfl⟩
  · go_enter Tryz.func67, Tryz.ntmps67
    go_wp2
    go_loop [3, 5, 11] (fun p _ i => ∃ (k : Nat) (m : Int), k ≤ n ∧ i = .int .i64 k ∧ p = .int .i64 m ∧ Hid ((sh.take k).all inCells = true) ∧ Hid (prodFrom (sh.take k) 1 = some m)) (fun _ _ i => n - (intOf i).toNat)
    case atStart => exact ⟨0, 1, Nat.zero_le _, rfl, rfl, rfl, rfl⟩
    case round =>
      obtain ⟨k, m, hk, rfl, rfl, hall, hp⟩ := hrel
      have hmb := prodFrom_bd (sh.take k) 1 m (unhide hall) (by omega) (by omega) (unhide hp)
      obtain ⟨hm1, hm2⟩ := hmb
      by_cases hlt : k < n
      · obtain ⟨b, off, rfl, hblt, hc⟩ := (unhide H).get hlt
        have hks : Hid (k < sh.length) := by show k < sh.length; rw [unhide hlen]; exact hlt
        obtain ⟨x, hx⟩ : ∃ x, x = sh.getD k 0 := ⟨_, rfl⟩
        rw [← hx] at hc
        have HX := hide hx
        clear hx
        by_cases hin : 0 ≤ x ∧ x ≤ 10000
        · have HW : Hid (withinB x 0 10000 = true) := decide_eq_true hin
          have HA : Hid ((sh.take (k + 1)).all inCells = true) := all_step sh inCells k (unhide hks) (unhide hall) (by rw [← unhide HX]; exact decide_eq_true hin)
          obtain ⟨hx0, hx1⟩ := hin
          by_cases h0 : x = 0
          · have HP := hide (prod_step0 sh k (unhide hks) m (unhide hp) (by rw [← unhide HX]; exact h0))
            subst h0
            have hw : wrap64 (m * (if (0 : Int) < 1 then 1 else 0)) = m := by rw [if_pos (by omega), Int.mul_one]; exact (by unfold wrap64; omega)
            go_wp2_with (go_at_call 115; refine (isWithin_eq _ _ _ _ true HW).mono ?_; rintro e w' ⟨rfl, rfl⟩)
            go_round
            case rel => exact ⟨k + 1, m, by omega, by go_num, rfl, HA, HP⟩
            case measure => simp [intOf]; omega
          · have hx2 : ¬ x < 1 := by omega
            have hmx : m * x ≤ 10000 * 10000 := Int.mul_le_mul hm2 hx1 hx0 (by omega)
            have hmx0 : 0 ≤ m * x := Int.mul_nonneg (by omega) hx0
            have hw : wrap64 (m * x) = m * x := (by unfold wrap64; omega)
            by_cases hbig : 10000 < m * x
            · have HE : Hid (shapeB sh = false) := shape_bad (count_big sh (prod_none sh k (unhide hks) m (unhide hp) (by rw [← unhide HX]; exact h0) (by rw [← unhide HX]; exact hbig)))
              clear h0
              go_wp2_with (go_at_call 115; refine (isWithin_eq _ _ _ _ true HW).mono ?_; rintro e w' ⟨rfl, rfl⟩)
              go_ret
              exact ⟨ret_bool HE.out.symm, rfl⟩
            · have HP := hide (prod_step sh k (unhide hks) m (unhide hp) (by rw [← unhide HX]; exact h0) (by rw [← unhide HX]; omega))
              rw [← unhide HX] at HP
              clear h0
              go_wp2_with (go_at_call 115; refine (isWithin_eq _ _ _ _ true HW).mono ?_; rintro e w' ⟨rfl, rfl⟩)
              go_round
              case rel => exact ⟨k + 1, m * x, by omega, by go_num, rfl, HA, HP⟩
              case measure => simp [intOf]; omega
        · have HW : Hid (withinB x 0 10000 = false) := decide_eq_false hin
          have HE : Hid (shapeB sh = false) := shape_bad (count_bad sh (all_not sh inCells k (unhide hks) (by rw [← unhide HX]; exact decide_eq_false hin)))
          clear hin
          go_wp2_with (go_at_call 115; refine (isWithin_eq _ _ _ _ false HW).mono ?_; rintro e w' ⟨rfl, rfl⟩)
          go_ret
          exact ⟨ret_bool HE.out.symm, rfl⟩
      · have htk : sh.take k = sh := List.take_of_length_le (by rw [unhide hlen]; omega)
        have HE := hide (shape_good (unhide hlen) (by omega) m (by have := unhide hall; rwa [htk] at this) (by have := unhide hp; rwa [htk] at this))
        clear htk
        go_wp2
        go_ret
        exact ⟨ret_bool HE.out.symm, rfl⟩

theorem shapeOk_eq (a : Option Addr) (n cap : Nat) (sh : List Int) (w : World) (h : Row w a n sh) (r : Bool) (hr : Hid (shapeB sh = r)) : Calls Tryz.prog 67 #[.slice a n cap] w fun e w' => e = .returned (.bool r) ∧ w' = w := by
  rw [← hr.out]; exact shapeOk_any a n cap sh w h

set_option maxHeartbeats 400000 in
theorem cellsOf_any (a : Option Addr) (n cap : Nat) (sh : List Int) (w : World) (h : Row w a n sh) (hb : ∀ k, 0 ≤ prodAll (sh.take k) ∧ prodAll (sh.take k) ≤ 10000) : Calls Tryz.prog 51 #[.slice a n cap] w fun e w' => e = .returned (.int .i64 (prodAll sh)) ∧ w' = w := by
  have hlen := hide h.len
  have hsm := h.small
  have H := hide h
  have HB := hide hb
  clear h hb
  go_enter Tryz.func51, Tryz.ntmps51
  go_wp2
  go_loop [3, 5, 8] (fun p _ i => ∃ (k : Nat) (m : Int), k ≤ n ∧ i = .int .i64 k ∧ p = .int .i64 m ∧ Hid (prodAll (sh.take k) = m)) (fun _ _ i => n - (intOf i).toNat)
  case atStart => exact ⟨0, 1, Nat.zero_le _, rfl, rfl, rfl⟩
  case round =>
    obtain ⟨k, m, hk, rfl, rfl, hp⟩ := hrel
    by_cases hlt : k < n
    · obtain ⟨b, off, rfl, hblt, hc⟩ := (unhide H).get hlt
      have hks : Hid (k < sh.length) := by show k < sh.length; rw [unhide hlen]; exact hlt
      obtain ⟨x, hx⟩ : ∃ x, x = sh.getD k 0 := ⟨_, rfl⟩
      have HP : Hid (prodAll (sh.take (k + 1)) = m * x) := by show _ = _; rw [prodAll_snoc sh k (unhide hks), unhide hp, hx]
      have hpb := unhide HB (k + 1)
      rw [unhide HP] at hpb
      obtain ⟨hb0, hb1⟩ := hpb
      rw [← hx] at hc
      clear hx
      go_wp2
      go_round
      case rel => exact ⟨k + 1, m * x, by omega, by go_num, rfl, HP⟩
      case measure => simp [intOf]; omega
    · have HE : Hid (prodAll sh = m) := by have := unhide hp; rwa [List.take_of_length_le (by rw [unhide hlen]; omega)] at this
      go_wp2
      go_ret
      exact ⟨ret_int HE.out.symm, rfl⟩

theorem cellsOf_count (a : Option Addr) (n cap : Nat) (sh : List Int) (w : World) (h : Row w a n sh) (hs : shapeB sh = true) (cn : Int) (hc : Hid (countOf sh = cn)) : Calls Tryz.prog 51 #[.slice a n cap] w fun e w' => e = .returned (.int .i64 cn) ∧ w' = w := by
  rw [← hc.out, ← prodAll_count sh hs]; exact cellsOf_any a n cap sh w h (prodAll_bd sh hs)

end Go.Proofs.YtkgcmpmgaghdhaaGreatDoor
namespace Go.Proofs.YtkgcmpmgaghdhaaGreatDoor
open Go.RowKit

set_option maxHeartbeats 400000 in
theorem isNumber_any (v : Int) (w : World) : Calls Tryz.prog 142 #[.int .i64 v] w fun e w' => e = .returned (.bool (dataOk false v)) ∧ w' = w := by
  have HE : Hid (dataOk false v = withinB v (-1000000000000000) 1000000000000000) := by show _ = _; unfold dataOk withinB; simp
  go_enter Tryz.func142, Tryz.ntmps142
  go_wp2_with (go_at_call 115; refine (isWithin_any _ _ _ _).mono ?_; rintro e w' ⟨rfl, rfl⟩)
  go_ret
  exact ⟨ret_bool HE.out.symm, rfl⟩

set_option maxHeartbeats 400000 in
theorem ValidRune_any (v : Int) (w : World) (h0 : 0 ≤ v) (h1 : v ≤ 1114111) : Calls Tryz.prog 172 #[.int .i32 v] w fun e w' => e = .returned (.bool (runeOk v)) ∧ w' = w := by
  by_cases h3 : v < 55296
  · have HE : Hid (runeOk v = true) := decide_eq_true ⟨h0, h1, .inl h3⟩
    go_enter Tryz.func172, Tryz.ntmps172
    go_wp2
    go_ret
    exact ⟨ret_bool HE.out.symm, rfl⟩
  · by_cases h4 : 57343 < v
    · have HE : Hid (runeOk v = true) := decide_eq_true ⟨h0, h1, .inr h4⟩
      go_enter Tryz.func172, Tryz.ntmps172
      go_wp2
      go_ret
      exact ⟨ret_bool HE.out.symm, rfl⟩
    · have HE : Hid (runeOk v = false) := decide_eq_false (fun h => by omega)
      go_enter Tryz.func172, Tryz.ntmps172
      go_wp2
      go_ret
      exact ⟨ret_bool HE.out.symm, rfl⟩

theorem wrap32 (v : Int) (h0 : 0 ≤ v) (h1 : v ≤ 1114111) : IntKind.i32.wrap v = v := by
  unfold IntKind.wrap; simp [IntKind.bits, IntKind.signed]; omega

set_option maxHeartbeats 400000 in
theorem isCharacter_any (v : Int) (w : World) : Calls Tryz.prog 143 #[.int .i64 v] w fun e w' => e = .returned (.bool (dataOk true v)) ∧ w' = w := by
  by_cases h : 0 ≤ v ∧ v ≤ 1114111
  · obtain ⟨h0, h1⟩ := h
    have HE : Hid (dataOk true v = runeOk v) := by show _ = _; unfold dataOk; rw [decide_eq_true (by omega)]; simp
    have HW : Hid (withinB v 0 1114111 = true) := decide_eq_true ⟨h0, h1⟩
    have hw := wrap32 v h0 h1
    go_enter Tryz.func143, Tryz.ntmps143
    go_wp2_with (first | (go_at_call 115; refine (isWithin_eq _ _ _ _ true HW).mono ?_; rintro e w' ⟨rfl, rfl⟩) | (go_at_call 172; refine (ValidRune_any _ _ h0 h1).mono ?_; rintro e w' ⟨rfl, rfl⟩))
    go_ret
    exact ⟨ret_bool HE.out.symm, rfl⟩
  · have HE : Hid (dataOk true v = false) := by show _ = _; unfold dataOk runeOk; rw [decide_eq_false (p := 0 ≤ v ∧ _ ∧ _) (by omega)]; simp
    have HW : Hid (withinB v 0 1114111 = false) := decide_eq_false h
    clear h
    go_enter Tryz.func143, Tryz.ntmps143
    go_wp2_with (go_at_call 115; refine (isWithin_eq _ _ _ _ false HW).mono ?_; rintro e w' ⟨rfl, rfl⟩)
    go_ret
    exact ⟨ret_bool HE.out.symm, rfl⟩

end Go.Proofs.YtkgcmpmgaghdhaaGreatDoor
namespace Go.Proofs.YtkgcmpmgaghdhaaGreatDoor
open Go.RowKit Go.Shelf

attribute [local go_sem] Oper.semAt_some

theorem Backward_any (sa : Option Addr) (n cap : Nat) (w : World) : Calls Tryz.prog 132 #[.slice sa n cap] w fun e w' => e = .returned (.func (.func 170) #[] #[.pointer (some ⟨w.heap.size, 0, none⟩)]) ∧ w' = w.alloc (.cells #[.slice sa n cap] 23) := by
  go_enter Tryz.func132, Tryz.ntmps132
  go_wp2
  go_ret
  exact ⟨rfl, rfl⟩

theorem eg_back : ∀ args w, (callFunc 170 args).run Tryz.prog w = .ok (.enter 170 args) w := enters_of Tryz.func170 (by kernel_rfl) rfl

/-- The k-th round of slices.Backward: the place, and what lies there. -/
def backAr (n : Nat) (zs : List Int) (k : Nat) : Array Value := #[.int .i64 ((n - 1 - k : Nat) : Int), .int .i64 (zs.getD (n - 1 - k) 0)]

set_option maxRecDepth 100000 in
set_option maxHeartbeats 2000000 in
theorem back1_seq (m Bn : Nat) (sa : Option Addr) (n cap : Nat) (zs : List Int) (hsm : n ≤ 17592186044416) :
    SeqWhen m Tryz.prog 170 #[.pointer (some ⟨Bn, 0, none⟩)] n (backAr n zs) (fun A => A.cell? ⟨Bn, 0, none⟩ = some (.slice sa n cap) ∧ Row A sa n zs) := by
  intro l J W hJ hY h0
  have hbox := (hJ _ _ h0).1
  have HBOX : Hid (∀ k A, J k A → A.cell? ⟨Bn, 0, none⟩ = some (.slice sa n cap)) := fun k A h => (hJ _ _ h).1
  have HJ : Hid (∀ k A, J k A → Row A sa n zs) := fun k A h => (hJ _ _ h).2
  have HY : Hid (∀ k W1, k < n → J k W1 → YieldAt Fence.wide (m - 1) Tryz.prog l (backAr n zs k) W1 fun e W' => e = .returned (.bool true) ∧ J (k + 1) W') := hY
  have H0 := hide h0
  clear hJ hY h0
  refine callsIn_of_wp Tryz.func170 rfl trivial ?_ rfl
  simp only [Tryz.ntmps170, List.size_toArray, List.length_cons, List.length_nil, Nat.reduceAdd, Nat.reduceSub, Array.replicate_succ, Array.replicate_zero, List.push_toArray, List.append_toArray, List.nil_append, List.cons_append]
  gi_wp2
  gi_loopw [3] (fun i wr => ∃ k : Nat, k ≤ n ∧ i = .int .i64 ((n : Int) - 1 - (k : Nat)) ∧ Hid (J k wr)) (fun i _ => (intOf i + 1).toNat)
  case atStart => exact ⟨0, Nat.zero_le _, by go_num, H0⟩
  case round =>
    obtain ⟨k, hk, rfl, hj⟩ := hrel
    clear H0 hbox
    by_cases hlt : k < n
    · obtain ⟨j, hjn⟩ : ∃ j : Nat, j = n - 1 - k := ⟨_, rfl⟩
      have hji : (n : Int) - 1 - (k : Nat) = (j : Nat) := by omega
      have hjlt : j < n := by omega
      obtain ⟨b, off, rfl, hblt, hc⟩ := (HJ.out _ _ hj.out).get hjlt
      have hbx := HBOX.out _ _ hj.out
      obtain ⟨fn, tmps, assign, body, hy, hRr⟩ := HY.out k wr hlt hj.out
      obtain ⟨x, hx⟩ : ∃ x, x = zs.getD j 0 := ⟨_, rfl⟩
      unfold backAr at hy
      rw [← hjn, ← hx] at hy
      rw [← hx] at hc
      rw [hji]
      have HJN := hide hjn
      have HJI := hide hji
      clear hx hjn hji
      gi_wp2
      refine ⟨fun h => (by simp [Fence.wide] at h), hRr.mono ?_⟩
      rintro e W3 ⟨rfl, hJ3⟩
      have HJ3 := hide hJ3
      clear hRr hy hJ3 hc
      gi_wp2
      go_roundw
      case rel =>
        have := HJI.out
        exact ⟨k + 1, by omega, by go_num, HJ3⟩
      case measure =>
        have := HJI.out
        (simp [intOf] <;> omega)
    · have : k = n := by omega
      subst this
      have e1 : (k : Int) - 1 - (k : Nat) = -1 := by omega
      rw [e1]
      clear e1
      gi_wp2
      go_end0
      exact ⟨⟨_, rfl⟩, hj.out⟩

end Go.Proofs.YtkgcmpmgaghdhaaGreatDoor
namespace Go.Proofs.YtkgcmpmgaghdhaaGreatDoor
open Go.Maps

/-- What is said of x behind k rounds, from the last place on: its first place, from 1 on, or 0. -/
def seenAt (zs : List Int) (x : Int) : Nat → Int
  | 0 => 0
  | k + 1 => if zs.getD (zs.length - 1 - k) 0 = x then ((zs.length - 1 - k : Nat) : Int) + 1 else seenAt zs x k

theorem seenAt_cases (zs : List Int) (x : Int) (k : Nat) (hk : k ≤ zs.length) :
    (∃ j, zs.length - k ≤ j ∧ j < zs.length ∧ zs.getD j 0 = x ∧ (∀ i, zs.length - k ≤ i → i < j → zs.getD i 0 ≠ x) ∧ seenAt zs x k = (j : Int) + 1) ∨ ((∀ i, zs.length - k ≤ i → i < zs.length → zs.getD i 0 ≠ x) ∧ seenAt zs x k = 0) := by
  induction k with
  | zero => exact .inr ⟨fun i h1 h2 => by omega, rfl⟩
  | succ k ih =>
    unfold seenAt
    by_cases h : zs.getD (zs.length - 1 - k) 0 = x
    · rw [if_pos h]
      exact .inl ⟨zs.length - 1 - k, by omega, by omega, h, fun i h1 h2 => by omega, rfl⟩
    · rw [if_neg h]
      rcases ih (by omega) with ⟨j, h1, h2, h3, h4, h5⟩ | ⟨h1, h2⟩
      · refine .inl ⟨j, by omega, h2, h3, fun i hi hj => ?_, h5⟩
        by_cases e : i = zs.length - 1 - k
        · rw [e]; exact h
        · exact h4 i (by omega) hj
      · refine .inr ⟨fun i hi hj => ?_, h2⟩
        by_cases e : i = zs.length - 1 - k
        · rw [e]; exact h
        · exact h1 i (by omega) hj

theorem seenAt_all (zs : List Int) (x : Int) : seenAt zs x zs.length = if zs.findIdx (fun y => decide (y = x)) < zs.length then ((zs.findIdx (fun y => decide (y = x)) : Nat) : Int) + 1 else 0 := by
  rcases seenAt_cases zs x zs.length (Nat.le_refl _) with ⟨j, _, h2, h3, h4, h5⟩ | ⟨h1, h2⟩
  · rw [first_here (fun i hi => h4 i (by omega) hi) h2 h3, if_pos h2, h5]
  · rw [first_none (fun i hi => h1 i (by omega) hi), if_neg (by omega), h2]

theorem seenAt_bd (zs : List Int) (x : Int) (k : Nat) (hk : k ≤ zs.length) : 0 ≤ seenAt zs x k ∧ seenAt zs x k ≤ zs.length := by
  rcases seenAt_cases zs x k hk with ⟨j, _, h2, _, _, h5⟩ | ⟨_, h2⟩
  · rw [h5]; omega
  · rw [h2]; omega

/-- The map behind k rounds, as a datum. -/
def placesD (zs : List Int) : Nat → DataW Unit
  | 0 => .map []
  | k + 1 => (placesD zs k).put (.int .i64 (zs.getD (zs.length - 1 - k) 0)) (.lit (.int .i64 (((zs.length - 1 - k : Nat) : Int) + 1)))

theorem placesD_isMap (zs : List Int) : ∀ k, IsMap (placesD zs k)
  | 0 => isMap_empty
  | k + 1 => (placesD_isMap zs k).put _ _

theorem placesD_at (zs : List Int) (x : Int) : ∀ k, (placesD zs k).atKey (.int .i64 x) (.lit (.int .i64 0)) = .lit (.int .i64 (seenAt zs x k))
  | 0 => rfl
  | k + 1 => by
    unfold placesD seenAt
    by_cases h : zs.getD (zs.length - 1 - k) 0 = x
    · rw [if_pos h, h, atKey_put_same (placesD_isMap zs k) (show WideAt.IsKeyLit (.int .i64 x) from trivial)]
    · rw [if_neg h, atKey_put_other (fun e => h (by cases e; rfl)), placesD_at zs x k]

end Go.Proofs.YtkgcmpmgaghdhaaGreatDoor
namespace Go.Proofs.YtkgcmpmgaghdhaaGreatDoor
open Go.RowKit Go.Shelf Go.Maps

attribute [local go_sem] Oper.semAt_some

theorem lawInt : Keyed Tryz.prog 3 := int_keyed Tryz.underlying3
theorem zeroInt (w : World) : (zeroValue 3).run Tryz.prog w = .ok (.int .i64 0) w := by kernel_rfl

theorem run_mm (n : Int) (w : World) : (Instr.makeMap 118 (some (.int .i64 n))).run Tryz.prog w = .ok (.map (some w.heap.size)) (w.alloc (.map #[] 0)) := by
  simp [Instr.makeMap, run_underlying Tryz.underlying118, asInt, asIntOf, Result.andThen]

/-- Behind k rounds: the map in block p says of each number its first place so far. -/
def Frst (zs : List Int) (p : Nat) (W : World) (k : Nat) (A : World) : Prop :=
  A.ownsMap Tryz.prog 3 (plainElem Tryz.prog 3) p k (placesD zs k) ∧ But (fun x => x = p) W A

theorem ownsMap_putObj {w : World} {p k l : Nat} {D : DataW Unit} (h : w.ownsMap Tryz.prog 3 (plainElem Tryz.prog 3) p k D) (hl : p ≠ l) (o : Obj) : (w.putObj l o).ownsMap Tryz.prog 3 (plainElem Tryz.prog 3) p k D := by
  obtain ⟨es, clock, hb, r⟩ := h
  exact ⟨es, clock, (World.putObj_heap_other hl).trans hb, r⟩

theorem Frst.putObj {zs : List Int} {p : Nat} {W : World} {k : Nat} {A : World} {l : Nat} (h : Frst zs p W k A) (hl : W.heap.size ≤ l) (hp : p < l) (o' : Obj) : Frst zs p W k (A.putObj l o') := by
  obtain ⟨h1, h3⟩ := h
  have hb := below_putObj A hl o'
  exact ⟨ownsMap_putObj h1 (by omega) o', hb.os.trans h3.os, hb.tape.trans h3.tape, hb.output.trans h3.output, Nat.le_trans h3.size hb.size, fun x hx hn => (hb.block x hx).trans (h3.block x hx hn)⟩

theorem Frst.alloc {zs : List Int} {p : Nat} {W : World} {k : Nat} {A : World} (h : Frst zs p W k A) (o : Obj) : Frst zs p W k (A.alloc o) := ⟨h.1.alloc o, h.2.alloc o⟩

theorem But.of_grown {S : Nat → Prop} {A B : World} {p : Nat} (h : A.grownBy B (some p)) (hp : S p) : But S A B :=
  ⟨h.os, h.tape, h.output, h.size, fun k hk hn => h.block k hk (fun e => by cases e; exact hn hp)⟩

set_option maxRecDepth 100000 in
set_option maxHeartbeats 4000000 in
theorem firstPlaces_in (sa : Option Addr) (n cap : Nat) (zs : List Int) (w : World) (h : Row w sa n zs) (hn : n ≤ 10000) (hd : ∀ k, k < zs.length → -1000000000000000 ≤ zs.getD k 0 ∧ zs.getD k 0 ≤ 1000000000000000) :
    CallsIn Fence.wide 9 Tryz.prog 114 #[.slice sa n cap] w fun e w' => ∃ B, e = .returned (.map (some B)) ∧ w.heap.size ≤ B ∧ w'.ownsMap Tryz.prog 3 (plainElem Tryz.prog 3) B n (placesD zs n) ∧ Below w.heap.size w w' := by
  have hlen := h.len
  have H := hide h
  have HD := hide hd
  have HAT : Hid (∀ k, At sa n k → k < w.heap.size) := fun k hk => h.hi hk
  clear h hd
  have hmm := run_mm
  refine callsIn_of_wp_marks Tryz.func114 rfl trivial ?_ rfl
  simp only [Tryz.ntmps114, List.size_toArray, List.length_cons, List.length_nil, Nat.reduceAdd, Nat.reduceSub, Array.replicate_succ, Array.replicate_zero, List.push_toArray, List.append_toArray, List.nil_append, List.cons_append]
  gi_wp2_with (refine ⟨trivial, ?_⟩; gi_at_call 132; refine (callsIn_wide.2 (Backward_any _ _ _ _)).mono ?_; rintro e wI ⟨rfl, hwI⟩; obtain rfl := hwI.symm)
  clear hmm
  obtain ⟨p, hp⟩ : ∃ p, p = w.heap.size := ⟨_, rfl⟩
  obtain ⟨W, hW⟩ : ∃ W, W = ((w.alloc (.map #[] 0)).alloc (.cells #[.map (some w.heap.size)] 118)).alloc (.cells #[.slice sa n cap] 23) := ⟨_, rfl⟩
  have hzW : W.heap.size = p + 1 + 1 + 1 := by rw [hW, hp]; simp
  have HBW : Hid (Below p w W) := by rw [hW, hp]; exact (((Below.refl _ w).alloc (Nat.le_refl _) _).alloc (by simp) _).alloc (by simp; omega) _
  have HY0 : Hid (W.ownsMap Tryz.prog 3 (plainElem Tryz.prog 3) p 0 (placesD zs 0)) := by rw [hW, hp]; exact ((World.ownsMap_made w _ _ _).alloc _).alloc _
  have HY1 : Hid (W.heap[p + 1]? = some (.cells #[.map (some p)] 118 (0, 0))) := by
    rw [hW, hp]
    have := World.alloc_heap_new (w.alloc (.map #[] 0)) (.cells #[.map (some w.heap.size)] 118)
    exact (Below.heap_alloc _ _ _ (by simp)).trans (by simpa using this)
  have HY2 : Hid (W.heap[p + 1 + 1]? = some (.cells #[.slice sa n cap] 23 (0, 0))) := by
    rw [hW, hp]
    have := World.alloc_heap_new ((w.alloc (.map #[] 0)).alloc (.cells #[.map (some w.heap.size)] 118)) (.cells #[.slice sa n cap] 23)
    rwa [World.size_alloc, World.size_alloc] at this
  have HW := hide (H.out.below (by omega) HBW.out)
  rw [← hW, ← hp]
  have HAT' : Hid (∀ k, At sa n k → k < p) := by rw [hp]; exact HAT
  have HP := hide hp
  clear hW hp HAT H hwI
  have h0 : Frst zs p W 0 W := ⟨HY0.out, But.refl _ _⟩
  have HC3 : Hid (∀ k A, Frst zs p W k A → A.cell? ⟨p + 1 + 1, 0, none⟩ = some (.slice sa n cap) ∧ Row A sa n zs) := fun k A hA => by
    obtain ⟨_, hbut⟩ := hA
    refine ⟨?_, hbut.row HW.out (by rintro x rfl hx; have := HAT'.out _ hx; omega)⟩
    have h3 := (hbut.block (p + 1 + 1) (by omega) (by omega)).trans HY2.out
    simp [World.cell?, h3]
  refine range_when (gf := 170) (lb := #[.pointer (some ⟨p + 1 + 1, 0, none⟩)]) rfl eg_back (ar := backAr n zs) (fun _ => rfl) (back1_seq _ (p + 1 + 1) sa n cap zs (by omega))
    (Frst zs p W) HC3.out (fun k A l o o' h hl ho hc => h.putObj (by omega) (by omega) o') (fun o o' => (h0.alloc o).alloc o')
    (fun k => { tmps := #[.slice sa n cap, undef, .map none, .pointer (some ⟨p + 1, 0, none⟩), .int .i64 ((n - 1 - k : Nat) : Int), .int .i64 (zs.getD (n - 1 - k) 0), .slice sa n cap, .int .i64 (n : Nat), .map (some p), .slice sa n cap, .func (.func 170) #[] #[.pointer (some ⟨p + 1 + 1, 0, none⟩)], .int .i64 ((n - 1 - k : Nat) : Int), .int .i64 (zs.getD (n - 1 - k) 0), undef, undef, undef, undef, undef], defers := [] }) ?assign ?body ?done
  case assign =>
    intro l k A K hK
    unfold backAr
    gi_wp2
    exact hK
  case body =>
    rintro l k A hk ⟨hM, hbut⟩
    clear h0 HC3
    obtain ⟨j, hj⟩ : ∃ j : Nat, j = n - 1 - k := ⟨_, rfl⟩
    obtain ⟨a, ha⟩ : ∃ a, a = zs.getD j 0 := ⟨_, rfl⟩
    have hab := HD.out j (by omega)
    rw [← ha] at hab
    have HPD : Hid (placesD zs (k + 1) = (placesD zs k).put (.int .i64 a) (.lit (.int .i64 ((j : Int) + 1)))) := by
      show _ = _
      rw [placesD, hlen, ← hj, ← ha]
    rw [← hj, ← ha]
    have h3 := (hbut.block (p + 1) (by omega) (by omega)).trans HY1.out
    have cP : A.cell? ⟨p + 1, 0, none⟩ = some (.map (some p)) := by simp [World.cell?, h3]
    have hj1 : j < 10000 := by omega
    have hkey : keyOf Tryz.prog 3 (.int .i64 a) = some (.int .i64 a) := keyOf_int_mk Tryz.underlying3 (WalkArith.wf_i64 (by omega))
    have HM := hide hM
    have HBT := hide hbut
    clear h3 hj ha hM hbut
    gi_wp2_with (gi_at_mapUpdate; refine wpListIn_mapUpdate_own _ rfl _ _ _ 118 rfl 3 3 lawInt Tryz.underlying118 _ p k _ rfl HM.out (by unfold maxLen; omega) _ _ _ rfl rfl hkey (.lit (.int .i64 ((j : Int) + 1))) [] (plainElem_int Tryz.underlying3 (WalkArith.wf_i64 (by omega))) ?_; intro w1 hown1 hgrow1)
    refine ⟨KeepsFrom.of_grownBy hgrow1 (by intro q e; cases e; omega), ?_, ?_⟩
    · rw [HPD.out]; exact hown1
    · exact (HBT.out.trans (But.of_grown (S := fun x => x = p) hgrow1 rfl)).mono (by rintro x (h | h) <;> exact h)
  case done =>
    rintro D A hD ⟨hM, hbut⟩ hK
    have h3 := (hbut.block (p + 1) (by omega) (by omega)).trans HY1.out
    have cP : A.cell? ⟨p + 1, 0, none⟩ = some (.map (some p)) := by simp [World.cell?, h3]
    have HBT := hide hbut
    have HM := hide hM
    clear hM hbut h3 h0
    gi_wp2
    refine ⟨by simp, .inl ⟨_, _, rfl, run_takeDeferred hK, ?_⟩⟩
    refine ⟨_, results_tmp rfl _ _ _, p, rfl, by rw [← HP.out]; exact Nat.le_refl _, ownsMap_putObj HM.out (by omega) _, ?_⟩
    rw [← HP.out]
    exact (HBW.out.trans (HBT.out.below (B := p) (by omega) (by rintro x rfl; omega))).trans (below_putObj A (by omega) _)

theorem firstPlaces_any (sa : Option Addr) (n cap : Nat) (zs : List Int) (w : World) (h : Row w sa n zs) (hn : n ≤ 10000) (hd : ∀ k, k < zs.length → -1000000000000000 ≤ zs.getD k 0 ∧ zs.getD k 0 ≤ 1000000000000000) :
    Calls Tryz.prog 114 #[.slice sa n cap] w fun e w' => ∃ B, e = .returned (.map (some B)) ∧ w.heap.size ≤ B ∧ w'.ownsMap Tryz.prog 3 (plainElem Tryz.prog 3) B n (placesD zs n) ∧ Below w.heap.size w w' :=
  callsIn_wide.1 (firstPlaces_in sa n cap zs w h hn hd)

end Go.Proofs.YtkgcmpmgaghdhaaGreatDoor
namespace Go.Proofs.YtkgcmpmgaghdhaaGreatDoor

/-- What is left of b behind t digits, from the last base on. -/
def encLeft (dt : List Int) (b : Int) : Nat → Int
  | 0 => b
  | t + 1 => if dt.getD (dt.length - 1 - t) 0 = 0 then 0 else encLeft dt b t / dt.getD (dt.length - 1 - t) 0

def encDigit (dt : List Int) (b : Int) (i : Nat) : Int := modOf (dt.getD i 0) (encLeft dt b (dt.length - 1 - i))

/-- j columns are written, and the last t numbers of the next. -/
def encCell (dt dt' : List Int) (m j t q : Nat) : Int := if q % m < j ∨ (q % m = j ∧ dt.length - t ≤ q / m) then encDigit dt (dt'.getD (q % m) 0) (q / m) else 0
def encMid (dt dt' : List Int) (m j t : Nat) : List Int := (List.range (dt.length * m)).map (encCell dt dt' m j t)
def encAll (dt dt' : List Int) (m : Nat) : List Int := (List.range (dt.length * m)).map fun q => encDigit dt (dt'.getD (q % m) 0) (q / m)

theorem encMid_len (dt dt' : List Int) (m j t : Nat) : (encMid dt dt' m j t).length = dt.length * m := by simp [encMid]

theorem enc_eq {n : Nat} {f g : Nat → Int} (h : ∀ q, q < n → f q = g q) : (List.range n).map f = (List.range n).map g := List.map_congr_left fun q hq => h q (by simpa using hq)

theorem enc_set (n k : Nat) (f : Nat → Int) (x : Int) : ((List.range n).map f).set k x = (List.range n).map fun i => if i = k then x else f i := by
  apply List.ext_getElem
  · simp
  · intro i h1 h2
    simp only [List.getElem_set, List.getElem_map, List.getElem_range]
    by_cases e : k = i
    · subst e; simp
    · rw [if_neg e, if_neg (fun h => e h.symm)]

theorem encMid_zero (dt dt' : List Int) (m : Nat) : encMid dt dt' m 0 0 = List.replicate (dt.length * m) 0 := by
  have e : List.replicate (dt.length * m) (0 : Int) = (List.range (dt.length * m)).map fun _ => 0 := by rw [List.map_const']; simp
  rw [e]
  refine enc_eq fun q hq => ?_
  unfold encCell
  rw [if_neg]
  rintro (h | ⟨_, h⟩)
  · omega
  · have := Nat.div_lt_of_lt_mul (show q < m * dt.length by rw [Nat.mul_comm]; exact hq)
    omega

theorem place_lt {n m i j : Nat} (hi : i < n) (hj : j < m) : i * m + j < n * m := by
  have : (i + 1) * m ≤ n * m := Nat.mul_le_mul_right m hi
  rw [Nat.add_mul, Nat.one_mul] at this
  omega

theorem at_place {m i j : Nat} (hj : j < m) : (i * m + j) / m = i ∧ (i * m + j) % m = j := by
  have hm : 0 < m := by omega
  exact ⟨by rw [Nat.add_comm, Nat.add_mul_div_right _ _ hm, Nat.div_eq_of_lt hj, Nat.zero_add], by rw [Nat.add_comm, Nat.add_mul_mod_self_right, Nat.mod_eq_of_lt hj]⟩

theorem encMid_step (dt dt' : List Int) {m j t : Nat} (hj : j < m) (ht : t < dt.length) : (encMid dt dt' m j t).set ((dt.length - 1 - t) * m + j) (encDigit dt (dt'.getD j 0) (dt.length - 1 - t)) = encMid dt dt' m j (t + 1) := by
  obtain ⟨e1, e2⟩ := at_place (i := dt.length - 1 - t) hj
  unfold encMid
  rw [enc_set]
  refine enc_eq fun q _ => ?_
  by_cases e : q = (dt.length - 1 - t) * m + j
  · rw [if_pos e]
    unfold encCell
    rw [e, e1, e2, if_pos (.inr ⟨rfl, by omega⟩)]
  · rw [if_neg e]
    unfold encCell
    have hq := Nat.div_add_mod q m
    by_cases h : q % m < j ∨ (q % m = j ∧ dt.length - t ≤ q / m)
    · rw [if_pos h, if_pos (h.imp id fun h => ⟨h.1, by omega⟩)]
    · rw [if_neg h, if_neg]
      rintro (h' | ⟨h1, h2⟩)
      · exact h (.inl h')
      · by_cases h3 : dt.length - t ≤ q / m
        · exact h (.inr ⟨h1, h3⟩)
        · have h4 : q / m = dt.length - 1 - t := by omega
          rw [h4, h1, Nat.mul_comm] at hq
          exact e hq.symm

theorem encMid_col (dt dt' : List Int) {m j : Nat} : encMid dt dt' m j dt.length = encMid dt dt' m (j + 1) 0 := by
  refine enc_eq fun q hq => ?_
  have hlt := Nat.div_lt_of_lt_mul (show q < m * dt.length by rw [Nat.mul_comm]; exact hq)
  unfold encCell
  generalize q / m = x at *
  generalize q % m = y at *
  by_cases h : y < j + 1
  · rw [if_pos (by omega), if_pos (.inl h)]
  · rw [if_neg (by omega), if_neg (by omega)]

theorem encMid_all (dt dt' : List Int) (m : Nat) : encMid dt dt' m m 0 = encAll dt dt' m := by
  refine enc_eq fun q hq => ?_
  have hm : 0 < m := by
    rcases Nat.eq_zero_or_pos m with h | h
    · subst h; simp at hq
    · exact h
  unfold encCell
  rw [if_pos (.inl (Nat.mod_lt _ hm))]

theorem encLeft_bd {dt : List Int} {b : Int} (hd : ∀ k, k < dt.length → 0 ≤ dt.getD k 0) (hb : -1000000000000000 ≤ b ∧ b ≤ 1000000000000000) (t : Nat) (ht : t ≤ dt.length) : -1000000000000000 ≤ encLeft dt b t ∧ encLeft dt b t ≤ 1000000000000000 := by
  induction t with
  | zero => exact hb
  | succ t ih =>
    have h := ih (by omega)
    have ha := hd (dt.length - 1 - t) (by omega)
    unfold encLeft
    split
    · omega
    · rename_i h0
      generalize dt.getD (dt.length - 1 - t) 0 = a at *
      generalize encLeft dt b t = x at *
      have hpos : 0 < a := by omega
      constructor
      · exact (Int.le_ediv_iff_mul_le hpos).2 (by
          have : -1000000000000000 * a ≤ -1000000000000000 * 1 := by omega
          omega)
      · by_cases hx : 0 ≤ x
        · exact Int.le_trans (Int.ediv_le_self _ hx) h.2
        · have := Int.ediv_neg_of_neg_of_pos (show x < 0 by omega) hpos
          omega

theorem nonNeg_at {dt : List Int} (h : dt.all nonNeg = true) {q : Nat} (hq : q < dt.length) : 0 ≤ dt.getD q 0 := by
  have hm : dt.getD q 0 ∈ dt := by simp [List.getD, hq]
  have h2 := List.all_eq_true.1 h _ hm
  unfold nonNeg at h2
  exact of_decide_eq_true h2

theorem div_left {x a : Int} (ha : 0 < a) : (x - modOf a x).tdiv a = x / a := by
  have hm : modOf a x = x % a := by
    unfold modOf
    rw [if_neg (by omega)]
    have h1 := Int.tmod_lt_of_pos x ha
    have h2 : -a < x.tmod a := Int.lt_tmod_of_pos x ha
    have h3 := Int.mul_tdiv_add_tmod x a
    split
    · rename_i h
      have h4 : x.tmod a < 0 := by
        by_cases h4 : x.tmod a < 0
        · exact h4
        · exfalso; apply h.2; rw [decide_eq_false h4, decide_eq_false (by omega)]
      have := (Int.ediv_emod_unique (a := x) (r := x.tmod a + a) (q := x.tdiv a - 1) ha).2 ⟨by rw [Int.mul_sub, Int.mul_one]; omega, by omega, by omega⟩
      exact this.2.symm
    · rename_i h
      have h4 : ¬ x.tmod a < 0 := by
        intro h4
        apply h
        refine ⟨by omega, ?_⟩
        rw [decide_eq_true h4, decide_eq_false (by omega)]; simp
      have := (Int.ediv_emod_unique (a := x) (r := x.tmod a) (q := x.tdiv a) ha).2 ⟨by omega, by omega, by omega⟩
      exact this.2.symm
  rw [hm]
  have h := Int.mul_ediv_add_emod x a
  have e : x - x % a = a * (x / a) := by omega
  rw [e, Int.mul_tdiv_cancel_left _ (by omega)]

theorem encDigit_here {dt : List Int} {b : Int} {k : Nat} (hk : k < dt.length) : encDigit dt b (dt.length - 1 - k) = modOf (dt.getD (dt.length - 1 - k) 0) (encLeft dt b k) := by
  unfold encDigit
  rw [show dt.length - 1 - (dt.length - 1 - k) = k by omega]

theorem encLeft_step {dt : List Int} {b : Int} {k : Nat} (ha : 0 ≤ dt.getD (dt.length - 1 - k) 0) : encLeft dt b (k + 1) = (encLeft dt b k - modOf (dt.getD (dt.length - 1 - k) 0) (encLeft dt b k)).tdiv (if dt.getD (dt.length - 1 - k) 0 < 1 then 1 else dt.getD (dt.length - 1 - k) 0) := by
  rw [encLeft]
  generalize dt.getD (dt.length - 1 - k) 0 = a at *
  generalize encLeft dt b k = x
  by_cases h : a = 0
  · subst h; simp [modOf]
  · rw [if_neg h, if_neg (by omega), div_left (by omega)]

/-- The digits of b behind k rounds, from the last base on. -/
def digN (dt : List Int) (b : Int) (k : Nat) : List Int := (List.range dt.length).map fun i => if dt.length - k ≤ i then encDigit dt b i else 0
theorem digN_len (dt : List Int) (b : Int) (k : Nat) : (digN dt b k).length = dt.length := by simp [digN]
theorem digN_zero (dt : List Int) (b : Int) : digN dt b 0 = List.replicate dt.length 0 := by
  have e : List.replicate dt.length (0 : Int) = (List.range dt.length).map fun _ => 0 := by rw [List.map_const']; simp
  rw [e]
  exact enc_eq fun q hq => by rw [if_neg (by omega)]
theorem digN_step (dt : List Int) (b : Int) {k : Nat} (hk : k < dt.length) : (digN dt b k).set (dt.length - 1 - k) (encDigit dt b (dt.length - 1 - k)) = digN dt b (k + 1) := by
  unfold digN
  rw [enc_set]
  refine enc_eq fun q hq => ?_
  by_cases e : q = dt.length - 1 - k
  · rw [if_pos e, if_pos (by omega), e]
  · rw [if_neg e]
    by_cases h : dt.length - k ≤ q
    · rw [if_pos h, if_pos (by omega)]
    · rw [if_neg h, if_neg (by omega)]
theorem digN_all (dt : List Int) (b : Int) : digN dt b dt.length = (List.range dt.length).map (encDigit dt b) := enc_eq fun q _ => by rw [if_pos (by omega)]

def encode (c d : Bool) (sh dt sh' dt' : List Int) : Ans :=
  if arrOk c sh dt = true ∧ arrOk d sh' dt' = true then
    if listCode c sh.length ≠ 0 then noAns (listCode c sh.length)
    else if dt.all nonNeg = false then noAns 3
    else if d = true then noAns 3
    else if shapeB (sh ++ sh') = false then noAns 7
    else ⟨false, sh ++ sh', encAll dt dt' dt'.length, 0⟩
  else noAns 3

section
variable {c d : Bool} {sh dt sh' dt' : List Int}
theorem encode_bad1 (h : arrOk c sh dt = false) : encode c d sh dt sh' dt' = noAns 3 := by unfold encode; rw [if_neg (by simp [h])]
theorem encode_bad2 (h : arrOk d sh' dt' = false) : encode c d sh dt sh' dt' = noAns 3 := by unfold encode; rw [if_neg (by simp [h])]
theorem encode_list (h1 : arrOk c sh dt = true) (h2 : arrOk d sh' dt' = true) (r : Int) (h : listCode c sh.length = r) (hr : r ≠ 0) : encode c d sh dt sh' dt' = noAns r := by
  unfold encode; rw [if_pos ⟨h1, h2⟩, h, if_pos hr]
theorem encode_neg (h1 : arrOk c sh dt = true) (h2 : arrOk d sh' dt' = true) (h : listCode c sh.length = 0) (hn : dt.all nonNeg = false) : encode c d sh dt sh' dt' = noAns 3 := by
  unfold encode; rw [if_pos ⟨h1, h2⟩, if_neg (by simp [h]), if_pos hn]
theorem encode_char (h1 : arrOk c sh dt = true) (h2 : arrOk true sh' dt' = true) (h : listCode c sh.length = 0) (hn : dt.all nonNeg = true) : encode c true sh dt sh' dt' = noAns 3 := by
  unfold encode; rw [if_pos ⟨h1, h2⟩, if_neg (by simp [h]), if_neg (by simp [hn]), if_pos rfl]
theorem encode_big (h1 : arrOk c sh dt = true) (h2 : arrOk false sh' dt' = true) (h : listCode c sh.length = 0) (hn : dt.all nonNeg = true) (hs : shapeB (sh ++ sh') = false) : encode c false sh dt sh' dt' = noAns 7 := by
  unfold encode; rw [if_pos ⟨h1, h2⟩, if_neg (by simp [h]), if_neg (by simp [hn]), if_neg (by simp), if_pos hs]
theorem encode_go (h1 : arrOk c sh dt = true) (h2 : arrOk false sh' dt' = true) (h : listCode c sh.length = 0) (hn : dt.all nonNeg = true) (hs : shapeB (sh ++ sh') = true) : encode c false sh dt sh' dt' = ⟨false, sh ++ sh', encAll dt dt' dt'.length, 0⟩ := by
  unfold encode; rw [if_pos ⟨h1, h2⟩, if_neg (by simp [h]), if_neg (by simp [hn]), if_neg (by simp), if_neg (by simp [hs])]
end

end Go.Proofs.YtkgcmpmgaghdhaaGreatDoor
namespace Go.Proofs.YtkgcmpmgaghdhaaGreatDoor

/-- The first k of n numbers, 0 for the others. -/
def soFar (f : Nat → Int) (n k : Nat) : List Int := (List.range n).map fun i => if i < k then f i else 0

theorem soFar_len (f : Nat → Int) (n k : Nat) : (soFar f n k).length = n := by simp [soFar]
theorem soFar_zero (f : Nat → Int) (n : Nat) : soFar f n 0 = List.replicate n 0 := by
  have e : List.replicate n (0 : Int) = (List.range n).map fun _ => 0 := by rw [List.map_const']; simp
  rw [e]
  exact enc_eq fun q _ => by rw [if_neg (by omega)]
theorem soFar_step (f : Nat → Int) (n k : Nat) : (soFar f n k).set k (f k) = soFar f n (k + 1) := by
  unfold soFar
  rw [enc_set]
  refine enc_eq fun q _ => ?_
  by_cases e : q = k
  · rw [if_pos e, if_pos (by omega), e]
  · rw [if_neg e]
    by_cases h : q < k
    · rw [if_pos h, if_pos (by omega)]
    · rw [if_neg h, if_neg (by omega)]
theorem soFar_all (f : Nat → Int) (n : Nat) : soFar f n n = (List.range n).map f := enc_eq fun q hq => by rw [if_pos hq]

/-- The first place, from 1 on, at which x of kind c stands among numbers of kind d; else 0. -/
def placeAmong (c d : Bool) (dt' : List Int) (x : Int) : Int := if c = d then seenAt dt' x dt'.length else 0

theorem placeAmong_bd (c d : Bool) (dt' : List Int) (x : Int) : 0 ≤ placeAmong c d dt' x ∧ placeAmong c d dt' x ≤ dt'.length := by
  unfold placeAmong
  split
  · exact seenAt_bd _ _ _ (Nat.le_refl _)
  · omega

theorem placeAmong_first (c d : Bool) (dt' : List Int) (x : Int) : placeAmong c d dt' x = if firstOf d dt' x c < dt'.length then ((firstOf d dt' x c : Nat) : Int) + 1 else 0 := by
  unfold placeAmong firstOf
  by_cases h : c = d
  · subst h; rw [if_pos rfl, if_pos rfl, seenAt_all]
  · have h' : ¬ d = c := fun e => h e.symm
    simp [h, h']

end Go.Proofs.YtkgcmpmgaghdhaaGreatDoor
namespace Go.Proofs.YtkgcmpmgaghdhaaGreatDoor
open Go.RowKit

set_option maxHeartbeats 400000 in
theorem Clone_any (ad : Addr) (n cap : Nat) (zs : List Int) (w : World) (h : Row w (some ad) n zs) :
    Calls Tryz.prog 65 #[.slice (some ad) n cap] w fun e w' => ∃ a' cap', e = .returned (.slice a' n cap') ∧ n ≤ cap' ∧ Own w' w.heap.size a' n zs ∧ Below w.heap.size w w' := by
  have hl := h.len
  have hs := h.small
  have H := hide h
  clear h
  obtain ⟨i0, hi, hz0, hz1, hz2⟩ := info_parts info_int
  have qT : ∀ (w : World) (a : Option Addr) (n c n' c' : Nat), (binOp .eql 23 (.slice a n c) (.slice none n' c')).run Tryz.prog w = .ok (.bool a.isNone) w := fun w a n c n' c' => Lib.run_eql_slice_nil w _ _ a n c n' c' Tryz.underlying23
  go_enter Tryz.func65, Tryz.ntmps65
  go_wp2_with (at_builtin; refine wpList_append_own _ rfl _ _ 23 rfl w.heap.size 3 i0 (.int .i64 0) 1 8 Tryz.underlying23 hi hz0 hz1 hz2 rfl (by decide) _ _ _ rfl (owns_empty w) ad n cap (zs.map (Value.int .i64)) rfl (by simpa using hl) (cells_ints ((unhide H).alloc _)) (one_ints zs) (by unfold maxLen; omega) (by omega) (by simp) ?_; intro v1 w1 hown hgrow hnil)
  clear hnil
  have hown' : w1.ownsRow w.heap.size 3 1 v1 n (zs.map (Value.int .i64)) := by simpa using hown
  obtain ⟨a', cap', rfl, ho⟩ := Own.of_owns hown' hs
  have hbel : Below w.heap.size w w1 := ((Below.refl _ _).alloc (Nat.le_refl _) _).grown hgrow (by simp) (by intro k hk; cases hk; exact Nat.le_refl _)
  have hcap : n ≤ cap' := by
    rcases hown'.2 with ⟨h', h0⟩ | ⟨g', c', cur, h', _, _, hle, _⟩
    · simp at h'; omega
    · cases h'; omega
  clear hown hgrow hown'
  go_wp2
  go_ret
  exact ⟨_, _, rfl, hcap, ho, hbel⟩

set_option maxHeartbeats 400000 in
theorem Clone_nil (cap : Nat) (w : World) :
    Calls Tryz.prog 65 #[.slice none 0 cap] w fun e w' => e = .returned (.slice none 0 0) ∧ w' = w := by
  have qT : ∀ (w : World) (a : Option Addr) (n c n' c' : Nat), (binOp .eql 23 (.slice a n c) (.slice none n' c')).run Tryz.prog w = .ok (.bool a.isNone) w := fun w a n c n' c' => Lib.run_eql_slice_nil w _ _ a n c n' c' Tryz.underlying23
  go_enter Tryz.func65, Tryz.ntmps65
  go_wp2
  go_ret
  exact ⟨rfl, rfl⟩

/-- A copy of a slice that may be nil. -/
theorem Clone_opt (ad : Option Addr) (n cap : Nat) (zs : List Int) (w : World) (h : Row w ad n zs) :
    Calls Tryz.prog 65 #[.slice ad n cap] w fun e w' => ∃ a' cap', e = .returned (.slice a' n cap') ∧ n ≤ cap' ∧ Own w' w.heap.size a' n zs ∧ Below w.heap.size w w' := by
  cases ad with
  | some a => exact Clone_any a n cap zs w h
  | none =>
    have h0 : n = 0 := by
      rcases Nat.eq_zero_or_pos n with h0 | h0
      · exact h0
      · obtain ⟨b, o, e, _⟩ := h.get h0
        cases e
    have hl := h.len
    subst h0
    obtain rfl : zs = [] := List.length_eq_zero_iff.1 hl
    refine (Clone_nil cap w).mono ?_
    rintro e w' ⟨rfl, rfl⟩
    exact ⟨none, 0, rfl, Nat.le_refl _, ⟨rfl, by omega, .inl rfl⟩, Below.refl _ _⟩

end Go.Proofs.YtkgcmpmgaghdhaaGreatDoor
namespace Go.Proofs.YtkgcmpmgaghdhaaGreatDoor
open Go.RowKit Go.Shelf Go.Maps

/-- A box of the call's own holds an array of the shape zs with N zeros. -/
def GotS (wz : World) (zs : List Int) (n N : Nat) (v : Value) (wx : World) : Prop :=
  ∃ pb gd ash csh, v = .pointer (some ⟨pb, 0, none⟩) ∧ wz.heap.size ≤ pb ∧ Box wx pb false (.slice ash n csh) (.slice (some ⟨gd, 0, none⟩) N N) ∧ wz.heap.size ≤ gd ∧ gd ≠ pb ∧ Blk wx gd (List.replicate N 0) ∧ Own wx wz.heap.size ash n zs ∧ ¬ At ash n gd ∧ ¬ At ash n pb ∧ Below wz.heap.size wz wx

abbrev madeB (N : Nat) : Obj := .cells (madeCells #[.int .i64 0] N) 3
abbrev boxB (v1 v2 : Value) : Obj := .cells #[.bool false, v1, v2] 25

theorem Below.undrew {B : Nat} {w w' : World} (h : Below B w.drew w') : Below B w w' := ⟨h.os, h.tape, h.output, h.size, h.block⟩

section
variable {wz wy wC : World} {zs : List Int} {n N csh : Nat} {ash : Option Addr}

theorem GotS.set {W : World} {pb gd : Nat} {c : Bool} {v1 v2 : Value} (hpb : wz.heap.size ≤ pb) (hb : Box W pb c v1 v2) (hg : wz.heap.size ≤ gd) (hne : gd ≠ pb) (hB : Blk W gd (List.replicate N 0)) (hO : Own W wz.heap.size ash n zs) (h1 : ¬ At ash n gd) (h2 : ¬ At ash n pb) (hbl : Below wz.heap.size wz W) :
    GotS wz zs n N (.pointer (some ⟨pb, 0, none⟩)) (((W.setCell ⟨pb, 0, none⟩ (.bool false)).setCell ⟨pb, 1, none⟩ (.slice ash n csh)).setCell ⟨pb, 2, none⟩ (.slice (some ⟨gd, 0, none⟩) N N)) := by
  have hk : ∀ k, At ash n k → k ≠ pb := fun k hk e => h2 (e ▸ hk)
  exact ⟨pb, gd, ash, csh, rfl, hpb, hb.sets, hg, hne, ((hB.other (p := ⟨pb, 0, none⟩) hne _).other (p := ⟨pb, 1, none⟩) hne _).other (p := ⟨pb, 2, none⟩) hne _, ((hO.other (q := ⟨pb, 0, none⟩) hk _).other (q := ⟨pb, 1, none⟩) hk _).other (q := ⟨pb, 2, none⟩) hk _, h1, h2, ((hbl.setCell (p := ⟨pb, 0, none⟩) hpb _).setCell (p := ⟨pb, 1, none⟩) hpb _).setCell (p := ⟨pb, 2, none⟩) hpb _⟩

theorem GotS.new {W : World} {gd : Nat} (hz : wz.heap.size ≤ W.heap.size) (hg : wz.heap.size ≤ gd) (hB : Blk W gd (List.replicate N 0)) (hO : Own W wz.heap.size ash n zs) (h1 : ¬ At ash n gd) (hbl : Below wz.heap.size wz W) :
    GotS wz zs n N (.pointer (some ⟨W.heap.size, 0, none⟩)) (W.alloc (boxB (.slice ash n csh) (.slice (some ⟨gd, 0, none⟩) N N))) :=
  ⟨W.heap.size, gd, ash, csh, rfl, hz, Box.new W _ _ _, hg, by have := hB.lt; omega, hB.alloc _, hO.alloc _, h1, fun h => by have := hO.row.hi h; omega, hbl.alloc hz _⟩

theorem ordCMA (hO : Own wC wz.heap.size ash n zs) (hb : Below wz.heap.size wz wC) : GotS wz zs n N (.pointer (some ⟨wC.heap.size + 1, 0, none⟩)) ((wC.alloc (madeB N)).alloc (boxB (.slice ash n csh) (.slice (some ⟨wC.heap.size, 0, none⟩) N N))) := by
  have h := GotS.new (wz := wz) (W := wC.alloc (madeB N)) (gd := wC.heap.size) (csh := csh) (by have := hb.size; simp; omega) hb.size (Blk.made wC N _ rfl) (hO.alloc _) (fun h => by have := hO.row.hi h; omega) (hb.alloc hb.size _)
  rwa [World.size_alloc] at h

theorem ordMCA (hO : Own wC (wy.heap.size + 1) ash n zs) (hy : wy.heap.size = wz.heap.size) (hz : Below wz.heap.size wz wy) (hb : Below (wy.alloc (madeB N)).heap.size (wy.alloc (madeB N)) wC) : GotS wz zs n N (.pointer (some ⟨wC.heap.size, 0, none⟩)) (wC.alloc (boxB (.slice ash n csh) (.slice (some ⟨wz.heap.size, 0, none⟩) N N))) := by
  have hyz : wz.heap.size = wy.heap.size := hy.symm
  suffices hsuf : GotS wz zs n N (.pointer (some ⟨wC.heap.size, 0, none⟩)) (wC.alloc (boxB (.slice ash n csh) (.slice (some ⟨wy.heap.size, 0, none⟩) N N))) by rw [hyz]; exact hsuf
  have hs := hb.size
  rw [World.size_alloc] at hs
  exact GotS.new (by omega) (by omega) ((Blk.made wy N _ rfl).below (Nat.le_refl _) hb) (hO.mono (by omega)) (fun h => by have := hO.low h; omega) ((hz.alloc (by omega) _).trans (hb.mono (by simp; omega)))

theorem ordCAM (hO : Own wC wz.heap.size ash n zs) (hb : Below wz.heap.size wz wC) : GotS wz zs n N (.pointer (some ⟨wC.heap.size, 0, none⟩)) ((wC.alloc (boxB (.slice ash n csh) (.slice (some ⟨wC.heap.size + 1, 0, none⟩) N N))).alloc (madeB N)) :=
  ⟨wC.heap.size, wC.heap.size + 1, ash, csh, rfl, hb.size, (Box.new wC false _ _).alloc _, by have := hb.size; omega, by omega, Blk.made _ N _ (by simp), (hO.alloc _).alloc _, fun h => by have := hO.row.hi h; omega, fun h => by have := hO.row.hi h; omega, (hb.alloc hb.size _).alloc (by have := hb.size; simp; omega) _⟩

theorem ordACM (hO : Own wC (wy.heap.size + 1) ash n zs) (hy : wy.heap.size = wz.heap.size) (hz : Below wz.heap.size wz wy) (hb : Below (wy.alloc (boxB (.slice none 0 0) (.slice none 0 0))).heap.size (wy.alloc (boxB (.slice none 0 0) (.slice none 0 0))) wC) : GotS wz zs n N (.pointer (some ⟨wz.heap.size, 0, none⟩)) ((((wC.setCell ⟨wz.heap.size, 0, none⟩ (.bool false)).setCell ⟨wz.heap.size, 1, none⟩ (.slice ash n csh)).setCell ⟨wz.heap.size, 2, none⟩ (.slice (some ⟨wC.heap.size, 0, none⟩) N N)).alloc (madeB N)) := by
  have hyz : wz.heap.size = wy.heap.size := hy.symm
  suffices hsuf : GotS wz zs n N (.pointer (some ⟨wy.heap.size, 0, none⟩)) ((((wC.setCell ⟨wy.heap.size, 0, none⟩ (.bool false)).setCell ⟨wy.heap.size, 1, none⟩ (.slice ash n csh)).setCell ⟨wy.heap.size, 2, none⟩ (.slice (some ⟨wC.heap.size, 0, none⟩) N N)).alloc (madeB N)) by rw [hyz]; exact hsuf
  have hs := hb.size
  rw [World.size_alloc] at hs
  have hk : ∀ k, At ash n k → k ≠ wy.heap.size := fun k h e => by have := hO.low h; omega
  have hbx := (Box.new wy false (.slice none 0 0) (.slice none 0 0)).below (Nat.le_refl _) hb
  have hzs : (((wC.setCell ⟨wy.heap.size, 0, none⟩ (.bool false)).setCell ⟨wy.heap.size, 1, none⟩ (.slice ash n csh)).setCell ⟨wy.heap.size, 2, none⟩ (.slice (some ⟨wC.heap.size, 0, none⟩) N N)).heap.size = wC.heap.size := by simp
  have hbl : Below wz.heap.size wz wC := (hz.alloc (by omega) _).trans (hb.mono (by simp; omega))
  refine ⟨wy.heap.size, wC.heap.size, ash, csh, rfl, by omega, hbx.sets.alloc _, by omega, by omega, Blk.made _ N _ hzs.symm, ((((hO.mono (by omega)).other (q := ⟨wy.heap.size, 0, none⟩) hk _).other (q := ⟨wy.heap.size, 1, none⟩) hk _).other (q := ⟨wy.heap.size, 2, none⟩) hk _).alloc _, fun h => by have := hO.row.hi h; omega, fun h => hk _ h rfl, ?_⟩
  exact (((hbl.setCell (p := ⟨wy.heap.size, 0, none⟩) (by show _ ≤ wy.heap.size; omega) _).setCell (p := ⟨wy.heap.size, 1, none⟩) (by show _ ≤ wy.heap.size; omega) _).setCell (p := ⟨wy.heap.size, 2, none⟩) (by show _ ≤ wy.heap.size; omega) _).alloc (by rw [hzs]; exact hbl.size) _

theorem ordAMC (hO : Own wC (wy.heap.size + 1 + 1) ash n zs) (hy : wy.heap.size = wz.heap.size) (hz : Below wz.heap.size wz wy) (hb : Below ((wy.alloc (boxB (.slice none 0 0) (.slice none 0 0))).alloc (madeB N)).heap.size ((wy.alloc (boxB (.slice none 0 0) (.slice none 0 0))).alloc (madeB N)) wC) : GotS wz zs n N (.pointer (some ⟨wz.heap.size, 0, none⟩)) (((wC.setCell ⟨wz.heap.size, 0, none⟩ (.bool false)).setCell ⟨wz.heap.size, 1, none⟩ (.slice ash n csh)).setCell ⟨wz.heap.size, 2, none⟩ (.slice (some ⟨wz.heap.size + 1, 0, none⟩) N N)) := by
  have hyz : wz.heap.size = wy.heap.size := hy.symm
  suffices hsuf : GotS wz zs n N (.pointer (some ⟨wy.heap.size, 0, none⟩)) (((wC.setCell ⟨wy.heap.size, 0, none⟩ (.bool false)).setCell ⟨wy.heap.size, 1, none⟩ (.slice ash n csh)).setCell ⟨wy.heap.size, 2, none⟩ (.slice (some ⟨wy.heap.size + 1, 0, none⟩) N N)) by rw [hyz]; exact hsuf
  have hs := hb.size
  rw [World.size_alloc, World.size_alloc] at hs
  refine GotS.set (by omega) (((Box.new wy false _ _).alloc _).below (Nat.le_refl _) hb) (by omega) (by omega) ((Blk.made _ N _ (by simp)).below (Nat.le_refl _) hb) (hO.mono (by omega)) (fun h => by have := hO.low h; omega) (fun h => by have := hO.low h; omega) (((hz.alloc (by omega) _).alloc (by simp; omega) _).trans (hb.mono (by simp; omega)))

theorem ordMAC (hO : Own wC (wy.heap.size + 1 + 1) ash n zs) (hy : wy.heap.size = wz.heap.size) (hz : Below wz.heap.size wz wy) (hb : Below ((wy.alloc (madeB N)).alloc (boxB (.slice none 0 0) (.slice none 0 0))).heap.size ((wy.alloc (madeB N)).alloc (boxB (.slice none 0 0) (.slice none 0 0))) wC) : GotS wz zs n N (.pointer (some ⟨wz.heap.size + 1, 0, none⟩)) (((wC.setCell ⟨wz.heap.size + 1, 0, none⟩ (.bool false)).setCell ⟨wz.heap.size + 1, 1, none⟩ (.slice ash n csh)).setCell ⟨wz.heap.size + 1, 2, none⟩ (.slice (some ⟨wz.heap.size, 0, none⟩) N N)) := by
  have hyz : wz.heap.size = wy.heap.size := hy.symm
  suffices hsuf : GotS wz zs n N (.pointer (some ⟨wy.heap.size + 1, 0, none⟩)) (((wC.setCell ⟨wy.heap.size + 1, 0, none⟩ (.bool false)).setCell ⟨wy.heap.size + 1, 1, none⟩ (.slice ash n csh)).setCell ⟨wy.heap.size + 1, 2, none⟩ (.slice (some ⟨wy.heap.size, 0, none⟩) N N)) by rw [hyz]; exact hsuf
  have hs := hb.size
  rw [World.size_alloc, World.size_alloc] at hs
  have hbx := Box.new (wy.alloc (madeB N)) false (.slice none 0 0) (.slice none 0 0)
  rw [World.size_alloc] at hbx
  refine GotS.set (by omega) (hbx.below (Nat.le_refl _) hb) (by omega) (by omega) (((Blk.made _ N _ rfl).alloc _).below (Nat.le_refl _) hb) (hO.mono (by omega)) (fun h => by have := hO.low h; omega) (fun h => by have := hO.low h; omega) (((hz.alloc (by omega) _).alloc (by simp; omega) _).trans (hb.mono (by simp; omega)))
end

end Go.Proofs.YtkgcmpmgaghdhaaGreatDoor
namespace Go.Proofs.YtkgcmpmgaghdhaaGreatDoor
open Go.RowKit Go.Shelf Go.Maps

/-- The map that v is says of each number what placeAmong says. -/
def MapOf (wz : World) (c d : Bool) (dt' : List Int) (v : Value) (wx : World) : Prop :=
  ∃ B N D, v = .map (some B) ∧ wx.ownsMap Tryz.prog 3 (plainElem (H := Unit) Tryz.prog 3) B N D ∧ (∀ x : Int, D.atKey (.int .i64 x) (.lit (.int .i64 0)) = .lit (.int .i64 (placeAmong c d dt' x))) ∧ Below wz.heap.size wz wx

theorem ownsMap_below {w w' : World} {p k B : Nat} {D : DataW Unit} (h : w.ownsMap Tryz.prog 3 (plainElem Tryz.prog 3) p k D) (hB : p < B) (hb : Below B w w') : w'.ownsMap Tryz.prog 3 (plainElem Tryz.prog 3) p k D := by
  obtain ⟨es, clock, h1, r⟩ := h
  exact ⟨es, clock, (hb.block p hB).trans h1, r⟩

theorem ownsMap_but {S : Nat → Prop} {w w' : World} {p k : Nat} {D : DataW Unit} (h : w.ownsMap Tryz.prog 3 (plainElem Tryz.prog 3) p k D) (hp : p < w.heap.size) (hS : ¬ S p) (hb : But S w w') : w'.ownsMap Tryz.prog 3 (plainElem Tryz.prog 3) p k D := by
  obtain ⟨es, clock, h1, r⟩ := h
  exact ⟨es, clock, (hb.block p hp hS).trans h1, r⟩

theorem map_look {w : World} {p k : Nat} {D : DataW Unit} {x v : Int} (h : w.ownsMap Tryz.prog 3 (plainElem Tryz.prog 3) p k D) (hx : -1000000000000000 ≤ x ∧ x ≤ 1000000000000000) (hv : D.atKey (.int .i64 x) (.lit (.int .i64 0)) = .lit (.int .i64 v)) : (Instr.lookup 118 (.map (some p)) (.int .i64 x) false).run Tryz.prog w = .ok (.int .i64 v) w := by
  obtain ⟨c, hrun, hat, _⟩ := h.lookup_int lawInt Tryz.underlying118 Tryz.underlying3 (zeroInt _) (keyOf_int_mk Tryz.underlying3 (a := x) (WalkArith.wf_i64 (by omega)))
  rw [hv] at hat
  cases hat
  exact hrun

theorem cl_box1 (w : World) {wC : World} (h : Below (w.drew.alloc (boxB (.slice none 0 0) (.slice none 0 0))).heap.size (w.drew.alloc (boxB (.slice none 0 0) (.slice none 0 0))) wC) : Box wC w.heap.size false (.slice none 0 0) (.slice none 0 0) := (Box.new w.drew false _ _).below (Nat.le_refl _) h
theorem cl_box2 (w : World) (N : Nat) {wC : World} (h : Below ((w.drew.alloc (boxB (.slice none 0 0) (.slice none 0 0))).alloc (madeB N)).heap.size ((w.drew.alloc (boxB (.slice none 0 0) (.slice none 0 0))).alloc (madeB N)) wC) : Box wC w.heap.size false (.slice none 0 0) (.slice none 0 0) := ((Box.new w.drew false _ _).alloc _).below (Nat.le_refl _) h
theorem cl_box3 (w : World) (N : Nat) {wC : World} (h : Below ((w.drew.alloc (madeB N)).alloc (boxB (.slice none 0 0) (.slice none 0 0))).heap.size ((w.drew.alloc (madeB N)).alloc (boxB (.slice none 0 0) (.slice none 0 0))) wC) : Box wC (w.heap.size + 1) false (.slice none 0 0) (.slice none 0 0) := by
  have := Box.new (w.drew.alloc (madeB N)) false (.slice none 0 0) (.slice none 0 0)
  rw [World.size_alloc] at this
  exact this.below (Nat.le_refl _) h

theorem Row.drew' {w : World} {a : Option Addr} {n : Nat} {zs : List Int} (h : Row w a n zs) : Row w.drew a n zs := ⟨h.len, h.small, h.at_⟩

set_option maxRecDepth 20000 in
set_option maxHeartbeats 4000000 in
theorem sought_any (c d : Bool) (a1 : Addr) (a2 b1 b2 : Option Addr) (n1 n2 m1 m2 c1 c2 d1 d2 : Nat) (sh dt dt' : List Int) (g : Nat) (lb : Array Value) (eg : ∀ args w, (callFunc g args).run Tryz.prog w = .ok (.enter g args) w) (f : Nat → Int) (w : World)
    (h1 : Row w (some a1) n1 sh) (h2 : Row w a2 n2 dt) (k2 : Row w b2 m2 dt') (hn2 : n2 ≤ 10000) (hm2 : m2 ≤ 10000)
    (hdt : ∀ k, k < dt.length → -1000000000000000 ≤ dt.getD k 0 ∧ dt.getD k 0 ≤ 1000000000000000) (hdt' : ∀ k, k < dt'.length → -1000000000000000 ≤ dt'.getD k 0 ∧ dt'.getD k 0 ≤ 1000000000000000)
    (hsaid : ∀ k W, k < n2 → Below w.heap.size w W → Calls Tryz.prog g (#[.int .i64 (placeAmong c d dt' (dt.getD k 0))] ++ lb) W fun e w' => e = .returned (.int .i64 (f k)) ∧ Below W.heap.size W w') :
    Calls Tryz.prog 44 #[.agg #[.bool c, .slice (some a1) n1 c1, .slice a2 n2 c2], .agg #[.bool d, .slice b1 m1 d1, .slice b2 m2 d2], .func (.func g) #[] lb] w fun e w' => ∃ ash csh gd, e = .returned (.agg #[.bool false, .slice ash n1 csh, .slice (some ⟨gd, 0, none⟩) n2 n2]) ∧ Own w' w.heap.size ash n1 sh ∧ w.heap.size ≤ gd ∧ Blk w' gd ((List.range n2).map f) ∧ ¬ At ash n1 gd ∧ Below w.heap.size w w' := by
  have hl2 := hide h2.len
  have H1 := hide h1
  have H2 := hide h2
  have K2 := hide k2
  have HDT := hide hdt
  have HDT' := hide hdt'
  have HSD := hide hsaid
  clear h1 h2 k2 hdt hdt' hsaid
  obtain ⟨wz, hwz⟩ : ∃ wz, wz = (((w.alloc (.cells #[.bool c, .slice (some a1) n1 c1, .slice a2 n2 c2] 25)).alloc (.cells #[.bool d, .slice b1 m1 d1, .slice b2 m2 d2] 25)).alloc (.cells #[.bool false, .slice none 0 0, .slice none 0 0] 25)).alloc (.map #[] 0) := ⟨_, rfl⟩
  obtain ⟨p, hp⟩ : ∃ p, p = w.heap.size := ⟨_, rfl⟩
  have hzz : wz.heap.size = p + 1 + 1 + 1 + 1 := by rw [hwz, hp]; simp
  have HZ0 : Hid (Box wz p c (.slice (some a1) n1 c1) (.slice a2 n2 c2)) := by rw [hwz, hp]; exact (((Box.new w _ _ _).alloc _).alloc _).alloc _
  have HZ1 : Hid (Box wz (p + 1) d (.slice b1 m1 d1) (.slice b2 m2 d2)) := by
    rw [hwz, hp]
    have := Box.new (w.alloc (.cells #[.bool c, .slice (some a1) n1 c1, .slice a2 n2 c2] 25)) d (.slice b1 m1 d1) (.slice b2 m2 d2)
    rw [World.size_alloc] at this
    exact (this.alloc _).alloc _
  have HZ2 : Hid (Box wz (p + 1 + 1) false (.slice none 0 0) (.slice none 0 0)) := by
    rw [hwz, hp]
    have := Box.new ((w.alloc (.cells #[.bool c, .slice (some a1) n1 c1, .slice a2 n2 c2] 25)).alloc (.cells #[.bool d, .slice b1 m1 d1, .slice b2 m2 d2] 25)) false (.slice none 0 0) (.slice none 0 0)
    rw [World.size_alloc, World.size_alloc] at this
    exact this.alloc _
  have HZM : Hid (wz.ownsMap Tryz.prog 3 (plainElem (H := Unit) Tryz.prog 3) (p + 1 + 1 + 1) 0 (.map [])) := by
    rw [hwz, hp]
    have := World.ownsMap_made (H := Unit) (((w.alloc (.cells #[.bool c, .slice (some a1) n1 c1, .slice a2 n2 c2] 25)).alloc (.cells #[.bool d, .slice b1 m1 d1, .slice b2 m2 d2] 25)).alloc (.cells #[.bool false, .slice none 0 0, .slice none 0 0] 25)) Tryz.prog 3 (plainElem Tryz.prog 3)
    rw [World.size_alloc, World.size_alloc, World.size_alloc] at this
    exact this
  have HZB : Hid (Below p w wz) := by rw [hwz, hp]; exact ((((Below.refl _ w).alloc (Nat.le_refl _) _).alloc (by simp) _).alloc (by simp; omega) _).alloc (by simp; omega) _
  have HWZ := hide hwz
  have HP := hide hp
  have hmm := @run_makeMap Tryz.prog
  clear hwz
  go_enter Tryz.func44, Tryz.ntmps44
  go_upto_if 16 with fail
  rw [← hp, ← HWZ.out]
  have hzl : p + 1 + 1 + 1 < wz.heap.size := by omega
  have hmk := run_make_row' (P := Tryz.prog) 23 3 (.int .i64 0) 8 Tryz.underlying23 info_int rfl .i64 .i64 n2 (by omega) (by omega)
  have H1Z := hide (H1.out.below (by omega) HZB.out)
  have H2Z := hide (H2.out.below (by omega) HZB.out)
  have K2Z := hide (K2.out.below (by omega) HZB.out)
  have HP1 : Hid (∀ q, At (some a1) n1 q → q < p) := fun q h => by rw [hp]; exact H1.out.hi h
  have HP2 : Hid (∀ q, At a2 n2 q → q < p) := fun q h => by rw [hp]; exact H2.out.hi h
  clear hp hzz HWZ hmm H1 H2 K2
  go_cut [7] (fun v wx => MapOf wz c d dt' v wx)
  case first =>
    obtain ⟨y0, y1, y2, _, _, _⟩ := HZ1.out.all
    by_cases hcd : c = d
    · subst hcd
      rw [show (c == c) = true by simp]
      go_wp2_with (go_at_call 114; refine (firstPlaces_any b2 m2 d2 dt' _ K2Z.out hm2 HDT'.out).mono ?_; rintro e wF ⟨B, rfl, hB, hown, hbl⟩)
      go_meet
      case rel => exact ⟨B, m2, _, rfl, hown, fun x => by rw [placesD_at]; unfold placeAmong; rw [if_pos rfl, K2Z.out.len], hbl⟩
    · rw [show (c == d) = false by simp [hcd]]
      go_wp2_with fail
      go_meet
      case rel => exact ⟨_, 0, _, rfl, HZM.out, fun x => by unfold placeAmong; rw [if_neg hcd]; rfl, Below.refl _ _⟩
  case rest =>
    obtain ⟨w3, hw3⟩ : ∃ x, x = wc := ⟨_, rfl⟩
    subst hw3
    obtain ⟨B, N, D, rfl, hM, hD, hB3⟩ := hcut
    have hz3 := hB3.size
    have hBl := hM.lt
    have HM := hide hM
    have HD := hide hD
    have HB3 := hide hB3
    have HX0 : Hid (Box w3 p c (.slice (some a1) n1 c1) (.slice a2 n2 c2)) := HZ0.out.below (Nat.le_refl _) hB3
    have HX2 : Hid (Box w3 (p + 1 + 1) false (.slice none 0 0) (.slice none 0 0)) := HZ2.out.below (Nat.le_refl _) hB3
    have H13 := hide (H1Z.out.below (Nat.le_refl _) hB3)
    have H23 := hide (H2Z.out.below (Nat.le_refl _) hB3)
    have HWB : Hid (Below p w w3) := HZB.out.trans (hB3.mono (by omega))
    clear hM hD hB3 HZ0 HZ1 HZ2 HZM HZB H1Z H2Z K2Z HDT'
    go_upto_region 4 with fail
    go_cut [8] (fun v wx => GotS w3 sh n1 n2 v wx)
    case first =>
      have HKEEP : ∀ wx, Below w3.heap.size w3 wx → wx.cell? ⟨p, 1, none⟩ = some (.slice (some a1) n1 c1) ∧ wx.cell? ⟨p, 2, none⟩ = some (.slice a2 n2 c2) := fun wx hwx => by
        obtain ⟨x0, x1, x2, _, _, _⟩ := HX0.out.all
        exact ⟨(hwx.cell (p := ⟨p, 1, none⟩) (by show p < _; omega)).trans x1, (hwx.cell (p := ⟨p, 2, none⟩) (by show p < _; omega)).trans x2⟩
      obtain ⟨x1, x2⟩ := HKEEP _ (Below.refl _ _)
      have hyz : w3.drew.heap.size = w3.heap.size := rfl
      have HYB : Hid (Below w3.heap.size w3 w3.drew) := (Below.refl _ _).drew
      have HYS := hide hyz
      clear hyz
      go_region_held3 (fun wx => wx.cell? ⟨p, 1, none⟩ = some (.slice (some a1) n1 c1) ∧ wx.cell? ⟨p, 2, none⟩ = some (.slice a2 n2 c2)) (first | (refine HKEEP _ ?_; repeat (first | exact hKC | exact Below.refl _ _ | refine Below.drew ?_ | refine Below.alloc ?_ (by first | exact Nat.le_refl _ | exact hKC.size | (have := hKC.size; simp <;> omega) | (simp <;> omega)) _ | refine Below.setCell ?_ (by first | exact hKC.size | (have := hKC.size; simp <;> omega) | (simp <;> omega)) _)))
        (first
        | (go_at_call 65; go_loud (refine (Clone_any a1 n1 c1 sh _ (by first | exact H13.out.drew' | exact H13.out.drew'.alloc _ | exact (H13.out.drew'.alloc _).alloc _)).mono ?_); rintro e wC ⟨ash, csh, rfl, hcap, hO, hbC⟩; have hKC : Below w3.heap.size w3 wC := (by refine Below.trans ?_ (hbC.mono (by first | exact Nat.le_refl _ | (simp <;> omega))); repeat (first | exact Below.refl _ _ | refine Below.drew ?_ | refine Below.alloc ?_ (by first | exact Nat.le_refl _ | (simp <;> omega)) _)); have HO := hide hO; have HBC := hide hbC; (first | (have hPC := hide (cl_box1 w3 hbC)) | (have hPC := hide (cl_box2 w3 n2 hbC)) | (have hPC := hide (cl_box3 w3 n2 hbC)) | skip); (first | (obtain ⟨r0, r1, r2, r3, r4, r5, r6⟩ := hPC.out.all) | skip); clear hcap hO hbC x1 x2; obtain ⟨x1, x2⟩ := HKEEP _ hKC))
      all_goals go_wp2_with fail
      · go_meet
        case rel => exact ordCMA HO.out hKC
      · go_meet
        case rel => exact ordCAM HO.out hKC
      · go_meet
        case rel => exact ordMCA (wy := w3) (HO.out.mono (by simp)) rfl (Below.refl _ _) (Below.undrew HBC.out)
      · go_meet
        case rel => exact ordMAC (wy := w3) (HO.out.mono (by simp)) rfl (Below.refl _ _) (Below.undrew HBC.out)
      · go_meet
        case rel => exact ordACM (wy := w3) (HO.out.mono (by simp)) rfl (Below.refl _ _) (Below.undrew HBC.out)
      · go_meet
        case rel => exact ordAMC (wy := w3) (HO.out.mono (by simp)) rfl (Below.refl _ _) (Below.undrew HBC.out)
    case rest =>
      obtain ⟨w4, hw4⟩ : ∃ x, x = wc := ⟨_, rfl⟩
      subst hw4
      obtain ⟨pb, gd, ash, csh, rfl, hpb, hbx, hgz, hne, hBk, hO, hag, hap, hb4⟩ := hcut
      have hz4 := hb4.size
      have hpl := hbx.all.2.2.2.2.2.2
      have hgl := hBk.lt
      have HBX := hide hbx
      have HBK : Hid (Blk w4 gd (soFar f n2 0)) := by show Blk _ _ _; rw [soFar_zero]; exact hBk
      have HO := hide hO
      have HAG := hide hag
      have HAP := hide hap
      have HB4 := hide hb4
      have HX04 : Hid (Box w4 p c (.slice (some a1) n1 c1) (.slice a2 n2 c2)) := HX0.out.below (Nat.le_refl _) hb4
      have HX24 : Hid (Box w4 (p + 1 + 1) false (.slice none 0 0) (.slice none 0 0)) := HX2.out.below (Nat.le_refl _) hb4
      have H24 := hide (H23.out.below (Nat.le_refl _) hb4)
      have HM4 := hide (ownsMap_below HM.out hBl hb4)
      have HW4 : Hid (Below p w w4) := HWB.out.trans (hb4.mono (by omega))
      have hBg : B < gd := by omega
      clear hbx hBk hO hag hap hb4 HX0 HX2 H23 H13 HM HWB hmk
      obtain ⟨x0, x1, x2, _, _, _⟩ := HX04.out.all
      go_wp2_with fail
      clear x0 x1 x2
      go_loopw [31] (fun i wr => ∃ k : Nat, k ≤ n2 ∧ i = .int .i64 (k : Nat) ∧ Hid (Blk wr gd (soFar f n2 k)) ∧ Hid (But (fun x => x = gd) w4 wr)) (fun i _ => n2 - (intOf i).toNat)
      case atStart => exact ⟨0, Nat.zero_le _, rfl, HBK, hide (But.refl _ _)⟩
      case round =>
        obtain ⟨k, hk, rfl, hb, hbut⟩ := hrel
        have hzr := hbut.out.size
        by_cases hkn : k < n2
        · have hr2 := hbut.out.row H24.out (by rintro x rfl h; have := HP2.out _ h; omega)
          obtain ⟨bb, ob, hbb, _, cb⟩ := hr2.get hkn
          cases hbb
          obtain ⟨x, hx⟩ : ∃ x, dt.getD k 0 = x := ⟨_, rfl⟩
          rw [hx] at cb
          have hxb : -1000000000000000 ≤ x ∧ x ≤ 1000000000000000 := by rw [← hx]; exact HDT.out k (by rw [hl2.out]; exact hkn)
          obtain ⟨q, hq⟩ : ∃ q, placeAmong c d dt' x = q := ⟨_, rfl⟩
          have hMr : wr.ownsMap Tryz.prog 3 (plainElem (H := Unit) Tryz.prog 3) B N D := by
            obtain ⟨es, clock, e1, e2⟩ := HM4.out
            exact ⟨es, clock, (hbut.out.block B (by omega) (by omega)).trans e1, e2⟩
          have hBr : B < wr.heap.size := by omega
          have hDx := HD.out x
          rw [hq] at hDx
          have hZr : Box wr pb false (.slice ash n1 csh) (.slice (some ⟨gd, 0, none⟩) n2 n2) := (hbut.out.block _ (by omega) (by omega)).trans HBX.out
          have hplr : pb < wr.heap.size := by omega
          have HSY : Hid (∀ W, Below w.heap.size w W → Calls Tryz.prog g (#[.int .i64 q] ++ lb) W fun e w' => e = .returned (.int .i64 (f k)) ∧ Below W.heap.size W w') := fun W hW => by have := HSD.out k W hkn hW; rw [hx, hq] at this; exact this
          have HWR : Hid (Below w.heap.size w wr) := by rw [← HP.out]; exact HW4.out.trans (hbut.out.below (B := p) (by omega) (by rintro x rfl; omega))
          have HKEEP : ∀ wx, But (fun b => b = gd) wr wx → wx.cell? ⟨pb, 2, none⟩ = some (.slice (some ⟨gd, 0, none⟩) n2 n2) ∧ (Instr.lookup 118 (.map (some B)) (.int .i64 x) false).run Tryz.prog wx = .ok (.int .i64 q) wx := fun wx hwx =>
            ⟨(hwx.cellAt (b := pb) (o := 2) hplr (by omega)).trans hZr.all.2.2.1, map_look (ownsMap_but hMr hBr (by omega) hwx) hxb hDx⟩
          obtain ⟨fk, hfk⟩ : ∃ fk, fk = f k := ⟨_, rfl⟩
          have HFK := hide hfk
          rw [← hfk] at HSY
          clear hx hq hfk hMr hDx hZr hr2
          obtain ⟨z2, zl⟩ := HKEEP _ (But.refl (fun b => b = gd) _)
          go_upto_region 8 with fail
          go_region_held3 (fun wx => wx.cell? ⟨pb, 2, none⟩ = some (.slice (some ⟨gd, 0, none⟩) n2 n2) ∧ (Instr.lookup 118 (.map (some B)) (.int .i64 x) false).run Tryz.prog wx = .ok (.int .i64 q) wx) (first | exact HKEEP _ (But.refl (fun b => b = gd) wr).drew | exact HKEEP _ hKT | exact HKEEP _ (hKT.setCell (p := ⟨gd, k, none⟩) rfl _))
            (first
            | (go_at_fn g; go_loud (refine (HSY.out _ (by first | exact HWR.out.drew | exact HWR.out)).mono ?_); rintro e wS ⟨rfl, hbS⟩; have hKS : Below wr.heap.size wr wS := (by refine Below.trans ?_ (hbS.mono (Nat.le_refl _)); exact (Below.refl _ _).drew); have hKT : But (fun b => b = gd) wr wS := But.of_below hKS; have HGS := hide (hb.out.below (Nat.le_refl _) hKS); have cg := HGS.out.cell (i := k) (by rw [soFar_len]; exact hkn); have cf := HGS.out.free k; clear hbS z2 zl; obtain ⟨z2, zl⟩ := HKEEP _ hKT))
          all_goals go_wp2_with fail
          all_goals go_roundw
          all_goals first
            | (refine ⟨k + 1, by omega, by go_num, ?_, hide ((hbut.out.trans ((But.of_below (S := fun b => b = gd) hKS).setCell (p := ⟨gd, k, none⟩) rfl _)).mono (by rintro x (h | h) <;> exact h))⟩
               show Blk _ _ _
               rw [← soFar_step, ← HFK.out]
               exact HGS.out.set k fk)
            | (simp [intOf]; omega)
        · have hke : k = n2 := by omega
          subst hke
          have hZr : Box wr pb false (.slice ash n1 csh) (.slice (some ⟨gd, 0, none⟩) k k) := (hbut.out.block _ (by omega) (by omega)).trans HBX.out
          obtain ⟨z0, z1, z2, z3, z4, z5, z6⟩ := hZr.all
          have hB2 : Box wr (p + 1 + 1) false (.slice none 0 0) (.slice none 0 0) := (hbut.out.block _ (by omega) (by omega)).trans HX24.out
          obtain ⟨q0, q1, q2, q3, q4, q5, q6⟩ := hB2.all
          have HB2 := hide hB2
          clear hB2 hZr
          go_wp2_with fail
          have hOr : Own wr w3.heap.size ash n1 sh := hbut.out.own HO.out (by rintro q rfl h; exact HAG.out h)
          have hk2 : ∀ q, At ash n1 q → q ≠ p + 1 + 1 := fun q h e => by have := hOr.low h; omega
          obtain ⟨WX, hWX⟩ : ∃ WX, WX = ((wr.setCell ⟨p + 1 + 1, 0, none⟩ (.bool false)).setCell ⟨p + 1 + 1, 1, none⟩ (.slice ash n1 csh)).setCell ⟨p + 1 + 1, 2, none⟩ (.slice (some ⟨gd, 0, none⟩) k k) := ⟨_, rfl⟩
          have hX : Box WX (p + 1 + 1) false (.slice ash n1 csh) (.slice (some ⟨gd, 0, none⟩) k k) := by rw [hWX]; exact HB2.out.sets
          obtain ⟨q0, q1, q2, q3, q4, q5, q6⟩ := hX.all
          have hOX : Own WX w3.heap.size ash n1 sh := by rw [hWX]; exact ((hOr.other (q := ⟨p + 1 + 1, 0, none⟩) hk2 _).other (q := ⟨p + 1 + 1, 1, none⟩) hk2 _).other (q := ⟨p + 1 + 1, 2, none⟩) hk2 _
          have hGX : Blk WX gd (soFar f k k) := by rw [hWX]; exact ((hb.out.other (p := ⟨p + 1 + 1, 0, none⟩) (by show gd ≠ p + 1 + 1; omega) _).other (p := ⟨p + 1 + 1, 1, none⟩) (by show gd ≠ p + 1 + 1; omega) _).other (p := ⟨p + 1 + 1, 2, none⟩) (by show gd ≠ p + 1 + 1; omega) _
          have hLX : Below p w WX := by rw [hWX]; exact (((HW4.out.trans (hbut.out.below (B := p) (by omega) (by rintro x rfl; omega))).setCell (p := ⟨p + 1 + 1, 0, none⟩) (by show p ≤ p + 1 + 1; omega) _).setCell (p := ⟨p + 1 + 1, 1, none⟩) (by show p ≤ p + 1 + 1; omega) _).setCell (p := ⟨p + 1 + 1, 2, none⟩) (by show p ≤ p + 1 + 1; omega) _
          rw [← hWX]
          refine bodyPost_ret (v := .agg #[.bool false, .slice ash n1 csh, .slice (some ⟨gd, 0, none⟩) k k]) (by simp [results, Tryz.results44, go_sem, q0, q1, q2]) rfl ?_
          rw [← HP.out, ← soFar_all]
          exact ⟨ash, csh, gd, rfl, hOX.mono (by omega), by omega, hGX, HAG.out, hLX⟩

end Go.Proofs.YtkgcmpmgaghdhaaGreatDoor
namespace Go.Proofs.YtkgcmpmgaghdhaaGreatDoor
open Go.RowKit

set_option maxHeartbeats 1000000 in
theorem elementsOk_any (c : Bool) (a1 a2 : Option Addr) (n1 n2 c1 c2 : Nat) (dt : List Int) (w : World) (h2 : Row w a2 n2 dt) :
    Calls Tryz.prog 113 #[.agg #[.bool c, .slice a1 n1 c1, .slice a2 n2 c2]] w fun e w' => e = .returned (.bool (dt.all (dataOk c))) ∧ Below w.heap.size w w' := by
  have hl2 := hide h2.len
  have hs2 := h2.small
  have H2 := hide h2
  clear h2
  have hW : ∀ o, Below w.heap.size w (w.alloc o) := fun o => (Below.refl _ _).alloc (Nat.le_refl _) _
  cases c with
  | true =>
    go_enter Tryz.func113, Tryz.ntmps113
    go_wp2
    go_loop [5, 11] (fun _ i => ∃ k : Nat, k ≤ n2 ∧ i = .int .i64 k ∧ Hid ((dt.take k).all (dataOk true) = true)) (fun _ i => n2 - (intOf i).toNat)
    case atStart => exact ⟨0, Nat.zero_le _, rfl, rfl⟩
    case round =>
      obtain ⟨k, hk, rfl, hall⟩ := hrel
      by_cases hlt : k < n2
      · obtain ⟨b, off, rfl, hblt, hc⟩ := (unhide H2).get hlt
        have hks : Hid (k < dt.length) := by show k < dt.length; rw [unhide hl2]; exact hlt
        obtain ⟨x, hx⟩ : ∃ x, x = dt.getD k 0 := ⟨_, rfl⟩
        rw [← hx] at hc
        have HX := hide hx
        clear hx
        cases hr : dataOk true x with
        | true =>
          have HA := hide (all_step dt (dataOk true) k (unhide hks) (unhide hall) (by rw [← unhide HX, hr]))
          have HR := hide hr
          clear hr
          go_wp2_with (go_at_call 143; refine (isCharacter_any _ _).mono ?_; rintro e w' ⟨rfl, rfl⟩; rw [unhide HR])
          go_round
          case rel => exact ⟨k + 1, by omega, by go_num, HA⟩
          case measure => simp [intOf]; omega
        | false =>
          have HE := hide (all_not dt (dataOk true) k (unhide hks) (by rw [← unhide HX, hr]))
          have HR := hide hr
          clear hr
          go_wp2_with (go_at_call 143; refine (isCharacter_any _ _).mono ?_; rintro e w' ⟨rfl, rfl⟩; rw [unhide HR])
          go_ret
          exact ⟨ret_bool HE.out.symm, hW _⟩
      · have HA : Hid (dt.all (dataOk true) = true) := by
          have := unhide hall
          rwa [List.take_of_length_le (by rw [unhide hl2]; omega)] at this
        go_wp2
        go_ret
        exact ⟨ret_bool HA.out.symm, hW _⟩
  | false =>
    go_enter Tryz.func113, Tryz.ntmps113
    go_wp2
    go_loop [5, 11] (fun _ i => ∃ k : Nat, k ≤ n2 ∧ i = .int .i64 k ∧ Hid ((dt.take k).all (dataOk false) = true)) (fun _ i => n2 - (intOf i).toNat)
    case atStart => exact ⟨0, Nat.zero_le _, rfl, rfl⟩
    case round =>
      obtain ⟨k, hk, rfl, hall⟩ := hrel
      by_cases hlt : k < n2
      · obtain ⟨b, off, rfl, hblt, hc⟩ := (unhide H2).get hlt
        have hks : Hid (k < dt.length) := by show k < dt.length; rw [unhide hl2]; exact hlt
        obtain ⟨x, hx⟩ : ∃ x, x = dt.getD k 0 := ⟨_, rfl⟩
        rw [← hx] at hc
        have HX := hide hx
        clear hx
        cases hr : dataOk false x with
        | true =>
          have HA := hide (all_step dt (dataOk false) k (unhide hks) (unhide hall) (by rw [← unhide HX, hr]))
          have HR := hide hr
          clear hr
          go_wp2_with (go_at_call 142; refine (isNumber_any _ _).mono ?_; rintro e w' ⟨rfl, rfl⟩; rw [unhide HR])
          go_round
          case rel => exact ⟨k + 1, by omega, by go_num, HA⟩
          case measure => simp [intOf]; omega
        | false =>
          have HE := hide (all_not dt (dataOk false) k (unhide hks) (by rw [← unhide HX, hr]))
          have HR := hide hr
          clear hr
          go_wp2_with (go_at_call 142; refine (isNumber_any _ _).mono ?_; rintro e w' ⟨rfl, rfl⟩; rw [unhide HR])
          go_ret
          exact ⟨ret_bool HE.out.symm, hW _⟩
      · have HA : Hid (dt.all (dataOk false) = true) := by
          have := unhide hall
          rwa [List.take_of_length_le (by rw [unhide hl2]; omega)] at this
        go_wp2
        go_ret
        exact ⟨ret_bool HA.out.symm, hW _⟩

theorem elementsOk_eq (c : Bool) (a1 a2 : Option Addr) (n1 n2 c1 c2 : Nat) (dt : List Int) (w : World) (h2 : Row w a2 n2 dt) (r : Bool) (hr : Hid (dt.all (dataOk c) = r)) :
    Calls Tryz.prog 113 #[.agg #[.bool c, .slice a1 n1 c1, .slice a2 n2 c2]] w fun e w' => e = .returned (.bool r) ∧ Below w.heap.size w w' := by
  rw [← hr.out]; exact elementsOk_any c a1 a2 n1 n2 c1 c2 dt w h2

theorem arr_shape {c : Bool} {sh dt : List Int} (h : shapeB sh = false) : arrOk c sh dt = false := by
  unfold arrOk; unfold shapeB at h
  by_cases h1 : sh.length ≤ 5
  · rw [decide_eq_true h1] at h
    have h2 : ¬ 0 ≤ countOf sh := by simpa using h
    rw [decide_eq_false (p := countOf sh = _) (by omega)]; simp
  · rw [decide_eq_false h1]; rfl

set_option maxHeartbeats 1000000 in
theorem implArrayOk_any (c : Bool) (a1 a2 : Option Addr) (n1 n2 c1 c2 : Nat) (sh dt : List Int) (w : World) (h1 : Row w a1 n1 sh) (h2 : Row w a2 n2 dt) :
    Calls Tryz.prog 43 #[.agg #[.bool c, .slice a1 n1 c1, .slice a2 n2 c2]] w fun e w' => e = .returned (.bool (arrOk c sh dt)) ∧ Below w.heap.size w w' := by
  have hl1 := hide h1.len
  have hl2 := hide h2.len
  have hs1 := h1.small
  have hs2 := h2.small
  have H1 := hide h1
  have H2 := hide h2
  clear h1 h2
  have hW : ∀ o, Below w.heap.size w (w.alloc o) := fun o => (Below.refl _ _).alloc (Nat.le_refl _) _
  cases hsb : shapeB sh with
  | false =>
    have HS := hide hsb
    have HE := hide (arr_shape (c := c) (dt := dt) hsb)
    clear hsb
    go_enter Tryz.func43, Tryz.ntmps43
    go_wp2
    go_quiet ((go_at_call 67; exact Calls.quiet_of_same (shapeOk_eq _ _ _ sh _ (((unhide H1).alloc _).drewN _) false HS)))
    go_wp2
    go_ret
    exact ⟨ret_bool HE.out.symm, Below.drewN (hW _) _⟩
  | true =>
    have HS := hide hsb
    clear hsb
    obtain ⟨cn, hcn⟩ : ∃ cn, countOf sh = cn := ⟨_, rfl⟩
    have HC := hide hcn
    clear hcn
    by_cases hcn : cn = n2
    · have hb : ((n2 : Int) == cn) = true := by simp [hcn]
      have HCN := hide hcn
      clear hcn
      obtain ⟨r, hr⟩ : ∃ r, dt.all (dataOk c) = r := ⟨_, rfl⟩
      have HR := hide hr
      clear hr
      have HE : Hid (arrOk c sh dt = r) := by
        show _ = _
        have h5 := unhide HS
        unfold shapeB at h5
        simp only [Bool.and_eq_true, decide_eq_true_eq] at h5
        unfold arrOk
        rw [unhide HR, decide_eq_true h5.1, decide_eq_true (by rw [unhide HC, unhide HCN, unhide hl2])]; rfl
      go_enter Tryz.func43, Tryz.ntmps43
      go_wp2_with fail
      go_cut [2] (fun r' wr => r' = .bool r ∧ Below w.heap.size w wr)
      case first =>
        go_region_with (first
          | (go_at_call 67; refine (shapeOk_eq _ _ _ sh _ (by first | exact ((unhide H1).alloc _).drew | exact (((unhide H1).alloc _).drewN _)) true HS).mono ?_; rintro e w' ⟨rfl, rfl⟩)
          | (go_at_call 51; refine (cellsOf_count _ _ _ sh _ (by first | exact ((unhide H1).alloc _).drew | exact (((unhide H1).alloc _).drewN _)) (unhide HS) cn HC).mono ?_; rintro e w' ⟨rfl, rfl⟩)
          | (go_at_call 113; refine (elementsOk_eq _ _ _ _ _ _ _ dt _ (by first | exact ((unhide H2).alloc _).drew | exact (((unhide H2).alloc _).drewN _)) r HR).mono ?_; rintro e w' ⟨rfl, hbe⟩))
        all_goals go_wp2_with fail
        all_goals (go_meet; case rel => exact ⟨rfl, (hW _).drew.trans (hbe.mono (by simp))⟩)
      case rest =>
        obtain ⟨rfl, hbc⟩ := hcut
        go_wp2
        go_ret
        exact ⟨ret_bool HE.out.symm, hbc⟩
    · have hb : ((n2 : Int) == cn) = false := by simp; omega
      have HE := hide (arr_count (c := c) (sh := sh) (unhide hl2) (by rw [unhide HC]; exact hcn))
      clear hcn
      go_enter Tryz.func43, Tryz.ntmps43
      go_wp2
      go_quiet (first | (go_at_call 67; exact Calls.quiet_of_same (shapeOk_eq _ _ _ sh _ (((unhide H1).alloc _).drewN _) true HS)) | (go_at_call 51; exact Calls.quiet_of_same (cellsOf_count _ _ _ sh _ (((unhide H1).alloc _).drewN _) (unhide HS) cn HC)))
      go_wp2
      go_ret
      exact ⟨ret_bool HE.out.symm, Below.drewN (hW _) _⟩

theorem implArrayOk_eq (c : Bool) (a1 a2 : Option Addr) (n1 n2 c1 c2 : Nat) (sh dt : List Int) (w : World) (h1 : Row w a1 n1 sh) (h2 : Row w a2 n2 dt) (r : Bool) (hr : Hid (arrOk c sh dt = r)) :
    Calls Tryz.prog 43 #[.agg #[.bool c, .slice a1 n1 c1, .slice a2 n2 c2]] w fun e w' => e = .returned (.bool r) ∧ Below w.heap.size w w' := by
  rw [← hr.out]; exact implArrayOk_any c a1 a2 n1 n2 c1 c2 sh dt w h1 h2

end Go.Proofs.YtkgcmpmgaghdhaaGreatDoor
namespace Go.Proofs.YtkgcmpmgaghdhaaGreatDoor
open Go.RowKit

/-- The box of the answer holds an array of the call's own. -/
def Res5 (w : World) (d : Bool) (zs ys : List Int) (n N box : Nat) (wx : World) : Prop :=
  ∃ ash csh gd, Box wx box d (.slice ash n csh) (.slice (some ⟨gd, 0, none⟩) N N) ∧ Own wx w.heap.size ash n zs ∧ w.heap.size ≤ gd ∧ Blk wx gd ys ∧ ¬ At ash n gd ∧ Below w.heap.size w wx

theorem Res5.set {w W : World} {d : Bool} {zs ys : List Int} {n N box gd csh : Nat} {ash : Option Addr} {v1 v2 : Value} {c : Bool} (hb : Box W box c v1 v2) (hO : Own W w.heap.size ash n zs) (hg : w.heap.size ≤ gd) (hB : Blk W gd ys) (hne : ¬ At ash n gd) (hbl : Below w.heap.size w W) (hb1 : ¬ At ash n box) (hb2 : gd ≠ box) (hw : w.heap.size ≤ box) :
    Res5 w d zs ys n N box (((W.setCell ⟨box, 0, none⟩ (.bool d)).setCell ⟨box, 1, none⟩ (.slice ash n csh)).setCell ⟨box, 2, none⟩ (.slice (some ⟨gd, 0, none⟩) N N)) := by
  have hk : ∀ k, At ash n k → k ≠ box := fun k hk e => hb1 (e ▸ hk)
  exact ⟨ash, csh, gd, hb.sets, ((hO.other (q := ⟨box, 0, none⟩) hk _).other (q := ⟨box, 1, none⟩) hk _).other (q := ⟨box, 2, none⟩) hk _, hg, ((hB.other (p := ⟨box, 0, none⟩) hb2 _).other (p := ⟨box, 1, none⟩) hb2 _).other (p := ⟨box, 2, none⟩) hb2 _, hne, ((hbl.setCell (p := ⟨box, 0, none⟩) hw _).setCell (p := ⟨box, 1, none⟩) hw _).setCell (p := ⟨box, 2, none⟩) hw _⟩

theorem gives_res {w wx : World} {d : Bool} {zs ys : List Int} {n N gd csh : Nat} {ash : Option Addr} (hl : ys.length = N) (hN : N ≤ 17592186044416) (hO : Own wx w.heap.size ash n zs) (hg : w.heap.size ≤ gd) (hB : Blk wx gd ys) (hne : ¬ At ash n gd) (hbl : Below w.heap.size w wx) :
    GivesOwn w ⟨d, zs, ys, 0⟩ (.returned (.tuple #[.agg #[.bool d, .slice ash n csh, .slice (some ⟨gd, 0, none⟩) N N], .int .i64 0])) wx :=
  ⟨ash, n, csh, some ⟨gd, 0, none⟩, N, N, rfl, hO, hB.own hl hN hg, fun k h1 h2 => by have := at_eq h2; subst this; exact hne h1, hbl⟩

end Go.Proofs.YtkgcmpmgaghdhaaGreatDoor
namespace Go.Proofs.YtkgcmpmgaghdhaaGreatDoor
open Go.RowKit Go.Shelf

theorem eg_find : ∀ args w, (callFunc 47 args).run Tryz.prog w = .ok (.enter 47 args) w := enters_of Tryz.func47 (by kernel_rfl) rfl

def findF (c d : Bool) (dt dt' : List Int) (n : Nat) (k : Nat) : Int := if placeAmong d c dt (dt'.getD k 0) = 0 then (n : Int) + 1 else placeAmong d c dt (dt'.getD k 0)

theorem findClo (q : Int) (pa : Nat) (a2 : Option Addr) (n2 c2 : Nat) (W : World) (hc : W.cell? ⟨pa, 2, none⟩ = some (.slice a2 n2 c2)) (hn : n2 ≤ 10000) : Calls Tryz.prog 47 #[.int .i64 q, .pointer (some ⟨pa, 0, none⟩)] W fun e w' => e = .returned (.int .i64 (if q = 0 then (n2 : Int) + 1 else q)) ∧ w' = W := by
  by_cases h : q = 0
  · subst h
    go_enter Tryz.func47, Tryz.ntmps47
    go_wp2
    go_ret
    exact ⟨rfl, rfl⟩
  · have hq : (q == 0) = false := by simp [h]
    go_enter Tryz.func47, Tryz.ntmps47
    go_wp2
    go_ret
    exact ⟨rfl, rfl⟩

set_option maxRecDepth 20000 in
set_option maxHeartbeats 4000000 in
theorem implFind_bad1 (c d : Bool) (a1 a2 b1 b2 : Addr) (n1 n2 m1 m2 c1 c2 d1 d2 : Nat) (sh dt : List Int) (w : World) (h1 : Row w (some a1) n1 sh) (h2 : Row w (some a2) n2 dt) (hok : arrOk c sh dt = false) :
    Calls Tryz.prog 12 #[.agg #[.bool c, .slice (some a1) n1 c1, .slice (some a2) n2 c2], .agg #[.bool d, .slice (some b1) m1 d1, .slice (some b2) m2 d2]] w (GivesOwn w (noAns 3)) := by
  have HR := hide hok
  have H1 := hide h1
  have H2 := hide h2
  clear h1 h2 hok
  go_enter Tryz.func12, Tryz.ntmps12
  go_wp2_with (first | (go_at_call_of 43 (Value.slice (some a1) n1 c1); refine (implArrayOk_eq _ _ _ _ _ _ _ sh dt _ ((((unhide H1).alloc _).alloc _).alloc _) ((((unhide H2).alloc _).alloc _).alloc _) _ HR).mono ?_; rintro e w1 ⟨rfl, hb1⟩; obtain ⟨B0, B1, B2, hB1⟩ := boxes3 hb1; have HB0 := hide B0; have HB1 := hide B1; have HB2 := hide B2; have HB := hide hB1; obtain ⟨x0, x1, x2, x3, x4, x5, x6⟩ := B0.all; obtain ⟨y0, y1, y2, y3, y4, y5, y6⟩ := B1.all; obtain ⟨q0, q1, q2, q3, q4, q5, q6⟩ := B2.all; clear hb1 hB1 B0 B1 B2))
  refine bodyPost_ret (v := .tuple #[.agg #[.bool false, .slice none 0 0, .slice none 0 0], .int .i64 3]) (by simp [results, Tryz.results12, go_sem, q0, q1, q2]) rfl ?_
  exact gives_none ((((unhide HB).setCell (by simp <;> omega) _).setCell (by simp <;> omega) _).setCell (by simp <;> omega) _)

set_option maxRecDepth 20000 in
set_option maxHeartbeats 4000000 in
theorem implFind_bad2 (c d : Bool) (a1 a2 b1 b2 : Addr) (n1 n2 m1 m2 c1 c2 d1 d2 : Nat) (sh dt sh' dt' : List Int) (w : World) (h1 : Row w (some a1) n1 sh) (h2 : Row w (some a2) n2 dt) (k1 : Row w (some b1) m1 sh') (k2 : Row w (some b2) m2 dt') (hok : arrOk c sh dt = true) (hok' : arrOk d sh' dt' = false) :
    Calls Tryz.prog 12 #[.agg #[.bool c, .slice (some a1) n1 c1, .slice (some a2) n2 c2], .agg #[.bool d, .slice (some b1) m1 d1, .slice (some b2) m2 d2]] w (GivesOwn w (noAns 3)) := by
  have HR := hide hok
  have HR' := hide hok'
  have hs2 := h2.small
  have hs4 := k2.small
  have H1 := hide h1
  have H2 := hide h2
  have K1 := hide k1
  have K2 := hide k2
  clear h1 h2 k1 k2 hok hok'
  go_enter Tryz.func12, Tryz.ntmps12
  go_wp2_with (first | (go_at_call_of 43 (Value.slice (some a1) n1 c1); refine (implArrayOk_eq _ _ _ _ _ _ _ sh dt _ ((((unhide H1).alloc _).alloc _).alloc _) ((((unhide H2).alloc _).alloc _).alloc _) _ HR).mono ?_; rintro e w1 ⟨rfl, hb1⟩; obtain ⟨B0, B1, B2, hB1⟩ := boxes3 hb1; have HB0 := hide B0; have HB1 := hide B1; have HB2 := hide B2; have HB := hide hB1; obtain ⟨x0, x1, x2, x3, x4, x5, x6⟩ := B0.all; obtain ⟨y0, y1, y2, y3, y4, y5, y6⟩ := B1.all; obtain ⟨q0, q1, q2, q3, q4, q5, q6⟩ := B2.all; clear hb1 hB1 B0 B1 B2) | (go_at_call_of 43 (Value.slice (some b1) m1 d1); refine (implArrayOk_eq _ _ _ _ _ _ _ sh' dt' _ ((unhide K1).below (Nat.le_refl _) (unhide HB)) ((unhide K2).below (Nat.le_refl _) (unhide HB)) _ HR').mono ?_; rintro e w2 ⟨rfl, hb2⟩; have HB0' := hide ((unhide HB0).below (Nat.le_refl _) hb2); have HB1' := hide ((unhide HB1).below (Nat.le_refl _) hb2); have HB2' := hide ((unhide HB2).below (Nat.le_refl _) hb2); have HC := hide ((unhide HB).trans (hb2.mono (by omega))); clear hb2 x0 x1 x2 x3 x4 x5 x6 y0 y1 y2 y3 y4 y5 y6 q0 q1 q2 q3 q4 q5 q6 HB0 HB1 HB2 HB; obtain ⟨x0, x1, x2, x3, x4, x5, x6⟩ := (unhide HB0').all; obtain ⟨y0, y1, y2, y3, y4, y5, y6⟩ := (unhide HB1').all; obtain ⟨q0, q1, q2, q3, q4, q5, q6⟩ := (unhide HB2').all))
  refine bodyPost_ret (v := .tuple #[.agg #[.bool false, .slice none 0 0, .slice none 0 0], .int .i64 3]) (by simp [results, Tryz.results12, go_sem, q0, q1, q2]) rfl ?_
  exact gives_none ((((unhide HC).setCell (by simp <;> omega) _).setCell (by simp <;> omega) _).setCell (by simp <;> omega) _)

set_option maxRecDepth 20000 in
set_option maxHeartbeats 4000000 in
theorem implFind_rank (c d : Bool) (a1 a2 b1 b2 : Addr) (n1 n2 m1 m2 c1 c2 d1 d2 : Nat) (sh dt sh' dt' : List Int) (w : World) (h1 : Row w (some a1) n1 sh) (h2 : Row w (some a2) n2 dt) (k1 : Row w (some b1) m1 sh') (k2 : Row w (some b2) m2 dt') (hok : arrOk c sh dt = true) (hok' : arrOk d sh' dt' = true) (hne : n1 ≠ 1) :
    Calls Tryz.prog 12 #[.agg #[.bool c, .slice (some a1) n1 c1, .slice (some a2) n2 c2], .agg #[.bool d, .slice (some b1) m1 d1, .slice (some b2) m2 d2]] w (GivesOwn w (noAns 4)) := by
  have HR := hide hok
  have HR' := hide hok'
  have hs2 := h2.small
  have hs4 := k2.small
  have H1 := hide h1
  have H2 := hide h2
  have K1 := hide k1
  have K2 := hide k2
  clear h1 h2 k1 k2 hok hok'
  have q : ((n1 : Int) != 1) = true := by simp; omega
  go_enter Tryz.func12, Tryz.ntmps12
  go_wp2_with (first | (go_at_call_of 43 (Value.slice (some a1) n1 c1); refine (implArrayOk_eq _ _ _ _ _ _ _ sh dt _ ((((unhide H1).alloc _).alloc _).alloc _) ((((unhide H2).alloc _).alloc _).alloc _) _ HR).mono ?_; rintro e w1 ⟨rfl, hb1⟩; obtain ⟨B0, B1, B2, hB1⟩ := boxes3 hb1; have HB0 := hide B0; have HB1 := hide B1; have HB2 := hide B2; have HB := hide hB1; obtain ⟨x0, x1, x2, x3, x4, x5, x6⟩ := B0.all; obtain ⟨y0, y1, y2, y3, y4, y5, y6⟩ := B1.all; obtain ⟨q0, q1, q2, q3, q4, q5, q6⟩ := B2.all; clear hb1 hB1 B0 B1 B2) | (go_at_call_of 43 (Value.slice (some b1) m1 d1); refine (implArrayOk_eq _ _ _ _ _ _ _ sh' dt' _ ((unhide K1).below (Nat.le_refl _) (unhide HB)) ((unhide K2).below (Nat.le_refl _) (unhide HB)) _ HR').mono ?_; rintro e w2 ⟨rfl, hb2⟩; have HB0' := hide ((unhide HB0).below (Nat.le_refl _) hb2); have HB1' := hide ((unhide HB1).below (Nat.le_refl _) hb2); have HB2' := hide ((unhide HB2).below (Nat.le_refl _) hb2); have HC := hide ((unhide HB).trans (hb2.mono (by omega))); clear hb2 x0 x1 x2 x3 x4 x5 x6 y0 y1 y2 y3 y4 y5 y6 q0 q1 q2 q3 q4 q5 q6 HB0 HB1 HB2 HB; obtain ⟨x0, x1, x2, x3, x4, x5, x6⟩ := (unhide HB0').all; obtain ⟨y0, y1, y2, y3, y4, y5, y6⟩ := (unhide HB1').all; obtain ⟨q0, q1, q2, q3, q4, q5, q6⟩ := (unhide HB2').all))
  refine bodyPost_ret (v := .tuple #[.agg #[.bool false, .slice none 0 0, .slice none 0 0], .int .i64 4]) (by simp [results, Tryz.results12, go_sem, q0, q1, q2]) rfl ?_
  exact gives_none ((((unhide HC).setCell (by simp <;> omega) _).setCell (by simp <;> omega) _).setCell (by simp <;> omega) _)

set_option maxRecDepth 20000 in
set_option maxHeartbeats 4000000 in
theorem implFind_good (c d : Bool) (a1 a2 b1 b2 : Addr) (n2 m1 m2 c1 c2 d1 d2 : Nat) (sh dt sh' dt' : List Int) (w : World) (h1 : Row w (some a1) 1 sh) (h2 : Row w (some a2) n2 dt) (k1 : Row w (some b1) m1 sh') (k2 : Row w (some b2) m2 dt') (hok : arrOk c sh dt = true) (hok' : arrOk d sh' dt' = true) (hn2 : n2 ≤ 10000) (hm2 : m2 ≤ 10000) :
    Calls Tryz.prog 12 #[.agg #[.bool c, .slice (some a1) 1 c1, .slice (some a2) n2 c2], .agg #[.bool d, .slice (some b1) m1 d1, .slice (some b2) m2 d2]] w (GivesOwn w ⟨false, sh', (List.range m2).map (findF c d dt dt' n2), 0⟩) := by
  have HR := hide hok
  have HR' := hide hok'
  have HDT : Hid (∀ k, k < dt.length → -1000000000000000 ≤ dt.getD k 0 ∧ dt.getD k 0 ≤ 1000000000000000) := fun k hk => dataOk_bd hok hk
  have HDT' : Hid (∀ k, k < dt'.length → -1000000000000000 ≤ dt'.getD k 0 ∧ dt'.getD k 0 ≤ 1000000000000000) := fun k hk => dataOk_bd hok' hk
  have hs2 := h2.small
  have hs4 := k2.small
  have H1 := hide h1
  have H2 := hide h2
  have K1 := hide k1
  have K2 := hide k2
  clear h1 h2 k1 k2 hok hok'
  go_enter Tryz.func12, Tryz.ntmps12
  go_wp2_with (first | (go_at_call_of 43 (Value.slice (some a1) 1 c1); refine (implArrayOk_eq _ _ _ _ _ _ _ sh dt _ ((((unhide H1).alloc _).alloc _).alloc _) ((((unhide H2).alloc _).alloc _).alloc _) _ HR).mono ?_; rintro e w1 ⟨rfl, hb1⟩; obtain ⟨B0, B1, B2, hB1⟩ := boxes3 hb1; have HB0 := hide B0; have HB1 := hide B1; have HB2 := hide B2; have HB := hide hB1; obtain ⟨x0, x1, x2, x3, x4, x5, x6⟩ := B0.all; obtain ⟨y0, y1, y2, y3, y4, y5, y6⟩ := B1.all; obtain ⟨q0, q1, q2, q3, q4, q5, q6⟩ := B2.all; clear hb1 hB1 B0 B1 B2) | (go_at_call_of 43 (Value.slice (some b1) m1 d1); refine (implArrayOk_eq _ _ _ _ _ _ _ sh' dt' _ ((unhide K1).below (Nat.le_refl _) (unhide HB)) ((unhide K2).below (Nat.le_refl _) (unhide HB)) _ HR').mono ?_; rintro e w2 ⟨rfl, hb2⟩; have HB0' := hide ((unhide HB0).below (Nat.le_refl _) hb2); have HB1' := hide ((unhide HB1).below (Nat.le_refl _) hb2); have HB2' := hide ((unhide HB2).below (Nat.le_refl _) hb2); have HC := hide ((unhide HB).trans (hb2.mono (by omega))); clear hb2 x0 x1 x2 x3 x4 x5 x6 y0 y1 y2 y3 y4 y5 y6 q0 q1 q2 q3 q4 q5 q6 HB0 HB1 HB2 HB; obtain ⟨x0, x1, x2, x3, x4, x5, x6⟩ := (unhide HB0').all; obtain ⟨y0, y1, y2, y3, y4, y5, y6⟩ := (unhide HB1').all; obtain ⟨q0, q1, q2, q3, q4, q5, q6⟩ := (unhide HB2').all) | (go_at_call 44; refine (sought_any d c b1 (some b2) (some a1) (some a2) m1 m2 1 n2 d1 d2 c1 c2 sh' dt' dt 47 #[.pointer (some ⟨w.heap.size, 0, none⟩)] eg_find (findF c d dt dt' n2) _ ((unhide K1).below (Nat.le_refl _) (unhide HC)) ((unhide K2).below (Nat.le_refl _) (unhide HC)) ((unhide H2).below (Nat.le_refl _) (unhide HC)) hm2 hn2 (unhide HDT') (unhide HDT) (fun k W hk hW => (findClo _ w.heap.size (some a2) n2 c2 W ((hW.cell (p := ⟨w.heap.size, 2, none⟩) x6).trans x2) hn2).mono (by rintro e w' ⟨rfl, rfl⟩; exact ⟨rfl, Below.refl _ _⟩))).mono ?_; rintro e w3 ⟨ash, csh, gd, rfl, hO, hgd, hBk, hag, hb3⟩; have HX := hide ((unhide HB2').below (Nat.le_refl _) hb3); have HD := hide ((unhide HC).trans (hb3.mono (by omega))); have HO := hide hO; have HBK := hide hBk; have HAG := hide hag; have hq6 := q6; clear hO hBk hag hb3 x0 x1 x2 x3 x4 x5 x6 y0 y1 y2 y3 y4 y5 y6 q0 q1 q2 q3 q4 q5 q6; obtain ⟨q0, q1, q2, q3, q4, q5, q6⟩ := (unhide HX).all))
  have hres := Res5.set (w := w) (W := w3) (d := false) (zs := sh') (ys := (List.range m2).map (findF c d dt dt' n2)) (n := m1) (N := m2) (box := w.heap.size + 2) (gd := gd) (csh := csh) (ash := ash) (unhide HX) ((unhide HO).mono (by omega)) (by omega) (unhide HBK) (unhide HAG) (unhide HD) (fun h => by have := (unhide HO).low h; omega) (by omega) (by omega)
  obtain ⟨ash', csh', gd', hbx, hO', hgd', hB', hne', hbl'⟩ := hres
  obtain ⟨r0, r1, r2, r3, r4, r5, r6⟩ := hbx.all
  refine bodyPost_ret (v := .tuple #[.agg #[.bool false, .slice ash' m1 csh', .slice (some ⟨gd', 0, none⟩) m2 m2], .int .i64 0]) (by simp [results, Tryz.results12, go_sem, r0, r1, r2]) rfl ?_
  exact gives_res (by simp) (by omega) hO' hgd' hB' hne' hbl'

end Go.Proofs.YtkgcmpmgaghdhaaGreatDoor
namespace Go.Proofs.YtkgcmpmgaghdhaaGreatDoor
open Go.RowKit

theorem findI_bad1 {c d : Bool} {sh dt sh' dt' : List Int} (h : arrOk c sh dt = false) : find c d sh dt sh' dt' = noAns 3 := by unfold find; rw [if_neg (by simp [h])]
theorem findI_bad2 {c d : Bool} {sh dt sh' dt' : List Int} (h : arrOk d sh' dt' = false) : find c d sh dt sh' dt' = noAns 3 := by unfold find; rw [if_neg (by simp [h])]
theorem findI_rank {c d : Bool} {sh dt sh' dt' : List Int} (h1 : arrOk c sh dt = true) (h2 : arrOk d sh' dt' = true) (h : sh.length ≠ 1) : find c d sh dt sh' dt' = noAns 4 := by unfold find; rw [if_pos ⟨h1, h2⟩, if_pos h]
theorem findI_go {c d : Bool} {sh dt sh' dt' : List Int} (h1 : arrOk c sh dt = true) (h2 : arrOk d sh' dt' = true) (h : sh.length = 1) : find c d sh dt sh' dt' = ⟨false, sh', (List.range dt'.length).map (findF c d dt dt' dt.length), 0⟩ := by
  unfold find
  rw [if_pos ⟨h1, h2⟩, if_neg (by simp [h]), gather_good (firstCode_zero.2 fun k _ => rfl)]
  unfold vals
  congr 1
  refine enc_eq fun k _ => ?_
  have hle := first_le c dt (dt'.getD k 0) d
  unfold findF
  rw [placeAmong_first]
  by_cases hf : firstOf c dt (dt'.getD k 0) d < dt.length
  · rw [if_pos hf, if_neg (by omega)]
  · rw [if_neg hf, if_pos rfl]
    have he : firstOf c dt (dt'.getD k 0) d = dt.length := by omega
    show ((firstOf c dt (dt'.getD k 0) d : Nat) : Int) + 1 = _
    rw [he]

theorem implFind_any (c d : Bool) (a1 a2 b1 b2 : Addr) (n1 n2 m1 m2 c1 c2 d1 d2 : Nat) (sh dt sh' dt' : List Int) (w : World) (h1 : Row w (some a1) n1 sh) (h2 : Row w (some a2) n2 dt) (k1 : Row w (some b1) m1 sh') (k2 : Row w (some b2) m2 dt') :
    Calls Tryz.prog 12 #[.agg #[.bool c, .slice (some a1) n1 c1, .slice (some a2) n2 c2], .agg #[.bool d, .slice (some b1) m1 d1, .slice (some b2) m2 d2]] w (GivesOwn w (find c d sh dt sh' dt')) := by
  cases hok : arrOk c sh dt with
  | false => rw [findI_bad1 hok]; exact implFind_bad1 c d a1 a2 b1 b2 n1 n2 m1 m2 c1 c2 d1 d2 sh dt w h1 h2 hok
  | true =>
    cases hok' : arrOk d sh' dt' with
    | false => rw [findI_bad2 hok']; exact implFind_bad2 c d a1 a2 b1 b2 n1 n2 m1 m2 c1 c2 d1 d2 sh dt sh' dt' w h1 h2 k1 k2 hok hok'
    | true =>
      obtain ⟨i1, p1, _⟩ := shapeIn_of hok
      obtain ⟨i2, p2, _⟩ := shapeIn_of hok'
      have e1 := i1.bd
      have e2 := i2.bd
      rw [p1, h2.len] at e1
      rw [p2, k2.len] at e2
      by_cases hn : n1 = 1
      · subst hn
        rw [findI_go hok hok' h1.len, k2.len, h2.len]
        exact implFind_good c d a1 a2 b1 b2 n2 m1 m2 c1 c2 d1 d2 sh dt sh' dt' w h1 h2 k1 k2 hok hok' (by omega) (by omega)
      · rw [findI_rank hok hok' (by rw [h1.len]; exact hn)]
        exact implFind_rank c d a1 a2 b1 b2 n1 n2 m1 m2 c1 c2 d1 d2 sh dt sh' dt' w h1 h2 k1 k2 hok hok' hn

end Go.Proofs.YtkgcmpmgaghdhaaGreatDoor
