import Derived.Test.YtmikkameameebaaCutGath
import Derived.Test.YtmikkameameebaaImplPlaceIn
import Derived.BigQuiet
import Derived.Test.YtmikkameameebaaImplGather
import Derived.Test.YtmikkameameebaaImplList5
import Derived.Test.YtmikkameameebaaImplEnd5
import Derived.Deep.RegionHeld3
import Derived.Deep.DeepCutAuto
namespace Go.Proofs.Ytmikkameameebaa
open Go.RowKit Go.Shelf

theorem eg_cutdropping : ∀ args w, (callFunc 70 args).run Try.prog w = .ok (.enter 70 args) w := enters_of Try.func70 (by kernel_rfl) rfl

set_option maxHeartbeats 2000000 in
theorem cutClodropping (pf n cf : Nat) (gf : Option Addr) (st zs : List Int) (w : World) (hc : w.cell? ⟨pf, 0, none⟩ = some (.slice gf n cf)) (hr : Row w gf n st) (hb : ∀ k, k < n → -1000000000010000 ≤ st.getD k 0 ∧ st.getD k 0 ≤ 1000000000010000) (hz : zs.length = n) (hs : ∀ k, zs.getD k 0 ≤ 10000) :
    NumOk 70 #[.pointer (some ⟨pf, 0, none⟩)] (cutF st) zs n w := by
  intro D hD hDl k hk ib W hW hB
  have hd := hD k (by omega)
  have hsk := hs k
  have hbk := hb k hk
  have hc1 := (hW.cell (p := ⟨pf, 0, none⟩) (World.block_lt_of_cell? _ _ hc)).trans hc
  obtain ⟨bf, of, rfl, _, cf1⟩ := (hr.below (Nat.le_refl _) hW).get hk
  have cd := hB.cell (i := k) (by omega)
  obtain ⟨x, hx⟩ : ∃ x, D.getD k 0 = x := ⟨_, rfl⟩
  obtain ⟨y, hy⟩ : ∃ y, st.getD k 0 = y := ⟨_, rfl⟩
  rw [hx] at cd hd
  rw [hy] at cf1 hbk
  have HF : Hid (cutF st D k = y + x) := by show _ = _; unfold cutF; rw [hx, hy]
  have w1 : IntKind.i64.wrap (y + x) = y + x := by rw [IntKind.wrap_i64]; omega
  rw [hz]
  clear hW hB hD hDl hc hr hx hy hz hs hb
  go_enter Try.func70, Try.ntmps70
  go_wp2_with fail
  go_quiet (fail)
  go_wp2_with fail
  go_ret
  exact ⟨ret_int HF.out.symm, Below.drewN (Below.refl _ _) _⟩

end Go.Proofs.Ytmikkameameebaa
namespace Go.Proofs.Ytmikkameameebaa
open Go.RowKit Go.Shelf

abbrev S1taking := takeS1
abbrev Z1taking := takeZ1
abbrev S1dropping := dropS1
abbrev Z1dropping := dropZ1

theorem S1taking_bd {k len : Int} (hk : -1000000000000000 ≤ k ∧ k ≤ 1000000000000000) (hl : 0 ≤ len ∧ len ≤ 10000) : -1000000000010000 ≤ S1taking k len ∧ S1taking k len ≤ 1000000000010000 := by
  show -1000000000010000 ≤ takeS1 k len ∧ takeS1 k len ≤ 1000000000010000
  unfold takeS1; split <;> omega
theorem S1dropping_bd {k len : Int} (hk : -1000000000000000 ≤ k ∧ k ≤ 1000000000000000) (_hl : 0 ≤ len ∧ len ≤ 10000) : -1000000000010000 ≤ S1dropping k len ∧ S1dropping k len ≤ 1000000000010000 := by
  show -1000000000010000 ≤ dropS1 k len ∧ dropS1 k len ≤ 1000000000010000
  unfold dropS1; split <;> omega

set_option maxHeartbeats 1000000 in
theorem span_taking (k len : Int) (w : World) (hk : -1000000000000000 ≤ k ∧ k ≤ 1000000000000000) (hl : 0 ≤ len ∧ len ≤ 10000) : Calls Try.prog 121 #[.agg #[], .int .i64 k, .int .i64 len] w fun e w' => e = .returned (.tuple #[.int .i64 (takeS1 k len), .int .i64 (takeZ1 k len)]) ∧ Below w.heap.size w w' := by
  by_cases h : k < 0
  · have HS : Hid (takeS1 k len = len + k) := if_pos h
    have HZ : Hid (takeZ1 k len = -k) := if_pos h
    have w1 : IntKind.i64.wrap (len + k) = len + k := by rw [IntKind.wrap_i64]; omega
    have w2 : IntKind.i64.wrap (-k) = -k := by rw [IntKind.wrap_i64]; omega
    go_enter Try.func121, Try.ntmps121
    go_wp2
    go_ret2
    exact ⟨ret_two HS.out.symm HZ.out.symm, by first | exact Below.refl _ _ | exact (Below.refl _ w).alloc (Nat.le_refl _) _⟩
  · have HS : Hid (takeS1 k len = 0) := if_neg h
    have HZ : Hid (takeZ1 k len = k) := if_neg h
    go_enter Try.func121, Try.ntmps121
    go_wp2
    go_ret2
    exact ⟨ret_two HS.out.symm HZ.out.symm, by first | exact Below.refl _ _ | exact (Below.refl _ w).alloc (Nat.le_refl _) _⟩

set_option maxHeartbeats 1000000 in
theorem magnitude_any (k : Int) (w : World) (hk : -1000000000000000 ≤ k ∧ k ≤ 1000000000000000) : Calls Try.prog 120 #[.int .i64 k] w fun e w' => e = .returned (.int .i64 (absI k)) ∧ w' = w := by
  have w2 : IntKind.i64.wrap (-k) = -k := by rw [IntKind.wrap_i64]; omega
  go_enter Try.func120, Try.ntmps120
  go_wp2
  all_goals go_ret
  all_goals (refine ⟨ret_int ?_, rfl⟩; unfold absI; split <;> omega)

set_option maxHeartbeats 1000000 in
theorem span_dropping (k len : Int) (w : World) (hk : -1000000000000000 ≤ k ∧ k ≤ 1000000000000000) (hl : 0 ≤ len ∧ len ≤ 10000) : Calls Try.prog 119 #[.agg #[], .int .i64 k, .int .i64 len] w fun e w' => e = .returned (.tuple #[.int .i64 (dropS1 k len), .int .i64 (dropZ1 k len)]) ∧ Below w.heap.size w w' := by
  have hab : 0 ≤ absI k ∧ absI k ≤ 1000000000000000 := by unfold absI; split <;> omega
  have w2 : IntKind.i64.wrap (len - absI k) = len - absI k := by rw [IntKind.wrap_i64]; omega
  obtain ⟨m, hm⟩ : ∃ m, absI k = m := ⟨_, rfl⟩
  have HM := hide hm
  rw [hm] at w2 hab
  clear hm
  go_enter Try.func119, Try.ntmps119
  go_wp2_with (go_at_call 120; refine (magnitude_any _ _ hk).mono ?_; rintro e w1 ⟨rfl, hw1⟩; obtain rfl := hw1.symm; rw [HM.out])
  all_goals go_ret2
  all_goals (refine ⟨ret_two ?_ ?_, by first | exact Below.refl _ _ | exact (Below.refl _ w).alloc (Nat.le_refl _) _⟩)
  all_goals first | (unfold dropS1; split <;> omega) | (unfold dropZ1; rw [HM.out]; split <;> omega)

end Go.Proofs.Ytmikkameameebaa
namespace Go.Proofs.Ytmikkameameebaa
open Go.RowKit Go.Shelf

namespace Cutdropping

theorem boxNew (w : World) (p : Nat) (c : Bool) (v1 v2 : Value) (hp : p = w.heap.size) : Box (w.alloc (.cells #[.bool c, v1, v2] 26)) p c v1 v2 := by subst hp; exact Box.new w c v1 v2

theorem setS1 {w : World} {p : Nat} {c : Bool} {v1 v2 : Value} (h : Box w p c v1 v2) (v : Value) : Box (w.setCell ⟨p, 1, none⟩ v) p c v v2 := by
  unfold Box at h ⊢
  rw [heap_setCell_same w p 1 _ _ _ h]
  simp

/-- A box with one new list of zeros, and another new list. -/
def Two8 (w2 : World) (L : Nat) (v9 v10 : Value) (wx : World) : Prop :=
  ∃ pf gf gs, v9 = .pointer (some ⟨pf, 0, none⟩) ∧ v10 = .slice (some ⟨gs, 0, none⟩) L L ∧ wx.heap[pf]? = some (.cells #[.slice (some ⟨gf, 0, none⟩) L L] 22 (0, 0)) ∧ Blk wx gf (List.replicate L 0) ∧ Blk wx gs (List.replicate L 0) ∧ w2.heap.size ≤ pf ∧ w2.heap.size ≤ gf ∧ w2.heap.size ≤ gs ∧ pf ≠ gf ∧ gf ≠ gs ∧ pf ≠ gs ∧ Below w2.heap.size w2 wx

theorem meth : ∀ w, (method 226 59 (.agg #[]) "loop.example/s02542/impl.span").run Try.prog w = .ok (119, .agg #[]) w := by intro w; kernel_rfl

theorem a3_0 (w : World) (o0 o1 o2 : Obj) : (((w.alloc o0).alloc o1).alloc o2).drew.heap[w.heap.size]? = some o0 := (Below.heap_alloc _ _ _ (by simp; omega)).trans ((Below.heap_alloc _ _ _ (by simp)).trans (World.alloc_heap_new w o0))
theorem a3_1 (w : World) (o0 o1 o2 : Obj) : (((w.alloc o0).alloc o1).alloc o2).drew.heap[w.heap.size + 1]? = some o1 := (Below.heap_alloc _ _ _ (by simp)).trans (by have := World.alloc_heap_new (w.alloc o0) o1; rwa [World.size_alloc] at this)
theorem a3_2 (w : World) (o0 o1 o2 : Obj) : (((w.alloc o0).alloc o1).alloc o2).drew.heap[w.heap.size + 1 + 1]? = some o2 := by have := World.alloc_heap_new ((w.alloc o0).alloc o1) o2; rwa [World.size_alloc, World.size_alloc] at this
theorem a3_b (w : World) (o0 o1 o2 : Obj) : Below w.heap.size w (((w.alloc o0).alloc o1).alloc o2).drew := ((((Below.refl _ w).alloc (Nat.le_refl _) _).alloc (by simp) _).alloc (by simp; omega) _).drew

theorem blk_made {W : World} {g L : Nat} (h : W.heap[g]? = some (.cells (madeCells #[.int .i64 0] L) 3 (0, 0))) : Blk W g (List.replicate L 0) := by
  rw [madeList] at h
  unfold Blk
  rw [h]
  simp

theorem two8 {w2 wx : World} {L pf gf gs : Nat} (h1 : wx.heap[pf]? = some (.cells #[.slice (some ⟨gf, 0, none⟩) L L] 22 (0, 0))) (h2 : wx.heap[gf]? = some (.cells (madeCells #[.int .i64 0] L) 3 (0, 0))) (h3 : wx.heap[gs]? = some (.cells (madeCells #[.int .i64 0] L) 3 (0, 0))) (b1 : w2.heap.size ≤ pf ∧ pf ≠ gf) (b2 : w2.heap.size ≤ gf ∧ gf ≠ gs) (b3 : w2.heap.size ≤ gs ∧ pf ≠ gs) (hb : Below w2.heap.size w2 wx) :
    Two8 w2 L (.pointer (some ⟨pf, 0, none⟩)) (.slice (some ⟨gs, 0, none⟩) L L) wx := ⟨pf, gf, gs, rfl, rfl, h1, blk_made h2, blk_made h3, b1.1, b2.1, b3.1, b1.2, b2.2, b3.2, hb⟩

set_option maxRecDepth 20000 in
set_option maxHeartbeats 4000000 in
theorem code (c d : Bool) (a1 a2 b1 b2 : Addr) (n1 n2 m1 m2 c1 c2 d1 d2 : Nat) (sh dt sh' dt' : List Int) (w : World) (h1 : Row w (some a1) n1 sh) (h2 : Row w (some a2) n2 dt) (k1 : Row w (some b1) m1 sh') (k2 : Row w (some b2) m2 dt') (r : Int) (hrc : codeList c d sh dt sh' dt' = r) (hr : r ≠ 0) :
    Calls Try.prog 58 #[.agg #[], .agg #[.bool c, .slice (some a1) n1 c1, .slice (some a2) n2 c2], .agg #[.bool d, .slice (some b1) m1 d1, .slice (some b2) m2 d2]] w (GivesOwn w (noAns r)) := by
  have q : (r != 0) = true := by simp [hr]
  clear hr
  obtain ⟨W0, hW0⟩ : ∃ W0, W0 = (((w.alloc (.cells #[] 59)).alloc (.cells #[.bool c, .slice (some a1) n1 c1, .slice (some a2) n2 c2] 26)).alloc (.cells #[.bool d, .slice (some b1) m1 d1, .slice (some b2) m2 d2] 26)).alloc (.cells #[.bool false, .slice none 0 0, .slice none 0 0] 26) := ⟨_, rfl⟩
  have hz0 : w.heap.size + 4 ≤ W0.heap.size := by rw [hW0]; simp
  have HB0 : Hid (Below w.heap.size w W0) := by rw [hW0]; exact ((((Below.refl _ w).alloc (Nat.le_refl _) _).alloc (by simp) _).alloc (by simp; omega) _).alloc (by simp; omega) _
  have HXH : Hid (W0.heap[w.heap.size]? = some (.cells #[] 59 (0, 0))) := by
    rw [hW0]
    exact (Below.heap_alloc _ _ _ (by simp; omega)).trans ((Below.heap_alloc _ _ _ (by simp; omega)).trans ((Below.heap_alloc _ _ _ (by simp)).trans (World.alloc_heap_new w _)))
  have HX0 : Hid (Box W0 (w.heap.size + 1) c (.slice (some a1) n1 c1) (.slice (some a2) n2 c2)) := by
    rw [hW0]; exact ((boxNew _ _ _ _ _ (by simp)).alloc _).alloc _
  have HX1 : Hid (Box W0 (w.heap.size + 1 + 1) d (.slice (some b1) m1 d1) (.slice (some b2) m2 d2)) := by
    rw [hW0]; exact (boxNew _ _ _ _ _ (by simp)).alloc _
  have HX2 : Hid (Box W0 (w.heap.size + 1 + 1 + 1) false (.slice none 0 0) (.slice none 0 0)) := by
    rw [hW0]; exact boxNew _ _ _ _ _ (by simp)
  have H1 := hide (h1.below (Nat.le_refl _) HB0.out)
  have H2 := hide (h2.below (Nat.le_refl _) HB0.out)
  have K1 := hide (k1.below (Nat.le_refl _) HB0.out)
  have K2 := hide (k2.below (Nat.le_refl _) HB0.out)
  have HP2 : Hid (∀ k, At (some a2) n2 k → k < w.heap.size) := fun k h => h2.hi h
  have HP4 : Hid (∀ k, At (some b2) m2 k → k < w.heap.size) := fun k h => k2.hi h
  have hs2 := h2.small
  have hs4 := k2.small
  have hs3 := k1.small
  have HW0 := hide hW0
  have HRC := hide hrc
  clear h1 h2 k1 k2 hrc hW0
  go_enter Try.func58, Try.ntmps58
  go_wp2_with (first | (go_at_call 30; rw [← HW0.out]; refine (implListCode_any c d (some a1) (some a2) (some b1) (some b2) n1 n2 m1 m2 c1 c2 d1 d2 sh dt sh' dt' _ H1.out H2.out K1.out K2.out _ HRC).mono ?_; rintro e w1 ⟨rfl, hb1⟩; have HE1 := hide hb1; clear hb1; obtain ⟨x0, x1, x2, x3, x4, x5, x6⟩ := (HX0.out.below (Nat.le_refl _) HE1.out).all; obtain ⟨y0, y1, y2, y3, y4, y5, y6⟩ := (HX1.out.below (Nat.le_refl _) HE1.out).all; obtain ⟨q0, q1, q2, q3, q4, q5, q6⟩ := (HX2.out.below (Nat.le_refl _) HE1.out).all))
  refine bodyPost_ret (v := .tuple #[.agg #[.bool false, .slice none 0 0, .slice none 0 0], .int .i64 r]) (by simp [results, Try.results58, go_sem, q0, q1, q2]) rfl ?_
  exact gives_none ((((HB0.out.trans (HE1.out.mono (by omega))).setCell (by simp <;> omega) _).setCell (by simp <;> omega) _).setCell (by simp <;> omega) _)

set_option maxRecDepth 20000 in
set_option maxHeartbeats 4000000 in
theorem rest (c d : Bool) (a1 a2 b1 b2 : Addr) (n1 n2 m1 m2 c1 c2 d1 d2 : Nat) (sh dt sh' dt' : List Int) (w : World) (h1 : Row w (some a1) n1 sh) (h2 : Row w (some a2) n2 dt) (k1 : Row w (some b1) m1 sh') (k2 : Row w (some b2) m2 dt') (hrc : codeList c d sh dt sh' dt' = 0) (hok : arrOk c sh dt = true) (hok' : arrOk d sh' dt' = true) (bs : List Int) (hbs : bs = countedSh n2 sh') (R : Ans) (hR5 : bs.length ≠ n2 → R = noAns 5) (hR7 : bs.length = n2 → shapeB (made Z1dropping dt bs n2) = false → R = noAns 7) (hRG : bs.length = n2 → shapeB (made Z1dropping dt bs n2) = true → R = ⟨d, made Z1dropping dt bs n2, vals (gatherAt d bs dt' (cutF (made S1dropping dt bs n2)) (made Z1dropping dt bs n2)) (countOf (made Z1dropping dt bs n2)).toNat, 0⟩) :
    Calls Try.prog 58 #[.agg #[], .agg #[.bool c, .slice (some a1) n1 c1, .slice (some a2) n2 c2], .agg #[.bool d, .slice (some b1) m1 d1, .slice (some b2) m2 d2]] w (GivesOwn w R) := by
  have HR5 : Hid (bs.length ≠ n2 → R = noAns 5) := hR5
  have HR7 : Hid (bs.length = n2 → shapeB (made Z1dropping dt bs n2) = false → R = noAns 7) := hR7
  have HRG : Hid (bs.length = n2 → shapeB (made Z1dropping dt bs n2) = true → R = ⟨d, made Z1dropping dt bs n2, vals (gatherAt d bs dt' (cutF (made S1dropping dt bs n2)) (made Z1dropping dt bs n2)) (countOf (made Z1dropping dt bs n2)).toNat, 0⟩) := hRG
  clear hR5 hR7 hRG
  have hl1 := k1.len
  have HPB : Hid (prodAll bs = (m2 : Int)) := by
    obtain ⟨_, hpr, _⟩ := shapeIn_of hok'
    rw [k2.len] at hpr
    rw [hbs]; unfold countedSh
    split
    · rename_i e; rw [e] at hpr; rw [(ones_in n2).2]; exact hpr
    · exact hpr
  have HSI : Hid (ShapeIn bs) := by rw [hbs]; unfold countedSh; split; exact (ones_in n2).1; exact (shapeIn_of hok').1
  have hn2 : n2 ≤ 10000 := by obtain ⟨hin, hp, _⟩ := shapeIn_of hok; have := hin.bd; rw [hp, h2.len] at this; omega
  obtain ⟨W0, hW0⟩ : ∃ W0, W0 = (((w.alloc (.cells #[] 59)).alloc (.cells #[.bool c, .slice (some a1) n1 c1, .slice (some a2) n2 c2] 26)).alloc (.cells #[.bool d, .slice (some b1) m1 d1, .slice (some b2) m2 d2] 26)).alloc (.cells #[.bool false, .slice none 0 0, .slice none 0 0] 26) := ⟨_, rfl⟩
  have hz0 : w.heap.size + 4 ≤ W0.heap.size := by rw [hW0]; simp
  have HB0 : Hid (Below w.heap.size w W0) := by rw [hW0]; exact ((((Below.refl _ w).alloc (Nat.le_refl _) _).alloc (by simp) _).alloc (by simp; omega) _).alloc (by simp; omega) _
  have HXH : Hid (W0.heap[w.heap.size]? = some (.cells #[] 59 (0, 0))) := by
    rw [hW0]
    exact (Below.heap_alloc _ _ _ (by simp; omega)).trans ((Below.heap_alloc _ _ _ (by simp; omega)).trans ((Below.heap_alloc _ _ _ (by simp)).trans (World.alloc_heap_new w _)))
  have HX0 : Hid (Box W0 (w.heap.size + 1) c (.slice (some a1) n1 c1) (.slice (some a2) n2 c2)) := by
    rw [hW0]; exact ((boxNew _ _ _ _ _ (by simp)).alloc _).alloc _
  have HX1 : Hid (Box W0 (w.heap.size + 1 + 1) d (.slice (some b1) m1 d1) (.slice (some b2) m2 d2)) := by
    rw [hW0]; exact (boxNew _ _ _ _ _ (by simp)).alloc _
  have HX2 : Hid (Box W0 (w.heap.size + 1 + 1 + 1) false (.slice none 0 0) (.slice none 0 0)) := by
    rw [hW0]; exact boxNew _ _ _ _ _ (by simp)
  have H1 := hide (h1.below (Nat.le_refl _) HB0.out)
  have H2 := hide (h2.below (Nat.le_refl _) HB0.out)
  have K1 := hide (k1.below (Nat.le_refl _) HB0.out)
  have K2 := hide (k2.below (Nat.le_refl _) HB0.out)
  have HP2 : Hid (∀ k, At (some a2) n2 k → k < w.heap.size) := fun k h => h2.hi h
  have HP4 : Hid (∀ k, At (some b2) m2 k → k < w.heap.size) := fun k h => k2.hi h
  have hs2 := h2.small
  have hs4 := k2.small
  have hs3 := k1.small
  have HW0 := hide hW0
  have HRC := hide hrc
  clear h1 h2 k1 k2 hrc hW0
  go_enter Try.func58, Try.ntmps58
  go_upto_if 23 with (first | (go_at_call 30; rw [← HW0.out]; refine (implListCode_any c d (some a1) (some a2) (some b1) (some b2) n1 n2 m1 m2 c1 c2 d1 d2 sh dt sh' dt' _ H1.out H2.out K1.out K2.out _ HRC).mono ?_; rintro e w1 ⟨rfl, hb1⟩; have HE1 := hide hb1; clear hb1; obtain ⟨x0, x1, x2, x3, x4, x5, x6⟩ := (HX0.out.below (Nat.le_refl _) HE1.out).all; obtain ⟨y0, y1, y2, y3, y4, y5, y6⟩ := (HX1.out.below (Nat.le_refl _) HE1.out).all; obtain ⟨q0, q1, q2, q3, q4, q5, q6⟩ := (HX2.out.below (Nat.le_refl _) HE1.out).all))
  obtain ⟨L, hL⟩ : ∃ L, L = bs.length := ⟨_, rfl⟩
  go_cut [] (fun wx => ∃ sa ca, Box wx (w.heap.size + 1 + 1) d (.slice sa L ca) (.slice (some b2) m2 d2) ∧ Row wx sa L bs ∧ But (fun k => k = w.heap.size + 1 + 1) w1 wx)
  case first =>
    by_cases hm0 : m1 = 0
    · have hb2 : bs = List.replicate n2 1 := by rw [hbs]; unfold countedSh; rw [if_pos (List.length_eq_zero_iff.1 (by rw [hl1]; exact hm0))]
      have hL2 : L = n2 := by rw [hL, hb2]; simp
      have hq : ((m1 : Int) == 0) = true := by simp [hm0]
      have HB2 := hide hb2
      have HL2 := hide hL2
      clear hb2 hL2 hL hbs hm0
      go_wp2_with (go_at_call 63; refine (Repeat_any ⟨w1.heap.size, 0, none⟩ _ n2 1 _ (Row.one w1 1) hn2).mono ?_; rintro e wR ⟨rfl, hR1, hR2⟩; have HR1 := hide hR1; have HR2 := hide (((Below.refl _ w1).alloc (Nat.le_refl _) _).trans (hR2.mono (by simp))); clear hR1 hR2 y0 y1 y2 y3 y4 y5; obtain ⟨y0, y1, y2, y3, y4, y5, y7⟩ := ((HX1.out.below (Nat.le_refl _) HE1.out).below (Nat.le_refl _) HR2.out).all)
      go_meet
      case rel =>
        have hbox := (HX1.out.below (Nat.le_refl _) HE1.out).below (Nat.le_refl _) HR2.out
        refine ⟨some ⟨w1.heap.size + 1, 0, none⟩, n2, ?_, ?_, ?_⟩
        · rw [HL2.out]; exact setS1 hbox _
        · rw [HL2.out, HB2.out]
          have h3 := HR1.out
          rw [World.size_alloc] at h3
          exact (h3.other (p := ⟨w.heap.size + 1 + 1, 1, none⟩) (by have := HE1.out.size; show w1.heap.size + 1 ≠ w.heap.size + 1 + 1; omega) _).row (by simp) (by omega)
        · exact (But.of_below (S := fun k => k = w.heap.size + 1 + 1) HR2.out).setCell (p := ⟨w.heap.size + 1 + 1, 1, none⟩) rfl _
    · have hb2 : bs = sh' := by rw [hbs]; unfold countedSh; rw [if_neg (fun e => hm0 (by rw [← hl1, e]; rfl))]
      have hL2 : L = m1 := by rw [hL, hb2, hl1]
      have hq : ((m1 : Int) == 0) = false := by simp [hm0]
      have HB2 := hide hb2
      have HL2 := hide hL2
      clear hb2 hL2 hL hbs hm0
      go_wp2_with fail
      go_meet
      case rel => exact ⟨some b1, d1, by rw [HL2.out]; exact HX1.out.below (Nat.le_refl _) HE1.out, by rw [HL2.out, HB2.out]; exact K1.out.below (Nat.le_refl _) HE1.out, But.refl _ _⟩
  case rest =>
    obtain ⟨w2, hw2⟩ : ∃ x, x = wc := ⟨_, rfl⟩
    subst hw2
    obtain ⟨sa, ca, hbox, hrow, hbut⟩ := hcut
    clear x0 x1 x2 x3 x4 x5 x6 y0 y1 y2 y3 y4 y5 y6 q0 q1 q2 q3 q4 q5 q6
    have hz1 := HE1.out.size
    have hz2 := hbut.size
    have hb2 : But (fun k => k = w.heap.size + 1 + 1) W0 w2 := ((But.of_below (S := fun k => k = w.heap.size + 1 + 1) HE1.out).trans hbut).mono (by rintro k (h | h) <;> exact h)
    have HY0 : Hid (Box w2 (w.heap.size + 1) c (.slice (some a1) n1 c1) (.slice (some a2) n2 c2)) := (hb2.block _ (by omega) (by omega)).trans HX0.out
    have HY2 : Hid (Box w2 (w.heap.size + 1 + 1 + 1) false (.slice none 0 0) (.slice none 0 0)) := (hb2.block _ (by omega) (by omega)).trans HX2.out
    have HYH : Hid (w2.heap[w.heap.size]? = some (.cells #[] 59 (0, 0))) := (hb2.block _ (by omega) (by omega)).trans HXH.out
    have HB2 : Hid (Below w.heap.size w w2) := HB0.out.trans (hb2.below (by omega) (by rintro k rfl; omega))
    have H22 := hide (hb2.row H2.out (by rintro k rfl h; have := HP2.out _ h; omega))
    have K22 := hide (hb2.row K2.out (by rintro k rfl h; have := HP4.out _ h; omega))
    have hzz : w.heap.size + 4 ≤ w2.heap.size := by omega
    have HY1 := hide hbox
    have HROW := hide hrow
    obtain ⟨bx, hbx⟩ : ∃ bx, bx = w.heap.size + 1 + 1 + 1 := ⟨_, rfl⟩
    rw [← hbx] at HY2 ⊢
    have hwb : w.heap.size + 1 + 1 < bx := by omega
    have hbz : bx < w2.heap.size := by omega
    have hbxl : bx = w.heap.size + 3 := by omega
    have HBXL := hide hbxl
    obtain ⟨x0, x1, x2, x3, x4, x5, x6⟩ := HY0.out.all
    obtain ⟨y0, y1, y2, y3, y4, y5, y6⟩ := HY1.out.all
    obtain ⟨q0, q1, q2, q3, q4, q5, q6⟩ := HY2.out.all
    have hsL := hrow.small
    have HLEN := hide hrow.len
    clear hbxl hbx hbox hrow hbut hb2 HX0 HX1 HX2 HXH HB0 HE1 H1 H2 K1 K2 HW0 HP2 HP4 HRC hz0 hz1 hz2 hbs hL hl1
    by_cases hne : L = n2
    · subst hne
      clear HR5
      go_upto_region 8 with fail
      go_cut [9, 10] (fun v9 v10 wx => Two8 w2 L v9 v10 wx)
      case first =>
        have hmk := run_make_row' (P := Try.prog) 22 3 (.int .i64 0) 8 Try.underlying22 info_int rfl .i64 .i64 L (by omega) (by omega)
        have HKEEP : ∀ wx, Below w2.heap.size w2 wx → wx.cell? ⟨w.heap.size + 1 + 1, 1, none⟩ = some (.slice sa L ca) := fun wx hwx => (hwx.cell (p := ⟨w.heap.size + 1 + 1, 1, none⟩) (by show w.heap.size + 1 + 1 < _; omega)).trans HY1.out.all.2.1
        clear x0 x1 x2 x3 x4 x5 x6 y0 y2 y3 y4 y5 y6 q0 q1 q2 q3 q4 q5 q6
        go_region_held3 (fun wx => wx.cell? ⟨w.heap.size + 1 + 1, 1, none⟩ = some (.slice sa L ca)) (first | (refine HKEEP _ ?_; repeat (first | exact Below.refl _ _ | refine Below.drew ?_ | refine Below.alloc ?_ (by first | exact Nat.le_refl _ | (simp <;> omega)) _ | refine Below.setCell ?_ (by first | exact Nat.le_refl _ | (simp <;> omega)) _))) (fail)
        all_goals go_wp2_with fail
        all_goals (go_meet; case rel => first | exact two8 (a3_2 _ _ _ _) (a3_0 _ _ _ _) (a3_1 _ _ _ _) (by omega) (by omega) (by omega) (a3_b _ _ _ _) | exact two8 (a3_1 _ _ _ _) (a3_0 _ _ _ _) (a3_2 _ _ _ _) (by omega) (by omega) (by omega) (a3_b _ _ _ _) | exact two8 (a3_2 _ _ _ _) (a3_1 _ _ _ _) (a3_0 _ _ _ _) (by omega) (by omega) (by omega) (a3_b _ _ _ _) | exact two8 (a3_1 _ _ _ _) (a3_2 _ _ _ _) (a3_0 _ _ _ _) (by omega) (by omega) (by omega) (a3_b _ _ _ _) | exact two8 (a3_0 _ _ _ _) (a3_1 _ _ _ _) (a3_2 _ _ _ _) (by omega) (by omega) (by omega) (a3_b _ _ _ _) | exact two8 (a3_0 _ _ _ _) (a3_2 _ _ _ _) (a3_1 _ _ _ _) (by omega) (by omega) (by omega) (a3_b _ _ _ _))
      case rest =>
        obtain ⟨w3, hw3⟩ : ∃ x, x = wc := ⟨_, rfl⟩
        subst hw3
        obtain ⟨pf, gf, gs, rfl, rfl, hpf, hgf, hgs, bpf, bgf, bgs, npf, ngf, nps, hbl⟩ := hcut
        clear x0 x1 x2 x3 x4 x5 x6 y0 y1 y2 y3 y4 y5 y6 q0 q1 q2 q3 q4 q5 q6
        obtain ⟨y0, y1, y2, y3, y4, y5, y6⟩ := (HY1.out.below (Nat.le_refl _) hbl).all
        have HPF := hide hpf
        have HGF : Hid (Blk w3 gf (partly S1dropping dt bs L 0)) := by show Blk _ _ _; rw [partly_zero]; exact hgf
        have HGS : Hid (Blk w3 gs (partly Z1dropping dt bs L 0)) := by show Blk _ _ _; rw [partly_zero]; exact hgs
        have HBL := hide hbl
        clear hpf hgf hgs hbl
        have HDB : Hid (∀ k, k < L → -1000000000000000 ≤ dt.getD k 0 ∧ dt.getD k 0 ≤ 1000000000000000) := fun k hk => dataOk_bd hok (by rw [H22.out.len]; exact hk)
        have HSB : Hid (∀ k, 0 ≤ bs.getD k 0 ∧ bs.getD k 0 ≤ 10000) := fun k => HSI.out.cell k
        go_wp2_with fail
        go_loopw [49] (fun i wr => ∃ k : Nat, k ≤ L ∧ i = .int .i64 (k : Nat) ∧ Hid (Blk wr gf (partly S1dropping dt bs L k)) ∧ Hid (Blk wr gs (partly Z1dropping dt bs L k)) ∧ Hid (But (fun x => x = gf ∨ x = gs) w3 wr)) (fun i _ => L - (intOf i).toNat)
        case atStart => exact ⟨0, Nat.zero_le _, rfl, HGF, HGS, hide (But.refl _ _)⟩
        case round =>
          obtain ⟨k, hk, rfl, hf, hs, hbut⟩ := hrel
          by_cases hlt : k < L
          · have hzr := hbut.out.size
            have hz3 := HBL.out.size
            have hNB : ∀ b, b < w2.heap.size → b ≠ gf ∧ b ≠ gs := fun b h => ⟨by omega, by omega⟩
            obtain ⟨bb, ob, hbb, hbl1, cs⟩ := (hbut.out.row (HROW.out.below (Nat.le_refl _) HBL.out) (by rintro x (rfl | rfl) h <;> have := HROW.out.hi h <;> omega)).get hlt
            obtain ⟨ba, oa, hba, hbl2, ck⟩ := (hbut.out.row (H22.out.below (Nat.le_refl _) HBL.out) (by rintro x (rfl | rfl) h <;> have := H22.out.hi h <;> omega)).get hlt
            have hbaw : ba < w2.heap.size := H22.out.hi ⟨by omega, _, hba, rfl⟩
            cases hbb
            cases hba
            obtain ⟨s, hss⟩ : ∃ s, bs.getD k 0 = s := ⟨_, rfl⟩
            obtain ⟨kk, hkk⟩ : ∃ kk, dt.getD k 0 = kk := ⟨_, rfl⟩
            rw [hss] at cs
            rw [hkk] at ck
            have hkb : -1000000000000000 ≤ kk ∧ kk ≤ 1000000000000000 := by rw [← hkk]; exact HDB.out k hlt
            have hsb : 0 ≤ s ∧ s ≤ 10000 := by rw [← hss]; exact HSB.out k
            obtain ⟨S1, hS1⟩ : ∃ S1, S1dropping kk s = S1 := ⟨_, rfl⟩
            obtain ⟨Z1, hZ1⟩ : ∃ Z1, Z1dropping kk s = Z1 := ⟨_, rfl⟩
            have HS1 : Hid (S1dropping (dt.getD k 0) (bs.getD k 0) = S1) := by rw [hkk, hss]; exact hS1
            have HZ1 : Hid (Z1dropping (dt.getD k 0) (bs.getD k 0) = Z1) := by rw [hkk, hss]; exact hZ1
            have HSP : Hid (∀ W, Calls Try.prog 119 #[.agg #[], .int .i64 kk, .int .i64 s] W fun e w' => e = .returned (.tuple #[.int .i64 S1, .int .i64 Z1]) ∧ Below W.heap.size W w') := fun W => by rw [← hS1, ← hZ1]; exact span_dropping kk s W hkb hsb
            have HWR : Hid (∀ b, b < w2.heap.size → wr.heap[b]? = w2.heap[b]?) := fun b hb => (hbut.out.block b (by omega) (by have := hNB b hb; omega)).trans (HBL.out.block b hb)
            have hpfw : pf < wr.heap.size := by have := (Array.getElem?_eq_some_iff.1 HPF.out).1; omega
            have HPFR : Hid (wr.heap[pf]? = some (.cells #[.slice (some ⟨gf, 0, none⟩) L L] 22 (0, 0))) := (hbut.out.block pf (Array.getElem?_eq_some_iff.1 HPF.out).1 (by omega)).trans HPF.out
            have HBXR : Hid (Box wr (w.heap.size + 1) c (.slice (some a1) n1 c1) (.slice (some ⟨ba, oa, none⟩) L c2)) := (HWR.out _ (by omega)).trans HY0.out
            have HHR : Hid (wr.heap[w.heap.size]? = some (.cells #[] 59 (0, 0))) := (HWR.out _ (by omega)).trans HYH.out
            clear hss hkk hS1 hZ1 hNB hkb hsb y0 y1 y2 y3 y4 y5 y6
            go_upto_region 12 with fail
            have HKEEP : ∀ wx, But (fun x => x = gf ∨ x = gs) wr wx → wx.cell? ⟨pf, 0, none⟩ = some (.slice (some ⟨gf, 0, none⟩) L L) ∧ wx.cell? ⟨w.heap.size + 1, 2, none⟩ = some (.slice (some ⟨ba, oa, none⟩) L c2) ∧ wx.cell? ⟨ba, oa + k, none⟩ = some (.int .i64 kk) := fun wx hwx => by
              have h1 := (hwx.block pf hpfw (by omega)).trans HPFR.out
              exact ⟨by simp [World.cell?, h1], (hwx.cellAt (by omega) (by omega)).trans HBXR.out.all.2.2.1, (hwx.cellAt (by omega) (by omega)).trans ck⟩
            obtain ⟨z0, z1, z2⟩ := HKEEP _ (But.refl _ _)
            have hhr := HHR.out
            have hmeth := meth
            go_region_held3 (fun wx => wx.cell? ⟨pf, 0, none⟩ = some (.slice (some ⟨gf, 0, none⟩) L L) ∧ wx.cell? ⟨w.heap.size + 1, 2, none⟩ = some (.slice (some ⟨ba, oa, none⟩) L c2) ∧ wx.cell? ⟨ba, oa + k, none⟩ = some (.int .i64 kk)) (first | exact HKEEP _ (But.refl _ _).drew | exact HKEEP _ (But.of_below HKS.out) | exact HKEEP _ ((But.of_below (S := fun x => x = gf ∨ x = gs) HKS.out).setCell (p := ⟨gf, k, none⟩) (.inl rfl) _) | exact HKEEP _ (((But.of_below (S := fun x => x = gf ∨ x = gs) HKS.out).setCell (p := ⟨gf, k, none⟩) (.inl rfl) _).setCell (p := ⟨gs, k, none⟩) (.inr rfl) _))
              (first
              | (go_at_call 119; go_loud (refine (HSP.out _).mono ?_); rintro e wS ⟨rfl, hbS⟩; have HKS : Hid (Below wr.heap.size wr wS) := (Below.refl _ wr).drew.trans hbS; clear hbS z0 z1 z2 hhr; obtain ⟨z0, z1, z2⟩ := HKEEP _ (But.of_below HKS.out); have cf1 := (hf.out.below (Nat.le_refl _) HKS.out).cell (i := k) (by rw [partly_len]; exact hlt); have cf2 := (hf.out.below (Nat.le_refl _) HKS.out).free k; have cs1 := (hs.out.below (Nat.le_refl _) HKS.out).cell (i := k) (by rw [partly_len]; exact hlt); have cs2 := (hs.out.below (Nat.le_refl _) HKS.out).free k))
            all_goals go_wp2_with fail
            all_goals go_roundw
            case rel =>
              have e1 := ((hf.out.below (Nat.le_refl _) HKS.out).set k S1).other (p := ⟨gs, k, none⟩) (by show gf ≠ gs; omega) (.int .i64 Z1)
              have e2 := ((hs.out.below (Nat.le_refl _) HKS.out).other (p := ⟨gf, k, none⟩) (by show gs ≠ gf; omega) (.int .i64 S1)).set k Z1
              rw [partly_set _ _ _ _ _ _ HS1.out] at e1
              rw [partly_set _ _ _ _ _ _ HZ1.out] at e2
              exact ⟨k + 1, by omega, by go_num, e1, e2, (hbut.out.trans (((But.of_below (S := fun x => x = gf ∨ x = gs) HKS.out).setCell (p := ⟨gf, k, none⟩) (.inl rfl) _).setCell (p := ⟨gs, k, none⟩) (.inr rfl) _)).mono (by rintro x (h | h) <;> exact h)⟩
            case measure => simp [intOf]; omega
          · obtain rfl : k = L := by omega
            clear hlt hk
            have hzr := hbut.out.size
            have hz3 := HBL.out.size
            have HBW : Hid (Below w2.heap.size w2 wr) := HBL.out.trans (hbut.out.below (by omega) (by rintro x (rfl | rfl) <;> omega))
            obtain ⟨zz, hzz'⟩ : ∃ zz, zz = made Z1dropping dt bs k := ⟨_, rfl⟩
            obtain ⟨ss, hss⟩ : ∃ ss, ss = made S1dropping dt bs k := ⟨_, rfl⟩
            have HG : Hid (Blk wr gs zz) := by have h := hs.out; rw [partly_all, ← hzz'] at h; exact h
            have HF : Hid (Blk wr gf ss) := by have h := hf.out; rw [partly_all, ← hss] at h; exact h
            have HZL : Hid (zz.length = k) := by rw [hzz']; exact made_len _ _ _ _
            have HSL : Hid (ss.length = k) := by rw [hss]; exact made_len _ _ _ _
            have HSBD : Hid (∀ i, i < k → -1000000000010000 ≤ ss.getD i 0 ∧ ss.getD i 0 ≤ 1000000000010000) := fun i hi => by rw [hss, made_get _ _ _ _ _ hi]; exact S1dropping_bd (HDB.out i hi) (HSB.out i)
            have HA1 : Hid (Box wr (w.heap.size + 1 + 1) d (.slice sa k ca) (.slice (some b2) m2 d2)) := HY1.out.below (Nat.le_refl _) HBW.out
            have HA2 : Hid (Box wr bx false (.slice none 0 0) (.slice none 0 0)) := HY2.out.below (Nat.le_refl _) HBW.out
            have HPFR : Hid (wr.heap[pf]? = some (.cells #[.slice (some ⟨gf, 0, none⟩) k k] 22 (0, 0))) := (hbut.out.block pf (Array.getElem?_eq_some_iff.1 HPF.out).1 (by omega)).trans HPF.out
            have HRB := hide (HROW.out.below (Nat.le_refl _) HBW.out)
            have HRD := hide (K22.out.below (Nat.le_refl _) HBW.out)
            obtain ⟨z0, z1, z2, z3, z4, z5, z6⟩ := HA1.out.all
            obtain ⟨q0, q1, q2, q3, q4, q5, q6⟩ := HA2.out.all
            rw [← hzz'] at HR7 HRG
            rw [← hss] at HRG
            clear hzz' hss hf hs y0 y1 y2 y3 y4 y5 y6
            cases hsb : shapeB zz with
            | false =>
              have HR := hide (HR7.out HLEN.out hsb)
              have HSBQ := hide hsb
              clear hsb HR7 HRG
              go_wp2_with (go_at_call 43; refine (shapeOk_eq _ _ _ zz _ (HG.out.row HZL.out (by omega)) _ HSBQ).mono ?_; rintro e w5 ⟨rfl, hw⟩; obtain rfl := hw.symm)
              refine bodyPost_ret (v := .tuple #[.agg #[.bool false, .slice none 0 0, .slice none 0 0], .int .i64 7]) (by simp [results, Try.results58, go_sem, q0, q1, q2]) rfl ?_
              rw [HR.out]
              exact gives_none ((((HB2.out.trans (HBW.out.mono (by omega))).setCell (by simp <;> omega) _).setCell (by simp <;> omega) _).setCell (by simp <;> omega) _)
            | true =>
              have HR := hide (HRG.out HLEN.out hsb)
              have HSBQ := hide hsb
              obtain ⟨hzi, hz5⟩ := shapeB_in hsb
              have hcn := shapeB_count hsb
              obtain ⟨N, hN⟩ : ∃ N : Nat, countOf zz = (N : Int) := ⟨(countOf zz).toNat, by omega⟩
              have HPN : Hid (prodAll zz = (N : Int)) := by rw [prodAll_count zz hsb]; exact hN
              have hNb : N ≤ 10000 := by omega
              have HTN : Hid ((countOf zz).toNat = N) := by rw [hN]; exact Int.toNat_natCast N
              have HZI := hide hzi
              have h5 : k ≤ 5 := by rw [← HZL.out]; exact hz5
              clear hsb HR7 HRG hzi hz5 hcn hN
              go_wp2_with (first | (go_at_call 43; refine (shapeOk_eq _ _ _ zz _ (HG.out.row HZL.out (by omega)) _ HSBQ).mono ?_; rintro e w5 ⟨rfl, hw⟩; obtain rfl := hw.symm) | (go_at_call 32; refine (gathered_any d sa (some b2) (some ⟨gs, 0, none⟩) k m2 ca d2 k k bs dt' zz 70 _ eg_cutdropping (cutF ss) _ N HRB.out HRD.out (HG.out.row HZL.out (by omega)) HSI.out HZI.out h5 HPN.out HPB.out (cutClodropping pf k k (some ⟨gf, 0, none⟩) ss zz _ (by simp [World.cell?, HPFR.out]) (HF.out.row HSL.out (by omega)) HSBD.out HZL.out (fun i => (HZI.out.cell i).2))).mono ?_; rintro e wG ⟨gd, rfl, hgd, hBG, hbG⟩; have HKG := hide hbG; have HBG := hide hBG; have HGD := hide hgd; clear hgd hBG hbG z0 z1 z2 z3 z4 z5 q0 q1 q2 q3 q4 q5 q6; obtain ⟨q0, q1, q2, q3, q4, q5, q6⟩ := (HA2.out.below (Nat.le_refl _) HKG.out).all))
              have hGl := HG.out.lt
              have hzG := HKG.out.size
              have hres := Res5.set (w := w) (d := d) (zs := zz) (n := k) (N := N) (csh := k) (ash := some ⟨gs, 0, none⟩) (HA2.out.below (Nat.le_refl _) HKG.out) (((HG.out.below (Nat.le_refl _) HKG.out).own HZL.out (by omega) (by omega))) (by have := HGD.out; omega) HBG.out (fun h => by have := at_eq h; have := HGD.out; omega) ((HB2.out.trans (HBW.out.mono (by omega))).trans (HKG.out.mono (by omega))) (fun h => by have := at_eq h; omega) (by have := HGD.out; omega) (by omega)
              obtain ⟨ash', csh', gd', hb, hO', hgd', hB', hne', hbl'⟩ := hres
              obtain ⟨r0, r1, r2, r3, r4, r5, r6⟩ := hb.all
              refine bodyPost_ret (v := .tuple #[.agg #[.bool d, .slice ash' k csh', .slice (some ⟨gd', 0, none⟩) N N], .int .i64 0]) (by simp [results, Try.results58, go_sem, r0, r1, r2]) rfl ?_
              rw [HR.out, HTN.out]
              exact gives_res (by simp [vals]) (by omega) hO' hgd' hB' hne' hbl'
    · have HR := hide (HR5.out (by rw [HLEN.out]; exact hne))
      have hq : ((n2 : Int) != (L : Int)) = true := by simp; omega
      go_wp2_with fail
      refine bodyPost_ret (v := .tuple #[.agg #[.bool false, .slice none 0 0, .slice none 0 0], .int .i64 5]) (by simp [results, Try.results58, go_sem, q0, q1, q2]) rfl ?_
      rw [HR.out]
      exact gives_none (((HB2.out.setCell (by simp <;> omega) _).setCell (by simp <;> omega) _).setCell (by simp <;> omega) _)

end Cutdropping

end Go.Proofs.Ytmikkameameebaa
namespace Go.Proofs.Ytmikkameameebaa
open Go.RowKit

theorem codeList_bad1' {c d : Bool} {sh dt sh' dt' : List Int} (h : arrOk c sh dt = false) : codeList c d sh dt sh' dt' = 3 := by unfold codeList; rw [if_neg (by simp [h])]
theorem codeList_bad2' {c d : Bool} {sh dt sh' dt' : List Int} (h : arrOk d sh' dt' = false) : codeList c d sh dt sh' dt' = 3 := by unfold codeList; rw [if_neg (by simp [h])]
theorem codeList_ok' {c d : Bool} {sh dt sh' dt' : List Int} (h : arrOk c sh dt = true) (h' : arrOk d sh' dt' = true) : codeList c d sh dt sh' dt' = listCode c sh.length := by unfold codeList; rw [if_pos ⟨h, h'⟩]

section
variable {lim : Bool} {Z S : List Int → List Int → List Int} {c d : Bool} {sh dt sh' dt' : List Int}

theorem cut_5 (h1 : arrOk c sh dt = true) (h2 : arrOk d sh' dt' = true) (h0 : listCode c sh.length = 0) (h : (countedSh dt.length sh').length ≠ dt.length) : window lim Z S c d sh dt sh' dt' = noAns 5 := by
  refine window_code' h1 h2 5 ?_ (by omega)
  rw [counted_go h0]
  unfold countedSh at h
  by_cases e : sh' = []
  · rw [if_pos e] at h; simp at h
  · rw [if_neg e] at h
    rw [if_neg (fun h => e (List.length_eq_zero_iff.1 h)), if_pos (fun h' => h h'.symm)]

theorem cut_count (h0 : listCode c sh.length = 0) (h : (countedSh dt.length sh').length = dt.length) (h5 : dt.length ≤ 5) : countedCode c sh.length dt.length sh'.length = 0 := by
  rw [counted_go h0]
  unfold countedSh at h
  by_cases e : sh' = []
  · subst e; rw [if_pos (show ([] : List Int).length = 0 from rfl), if_neg (by omega)]
  · rw [if_neg e] at h
    rw [if_neg (fun h => e (List.length_eq_zero_iff.1 h)), if_neg (by omega)]

/-- Too many axes: only a scalar can have got them. -/
theorem cut_long (h1 : arrOk c sh dt = true) (h2 : arrOk d sh' dt' = true) (h0 : listCode c sh.length = 0) (h : (countedSh dt.length sh').length = dt.length) (h5 : 5 < dt.length) : window lim Z S c d sh dt sh' dt' = noAns 7 := by
  refine window_code' h1 h2 7 ?_ (by omega)
  rw [counted_go h0]
  unfold countedSh at h
  by_cases e : sh' = []
  · subst e; rw [if_pos (show ([] : List Int).length = 0 from rfl), if_pos h5]
  · rw [if_neg e] at h
    have := (shapeIn_of h2).2.2
    omega

theorem cut_go (h1 : arrOk c sh dt = true) (h2 : arrOk d sh' dt' = true) (h0 : listCode c sh.length = 0) (h : (countedSh dt.length sh').length = dt.length) (hz : shapeB (Z (countedSh dt.length sh') dt) = true) (hl : (Z (countedSh dt.length sh') dt).length = dt.length) :
    window lim Z S c d sh dt sh' dt' = ⟨d, Z (countedSh dt.length sh') dt, vals (gatherAt d (countedSh dt.length sh') dt' (cutF (S (countedSh dt.length sh') dt)) (Z (countedSh dt.length sh') dt)) (countOf (Z (countedSh dt.length sh') dt)).toNat, 0⟩ := by
  have h5 := (shapeB_in hz).2
  rw [hl] at h5
  have hc := shapeB_count hz
  rw [window_go h1 h2 (cut_count h0 h h5) (fun _ => hz) (countOf (Z (countedSh dt.length sh') dt)).toNat (by omega), cut_vals (by rw [hl, h])]
end

theorem drop_fits {d : Bool} {dt sh' dt' : List Int} (h2 : arrOk d sh' dt' = true) (h : (countedSh dt.length sh').length = dt.length) (h5 : dt.length ≤ 5) : shapeB (dropZ (countedSh dt.length sh') dt) = true := by
  have hin : ShapeIn (countedSh dt.length sh') := by unfold countedSh; split; exact (ones_in _).1; exact (shapeIn_of h2).1
  refine shapeB_of (shape_less hin (by rw [dropZ_len, h]) ?_) (by rw [dropZ_len]; exact h5)
  intro k hk
  have hc := hin.cell k
  rw [dropZ_get _ _ _ (by omega)]
  have ha : 0 ≤ absI (dt.getD k 0) := by unfold absI; split <;> omega
  split <;> omega

end Go.Proofs.Ytmikkameameebaa
namespace Go.Proofs.Ytmikkameameebaa
open Go.RowKit

theorem cut_dropping (c d : Bool) (a1 a2 b1 b2 : Addr) (n1 n2 m1 m2 c1 c2 d1 d2 : Nat) (sh dt sh' dt' : List Int) (w : World) (h1 : Row w (some a1) n1 sh) (h2 : Row w (some a2) n2 dt) (k1 : Row w (some b1) m1 sh') (k2 : Row w (some b2) m2 dt') :
    Calls Try.prog 58 #[.agg #[], .agg #[.bool c, .slice (some a1) n1 c1, .slice (some a2) n2 c2], .agg #[.bool d, .slice (some b1) m1 d1, .slice (some b2) m2 d2]] w (GivesOwn w (drop c d sh dt sh' dt')) := by
  unfold drop
  cases hok : arrOk c sh dt with
  | false => rw [window_bad1 hok]; exact Cutdropping.code c d a1 a2 b1 b2 n1 n2 m1 m2 c1 c2 d1 d2 sh dt sh' dt' w h1 h2 k1 k2 3 (codeList_bad1' hok) (by omega)
  | true =>
    cases hok' : arrOk d sh' dt' with
    | false => rw [window_bad2 hok']; exact Cutdropping.code c d a1 a2 b1 b2 n1 n2 m1 m2 c1 c2 d1 d2 sh dt sh' dt' w h1 h2 k1 k2 3 (codeList_bad2' hok') (by omega)
    | true =>
      have hcl := codeList_ok' hok hok'
      by_cases h0 : listCode c sh.length = 0
      · rw [h0] at hcl
        have hl := h2.len
        subst hl
        refine Cutdropping.rest c d a1 a2 b1 b2 n1 dt.length m1 m2 c1 c2 d1 d2 sh dt sh' dt' w h1 h2 k1 k2 hcl hok hok' _ rfl _ (fun h => cut_5 hok hok' h0 h) (fun h hz => ?_) (fun h hz => ?_)
        · show window false dropZ (fun _ => dropSt) c d sh dt sh' dt' = _
          by_cases h5 : dt.length ≤ 5
          · have := drop_fits hok' h h5
            rw [drop_z] at this
            rw [this] at hz
            cases hz
          · exact cut_long hok hok' h0 h (by omega)
        · have hz' : shapeB (dropZ (countedSh dt.length sh') dt) = true := hz
          rw [cut_go hok hok' h0 h hz' (dropZ_len _ dt), ← drop_z, ← drop_st]
      · rw [window_code' hok hok' _ (counted_list rfl h0) h0]
        exact Cutdropping.code c d a1 a2 b1 b2 n1 n2 m1 m2 c1 c2 d1 d2 sh dt sh' dt' w h1 h2 k1 k2 _ hcl h0

end Go.Proofs.Ytmikkameameebaa
namespace Go.Proofs.Ytmikkameameebaa
open Go.RowKit

set_option maxRecDepth 20000 in
set_option maxHeartbeats 2000000 in
theorem implDrop_any (c d : Bool) (a1 a2 b1 b2 : Addr) (n1 n2 m1 m2 c1 c2 d1 d2 : Nat) (sh dt sh' dt' : List Int) (w : World) (h1 : Row w (some a1) n1 sh) (h2 : Row w (some a2) n2 dt) (k1 : Row w (some b1) m1 sh') (k2 : Row w (some b2) m2 dt') :
    Calls Try.prog 20 #[.agg #[.bool c, .slice (some a1) n1 c1, .slice (some a2) n2 c2], .agg #[.bool d, .slice (some b1) m1 d1, .slice (some b2) m2 d2]] w (GivesOwn w (drop c d sh dt sh' dt')) := by
  obtain ⟨R, hR⟩ : ∃ R, drop c d sh dt sh' dt' = R := ⟨_, rfl⟩
  have HC : Hid (∀ W, Below w.heap.size w W → Calls Try.prog 58 #[.agg #[], .agg #[.bool c, .slice (some a1) n1 c1, .slice (some a2) n2 c2], .agg #[.bool d, .slice (some b1) m1 d1, .slice (some b2) m2 d2]] W (GivesOwn W R)) := fun W hW => by
    rw [← hR]
    exact cut_dropping c d a1 a2 b1 b2 n1 n2 m1 m2 c1 c2 d1 d2 sh dt sh' dt' W (h1.below (Nat.le_refl _) hW) (h2.below (Nat.le_refl _) hW) (k1.below (Nat.le_refl _) hW) (k2.below (Nat.le_refl _) hW)
  rw [hR]
  clear hR h1 h2 k1 k2
  obtain ⟨W0, hW0⟩ : ∃ W0, W0 = ((w.alloc (.cells #[.bool c, .slice (some a1) n1 c1, .slice (some a2) n2 c2] 26)).alloc (.cells #[.bool d, .slice (some b1) m1 d1, .slice (some b2) m2 d2] 26)).alloc (.cells #[.bool false, .slice none 0 0, .slice none 0 0] 26) := ⟨_, rfl⟩
  have hz0 : W0.heap.size = w.heap.size + 1 + 1 + 1 := by rw [hW0]; simp
  have HB0 : Hid (Below w.heap.size w W0) := by rw [hW0]; exact (((Below.refl _ w).alloc (Nat.le_refl _) _).alloc (by simp) _).alloc (by simp; omega) _
  have HX2 : Hid (Box W0 (w.heap.size + 1 + 1) false (.slice none 0 0) (.slice none 0 0)) := by
    rw [hW0]; exact Cutdropping.boxNew _ _ _ _ _ (by simp)
  have HW0 := hide hW0
  have hzz : w.heap.size + 1 + 1 < W0.heap.size := by omega
  clear hW0 hz0
  obtain ⟨r, rs, rd, rc⟩ := R
  go_enter Try.func20, Try.ntmps20
  go_wp2_with (go_at_call 58; rw [← HW0.out]; refine (HC.out _ HB0.out).mono ?_; rintro e w1 ⟨e1, l1, f1, e2, l2, f2, rfl, hO1, hO2, hap, hb1⟩; have HO1 := hide hO1; have HO2 := hide hO2; have HAP : Hid (Apart e1 l1 e2 l2) := hap; have HB1 := hide hb1; clear hO1 hO2 hap hb1; obtain ⟨q0, q1, q2, q3, q4, q5, q6⟩ := (HX2.out.below (Nat.le_refl _) HB1.out).all)
  have hx := (HX2.out.below (Nat.le_refl _) HB1.out).sets (c' := r) (u1 := .slice e1 l1 f1) (u2 := .slice e2 l2 f2)
  obtain ⟨r0, r1, r2, _, _, _⟩ := hx.all
  refine bodyPost_ret (v := .tuple #[.agg #[.bool r, .slice e1 l1 f1, .slice e2 l2 f2], .int .i64 rc]) (by simp [results, Try.results20, go_sem, r0, r1, r2]) rfl ?_
  have hk1 : ∀ k, At e1 l1 k → k ≠ w.heap.size + 1 + 1 := fun k hk => by have := HO1.out.low hk; omega
  have hk2 : ∀ k, At e2 l2 k → k ≠ w.heap.size + 1 + 1 := fun k hk => by have := HO2.out.low hk; omega
  exact ⟨e1, l1, f1, e2, l2, f2, rfl, (((HO1.out.mono (by omega)).other (q := ⟨w.heap.size + 1 + 1, 0, none⟩) hk1 _).other (q := ⟨w.heap.size + 1 + 1, 1, none⟩) hk1 _).other (q := ⟨w.heap.size + 1 + 1, 2, none⟩) hk1 _, (((HO2.out.mono (by omega)).other (q := ⟨w.heap.size + 1 + 1, 0, none⟩) hk2 _).other (q := ⟨w.heap.size + 1 + 1, 1, none⟩) hk2 _).other (q := ⟨w.heap.size + 1 + 1, 2, none⟩) hk2 _, HAP.out, (((HB0.out.trans (HB1.out.mono (by omega))).setCell (p := ⟨w.heap.size + 1 + 1, 0, none⟩) (by simp; omega) _).setCell (p := ⟨w.heap.size + 1 + 1, 1, none⟩) (by simp; omega) _).setCell (p := ⟨w.heap.size + 1 + 1, 2, none⟩) (by simp; omega) _⟩

end Go.Proofs.Ytmikkameameebaa
