import Derived.Test.YtgjpchnkodnieaaGreatDoorZv10
import Derived.Test.YtgjpchnkodnieaaGreatDoorZv18
import Derived.Test.YtgjpchnkodnieaaGreatDoorZv34
import Derived.Test.YtgjpchnkodnieaaGreatDoorZv16
import Derived.Test.YtgjpchnkodnieaaGreatDoorZv29
import Derived.Deep.AppendLies
import Derived.Deep.DeepCutAuto
namespace Go.Proofs.YtgjpchnkodnieaaGreatDoor
open Go.RowKit
theorem divV (k m : Nat) : ∃ j : Nat, j = k / m ∧ (k : Int).tdiv (m : Int) = (j : Int) ∧ (k : Int) / (m : Int) = (j : Int) := ⟨k / m, rfl, by rw [Int.tdiv_eq_ediv_of_nonneg (by omega)]; rfl, rfl⟩
theorem own_cellV {w : World} {B g n k : Nat} {zs : List Int} (h : Own w B (some ⟨g, 0, none⟩) n zs) (hk : k < n) : w.cell? ⟨g, k, none⟩ = some (.int .i64 (zs.getD k 0)) ∧ w.frozen? ⟨g, k, none⟩ = false := by
  rcases h.at_ with h0 | ⟨g', off', e, _, _, hc, hf⟩
  · omega
  · cases e
    have h1 := hc k hk
    have h2 := hf k hk
    rw [Nat.zero_add] at h1 h2
    exact ⟨h1, h2⟩
structure VL (V : World) (B g1 n1 c1 g2 n2 c2 : Nat) : Prop where
  o1 : ∃ sh, OwnR V B (some ⟨g1, 0, none⟩) n1 c1 sh
  o2 : ∃ st, OwnR V B (some ⟨g2, 0, none⟩) n2 c2 st
  ne : g1 ≠ g2
theorem bo_eq {g k : Nat} (h : Bo (some ⟨g, 0, none⟩) k) : g = k := by obtain ⟨p, hp, rfl⟩ := h; cases hp; rfl
section
variable {V V' : World} {B C g1 n1 c1 g2 n2 c2 : Nat}
theorem VL.l1 (h : VL V B g1 n1 c1 g2 n2 c2) : B ≤ g1 ∧ g1 < V.heap.size := by obtain ⟨s, hs⟩ := h.o1; exact hs.room.lt ⟨_, rfl, rfl⟩
theorem VL.l2 (h : VL V B g1 n1 c1 g2 n2 c2) : B ≤ g2 ∧ g2 < V.heap.size := by obtain ⟨s, hs⟩ := h.o2; exact hs.room.lt ⟨_, rfl, rfl⟩
theorem VL.below (h : VL V B g1 n1 c1 g2 n2 c2) (hC : V.heap.size ≤ C) (hb : Below C V V') : VL V' B g1 n1 c1 g2 n2 c2 := by
  obtain ⟨s, hs⟩ := h.o1
  obtain ⟨t, ht⟩ := h.o2
  exact ⟨⟨s, hs.below hC hb⟩, ⟨t, ht.below hC hb⟩, h.ne⟩
theorem VL.mono (h : VL V B g1 n1 c1 g2 n2 c2) (hC : C ≤ B) : VL V C g1 n1 c1 g2 n2 c2 := by
  obtain ⟨s, hs⟩ := h.o1
  obtain ⟨t, ht⟩ := h.o2
  exact ⟨⟨s, hs.mono hC⟩, ⟨t, ht.mono hC⟩, h.ne⟩
theorem VL.but {g : Nat} (h : VL V B g1 n1 c1 g2 n2 c2) (hb : But (fun x => x = g) V V') (h1 : g1 ≠ g) (h2 : g2 ≠ g) : VL V' B g1 n1 c1 g2 n2 c2 := by
  obtain ⟨s, hs⟩ := h.o1
  obtain ⟨t, ht⟩ := h.o2
  exact ⟨⟨s, hs.but hb (fun e => h1 (bo_eq e))⟩, ⟨t, ht.but hb (fun e => h2 (bo_eq e))⟩, h.ne⟩
theorem VL.nebox {p : Nat} {x : Int} {v1 v2 : Value} (h : VL V B g1 n1 c1 g2 n2 c2) (hx : VBox V p x v1 v2) : g1 ≠ p ∧ g2 ≠ p := by
  obtain ⟨s, hs⟩ := h.o1
  obtain ⟨t, ht⟩ := h.o2
  exact ⟨fun e => hs.room.nebox hx ⟨_, rfl, e⟩, fun e => ht.room.nebox hx ⟨_, rfl, e⟩⟩
end
structure VW (w : World) (pr p5 : Nat) (c : Int) (g1 n1 c1 g2 n2 c2 : Nat) (V : World) : Prop where
  b0 : VBox V w.heap.size 0 (.slice none 0 0) (.slice none 0 0)
  b5 : VBox V p5 c (.slice (some ⟨g1, 0, none⟩) n1 c1) (.slice (some ⟨g2, 0, none⟩) n2 c2)
  vl : VL V w.heap.size g1 n1 c1 g2 n2 c2
  rd : RdOk V pr
  but : But (fun x => x = pr) w V
  hp : pr < w.heap.size
  h5 : w.heap.size < p5
section
variable {w V V' : World} {pr p5 : Nat} {c : Int} {g1 n1 c1 g2 n2 c2 : Nat}
theorem VW.next (h : VW w pr p5 c g1 n1 c1 g2 n2 c2 V) (hb : But (fun x => x = pr) V V') (hr : RdOk V' pr) : VW w pr p5 c g1 n1 c1 g2 n2 c2 V' := by
  have e1 := h.hp
  have e2 := h.h5
  have l1 := h.vl.l1
  have l2 := h.vl.l2
  exact ⟨h.b0.but hb (by show ¬ _ = _; omega), h.b5.but hb (by show ¬ _ = _; omega), h.vl.but hb (by omega) (by omega), hr, (h.but.trans hb).mono (by rintro x (h | h) <;> exact h), e1, e2⟩
theorem VW.below (h : VW w pr p5 c g1 n1 c1 g2 n2 c2 V) (hb : Below V.heap.size V V') : VW w pr p5 c g1 n1 c1 g2 n2 c2 V' := h.next (But.of_below hb) (h.rd.below hb)
theorem VW.other {g : Nat} (h : VW w pr p5 c g1 n1 c1 g2 n2 c2 V) (hb : But (fun x => x = g) V V') (h0 : w.heap.size < g) (hg5 : g ≠ p5) (hg1 : g1 ≠ g) (hg2 : g2 ≠ g) : VW w pr p5 c g1 n1 c1 g2 n2 c2 V' := by
  have e1 := h.hp
  have hbt : But (fun x => x = pr) w V' := ⟨hb.os.trans h.but.os, hb.tape.trans h.but.tape, hb.output.trans h.but.output, Nat.le_trans h.but.size hb.size, fun k hk hn => (hb.block k (Nat.lt_of_lt_of_le hk h.but.size) (fun e => by have e' : k = g := e; omega)).trans (h.but.block k hk hn)⟩
  exact ⟨h.b0.but hb (by show ¬ _ = _; omega), h.b5.but hb (by show ¬ p5 = g; omega), h.vl.but hb hg1 hg2, h.rd.but hb (by rintro k rfl; omega), hbt, e1, h.h5⟩
theorem VW.sets {c' : Int} {g3 n3 c3 g4 n4 c4 : Nat} (h : VW w pr p5 c g1 n1 c1 g2 n2 c2 V) (hv : VL V w.heap.size g3 n3 c3 g4 n4 c4) : VW w pr p5 c' g3 n3 c3 g4 n4 c4 (((V.setCell ⟨p5, 0, none⟩ (.int .i64 c')).setCell ⟨p5, 1, none⟩ (.slice (some ⟨g3, 0, none⟩) n3 c3)).setCell ⟨p5, 2, none⟩ (.slice (some ⟨g4, 0, none⟩) n4 c4)) := by
  have e1 := h.hp
  have e2 := h.h5
  have hb : But (fun x => x = p5) V (((V.setCell ⟨p5, 0, none⟩ (.int .i64 c')).setCell ⟨p5, 1, none⟩ (.slice (some ⟨g3, 0, none⟩) n3 c3)).setCell ⟨p5, 2, none⟩ (.slice (some ⟨g4, 0, none⟩) n4 c4)) := (((But.refl (fun x => x = p5) V).setCell (p := ⟨p5, 0, none⟩) rfl _).setCell (p := ⟨p5, 1, none⟩) rfl _).setCell (p := ⟨p5, 2, none⟩) rfl _
  have hne := hv.nebox h.b5
  have hbt : But (fun x => x = pr) w (((V.setCell ⟨p5, 0, none⟩ (.int .i64 c')).setCell ⟨p5, 1, none⟩ (.slice (some ⟨g3, 0, none⟩) n3 c3)).setCell ⟨p5, 2, none⟩ (.slice (some ⟨g4, 0, none⟩) n4 c4)) := ⟨hb.os.trans h.but.os, hb.tape.trans h.but.tape, hb.output.trans h.but.output, Nat.le_trans h.but.size hb.size, fun k hk hn => (hb.block k (Nat.lt_of_lt_of_le hk h.but.size) (fun e => by have e' : k = p5 := e; omega)).trans (h.but.block k hk hn)⟩
  exact ⟨h.b0.but hb (by show ¬ _ = _; omega), h.b5.sets, hv.but hb hne.1 hne.2, h.rd.but hb (by rintro k rfl; omega), hbt, e1, e2⟩
theorem VW.off (h : VW w pr p5 c g1 n1 c1 g2 n2 c2 V) (x : Int) : VW w pr p5 x g1 n1 c1 g2 n2 c2 (V.setCell ⟨p5, 0, none⟩ (.int .i64 x)) := by
  have e1 := h.hp
  have e2 := h.h5
  have hb : But (fun x => x = p5) V (V.setCell ⟨p5, 0, none⟩ (.int .i64 x)) := (But.refl (fun x => x = p5) V).setCell (p := ⟨p5, 0, none⟩) rfl _
  have hne := h.vl.nebox h.b5
  have hbt : But (fun x => x = pr) w (V.setCell ⟨p5, 0, none⟩ (.int .i64 x)) := ⟨hb.os.trans h.but.os, hb.tape.trans h.but.tape, hb.output.trans h.but.output, Nat.le_trans h.but.size hb.size, fun k hk hn => (hb.block k (Nat.lt_of_lt_of_le hk h.but.size) (fun e => by have e' : k = p5 := e; omega)).trans (h.but.block k hk hn)⟩
  exact ⟨h.b0.but hb (by show ¬ _ = _; omega), h.b5.set0 x, h.vl.but hb hne.1 hne.2, h.rd.but hb (by rintro k rfl; omega), hbt, e1, e2⟩
theorem VW.first (h : VW w pr p5 c g1 n1 c1 g2 n2 c2 V) (hn : 0 < n2) (x : Int) : VW w pr p5 c g1 n1 c1 g2 n2 c2 (V.setCell ⟨g2, 0, none⟩ (.int .i64 x)) := by
  have e1 := h.hp
  have l2 := h.vl.l2
  have hne := h.vl.nebox h.b5
  have hne0 := h.vl.nebox h.b0
  have hb : But (fun y => y = g2) V (V.setCell ⟨g2, 0, none⟩ (.int .i64 x)) := (But.refl (fun y => y = g2) V).setCell (p := ⟨g2, 0, none⟩) rfl _
  have hbt : But (fun x => x = pr) w (V.setCell ⟨g2, 0, none⟩ (.int .i64 x)) := ⟨hb.os.trans h.but.os, hb.tape.trans h.but.tape, hb.output.trans h.but.output, Nat.le_trans h.but.size hb.size, fun k hk hn => (hb.block k (Nat.lt_of_lt_of_le hk h.but.size) (fun e => by have e' : k = g2 := e; omega)).trans (h.but.block k hk hn)⟩
  obtain ⟨s, hs⟩ := h.vl.o1
  obtain ⟨t, ht⟩ := h.vl.o2
  exact ⟨h.b0.but hb (by show ¬ _ = _; omega), h.b5.but hb (by show ¬ p5 = g2; omega), ⟨⟨s, hs.but hb (fun e => h.vl.ne (bo_eq e))⟩, ⟨_, ht.set hn x⟩, h.vl.ne⟩, h.rd.but hb (by rintro k rfl; omega), hbt, e1, h.h5⟩
theorem vbox_set1 {p : Nat} {x : Int} {v1 v2 : Value} (h : VBox V p x v1 v2) (v : Value) : VBox (V.setCell ⟨p, 1, none⟩ v) p x v v2 := by
  unfold VBox at h ⊢
  rw [heap_setCell_same V p 1 _ _ _ h]
  simp
theorem VW.push2 {x : Int} {o : Obj} {g' cap' H : Nat} {t : List Int} (h : VW w pr p5 c g1 n1 c1 g2 n2 c2 V) (hn : n2 ≤ 6) (hown : V'.ownsRow w.heap.size 3 1 (.slice (some ⟨g', 0, none⟩) (n2 + 1) cap') (n2 + 1) (t.map (Value.int .i64) ++ [.int .i64 x])) (hg : (V.alloc o).grownBy V' (Value.ownBlock (.slice (some ⟨g2, 0, none⟩) n2 c2))) (hat : Value.ownBlock (.slice (some ⟨g2, 0, none⟩) n2 c2) = some g' ∨ g' = H) (hH : V.heap.size < H) :
    VBox V' p5 c (.slice (some ⟨g1, 0, none⟩) n1 c1) (.slice (some ⟨g2, 0, none⟩) n2 c2) ∧ VW w pr p5 c g1 n1 c1 g' (n2 + 1) cap' (V'.setCell ⟨p5, 2, none⟩ (.slice (some ⟨g', 0, none⟩) (n2 + 1) cap')) := by
  have e1 := h.hp
  have e2 := h.h5
  have l1 := h.vl.l1
  have l2 := h.vl.l2
  have lt5 := h.b5.lt
  have hne := h.vl.nebox h.b5
  have hne0 := h.vl.nebox h.b0
  have hnn := h.vl.ne
  have hb : But (fun y => y = g2) V V' := but_grown (show (V.alloc o).grownBy V' (some g2) from hg)
  have hg' : g' = g2 ∨ g' = H := by rcases hat with h | h; (· have := Option.some.inj (show some g2 = some g' from h); omega); exact .inr h
  have hs : But (fun y => y = p5) V' (V'.setCell ⟨p5, 2, none⟩ (.slice (some ⟨g', 0, none⟩) (n2 + 1) cap')) := (But.refl (fun y => y = p5) V').setCell (p := ⟨p5, 2, none⟩) rfl _
  have hbt : But (fun x => x = pr) w (V'.setCell ⟨p5, 2, none⟩ (.slice (some ⟨g', 0, none⟩) (n2 + 1) cap')) := ⟨hs.os.trans (hb.os.trans h.but.os), hs.tape.trans (hb.tape.trans h.but.tape), hs.output.trans (hb.output.trans h.but.output), Nat.le_trans h.but.size (Nat.le_trans hb.size hs.size), fun k hk hn => (hs.block k (Nat.lt_of_lt_of_le hk (Nat.le_trans h.but.size hb.size)) (fun e => by have e' : k = p5 := e; omega)).trans ((hb.block k (Nat.lt_of_lt_of_le hk h.but.size) (fun e => by have e' : k = g2 := e; omega)).trans (h.but.block k hk hn))⟩
  have hb5 := h.b5.but hb (by show ¬ p5 = g2; omega)
  obtain ⟨s, hs1⟩ := h.vl.o1
  have hO : OwnR V' w.heap.size (some ⟨g', 0, none⟩) (n2 + 1) cap' (t ++ [x]) := OwnR.of_owns (by rw [List.map_append]; exact hown) (by omega)
  exact ⟨hb5, (h.b0.but hb (by show ¬ _ = _; omega)).but hs (by show ¬ _ = _; omega), hb5.set2 _, ⟨⟨s, (hs1.but hb (fun e => hnn (bo_eq e))).but hs (fun e => hne.1 (bo_eq e))⟩, ⟨_, hO.but hs (fun e => by have := bo_eq e; omega)⟩, by omega⟩, (h.rd.but hb (by rintro k rfl; omega)).but hs (by rintro k rfl; omega), hbt, e1, e2⟩
theorem VW.push1 {x : Int} {o : Obj} {g' cap' H : Nat} {t : List Int} (h : VW w pr p5 c g1 n1 c1 g2 n2 c2 V) (hn : n1 ≤ 6) (hown : V'.ownsRow w.heap.size 3 1 (.slice (some ⟨g', 0, none⟩) (n1 + 1) cap') (n1 + 1) (t.map (Value.int .i64) ++ [.int .i64 x])) (hg : (V.alloc o).grownBy V' (Value.ownBlock (.slice (some ⟨g1, 0, none⟩) n1 c1))) (hat : Value.ownBlock (.slice (some ⟨g1, 0, none⟩) n1 c1) = some g' ∨ g' = H) (hH : V.heap.size < H) :
    VBox V' p5 c (.slice (some ⟨g1, 0, none⟩) n1 c1) (.slice (some ⟨g2, 0, none⟩) n2 c2) ∧ VW w pr p5 c g' (n1 + 1) cap' g2 n2 c2 (V'.setCell ⟨p5, 1, none⟩ (.slice (some ⟨g', 0, none⟩) (n1 + 1) cap')) := by
  have e1 := h.hp
  have e2 := h.h5
  have l1 := h.vl.l1
  have l2 := h.vl.l2
  have lt5 := h.b5.lt
  have hne := h.vl.nebox h.b5
  have hne0 := h.vl.nebox h.b0
  have hnn := h.vl.ne
  have hb : But (fun y => y = g1) V V' := but_grown (show (V.alloc o).grownBy V' (some g1) from hg)
  have hg' : g' = g1 ∨ g' = H := by rcases hat with h | h; (· have := Option.some.inj (show some g1 = some g' from h); omega); exact .inr h
  have hs : But (fun y => y = p5) V' (V'.setCell ⟨p5, 1, none⟩ (.slice (some ⟨g', 0, none⟩) (n1 + 1) cap')) := (But.refl (fun y => y = p5) V').setCell (p := ⟨p5, 1, none⟩) rfl _
  have hbt : But (fun x => x = pr) w (V'.setCell ⟨p5, 1, none⟩ (.slice (some ⟨g', 0, none⟩) (n1 + 1) cap')) := ⟨hs.os.trans (hb.os.trans h.but.os), hs.tape.trans (hb.tape.trans h.but.tape), hs.output.trans (hb.output.trans h.but.output), Nat.le_trans h.but.size (Nat.le_trans hb.size hs.size), fun k hk hn => (hs.block k (Nat.lt_of_lt_of_le hk (Nat.le_trans h.but.size hb.size)) (fun e => by have e' : k = p5 := e; omega)).trans ((hb.block k (Nat.lt_of_lt_of_le hk h.but.size) (fun e => by have e' : k = g1 := e; omega)).trans (h.but.block k hk hn))⟩
  have hb5 := h.b5.but hb (by show ¬ p5 = g1; omega)
  obtain ⟨s, hs1⟩ := h.vl.o2
  have hO : OwnR V' w.heap.size (some ⟨g', 0, none⟩) (n1 + 1) cap' (t ++ [x]) := OwnR.of_owns (by rw [List.map_append]; exact hown) (by omega)
  exact ⟨hb5, (h.b0.but hb (by show ¬ _ = _; omega)).but hs (by show ¬ _ = _; omega), vbox_set1 hb5 _, ⟨⟨_, hO.but hs (fun e => by have := bo_eq e; omega)⟩, ⟨s, (hs1.but hb (fun e => hnn (bo_eq e).symm)).but hs (fun e => hne.2 (bo_eq e))⟩, by omega⟩, (h.rd.but hb (by rintro k rfl; omega)).but hs (by rintro k rfl; omega), hbt, e1, e2⟩
end
def Nx (B : Nat) (V : World) (p : Nat) (b : Bool) : Prop := ∃ c a1 m1 d1 a2 m2 d2, VBox V p c (.slice a1 m1 d1) (.slice a2 m2 d2) ∧ (b = true → ∃ g1 g2, a1 = some ⟨g1, 0, none⟩ ∧ a2 = some ⟨g2, 0, none⟩ ∧ VL V B g1 m1 d1 g2 m2 d2 ∧ m1 ≤ 5 ∧ m2 ≤ 5)
theorem but_sets (w : World) (p : Nat) (u0 u1 u2 : Value) : But (fun x => x = p) w (((w.setCell ⟨p, 0, none⟩ u0).setCell ⟨p, 1, none⟩ u1).setCell ⟨p, 2, none⟩ u2) := (((But.refl (fun x => x = p) w).setCell (p := ⟨p, 0, none⟩) rfl _).setCell (p := ⟨p, 1, none⟩) rfl _).setCell (p := ⟨p, 2, none⟩) rfl _
theorem vl_of {V : World} {B m1 d1 m2 d2 n1 n2 : Nat} {b1 b2 : Option Addr} {r1 r2 : List Int} (h : RoomTwo V B b1 m1 d1 b2 m2 d2) (q1 : Row V b1 m1 r1) (q2 : Row V b2 m2 r2) (h1 : r1.length ≤ n1) (h2 : r2.length ≤ n2) (hn1 : n1 ≤ 5) (hn2 : n2 ≤ 5) :
    ∃ g1 g2, b1 = some ⟨g1, 0, none⟩ ∧ b2 = some ⟨g2, 0, none⟩ ∧ VL V B g1 m1 d1 g2 m2 d2 ∧ m1 ≤ 5 ∧ m2 ≤ 5 := by
  have o1 := h.r1.ownR q1
  have o2 := h.r2.ownR q2
  have e1 := q1.len
  have e2 := q2.len
  have hne := h.ne
  obtain ⟨g1, _, rfl, _⟩ := h.r1
  obtain ⟨g2, _, rfl, _⟩ := h.r2
  exact ⟨g1, g2, rfl, rfl, ⟨⟨_, o1⟩, ⟨_, o2⟩, fun e => hne g1 ⟨_, rfl, rfl⟩ ⟨_, rfl, e.symm⟩⟩, by omega, by omega⟩
theorem Nx.below {B p : Nat} {b : Bool} {V V' : World} (h : Nx B V p b) (hb : Below V.heap.size V V') : Nx B V' p b := by
  obtain ⟨c, a1, m1, d1, a2, m2, d2, hx, h2⟩ := h
  refine ⟨c, a1, m1, d1, a2, m2, d2, hx.below (Nat.le_refl _) hb, fun e => ?_⟩
  obtain ⟨g1, g2, h3, h4, h5, h6⟩ := h2 e
  exact ⟨g1, g2, h3, h4, h5.below (Nat.le_refl _) hb, h6⟩
def DrawnV (w : World) (pr : Nat) (e : Ending) (w' : World) : Prop :=
  (∃ c a1 a2 n1 n2 c1 c2 sh st cells, e = .returned (.tuple #[.agg #[.int .i64 c, .slice (some a1) n1 c1, .slice (some a2) n2 c2], .int .i64 cells]) ∧ Own w' w.heap.size (some a1) n1 sh ∧ Own w' w.heap.size (some a2) n2 st ∧ n1 ≤ 6 ∧ n2 ≤ 6) ∧ RdOk w' pr ∧ But (fun x => x = pr) w w'
end Go.Proofs.YtgjpchnkodnieaaGreatDoor
namespace Go.Proofs.YtgjpchnkodnieaaGreatDoor
open Go.RowKit
set_option maxRecDepth 20000 in
set_option maxHeartbeats 8000000 in
theorem l7View_any (pr : Nat) (w : World) (h : RdOk w pr) :
    Calls Tryz.prog 79 #[.pointer (some ⟨pr, 0, none⟩)] w (DrawnV w pr) := by
  obtain ⟨i0, hi, hz0, hz1, hz2⟩ := info_parts info_int
  have hlw := h.lt
  obtain ⟨W, hW⟩ : ∃ W, W = w.alloc (.cells #[.int .i64 0, .slice none 0 0, .slice none 0 0] 46) := ⟨_, rfl⟩
  have X2 : Hid (VBox W w.heap.size 0 (.slice none 0 0) (.slice none 0 0)) := by rw [hW]; exact VBox.new w _ _ _
  have HR : Hid (RdOk W pr) := by rw [hW]; exact h.below ((Below.refl _ _).alloc (Nat.le_refl _) _)
  have HB : Hid (But (fun x => x = pr) w W) := by rw [hW]; exact (But.refl _ _).alloc _
  clear h
  go_enter Tryz.func79, Tryz.ntmps79
  go_wp2_with fail
  rw [← hW]
  clear hW
  refine (next_any pr W (unhide HR)).mono ?_
  rintro e w1 ⟨⟨k, hk, rfl⟩, hr1, hb1⟩
  have X2a := hide ((unhide X2).but hb1 (by show ¬ _ = _; omega))
  have HB1 := hide (((unhide HB).trans hb1).mono (by rintro x (h | h) <;> exact h))
  have HR1 := hide hr1
  clear X2 HR HB hr1 hb1
  go_wp2_with fail
  refine (l3Shape_small pr w1 (unhide HR1)).mono ?_
  rintro e w2 ⟨⟨gz, nz, cz, zs, rfl, hnz, hoz, hsm⟩, hr2, hb2⟩
  have X2b := hide ((unhide X2a).but hb2 (by show ¬ _ = _; omega))
  have HB2 := hide (((unhide HB1).trans hb2).mono (by rintro x (h | h) <;> exact h))
  have HR2 := hide hr2
  obtain ⟨_, _, ev, hoz2⟩ := Own.of_owns hoz (by omega)
  cases ev
  have HROW := hide hoz2.row
  have HSM := hide (shape_small (by rw [hoz2.row.len]; exact hnz) hsm)
  clear X2a HR1 HB1 hr2 hb2 hoz hoz2 hsm
  go_wp2_with fail
  refine (WholeView_room ⟨gz, 0, none⟩ nz cz zs w2 (unhide HROW)).mono ?_
  rintro e w3 (⟨hs, _⟩ | ⟨_, ash, csh, gd, rfl, hO, hgd, hBk, hag, hb3⟩)
  · exact absurd (unhide HSM) (by rw [hs]; simp)
  have hsz2 := (unhide HB2).size
  have hsz3 := hb3.size
  obtain ⟨g1, hg1⟩ : ∃ g1, ash = some ⟨g1, 0, none⟩ := by obtain ⟨g, _, e, _⟩ := hO.room; exact ⟨g, e⟩
  subst hg1
  have hzl : zs.length = nz := (unhide HROW).len
  have HV : Hid (VW w pr w3.heap.size 0 g1 nz csh gd nz nz (w3.alloc (.cells #[.int .i64 0, .slice (some ⟨g1, 0, none⟩) nz csh, .slice (some ⟨gd, 0, none⟩) nz nz] 46))) := by
    have hx := (unhide X2b).lt
    have hal : Below w3.heap.size w3 (w3.alloc (.cells #[.int .i64 0, .slice (some ⟨g1, 0, none⟩) nz csh, .slice (some ⟨gd, 0, none⟩) nz nz] 46)) := (Below.refl _ _).alloc (Nat.le_refl _) _
    have hvl : VL w3 w.heap.size g1 nz csh gd nz nz := ⟨⟨_, hO.mono (by omega)⟩, ⟨_, ⟨hBk.own (by rw [wholeSt_len, hzl]) (by omega) (by omega), Room.of_blk hBk (by rw [wholeSt_len, hzl]) (by omega) (by omega)⟩⟩, fun e => hag ⟨_, rfl, e⟩⟩
    exact ⟨((unhide X2b).below (Nat.le_refl _) hb3).below (Nat.le_refl _) hal, VBox.new w3 _ _ _, hvl.below (Nat.le_refl _) hal, ((unhide HR2).below hb3).below hal, (((unhide HB2).trans (T := fun x => x = pr) (But.of_below (hb3.trans (hal.mono hb3.size)))).mono (by rintro x (h | h) <;> exact h)), hlw, by omega⟩
  clear X2b HB2 HR2 HROW HSM hO hgd hBk hag hb3 hsz2 hsz3 hzl
  go_upto_region 3 with fail
  obtain ⟨p5, hp5⟩ : ∃ p, p = w3.heap.size := ⟨_, rfl⟩
  obtain ⟨V, hV⟩ : ∃ V, V = w3.alloc (.cells #[.int .i64 0, .slice (some ⟨g1, 0, none⟩) nz csh, .slice (some ⟨gd, 0, none⟩) nz nz] 46) := ⟨_, rfl⟩
  rw [← hV, ← hp5] at HV
  rw [← hV, ← hp5]
  clear hV hp5
  obtain ⟨sh0, hsh0⟩ := (unhide HV).vl.o1
  have HS0 := hide hsh0.row
  clear hsh0
  obtain ⟨cn, hcn⟩ : ∃ cn, countOf sh0 = cn := ⟨_, rfl⟩
  have HCN := hide hcn
  have hcb := count_bd sh0
  rw [hcn] at hcb
  clear hcn
  obtain ⟨y0, y1, y2, y3, y4, y5, y6⟩ := (unhide HV).b5.all
  obtain ⟨k3, hk3, q, q'⟩ := modN k 3 (by omega)
  have r1 : (k : Int).tmod 3 = (k3 : Int) := q
  have r1' : (k : Int) % 3 = (k3 : Int) := q'
  clear q q'
  obtain ⟨d3, -, q, q'⟩ := divV k 3
  have r2 : (k : Int).tdiv 3 = (d3 : Int) := q
  have r2' : (k : Int) / 3 = (d3 : Int) := q'
  clear q q'
  obtain ⟨d9, hd9, q, q'⟩ := divV k 9
  have r3 : (k : Int).tdiv 9 = (d9 : Int) := q
  have r3' : (k : Int) / 9 = (d9 : Int) := q'
  clear q q'
  obtain ⟨q4, hq4, q, q'⟩ := modN d9 4 (by omega)
  have r4 : (d9 : Int).tmod 4 = (q4 : Int) := q
  have r4' : (d9 : Int) % 4 = (q4 : Int) := q'
  clear q q' hd9
  obtain ⟨of, hof, q, q'⟩ := modN d3 (k3 + 1) (by omega)
  have r5 : (d3 : Int).tmod ((k3 : Int) + 1) = (of : Int) := q
  have r5' : (d3 : Int) % ((k3 : Int) + 1) = (of : Int) := q'
  clear q q' hof
  have hz1' : ¬ (k3 : Int) + 1 = 0 := by omega
  obtain ⟨ce, hce⟩ : ∃ ce : Int, ce = cn + (k3 : Int) := ⟨_, rfl⟩
  have hceb : -1 ≤ ce ∧ ce ≤ 10010 := by omega
  have hwc : IntKind.i64.wrap (cn + (k3 : Int)) = ce := by rw [← hce, IntKind.wrap_i64]; omega
  have hwk : IntKind.i64.wrap ((k3 : Int) + 1) = (k3 : Int) + 1 := by rw [IntKind.wrap_i64]; omega
  have HV1 := hide ((unhide HV).off (of : Int))
  clear hce hk3
  go_upto_region 5 with (go_at_call 48; refine (l3Count_eq (some ⟨g1, 0, none⟩) nz csh sh0 _ (unhide HS0) cn HCN).mono ?_; rintro e wq ⟨rfl, hw⟩; obtain rfl := hw.symm)
  obtain ⟨V1, hV1⟩ : ∃ V1, V1 = V.setCell ⟨p5, 0, none⟩ (.int .i64 (of : Int)) := ⟨_, rfl⟩
  rw [← hV1] at HV1 ⊢
  clear hV1 HV HS0 HCN y0 y1 y2 y3 y4 y5 y6 r1 r1' r2 r2' r5 r5' hz1' hwc hwk hcb hceb
  go_wp2_with fail
  go_loopw [8] (fun i wr => ∃ (m : Nat) (c : Int) (g1 n1 c1 g2 n2 c2 : Nat), m ≤ q4 ∧ i = .int .i64 (m : Nat) ∧ n1 ≤ 5 ∧ n2 ≤ 5 ∧ Hid (VW w pr p5 c g1 n1 c1 g2 n2 c2 wr)) (fun i _ => q4 - (intOf i).toNat)
  case atStart => exact ⟨0, _, _, _, _, _, _, _, Nat.zero_le _, rfl, hnz, hnz, HV1⟩
  case round =>
    clear HV1
    obtain ⟨m, c, g1, n1, c1, g2, n2, c2, hm, rfl, hn1, hn2, hv⟩ := hrel
    by_cases hlt : m < q4
    · have hmz : (m : Int) < (q4 : Int) := by omega
      have hcn := next_any pr wr (unhide hv).rd
      go_upto_region 9 with (go_at_call 45; refine hcn.mono ?_; rintro e w4 ⟨⟨j, hj, rfl⟩, hr4, hb4⟩; have HV4 := hide ((unhide hv).next hb4 hr4); clear hr4 hb4)
      clear hv hcn
      obtain ⟨sh, hsh⟩ := (unhide HV4).vl.o1
      obtain ⟨st, hst⟩ := (unhide HV4).vl.o2
      have hL1 : sh.length ≤ n1 := by rw [hsh.row.len]; exact Nat.le_refl _
      have hL2 : st.length ≤ n2 := by rw [hst.row.len]; exact Nat.le_refl _
      have HS1 := hide hsh.row
      have HS2 := hide hst.row
      clear hsh hst
      obtain ⟨y0, y1, y2, y3, y4, y5, y6⟩ := (unhide HV4).b5.all
      obtain ⟨j2, hj2, q, q'⟩ := modN j 2 (by omega)
      have t1 : (j : Int).tmod 2 = (j2 : Int) := q
      have t1' : (j : Int) % 2 = (j2 : Int) := q'
      clear q q'
      obtain ⟨j3, hj3, q, q'⟩ := modN j 3 (by omega)
      have t2 : (j : Int).tmod 3 = (j3 : Int) := q
      have t2' : (j : Int) % 3 = (j3 : Int) := q'
      clear q q'
      go_upto_if 52 with (go_at_call 36; refine (FlipView_room c ⟨g1, 0, none⟩ ⟨g2, 0, none⟩ n1 n2 c1 c2 sh st (j3 : Int) w4 (unhide HS1) (unhide HS2)).mono ?_; rintro e w5 ⟨b1, m1, d1, b2, m2, d2, rfl, hr1, hr2, hb5, hrm⟩; have HX : Hid (Nx w.heap.size (w5.alloc (.cells #[.int .i64 (flip c sh st (j3 : Int)).c, .slice b1 m1 d1, .slice b2 m2 d2] 46)) w5.heap.size (flip c sh st (j3 : Int)).code) := ⟨_, _, _, _, _, _, _, VBox.new w5 _ _ _, fun e => by (obtain ⟨q1, q2, q3, q4, q5, q6⟩ := vl_of (hrm e) hr1 hr2 (flip_len c sh st (j3 : Int)).1 (flip_len c sh st (j3 : Int)).2 (by omega) (by omega)); exact ⟨q1, q2, q3, q4, (q5.mono (by have := (unhide HV4).b0.lt; omega)).below (Nat.le_refl _) ((Below.refl _ _).alloc (Nat.le_refl _) _), q6⟩⟩; have HV5 := hide (((unhide HV4).below hb5).below ((Below.refl _ w5).alloc (Nat.le_refl _) (.cells #[.int .i64 (flip c sh st (j3 : Int)).c, .slice b1 m1 d1, .slice b2 m2 d2] 46))); have hsz5 := hb5.size; clear hr1 hr2 hb5 hrm)
      have hp5l := (unhide HV4).b5.lt
      obtain ⟨cf, hcf⟩ : ∃ b, b = (flip c sh st (j3 : Int)).c := ⟨_, rfl⟩
      rw [← hcf] at HX HV5 ⊢
      obtain ⟨U, hU⟩ : ∃ U, U = w5.alloc (.cells #[.int .i64 cf, .slice b1 m1 d1, .slice b2 m2 d2] 46) := ⟨_, rfl⟩
      obtain ⟨p10, hp10⟩ : ∃ p, p = w5.heap.size := ⟨_, rfl⟩
      obtain ⟨bx, hbx⟩ : ∃ b, b = (flip c sh st (j3 : Int)).code := ⟨_, rfl⟩
      rw [← hU, ← hp10, ← hbx] at HX
      rw [← hU] at HV5
      rw [← hU, ← hp10, ← hbx]
      have hne5 : p5 < p10 := by omega
      clear hcf hU hp10 hbx HS1 HS2 hL1 hL2 y0 y1 y2 y3 y4 y5 y6 t2 t2' HV4 hp5l hsz5
      clear sh st w4 w5
      go_cut [11] (fun v wx => ∃ b, v = .bool b ∧ Hid (VW w pr p5 c g1 n1 c1 g2 n2 c2 wx) ∧ Hid (Nx w.heap.size wx p10 b))
      case first => as_aux_lemma =>
        by_cases ej : j2 = 1
        · have g0 : ((j2 : Int) == 1) = true := by simp [ej]
          obtain ⟨sh, hsh⟩ := (unhide HV5).vl.o1
          obtain ⟨st, hst⟩ := (unhide HV5).vl.o2
          have hL1 : sh.length ≤ n1 := by rw [hsh.row.len]; exact Nat.le_refl _
          have hL2 : st.length ≤ n2 := by rw [hst.row.len]; exact Nat.le_refl _
          have HS1 := hide hsh.row
          have HS2 := hide hst.row
          clear hsh hst
          obtain ⟨y0, y1, y2, y3, y4, y5, y6⟩ := (unhide HV5).b5.all
          obtain ⟨cx, a1, l1, e1, a2, l2, e2, hbx, _⟩ := unhide HX
          have HBX := hide hbx
          clear hbx
          obtain ⟨xa, hxa⟩ : ∃ x, (j : Int) / 2 % 3 = x := ⟨_, rfl⟩
          obtain ⟨xb, hxb⟩ : ∃ x, (j : Int) / 6 % 3 = x := ⟨_, rfl⟩
          obtain ⟨xc, hxc⟩ : ∃ x, (j : Int) / 18 % 5 - 2 = x := ⟨_, rfl⟩
          obtain ⟨xd, hxd⟩ : ∃ x, (j : Int) / 90 + 1 = x := ⟨_, rfl⟩
          go_wp2_with (go_at_call 99; refine (PickView_room c ⟨g1, 0, none⟩ ⟨g2, 0, none⟩ n1 n2 c1 c2 sh st xa xb xc xd U (unhide HS1) (unhide HS2)).mono ?_; rintro e w6 ⟨b1, m1, d1, b2, m2, d2, rfl, hr1, hr2, hb6, hrm⟩; have HV6 := hide ((unhide HV5).below hb6); have HBX6 := hide ((unhide HBX).below (Nat.le_refl _) hb6); have hlen := hide (pick_len c sh st xa xb xc xd); have HL := hide (fun e => vl_of (hrm e) hr1 hr2 (unhide hlen).1 (unhide hlen).2 (by omega) (by omega)); have hlo := (unhide HV5).b0.lt; clear hr1 hr2 hb6 hrm y0 y1 y2 y3 y4 y5 y6; obtain ⟨z0, z1, z2, z3, z4, z5, z6⟩ := (unhide HBX6).all)
          go_meet
          case rel =>
            have hne := (unhide HV6).vl.nebox (unhide HBX6)
            have hs5 := (unhide HV6).h5
            refine ⟨_, rfl, hide ((unhide HV6).other (but_sets w6 p10 _ _ _) (by omega) (by omega) hne.1 hne.2), hide ⟨_, _, _, _, _, _, _, (unhide HBX6).sets, fun e => ?_⟩⟩
            obtain ⟨q1, q2, q3, q4, q5, q6⟩ := unhide HL e
            have hnb := q5.nebox (unhide HBX6)
            exact ⟨q1, q2, q3, q4, (q5.mono (by omega)).but (but_sets w6 p10 _ _ _) hnb.1 hnb.2, q6⟩
        · have g0 : ((j2 : Int) == 1) = false := by simp; omega
          go_wp2_with fail
          go_meet
          case rel => exact ⟨_, rfl, HV5, HX⟩
      case rest =>
        obtain ⟨U6, hU6⟩ : ∃ x, x = wc := ⟨_, rfl⟩
        subst hU6
        clear HV5 HX t1 t1'
        obtain ⟨b, rfl, hv6, hx6⟩ := hcut
        cases b with
        | false =>
          go_wp2_with fail
          go_roundw
          case rel => exact ⟨m + 1, c, g1, n1, c1, g2, n2, c2, by omega, by go_num, hn1, hn2, hv6⟩
          case measure => simp [intOf]; omega
        | true =>
          obtain ⟨cx, a1, m1, d1, a2, m2, d2, hbx, hvl⟩ := unhide hx6
          obtain ⟨g3, g4, rfl, rfl, hvl, hm1, hm2⟩ := hvl rfl
          have HV7 := hide ((unhide hv6).sets (c' := cx) hvl)
          obtain ⟨y0, y1, y2, y3, y4, y5, y6⟩ := (unhide hv6).b5.all
          obtain ⟨z0, z1, z2, z3, z4, z5, z6⟩ := hbx.all
          clear hbx hvl hx6 hv6
          go_wp2_with fail
          go_roundw
          case rel => exact ⟨m + 1, cx, g3, m1, d1, g4, m2, d2, by omega, by go_num, hm1, hm2, HV7⟩
          case measure => simp [intOf]; omega
    · have hmz : ¬ (m : Int) < (q4 : Int) := by omega
      go_upto_if 74 with fail
      clear hmz hlt r3 r3' r4 r4'
      go_cut [7] (fun v wx => ∃ (z : Int) (c : Int) (g1 n1 c1 g2 n2 c2 : Nat), v = .int .i64 z ∧ n1 ≤ 6 ∧ n2 ≤ 6 ∧ Hid (VW w pr p5 c g1 n1 c1 g2 n2 c2 wx))
      case first =>
        by_cases hk6 : 236 ≤ k
        · have g0 : decide ((236 : Int) ≤ (k : Int)) = true := by simp; omega
          have hcn := next_any pr wr (unhide hv).rd
          go_upto_region 16 with (go_at_call 45; refine hcn.mono ?_; rintro e w4 ⟨⟨j, hj, rfl⟩, hr4, hb4⟩; have HV4 := hide ((unhide hv).next hb4 hr4); clear hr4 hb4)
          clear hv hcn g0 hk6
          obtain ⟨j5, hj5, q, q'⟩ := modN j 5 (by omega)
          have t1 : (j : Int).tmod 5 = (j5 : Int) := q
          have t1' : (j : Int) % 5 = (j5 : Int) := q'
          clear q q'
          obtain ⟨d5, -, q, q'⟩ := divV j 5
          have t2 : (j : Int).tdiv 5 = (d5 : Int) := q
          have t2' : (j : Int) / 5 = (d5 : Int) := q'
          clear q q'
          obtain ⟨t4, ht4, q, q'⟩ := modN d5 4 (by omega)
          have t3 : (d5 : Int).tmod 4 = (t4 : Int) := q
          have t3' : (d5 : Int) % 4 = (t4 : Int) := q'
          clear q q'
          have ht4z : (t4 : Int) < 4 := by omega
          obtain ⟨y0, y1, y2, y3, y4, y5, y6⟩ := (unhide HV4).b5.all
          by_cases e0 : j5 = 0
          · have g0 : ((j5 : Int) == 0) = true := by simp [e0]
            obtain ⟨x, hx⟩ : ∃ x, x = ([-1, 10000, 10001, 3] : List Int).getD t4 0 := ⟨_, rfl⟩
            have hc : (w4.alloc (.cells #[.int .i64 (-1), .int .i64 10000, .int .i64 10001, .int .i64 3] 3)).cell? ⟨w4.heap.size, t4, none⟩ = some (.int .i64 x) := by
              rw [hx]; exact lits w4 [-1, 10000, 10001, 3] t4 (by simpa using ht4)
            have HV5 := hide ((unhide HV4).off x)
            clear hx e0
            go_wp2_with fail
            go_meet
            case rel => exact ⟨_, x, g1, n1, c1, g2, n2, c2, rfl, by omega, by omega, hide ((unhide HV5).below ((Below.refl _ _).alloc (Nat.le_refl _) _))⟩
          · have g0 : ((j5 : Int) == 0) = false := by simp; omega
            by_cases e1 : j5 = 1
            · have g1' : ((j5 : Int) == 1) = true := by simp [e1]
              by_cases en : 0 < n2
              · have enz : (0 : Int) < (n2 : Int) := by omega
                obtain ⟨x, hx⟩ : ∃ x, x = ([0, 10001, -10000, 7] : List Int).getD t4 0 := ⟨_, rfl⟩
                have hc : ∀ W : World, (W.alloc (.cells #[.int .i64 0, .int .i64 10001, .int .i64 (-10000), .int .i64 7] 3)).cell? ⟨W.heap.size, t4, none⟩ = some (.int .i64 x) := fun W => by
                  rw [hx]; exact lits W [0, 10001, -10000, 7] t4 (by simpa using ht4)
                obtain ⟨st, hst⟩ := (unhide HV4).vl.o2
                obtain ⟨cd0, fd0⟩ := own_cellV hst.own (k := 0) en
                have hgl2 := (unhide HV4).vl.l2.2
                have HKEEP : ∀ wx, But (fun x => x = g2) w4 wx → wx.cell? ⟨p5, 2, none⟩ = some (.slice (some ⟨g2, 0, none⟩) n2 c2) := fun wx hwx => ((unhide HV4).b5.but hwx (fun e => ((unhide HV4).vl.nebox (unhide HV4).b5).2 e.symm)).cells.2.2
                have hc1 := hc w4
                have hc2 := hc w4.drew
                have HRD1 := hide t2'
                have HRT1 := hide t3'
                have HV5 := hide ((unhide HV4).first en x)
                clear hx hc hst e0 e1
                go_upto_region 19 with fail
                have htz0 : (0 : Int) ≤ (t4 : Int) := by omega
                have enz2 : (0 : Int) < (n2 : Int) := by omega
                have hwd : IntKind.i64.wrap (d5 : Int) = (d5 : Int) := by rw [IntKind.wrap_i64]; omega
                go_region
                all_goals go_wp2_with fail
                go_meet
                case rel => exact ⟨_, c, g1, n1, c1, g2, n2, c2, rfl, by omega, by omega, hide ((unhide HV5).below ((Below.refl _ _).alloc (Nat.le_refl _) (.cells #[.int .i64 0, .int .i64 10001, .int .i64 (-10000), .int .i64 7] 3)).drew)⟩
              · have enz : ¬ (0 : Int) < (n2 : Int) := by omega
                have g2' : ((j5 : Int) == 2) = false := by simp; omega
                have g3' : ((j5 : Int) == 3) = false := by simp; omega
                obtain ⟨t6, ht6, q, q'⟩ := modN d5 3 (by omega)
                have t5 : (d5 : Int).tmod 3 = (t6 : Int) := q
                have t5' : (d5 : Int) % 3 = (t6 : Int) := q'
                clear q q' t3 t3' ht4 ht4z
                have ht6z : (t6 : Int) < 3 := by omega
                obtain ⟨x, hx⟩ : ∃ x, x = ([-1, 10001, 0] : List Int).getD t6 0 := ⟨_, rfl⟩
                have hc : (w4.alloc (.cells #[.int .i64 (-1), .int .i64 10001, .int .i64 0] 3)).cell? ⟨w4.heap.size, t6, none⟩ = some (.int .i64 x) := by
                  rw [hx]; exact lits w4 [-1, 10001, 0] t6 (by simpa using ht6)
                have HV5 := hide ((unhide HV4).below ((Below.refl _ _).alloc (Nat.le_refl _) (.cells #[.int .i64 (-1), .int .i64 10001, .int .i64 0] 3)))
                clear hx
                go_wp2_with fail
                go_meet
                case rel => exact ⟨x, c, g1, n1, c1, g2, n2, c2, rfl, by omega, by omega, HV5⟩
            · by_cases e2 : j5 = 2
              · have g1' : ((j5 : Int) == 1) = false := by simp; omega
                have g2' : ((j5 : Int) == 2) = true := by simp [e2]
                obtain ⟨st, hst⟩ := (unhide HV4).vl.o2
                have HO := hide (hst.room.owns hst.row)
                clear hst t2 t2' t3 t3' ht4z
                go_wp2_with (at_builtin; refine wpList_append_lies _ rfl _ _ 23 rfl w.heap.size 3 i0 (.int .i64 0) 1 8 Tryz.underlying23 hi hz0 hz1 hz2 rfl (by decide) _ _ _ rfl (owns_below (unhide HO) (Nat.le_refl _) ((Below.refl _ _).alloc (Nat.le_refl _) _)) ⟨w4.heap.size, 0, none⟩ 1 1 [.int .i64 (1)] rfl rfl (cells_new _ _) (one_one _) (by omega) (by unfold maxLen; omega) (by omega) (by have := (unhide HV4).b0.lt; simp; omega) (w4.heap.size + 1) (by simp) ?_; intro g' cap' w7 hown' hgrow hat hlt7; have HP := hide ((unhide HV4).push2 (by omega) hown' hgrow hat (by omega)); clear hown' hgrow hat hlt7 y0 y1 y2 y3 y4 y5 y6; obtain ⟨y0, y1, y2, y3, y4, y5, y6⟩ := (unhide HP).1.all)
                go_meet
                case rel => exact ⟨_, c, g1, n1, c1, g', n2 + 1, cap', rfl, by omega, by omega, hide (unhide HP).2⟩
              · by_cases e3 : j5 = 3
                · have g1' : ((j5 : Int) == 1) = false := by simp; omega
                  have g2' : ((j5 : Int) == 2) = false := by simp; omega
                  have g3' : ((j5 : Int) == 3) = true := by simp [e3]
                  obtain ⟨sh, hsh⟩ := (unhide HV4).vl.o1
                  have HO := hide (hsh.room.owns hsh.row)
                  clear hsh t2 t2' t3 t3' ht4z
                  go_upto_region 24 with (at_builtin; refine wpList_append_lies _ rfl _ _ 23 rfl w.heap.size 3 i0 (.int .i64 0) 1 8 Tryz.underlying23 hi hz0 hz1 hz2 rfl (by decide) _ _ _ rfl (owns_below (unhide HO) (Nat.le_refl _) ((Below.refl _ _).alloc (Nat.le_refl _) _)) ⟨w4.heap.size, 0, none⟩ 1 1 [.int .i64 (-1)] rfl rfl (cells_new _ _) (one_one _) (by omega) (by unfold maxLen; omega) (by omega) (by have := (unhide HV4).b0.lt; simp; omega) (w4.heap.size + 1) (by simp) ?_; intro g' cap' w7 hown' hgrow hat hlt7; have HP := hide ((unhide HV4).push1 (by omega) hown' hgrow hat (by omega)); clear hown' hgrow hat hlt7 y0 y1 y2 y3 y4 y5 y6; obtain ⟨y0, y1, y2, y3, y4, y5, y6⟩ := (unhide HP).1.all)
                  have HV5 := hide (unhide HP).2
                  clear HP HO y0 y1 y2 y3 y4 y5 y6
                  obtain ⟨w8, hw8⟩ : ∃ x, x = w7.setCell ⟨p5, 1, none⟩ (.slice (some ⟨g', 0, none⟩) (n1 + 1) cap') := ⟨_, rfl⟩
                  rw [← hw8] at HV5 ⊢
                  clear hw8
                  obtain ⟨st, hst⟩ := (unhide HV5).vl.o2
                  have HO := hide (hst.room.owns hst.row)
                  clear hst
                  obtain ⟨y0, y1, y2, y3, y4, y5, y6⟩ := (unhide HV5).b5.all
                  go_wp2_with (at_builtin; refine wpList_append_lies _ rfl _ _ 23 rfl w.heap.size 3 i0 (.int .i64 0) 1 8 Tryz.underlying23 hi hz0 hz1 hz2 rfl (by decide) _ _ _ rfl (owns_below (unhide HO) (Nat.le_refl _) ((Below.refl _ _).alloc (Nat.le_refl _) _)) ⟨w8.heap.size, 0, none⟩ 1 1 [.int .i64 (1)] rfl rfl (cells_new _ _) (one_one _) (by omega) (by unfold maxLen; omega) (by omega) (by have := (unhide HV5).b0.lt; simp; omega) (w8.heap.size + 1) (by simp) ?_; intro g'' cap'' w9 hown' hgrow hat hlt7; have HP := hide ((unhide HV5).push2 (by omega) hown' hgrow hat (by omega)); clear hown' hgrow hat hlt7 y0 y1 y2 y3 y4 y5 y6; obtain ⟨y0, y1, y2, y3, y4, y5, y6⟩ := (unhide HP).1.all)
                  go_meet
                  case rel => exact ⟨_, c, g', n1 + 1, cap', g'', n2 + 1, cap'', rfl, by omega, by omega, hide (unhide HP).2⟩
                · have g1' : ((j5 : Int) == 1) = false := by simp; omega
                  have g2' : ((j5 : Int) == 2) = false := by simp; omega
                  have g3' : ((j5 : Int) == 3) = false := by simp; omega
                  obtain ⟨t6, ht6, q, q'⟩ := modN d5 3 (by omega)
                  have t5 : (d5 : Int).tmod 3 = (t6 : Int) := q
                  have t5' : (d5 : Int) % 3 = (t6 : Int) := q'
                  clear q q' t3 t3' ht4 ht4z
                  have ht6z : (t6 : Int) < 3 := by omega
                  obtain ⟨x, hx⟩ : ∃ x, x = ([-1, 10001, 0] : List Int).getD t6 0 := ⟨_, rfl⟩
                  have hc : (w4.alloc (.cells #[.int .i64 (-1), .int .i64 10001, .int .i64 0] 3)).cell? ⟨w4.heap.size, t6, none⟩ = some (.int .i64 x) := by
                    rw [hx]; exact lits w4 [-1, 10001, 0] t6 (by simpa using ht6)
                  have HV5 := hide ((unhide HV4).below ((Below.refl _ _).alloc (Nat.le_refl _) (.cells #[.int .i64 (-1), .int .i64 10001, .int .i64 0] 3)))
                  clear hx
                  go_wp2_with fail
                  go_meet
                  case rel => exact ⟨x, c, g1, n1, c1, g2, n2, c2, rfl, by omega, by omega, HV5⟩
        · have g0 : decide ((236 : Int) ≤ (k : Int)) = false := by simp; omega
          go_wp2_with fail
          go_meet
          case rel => exact ⟨_, c, g1, n1, c1, g2, n2, c2, rfl, by omega, by omega, hv⟩
      case rest =>
        obtain ⟨U6, hU6⟩ : ∃ x, x = wc := ⟨_, rfl⟩
        subst hU6
        clear hv hm hn1 hn2
        clear c g1 n1 c1 g2 n2 c2
        obtain ⟨z, c, g1, n1, c1, g2, n2, c2, rfl, hn1, hn2, hv⟩ := hcut
        obtain ⟨sh, hsh⟩ := (unhide hv).vl.o1
        obtain ⟨st, hst⟩ := (unhide hv).vl.o2
        have HS1 := hide hsh.own
        have HS2 := hide hst.own
        clear hsh hst
        obtain ⟨y0, y1, y2, y3, y4, y5, y6⟩ := (unhide hv).b5.all
        obtain ⟨q0, q1, q2, q3, q4, q5, q6⟩ := (unhide hv).b0.all
        go_wp2_with fail
        have hb0 := (unhide hv).b0
        obtain ⟨r0, r1, r2, _, _, _⟩ := (hb0.sets (c' := c) (u1 := .slice (some ⟨g1, 0, none⟩) n1 c1) (u2 := .slice (some ⟨g2, 0, none⟩) n2 c2)).all
        have hne := (unhide hv).vl.nebox hb0
        have hp := (unhide hv).hp
        have hb : But (fun x => x = w.heap.size) U6 (((U6.setCell ⟨w.heap.size, 0, none⟩ (.int .i64 c)).setCell ⟨w.heap.size, 1, none⟩ (.slice (some ⟨g1, 0, none⟩) n1 c1)).setCell ⟨w.heap.size, 2, none⟩ (.slice (some ⟨g2, 0, none⟩) n2 c2)) := (((But.refl (fun x => x = w.heap.size) U6).setCell (p := ⟨w.heap.size, 0, none⟩) rfl _).setCell (p := ⟨w.heap.size, 1, none⟩) rfl _).setCell (p := ⟨w.heap.size, 2, none⟩) rfl _
        have hbt : But (fun x => x = pr) w _ := ⟨hb.os.trans (unhide hv).but.os, hb.tape.trans (unhide hv).but.tape, hb.output.trans (unhide hv).but.output, Nat.le_trans (unhide hv).but.size hb.size, fun k hk hn => (hb.block k (Nat.lt_of_lt_of_le hk (unhide hv).but.size) (fun e => by have e' : k = w.heap.size := e; omega)).trans ((unhide hv).but.block k hk hn)⟩
        refine bodyPost_ret (v := .tuple #[.agg #[.int .i64 c, .slice (some ⟨g1, 0, none⟩) n1 c1, .slice (some ⟨g2, 0, none⟩) n2 c2], .int .i64 z]) (by simp [results, Tryz.results79, go_sem, r0, r1, r2]) rfl ?_
        exact ⟨⟨c, _, _, n1, n2, c1, c2, sh, st, z, rfl, hb.own (unhide HS1) (by rintro k rfl hk; exact hne.1 (at_eq hk)), hb.own (unhide HS2) (by rintro k rfl hk; exact hne.2 (at_eq hk)), hn1, hn2⟩, (unhide hv).rd.but hb (by rintro k rfl; omega), hbt⟩
end Go.Proofs.YtgjpchnkodnieaaGreatDoor
