import Derived.Test.YtgjpchnkodnieaaGreatDoorZv05
import Derived.Test.YtgjpchnkodnieaaGreatDoorZv14
import Derived.Test.YtgjpchnkodnieaaGreatDoorZv06
import Derived.Test.YtgjpchnkodnieaaGreatDoorZv15
import Derived.Test.YtgjpchnkodnieaaGreatDoorZv16
import Derived.Test.YtgjpchnkodnieaaGreatDoorZv08
import Derived.Test.YtgjpchnkodnieaaGreatDoorZv11
import Derived.Deep.RegionHeld3
import Derived.Deep.DeepCutAuto
import Derived.Test.YtgjpchnkodnieaaGreatDoorZv03
namespace Go.Proofs.YtgjpchnkodnieaaGreatDoor
theorem turn_no {c : Int} {sh st p : List Int} (h : ¬ (formed c sh st = true ∧ p.length = sh.length ∧ orderOk p sh.length sh.length = true)) : turnVw c sh st p = noView := by unfold turnVw; rw [if_neg h]; rfl
theorem turn_go {c : Int} {sh st p : List Int} (h : formed c sh st = true ∧ p.length = sh.length ∧ orderOk p sh.length sh.length = true) : turnVw c sh st p = ⟨c, turnV p sh sh.length, turnV p st sh.length, true⟩ := by unfold turnVw; rw [if_pos h]
end Go.Proofs.YtgjpchnkodnieaaGreatDoor
namespace Go.Proofs.YtgjpchnkodnieaaGreatDoor
theorem turn_hit (p l : List Int) {r : Nat} (hl : l.length = r) (i q : Nat) (hq : q < r) (h : ∃ j, j < i ∧ axNo p j = q) : (turnN p l r i).getD q 0 = (turnV p l i).getD q 0 := by
  induction i with
  | zero => obtain ⟨j, hj, _⟩ := h; omega
  | succ i ih =>
    show ((turnN p l r i).set (axNo p i) (l.getD i 0)).getD q 0 = ((turnV p l i).set (axNo p i) (l.getD i 0)).getD q 0
    by_cases e : axNo p i = q
    · subst e
      simp [List.getD, turnN_len, turnV_len, hl, hq]
    · have ih' := ih (by
        obtain ⟨j, hj, h2⟩ := h
        exact ⟨j, by rcases Nat.lt_or_ge j i with h3 | h3; exact h3; exact absurd (by rw [show i = j by omega]; exact h2) e, h2⟩)
      simp only [List.getD, List.getElem?_set, if_neg e]
      exact ih'
theorem turn_same {p l : List Int} {r : Nat} (hl : l.length = r) (hp : p.length = r) (h : orderOk p r r = true) : turnN p l r r = turnV p l r := by
  apply List.ext_getElem
  · rw [turnN_len, turnV_len, hl]
  · intro q h1 h2
    rw [turnN_len] at h1
    have hm : q ∈ (List.range r).map (axNo p) := (order_perm h hp).mem_iff.2 (by simpa using h1)
    obtain ⟨j, hj, e⟩ := List.mem_map.mp hm
    have := turn_hit p l hl r q h1 ⟨j, by simpa using hj, e⟩
    rw [getD_eq _ _ (by rw [turnN_len]; exact h1), getD_eq _ _ (by rw [turnV_len, hl]; exact h1)] at this
    exact this
theorem turn_formed {c : Int} {sh st p : List Int} (hf : formed c sh st = true) (hp : p.length = sh.length) (h : orderOk p sh.length sh.length = true) : formed c (turnV p sh sh.length) (turnV p st sh.length) = true := by
  obtain ⟨hsb, hle, hcb, _⟩ := formed_parts hf
  have hst : st.all viewIn = true := by
    unfold formed at hf
    simp only [Bool.and_eq_true] at hf
    exact hf.2.2.2
  have p1 := turn_perm h hp rfl
  have p2 := turn_perm (sh := st) h hp hle
  rw [turn_same rfl hp h] at p1
  rw [turn_same hle hp h] at p2
  have hin := shapeIn_perm p1.symm (shapeB_in hsb).1
  refine formed_yes ?_ (by rw [turnV_len, turnV_len, hle]) (decide_eq_true hcb) ?_
  · obtain ⟨ha, m, hm⟩ := hin
    exact shape_good (n := sh.length) (by rw [turnV_len]) (shapeB_in hsb).2 m ha hm
  · rw [List.all_eq_true]
    exact fun x hx => List.all_eq_true.1 hst x (p2.mem_iff.1 hx)
end Go.Proofs.YtgjpchnkodnieaaGreatDoor
namespace Go.Proofs.YtgjpchnkodnieaaGreatDoor
open Go.RowKit
def GivesCap (w : World) (r : Ans) (e : Ending) (w' : World) : Prop := ∃ b1 m1 d1 b2 m2 d2, e = .returned (.tuple #[.agg #[.bool r.c, .slice b1 m1 d1, .slice b2 m2 d2], .int .i64 r.code]) ∧ Own w' w.heap.size b1 m1 r.sh ∧ Own w' w.heap.size b2 m2 r.dt ∧ Apart b1 m1 b2 m2 ∧ Below w.heap.size w w' ∧ (m1 ≤ d1 ∧ m2 ≤ d2 ∧ (r.code = 0 → ∃ ad, b2 = some ad))
theorem GivesCap.own {w w' : World} {r : Ans} {e : Ending} (h : GivesCap w r e w') : GivesOwn w r e w' := by
  obtain ⟨b1, m1, d1, b2, m2, d2, he, h1, h2, h3, h4, _⟩ := h
  exact ⟨b1, m1, d1, b2, m2, d2, he, h1, h2, h3, h4⟩
theorem cap_none {w w' : World} {code : Int} (hc : code ≠ 0) (h : Below w.heap.size w w') : GivesCap w (noAns code) (.returned (.tuple #[.agg #[.bool false, .slice none 0 0, .slice none 0 0], .int .i64 code])) w' :=
  ⟨none, 0, 0, none, 0, 0, rfl, own_none _ _ _, own_none _ _ _, fun _ h => absurd rfl h.1, h, Nat.le_refl _, Nat.le_refl _, fun e => absurd e hc⟩
theorem Res5.setC {w W : World} {d : Bool} {zs ys : List Int} {n N box gd csh : Nat} {ash : Option Addr} {v1 v2 : Value} {c : Bool} (hb : Box W box c v1 v2) (hO : Own W w.heap.size ash n zs) (hg : w.heap.size ≤ gd) (hB : Blk W gd ys) (hne : ¬ At ash n gd) (hbl : Below w.heap.size w W) (hb1 : ¬ At ash n box) (hb2 : gd ≠ box) (hw : w.heap.size ≤ box) (hc : n ≤ csh) :
    ∃ ash' csh' gd', Box (((W.setCell ⟨box, 0, none⟩ (.bool d)).setCell ⟨box, 1, none⟩ (.slice ash n csh)).setCell ⟨box, 2, none⟩ (.slice (some ⟨gd, 0, none⟩) N N)) box d (.slice ash' n csh') (.slice (some ⟨gd', 0, none⟩) N N) ∧ Own (((W.setCell ⟨box, 0, none⟩ (.bool d)).setCell ⟨box, 1, none⟩ (.slice ash n csh)).setCell ⟨box, 2, none⟩ (.slice (some ⟨gd, 0, none⟩) N N)) w.heap.size ash' n zs ∧ w.heap.size ≤ gd' ∧ Blk (((W.setCell ⟨box, 0, none⟩ (.bool d)).setCell ⟨box, 1, none⟩ (.slice ash n csh)).setCell ⟨box, 2, none⟩ (.slice (some ⟨gd, 0, none⟩) N N)) gd' ys ∧ ¬ At ash' n gd' ∧ Below w.heap.size w (((W.setCell ⟨box, 0, none⟩ (.bool d)).setCell ⟨box, 1, none⟩ (.slice ash n csh)).setCell ⟨box, 2, none⟩ (.slice (some ⟨gd, 0, none⟩) N N)) ∧ n ≤ csh' := by
  have hk : ∀ k, At ash n k → k ≠ box := fun k hk e => hb1 (e ▸ hk)
  exact ⟨ash, csh, gd, hb.sets, ((hO.other (q := ⟨box, 0, none⟩) hk _).other (q := ⟨box, 1, none⟩) hk _).other (q := ⟨box, 2, none⟩) hk _, hg, ((hB.other (p := ⟨box, 0, none⟩) hb2 _).other (p := ⟨box, 1, none⟩) hb2 _).other (p := ⟨box, 2, none⟩) hb2 _, hne, ((hbl.setCell (p := ⟨box, 0, none⟩) hw _).setCell (p := ⟨box, 1, none⟩) hw _).setCell (p := ⟨box, 2, none⟩) hw _, hc⟩
theorem cap_res {w wx : World} {d : Bool} {zs ys : List Int} {n N gd csh : Nat} {ash : Option Addr} (hl : ys.length = N) (hN : N ≤ 17592186044416) (hO : Own wx w.heap.size ash n zs) (hg : w.heap.size ≤ gd) (hB : Blk wx gd ys) (hne : ¬ At ash n gd) (hbl : Below w.heap.size w wx) (hc : n ≤ csh) :
    GivesCap w ⟨d, zs, ys, 0⟩ (.returned (.tuple #[.agg #[.bool d, .slice ash n csh, .slice (some ⟨gd, 0, none⟩) N N], .int .i64 0])) wx :=
  ⟨ash, n, csh, some ⟨gd, 0, none⟩, N, N, rfl, hO, hB.own hl hN hg, fun k h1 h2 => by have := at_eq h2; subst this; exact hne h1, hbl, hc, Nat.le_refl _, fun _ => ⟨_, rfl⟩⟩
end Go.Proofs.YtgjpchnkodnieaaGreatDoor
namespace Go.Proofs.YtgjpchnkodnieaaGreatDoor
open Go.RowKit
structure Stage (w2 : World) (p : Nat) (c : Bool) (ash : Option Addr) (m csh : Nat) (zs : List Int) (f : Nat → Int × Int) (k : Nat) (wr : World) (g cap : Nat) : Prop where
  box : Box wr p c (.slice ash m csh) (.slice (some ⟨g, 0, none⟩) k cap)
  owns : wr.ownsRow w2.heap.size 3 1 (.slice (some ⟨g, 0, none⟩) k cap) k ((vals f k).map (Value.int .i64))
  own : Own wr w2.heap.size ash m zs
  ne : ∀ x, At ash m x → x ≠ g
  low : Below w2.heap.size w2 wr
  code : firstCode f k = 0
  place : w2.heap.size ≤ p
theorem Stage.start {w2 wx : World} {p g : Nat} {c : Bool} {ash : Option Addr} {m csh : Nat} {zs : List Int} (f : Nat → Int × Int) (h1 : Box wx p c (.slice ash m csh) (.slice (some ⟨g, 0, none⟩) 0 0)) (h2 : Blk wx g []) (h3 : Own wx w2.heap.size ash m zs) (h4 : Below w2.heap.size w2 wx) (h7 : w2.heap.size ≤ p) (h5 : w2.heap.size ≤ g) (h6 : ∀ x, At ash m x → x ≠ g) : Stage w2 p c ash m csh zs f 0 wx g 0 :=
  ⟨h1, h2.owns h5, h3, h6, h4, rfl, h7⟩
theorem Stage.below {w2 wr w5 : World} {p g cap k : Nat} {c : Bool} {ash : Option Addr} {m csh : Nat} {zs : List Int} {f : Nat → Int × Int} (h : Stage w2 p c ash m csh zs f k wr g cap) (hb : Below wr.heap.size wr w5) : Stage w2 p c ash m csh zs f k w5 g cap :=
  ⟨h.box.below (Nat.le_refl _) hb, owns_below h.owns (Nat.le_refl _) hb, h.own.below (Nat.le_refl _) hb, h.ne, h.low.trans (hb.mono h.low.size), h.code, h.place⟩
theorem Stage.drew {w2 wr : World} {p g cap k : Nat} {c : Bool} {ash : Option Addr} {m csh : Nat} {zs : List Int} {f : Nat → Int × Int} (h : Stage w2 p c ash m csh zs f k wr g cap) : Stage w2 p c ash m csh zs f k wr.drew g cap := h.below (Below.refl _ _).drew
theorem Stage.push {w2 w5 w6 : World} {p g g' cap cap' k : Nat} {c : Bool} {ash : Option Addr} {m csh : Nat} {zs : List Int} {f : Nat → Int × Int} {r1 : Int} (o : Obj) (h : Stage w2 p c ash m csh zs f k w5 g cap) (hf : f k = (r1, 0))
    (hown : w6.ownsRow w2.heap.size 3 1 (.slice (some ⟨g', 0, none⟩) (k + 1) cap') (k + 1) ((vals f k).map (Value.int .i64) ++ [.int .i64 r1])) (hg : (w5.alloc o).grownBy w6 (Value.ownBlock (.slice (some ⟨g, 0, none⟩) k cap))) (hat : Value.ownBlock (.slice (some ⟨g, 0, none⟩) k cap) = some g' ∨ g' = w5.heap.size + 1) :
    Box w6 p c (.slice ash m csh) (.slice (some ⟨g, 0, none⟩) k cap) ∧ Stage w2 p c ash m csh zs f (k + 1) (w6.setCell ⟨p, 2, none⟩ (.slice (some ⟨g', 0, none⟩) (k + 1) cap')) g' cap' := by
  have hb6 := h.box.grown h.owns o hg
  have hg' : (w5.alloc o).grownBy w6 (some g) := hg
  have ho6 := h.own.grown o hg' h.ne
  have hlow := h.low.trans (below_append o h.owns h.low.size hg)
  have hne' : ∀ x, At ash m x → x ≠ g' := by
    intro x hx
    rcases hat with e | e
    · have e' : g = g' := by simpa [Value.ownBlock] using e
      rw [← e']; exact h.ne x hx
    · have := h.own.row.hi hx; omega
  refine ⟨hb6, hb6.set2 _, ?_, ho6.other (fun x hx => ho6.row.notBox hb6 hx) _, hne', hlow.setCell h.place _, code_step h.code (by rw [hf]), h.place⟩
  · rw [vals_snoc, hf]
    exact owns_box_set hown hb6 _ _
end Go.Proofs.YtgjpchnkodnieaaGreatDoor
namespace Go.Proofs.YtgjpchnkodnieaaGreatDoor
open Go.RowKit
structure VVar (W : World) (p : Nat) (c : Int) (e1 : Option Addr) (k1 f1 : Nat) (e2 : Option Addr) (k2 f2 : Nat) (sh st : List Int) : Prop where
  box : VBox W p c (.slice e1 k1 f1) (.slice e2 k2 f2)
  r1 : Row W e1 k1 sh
  r2 : Row W e2 k2 st
section
variable {W V : World} {p : Nat} {c : Int} {e1 e2 : Option Addr} {k1 f1 k2 f2 : Nat} {sh st : List Int}
theorem VVar.below (h : VVar W p c e1 k1 f1 e2 k2 f2 sh st) (hb : Below W.heap.size W V) : VVar V p c e1 k1 f1 e2 k2 f2 sh st :=
  ⟨h.box.below (Nat.le_refl _) hb, h.r1.below (Nat.le_refl _) hb, h.r2.below (Nat.le_refl _) hb⟩
theorem VVar.cells (h : VVar W p c e1 k1 f1 e2 k2 f2 sh st) : W.cell? ⟨p, 0, none⟩ = some (.int .i64 c) ∧ W.cell? ⟨p, 1, none⟩ = some (.slice e1 k1 f1) ∧ W.cell? ⟨p, 2, none⟩ = some (.slice e2 k2 f2) := h.box.cells
theorem VVar.new (r1 : Row W e1 k1 sh) (r2 : Row W e2 k2 st) : VVar (W.alloc (.cells #[.int .i64 c, .slice e1 k1 f1, .slice e2 k2 f2] 46 (0, 0))) W.heap.size c e1 k1 f1 e2 k2 f2 sh st :=
  ⟨VBox.new W _ _ _, r1.alloc _, r2.alloc _⟩
theorem VVar.but {q : Nat} {x : Bool} {a1 a2 : Option Addr} {l1 l2 m1 m2 : Nat} (h : VVar W p c e1 k1 f1 e2 k2 f2 sh st) (hq : Box W q x (.slice a1 l1 m1) (.slice a2 l2 m2)) (hb : But (fun y => y = q) W V) (hp : ¬ p = q) : VVar V p c e1 k1 f1 e2 k2 f2 sh st :=
  ⟨h.box.but hb hp, hb.row h.r1 (fun _ hx hh => h.r1.notBox hq hh hx), hb.row h.r2 (fun _ hx hh => h.r2.notBox hq hh hx)⟩
end
structure RowL (W : World) (a : Option Addr) (n : Nat) (zs : List Int) : Prop where
  r1 : Row W a n zs
theorem RowL.below {W V : World} {a : Option Addr} {n : Nat} {zs : List Int} (h : RowL W a n zs) (hb : Below W.heap.size W V) : RowL V a n zs := ⟨h.r1.below (Nat.le_refl _) hb⟩
theorem RowL.but {W V : World} {a : Option Addr} {n q : Nat} {zs : List Int} {x : Bool} {a1 a2 : Option Addr} {l1 l2 m1 m2 : Nat} (h : RowL W a n zs) (hq : Box W q x (.slice a1 l1 m1) (.slice a2 l2 m2)) (hb : But (fun y => y = q) W V) : RowL V a n zs := ⟨hb.row h.r1 (fun _ hx hh => h.r1.notBox hq hh hx)⟩
end Go.Proofs.YtgjpchnkodnieaaGreatDoor
namespace Go.Proofs.YtgjpchnkodnieaaGreatDoor
open Go.RowKit
theorem lboxes2 {w w1 : World} {c : Int} {v1 v2 : Value} (hb : Below ((w.alloc (.cells #[.int .i64 c, v1, v2] 46)).alloc (.cells #[.int .i64 0, .int .i64 0, .int .i64 0, .int .i64 0, .int .i64 0, .int .i64 0, .int .i64 0, .int .i64 0, .int .i64 0, .int .i64 0, .int .i64 0, .int .i64 0] 101)).heap.size ((w.alloc (.cells #[.int .i64 c, v1, v2] 46)).alloc (.cells #[.int .i64 0, .int .i64 0, .int .i64 0, .int .i64 0, .int .i64 0, .int .i64 0, .int .i64 0, .int .i64 0, .int .i64 0, .int .i64 0, .int .i64 0, .int .i64 0] 101)) w1) :
    VBox w1 w.heap.size c v1 v2 ∧ LBox w1 (w.heap.size + 1) (fun _ => 0) ∧ Below w.heap.size w w1 := by
  have e : (w.alloc (.cells #[.int .i64 c, v1, v2] 46)).heap.size = w.heap.size + 1 := by simp
  refine ⟨((VBox.new w c v1 v2).alloc _).below (Nat.le_refl _) hb, ?_, (((Below.refl _ _).alloc (Nat.le_refl _) _).alloc (by simp) _).trans (hb.mono (by simp; omega))⟩
  have := (LBox.new (w.alloc (.cells #[.int .i64 c, v1, v2] 46)) (fun _ => 0)).below (Nat.le_refl _) hb
  rwa [e] at this
theorem row_src {w : World} {a : Option Addr} {n : Nat} {zs : List Int} (h : Row w a n zs) : 0 < (zs.map (Value.int .i64)).length → ∃ ad, a = some ad ∧ ∀ j v, (zs.map (Value.int .i64))[j]? = some v → w.cell? (ad.add j) = some v := by
  intro hl
  rw [List.length_map, h.len] at hl
  obtain ⟨b, off, rfl, _, _⟩ := h.get hl
  exact ⟨_, rfl, cells_ints h⟩
theorem fl_zero (c : Int) (n i : Nat) : (if i = 0 then c else if i = 1 then (n : Int) else 0) = fl c (List.replicate n 0) [] i := by
  unfold fl
  by_cases h0 : i = 0
  · simp [h0]
  · by_cases h1 : i = 1
    · simp [h1]
    · rw [if_neg h0, if_neg h1, if_neg h0, if_neg h1]
      split
      · by_cases hk : i - 2 < n
        · simp [List.getD, hk]
        · rw [getD_long (by simp; omega)]
      · simp
set_option maxRecDepth 20000 in
set_option maxHeartbeats 4000000 in
theorem layoutOf_any (c : Int) (a1 a2 : Option Addr) (n1 n2 c1 c2 : Nat) (sh st : List Int) (w : World) (h1 : Row w a1 n1 sh) (h2 : Row w a2 n2 st) (r : Bool) (hr : Hid (formed c sh st = r)) :
    Calls Tryz.prog 82 #[.agg #[.int .i64 c, .slice a1 n1 c1, .slice a2 n2 c2]] w fun e w' => e = .returned (.tuple #[lay (if r = true then fl c sh st else fun _ => 0), .bool r]) ∧ Below w.heap.size w w' := by
  have hl1 := hide h1.len
  have hl2 := hide h2.len
  have H1 := hide h1
  have H2 := hide h2
  clear h1 h2
  have HCF := hide (isFormed_eq c a1 a2 n1 n2 c1 c2 sh st ((w.alloc (.cells #[.int .i64 c, .slice a1 n1 c1, .slice a2 n2 c2] 46)).alloc (.cells #[.int .i64 0, .int .i64 0, .int .i64 0, .int .i64 0, .int .i64 0, .int .i64 0, .int .i64 0, .int .i64 0, .int .i64 0, .int .i64 0, .int .i64 0, .int .i64 0] 101)) (((unhide H1).alloc _).alloc _) (((unhide H2).alloc _).alloc _) r hr)
  go_enter Tryz.func82, Tryz.ntmps82
  go_wp2_with fail
  refine (unhide HCF).mono ?_
  rintro e w1 ⟨rfl, hb1⟩
  obtain ⟨B0, B1, hB⟩ := lboxes2 hb1
  have HB := hide hB
  have HV := hide B0
  have HL := hide B1
  clear hb1 hB B0 B1 HCF
  cases r with
  | false =>
    obtain ⟨z0, z1, z2, z3, z4, z5, z6, z7, z8, z9, z10, z11, f0, f1, f2, f3, f4, f5, f6, f7, f8, f9, f10, f11, zl⟩ := (unhide HL).all
    go_wp2
    refine bodyPost_ret (v := .tuple #[lay (fun _ => 0), .bool false]) (by simp [results, Tryz.results82, go_sem, z0, z1, z2, z3, z4, z5, z6, z7, z8, z9, z10, z11]) rfl ⟨rfl, ?_⟩
    exact Below.sets12 (unhide HB) (by omega) (fun _ => 0)
  | true =>
    obtain ⟨hsb, hle, hcb, hst⟩ := formed_parts (unhide hr)
    have h5 : Hid (sh.length ≤ 5) := (shapeB_in hsb).2
    have hn5 : n1 ≤ 5 := by have := unhide h5; rw [unhide hl1] at this; exact this
    have hn25 : n2 ≤ 5 := by rw [← unhide hl2, hle, unhide hl1]; exact hn5
    have hle' := hide hle
    clear hsb hcb hst hle
    obtain ⟨x0, x1, x2, x3, x4, x5, x6⟩ := (unhide HV).all
    go_upto_region 4 with fail
    have HW : Hid (Below w.heap.size w (w1.alloc (.cells #[.int .i64 c, .int .i64 (n1 : Int), .int .i64 0, .int .i64 0, .int .i64 0, .int .i64 0, .int .i64 0, .int .i64 0, .int .i64 0, .int .i64 0, .int .i64 0, .int .i64 0] 101))) := (unhide HB).alloc (unhide HB).size _
    have GV := hide ((unhide HV).alloc (.cells #[.int .i64 c, .int .i64 (n1 : Int), .int .i64 0, .int .i64 0, .int .i64 0, .int .i64 0, .int .i64 0, .int .i64 0, .int .i64 0, .int .i64 0, .int .i64 0, .int .i64 0] 101))
    have GL := hide ((unhide HL).alloc (.cells #[.int .i64 c, .int .i64 (n1 : Int), .int .i64 0, .int .i64 0, .int .i64 0, .int .i64 0, .int .i64 0, .int .i64 0, .int .i64 0, .int .i64 0, .int .i64 0, .int .i64 0] 101))
    have GP : Hid (LBox (w1.alloc (.cells #[.int .i64 c, .int .i64 (n1 : Int), .int .i64 0, .int .i64 0, .int .i64 0, .int .i64 0, .int .i64 0, .int .i64 0, .int .i64 0, .int .i64 0, .int .i64 0, .int .i64 0] 101)) w1.heap.size (fl c (List.replicate n1 0) [])) := (LBox.new w1 (fun i => if i = 0 then c else if i = 1 then (n1 : Int) else 0)).congr (fun i hi => fl_zero c n1 i)
    have hp1 := (unhide HL).lt
    clear x0 x1 x2 x3 x4 x5 x6
    generalize w1.alloc (.cells #[.int .i64 c, .int .i64 (n1 : Int), .int .i64 0, .int .i64 0, .int .i64 0, .int .i64 0, .int .i64 0, .int .i64 0, .int .i64 0, .int .i64 0, .int .i64 0, .int .i64 0] 101) = W at *
    have hpl := (unhide GP).lt
    generalize w1.heap.size = p at *
    clear HB HV HL w1
    obtain ⟨x0, x1, x2, x3, x4, x5, x6⟩ := (unhide GV).all
    have hsz : (Tryz.prog.info? 3).map (·.size) = some 1 := by kernel_rfl
    have HN : Hid ((sh.map (Value.int .i64)).length = Nat.min n1 5) := by show _ = _; rw [List.length_map, unhide hl1]; exact (Nat.min_eq_left hn5).symm
    have HF : Hid (2 + (sh.map (Value.int .i64)).length ≤ 12) := by show _ ≤ _; rw [List.length_map, unhide hl1]; omega
    have HC : Hid (0 < (sh.map (Value.int .i64)).length → ∃ ad, a1 = some ad ∧ ∀ j v, (sh.map (Value.int .i64))[j]? = some v → W.cell? (ad.add j) = some v) := row_src ((unhide H1).below (Nat.le_refl _) (unhide HW))
    have HKEEP : ∀ wx, Below p W wx → wx.cell? ⟨w.heap.size, 1, none⟩ = some (.slice a1 n1 c1) := fun wx h => ((unhide GV).low (by omega) h).cells.2.1
    go_cut [] (fun wx => LBox wx p (fl c sh []) ∧ Below p W wx)
    case first =>
      as_aux_lemma =>
        go_region_held3 (fun wx => wx.cell? ⟨w.heap.size, 1, none⟩ = some (.slice a1 n1 c1)) (first | exact HKEEP _ (Below.refl _ _).drew | exact HKEEP _ hb4) (first | (refine step_copy_splice rfl (.tmp 16) (.tmp 18) 23 23 rfl 3 Tryz.underlying23 hsz _ _ _ _ _ _ rfl rfl p 2 _ 101 (unhide GP) (sh.map (Value.int .i64)) (unhide HN) (fun h => ⟨rfl, unhide HC h⟩) (unhide HF) (one_ints sh) p W (Below.refl _ _).drew (Nat.le_refl _) ?_; intro w4 hg4 hb4; have HG4 := hide hg4.out; clear hg4))
        all_goals go_wp2_with fail
        all_goals go_meet
        all_goals case rel => exact ⟨(LBox.splice2 (unhide HG4) (unhide h5)).congr (fun i _ => fl_copyl c (List.replicate n1 0) [] sh (by simp [unhide hl1]) (unhide h5) i), hb4⟩
    case rest =>
      obtain ⟨w3, hw3⟩ : ∃ x, x = wc := ⟨_, rfl⟩
      subst hw3
      obtain ⟨hq, hbc⟩ := hcut
      have JP := hide hq
      have JV := hide ((unhide GV).low (by omega) hbc)
      have JL := hide ((unhide GL).low hp1 hbc)
      have HW3 := hide ((unhide HW).trans (hbc.mono (by omega)))
      clear x0 x1 x2 x3 x4 x5 x6 GP GV GL HW hbc hq HN HF HC HKEEP hpl W
      obtain ⟨x0, x1, x2, x3, x4, x5, x6⟩ := (unhide JV).all
      have HN : Hid ((st.map (Value.int .i64)).length = Nat.min n2 5) := by show _ = _; rw [List.length_map, unhide hl2]; exact (Nat.min_eq_left hn25).symm
      have HF : Hid (7 + (st.map (Value.int .i64)).length ≤ 12) := by show _ ≤ _; rw [List.length_map, unhide hl2]; omega
      have HC : Hid (0 < (st.map (Value.int .i64)).length → ∃ ad, a2 = some ad ∧ ∀ j v, (st.map (Value.int .i64))[j]? = some v → w3.cell? (ad.add j) = some v) := row_src ((unhide H2).below (Nat.le_refl _) (unhide HW3))
      have HKEEP : ∀ wx, Below p w3 wx → wx.cell? ⟨w.heap.size, 2, none⟩ = some (.slice a2 n2 c2) := fun wx h => ((unhide JV).low (by omega) h).cells.2.2
      have hs5 : Hid (st.length ≤ 5) := by rw [unhide hle']; exact unhide h5
      go_upto_region 5 with fail
      go_cut [] (fun wx => LBox wx p (fl c sh st) ∧ Below p w3 wx)
      case first =>
        as_aux_lemma =>
          go_region_held3 (fun wx => wx.cell? ⟨w.heap.size, 2, none⟩ = some (.slice a2 n2 c2)) (first | exact HKEEP _ (Below.refl _ _).drew | exact HKEEP _ hb4) (first | (refine step_copy_splice rfl (.tmp 21) (.tmp 23) 23 23 rfl 3 Tryz.underlying23 hsz _ _ _ _ _ _ rfl rfl p 7 _ 101 (unhide JP) (st.map (Value.int .i64)) (unhide HN) (fun h => ⟨rfl, unhide HC h⟩) (unhide HF) (one_ints st) p w3 (Below.refl _ _).drew (Nat.le_refl _) ?_; intro w4 hg4 hb4; have HG4 := hide hg4.out; clear hg4))
          all_goals go_wp2_with fail
          all_goals go_meet
          all_goals case rel => exact ⟨(LBox.splice7 (unhide HG4) (unhide hs5)).congr (fun i _ => fl_copys c sh [] st (by simp) i), hb4⟩
      case rest =>
        obtain ⟨w5, hw5⟩ : ∃ x, x = wc := ⟨_, rfl⟩
        subst hw5
        obtain ⟨hq, hbc⟩ := hcut
        have KP := hide hq
        have KL := hide ((unhide JL).low hp1 hbc)
        have HW5 := hide ((unhide HW3).trans (hbc.mono (by omega)))
        clear x0 x1 x2 x3 x4 x5 x6 JP JV JL HW3 hbc hq HN HF HC HKEEP w3
        generalize hff : fl c sh st = f at *
        have HFF := hide hff
        clear hff
        obtain ⟨x0, x1, x2, x3, x4, x5, x6, x7, x8, x9, x10, x11, y0, y1, y2, y3, y4, y5, y6, y7, y8, y9, y10, y11, xl⟩ := (unhide KP).all
        obtain ⟨z0, z1, z2, z3, z4, z5, z6, z7, z8, z9, z10, z11, f0, f1, f2, f3, f4, f5, f6, f7, f8, f9, f10, f11, zl⟩ := (unhide KL).all
        go_wp2
        refine bodyPost_ret (v := .tuple #[lay f, .bool true]) (by simp [results, Tryz.results82, go_sem, z0, z1, z2, z3, z4, z5, z6, z7, z8, z9, z10, z11]) rfl ⟨by rw [← unhide HFF], Below.sets12 (unhide HW5) (by omega) f⟩
theorem layoutOf_yes (c : Int) (a1 a2 : Option Addr) (n1 n2 c1 c2 : Nat) (sh st : List Int) (w : World) (h1 : Row w a1 n1 sh) (h2 : Row w a2 n2 st) (hr : formed c sh st = true) (f : Nat → Int) (hf : Hid (fl c sh st = f)) :
    Calls Tryz.prog 82 #[.agg #[.int .i64 c, .slice a1 n1 c1, .slice a2 n2 c2]] w fun e w' => e = .returned (.tuple #[lay f, .bool true]) ∧ Below w.heap.size w w' := by
  rw [← unhide hf]
  exact layoutOf_any c a1 a2 n1 n2 c1 c2 sh st w h1 h2 true hr
theorem layoutOf_no (c : Int) (a1 a2 : Option Addr) (n1 n2 c1 c2 : Nat) (sh st : List Int) (w : World) (h1 : Row w a1 n1 sh) (h2 : Row w a2 n2 st) (hr : formed c sh st = false) :
    Calls Tryz.prog 82 #[.agg #[.int .i64 c, .slice a1 n1 c1, .slice a2 n2 c2]] w fun e w' => e = .returned (.tuple #[lay fun _ => 0, .bool false]) ∧ Below w.heap.size w w' :=
  layoutOf_any c a1 a2 n1 n2 c1 c2 sh st w h1 h2 false hr
end Go.Proofs.YtgjpchnkodnieaaGreatDoor
namespace Go.Proofs.YtgjpchnkodnieaaGreatDoor
theorem far_congr {ix iy st : List Int} : ∀ n, (∀ i, i < n → ix.getD i 0 = iy.getD i 0) → farN ix st n = farN iy st n := by
  intro n
  induction n with
  | zero => intro _; rfl
  | succ n ih => intro h; simp only [farN]; rw [ih (fun i hi => h i (by omega)), h n (by omega)]
theorem places_len (off : Int) (sh st : List Int) : (placesOf off sh st).length = (countOf sh).toNat := by simp [placesOf]
theorem places_get {off : Int} {sh st : List Int} {k : Nat} (hk : k < (countOf sh).toNat) : (placesOf off sh st).getD k 0 = placeOf off sh st k := by simp [placesOf, hk]
theorem viewOk_parts {off cells : Int} {sh st : List Int} (h : viewOk off sh st cells = true) : formed off sh st = true ∧ (0 ≤ cells ∧ cells ≤ 10000) ∧ ∀ p, p ∈ placesOf off sh st → 0 ≤ p ∧ p < cells := by
  unfold viewOk at h
  simp only [Bool.and_eq_true, decide_eq_true_eq, List.all_eq_true] at h
  exact ⟨h.1, h.2.1, fun p hp => h.2.2 p hp⟩
theorem view_of {off cells : Int} {sh st : List Int} (hf : formed off sh st = true) (hc : 0 ≤ cells ∧ cells ≤ 10000) (h : ∀ p, p ∈ placesOf off sh st → 0 ≤ p ∧ p < cells) : viewOk off sh st cells = true := by
  unfold viewOk
  simp only [Bool.and_eq_true, decide_eq_true_eq, List.all_eq_true]
  exact ⟨hf, hc, h⟩
theorem view_arr {off cells : Int} {sh st : List Int} (h : viewOk off sh st cells = true) : arrOk false sh (placesOf off sh st) = true := by
  obtain ⟨hf, hc, hp⟩ := viewOk_parts h
  obtain ⟨hs, _, _, _⟩ := formed_parts hf
  have hb := shapeB_count hs
  unfold shapeB at hs
  simp only [Bool.and_eq_true, decide_eq_true_eq] at hs
  unfold arrOk
  simp only [Bool.and_eq_true, decide_eq_true_eq, List.all_eq_true]
  refine ⟨hs.1, by rw [places_len]; omega, fun x hx => ?_⟩
  have := hp x hx
  unfold dataOk
  simp only [Bool.not_false, Bool.true_or, Bool.true_and, decide_eq_true_eq]
  omega
theorem data_okV {c : Bool} {sh dt : List Int} (h : arrOk c sh dt = true) {k : Nat} (hk : k < dt.length) : dataOk c (dt.getD k 0) = true := by
  unfold arrOk at h
  simp only [Bool.and_eq_true, List.all_eq_true] at h
  exact h.2.2 _ (by simp [hk])
theorem places_at {off : Int} {sh st D : List Int} (hs : shapeB sh = true) (hf : Full sh) (hD : IxIn sh D) : (placesOf off sh st).getD (place sh D).toNat 0 = off + farN D st sh.length := by
  have hb := place_bd hD
  have hc := prodAll_count sh hs
  rw [places_get (by omega)]
  unfold placeOf
  rw [Int.toNat_of_nonneg hb.1, far_congr (st := st) sh.length (fun i hi => digits_place hf hD i hi)]
theorem full_count {sh : List Int} (hs : shapeB sh = true) (h : 0 < countOf sh) : Full sh := by
  have hc := prodAll_count sh hs
  refine full_of ?_ (by omega)
  unfold shapeB at hs
  simp only [Bool.and_eq_true, decide_eq_true_eq] at hs
  have h2 := hs.2
  unfold countOf at h2
  split at h2
  · rename_i ha
    split at h2
    · omega
    · rename_i m hm
      exact ⟨ha, m, hm⟩
  · omega
def sumV : List Int → Int
  | [] => 0
  | x :: r => x + sumV r
theorem sumV_append (l m : List Int) : sumV (l ++ m) = sumV l + sumV m := by
  induction l with
  | nil => simp [sumV]
  | cons x r ih => simp only [List.cons_append, sumV, ih]; omega
theorem sumV_perm {l m : List Int} (h : l.Perm m) : sumV l = sumV m := by
  induction h with
  | nil => rfl
  | cons x _ ih => simp only [sumV, ih]
  | swap x y l => simp only [sumV]; omega
  | trans _ _ a b => exact a.trans b
theorem far_sum (ix st : List Int) (n : Nat) : farN ix st n = sumV ((List.range n).map fun i => ix.getD i 0 * st.getD i 0) := by
  induction n with
  | zero => rfl
  | succ n ih => rw [List.range_succ, List.map_append, sumV_append, ← ih]; simp [farN, sumV]
theorem turn_far {ord dg st : List Int} {r : Nat} (ho : orderOk ord r r = true) (hl : ord.length = r) : farN (backIx ord dg r) st r = farN dg (turnN ord st r r) r := by
  rw [far_sum, far_sum]
  have hL : ((List.range r).map fun i => (backIx ord dg r).getD i 0 * st.getD i 0).length = r := by simp
  have hp := turn_perm (sh := (List.range r).map fun i => (backIx ord dg r).getD i 0 * st.getD i 0) ho hl hL
  rw [← sumV_perm hp]
  congr 1
  apply List.ext_getElem
  · rw [turnN_len]; simp
  · intro j h1 h2
    have hj : j < r := by rw [turnN_len] at h1; exact h1
    obtain ⟨i, hi, rfl⟩ := all_named ho hj
    have e1 := (turned (sh := (List.range r).map fun i => (backIx ord dg r).getD i 0 * st.getD i 0) ho i hi).1
    have e2 := (turned (sh := st) ho i hi).1
    rw [getD_eq _ _ h1] at e1
    rw [e1]
    simp only [List.getElem_map, List.getElem_range, e2]
    rw [← backIx_get ord dg r i hi]
    simp [hi]
theorem turn_count {sh ord : List Int} (hs : shapeB sh = true) (ho : orderOk ord sh.length sh.length = true) (hl : ord.length = sh.length) : shapeB (turnN ord sh sh.length sh.length) = true ∧ countOf (turnN ord sh sh.length sh.length) = countOf sh := by
  have hperm := turn_perm (sh := sh) ho hl rfl
  have hin : ShapeIn sh := by
    unfold shapeB at hs
    simp only [Bool.and_eq_true, decide_eq_true_eq] at hs
    have h2 := hs.2
    unfold countOf at h2
    split at h2
    · rename_i ha
      split at h2
      · omega
      · rename_i m hm; exact ⟨ha, m, hm⟩
    · omega
  have h5 : sh.length ≤ 5 := by unfold shapeB at hs; simp only [Bool.and_eq_true, decide_eq_true_eq] at hs; exact hs.1
  have hTin := shapeIn_perm hperm.symm hin
  have hTp : prodAll (turnN ord sh sh.length sh.length) = prodAll sh := prodAll_perm hperm
  obtain ⟨m, hm⟩ := hTin.2
  have hsb := shape_good (turnN_len _ _ _ _) h5 m hTin.1 hm
  exact ⟨hsb, by rw [← prodAll_count _ hsb, hTp, prodAll_count _ hs]⟩
theorem turn_places {off cells : Int} {sh st ord : List Int} (h : viewOk off sh st cells = true) (ho : orderOk ord sh.length sh.length = true) (hl : ord.length = sh.length) (hv : arrOk false [(sh.length : Int)] ord = true) :
    transpose false false [(sh.length : Int)] ord sh (placesOf off sh st) = ⟨false, turnV ord sh sh.length, placesOf off (turnV ord sh sh.length) (turnV ord st sh.length), 0⟩ ∧ viewOk off (turnV ord sh sh.length) (turnV ord st sh.length) cells = true := by
  obtain ⟨hf, hc, hp⟩ := viewOk_parts h
  obtain ⟨hs, hst, _, _⟩ := formed_parts hf
  have hok := view_arr h
  have e1 := turn_same (l := sh) rfl hl ho
  have e2 := turn_same (l := st) hst hl ho
  obtain ⟨hsT, hcT⟩ := turn_count hs ho hl
  have hb := shapeB_count hs
  have key : vals (transAt ord sh (placesOf off sh st)) (placesOf off sh st).length = placesOf off (turnV ord sh sh.length) (turnV ord st sh.length) := by
    rw [← e1, ← e2]
    unfold placesOf
    rw [hcT]
    unfold vals
    rw [show (List.map (placeOf off sh st) (List.range (countOf sh).toNat)).length = (countOf sh).toNat by simp]
    apply List.map_congr_left
    intro k hk
    have hk' := List.mem_range.1 hk
    have hfl := full_count hs (by omega)
    have hfT := turn_full ho rfl hfl
    have hin := back_in ho rfl (digits_in hfT (k : Int))
    unfold transAt
    show (placesOf off sh st).getD _ 0 = _
    rw [places_at hs hfl hin]
    unfold placeOf
    rw [turn_far ho hl, turnN_len]
  refine ⟨?_, ?_⟩
  · rw [transpose_go hv hok rfl hl ho, key, e1]
  · refine view_of (turn_formed hf hl ho) hc (fun p hp' => ?_)
    rw [← key] at hp'
    obtain ⟨k, hk, rfl⟩ := List.mem_map.1 hp'
    have hk' := List.mem_range.1 hk
    rw [places_len] at hk'
    have hfl := full_count hs (by omega)
    have hfT := turn_full ho rfl hfl
    have hin := back_in ho rfl (digits_in hfT (k : Int))
    have hbd := place_bd hin
    have hcc := prodAll_count sh hs
    refine hp _ ?_
    show (placesOf off sh st).getD (place sh (backIx ord (digits (turnN ord sh sh.length sh.length) k) sh.length)).toNat 0 ∈ _
    rw [getD_eq _ _ (by rw [places_len]; omega)]
    exact List.getElem_mem _
end Go.Proofs.YtgjpchnkodnieaaGreatDoor
