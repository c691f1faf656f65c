import Derived.Test.YtabjnlhhefkekaaDoorGatherMath
import Derived.Test.YtabjnlhhefkekaaDoorSpecTwoE
import Derived.Test.YtabjnlhhefkekaaDoorSpecBox
import Derived.BigQuiet
import Derived.Test.YtabjnlhhefkekaaDoorSpecGrow
import Derived.Test.YtabjnlhhefkekaaDoorProdMath
import Derived.Test.YtabjnlhhefkekaaDoorSpecBoxes
import Derived.Deep.AppendLies
import Derived.Test.YtabjnlhhefkekaaDoorOuterMath
import Derived.Test.YtabjnlhhefkekaaDoorSpecNone
import Derived.Deep.DeepCutAuto
namespace Go.Proofs.YtabjnlhhefkekaaDoor
open Go.RowKit

set_option maxHeartbeats 400000 in
theorem l4Equal_any (op : Int) (w : World) : Calls Tryd.prog 38 #[.int .i64 op] w fun e w' => e = .returned (.bool (opEq op)) ∧ w' = w := by
  by_cases h1 : op = 9
  · have q1 : (op == 9) = true := by simp [h1]
    have HE : Hid (opEq op = true) := decide_eq_true (.inl h1)
    clear h1
    go_enter Tryd.func38, Tryd.ntmps38
    go_wp2
    go_ret
    exact ⟨ret_bool HE.out.symm, rfl⟩
  · have q1 : (op == 9) = false := by simp [h1]
    by_cases h2 : op = 10
    · have q2 : (op == 10) = true := by simp [h2]
      have HE : Hid (opEq op = true) := decide_eq_true (.inr h2)
      clear h1 h2
      go_enter Tryd.func38, Tryd.ntmps38
      go_wp2
      go_ret
      exact ⟨ret_bool HE.out.symm, rfl⟩
    · have q2 : (op == 10) = false := by simp [h2]
      have HE : Hid (opEq op = false) := decide_eq_false (by omega)
      clear h1 h2
      go_enter Tryd.func38, Tryd.ntmps38
      go_wp2
      go_ret
      exact ⟨ret_bool HE.out.symm, rfl⟩

theorem l4Two_eq {a b : Int} (ha : -1000000000000000 ≤ a ∧ a ≤ 1000000000000000) (hb : -1000000000000000 ≤ b ∧ b ≤ 1000000000000000) (op : Int) (hop : opIn op = true) (w : World) (r1 r2 : Int) (hr : Hid (twoOf op a b = (r1, r2))) :
    Calls Tryd.prog 74 #[.int .i64 op, .int .i64 a, .int .i64 b] w fun e w' => e = .returned (.tuple #[.int .i64 r1, .int .i64 r2]) ∧ w' = w := by
  have := l4Two_any ha hb op (of_decide_eq_true hop) w
  rw [unhide hr] at this
  exact this

theorem arr_bd {c : Bool} {sh dt : List Int} (h : arrOk c sh dt = true) (k : Nat) : -1000000000000000 ≤ dt.getD k 0 ∧ dt.getD k 0 ≤ 1000000000000000 := by
  by_cases hk : k < dt.length
  · have h1 : dt.all (dataOk c) = true := by simp [arrOk] at h; simpa using h.2.2
    have h2 := List.all_eq_true.mp h1 (dt.getD k 0) (by simp [hk])
    simp [dataOk] at h2
    simpa using h2.2
  · have e : dt.getD k 0 = 0 := by simp [List.getD, List.getElem?_eq_none (by omega : dt.length ≤ k)]
    rw [e]; omega

set_option maxHeartbeats 1000000 in
theorem l4Elements_any (op : Int) (c d : Bool) (v1 v2 : Value) (a2 b2 : Option Addr) (n2 m2 c2 d2 : Nat) (dt dt' : List Int) (i j : Nat) (w : World) (h2 : Row w a2 n2 dt) (k2 : Row w b2 m2 dt') (hi : i < n2) (hj : j < m2) (hop : opIn op = true)
    (hA : ∀ k, -1000000000000000 ≤ dt.getD k 0 ∧ dt.getD k 0 ≤ 1000000000000000) (hB : ∀ k, -1000000000000000 ≤ dt'.getD k 0 ∧ dt'.getD k 0 ≤ 1000000000000000) (r1 r2 : Int) (hr : Hid (elemOf op c dt i d dt' j = (r1, r2))) :
    Calls Tryd.prog 40 #[.int .i64 op, .agg #[.bool c, v1, .slice a2 n2 c2], .int .i64 i, .agg #[.bool d, v2, .slice b2 m2 d2], .int .i64 j] w fun e w' => e = .returned (.tuple #[.int .i64 r1, .int .i64 r2]) ∧ Below w.heap.size w w' := by
  have hs2 := h2.small
  have ks2 := k2.small
  obtain ⟨ba, oa, rfl, hla, hca⟩ := h2.get hi
  obtain ⟨bb, ob, rfl, hlb, hcb⟩ := k2.get hj
  have hA' := hA i
  have hB' := hB j
  have HOP := hide hop
  clear h2 k2 hA hB hop
  obtain ⟨x, hx⟩ : ∃ x, x = dt.getD i 0 := ⟨_, rfl⟩
  obtain ⟨y, hy⟩ : ∃ y, y = dt'.getD j 0 := ⟨_, rfl⟩
  rw [← hx] at hca hA'
  rw [← hy] at hcb hB'
  have hW : ∀ o1 o2, Below w.heap.size w ((w.alloc o1).alloc o2) := fun o1 o2 => ((Below.refl _ _).alloc (Nat.le_refl _) _).alloc (by simp) _
  by_cases hcd : c = d
  · subst hcd
    have HR : Hid (twoOf op x y = (r1, r2)) := by have := unhide hr; unfold elemOf at this; rw [if_neg (by simp), ← hx, ← hy] at this; exact this
    clear hr hx hy
    cases c
    all_goals
      go_enter Tryd.func40, Tryd.ntmps40
      go_wp2
      go_quiet ((go_at_call 74; exact Calls.quiet_of_same (l4Two_eq hA' hB' op (unhide HOP) _ r1 r2 HR)))
      go_wp2
      go_ret2
      exact ⟨rfl, Below.drewN (hW _ _) _⟩
  · have HR : Hid ((truth (op == 10), (0 : Int)) = (r1, r2)) := by have := unhide hr; unfold elemOf at this; rw [if_pos hcd] at this; exact this
    clear hr hx hy hA' hB'
    obtain ⟨q, hq⟩ : ∃ q, (op == 10) = q := ⟨_, rfl⟩
    rw [hq] at HR
    have hcd' : (c = true ∧ d = false) ∨ (c = false ∧ d = true) := by cases c <;> cases d <;> simp_all
    clear hcd
    rcases hcd' with ⟨rfl, rfl⟩ | ⟨rfl, rfl⟩
    all_goals
      go_enter Tryd.func40, Tryd.ntmps40
      go_wp2_with (go_at_call 63; refine (truth_call _ _).mono ?_; rintro e w1 ⟨rfl, rfl⟩)
      go_ret2
      have e := unhide HR
      simp only [Prod.mk.injEq] at e
      exact ⟨ret_two e.1 e.2, hW _ _⟩

end Go.Proofs.YtabjnlhhefkekaaDoor
namespace Go.Proofs.YtabjnlhhefkekaaDoor
open Go.RowKit

set_option maxHeartbeats 400000 in
theorem l3ShapeOk_any (a : Option Addr) (n cap : Nat) (sh : List Int) (w : World) (h : Row w a n sh) : Calls Tryd.prog 80 #[.slice a n cap] w fun e w' => e = .returned (.bool (shapeB sh)) ∧ w' = w := by
  have hlen := hide h.len
  have hsm := h.small
  have H := hide h
  clear h
  by_cases h5 : 5 < n
  · have HE := hide (shape_long (unhide hlen) h5)
    go_enter Tryd.func80, Tryd.ntmps80
    go_wp2
    go_ret
    exact ⟨ret_bool HE.out.symm, rfl⟩
  · obtain ⟨cn, hcn⟩ : ∃ cn, countOf sh = cn := ⟨_, rfl⟩
    have HC := hide hcn
    have HE : Hid (shapeB sh = decide (0 ≤ cn)) := by show _ = _; unfold shapeB; rw [decide_eq_true (by rw [unhide hlen]; omega), hcn]; rfl
    clear hcn
    go_enter Tryd.func80, Tryd.ntmps80
    go_wp2_with (go_at_call 39; refine (l3Count_eq _ _ _ sh _ (unhide H) cn HC).mono ?_; rintro e w1 ⟨rfl, rfl⟩)
    go_ret
    exact ⟨ret_bool HE.out.symm, rfl⟩

theorem l3ShapeOk_eq (a : Option Addr) (n cap : Nat) (sh : List Int) (w : World) (h : Row w a n sh) (r : Bool) (hr : Hid (shapeB sh = r)) : Calls Tryd.prog 80 #[.slice a n cap] w fun e w' => e = .returned (.bool r) ∧ w' = w := by
  rw [← hr.out]; exact l3ShapeOk_any a n cap sh w h

set_option maxHeartbeats 1000000 in
theorem l4Joined_any (a b : Addr) (n m ca cb : Nat) (xs ys : List Int) (w : World) (hx : Row w (some a) n xs) (hy : Row w (some b) m ys) (hn : n ≤ 10000) (hm : m ≤ 10000) (r : Bool) (hr : Hid (shapeB (xs ++ ys) = r)) :
    Calls Tryd.prog 47 #[.slice (some a) n ca, .slice (some b) m cb] w fun e w' => ∃ a' cap', e = .returned (.tuple #[.slice a' (n + m) cap', .bool r]) ∧ Own w' w.heap.size a' (n + m) (xs ++ ys) ∧ Below w.heap.size w w' := by
  have HX := hide hx
  have HY := hide hy
  have hly := hy.len
  clear hx hy
  obtain ⟨i0, hi, hz0, hz1, hz2⟩ := info_parts info_int
  go_enter Tryd.func47, Tryd.ntmps47
  go_wp2_with fail
  refine (l3Ints_owns _ _ _ xs _ (unhide HX)).mono ?_
  rintro e w1 ⟨a', cap', rfl, ho, hb1⟩
  have hs1 := hb1.size
  have HB1 := hide hb1
  have HY1 := hide ((unhide HY).below (Nat.le_refl _) hb1)
  clear hb1
  go_wp2_with (at_builtin; refine wpList_append_own _ rfl _ _ 22 rfl w.heap.size 3 i0 (.int .i64 0) 1 8 Tryd.underlying22 hi hz0 hz1 hz2 rfl (by decide) _ _ _ rfl ho b m cb (ys.map (Value.int .i64)) rfl (by simpa using hly) (cells_ints (unhide HY1)) (one_ints ys) (by unfold maxLen; omega) (by omega) (by omega) ?_; intro v1 w2 hown hgrow hnil; clear hnil; (have hown' : w2.ownsRow w.heap.size 3 1 v1 (n + m) ((xs ++ ys).map (Value.int .i64)) := by rw [List.map_append]; exact hown); obtain ⟨a2, cap2, rfl, ho2⟩ := Own.of_owns hown' (by omega); have HO2 := hide ho2; (have HB2 : Hid (Below w.heap.size w w2) := (unhide HB1).grown hgrow (by omega) (by intro k hk; rcases ho.2 with ⟨e, _⟩ | ⟨g, c', cur, e, hg, _⟩; (cases e; cases hk); (cases e; cases hk; exact hg))); clear hown hown' hgrow ho2)
  refine (l3ShapeOk_eq _ _ _ (xs ++ ys) _ (unhide HO2).row r hr).mono ?_
  rintro e w2 ⟨rfl, rfl⟩
  go_wp2
  refine bodyPost_ret (v := .tuple #[.slice a2 (n + m) cap2, .bool r]) (by simp [results, Tryd.results47, go_sem]) rfl ?_
  exact ⟨a2, cap2, rfl, unhide HO2, unhide HB2⟩

end Go.Proofs.YtabjnlhhefkekaaDoor
namespace Go.Proofs.YtabjnlhhefkekaaDoor
open Go.RowKit

theorem Blk.new (w : World) : Blk (w.alloc (.cells #[] 3)) w.heap.size [] := by
  show (w.heap.push _)[w.heap.size]? = _
  simp

theorem Blk.owns {w : World} {g base : Nat} (h : Blk w g []) (hb : base ≤ g) : w.ownsRow base 3 1 (.slice (some ⟨g, 0, none⟩) 0 0) 0 [] :=
  ⟨by simp, .inr ⟨g, 0, #[], rfl, hb, h, by simp, by unfold maxLen; omega, by simp, by simp⟩⟩

theorem Own.grown {w w1 : World} {B g n : Nat} {a : Option Addr} {zs : List Int} (h : Own w B a n zs) (o : Obj) (hg : (w.alloc o).grownBy w1 (some g)) (hne : ∀ x, At a n x → x ≠ g) : Own w1 B a n zs := by
  refine ⟨h.len, h.small, ?_⟩
  rcases h.at_ with h0 | ⟨b, off, rfl, hb, hlt, hc, hf⟩
  · exact .inl h0
  · by_cases hn : n = 0
    · exact .inl hn
    have hk : w1.heap[b]? = w.heap[b]? := (hg.block b (by simp; omega) (fun e => hne b (at_self hn) (by simpa using e))).trans (Below.heap_alloc w o b hlt)
    refine .inr ⟨b, off, rfl, hb, ?_, fun i hi => (World.cell?_of_block (w := w) (a := ⟨b, off + i, none⟩) hk).trans (hc i hi), fun i hi => (World.frozen?_of_block (w := w) (a := ⟨b, off + i, none⟩) hk).trans (hf i hi)⟩
    rcases Nat.lt_or_ge b w1.heap.size with h1 | h1
    · exact h1
    · rw [Array.getElem?_eq_none h1, Array.getElem?_eq_getElem hlt] at hk; cases hk

/-- A struct of an array is laid whose shape reads as zs and whose numbers are none yet; all of it is new. -/
def Laid (w2 : World) (c : Bool) (m : Nat) (zs : List Int) (r : Value) (wx : World) : Prop :=
  ∃ p g ash csh, r = .pointer (some ⟨p, 0, none⟩) ∧ Box wx p c (.slice ash m csh) (.slice (some ⟨g, 0, none⟩) 0 0) ∧ Blk wx g [] ∧ Own wx w2.heap.size ash m zs ∧ Below w2.heap.size w2 wx ∧ w2.heap.size ≤ p ∧ w2.heap.size ≤ g ∧ ∀ x, At ash m x → x ≠ g

theorem laid_cbz {w2 wA : World} {c : Bool} {m csh : Nat} {zs : List Int} {ash : Option Addr} (hO : Own wA w2.heap.size ash m zs) (hK : Below w2.heap.size w2 wA) : Laid w2 c m zs (.pointer (some ⟨wA.heap.size + 1, 0, none⟩)) ((wA.alloc (.cells #[] 3)).alloc (.cells #[.bool c, .slice ash m csh, .slice (some ⟨wA.heap.size, 0, none⟩) 0 0] 26)) := by
  have hs := hK.size
  refine ⟨wA.heap.size + 1, wA.heap.size, ash, csh, rfl, ?_, (Blk.new wA).alloc _, (hO.alloc _).alloc _, (hK.alloc hs _).alloc (by simp; omega) _, by omega, by omega, fun x hx => by have := hO.row.hi hx; omega⟩
  have := Box.new (wA.alloc (.cells #[] 3)) c (.slice ash m csh) (.slice (some ⟨wA.heap.size, 0, none⟩) 0 0)
  simpa using this

theorem laid_czb {w2 wA : World} {c : Bool} {m csh : Nat} {zs : List Int} {ash : Option Addr} (hO : Own wA w2.heap.size ash m zs) (hK : Below w2.heap.size w2 wA) : Laid w2 c m zs (.pointer (some ⟨wA.heap.size, 0, none⟩)) ((wA.alloc (.cells #[.bool c, .slice ash m csh, .slice (some ⟨wA.heap.size + 1, 0, none⟩) 0 0] 26)).alloc (.cells #[] 3)) := by
  have hs := hK.size
  refine ⟨wA.heap.size, wA.heap.size + 1, ash, csh, rfl, (Box.new _ _ _ _).alloc _, ?_, (hO.alloc _).alloc _, (hK.alloc hs _).alloc (by simp; omega) _, by omega, by omega, fun x hx => by have := hO.row.hi hx; omega⟩
  have := Blk.new (wA.alloc (.cells #[.bool c, .slice ash m csh, .slice (some ⟨wA.heap.size + 1, 0, none⟩) 0 0] 26))
  simpa using this

theorem laid_bcz {w2 wA : World} {c : Bool} {m csh : Nat} {zs : List Int} {ash : Option Addr} {g : Nat} (hO : Own wA w2.heap.size ash m zs) (hK : Below w2.heap.size w2 wA) (hQ : Blk wA g []) (hg : w2.heap.size ≤ g) (hne : ∀ x, At ash m x → x ≠ g) : Laid w2 c m zs (.pointer (some ⟨wA.heap.size, 0, none⟩)) (wA.alloc (.cells #[.bool c, .slice ash m csh, .slice (some ⟨g, 0, none⟩) 0 0] 26)) :=
  ⟨wA.heap.size, g, ash, csh, rfl, Box.new _ _ _ _, hQ.alloc _, hO.alloc _, hK.alloc hK.size _, hK.size, hg, hne⟩

theorem Blk.notBox {w : World} {g p : Nat} {c : Bool} {v1 v2 : Value} (h : Blk w g []) (hb : Box w p c v1 v2) : g ≠ p := by
  rintro rfl
  unfold Blk at h
  unfold Box at hb
  rw [h] at hb
  simp at hb

theorem laid_zc {w2 wA : World} {c : Bool} {m csh : Nat} {zs : List Int} {ash : Option Addr} {g p : Nat} {c' : Bool} {a1 a2 : Option Addr} {l1 l2 k1 k2 : Nat} (hO : Own wA w2.heap.size ash m zs) (hK : Below w2.heap.size w2 wA) (hP : Box wA p c' (.slice a1 l1 k1) (.slice a2 l2 k2)) (hp : w2.heap.size ≤ p) (hQ : Blk wA g []) (hg : w2.heap.size ≤ g) (hne : ∀ x, At ash m x → x ≠ g) :
    Laid w2 c m zs (.pointer (some ⟨p, 0, none⟩)) (((wA.setCell ⟨p, 0, none⟩ (.bool c)).setCell ⟨p, 1, none⟩ (.slice ash m csh)).setCell ⟨p, 2, none⟩ (.slice (some ⟨g, 0, none⟩) 0 0)) := by
  have hn : ∀ x, At ash m x → x ≠ p := fun x hx => hO.row.notBox hP hx
  have hgp := hQ.notBox hP
  exact ⟨p, g, ash, csh, rfl, hP.sets, ((hQ.other hgp _).other hgp _).other hgp _, ((hO.other hn _).other hn _).other hn _, ((hK.setCell hp _).setCell hp _).setCell hp _, hp, hg, hne⟩

theorem laid_zcb {w2 wA : World} {c : Bool} {m csh : Nat} {zs : List Int} {ash : Option Addr} {p : Nat} {c' : Bool} {a1 a2 : Option Addr} {l1 l2 k1 k2 : Nat} (hO : Own wA w2.heap.size ash m zs) (hK : Below w2.heap.size w2 wA) (hP : Box wA p c' (.slice a1 l1 k1) (.slice a2 l2 k2)) (hp : w2.heap.size ≤ p) :
    Laid w2 c m zs (.pointer (some ⟨p, 0, none⟩)) ((((wA.setCell ⟨p, 0, none⟩ (.bool c)).setCell ⟨p, 1, none⟩ (.slice ash m csh)).setCell ⟨p, 2, none⟩ (.slice (some ⟨wA.heap.size, 0, none⟩) 0 0)).alloc (.cells #[] 3)) := by
  have hn : ∀ x, At ash m x → x ≠ p := fun x hx => hO.row.notBox hP hx
  refine ⟨p, wA.heap.size, ash, csh, rfl, hP.sets.alloc _, ?_, (((hO.other hn _).other hn _).other hn _).alloc _, (((hK.setCell hp _).setCell hp _).setCell hp _).alloc (by simpa using hK.size) _, hp, hK.size, fun x hx => by have := hO.row.hi hx; omega⟩
  have := Blk.new (((wA.setCell ⟨p, 0, none⟩ (.bool c)).setCell ⟨p, 1, none⟩ (.slice ash m csh)).setCell ⟨p, 2, none⟩ (.slice (some ⟨wA.heap.size, 0, none⟩) 0 0))
  simpa using this

end Go.Proofs.YtabjnlhhefkekaaDoor
namespace Go.Proofs.YtabjnlhhefkekaaDoor
open Go.RowKit

/-- k elements have been gathered into the array in box p. -/
structure Stage (w2 : World) (p : Nat) (c : Bool) (ash : Option Addr) (m csh : Nat) (zs : List Int) (f : Nat → Int × Int) (k : Nat) (wr : World) (g cap : Nat) : Prop where
  box : Box wr p c (.slice ash m csh) (.slice (some ⟨g, 0, none⟩) k cap)
  owns : wr.ownsRow w2.heap.size 3 1 (.slice (some ⟨g, 0, none⟩) k cap) k ((vals f k).map (Value.int .i64))
  own : Own wr w2.heap.size ash m zs
  ne : ∀ x, At ash m x → x ≠ g
  low : Below w2.heap.size w2 wr
  code : firstCode f k = 0
  place : w2.heap.size ≤ p

theorem Stage.start {w2 wx : World} {p g : Nat} {c : Bool} {ash : Option Addr} {m csh : Nat} {zs : List Int} (f : Nat → Int × Int) (h1 : Box wx p c (.slice ash m csh) (.slice (some ⟨g, 0, none⟩) 0 0)) (h2 : Blk wx g []) (h3 : Own wx w2.heap.size ash m zs) (h4 : Below w2.heap.size w2 wx) (h7 : w2.heap.size ≤ p) (h5 : w2.heap.size ≤ g) (h6 : ∀ x, At ash m x → x ≠ g) : Stage w2 p c ash m csh zs f 0 wx g 0 :=
  ⟨h1, h2.owns h5, h3, h6, h4, rfl, h7⟩

theorem Stage.below {w2 wr w5 : World} {p g cap k : Nat} {c : Bool} {ash : Option Addr} {m csh : Nat} {zs : List Int} {f : Nat → Int × Int} (h : Stage w2 p c ash m csh zs f k wr g cap) (hb : Below wr.heap.size wr w5) : Stage w2 p c ash m csh zs f k w5 g cap :=
  ⟨h.box.below (Nat.le_refl _) hb, owns_below h.owns (Nat.le_refl _) hb, h.own.below (Nat.le_refl _) hb, h.ne, h.low.trans (hb.mono h.low.size), h.code, h.place⟩

theorem Stage.drew {w2 wr : World} {p g cap k : Nat} {c : Bool} {ash : Option Addr} {m csh : Nat} {zs : List Int} {f : Nat → Int × Int} (h : Stage w2 p c ash m csh zs f k wr g cap) : Stage w2 p c ash m csh zs f k wr.drew g cap := h.below (Below.refl _ _).drew

theorem Stage.push {w2 w5 w6 : World} {p g g' cap cap' k : Nat} {c : Bool} {ash : Option Addr} {m csh : Nat} {zs : List Int} {f : Nat → Int × Int} {r1 : Int} (o : Obj) (h : Stage w2 p c ash m csh zs f k w5 g cap) (hf : f k = (r1, 0))
    (hown : w6.ownsRow w2.heap.size 3 1 (.slice (some ⟨g', 0, none⟩) (k + 1) cap') (k + 1) ((vals f k).map (Value.int .i64) ++ [.int .i64 r1])) (hg : (w5.alloc o).grownBy w6 (Value.ownBlock (.slice (some ⟨g, 0, none⟩) k cap))) (hat : Value.ownBlock (.slice (some ⟨g, 0, none⟩) k cap) = some g' ∨ g' = w5.heap.size + 1) :
    Box w6 p c (.slice ash m csh) (.slice (some ⟨g, 0, none⟩) k cap) ∧ Stage w2 p c ash m csh zs f (k + 1) (w6.setCell ⟨p, 2, none⟩ (.slice (some ⟨g', 0, none⟩) (k + 1) cap')) g' cap' := by
  have hb6 := h.box.grown h.owns o hg
  have hg' : (w5.alloc o).grownBy w6 (some g) := hg
  have ho6 := h.own.grown o hg' h.ne
  have hlow := h.low.trans (below_append o h.owns h.low.size hg)
  have hne' : ∀ x, At ash m x → x ≠ g' := by
    intro x hx
    rcases hat with e | e
    · have e' : g = g' := by simpa [Value.ownBlock] using e
      rw [← e']; exact h.ne x hx
    · have := h.own.row.hi hx; omega
  refine ⟨hb6, hb6.set2 _, ?_, ho6.other (fun x hx => ho6.row.notBox hb6 hx) _, hne', hlow.setCell h.place _, code_step h.code (by rw [hf]), h.place⟩
  · rw [vals_snoc, hf]
    exact owns_box_set hown hb6 _ _

end Go.Proofs.YtabjnlhhefkekaaDoor
namespace Go.Proofs.YtabjnlhhefkekaaDoor
open Go.RowKit

set_option maxRecDepth 20000 in
set_option maxHeartbeats 8000000 in
theorem Outer_any (op : Int) (c d : Bool) (a1 a2 b1 b2 : Addr) (n1 n2 m1 m2 c1 c2 d1 d2 : Nat) (sh dt sh' dt' : List Int) (w : World) (h1 : Row w (some a1) n1 sh) (h2 : Row w (some a2) n2 dt) (k1 : Row w (some b1) m1 sh') (k2 : Row w (some b2) m2 dt') :
    Calls Tryd.prog 17 #[.int .i64 op, .agg #[.bool c, .slice (some a1) n1 c1, .slice (some a2) n2 c2], .agg #[.bool d, .slice (some b1) m1 d1, .slice (some b2) m2 d2]] w (GivesRow w (outer op c d sh dt sh' dt')) := by
  have hl1 := hide h1.len
  have hl2 := hide h2.len
  have hl3 := hide k1.len
  have hl4 := hide k2.len
  have hs1 := h1.small
  have hs2 := h2.small
  have hs3 := k1.small
  have hs4 := k2.small
  have H1 := hide h1
  have H2 := hide h2
  have K1 := hide k1
  have K2 := hide k2
  clear h1 h2 k1 k2
  obtain ⟨r1, hr1⟩ : ∃ r, arrOk c sh dt = r := ⟨_, rfl⟩
  obtain ⟨r2, hr2⟩ : ∃ r, arrOk d sh' dt' = r := ⟨_, rfl⟩
  have HR1 := hide hr1
  have HR2 := hide hr2
  clear hr1 hr2
  go_enter Tryd.func17, Tryd.ntmps17
  go_wp2_with fail
  refine (ArrayOk_eq _ _ _ _ _ _ _ sh dt _ ((((unhide H1).alloc _).alloc _).alloc _) ((((unhide H2).alloc _).alloc _).alloc _) _ HR1).mono ?_
  rintro e w1 ⟨rfl, hb1⟩
  obtain ⟨B4, B5, B6, hB1⟩ := boxes3 hb1
  have hz1 := B6.lt
  clear hb1
  obtain ⟨x0, x1, x2, x3, x4, x5, x6⟩ := B4.all
  obtain ⟨y0, y1, y2, y3, y4, y5, y6⟩ := B5.all
  cases r1 with
  | false =>
    have HS := hide (outer_bad1 (op := op) (d := d) (sh' := sh') (dt' := dt') (unhide HR1))
    go_wp2_with fail
    refine (l4None_any _).mono ?_
    rintro e w9 ⟨rfl, hb9⟩
    obtain ⟨q0, q1, q2, q3, q4, q5, q6⟩ := (B6.below (Nat.le_refl _) hb9).all
    have hB9 := hide ((hB1).trans (hb9.mono (hB1).size))
    clear hb9 hB1 B4 B5 B6 hz1 x0 x1 x2 x3 x4 x5 x6 y0 y1 y2 y3 y4 y5 y6
    go_wp2
    refine bodyPost_ret (v := .tuple #[.agg #[.bool false, .slice none 0 0, .slice none 0 0], .int .i64 3]) (by simp [results, Tryd.results17, go_sem, q0, q1, q2]) rfl ?_
    rw [unhide HS]
    exact ⟨none, 0, 0, none, 0, 0, rfl, row_nil _ _, row_nil _ _, (((unhide hB9).setCell (by simp <;> omega) _).setCell (by simp <;> omega) _).setCell (by simp <;> omega) _⟩
  | true =>
    go_wp2_with fail
    refine (ArrayOk_eq _ _ _ _ _ _ _ sh' dt' _ ((unhide K1).below (Nat.le_refl _) hB1) ((unhide K2).below (Nat.le_refl _) hB1) _ HR2).mono ?_
    rintro e w2 ⟨rfl, hb2⟩
    have C4 := hide (B4.below (Nat.le_refl _) hb2)
    have C5 := hide (B5.below (Nat.le_refl _) hb2)
    have C6 := hide (B6.below (Nat.le_refl _) hb2)
    have hB2 := hide (hB1.trans (hb2.mono hB1.size))
    clear hb2 hB1 B4 B5 B6 hz1 x0 x1 x2 x3 x4 x5 x6 y0 y1 y2 y3 y4 y5 y6 w1
    cases r2 with
    | false =>
      have HS := hide (outer_bad2 (op := op) (c := c) (sh := sh) (dt := dt) (unhide HR2))
      go_wp2_with fail
      refine (l4None_any _).mono ?_
      rintro e w9 ⟨rfl, hb9⟩
      obtain ⟨q0, q1, q2, q3, q4, q5, q6⟩ := ((unhide C6).below (Nat.le_refl _) hb9).all
      have hB9 := hide (((unhide hB2)).trans (hb9.mono ((unhide hB2)).size))
      clear hb9 C4 C5 C6 hB2
      go_wp2
      refine bodyPost_ret (v := .tuple #[.agg #[.bool false, .slice none 0 0, .slice none 0 0], .int .i64 3]) (by simp [results, Tryd.results17, go_sem, q0, q1, q2]) rfl ?_
      rw [unhide HS]
      exact ⟨none, 0, 0, none, 0, 0, rfl, row_nil _ _, row_nil _ _, (((unhide hB9).setCell (by simp <;> omega) _).setCell (by simp <;> omega) _).setCell (by simp <;> omega) _⟩
    | true =>
      by_cases hop1 : op < 1
      · have HS := hide (outer_bad3 (op := op) (c := c) (d := d) (sh := sh) (dt := dt) (sh' := sh') (dt' := dt') (by omega))
        go_wp2_with fail
        refine (l4None_any _).mono ?_
        rintro e w9 ⟨rfl, hb9⟩
        obtain ⟨q0, q1, q2, q3, q4, q5, q6⟩ := ((unhide C6).below (Nat.le_refl _) hb9).all
        have hB9 := hide (((unhide hB2)).trans (hb9.mono ((unhide hB2)).size))
        clear hb9 C4 C5 C6 hB2
        go_wp2
        refine bodyPost_ret (v := .tuple #[.agg #[.bool false, .slice none 0 0, .slice none 0 0], .int .i64 3]) (by simp [results, Tryd.results17, go_sem, q0, q1, q2]) rfl ?_
        rw [unhide HS]
        exact ⟨none, 0, 0, none, 0, 0, rfl, row_nil _ _, row_nil _ _, (((unhide hB9).setCell (by simp <;> omega) _).setCell (by simp <;> omega) _).setCell (by simp <;> omega) _⟩
      by_cases hop2 : 16 < op
      · have HS := hide (outer_bad3 (op := op) (c := c) (d := d) (sh := sh) (dt := dt) (sh' := sh') (dt' := dt') (by omega))
        go_wp2_with fail
        refine (l4None_any _).mono ?_
        rintro e w9 ⟨rfl, hb9⟩
        obtain ⟨q0, q1, q2, q3, q4, q5, q6⟩ := ((unhide C6).below (Nat.le_refl _) hb9).all
        have hB9 := hide (((unhide hB2)).trans (hb9.mono ((unhide hB2)).size))
        clear hb9 C4 C5 C6 hB2
        go_wp2
        refine bodyPost_ret (v := .tuple #[.agg #[.bool false, .slice none 0 0, .slice none 0 0], .int .i64 3]) (by simp [results, Tryd.results17, go_sem, q0, q1, q2]) rfl ?_
        rw [unhide HS]
        exact ⟨none, 0, 0, none, 0, 0, rfl, row_nil _ _, row_nil _ _, (((unhide hB9).setCell (by simp <;> omega) _).setCell (by simp <;> omega) _).setCell (by simp <;> omega) _⟩
      have HOP : Hid (1 ≤ op ∧ op ≤ 16) := (by omega : 1 ≤ op ∧ op ≤ 16)
      have HIN : Hid (opIn op = true) := decide_eq_true (unhide HOP)
      obtain ⟨hzz1, hzz2, hzz3, hzz4⟩ := outer_size (unhide HR1) (unhide HR2)
      rw [unhide hl2] at hzz1
      rw [unhide hl4] at hzz2
      rw [unhide hl1] at hzz3
      rw [unhide hl3] at hzz4
      obtain ⟨x0, x1, x2, x3, x4, x5, x6⟩ := (unhide C4).all
      obtain ⟨y0, y1, y2, y3, y4, y5, y6⟩ := (unhide C5).all
      obtain ⟨sb, hsb⟩ : ∃ r, shapeB (sh ++ sh') = r := ⟨_, rfl⟩
      have HSB := hide hsb
      clear hsb
      go_wp2_with fail
      refine (l4Joined_any _ _ _ _ _ _ sh sh' _ ((unhide H1).below (Nat.le_refl _) (unhide hB2)) ((unhide K1).below (Nat.le_refl _) (unhide hB2)) (by omega) (by omega) sb HSB).mono ?_
      rintro e w3 ⟨ash, csh, rfl, hOJ, hb3⟩
      have D4 := hide ((unhide C4).below (Nat.le_refl _) hb3)
      have D5 := hide ((unhide C5).below (Nat.le_refl _) hb3)
      have D6 := hide ((unhide C6).below (Nat.le_refl _) hb3)
      have hB3 := hide ((unhide hB2).trans (hb3.mono (unhide hB2).size))
      have HOJ := hide hOJ
      have hB2z := (unhide hB2).size
      have hz6 := (unhide D6).lt
      have HB3 := hide hb3
      clear hb3 hOJ x0 x1 x2 x3 x4 x5 x6 y0 y1 y2 y3 y4 y5 y6
      cases sb with
      | false =>
        have HS := hide (outer_big (unhide HR1) (unhide HR2) (unhide HOP) (unhide HSB))
        go_wp2_with fail
        refine (l4None_any _).mono ?_
        rintro e w9 ⟨rfl, hb9⟩
        obtain ⟨q0, q1, q2, q3, q4, q5, q6⟩ := ((unhide D6).below (Nat.le_refl _) hb9).all
        have hB9 := hide (((unhide hB3)).trans (hb9.mono ((unhide hB3)).size))
        clear hb9 C4 C5 C6 D4 D5 D6 hB3 HB3 HOJ hB2
        go_wp2
        refine bodyPost_ret (v := .tuple #[.agg #[.bool false, .slice none 0 0, .slice none 0 0], .int .i64 7]) (by simp [results, Tryd.results17, go_sem, q0, q1, q2]) rfl ?_
        rw [unhide HS]
        exact ⟨none, 0, 0, none, 0, 0, rfl, row_nil _ _, row_nil _ _, (((unhide hB9).setCell (by simp <;> omega) _).setCell (by simp <;> omega) _).setCell (by simp <;> omega) _⟩
      | true =>
        obtain ⟨x0, x1, x2, x3, x4, x5, x6⟩ := (unhide D4).all
        obtain ⟨y0, y1, y2, y3, y4, y5, y6⟩ := (unhide D5).all
        go_upto_region 6 with fail
        go_cut [53] (fun b wx => w3 = wx ∧ b = .bool ((c || d) && !opEq op))
        case first =>
          cases c <;> cases d
          all_goals
            go_wp2_with (go_at_call 38; refine (l4Equal_any _ _).mono ?_; rintro e wq ⟨rfl, rfl⟩)
            go_meet
            case rel => exact ⟨rfl, rfl⟩
        case rest =>
          obtain ⟨rfl, rfl⟩ := hcut
          obtain ⟨bad, hbad⟩ : ∃ r, ((c || d) && !opEq op) = r := ⟨_, rfl⟩
          rw [hbad]
          have HBD := hide hbad
          clear hbad
          cases bad with
          | true =>
            have HS := hide (outer_char (unhide HR1) (unhide HR2) (unhide HOP) (unhide HSB) (unhide HBD))
            go_wp2_with fail
            refine (l4None_any _).mono ?_
            rintro e w9 ⟨rfl, hb9⟩
            obtain ⟨q0, q1, q2, q3, q4, q5, q6⟩ := ((unhide D6).below (Nat.le_refl _) hb9).all
            have hB9 := hide (((unhide hB3)).trans (hb9.mono ((unhide hB3)).size))
            clear hb9 C4 C5 C6 D4 D5 D6 hB3 HB3 HOJ hB2 x0 x1 x2 x3 x4 x5 x6 y0 y1 y2 y3 y4 y5 y6
            go_wp2
            refine bodyPost_ret (v := .tuple #[.agg #[.bool false, .slice none 0 0, .slice none 0 0], .int .i64 3]) (by simp [results, Tryd.results17, go_sem, q0, q1, q2]) rfl ?_
            rw [unhide HS]
            exact ⟨none, 0, 0, none, 0, 0, rfl, row_nil _ _, row_nil _ _, (((unhide hB9).setCell (by simp <;> omega) _).setCell (by simp <;> omega) _).setCell (by simp <;> omega) _⟩
          | false =>
            obtain ⟨f, hf⟩ : ∃ f : Nat → Int × Int, f = fun k => elemOf op c dt (k / m2) d dt' (k % m2) := ⟨_, rfl⟩
            have HGO : Hid (outer op c d sh dt sh' dt' = gatherAns false (sh ++ sh') f (n2 * m2)) := by
              show _ = _
              rw [outer_go (unhide HR1) (unhide HR2) (unhide HOP) (unhide HSB) (unhide HBD) n2 m2 (unhide hl2) (unhide hl4), hf]
            have HFK : Hid (∀ P Q, Q < m2 → f (P * m2 + Q) = elemOf op c dt P d dt' Q) := by
              intro P Q hQ
              rw [hf]
              have e1 : (P * m2 + Q) / m2 = P := by rw [Nat.mul_comm, Nat.mul_add_div (by omega), Nat.div_eq_of_lt hQ, Nat.add_zero]
              have e2 : (P * m2 + Q) % m2 = Q := by rw [Nat.mul_comm, Nat.mul_add_mod, Nat.mod_eq_of_lt hQ]
              simp only [e1, e2]
            have HV1 := hide (arr_bd (unhide HR1))
            have HV2 := hide (arr_bd (unhide HR2))
            have hbig : n2 * m2 ≤ 100000000 := Nat.mul_le_mul hzz1 hzz2
            clear hf HBD
            have hlaid := laid_cbz (c := false) (csh := csh) (unhide HOJ) (unhide HB3)
            obtain ⟨p, g0, ash', csh', e1, hbx, hblk, hO, hb4, hp, hg, hne⟩ := hlaid
            have hpe : p = w3.heap.size + 1 := by simpa using e1.symm
            subst hpe
            have hst0 := hide (Stage.start f hbx hblk hO hb4 hp hg hne)
            have hz4 := (unhide C4).lt
            have hz5 := (unhide C5).lt
            have hz6' := (unhide C6).lt
            clear e1 hbx hblk hO hb4 hg hne D4 D5 D6 hB3 HB3 HOJ
            obtain ⟨i0, hi, hz0, hz1, hz2⟩ := info_parts info_int
            go_wp2_with fail
            go_loopw [11] (fun i wr => ∃ P g cap, P ≤ n2 ∧ i = .int .i64 (P : Nat) ∧ Hid (Stage w2 (w3.heap.size + 1) false ash' (n1 + m1) csh' (sh ++ sh') f (P * m2) wr g cap)) (fun i _ => n2 - (intOf i).toNat)
            case atStart =>
              refine ⟨0, g0, 0, Nat.zero_le _, rfl, ?_⟩
              rw [Nat.zero_mul]
              exact hst0
            case round =>
              obtain ⟨P, g, cap, hP, rfl, hst⟩ := hrel
              clear hst0
              obtain ⟨x0, x1, x2, x3, x4, x5, x6⟩ := ((unhide C4).low hz4 (unhide hst).low).all
              by_cases hlt : P < n2
              · go_wp2_with fail
                go_loopw [12] (fun i wx => ∃ Q g cap, Q ≤ m2 ∧ i = .int .i64 (Q : Nat) ∧ Hid (Stage w2 (w3.heap.size + 1) false ash' (n1 + m1) csh' (sh ++ sh') f (P * m2 + Q) wx g cap)) (fun i _ => m2 - (intOf i).toNat)
                case atStart => exact ⟨0, g, cap, Nat.zero_le _, rfl, hst⟩
                case round =>
                  clear hst x0 x1 x2 x3 x4 x5 x6
                  obtain ⟨Q, g, cap, hQ, rfl, hst⟩ := hrel
                  obtain ⟨y0, y1, y2, y3, y4, y5, y6⟩ := ((unhide C5).low hz5 (unhide hst).low).all
                  by_cases hqlt : Q < m2
                  · obtain ⟨wy, hwy⟩ : ∃ x, x = wr := ⟨_, rfl⟩
                    subst hwy
                    have HWy := hide ((unhide hB2).trans ((unhide hst).low.mono hB2z))
                    obtain ⟨x0, x1, x2, x3, x4, x5, x6⟩ := ((unhide C4).low hz4 (unhide hst).low).all
                    have hfk0 := unhide HFK P Q hqlt
                    obtain ⟨r, hr⟩ : ∃ r, elemOf op c dt P d dt' Q = r := ⟨_, rfl⟩
                    obtain ⟨r1, r2⟩ := r
                    rw [hr] at hfk0
                    have HFQ := hide hfk0
                    have HRR := hide hr
                    clear hr hfk0
                    go_wp2_with fail
                    refine (l4Elements_any op c d _ _ _ _ n2 m2 _ _ dt dt' P Q _ ((unhide H2).below (Nat.le_refl _) (unhide HWy)) ((unhide K2).below (Nat.le_refl _) (unhide HWy)) hlt hqlt (unhide HIN) (unhide HV1) (unhide HV2) r1 r2 HRR).mono ?_
                    rintro e w6 ⟨rfl, hb6⟩
                    have hst6 := (unhide hst).below hb6
                    clear hb6 hst HWy x0 x1 x2 x3 x4 x5 x6 y0 y1 y2 y3 y4 y5 y6
                    have G6 := hide ((unhide C6).low hz6' hst6.low)
                    have HW6 := hide ((unhide hB2).trans (hst6.low.mono hB2z))
                    have hkk : P * m2 + Q < n2 * m2 := by
                      have : (P + 1) * m2 ≤ n2 * m2 := Nat.mul_le_mul_right m2 hlt
                      rw [Nat.add_mul] at this; omega
                    by_cases hcode : r2 = 0
                    · subst hcode
                      have hfk := unhide HFQ
                      obtain ⟨z0, z1, z2, z3, z4, z5, z6⟩ := hst6.box.all
                      have hown := hst6.owns
                      have hlow := hst6.low.size
                      go_wp2_with (at_builtin; refine wpList_append_lies _ rfl _ _ 22 rfl w2.heap.size 3 i0 (.int .i64 0) 1 8 Tryd.underlying22 hi hz0 hz1 hz2 rfl (by decide) _ _ _ rfl (hown.alloc _) ⟨w6.heap.size, 0, none⟩ 1 1 [.int .i64 r1] rfl rfl (cells_new _ _) (one_one _) (by omega) (by unfold maxLen; omega) (by omega) (by have := hlow; simp; omega) (w6.heap.size + 1) (by simp) ?_; intro g' cap' w7 hown' hgrow hat hlt7; obtain ⟨hb7, hst7⟩ := hst6.push _ hfk hown' hgrow hat; obtain ⟨z0', z1', z2', z3', z4', z5', z6'⟩ := hb7.all; clear hgrow hat hown')
                      go_roundw
                      case rel => exact ⟨Q + 1, g', cap', by omega, by go_num, hst7⟩
                      case measure => simp [intOf]; omega
                    · have HS : Hid (outer op c d sh dt sh' dt' = noAns r2) := by
                        show _ = _
                        have := gather_bad (c := false) (sh := sh ++ sh') hst6.code hkk (by rw [unhide HFQ]; exact hcode)
                        rw [unhide HGO, this, unhide HFQ]
                      have hcb : (r2 != 0) = true := by simp [hcode]
                      clear hcode hst6
                      go_wp2_with fail
                      refine (l4None_any _).mono ?_
                      rintro e w9 ⟨rfl, hb9⟩
                      obtain ⟨q0, q1, q2, q3, q4, q5, q6⟩ := ((unhide G6).below (Nat.le_refl _) hb9).all
                      have hB9 := hide (((unhide HW6)).trans (hb9.mono ((unhide HW6)).size))
                      clear hb9 G6 HW6
                      go_wp2
                      refine bodyPost_ret (v := .tuple #[.agg #[.bool false, .slice none 0 0, .slice none 0 0], .int .i64 r2]) (by simp [results, Tryd.results17, go_sem, q0, q1, q2]) rfl ?_
                      rw [unhide HS]
                      exact ⟨none, 0, 0, none, 0, 0, rfl, row_nil _ _, row_nil _ _, (((unhide hB9).setCell (by simp <;> omega) _).setCell (by simp <;> omega) _).setCell (by simp <;> omega) _⟩
                  · have hQA : Q = m2 := by omega
                    subst hQA
                    go_wp2_with fail
                    go_roundw
                    case rel => exact ⟨P + 1, g, cap, by omega, by go_num, by rw [Nat.add_mul, Nat.one_mul]; exact hst⟩
                    case measure => simp [intOf]; omega
              · have hPB : P = n2 := by omega
                subst hPB
                have HS : Hid (outer op c d sh dt sh' dt' = ⟨false, sh ++ sh', vals f (P * m2), 0⟩) := (unhide HGO).trans (gather_good (unhide hst).code)
                obtain ⟨ad', cd, hv, hD⟩ := Own.of_owns (unhide hst).owns (by omega)
                cases hv
                obtain ⟨z0, z1, z2, z3, z4, z5, z6⟩ := (unhide hst).box.all
                have G6 := hide ((unhide C6).low hz6' (unhide hst).low)
                obtain ⟨q0, q1, q2, q3, q4, q5, q6⟩ := (unhide G6).all
                have HW6 := hide ((unhide hB2).trans ((unhide hst).low.mono hB2z))
                have HO6 := hide (unhide hst).own
                have HD := hide hD
                clear hst hD HGO HFK
                go_wp2
                refine bodyPost_ret (v := .tuple #[.agg #[.bool false, .slice ash' (n1 + m1) csh', .slice (some ⟨g, 0, none⟩) (P * m2) cap], .int .i64 0]) (by simp [results, Tryd.results17, go_sem, q0, q1, q2]) rfl ?_
                rw [unhide HS]
                refine ⟨ash', n1 + m1, csh', some ⟨g, 0, none⟩, P * m2, cap, rfl, ?_, ?_, (((unhide HW6).setCell (by simp <;> omega) _).setCell (by simp <;> omega) _).setCell (by simp <;> omega) _⟩
                · exact (unhide HO6).row.sets (unhide G6) _ _ _
                · exact (unhide HD).row.sets (unhide G6) _ _ _

end Go.Proofs.YtabjnlhhefkekaaDoor
