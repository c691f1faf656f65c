import Derived.Test.YtmgjicgojlkpcaaGreatDoorNRows
import Derived.Test.YtmgjicgojlkpcaaGreatDoorMarksB
import Derived.Deep.OwnRows
import Derived.BigQuiet
namespace Go.Proofs.YtmgjicgojlkpcaaGreatDoor
open Go.RowKit

theorem info_node : (Tryz.prog.info? 47).map (fun i => (i.zero, i.size, i.bytes)) = some (some (.agg #[.int .i64 0, .int .i64 0, .int .i64 0, .string ⟨#[]⟩, .slice none 0 0, .slice none 0 0]), 6, 88) := by kernel_rfl

/-- The first k of n nodes lie in block g, each list in a block of its own, all below H. -/
structure NMid (w : World) (g n k H : Nat) (ns : List NodeD) (f : Nat → Value) (s1 s2 : Nat → Nat) : Prop where
  row : w.rowIs g 47 (n * 6) f
  hi : H ≤ w.heap.size
  cells : ∀ i, i < k → f (i * 6) = .int .i64 (node ns i).k ∧ f (i * 6 + 1) = .int .i64 (node ns i).n ∧ f (i * 6 + 2) = .int .i64 (node ns i).m ∧ f (i * 6 + 3) = .string (node ns i).s ∧ f (i * 6 + 4) = .slice (some ⟨s1 i, 0, none⟩) (node ns i).nums.length (node ns i).nums.length ∧ f (i * 6 + 5) = .slice (some ⟨s2 i, 0, none⟩) (node ns i).kids.length (node ns i).kids.length
  blk : ∀ i, i < k → Blk w (s1 i) (node ns i).nums ∧ Blk w (s2 i) (node ns i).kids
  low : ∀ i, i < k → g < s1 i ∧ s1 i < s2 i ∧ s2 i < H
  apart : ∀ i j, i < j → j < k → s2 i < s1 j

theorem NMid.below {w w' : World} {g n k H B : Nat} {ns : List NodeD} {f : Nat → Value} {s1 s2 : Nat → Nat} (h : NMid w g n k H ns f s1 s2) (hB : w.heap.size ≤ B) (hb : Below B w w') : NMid w' g n k H ns f s1 s2 :=
  ⟨h.row.of_block (hb.block g (Nat.lt_of_lt_of_le h.row.lt hB)), Nat.le_trans h.hi hb.size, h.cells, fun i hi => ⟨(h.blk i hi).1.below hB hb, (h.blk i hi).2.below hB hb⟩, h.low, h.apart⟩

theorem NMid.alloc {w : World} {g n k H : Nat} {ns : List NodeD} {f : Nat → Value} {s1 s2 : Nat → Nat} (h : NMid w g n k H ns f s1 s2) (o : Obj) : NMid (w.alloc o) g n k H ns f s1 s2 := h.below (Nat.le_refl _) ((Below.refl _ _).alloc (Nat.le_refl _) _)

theorem NMid.but {S : Nat → Prop} {w w' : World} {g n k H : Nat} {ns : List NodeD} {f : Nat → Value} {s1 s2 : Nat → Nat} (h : NMid w g n k H ns f s1 s2) (hb : But S w w') (hn : ∀ x, g ≤ x → x < H → ¬ S x) (hg : g < H) : NMid w' g n k H ns f s1 s2 :=
  ⟨h.row.of_block (hb.block g h.row.lt (hn g (Nat.le_refl _) hg)), Nat.le_trans h.hi hb.size, h.cells,
    fun i hi => ⟨(hb.block _ (h.blk i hi).1.lt (hn _ (by have := h.low i hi; omega) (by have := h.low i hi; omega))).trans (h.blk i hi).1, (hb.block _ (h.blk i hi).2.lt (hn _ (by have := h.low i hi; omega) (by have := h.low i hi; omega))).trans (h.blk i hi).2⟩, h.low, h.apart⟩

/-- What toNodeS gives: the nodes in block g, new memory below H. -/
def NNew (w : World) (g n H : Nat) (ns : List NodeD) : Prop := g < H ∧ ns.length = n ∧ n ≤ 1048576 ∧ SmallD ns n ∧ ∃ f s1 s2, NMid w g n n H ns f s1 s2

theorem NNew.below {w w' : World} {g n H B : Nat} {ns : List NodeD} (h : NNew w g n H ns) (hB : w.heap.size ≤ B) (hb : Below B w w') : NNew w' g n H ns := by
  obtain ⟨h0, h1, h2, h3, f, s1, s2, h4⟩ := h
  exact ⟨h0, h1, h2, h3, f, s1, s2, h4.below hB hb⟩
theorem NNew.alloc {w : World} {g n H : Nat} {ns : List NodeD} (h : NNew w g n H ns) (o : Obj) : NNew (w.alloc o) g n H ns := h.below (Nat.le_refl _) ((Below.refl _ _).alloc (Nat.le_refl _) _)
theorem NNew.but {S : Nat → Prop} {w w' : World} {g n H : Nat} {ns : List NodeD} (h : NNew w g n H ns) (hb : But S w w') (hn : ∀ x, g ≤ x → x < H → ¬ S x) : NNew w' g n H ns := by
  obtain ⟨h0, h1, h2, h3, f, s1, s2, h4⟩ := h
  exact ⟨h0, h1, h2, h3, f, s1, s2, h4.but hb hn h0⟩

theorem NNew.row {w : World} {g n H : Nat} {ns : List NodeD} (h : NNew w g n H ns) : NRow w (some ⟨g, 0, none⟩) n ns := by
  obtain ⟨h0, h1, h2, h3, f, s1, s2, h4⟩ := h
  refine ⟨h1, h2, .inr ⟨g, 0, rfl, h4.row.lt, fun i hi => ?_⟩⟩
  obtain ⟨e0, e1, e2, e3, e4, e5⟩ := h4.cells i hi
  obtain ⟨b1, b2⟩ := h4.blk i hi
  have hs := h3 i hi
  refine ⟨_, _, (node ns i).nums.length, _, _, (node ns i).kids.length, ?_, ?_, ?_, ?_, ?_, ?_, b1.row rfl (by omega), b2.row rfl (by omega)⟩
  · rw [Nat.zero_add, h4.row.cell (by omega), e0]
  · rw [Nat.zero_add, h4.row.cell (by omega), e1]
  · rw [Nat.zero_add, h4.row.cell (by omega), e2]
  · rw [Nat.zero_add, h4.row.cell (by omega), e3]
  · rw [Nat.zero_add, h4.row.cell (by omega), e4]
  · rw [Nat.zero_add, h4.row.cell (by omega), e5]

set_option maxHeartbeats 2000000 in
theorem toNode_any (k n m : Int) (s : ByteArray) (a1 a2 : Option Addr) (n1 n2 c1 c2 : Nat) (nums kids : List Int) (w : World) (h1 : Row w a1 n1 nums) (h2 : Row w a2 n2 kids) :
    Calls Tryz.prog 57 #[.agg #[.int .i64 k, .int .i64 n, .int .i64 m, .string s, .slice a1 n1 c1, .slice a2 n2 c2]] w fun e w' => ∃ g1 g2, e = .returned (.agg #[.int .i64 k, .int .i64 n, .int .i64 m, .string s, .slice (some ⟨g1, 0, none⟩) n1 n1, .slice (some ⟨g2, 0, none⟩) n2 n2]) ∧ w.heap.size ≤ g1 ∧ g1 < g2 ∧ Blk w' g1 nums ∧ Blk w' g2 kids ∧ Below w.heap.size w w' := by
  go_enter Tryz.func57, Tryz.ntmps57
  go_wp2_with fail
  refine (toIntS_any _ _ _ nums _ (by exact h1.below (Nat.le_refl _) (by repeat (first | exact Below.refl _ _ | refine Below.setCell ?_ (by simp <;> omega) _ | refine Below.alloc ?_ (by simp <;> omega) _)))).mono ?_
  rintro e w1 ⟨g1, rfl, hg1, hb1, hbe1⟩
  obtain ⟨hc, hf⟩ := bcell hbe1
  have hz := hbe1.size
  have hbW : Below w.heap.size w w1 := Below.trans (by repeat (first | exact Below.refl _ _ | refine Below.setCell ?_ (by simp <;> omega) _ | refine Below.alloc ?_ (by simp <;> omega) _)) (hbe1.mono (by simp <;> omega))
  simp at hc hf hz hg1
  have hz0 : w.heap.size < w1.heap.size := by omega
  have hz1 : w.heap.size + 1 < w1.heap.size := by omega
  have hz3 : w.heap.size + 1 + 1 < w1.heap.size := by omega
  clear hbe1
  go_wp2_with fail
  refine (toIntS_any _ _ _ kids _ (by exact h2.below (Nat.le_refl _) (hbW.setCell (by simp <;> omega) _))).mono ?_
  rintro e w2 ⟨g2, rfl, hg2, hb2, hbe2⟩
  obtain ⟨hc2, hf2⟩ := bcell hbe2
  have hz2 := hbe2.size
  have hbW2 : Below w.heap.size w w2 := (hbW.setCell (p := ⟨w.heap.size + 1 + 1, 4, none⟩) (by simp <;> omega) _).trans (hbe2.mono (by simp <;> omega))
  have hb1' : Blk w2 g1 nums := (hb1.other (p := ⟨w.heap.size + 1 + 1, 4, none⟩) (by simp; omega) _).below (Nat.le_refl _) hbe2
  simp at hc2 hf2 hz2 hg2
  clear hbe2
  go_wp2
  refine bodyPost_ret (v := .agg #[.int .i64 k, .int .i64 n, .int .i64 m, .string s, .slice (some ⟨g1, 0, none⟩) n1 n1, .slice (some ⟨g2, 0, none⟩) n2 n2]) (by simp [results, Tryz.results57, go_sem, hc2, hc, hz1]) rfl ⟨g1, g2, rfl, by omega, ?_, ?_, ?_, ?_⟩
  · have := hb1.lt; omega
  · repeat (first | with_reducible exact hb1' | refine Blk.other ?_ (by simp; omega) _)
  · repeat (first | with_reducible exact hb2 | refine Blk.other ?_ (by simp; omega) _)
  · repeat (first | with_reducible exact hbW2 | refine Below.setCell ?_ (by simp <;> omega) _)

theorem six_set {w : World} {g n k H g1 g2 : Nat} {ns : List NodeD} {f : Nat → Value} {s1 s2 : Nat → Nat} {w1 : World} (h : NMid w g n k H ns f s1 s2) (hk : k < n) (hb : Below w.heap.size w w1)
    (h1 : w.heap.size ≤ g1) (h2 : g1 < g2) (b1 : Blk w1 g1 (node ns k).nums) (b2 : Blk w1 g2 (node ns k).kids) :
    ∃ f' s1' s2', NMid ((((((w1.setCell ⟨g, k * 6, none⟩ (.int .i64 (node ns k).k)).setCell ⟨g, k * 6 + 1, none⟩ (.int .i64 (node ns k).n)).setCell ⟨g, k * 6 + 2, none⟩ (.int .i64 (node ns k).m)).setCell ⟨g, k * 6 + 3, none⟩ (.string (node ns k).s)).setCell ⟨g, k * 6 + 4, none⟩ (.slice (some ⟨g1, 0, none⟩) (node ns k).nums.length (node ns k).nums.length)).setCell ⟨g, k * 6 + 5, none⟩ (.slice (some ⟨g2, 0, none⟩) (node ns k).kids.length (node ns k).kids.length)) g n (k + 1) w1.heap.size ns f' s1' s2' := by
  have hg := h.row.lt
  have hm := h.below (Nat.le_refl _) hb
  have hr := (((((hm.row.set (k * 6) (.int .i64 (node ns k).k)).set (k * 6 + 1) (.int .i64 (node ns k).n)).set (k * 6 + 2) (.int .i64 (node ns k).m)).set (k * 6 + 3) (.string (node ns k).s)).set (k * 6 + 4) (.slice (some ⟨g1, 0, none⟩) (node ns k).nums.length (node ns k).nums.length)).set (k * 6 + 5) (.slice (some ⟨g2, 0, none⟩) (node ns k).kids.length (node ns k).kids.length)
  refine ⟨_, fun i => if i = k then g1 else s1 i, fun i => if i = k then g2 else s2 i, hr, by simp, ?_, ?_, ?_, ?_⟩
  · intro i hi
    by_cases e : i = k
    · subst e
      refine ⟨?_, ?_, ?_, ?_, ?_, ?_⟩
      · (try dsimp only); rw [if_neg (by omega), if_neg (by omega), if_neg (by omega), if_neg (by omega), if_neg (by omega), if_pos rfl]
      · (try dsimp only); rw [if_neg (by omega), if_neg (by omega), if_neg (by omega), if_neg (by omega), if_pos rfl]
      · (try dsimp only); rw [if_neg (by omega), if_neg (by omega), if_neg (by omega), if_pos rfl]
      · (try dsimp only); rw [if_neg (by omega), if_neg (by omega), if_pos rfl]
      · (try dsimp only); rw [if_neg (by omega), if_pos rfl, if_pos rfl]
      · (try dsimp only); rw [if_pos rfl, if_pos rfl]
    · obtain ⟨c0, c1, c2, c3, c4, c5⟩ := h.cells i (by omega)
      refine ⟨?_, ?_, ?_, ?_, ?_, ?_⟩
      · (try dsimp only); rw [if_neg (by omega), if_neg (by omega), if_neg (by omega), if_neg (by omega), if_neg (by omega), if_neg (by omega)]; exact c0
      · (try dsimp only); rw [if_neg (by omega), if_neg (by omega), if_neg (by omega), if_neg (by omega), if_neg (by omega), if_neg (by omega)]; exact c1
      · (try dsimp only); rw [if_neg (by omega), if_neg (by omega), if_neg (by omega), if_neg (by omega), if_neg (by omega), if_neg (by omega)]; exact c2
      · (try dsimp only); rw [if_neg (by omega), if_neg (by omega), if_neg (by omega), if_neg (by omega), if_neg (by omega), if_neg (by omega)]; exact c3
      · (try dsimp only); rw [if_neg (by omega), if_neg (by omega), if_neg (by omega), if_neg (by omega), if_neg (by omega), if_neg (by omega), if_neg e]; exact c4
      · (try dsimp only); rw [if_neg (by omega), if_neg (by omega), if_neg (by omega), if_neg (by omega), if_neg (by omega), if_neg (by omega), if_neg e]; exact c5
  · intro i hi
    by_cases e : i = k
    · subst e
      (try dsimp only); rw [if_pos rfl, if_pos rfl]
      exact ⟨(((((b1.other (by simp; omega) _).other (by simp; omega) _).other (by simp; omega) _).other (by simp; omega) _).other (by simp; omega) _).other (by simp; omega) _, (((((b2.other (by simp; omega) _).other (by simp; omega) _).other (by simp; omega) _).other (by simp; omega) _).other (by simp; omega) _).other (by simp; omega) _⟩
    · have hl := h.low i (by omega)
      obtain ⟨d1, d2⟩ := hm.blk i (by omega)
      (try dsimp only); rw [if_neg e, if_neg e]
      exact ⟨(((((d1.other (by simp; omega) _).other (by simp; omega) _).other (by simp; omega) _).other (by simp; omega) _).other (by simp; omega) _).other (by simp; omega) _, (((((d2.other (by simp; omega) _).other (by simp; omega) _).other (by simp; omega) _).other (by simp; omega) _).other (by simp; omega) _).other (by simp; omega) _⟩
  · intro i hi
    by_cases e : i = k
    · subst e
      have := b2.lt
      (try dsimp only); rw [if_pos rfl, if_pos rfl]; omega
    · have hl := h.low i (by omega)
      have := h.hi
      have := hb.size
      (try dsimp only); rw [if_neg e, if_neg e]; omega
  · intro i j hij hj
    (try dsimp only)
    rw [if_neg (by omega)]
    by_cases e : j = k
    · rw [if_pos e]; have := h.low i (by omega); have := h.hi; omega
    · rw [if_neg e]; exact h.apart i j hij (by omega)

set_option maxHeartbeats 4000000 in
theorem toNodeS_any (a : Option Addr) (n cap : Nat) (ns : List NodeD) (w : World) (h : NRow w a n ns) (hsm : SmallD ns n) :
    Calls Tryz.prog 28 #[.slice a n cap] w fun e w' => ∃ g, e = .returned (.slice (some ⟨g, 0, none⟩) n n) ∧ w.heap.size ≤ g ∧ NNew w' g n w'.heap.size ns ∧ Below w.heap.size w w' := by
  have hn := h.small
  have H := hide h
  have HSM := hide hsm
  clear h hsm
  obtain ⟨i0, hi, hz0, hz1, hz2⟩ := info_parts info_node
  go_enter Tryz.func28, Tryz.ntmps28
  go_wp2_with (at_make; refine wpList_make_full _ rfl _ _ 27 rfl w.heap.size 47 i0 (.agg #[.int .i64 0, .int .i64 0, .int .i64 0, .string ⟨#[]⟩, .slice none 0 0, .slice none 0 0]) 6 Tryz.underlying27 hi hz0 hz1 _ _ _ _ n rfl rfl rfl rfl (by rw [hz2]; omega) (by unfold maxLen; omega) (Nat.le_refl _) ?_; intro w1 hown hgrow)
  have hbel : Below w.heap.size w w1 := (Below.refl _ _).grown hgrow (Nat.le_refl _) (by simp)
  have hrow : ∃ f, w1.rowIs w.heap.size 47 (n * 6) f := by
    rcases hown.2 with ⟨h', _⟩ | ⟨g', cap', cur, h', _, hg, _, _, hs, _⟩
    · simp at h'
    · simp only [Value.slice.injEq, Option.some.injEq, Addr.mk.injEq, and_true, true_and] at h'
      obtain ⟨rfl, rfl⟩ := h'
      exact ⟨fun i => cur.getD i default, cur, hg, hs, fun i hi => by simp [Array.getD, show i < cur.size by omega]⟩
  obtain ⟨f0, hrow⟩ := hrow
  have HST : Hid (NMid w1 w.heap.size n 0 w1.heap.size ns f0 (fun _ => 0) (fun _ => 0)) := ⟨hrow, Nat.le_refl _, fun i hi => by omega, fun i hi => by omega, fun i hi => by omega, fun i j _ hj => by omega⟩
  have HBEL := hide hbel
  clear hown hgrow hi hz0 hz1 hz2 hrow hbel
  go_wp2_with fail
  go_loopw [4] (fun i wr => ∃ k : Nat, k ≤ n ∧ i = .int .i64 k ∧ Hid (∃ f s1 s2, NMid wr w.heap.size n k wr.heap.size ns f s1 s2) ∧ Hid (Below w.heap.size w wr)) (fun i _ => n - (intOf i).toNat)
  case atStart => exact ⟨0, Nat.zero_le _, rfl, ⟨_, _, _, unhide HST⟩, unhide HBEL⟩
  case round =>
    obtain ⟨k, hk, rfl, HX, HB⟩ := hrel
    clear HST HBEL
    by_cases hlt : k < n
    · obtain ⟨b, off, rfl, hbs, t1, n1, c1, t2, n2, c2, e0, e1, e2, e3, e4, e5, r1, r2⟩ := ((unhide H).below (Nat.le_refl _) (unhide HB)).get hlt
      have HR1 := hide r1
      have HR2 := hide r2
      obtain ⟨f, s1, s2, hm⟩ := unhide HX
      have HM := hide hm
      have x0 := hm.row.cell (i := k * 6) (by omega)
      have x1 := hm.row.cell (i := k * 6 + 1) (by omega)
      have x2 := hm.row.cell (i := k * 6 + 2) (by omega)
      have x3 := hm.row.cell (i := k * 6 + 3) (by omega)
      have x4 := hm.row.cell (i := k * 6 + 4) (by omega)
      have x5 := hm.row.cell (i := k * 6 + 5) (by omega)
      have y0 := hm.row.frozen (k * 6)
      have y1 := hm.row.frozen (k * 6 + 1)
      have y2 := hm.row.frozen (k * 6 + 2)
      have y3 := hm.row.frozen (k * 6 + 3)
      have y4 := hm.row.frozen (k * 6 + 4)
      have y5 := hm.row.frozen (k * 6 + 5)
      have hgl := hm.row.lt
      clear HX r1 r2 hm
      obtain ⟨xk, hxk⟩ : ∃ x, x = (node ns k).k := ⟨_, rfl⟩
      obtain ⟨xn, hxn⟩ : ∃ x, x = (node ns k).n := ⟨_, rfl⟩
      obtain ⟨xm, hxm⟩ : ∃ x, x = (node ns k).m := ⟨_, rfl⟩
      obtain ⟨xs, hxs⟩ : ∃ x, x = (node ns k).s := ⟨_, rfl⟩
      rw [← hxk] at e0
      rw [← hxn] at e1
      rw [← hxm] at e2
      rw [← hxs] at e3
      have HXX := hide (And.intro hxk (And.intro hxn (And.intro hxm hxs)))
      clear hxk hxn hxm hxs
      go_wp2_with fail
      refine (toNode_any _ _ _ _ _ _ _ _ _ _ (node ns k).nums (node ns k).kids _ (by exact unhide HR1) (by exact unhide HR2)).mono ?_
      rintro e w2 ⟨g1, g2, rfl, hg1, hg2, hb1, hb2, hbe⟩
      obtain ⟨hc, hf⟩ := bcell hbe
      rw [← hc _ _ hgl] at x0 x1 x2 x3 x4 x5
      rw [← hf _ _ hgl] at y0 y1 y2 y3 y4 y5
      have hz := hbe.size
      have hg' : w.heap.size < w2.heap.size := by omega
      have HFS : Hid (∃ f' s1' s2', NMid ((((((w2.setCell ⟨w.heap.size, k * 6, none⟩ (.int .i64 xk)).setCell ⟨w.heap.size, k * 6 + 1, none⟩ (.int .i64 xn)).setCell ⟨w.heap.size, k * 6 + 2, none⟩ (.int .i64 xm)).setCell ⟨w.heap.size, k * 6 + 3, none⟩ (.string xs)).setCell ⟨w.heap.size, k * 6 + 4, none⟩ (.slice (some ⟨g1, 0, none⟩) n1 n1)).setCell ⟨w.heap.size, k * 6 + 5, none⟩ (.slice (some ⟨g2, 0, none⟩) n2 n2)) w.heap.size n (k + 1) w2.heap.size ns f' s1' s2') := by
        have := six_set (unhide HM) hlt hbe hg1 hg2 hb1 hb2
        rw [← (unhide HXX).1, ← (unhide HXX).2.1, ← (unhide HXX).2.2.1, ← (unhide HXX).2.2.2, (unhide HR1).len, (unhide HR2).len] at this
        exact this
      have HB2 := hide ((unhide HB).trans (hbe.mono (unhide HB).size))
      clear hc hf hbe HB HM hb1 hb2 HR1 HR2 HXX e0 e1 e2 e3 e4 e5 hg1 hg2 hz hgl
      go_wp2_with fail
      go_roundw
      case rel =>
        refine ⟨k + 1, by omega, by go_num, ?_, ?_⟩
        · obtain ⟨f', s1', s2', h'⟩ := unhide HFS
          exact ⟨f', s1', s2', by simpa using h'⟩
        · exact ((((((unhide HB2).setCell (Nat.le_refl _) _).setCell (Nat.le_refl _) _).setCell (Nat.le_refl _) _).setCell (Nat.le_refl _) _).setCell (Nat.le_refl _) _).setCell (Nat.le_refl _) _
      case measure => simp [intOf]; omega
    · have hkn : k = n := by omega
      subst hkn
      go_wp2
      go_ret
      obtain ⟨f, s1, s2, hm⟩ := unhide HX
      exact ⟨_, rfl, Nat.le_refl _, ⟨hm.row.lt, (unhide H).len, hn, unhide HSM, f, s1, s2, hm⟩, unhide HB⟩

set_option maxHeartbeats 2000000 in
theorem toTree_any (a : Option Addr) (n cap : Nat) (ns : List NodeD) (w : World) (h : NRow w a n ns) (hsm : SmallD ns n) :
    Calls Tryz.prog 9 #[.agg #[.slice a n cap]] w fun e w' => ∃ g, e = .returned (.agg #[.slice (some ⟨g, 0, none⟩) n n]) ∧ w.heap.size ≤ g ∧ NNew w' g n w'.heap.size ns ∧ Below w.heap.size w w' := by
  go_enter Tryz.func9, Tryz.ntmps9
  go_wp2_with fail
  refine (toNodeS_any _ _ _ ns _ (by exact h.below (Nat.le_refl _) (by repeat (first | exact Below.refl _ _ | refine Below.alloc ?_ (by simp <;> omega) _))) hsm).mono ?_
  rintro e w1 ⟨g, rfl, hg, hN, hbe⟩
  obtain ⟨hc, hf⟩ := bcell hbe
  have hz := hbe.size
  have hbW : Below w.heap.size w w1 := Below.trans (by repeat (first | exact Below.refl _ _ | refine Below.alloc ?_ (by simp <;> omega) _)) (hbe.mono (by simp <;> omega))
  simp at hc hf hz hg
  have hz0 : w.heap.size < w1.heap.size := by omega
  have hz1 : w.heap.size + 1 < w1.heap.size := by omega
  clear hbe
  go_wp2
  refine bodyPost_ret (v := .agg #[.slice (some ⟨g, 0, none⟩) n n]) (by simp [results, Tryz.results9, go_sem, hc]) rfl ⟨g, rfl, by omega, ?_, ?_⟩
  · have h1 := hN.but (But.setCell (S := fun x => x = w.heap.size + 1 ∨ x = w.heap.size + 1 + 1) (But.setCell (But.refl _ w1) (p := ⟨w.heap.size + 1 + 1, 0, none⟩) (.inr rfl) (.slice (some ⟨g, 0, none⟩) n n)) (p := ⟨w.heap.size + 1, 0, none⟩) (.inl rfl) (.slice (some ⟨g, 0, none⟩) n n)) (fun x h1 h2 h3 => by omega)
    simpa using h1
  · repeat (first | with_reducible exact hbW | refine Below.setCell ?_ (by simp <;> omega) _)

end Go.Proofs.YtmgjicgojlkpcaaGreatDoor
