import Derived.Test.YtngbmcljhcckmaaPRows
import Derived.Test.YtngbmcljhcckmaaMBase
import Derived.Test.YtngbmcljhcckmaaMBase
import Derived.Deep.OwnRows
import Derived.BigQuiet
namespace Go.Proofs.Ytngbmcljhcckmaa
open Go.RowKit

theorem info_part : (Try.prog.info? 96).map (fun i => (i.zero, i.size, i.bytes)) = some (some (.agg #[.bool false, .bool false, .slice none 0 0, .slice none 0 0]), 4, 64) := by kernel_rfl

/-- The first k of n parts lie in block g, each list in a block of its own, all below H. -/
structure PMid (w : World) (g n k H : Nat) (ps : List PartD) (f : Nat → Value) (s1 s2 : Nat → Nat) : Prop where
  row : w.rowIs g 96 (n * 4) f
  hi : H ≤ w.heap.size
  cells : ∀ i, i < k → f (i * 4) = .bool (part ps i).all ∧ f (i * 4 + 1) = .bool (part ps i).c ∧ f (i * 4 + 2) = .slice (some ⟨s1 i, 0, none⟩) (part ps i).sh.length (part ps i).sh.length ∧ f (i * 4 + 3) = .slice (some ⟨s2 i, 0, none⟩) (part ps i).dt.length (part ps i).dt.length
  blk : ∀ i, i < k → Blk w (s1 i) (part ps i).sh ∧ Blk w (s2 i) (part ps i).dt
  low : ∀ i, i < k → g < s1 i ∧ s1 i < s2 i ∧ s2 i < H
  apart : ∀ i j, i < j → j < k → s2 i < s1 j

theorem PMid.below {w w' : World} {g n k H B : Nat} {ps : List PartD} {f : Nat → Value} {s1 s2 : Nat → Nat} (h : PMid w g n k H ps f s1 s2) (hB : w.heap.size ≤ B) (hb : Below B w w') : PMid w' g n k H ps f s1 s2 :=
  ⟨h.row.of_block (hb.block g (Nat.lt_of_lt_of_le h.row.lt hB)), Nat.le_trans h.hi hb.size, h.cells, fun i hi => ⟨(h.blk i hi).1.below hB hb, (h.blk i hi).2.below hB hb⟩, h.low, h.apart⟩

theorem PMid.alloc {w : World} {g n k H : Nat} {ps : List PartD} {f : Nat → Value} {s1 s2 : Nat → Nat} (h : PMid w g n k H ps f s1 s2) (o : Obj) : PMid (w.alloc o) g n k H ps f s1 s2 := h.below (Nat.le_refl _) ((Below.refl _ _).alloc (Nat.le_refl _) _)

theorem PMid.mono {w : World} {g n k H H' : Nat} {ps : List PartD} {f : Nat → Value} {s1 s2 : Nat → Nat} (h : PMid w g n k H ps f s1 s2) (h1 : H ≤ H') (h2 : H' ≤ w.heap.size) : PMid w g n k H' ps f s1 s2 :=
  ⟨h.row, h2, h.cells, h.blk, fun i hi => by have := h.low i hi; omega, h.apart⟩

theorem PMid.but {S : Nat → Prop} {w w' : World} {g n k H : Nat} {ps : List PartD} {f : Nat → Value} {s1 s2 : Nat → Nat} (h : PMid w g n k H ps f s1 s2) (hb : But S w w') (hn : ∀ x, g ≤ x → x < H → ¬ S x) (hg : g < H) : PMid w' g n k H ps f s1 s2 :=
  ⟨h.row.of_block (hb.block g h.row.lt (hn g (Nat.le_refl _) hg)), Nat.le_trans h.hi hb.size, h.cells,
    fun i hi => ⟨(hb.block _ (h.blk i hi).1.lt (hn _ (by have := h.low i hi; omega) (by have := h.low i hi; omega))).trans (h.blk i hi).1, (hb.block _ (h.blk i hi).2.lt (hn _ (by have := h.low i hi; omega) (by have := h.low i hi; omega))).trans (h.blk i hi).2⟩, h.low, h.apart⟩

/-- What toPartS gives: the parts in block g, new memory below H. -/
def PNew (w : World) (g n H : Nat) (ps : List PartD) : Prop := g < H ∧ ps.length = n ∧ n ≤ 1048576 ∧ SmallN ps n ∧ ∃ f s1 s2, PMid w g n n H ps f s1 s2

theorem PNew.below {w w' : World} {g n H B : Nat} {ps : List PartD} (h : PNew w g n H ps) (hB : w.heap.size ≤ B) (hb : Below B w w') : PNew w' g n H ps := by
  obtain ⟨h0, h1, h2, h3, f, s1, s2, h4⟩ := h
  exact ⟨h0, h1, h2, h3, f, s1, s2, h4.below hB hb⟩
theorem PNew.alloc {w : World} {g n H : Nat} {ps : List PartD} (h : PNew w g n H ps) (o : Obj) : PNew (w.alloc o) g n H ps := h.below (Nat.le_refl _) ((Below.refl _ _).alloc (Nat.le_refl _) _)
theorem PNew.but {S : Nat → Prop} {w w' : World} {g n H : Nat} {ps : List PartD} (h : PNew w g n H ps) (hb : But S w w') (hn : ∀ x, g ≤ x → x < H → ¬ S x) : PNew w' g n H ps := by
  obtain ⟨h0, h1, h2, h3, f, s1, s2, h4⟩ := h
  exact ⟨h0, h1, h2, h3, f, s1, s2, h4.but hb hn h0⟩

theorem PNew.row {w : World} {g n H : Nat} {ps : List PartD} (h : PNew w g n H ps) : PRow w (some ⟨g, 0, none⟩) n ps := by
  obtain ⟨h0, h1, h2, h3, f, s1, s2, h4⟩ := h
  refine ⟨h1, h2, .inr ⟨g, 0, rfl, h4.row.lt, fun i hi => ?_⟩⟩
  obtain ⟨e1, e2, e3, e4⟩ := h4.cells i hi
  obtain ⟨b1, b2⟩ := h4.blk i hi
  have hs := h3 i hi
  refine ⟨_, _, (part ps i).sh.length, _, _, (part ps i).dt.length, ?_, ?_, ?_, ?_, b1.row rfl (by omega), b2.row rfl (by omega)⟩
  · rw [Nat.zero_add, h4.row.cell (by omega), e1]
  · rw [Nat.zero_add, h4.row.cell (by omega), e2]
  · rw [Nat.zero_add, h4.row.cell (by omega), e3]
  · rw [Nat.zero_add, h4.row.cell (by omega), e4]

theorem PNew.rowN {w : World} {g n H : Nat} {ps : List PartD} (h : PNew w g n H ps) : PRowN w (some ⟨g, 0, none⟩) n ps := by
  refine ⟨h.row, fun b off e _ i hi _ => ?_⟩
  cases e
  obtain ⟨h0, h1, h2, h3, f, s1, s2, h4⟩ := h
  obtain ⟨e1, e2, e3, e4⟩ := h4.cells i hi
  exact ⟨_, _, _, by rw [Nat.zero_add, h4.row.cell (by omega), e3]⟩

set_option maxHeartbeats 2000000 in
theorem toPart_any (b c : Bool) (a1 a2 : Option Addr) (n1 n2 c1 c2 : Nat) (sh dt : List Int) (w : World) (h1 : Row w a1 n1 sh) (h2 : Row w a2 n2 dt) :
    Calls Try.prog 79 #[.agg #[.bool b, .bool c, .slice a1 n1 c1, .slice a2 n2 c2]] w fun e w' => ∃ g1 g2, e = .returned (.agg #[.bool b, .bool c, .slice (some ⟨g1, 0, none⟩) n1 n1, .slice (some ⟨g2, 0, none⟩) n2 n2]) ∧ w.heap.size ≤ g1 ∧ g1 < g2 ∧ Blk w' g1 sh ∧ Blk w' g2 dt ∧ Below w.heap.size w w' := by
  go_enter Try.func79, Try.ntmps79
  go_wp2_with fail
  refine (toArray_any _ _ _ _ _ _ _ sh dt _ (by exact h1.below (Nat.le_refl _) (by repeat (first | exact Below.refl _ _ | refine Below.setCell ?_ (by simp <;> omega) _ | refine Below.alloc ?_ (by simp <;> omega) _))) (by exact h2.below (Nat.le_refl _) (by repeat (first | exact Below.refl _ _ | refine Below.setCell ?_ (by simp <;> omega) _ | refine Below.alloc ?_ (by simp <;> omega) _)))).mono ?_
  rintro e w1 ⟨g1, g2, rfl, hg1, hg2, hb1, hb2, hbe1⟩
  obtain ⟨hc, hf⟩ := bcell hbe1
  have hz := hbe1.size
  have hbW : Below w.heap.size w w1 := Below.trans (by repeat (first | exact Below.refl _ _ | refine Below.setCell ?_ (by simp <;> omega) _ | refine Below.alloc ?_ (by simp <;> omega) _)) (hbe1.mono (by simp <;> omega))
  simp at hc hf hz hg1
  have hz0 : w.heap.size < w1.heap.size := by omega
  have hz1 : w.heap.size + 1 < w1.heap.size := by omega
  have hz3 : w.heap.size + 1 + 1 < w1.heap.size := by omega
  clear hbe1
  go_wp2
  refine bodyPost_ret (v := .agg #[.bool b, .bool c, .slice (some ⟨g1, 0, none⟩) n1 n1, .slice (some ⟨g2, 0, none⟩) n2 n2]) (by simp [results, Try.results79, go_sem, hc]) rfl ⟨g1, g2, rfl, by omega, hg2, ?_, ?_, ?_⟩
  · repeat (first | with_reducible exact hb1 | refine Blk.other ?_ (by simp; omega) _)
  · repeat (first | with_reducible exact hb2 | refine Blk.other ?_ (by simp; omega) _)
  · repeat (first | with_reducible exact hbW | refine Below.setCell ?_ (by simp <;> omega) _)

theorem four_set {w : World} {g n k H g1 g2 : Nat} {ps : List PartD} {f : Nat → Value} {s1 s2 : Nat → Nat} {w1 : World} (h : PMid w g n k H ps f s1 s2) (hk : k < n) (hb : Below w.heap.size w w1)
    (h1 : w.heap.size ≤ g1) (h2 : g1 < g2) (b1 : Blk w1 g1 (part ps k).sh) (b2 : Blk w1 g2 (part ps k).dt) :
    ∃ f' s1' s2', PMid ((((w1.setCell ⟨g, k * 4, none⟩ (.bool (part ps k).all)).setCell ⟨g, k * 4 + 1, none⟩ (.bool (part ps k).c)).setCell ⟨g, k * 4 + 2, none⟩ (.slice (some ⟨g1, 0, none⟩) (part ps k).sh.length (part ps k).sh.length)).setCell ⟨g, k * 4 + 3, none⟩ (.slice (some ⟨g2, 0, none⟩) (part ps k).dt.length (part ps k).dt.length)) g n (k + 1) w1.heap.size ps f' s1' s2' := by
  have hg := h.row.lt
  have hm := h.below (Nat.le_refl _) hb
  have hr := (((hm.row.set (k * 4) (.bool (part ps k).all)).set (k * 4 + 1) (.bool (part ps k).c)).set (k * 4 + 2) (.slice (some ⟨g1, 0, none⟩) (part ps k).sh.length (part ps k).sh.length)).set (k * 4 + 3) (.slice (some ⟨g2, 0, none⟩) (part ps k).dt.length (part ps k).dt.length)
  refine ⟨_, fun i => if i = k then g1 else s1 i, fun i => if i = k then g2 else s2 i, hr, by simp, ?_, ?_, ?_, ?_⟩
  · intro i hi
    by_cases e : i = k
    · subst e
      refine ⟨?_, ?_, ?_, ?_⟩
      · (try dsimp only); rw [if_neg (by omega), if_neg (by omega), if_neg (by omega), if_pos rfl]
      · (try dsimp only); rw [if_neg (by omega), if_neg (by omega), if_pos rfl]
      · (try dsimp only); rw [if_neg (by omega), if_pos rfl, if_pos rfl]
      · (try dsimp only); rw [if_pos rfl, if_pos rfl]
    · obtain ⟨c1, c2, c3, c4⟩ := h.cells i (by omega)
      refine ⟨?_, ?_, ?_, ?_⟩
      · (try dsimp only); rw [if_neg (by omega), if_neg (by omega), if_neg (by omega), if_neg (by omega)]; exact c1
      · (try dsimp only); rw [if_neg (by omega), if_neg (by omega), if_neg (by omega), if_neg (by omega)]; exact c2
      · (try dsimp only); rw [if_neg (by omega), if_neg (by omega), if_neg (by omega), if_neg (by omega), if_neg e]; exact c3
      · (try dsimp only); rw [if_neg (by omega), if_neg (by omega), if_neg (by omega), if_neg (by omega), if_neg e]; exact c4
  · intro i hi
    by_cases e : i = k
    · subst e
      (try dsimp only); rw [if_pos rfl, if_pos rfl]
      exact ⟨(((b1.other (by simp; omega) _).other (by simp; omega) _).other (by simp; omega) _).other (by simp; omega) _, (((b2.other (by simp; omega) _).other (by simp; omega) _).other (by simp; omega) _).other (by simp; omega) _⟩
    · have hl := h.low i (by omega)
      obtain ⟨d1, d2⟩ := hm.blk i (by omega)
      (try dsimp only); rw [if_neg e, if_neg e]
      exact ⟨(((d1.other (by simp; omega) _).other (by simp; omega) _).other (by simp; omega) _).other (by simp; omega) _, (((d2.other (by simp; omega) _).other (by simp; omega) _).other (by simp; omega) _).other (by simp; omega) _⟩
  · intro i hi
    by_cases e : i = k
    · subst e
      have := b2.lt
      (try dsimp only); rw [if_pos rfl, if_pos rfl]; omega
    · have hl := h.low i (by omega)
      have := h.hi
      have := hb.size
      (try dsimp only); rw [if_neg e, if_neg e]; omega
  · intro i j hij hj
    (try dsimp only)
    rw [if_neg (by omega)]
    by_cases e : j = k
    · rw [if_pos e]; have := h.low i (by omega); have := h.hi; omega
    · rw [if_neg e]; exact h.apart i j hij (by omega)

set_option maxHeartbeats 2000000 in
theorem toPartS_any (a : Option Addr) (n cap : Nat) (ps : List PartD) (w : World) (h : PRow w a n ps) (hsm : SmallN ps n) :
    Calls Try.prog 27 #[.slice a n cap] w fun e w' => ∃ g, e = .returned (.slice (some ⟨g, 0, none⟩) n n) ∧ w.heap.size ≤ g ∧ PNew w' g n w'.heap.size ps ∧ Below w.heap.size w w' := by
  have hn := h.small
  have H := hide h
  have HSM := hide hsm
  clear h hsm
  obtain ⟨i0, hi, hz0, hz1, hz2⟩ := info_parts info_part
  go_enter Try.func27, Try.ntmps27
  go_wp2_with (at_make; refine wpList_make_full _ rfl _ _ 44 rfl w.heap.size 96 i0 (.agg #[.bool false, .bool false, .slice none 0 0, .slice none 0 0]) 4 Try.underlying44 hi hz0 hz1 _ _ _ _ n rfl rfl rfl rfl (by rw [hz2]; omega) (by unfold maxLen; omega) (Nat.le_refl _) ?_; intro w1 hown hgrow)
  have hbel : Below w.heap.size w w1 := (Below.refl _ _).grown hgrow (Nat.le_refl _) (by simp)
  have hrow : ∃ f, w1.rowIs w.heap.size 96 (n * 4) f := by
    rcases hown.2 with ⟨h', _⟩ | ⟨g', cap', cur, h', _, hg, _, _, hs, _⟩
    · simp at h'
    · simp only [Value.slice.injEq, Option.some.injEq, Addr.mk.injEq, and_true, true_and] at h'
      obtain ⟨rfl, rfl⟩ := h'
      exact ⟨fun i => cur.getD i default, cur, hg, hs, fun i hi => by simp [Array.getD, show i < cur.size by omega]⟩
  obtain ⟨f0, hrow⟩ := hrow
  have HST : Hid (PMid w1 w.heap.size n 0 w1.heap.size ps f0 (fun _ => 0) (fun _ => 0)) := ⟨hrow, Nat.le_refl _, fun i hi => by omega, fun i hi => by omega, fun i hi => by omega, fun i j _ hj => by omega⟩
  have HBEL := hide hbel
  clear hown hgrow hi hz0 hz1 hz2 hrow hbel
  go_wp2_with fail
  go_loopw [4] (fun i wr => ∃ k : Nat, k ≤ n ∧ i = .int .i64 k ∧ Hid (∃ f s1 s2, PMid wr w.heap.size n k wr.heap.size ps f s1 s2) ∧ Hid (Below w.heap.size w wr)) (fun i _ => n - (intOf i).toNat)
  case atStart => exact ⟨0, Nat.zero_le _, rfl, ⟨_, _, _, unhide HST⟩, unhide HBEL⟩
  case round =>
    obtain ⟨k, hk, rfl, HX, HB⟩ := hrel
    clear HST HBEL
    by_cases hlt : k < n
    · obtain ⟨b, off, rfl, hbs, t1, n1, c1, t2, n2, c2, e1, e2, e3, e4, e5, e6⟩ := ((unhide H).below (Nat.le_refl _) (unhide HB)).get hlt
      have HE5 := hide e5
      have HE6 := hide e6
      obtain ⟨f, s1, s2, hm⟩ := unhide HX
      have HM := hide hm
      have x0 := hm.row.cell (i := k * 4) (by omega)
      have x1 := hm.row.cell (i := k * 4 + 1) (by omega)
      have x2 := hm.row.cell (i := k * 4 + 2) (by omega)
      have x3 := hm.row.cell (i := k * 4 + 3) (by omega)
      have y0 := hm.row.frozen (k * 4)
      have y1 := hm.row.frozen (k * 4 + 1)
      have y2 := hm.row.frozen (k * 4 + 2)
      have y3 := hm.row.frozen (k * 4 + 3)
      have hgl := hm.row.lt
      clear HX e5 e6 hm
      obtain ⟨pa, hpa⟩ : ∃ x, x = (part ps k).all := ⟨_, rfl⟩
      obtain ⟨pc, hpc⟩ : ∃ x, x = (part ps k).c := ⟨_, rfl⟩
      rw [← hpa] at e1
      rw [← hpc] at e2
      have HPA := hide hpa
      have HPC := hide hpc
      clear hpa hpc
      go_wp2_with fail
      refine (toPart_any _ _ _ _ _ _ _ _ (part ps k).sh (part ps k).dt _ (by exact unhide HE5) (by exact unhide HE6)).mono ?_
      rintro e w2 ⟨g1, g2, rfl, hg1, hg2, hb1, hb2, hbe⟩
      obtain ⟨hc, hf⟩ := bcell hbe
      rw [← hc _ _ hgl] at x0 x1 x2 x3
      rw [← hf _ _ hgl] at y0 y1 y2 y3
      have hz := hbe.size
      have hg' : w.heap.size < w2.heap.size := by omega
      have HFS : Hid (∃ f' s1' s2', PMid ((((w2.setCell ⟨w.heap.size, k * 4, none⟩ (.bool pa)).setCell ⟨w.heap.size, k * 4 + 1, none⟩ (.bool pc)).setCell ⟨w.heap.size, k * 4 + 2, none⟩ (.slice (some ⟨g1, 0, none⟩) n1 n1)).setCell ⟨w.heap.size, k * 4 + 3, none⟩ (.slice (some ⟨g2, 0, none⟩) n2 n2)) w.heap.size n (k + 1) w2.heap.size ps f' s1' s2') := by
        have := four_set (unhide HM) hlt hbe hg1 hg2 hb1 hb2
        rw [← unhide HPA, ← unhide HPC, (unhide HE5).len, (unhide HE6).len] at this
        exact this
      have HB2 := hide ((unhide HB).trans (hbe.mono (unhide HB).size))
      clear hc hf hbe HB HM hb1 hb2 HE5 HE6 HPA HPC e1 e2 e3 e4 hg1 hg2 hz hgl
      go_wp2_with fail
      go_roundw
      case rel =>
        refine ⟨k + 1, by omega, by go_num, ?_, ?_⟩
        · obtain ⟨f', s1', s2', h'⟩ := unhide HFS
          exact ⟨f', s1', s2', by simpa using h'⟩
        · exact ((((unhide HB2).setCell (Nat.le_refl _) _).setCell (Nat.le_refl _) _).setCell (Nat.le_refl _) _).setCell (Nat.le_refl _) _
      case measure => simp [intOf]; omega
    · have hkn : k = n := by omega
      subst hkn
      go_wp2
      go_ret
      obtain ⟨f, s1, s2, hm⟩ := unhide HX
      exact ⟨_, rfl, Nat.le_refl _, ⟨hm.row.lt, (unhide H).len, hn, unhide HSM, f, s1, s2, hm⟩, unhide HB⟩

end Go.Proofs.Ytngbmcljhcckmaa
