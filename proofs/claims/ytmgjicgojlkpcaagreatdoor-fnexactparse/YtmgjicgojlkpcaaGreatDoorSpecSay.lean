import Derived.Test.YtmgjicgojlkpcaaGreatDoorPrintMath3
import Derived.Test.YtmgjicgojlkpcaaGreatDoorSpecConv
import Derived.Test.YtmgjicgojlkpcaaGreatDoorAppSome
import Derived.Test.YtmgjicgojlkpcaaGreatDoorTreeTwo
import Derived.Test.YtmgjicgojlkpcaaGreatDoorNBox
namespace Go.Proofs.YtmgjicgojlkpcaaGreatDoor
open Go.RowKit

/-- The writer in block p: its nodes, what it has written (a list of the call's own, from block B on), and its flag. -/
structure SW (B : Nat) (w : World) (p : Nat) (a : Option Addr) (n cap g gc : Nat) (st : List UInt8 × Bool) : Prop where
  box : w.heap[p]? = some (.cells #[.slice a n cap, .slice (some ⟨g, 0, none⟩) st.1.length gc, .bool st.2] 58 (0, 0))
  own : w.ownsRow B 5 1 (.slice (some ⟨g, 0, none⟩) st.1.length gc) st.1.length ((uz st.1).map (Value.int .u8))
  ne : g ≠ p
  lo : B ≤ w.heap.size

theorem SW.all {B : Nat} {w : World} {p : Nat} {a : Option Addr} {n cap g gc : Nat} {st : List UInt8 × Bool} (h : SW B w p a n cap g gc st) : w.cell? ⟨p, 0, none⟩ = some (.slice a n cap) ∧ w.cell? ⟨p, 1, none⟩ = some (.slice (some ⟨g, 0, none⟩) st.1.length gc) ∧ w.cell? ⟨p, 2, none⟩ = some (.bool st.2) ∧ w.frozen? ⟨p, 0, none⟩ = false ∧ w.frozen? ⟨p, 1, none⟩ = false ∧ w.frozen? ⟨p, 2, none⟩ = false := by
  have hb := h.box
  refine ⟨?_, ?_, ?_, frozen_of_row w p 0 _ _ hb, frozen_of_row w p 1 _ _ hb, frozen_of_row w p 2 _ _ hb⟩ <;> simp [World.cell?, hb]

theorem SW.lt {B : Nat} {w : World} {p : Nat} {a : Option Addr} {n cap g gc : Nat} {st : List UInt8 × Bool} (h : SW B w p a n cap g gc st) : p < w.heap.size ∧ g < w.heap.size ∧ B ≤ g := by
  refine ⟨lt_of_block h.box, ownLt h.own (g := g) rfl, ?_⟩
  rcases h.own.2 with ⟨h', _⟩ | ⟨g', cap', cur, h', hb, _⟩
  · simp at h'
  · cases h'; exact hb

theorem SW.below {B : Nat} {w w' : World} {p : Nat} {a : Option Addr} {n cap g gc : Nat} {st : List UInt8 × Bool} (h : SW B w p a n cap g gc st) (hb : Below w.heap.size w w') : SW B w' p a n cap g gc st :=
  ⟨(hb.block p h.lt.1).trans h.box, ownsB_below h.own (Nat.le_refl _) hb, h.ne, Nat.le_trans h.lo hb.size⟩

/-- What a writing step does: the writer goes on to st', all else stands. -/
def Wrote (B : Nat) (w : World) (p : Nat) (a : Option Addr) (n cap g : Nat) (st' : List UInt8 × Bool) (w' : World) : Prop := ∃ g' gc', SW B w' p a n cap g' gc' st' ∧ But (fun x => x = p ∨ x = g) w w' ∧ (g' = g ∨ w.heap.size ≤ g')

theorem SW.set1 {B : Nat} {w wm w1 : World} {p : Nat} {a : Option Addr} {n cap g gc : Nat} {st : List UInt8 × Bool} (h : SW B w p a n cap g gc st) {g' gc' : Nat} {m : List UInt8} (hbm : Below w.heap.size w wm)
    (hown : w1.ownsRow B 5 1 (.slice (some ⟨g', 0, none⟩) (st.1.length + m.length) gc') (st.1.length + m.length) ((uz st.1).map (Value.int .u8) ++ (uz m).map (Value.int .u8))) (hg : wm.grownBy w1 (some g)) (hat : g' = g ∨ g' = wm.heap.size) :
    SW B (w1.setCell ⟨p, 1, none⟩ (.slice (some ⟨g', 0, none⟩) (st.1.length + m.length) gc')) p a n cap g' gc' (st.1 ++ m, st.2) ∧ But (fun x => x = p ∨ x = g) w (w1.setCell ⟨p, 1, none⟩ (.slice (some ⟨g', 0, none⟩) (st.1.length + m.length) gc')) ∧ (g' = g ∨ w.heap.size ≤ g') := by
  obtain ⟨hp, hgl, hBg⟩ := h.lt
  have hne := h.ne
  have hzm := hbm.size
  have hsz := hg.size
  have hne' : g' ≠ p := by omega
  have hbp : w1.heap[p]? = w.heap[p]? := (hg.block p (by omega) (fun e => hne (by simpa using e.symm))).trans (hbm.block p hp)
  refine ⟨⟨?_, ?_, hne', by simpa using Nat.le_trans h.lo (by omega)⟩, ⟨?_, ?_, ?_, ?_, ?_⟩, by omega⟩
  · have := h.box
    rw [← hbp] at this
    rw [heap_setCell_same w1 p 1 _ _ _ this]
    simp
  · have e : (st.1 ++ m).length = st.1.length + m.length := List.length_append
    show (w1.setCell _ _).ownsRow B 5 1 (.slice (some ⟨g', 0, none⟩) (st.1 ++ m).length gc') (st.1 ++ m).length ((uz (st.1 ++ m)).map (Value.int .u8))
    rw [e, uz_app, List.map_append]
    exact ownBut hown ((But.refl (fun x => x = p) w1).setCell rfl _) hne'
  · exact hg.os.trans hbm.os
  · exact hg.tape.trans hbm.tape
  · exact hg.output.trans hbm.output
  · show w.heap.size ≤ (w1.setCell _ _).heap.size
    simp
    omega
  · intro k hk hS
    rw [heap_setCell_other w1 ⟨p, 1, none⟩ k _ (fun e => hS (.inl e))]
    exact (hg.block k (by omega) (fun e => hS (.inr (by simpa using e)))).trans (hbm.block k hk)

/-- The writer's cell for what is written can be written to. -/
theorem SW.fz {B : Nat} {w wm w1 : World} {p : Nat} {a : Option Addr} {n cap g gc : Nat} {st : List UInt8 × Bool} (h : SW B w p a n cap g gc st) (hbm : Below w.heap.size w wm) (hg : wm.grownBy w1 (some g)) : ((∃ v, w1.cell? ⟨p, 1, none⟩ = some v) ∧ w1.frozen? ⟨p, 1, none⟩ = false) ∧ (∃ v, w1.cell? ⟨p, 2, none⟩ = some v) ∧ w1.frozen? ⟨p, 2, none⟩ = false := by
  obtain ⟨hp, hgl, hBg⟩ := h.lt
  have hne := h.ne
  have hzm := hbm.size
  have hbp : w1.heap[p]? = w.heap[p]? := (hg.block p (by omega) (fun e => hne (by simpa using e.symm))).trans (hbm.block p hp)
  have := h.box
  rw [← hbp] at this
  exact ⟨⟨⟨.slice (some ⟨g, 0, none⟩) st.1.length gc, by simp [World.cell?, this]⟩, frozen_of_row w1 p 1 _ _ this⟩, ⟨.bool st.2, by simp [World.cell?, this]⟩, frozen_of_row w1 p 2 _ _ this⟩

theorem Wrote.trans {B : Nat} {w w1 w2 : World} {p : Nat} {a : Option Addr} {n cap g g1 : Nat} {st2 : List UInt8 × Bool} (hb : But (fun x => x = p ∨ x = g) w w1) (hg : g1 = g ∨ w.heap.size ≤ g1) (h : Wrote B w1 p a n cap g1 st2 w2) : Wrote B w p a n cap g st2 w2 := by
  obtain ⟨g2, gc2, h1, h2, h3⟩ := h
  have hz := hb.size
  refine ⟨g2, gc2, h1, ⟨h2.os.trans hb.os, h2.tape.trans hb.tape, h2.output.trans hb.output, Nat.le_trans hz h2.size, fun k hk hn => ?_⟩, by omega⟩
  exact (h2.block k (by omega) (fun e => hn (by omega))).trans (hb.block k hk hn)

theorem SW.set2 {B : Nat} {w : World} {p : Nat} {a : Option Addr} {n cap g gc : Nat} {st : List UInt8 × Bool} (h : SW B w p a n cap g gc st) (b : Bool) : SW B (w.setCell ⟨p, 2, none⟩ (.bool b)) p a n cap g gc (st.1, b) := by
  refine ⟨?_, ownBut h.own ((But.refl (fun x => x = p) w).setCell rfl _) h.ne, h.ne, by simpa using h.lo⟩
  rw [heap_setCell_same w p 2 _ _ _ h.box]
  simp

/-- A blank has been written, and the flag set. -/
theorem say_mid {B : Nat} {w w5 : World} {p : Nat} {a : Option Addr} {n cap g gc g1 gc1 : Nat} {l l1 : List UInt8} (h : SW B w p a n cap g gc (l, true)) (hl : l ++ [32] = l1)
    (hown : w5.ownsRow B 5 1 (.slice (some ⟨g1, 0, none⟩) (l.length + 1) gc1) (l.length + 1) ((uz l).map (Value.int .u8) ++ [32].map (Value.int .u8))) (hg : (w.alloc (.cells ([32].map (Value.int .u8)).toArray 5)).grownBy w5 (some g)) (hat : g1 = g ∨ g1 = (w.alloc (.cells ([32].map (Value.int .u8)).toArray 5)).heap.size) :
    SW B ((w5.setCell ⟨p, 1, none⟩ (.slice (some ⟨g1, 0, none⟩) (l.length + 1) gc1)).setCell ⟨p, 2, none⟩ (.bool true)) p a n cap g1 gc1 (l1, true) ∧ But (fun x => x = p ∨ x = g) w ((w5.setCell ⟨p, 1, none⟩ (.slice (some ⟨g1, 0, none⟩) (l.length + 1) gc1)).setCell ⟨p, 2, none⟩ (.bool true)) ∧ (g1 = g ∨ w.heap.size ≤ g1) := by
  obtain ⟨u1, u2, u3⟩ := h.set1 (m := [32]) ((Below.refl _ _).alloc (Nat.le_refl _) _) hown hg hat
  subst hl
  exact ⟨u1.set2 true, u2.setCell (.inl rfl) _, u3⟩

set_option maxHeartbeats 8000000 in
set_option maxRecDepth 20000 in
theorem say_any (B p n cap g gc : Nat) (a : Option Addr) (st : List UInt8 × Bool) (s : ByteArray) (wd : Bool) (w : World) (h : SW B w p a n cap g gc st) (hl : lenP st + s.size ≤ 17592186044416) :
    Calls Tryz.prog 72 #[.pointer (some ⟨p, 0, none⟩), .string s, .bool wd] w fun e w' => (∃ v, e = .returned v) ∧ Wrote B w p a n cap g (sayP st s.data.toList wd) w' := by
  obtain ⟨i0, hi, hz0, hz1, hz2⟩ := info_parts info_byte
  obtain ⟨hp, hgl, hBg⟩ := h.lt
  have hgp := h.ne
  have hlo := h.lo
  have hl' : st.1.length + s.size ≤ 17592186044416 := hl
  have hsd : (uz s.data.toList) = bz s := rfl
  have hsl : s.data.toList.length = s.size := by rw [← Lib.size_eq]
  obtain ⟨l, b2⟩ := st
  have hl2 : l.length + s.size ≤ 17592186044416 := hl'
  have hbz : (bz s).length = s.size := bz_len s
  by_cases hb : wd = false ∨ (wd = true ∧ b2 = false)
  · have HS : Hid (sayP (l, b2) s.data.toList wd = (l ++ s.data.toList, wd)) := by
      show _ = _
      rcases hb with rfl | ⟨rfl, rfl⟩ <;> simp [sayP]
    obtain ⟨c0, c1, c2, f0, f1, f2⟩ := h.all
    have h2 := h.set2 wd
    have hB2 : But (fun x => x = p ∨ x = g) w (w.setCell ⟨p, 2, none⟩ (.bool wd)) := (But.refl _ w).setCell (.inl rfl) _
    obtain ⟨cap1, W1, hcv, hcap, hrow, hbW, hzW⟩ := conv_str (w.setCell ⟨p, 2, none⟩ (.bool wd)) s
    obtain ⟨bb, hbb⟩ : ∃ b, (w.setCell ⟨p, 2, none⟩ (.bool wd)).heap.size = b := ⟨_, rfl⟩
    have HBW := hide hbW
    rw [hbb] at hcv hrow
    have HROW := hide hrow
    have H2 := hide h2
    have H3 := hide (h2.below hbW)
    have HB2 := hide hB2
    have hlo1 : B ≤ W1.heap.size := (h2.below hbW).lo
    clear hrow h2 hB2 hbW hbb h hl hl' hsd hzW
    rcases hb with rfl | ⟨rfl, rfl⟩ <;>
    · go_enter Tryz.func72, Tryz.ntmps72
      go_wp2_with (at_builtin; refine wpList_append_some rfl _ _ 33 rfl B 5 i0 (.int .u8 0) 1 1 Tryz.underlying33 hi hz0 hz1 hz2 rfl (by decide) g l.length gc _ rfl (unhide H3).own ⟨bb, 0, none⟩ s.size cap1 ((bz s).map (Value.int .u8)) rfl (by rw [List.length_map, hbz]; omega) (unhide HROW).news (one_bytes _) (by unfold maxLen; omega) (by omega) hlo1 ?_; intro g' cap' w7 hown' hgrow hat; obtain ⟨⟨⟨q7, c7⟩, f7⟩, _, _⟩ := (unhide H2).fz (unhide HBW) hgrow; have HF7 := hide ((unhide H2).set1 (m := s.data.toList) (unhide HBW) (by rw [hsl]; exact hown') hgrow hat); clear hgrow hat hown')
      go_end0
      refine ⟨⟨_, rfl⟩, ?_⟩
      rw [unhide HS]
      obtain ⟨u1, u2, u3⟩ := unhide HF7
      rw [hsl] at u1 u2
      exact Wrote.trans (unhide HB2) (.inl rfl) ⟨g', cap', u1, u2, u3⟩
  · have hwd : wd = true := by cases wd with
      | true => rfl
      | false => exact absurd (.inl rfl) hb
    have hb2 : b2 = true := by cases b2 with
      | true => rfl
      | false => exact absurd (.inr ⟨hwd, rfl⟩) hb
    subst hwd hb2
    clear hb
    have HS : Hid (sayP (l, true) s.data.toList true = ((l ++ [32]) ++ s.data.toList, true)) := by
      show _ = _
      simp [sayP]
    obtain ⟨l1, hl1⟩ : ∃ l1, l ++ [32] = l1 := ⟨_, rfl⟩
    have hn1 : l1.length = l.length + 1 := by rw [← hl1]; simp
    have HL1 := hide hl1
    rw [hl1] at HS
    clear hl1
    obtain ⟨c0, c1, c2, f0, f1, f2⟩ := h.all
    have HF := hide (fun g1 gc1 w5 => say_mid (g1 := g1) (gc1 := gc1) (w5 := w5) h (unhide HL1))
    have H1 := hide h
    have HA : Hid (SW B (w.alloc (.cells ([32].map (Value.int .u8)).toArray 5)) p a n cap g gc (l, true)) := h.below ((Below.refl _ _).alloc (Nat.le_refl _) _)
    clear h hl hl' hsd
    go_enter Tryz.func72, Tryz.ntmps72
    go_wp2_with (first | (at_builtin; refine wpList_append_some rfl _ _ 33 rfl B 5 i0 (.int .u8 0) 1 1 Tryz.underlying33 hi hz0 hz1 hz2 rfl (by decide) g l.length gc _ rfl (unhide HA).own ⟨w.heap.size, 0, none⟩ 1 1 ([32].map (Value.int .u8)) rfl rfl (RowB.new w [32]).news (one_bytes _) (by unfold maxLen; omega) (by omega) (unhide HA).lo ?_; intro g1 gc1 w5 hown' hgrow hat; obtain ⟨⟨⟨q5, c5⟩, f5⟩, ⟨r5, d5⟩, k5⟩ := (unhide H1).fz ((Below.refl _ _).alloc (Nat.le_refl _) _) hgrow; obtain ⟨h5, hB5, hg5⟩ := unhide HF g1 gc1 w5 hown' hgrow hat; clear hgrow hat hown'; have H5 := hide h5; have HB5 := hide hB5; have HG5 := hide hg5; obtain ⟨cap1, W1, hcv, hcap, hrow, hbW, hzW⟩ := conv_str ((w5.setCell ⟨p, 1, none⟩ (.slice (some ⟨g1, 0, none⟩) (l.length + 1) gc1)).setCell ⟨p, 2, none⟩ (.bool true)) s; obtain ⟨bb, hbb⟩ : ∃ b, ((w5.setCell ⟨p, 1, none⟩ (.slice (some ⟨g1, 0, none⟩) (l.length + 1) gc1)).setCell ⟨p, 2, none⟩ (.bool true)).heap.size = b := ⟨_, rfl⟩; have HBW := hide hbW; rw [hbb] at hcv hrow; have HROW := hide hrow; have H3 := hide (h5.below hbW); have hlo1 : B ≤ W1.heap.size := (h5.below hbW).lo; clear hrow h5 hB5 hg5 hbW hbb hzW) | (at_builtin; refine wpList_append_some rfl _ _ 33 rfl B 5 i0 (.int .u8 0) 1 1 Tryz.underlying33 hi hz0 hz1 hz2 rfl (by decide) g1 (l.length + 1) gc1 ((uz l1).map (Value.int .u8)) rfl (by rw [← hn1]; exact (unhide H3).own) ⟨bb, 0, none⟩ s.size cap1 ((bz s).map (Value.int .u8)) rfl (by rw [List.length_map, hbz]; omega) (unhide HROW).news (one_bytes _) (by unfold maxLen; omega) (by omega) hlo1 ?_; intro g' cap' w7 hown' hgrow hat; obtain ⟨⟨⟨q7, c7⟩, f7⟩, _, _⟩ := (unhide H5).fz (unhide HBW) hgrow; have HF7 := hide ((unhide H5).set1 (m := s.data.toList) (unhide HBW) (by rw [hsl]; show World.ownsRow _ _ _ _ (.slice _ (l1.length + s.size) _) (l1.length + s.size) _; rw [hn1]; exact hown') hgrow hat); clear hgrow hat hown'))
    go_end0
    refine ⟨⟨_, rfl⟩, ?_⟩
    rw [unhide HS]
    obtain ⟨u1, u2, u3⟩ := unhide HF7
    rw [hsl] at u1 u2
    have e1 : ((l1, true) : List UInt8 × Bool).1.length = l.length + 1 := hn1
    rw [e1] at u1 u2
    exact Wrote.trans (unhide HB5) (unhide HG5) ⟨g', cap', u1, u2, u3⟩

end Go.Proofs.YtmgjicgojlkpcaaGreatDoor
