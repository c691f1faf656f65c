import Derived.Test.YtinndpnilmmmjaaGreatDoorMPr
import Derived.Test.YtinndpnilmmmjaaGreatDoorMCv
import Derived.Test.YtinndpnilmmmjaaGreatDoorMPr
import Derived.Test.YtinndpnilmmmjaaGreatDoorMNode
import Derived.Test.YtinndpnilmmmjaaGreatDoorMNode
import Derived.Deep.QuietTactic
import Derived.BigQuiet
import Derived.Test.YtinndpnilmmmjaaGreatDoorMBs
namespace Go.Proofs.YtinndpnilmmmjaaGreatDoor
open Go.RowKit

/-- The writer in block p: its nodes, what it has written (a list of the call's own, from block B on), and its flag. -/
structure SW (B : Nat) (w : World) (p : Nat) (a : Option Addr) (n cap g gc : Nat) (st : List UInt8 × Bool) : Prop where
  box : w.heap[p]? = some (.cells #[.slice a n cap, .slice (some ⟨g, 0, none⟩) st.1.length gc, .bool st.2] 58 (0, 0))
  own : w.ownsRow B 5 1 (.slice (some ⟨g, 0, none⟩) st.1.length gc) st.1.length ((uz st.1).map (Value.int .u8))
  ne : g ≠ p
  lo : B ≤ w.heap.size

theorem SW.all {B : Nat} {w : World} {p : Nat} {a : Option Addr} {n cap g gc : Nat} {st : List UInt8 × Bool} (h : SW B w p a n cap g gc st) : w.cell? ⟨p, 0, none⟩ = some (.slice a n cap) ∧ w.cell? ⟨p, 1, none⟩ = some (.slice (some ⟨g, 0, none⟩) st.1.length gc) ∧ w.cell? ⟨p, 2, none⟩ = some (.bool st.2) ∧ w.frozen? ⟨p, 0, none⟩ = false ∧ w.frozen? ⟨p, 1, none⟩ = false ∧ w.frozen? ⟨p, 2, none⟩ = false := by
  have hb := h.box
  refine ⟨?_, ?_, ?_, frozen_of_row w p 0 _ _ hb, frozen_of_row w p 1 _ _ hb, frozen_of_row w p 2 _ _ hb⟩ <;> simp [World.cell?, hb]

theorem SW.lt {B : Nat} {w : World} {p : Nat} {a : Option Addr} {n cap g gc : Nat} {st : List UInt8 × Bool} (h : SW B w p a n cap g gc st) : p < w.heap.size ∧ g < w.heap.size ∧ B ≤ g := by
  refine ⟨lt_of_block h.box, ownLt h.own (g := g) rfl, ?_⟩
  rcases h.own.2 with ⟨h', _⟩ | ⟨g', cap', cur, h', hb, _⟩
  · simp at h'
  · cases h'; exact hb

theorem SW.below {B : Nat} {w w' : World} {p : Nat} {a : Option Addr} {n cap g gc : Nat} {st : List UInt8 × Bool} (h : SW B w p a n cap g gc st) (hb : Below w.heap.size w w') : SW B w' p a n cap g gc st :=
  ⟨(hb.block p h.lt.1).trans h.box, ownsB_below h.own (Nat.le_refl _) hb, h.ne, Nat.le_trans h.lo hb.size⟩

/-- What a writing step does: the writer goes on to st', all else stands. -/
def Wrote (B : Nat) (w : World) (p : Nat) (a : Option Addr) (n cap g : Nat) (st' : List UInt8 × Bool) (w' : World) : Prop := ∃ g' gc', SW B w' p a n cap g' gc' st' ∧ But (fun x => x = p ∨ x = g) w w' ∧ (g' = g ∨ w.heap.size ≤ g')

theorem SW.set1 {B : Nat} {w wm w1 : World} {p : Nat} {a : Option Addr} {n cap g gc : Nat} {st : List UInt8 × Bool} (h : SW B w p a n cap g gc st) {g' gc' : Nat} {m : List UInt8} (hbm : Below w.heap.size w wm)
    (hown : w1.ownsRow B 5 1 (.slice (some ⟨g', 0, none⟩) (st.1.length + m.length) gc') (st.1.length + m.length) ((uz st.1).map (Value.int .u8) ++ (uz m).map (Value.int .u8))) (hg : wm.grownBy w1 (some g)) (hat : g' = g ∨ g' = wm.heap.size) :
    SW B (w1.setCell ⟨p, 1, none⟩ (.slice (some ⟨g', 0, none⟩) (st.1.length + m.length) gc')) p a n cap g' gc' (st.1 ++ m, st.2) ∧ But (fun x => x = p ∨ x = g) w (w1.setCell ⟨p, 1, none⟩ (.slice (some ⟨g', 0, none⟩) (st.1.length + m.length) gc')) ∧ (g' = g ∨ w.heap.size ≤ g') := by
  obtain ⟨hp, hgl, hBg⟩ := h.lt
  have hne := h.ne
  have hzm := hbm.size
  have hsz := hg.size
  have hne' : g' ≠ p := by omega
  have hbp : w1.heap[p]? = w.heap[p]? := (hg.block p (by omega) (fun e => hne (by simpa using e.symm))).trans (hbm.block p hp)
  refine ⟨⟨?_, ?_, hne', by simpa using Nat.le_trans h.lo (by omega)⟩, ⟨?_, ?_, ?_, ?_, ?_⟩, by omega⟩
  · have := h.box
    rw [← hbp] at this
    rw [heap_setCell_same w1 p 1 _ _ _ this]
    simp
  · have e : (st.1 ++ m).length = st.1.length + m.length := List.length_append
    show (w1.setCell _ _).ownsRow B 5 1 (.slice (some ⟨g', 0, none⟩) (st.1 ++ m).length gc') (st.1 ++ m).length ((uz (st.1 ++ m)).map (Value.int .u8))
    rw [e, uz_app, List.map_append]
    exact ownBut hown ((But.refl (fun x => x = p) w1).setCell rfl _) hne'
  · exact hg.os.trans hbm.os
  · exact hg.tape.trans hbm.tape
  · exact hg.output.trans hbm.output
  · show w.heap.size ≤ (w1.setCell _ _).heap.size
    simp
    omega
  · intro k hk hS
    rw [heap_setCell_other w1 ⟨p, 1, none⟩ k _ (fun e => hS (.inl e))]
    exact (hg.block k (by omega) (fun e => hS (.inr (by simpa using e)))).trans (hbm.block k hk)

/-- The writer's cell for what is written can be written to. -/
theorem SW.fz {B : Nat} {w wm w1 : World} {p : Nat} {a : Option Addr} {n cap g gc : Nat} {st : List UInt8 × Bool} (h : SW B w p a n cap g gc st) (hbm : Below w.heap.size w wm) (hg : wm.grownBy w1 (some g)) : ((∃ v, w1.cell? ⟨p, 1, none⟩ = some v) ∧ w1.frozen? ⟨p, 1, none⟩ = false) ∧ (∃ v, w1.cell? ⟨p, 2, none⟩ = some v) ∧ w1.frozen? ⟨p, 2, none⟩ = false := by
  obtain ⟨hp, hgl, hBg⟩ := h.lt
  have hne := h.ne
  have hzm := hbm.size
  have hbp : w1.heap[p]? = w.heap[p]? := (hg.block p (by omega) (fun e => hne (by simpa using e.symm))).trans (hbm.block p hp)
  have := h.box
  rw [← hbp] at this
  exact ⟨⟨⟨.slice (some ⟨g, 0, none⟩) st.1.length gc, by simp [World.cell?, this]⟩, frozen_of_row w1 p 1 _ _ this⟩, ⟨.bool st.2, by simp [World.cell?, this]⟩, frozen_of_row w1 p 2 _ _ this⟩

theorem Wrote.trans {B : Nat} {w w1 w2 : World} {p : Nat} {a : Option Addr} {n cap g g1 : Nat} {st2 : List UInt8 × Bool} (hb : But (fun x => x = p ∨ x = g) w w1) (hg : g1 = g ∨ w.heap.size ≤ g1) (h : Wrote B w1 p a n cap g1 st2 w2) : Wrote B w p a n cap g st2 w2 := by
  obtain ⟨g2, gc2, h1, h2, h3⟩ := h
  have hz := hb.size
  refine ⟨g2, gc2, h1, ⟨h2.os.trans hb.os, h2.tape.trans hb.tape, h2.output.trans hb.output, Nat.le_trans hz h2.size, fun k hk hn => ?_⟩, by omega⟩
  exact (h2.block k (by omega) (fun e => hn (by omega))).trans (hb.block k hk hn)

theorem SW.set2 {B : Nat} {w : World} {p : Nat} {a : Option Addr} {n cap g gc : Nat} {st : List UInt8 × Bool} (h : SW B w p a n cap g gc st) (b : Bool) : SW B (w.setCell ⟨p, 2, none⟩ (.bool b)) p a n cap g gc (st.1, b) := by
  refine ⟨?_, ownBut h.own ((But.refl (fun x => x = p) w).setCell rfl _) h.ne, h.ne, by simpa using h.lo⟩
  rw [heap_setCell_same w p 2 _ _ _ h.box]
  simp

/-- A blank has been written, and the flag set. -/
theorem say_mid {B : Nat} {w w5 : World} {p : Nat} {a : Option Addr} {n cap g gc g1 gc1 : Nat} {l l1 : List UInt8} (h : SW B w p a n cap g gc (l, true)) (hl : l ++ [32] = l1)
    (hown : w5.ownsRow B 5 1 (.slice (some ⟨g1, 0, none⟩) (l.length + 1) gc1) (l.length + 1) ((uz l).map (Value.int .u8) ++ [32].map (Value.int .u8))) (hg : (w.alloc (.cells ([32].map (Value.int .u8)).toArray 5)).grownBy w5 (some g)) (hat : g1 = g ∨ g1 = (w.alloc (.cells ([32].map (Value.int .u8)).toArray 5)).heap.size) :
    SW B ((w5.setCell ⟨p, 1, none⟩ (.slice (some ⟨g1, 0, none⟩) (l.length + 1) gc1)).setCell ⟨p, 2, none⟩ (.bool true)) p a n cap g1 gc1 (l1, true) ∧ But (fun x => x = p ∨ x = g) w ((w5.setCell ⟨p, 1, none⟩ (.slice (some ⟨g1, 0, none⟩) (l.length + 1) gc1)).setCell ⟨p, 2, none⟩ (.bool true)) ∧ (g1 = g ∨ w.heap.size ≤ g1) := by
  obtain ⟨u1, u2, u3⟩ := h.set1 (m := [32]) ((Below.refl _ _).alloc (Nat.le_refl _) _) hown hg hat
  subst hl
  exact ⟨u1.set2 true, u2.setCell (.inl rfl) _, u3⟩

set_option maxHeartbeats 8000000 in
set_option maxRecDepth 20000 in
theorem say_any (B p n cap g gc : Nat) (a : Option Addr) (st : List UInt8 × Bool) (s : ByteArray) (wd : Bool) (w : World) (h : SW B w p a n cap g gc st) (hl : lenP st + s.size ≤ 17592186044416) :
    Calls Tryz.prog 72 #[.pointer (some ⟨p, 0, none⟩), .string s, .bool wd] w fun e w' => (∃ v, e = .returned v) ∧ Wrote B w p a n cap g (sayP st s.data.toList wd) w' := by
  obtain ⟨i0, hi, hz0, hz1, hz2⟩ := info_parts info_byte
  obtain ⟨hp, hgl, hBg⟩ := h.lt
  have hgp := h.ne
  have hlo := h.lo
  have hl' : st.1.length + s.size ≤ 17592186044416 := hl
  have hsd : (uz s.data.toList) = bz s := rfl
  have hsl : s.data.toList.length = s.size := by rw [← Lib.size_eq]
  obtain ⟨l, b2⟩ := st
  have hl2 : l.length + s.size ≤ 17592186044416 := hl'
  have hbz : (bz s).length = s.size := bz_len s
  by_cases hb : wd = false ∨ (wd = true ∧ b2 = false)
  · have HS : Hid (sayP (l, b2) s.data.toList wd = (l ++ s.data.toList, wd)) := by
      show _ = _
      rcases hb with rfl | ⟨rfl, rfl⟩ <;> simp [sayP]
    obtain ⟨c0, c1, c2, f0, f1, f2⟩ := h.all
    have h2 := h.set2 wd
    have hB2 : But (fun x => x = p ∨ x = g) w (w.setCell ⟨p, 2, none⟩ (.bool wd)) := (But.refl _ w).setCell (.inl rfl) _
    obtain ⟨cap1, W1, hcv, hcap, hrow, hbW, hzW⟩ := conv_str (w.setCell ⟨p, 2, none⟩ (.bool wd)) s
    obtain ⟨bb, hbb⟩ : ∃ b, (w.setCell ⟨p, 2, none⟩ (.bool wd)).heap.size = b := ⟨_, rfl⟩
    have HBW := hide hbW
    rw [hbb] at hcv hrow
    have HROW := hide hrow
    have H2 := hide h2
    have H3 := hide (h2.below hbW)
    have HB2 := hide hB2
    have hlo1 : B ≤ W1.heap.size := (h2.below hbW).lo
    clear hrow h2 hB2 hbW hbb h hl hl' hsd hzW
    rcases hb with rfl | ⟨rfl, rfl⟩ <;>
    · go_enter Tryz.func72, Tryz.ntmps72
      go_wp2_with (at_builtin; refine wpList_append_some rfl _ _ 33 rfl B 5 i0 (.int .u8 0) 1 1 Tryz.underlying33 hi hz0 hz1 hz2 rfl (by decide) g l.length gc _ rfl (unhide H3).own ⟨bb, 0, none⟩ s.size cap1 ((bz s).map (Value.int .u8)) rfl (by rw [List.length_map, hbz]; omega) (unhide HROW).news (one_bytes _) (by unfold maxLen; omega) (by omega) hlo1 ?_; intro g' cap' w7 hown' hgrow hat; obtain ⟨⟨⟨q7, c7⟩, f7⟩, _, _⟩ := (unhide H2).fz (unhide HBW) hgrow; have HF7 := hide ((unhide H2).set1 (m := s.data.toList) (unhide HBW) (by rw [hsl]; exact hown') hgrow hat); clear hgrow hat hown')
      go_end0
      refine ⟨⟨_, rfl⟩, ?_⟩
      rw [unhide HS]
      obtain ⟨u1, u2, u3⟩ := unhide HF7
      rw [hsl] at u1 u2
      exact Wrote.trans (unhide HB2) (.inl rfl) ⟨g', cap', u1, u2, u3⟩
  · have hwd : wd = true := by cases wd with
      | true => rfl
      | false => exact absurd (.inl rfl) hb
    have hb2 : b2 = true := by cases b2 with
      | true => rfl
      | false => exact absurd (.inr ⟨hwd, rfl⟩) hb
    subst hwd hb2
    clear hb
    have HS : Hid (sayP (l, true) s.data.toList true = ((l ++ [32]) ++ s.data.toList, true)) := by
      show _ = _
      simp [sayP]
    obtain ⟨l1, hl1⟩ : ∃ l1, l ++ [32] = l1 := ⟨_, rfl⟩
    have hn1 : l1.length = l.length + 1 := by rw [← hl1]; simp
    have HL1 := hide hl1
    rw [hl1] at HS
    clear hl1
    obtain ⟨c0, c1, c2, f0, f1, f2⟩ := h.all
    have HF := hide (fun g1 gc1 w5 => say_mid (g1 := g1) (gc1 := gc1) (w5 := w5) h (unhide HL1))
    have H1 := hide h
    have HA : Hid (SW B (w.alloc (.cells ([32].map (Value.int .u8)).toArray 5)) p a n cap g gc (l, true)) := h.below ((Below.refl _ _).alloc (Nat.le_refl _) _)
    clear h hl hl' hsd
    go_enter Tryz.func72, Tryz.ntmps72
    go_wp2_with (first | (at_builtin; refine wpList_append_some rfl _ _ 33 rfl B 5 i0 (.int .u8 0) 1 1 Tryz.underlying33 hi hz0 hz1 hz2 rfl (by decide) g l.length gc _ rfl (unhide HA).own ⟨w.heap.size, 0, none⟩ 1 1 ([32].map (Value.int .u8)) rfl rfl (RowB.new w [32]).news (one_bytes _) (by unfold maxLen; omega) (by omega) (unhide HA).lo ?_; intro g1 gc1 w5 hown' hgrow hat; obtain ⟨⟨⟨q5, c5⟩, f5⟩, ⟨r5, d5⟩, k5⟩ := (unhide H1).fz ((Below.refl _ _).alloc (Nat.le_refl _) _) hgrow; obtain ⟨h5, hB5, hg5⟩ := unhide HF g1 gc1 w5 hown' hgrow hat; clear hgrow hat hown'; have H5 := hide h5; have HB5 := hide hB5; have HG5 := hide hg5; obtain ⟨cap1, W1, hcv, hcap, hrow, hbW, hzW⟩ := conv_str ((w5.setCell ⟨p, 1, none⟩ (.slice (some ⟨g1, 0, none⟩) (l.length + 1) gc1)).setCell ⟨p, 2, none⟩ (.bool true)) s; obtain ⟨bb, hbb⟩ : ∃ b, ((w5.setCell ⟨p, 1, none⟩ (.slice (some ⟨g1, 0, none⟩) (l.length + 1) gc1)).setCell ⟨p, 2, none⟩ (.bool true)).heap.size = b := ⟨_, rfl⟩; have HBW := hide hbW; rw [hbb] at hcv hrow; have HROW := hide hrow; have H3 := hide (h5.below hbW); have hlo1 : B ≤ W1.heap.size := (h5.below hbW).lo; clear hrow h5 hB5 hg5 hbW hbb hzW) | (at_builtin; refine wpList_append_some rfl _ _ 33 rfl B 5 i0 (.int .u8 0) 1 1 Tryz.underlying33 hi hz0 hz1 hz2 rfl (by decide) g1 (l.length + 1) gc1 ((uz l1).map (Value.int .u8)) rfl (by rw [← hn1]; exact (unhide H3).own) ⟨bb, 0, none⟩ s.size cap1 ((bz s).map (Value.int .u8)) rfl (by rw [List.length_map, hbz]; omega) (unhide HROW).news (one_bytes _) (by unfold maxLen; omega) (by omega) hlo1 ?_; intro g' cap' w7 hown' hgrow hat; obtain ⟨⟨⟨q7, c7⟩, f7⟩, _, _⟩ := (unhide H5).fz (unhide HBW) hgrow; have HF7 := hide ((unhide H5).set1 (m := s.data.toList) (unhide HBW) (by rw [hsl]; show World.ownsRow _ _ _ _ (.slice _ (l1.length + s.size) _) (l1.length + s.size) _; rw [hn1]; exact hown') hgrow hat); clear hgrow hat hown'))
    go_end0
    refine ⟨⟨_, rfl⟩, ?_⟩
    rw [unhide HS]
    obtain ⟨u1, u2, u3⟩ := unhide HF7
    rw [hsl] at u1 u2
    have e1 : ((l1, true) : List UInt8 × Bool).1.length = l.length + 1 := hn1
    rw [e1] at u1 u2
    exact Wrote.trans (unhide HB5) (unhide HG5) ⟨g', cap', u1, u2, u3⟩

end Go.Proofs.YtinndpnilmmmjaaGreatDoor
namespace Go.Proofs.YtinndpnilmmmjaaGreatDoor
open Go.RowKit

/-- The writer in a run that began in the world Z: all that lay there stands. -/
structure SX (Z : World) (p : Nat) (a : Option Addr) (n cap : Nat) (w : World) (g gc : Nat) (st : List UInt8 × Bool) : Prop where
  sw : SW Z.heap.size w p a n cap g gc st
  low : Below Z.heap.size Z w
  hp : Z.heap.size ≤ p

def Went (Z : World) (p : Nat) (a : Option Addr) (n cap : Nat) (w : World) (g : Nat) (st' : List UInt8 × Bool) (w' : World) : Prop := ∃ g' gc', SX Z p a n cap w' g' gc' st' ∧ But (fun x => x = p ∨ x = g) w w' ∧ (g' = g ∨ w.heap.size ≤ g')

section
variable {Z w w1 w2 : World} {p : Nat} {a : Option Addr} {n cap g gc g1 : Nat} {st st' st2 : List UInt8 × Bool}

theorem SX.wrote (h : SX Z p a n cap w g gc st) (hw : Wrote Z.heap.size w p a n cap g st' w1) : Went Z p a n cap w g st' w1 := by
  obtain ⟨g', gc', h1, h2, h3⟩ := hw
  have hlt := h.sw.lt
  have hp := h.hp
  exact ⟨g', gc', ⟨h1, h.low.trans (h2.below h.low.size (fun k hk => by omega)), hp⟩, h2, h3⟩

theorem Went.trans (hb : But (fun x => x = p ∨ x = g) w w1) (hg : g1 = g ∨ w.heap.size ≤ g1) (h : Went Z p a n cap w1 g1 st2 w2) : Went Z p a n cap w g st2 w2 := by
  obtain ⟨g2, gc2, h1, h2, h3⟩ := h
  have hz := hb.size
  refine ⟨g2, gc2, h1, ⟨h2.os.trans hb.os, h2.tape.trans hb.tape, h2.output.trans hb.output, Nat.le_trans hz h2.size, fun k hk hn => ?_⟩, by omega⟩
  exact (h2.block k (by omega) (fun e => hn (by omega))).trans (hb.block k hk hn)

theorem SX.below (h : SX Z p a n cap w g gc st) (hb : Below w.heap.size w w1) : SX Z p a n cap w1 g gc st := ⟨h.sw.below hb, h.low.trans (hb.mono h.low.size), h.hp⟩

theorem SX.row (h : SX Z p a n cap w g gc st) {ka : Option Addr} {kn : Nat} {zs : List Int} (hr : Row Z ka kn zs) : Row w ka kn zs := hr.below (Nat.le_refl _) h.low

end

def mostP : Nat := 1000000000000

/-- A call that writes. -/
def SaysP (Z : World) (p : Nat) (a : Option Addr) (n cap : Nat) (f : Nat) (args : Array Value) (F : List UInt8 × Bool → List UInt8 × Bool) : Prop :=
  ∀ w g gc st, SX Z p a n cap w g gc st → lenP (F st) ≤ mostP → Calls Tryz.prog f args w fun e w' => (∃ v, e = .returned v) ∧ Went Z p a n cap w g (F st) w'

theorem says_say (Z : World) (p : Nat) (a : Option Addr) (n cap : Nat) (s : ByteArray) (wd : Bool) : SaysP Z p a n cap 72 #[.pointer (some ⟨p, 0, none⟩), .string s, .bool wd] (fun st => sayP st s.data.toList wd) := by
  intro w g gc st h hl
  have h1 : lenP st + s.size ≤ lenP (sayP st s.data.toList wd) := by
    unfold lenP sayP
    simp only [List.length_append, ← Lib.size_eq]
    omega
  refine (say_any Z.heap.size p n cap g gc a st s wd w h.sw (by have hl' : lenP (sayP st s.data.toList wd) ≤ mostP := hl; unfold mostP at hl'; omega)).mono ?_
  rintro e w' ⟨hv, hw⟩
  exact ⟨hv, h.wrote hw⟩

section
variable (L : Looks)

theorem list_step (G : Nat → List UInt8 × Bool → List UInt8 × Bool) (c : Nat) (zs : List Int) (st : List UInt8 × Bool) {k : Nat} (hm : ∀ st, lenP st ≤ lenP (G (zs.getD k 0).toNat st)) :
    lenP (listP L G c zs k st) ≤ lenP (if 0 < k then sayS L (listP L G c zs k st) c else listP L G c zs k st) ∧ lenP (if 0 < k then sayS L (listP L G c zs k st) c else listP L G c zs k st) ≤ lenP (listP L G c zs (k + 1) st) := by
  rw [listP]
  refine ⟨?_, hm _⟩
  split
  · exact (say_len _ _ _).1
  · exact Nat.le_refl _

theorem list_mono (G : Nat → List UInt8 × Bool → List UInt8 × Bool) (c : Nat) (zs : List Int) (st : List UInt8 × Bool) {m : Nat} (hm : ∀ q, q < m → ∀ st, lenP st ≤ lenP (G (zs.getD q 0).toNat st)) : ∀ d k, k + d = m → lenP (listP L G c zs k st) ≤ lenP (listP L G c zs m st)
  | 0, k, h => by rw [show k = m by omega]; exact Nat.le_refl _
  | d + 1, k, h => by
    have h1 := list_step L G c zs st (hm k (by omega))
    have h2 := list_mono G c zs st hm d (k + 1) (by omega)
    omega

end

set_option maxRecDepth 20000 in
set_option maxHeartbeats 8000000 in
theorem says_list (Z : World) (p : Nat) (a : Option Addr) (n cap : Nat) (L : Looks) (G : Nat → List UInt8 × Bool → List UInt8 × Bool) (c : Nat) (sg : ByteArray) (ka : Option Addr) (kn kc : Nat) (hsg : 1 < kn → sg.data.toList = L.sg c) (zs : List Int) (hr : Row Z ka kn zs)
    (hz : ∀ q, q < kn → zs.getD q 0 = (((zs.getD q 0).toNat : Nat) : Int)) (hk : ∀ q, q < kn → SaysP Z p a n cap 34 #[.pointer (some ⟨p, 0, none⟩), .int .i64 ((zs.getD q 0).toNat : Nat)] (G (zs.getD q 0).toNat)) (hm : ∀ q, q < kn → ∀ st, lenP st ≤ lenP (G (zs.getD q 0).toNat st)) :
    SaysP Z p a n cap 79 #[.pointer (some ⟨p, 0, none⟩), .slice ka kn kc, .string sg] (listP L G c zs kn) := by
  intro w g gc st h hl
  have hsm := hr.small
  have H := hide h
  have HR := hide hr
  have HZ := hide hz
  have HK := hide hk
  have HM := hide hm
  have HL := hide hl
  have HSY := hide (says_say Z p a n cap sg false)
  clear h hr hz hk hm hl
  go_enter Tryz.func79, Tryz.ntmps79
  go_wp2_with fail
  go_loopw [6] (fun u wr => ∃ (k gk gck : Nat), u = .int .i64 (k : Nat) ∧ k ≤ kn ∧ Hid (SX Z p a n cap wr gk gck (listP L G c zs k st)) ∧ Hid (But (fun x => x = p ∨ x = g) w wr ∧ (gk = g ∨ w.heap.size ≤ gk))) (fun e _ => kn - (intOf e).toNat)
  case atStart => exact ⟨0, g, gc, rfl, Nat.zero_le _, H, hide ⟨But.refl _ w, .inl rfl⟩⟩
  case round =>
    obtain ⟨k, gk, gck, rfl, hkn, HX, HB⟩ := hrel
    by_cases hlt : k < kn
    case neg =>
      have he : k = kn := by omega
      subst he
      have hlti : ¬ (k : Int) < (k : Int) := by omega
      go_wp2_with fail
      go_end0
      exact ⟨⟨_, rfl⟩, gk, gck, unhide HX, unhide HB⟩
    case pos =>
      have hlti : (k : Int) < (kn : Int) := by omega
      obtain ⟨b, off, rfl, hbl, hc⟩ := (unhide HR).get hlt
      have hzk := unhide HZ k hlt
      have HKk := hide (unhide HK k hlt)
      have h1 := list_step L G c zs st (unhide HM k hlt)
      have h2 := list_mono L G c zs st (fun q hq => unhide HM q hq) (kn - (k + 1)) (k + 1) (by omega)
      have hl := unhide HL
      rw [hzk] at hc
      have hcx : ∀ W, Below Z.heap.size Z W → W.cell? ⟨b, off + k, none⟩ = some (.int .i64 ((zs.getD k 0).toNat : Nat)) := fun W hW => (hW.cell (p := ⟨b, off + k, none⟩) hbl).trans hc
      have HCX := hide hcx
      have HNX : Hid (listP L G c zs (k + 1) st = G (zs.getD k 0).toNat (if 0 < k then sayS L (listP L G c zs k st) c else listP L G c zs k st)) := by show _ = _; rw [listP]
      obtain ⟨kid, hkid⟩ : ∃ kid, (zs.getD k 0).toNat = kid := ⟨_, rfl⟩
      rw [hkid] at HKk HCX HNX
      have HL1 : Hid (lenP (if 0 < k then sayS L (listP L G c zs k st) c else listP L G c zs k st) ≤ mostP) := by show _ ≤ _; omega
      have HL2 : Hid (lenP (listP L G c zs (k + 1) st) ≤ mostP) := by show _ ≤ _; omega
      clear hzk h1 h2 hl hc hcx hkid
      by_cases hk0 : 0 < k
      case pos =>
        have hk0i : (0 : Int) < (k : Int) := by omega
        rw [if_pos hk0] at HNX HL1
        have HNS : Hid (sayP (listP L G c zs k st) sg.data.toList false = sayS L (listP L G c zs k st) c) := by show _ = _; rw [hsg (by omega)]; rfl
        clear hk0
        go_wp2_with (first | (go_at_call 72; refine (unhide HSY _ gk gck _ (unhide HX) (by show lenP (sayP _ _ _) ≤ mostP; rw [unhide HNS]; exact unhide HL1)).mono ?_; rintro e w5 ⟨⟨v5, rfl⟩, g5, gc5, hx5, hb5⟩; have hc5 := unhide HCX w5 hx5.low; have HX5 := hide hx5; have HB5 := hide hb5; clear hx5 hb5) | (go_at_call 34; refine (unhide HKk _ g5 gc5 _ (unhide HX5) (by show lenP (G kid (sayP _ _ _)) ≤ mostP; rw [unhide HNS, ← unhide HNX]; exact unhide HL2)).mono ?_; rintro e w6 ⟨⟨v6, rfl⟩, hw6⟩; have HW6 := hide (Went.trans (unhide HB5).1 (unhide HB5).2 hw6); clear hw6))
        go_roundw
        case rel =>
          obtain ⟨g6, gc6, hx6, hb6⟩ := Went.trans (unhide HB).1 (unhide HB).2 (unhide HW6)
          refine ⟨k + 1, g6, gc6, by go_num, by omega, ?_, hide hb6⟩
          have hx7 : SX Z p a n cap _ g6 gc6 (G kid (sayP (listP L G c zs k st) sg.data.toList false)) := hx6
          rw [unhide HNS, ← unhide HNX] at hx7
          exact hide hx7
        case measure => simp [intOf]; omega
      case neg =>
        have hk0e : k = 0 := by omega
        subst hk0e
        rw [if_neg hk0] at HNX HL1
        have hc5 := unhide HCX wr (unhide HX).low
        rw [Nat.add_zero] at hc5
        clear hk0
        go_wp2_with (go_at_call 34; refine (unhide HKk _ gk gck _ (unhide HX) (by rw [← unhide HNX]; exact unhide HL2)).mono ?_; rintro e w6 ⟨⟨v6, rfl⟩, hw6⟩; have HW6 := hide hw6; clear hw6)
        go_roundw
        case rel =>
          obtain ⟨g6, gc6, hx6, hb6⟩ := Went.trans (unhide HB).1 (unhide HB).2 (unhide HW6)
          refine ⟨1, g6, gc6, by go_num, by omega, ?_, hide hb6⟩
          rw [← unhide HNX] at hx6
          exact hide hx6
        case measure => simp [intOf]; omega

end Go.Proofs.YtinndpnilmmmjaaGreatDoor
namespace Go.Proofs.YtinndpnilmmmjaaGreatDoor
open Go.RowKit

set_option maxRecDepth 20000 in
set_option maxHeartbeats 8000000 in
theorem says_round (Z : World) (p : Nat) (a : Option Addr) (n cap : Nat) (L : Looks) (G : Nat → List UInt8 × Bool → List UInt8 × Bool) (c co ce : Nat) (sg so se : ByteArray) (ho : so.data.toList = L.sg co) (he : se.data.toList = L.sg ce) (ka : Option Addr) (kn kc : Nat) (zs : List Int)
    (hl : SaysP Z p a n cap 79 #[.pointer (some ⟨p, 0, none⟩), .slice ka kn kc, .string sg] (listP L G c zs kn)) (hm : ∀ st, lenP st ≤ lenP (listP L G c zs kn st)) :
    SaysP Z p a n cap 76 #[.pointer (some ⟨p, 0, none⟩), .slice ka kn kc, .string so, .string sg, .string se] (fun st => sayS L (listP L G c zs kn (sayS L st co)) ce) := by
  intro w g gc st h hq
  have hq' : lenP (sayS L (listP L G c zs kn (sayS L st co)) ce) ≤ mostP := hq
  have H := hide h
  have HL := hide hl
  have HO := hide (says_say Z p a n cap so false)
  have HE := hide (says_say Z p a n cap se false)
  have e1 : sayP st so.data.toList false = sayS L st co := by rw [ho]; rfl
  obtain ⟨s1, hs1⟩ : ∃ s, sayS L st co = s := ⟨_, rfl⟩
  have h1 := hm s1
  obtain ⟨s2, hs2⟩ : ∃ s, listP L G c zs kn s1 = s := ⟨_, rfl⟩
  have e2 : sayP s2 se.data.toList false = sayS L s2 ce := by rw [he]; rfl
  have h2 : lenP s2 ≤ lenP (sayS L s2 ce) := (say_len _ _ _).1
  rw [hs1] at hq' e1
  rw [hs2] at hq' h1
  have HQ : Hid (lenP (sayP s2 se.data.toList false) ≤ mostP) := by show _ ≤ _; rw [e2]; exact hq'
  have HQ2 : Hid (lenP s2 ≤ mostP) := by show _ ≤ _; omega
  have HQ1 : Hid (lenP s1 ≤ mostP) := by show _ ≤ _; omega
  have HE1 := hide e1
  have HE2 := hide e2
  have HS1 := hide hs1
  have HS2 := hide hs2
  clear h hl hm hq hq' e1 e2 h1 h2 hs1 hs2
  go_enter Tryz.func76, Tryz.ntmps76
  go_wp2_with (first | (go_at_call 72; refine (unhide HO _ g gc _ (unhide H) (by show lenP (sayP _ _ _) ≤ mostP; rw [unhide HE1]; exact unhide HQ1)).mono ?_; rintro e w5 ⟨⟨v5, rfl⟩, g5, gc5, hx5, hb5⟩; have HX5 : Hid (SX Z p a n cap w5 g5 gc5 s1) := by { have := hx5; dsimp only at this; rw [unhide HE1] at this; exact this }; have HB5 := hide hb5; clear hx5 hb5 H) | (go_at_call 79; refine (unhide HL _ g5 gc5 _ (unhide HX5) (by rw [unhide HS2]; exact unhide HQ2)).mono ?_; rintro e w6 ⟨⟨v6, rfl⟩, hw6⟩; obtain ⟨g6, gc6, hx6, hb6⟩ := Went.trans (unhide HB5).1 (unhide HB5).2 hw6; have HX6 : Hid (SX Z p a n cap w6 g6 gc6 s2) := by { rw [unhide HS2] at hx6; exact hx6 }; have HB6 := hide hb6; clear hw6 hx6 hb6 HX5) | (go_at_call 72; refine (unhide HE _ g6 gc6 _ (unhide HX6) (unhide HQ)).mono ?_; rintro e w7 ⟨⟨v7, rfl⟩, hw7⟩; have HW7 := hide (Went.trans (unhide HB6).1 (unhide HB6).2 hw7); clear hw7))
  go_end0
  refine ⟨⟨_, rfl⟩, ?_⟩
  show Went Z p a n cap w g (sayS L (listP L G c zs kn (sayS L st co)) ce) _
  rw [unhide HS1, unhide HS2, ← unhide HE2]
  exact unhide HW7

set_option maxRecDepth 20000 in
set_option maxHeartbeats 8000000 in
theorem says_operand (Z : World) (p : Nat) (a : Option Addr) (n cap : Nat) (L : Looks) (ns : List NodeD) (hr : NRow Z a n ns) (G : Nat → List UInt8 × Bool → List UInt8 × Bool) (h40 : L.sg 40 = [40]) (h41 : L.sg 41 = [41]) (i : Nat) (hi : i < n)
    (hk : SaysP Z p a n cap 34 #[.pointer (some ⟨p, 0, none⟩), .int .i64 (i : Nat)] (G i)) (hm : ∀ st, lenP st ≤ lenP (G i st)) :
    SaysP Z p a n cap 75 #[.pointer (some ⟨p, 0, none⟩), .int .i64 (i : Nat)] (operP L ns G i) := by
  intro w g gc st h hq
  have hsm := hr.small
  obtain ⟨b, off, rfl, hbl, s1, n1, c1, s2, n2, c2, q0, _⟩ := hr.get hi
  have c0 := (h.low.cell (p := ⟨b, off + i * 6, none⟩) hbl).trans q0
  obtain ⟨d0, d1, d2, f0, f1, f2⟩ := h.sw.all
  obtain ⟨kk, hkk⟩ : ∃ k, (node ns i).k = k := ⟨_, rfl⟩
  rw [hkk] at c0
  have H := hide h
  have HK := hide hk
  by_cases hb : kk = 9 ∨ kk = 10
  · have eq : operP L ns G i st = sayS L (G i (sayS L st 40)) 41 := by unfold operP; rw [hkk, if_pos hb]
    have HO := hide (says_say Z p (some ⟨b, off, none⟩) n cap ⟨#[40]⟩ false)
    have HE := hide (says_say Z p (some ⟨b, off, none⟩) n cap ⟨#[41]⟩ false)
    have e1 : sayP st [40] false = sayS L st 40 := by rw [← h40]; rfl
    obtain ⟨t1, hs1⟩ : ∃ s, sayS L st 40 = s := ⟨_, rfl⟩
    obtain ⟨t2, hs2⟩ : ∃ s, G i t1 = s := ⟨_, rfl⟩
    have e2 : sayP t2 [41] false = sayS L t2 41 := by rw [← h41]; rfl
    have h2 : lenP t2 ≤ lenP (sayS L t2 41) := (say_len _ _ _).1
    have hq' : lenP (sayS L t2 41) ≤ mostP := by rw [eq, hs1, hs2] at hq; exact hq
    rw [hs1] at e1
    have HEQ : Hid (operP L ns G i st = sayP t2 [41] false) := by show _ = _; rw [eq, hs1, hs2, e2]
    have HQ : Hid (lenP (sayP t2 [41] false) ≤ mostP) := by show _ ≤ _; rw [e2]; exact hq'
    have HQ2 : Hid (lenP t2 ≤ mostP) := by show _ ≤ _; omega
    have HQ1 : Hid (lenP t1 ≤ mostP) := by
      show _ ≤ _
      have := hm t1
      rw [hs2] at this
      omega
    have HE1 := hide e1
    have HS2 := hide hs2
    clear h hk hm hq hq' e1 e2 h2 hs1 hs2 eq hkk
    have hb2 : kk = 9 ∨ (¬ kk = 9 ∧ kk = 10) := by omega
    clear hb
    rcases hb2 with rfl | ⟨_, rfl⟩ <;>
    · go_enter Tryz.func75, Tryz.ntmps75
      go_wp2_with (first | (go_at_call 72; refine (unhide HO _ g gc _ (unhide H) (by show lenP (sayP _ _ _) ≤ mostP; rw [unhide HE1]; exact unhide HQ1)).mono ?_; rintro e w5 ⟨⟨v5, rfl⟩, g5, gc5, hx5, hb5⟩; have HX5 : Hid (SX Z p (some ⟨b, off, none⟩) n cap w5 g5 gc5 t1) := by { have := hx5; dsimp only at this; rw [unhide HE1] at this; exact this }; have HB5 := hide hb5; clear hx5 hb5 H) | (go_at_call 34; refine (unhide HK _ g5 gc5 _ (unhide HX5) (by rw [unhide HS2]; exact unhide HQ2)).mono ?_; rintro e w6 ⟨⟨v6, rfl⟩, hw6⟩; obtain ⟨g6, gc6, hx6, hb6⟩ := Went.trans (unhide HB5).1 (unhide HB5).2 hw6; have HX6 : Hid (SX Z p (some ⟨b, off, none⟩) n cap w6 g6 gc6 t2) := by { rw [unhide HS2] at hx6; exact hx6 }; have HB6 := hide hb6; clear hw6 hx6 hb6 HX5) | (go_at_call 72; refine (unhide HE _ g6 gc6 _ (unhide HX6) (unhide HQ)).mono ?_; rintro e w7 ⟨⟨v7, rfl⟩, hw7⟩; have HW7 := hide (Went.trans (unhide HB6).1 (unhide HB6).2 hw7); clear hw7))
      (try simp only [Exit.inBlock, Exit.then])
      refine bodyPost_ret (results_none rfl _ _ _) rfl ?_
      refine ⟨⟨_, rfl⟩, ?_⟩
      rw [unhide HEQ]
      exact unhide HW7
  · have eq : operP L ns G i st = G i st := by unfold operP; rw [hkk, if_neg hb]
    rw [eq] at hq ⊢
    have HQ := hide hq
    have h9 : (kk == 9) = false := by simp; omega
    have h10 : (kk == 10) = false := by simp; omega
    clear h hk hm hq hb eq hkk
    go_enter Tryz.func75, Tryz.ntmps75
    go_wp2_with (go_at_call 34; refine (unhide HK _ g gc _ (unhide H) (unhide HQ)).mono ?_; rintro e w6 ⟨⟨v6, rfl⟩, hw6⟩; have HW6 := hide hw6; clear hw6)
    go_end0
    exact ⟨⟨_, rfl⟩, unhide HW6⟩

end Go.Proofs.YtinndpnilmmmjaaGreatDoor
namespace Go.Proofs.YtinndpnilmmmjaaGreatDoor
open Go.RowKit

theorem appl_yes {L : Looks} {ns : List NodeD} (G : Nat → List UInt8 × Bool → List UInt8 × Bool) {f b : Nat} (h : takesR ns f b = true) (st : List UInt8 × Bool) : applP L ns G f b st = operP L ns G b (G f st) := by
  have h9 : (node ns b).k = 9 := by
    unfold takesR at h
    rw [Bool.and_eq_true, Bool.and_eq_true, decide_eq_true_eq] at h
    exact h.2.1
  unfold applP operP
  rw [if_pos h, if_pos (.inl h9)]

theorem appl_no {L : Looks} {ns : List NodeD} (G : Nat → List UInt8 × Bool → List UInt8 × Bool) {f b : Nat} (h : takesR ns f b = false) (st : List UInt8 × Bool) : applP L ns G f b st = G b (G f st) := by
  unfold applP
  rw [if_neg (by rw [h]; decide)]

theorem oper_mono {L : Looks} {ns : List NodeD} (G : Nat → List UInt8 × Bool → List UInt8 × Bool) (i : Nat) (hm : ∀ st, lenP st ≤ lenP (G i st)) (st : List UInt8 × Bool) : lenP st ≤ lenP (operP L ns G i st) := by
  unfold operP
  split
  · have h1 := (say_len st (L.sg 40) false).1
    have h2 := hm (sayS L st 40)
    have h3 := (say_len (G i (sayS L st 40)) (L.sg 41) false).1
    unfold sayS at *
    omega
  · exact hm st

set_option maxRecDepth 20000 in
set_option maxHeartbeats 8000000 in
theorem says_apply (Z : World) (p : Nat) (a : Option Addr) (n cap : Nat) (L : Looks) (ns : List NodeD) (hr : NRow Z a n ns) (G : Nat → List UInt8 × Bool → List UInt8 × Bool) (f b : Nat) (hf : f < n) (hb : b < n)
    (hf1 : (node ns f).k = 11 → 1 ≤ (node ns f).n) (hb9 : (node ns b).k = 9 → 0 < (node ns b).kids.length ∧ (node ns b).kids.getD 0 0 = ((kidN (node ns b) 0 : Nat) : Int) ∧ kidN (node ns b) 0 < n)
    (hkf : SaysP Z p a n cap 34 #[.pointer (some ⟨p, 0, none⟩), .int .i64 (f : Nat)] (G f)) (hkb : SaysP Z p a n cap 34 #[.pointer (some ⟨p, 0, none⟩), .int .i64 (b : Nat)] (G b)) (hm : ∀ st, lenP st ≤ lenP (G b st))
    (hop : SaysP Z p a n cap 75 #[.pointer (some ⟨p, 0, none⟩), .int .i64 (b : Nat)] (operP L ns G b)) :
    SaysP Z p a n cap 77 #[.pointer (some ⟨p, 0, none⟩), .int .i64 (f : Nat), .int .i64 (b : Nat)] (applP L ns G f b) := by
  intro w g gc st h hq
  have hsm := hr.small
  obtain ⟨bl, off, rfl, hbl, t1, m1, k1, t2, m2, k2, x0, x1, _⟩ := hr.get hf
  obtain ⟨bl', off', e', _, s1, n1, c1, s2, n2, c2, y0, y1, y2, y3, y4, y5, r1, r2⟩ := hr.get hb
  cases e'
  have hl2 := r2.len
  obtain ⟨u1, hu1⟩ : ∃ u, G f st = u := ⟨_, rfl⟩
  -- what is asked
  have HT : Hid (∀ W, Below Z.heap.size Z W → W.cell? ⟨bl, off + f * 6, none⟩ = some (.int .i64 (node ns f).k) ∧ W.cell? ⟨bl, off + f * 6 + 1, none⟩ = some (.int .i64 (node ns f).n) ∧ W.cell? ⟨bl, off + b * 6, none⟩ = some (.int .i64 (node ns b).k) ∧ W.cell? ⟨bl, off + b * 6 + 1, none⟩ = some (.int .i64 (node ns b).n) ∧ W.cell? ⟨bl, off + b * 6 + 2, none⟩ = some (.int .i64 (node ns b).m) ∧ W.cell? ⟨bl, off + b * 6 + 3, none⟩ = some (.string (node ns b).s) ∧ W.cell? ⟨bl, off + b * 6 + 4, none⟩ = some (.slice s1 n1 c1) ∧ W.cell? ⟨bl, off + b * 6 + 5, none⟩ = some (.slice s2 n2 c2) ∧ bl < W.heap.size) := fun W hW =>
    ⟨(hW.cell (p := ⟨bl, off + f * 6, none⟩) hbl).trans x0, (hW.cell (p := ⟨bl, off + f * 6 + 1, none⟩) hbl).trans x1, (hW.cell (p := ⟨bl, off + b * 6, none⟩) hbl).trans y0, (hW.cell (p := ⟨bl, off + b * 6 + 1, none⟩) hbl).trans y1, (hW.cell (p := ⟨bl, off + b * 6 + 2, none⟩) hbl).trans y2, (hW.cell (p := ⟨bl, off + b * 6 + 3, none⟩) hbl).trans y3, (hW.cell (p := ⟨bl, off + b * 6 + 4, none⟩) hbl).trans y4, (hW.cell (p := ⟨bl, off + b * 6 + 5, none⟩) hbl).trans y5, Nat.lt_of_lt_of_le hbl hW.size⟩
  have H := hide h
  have HKF := hide hkf
  have HKB := hide hkb
  have HOP := hide hop
  have hmono : lenP u1 ≤ lenP (applP L ns G f b st) := by
    cases ht : takesR ns f b with
    | true => rw [appl_yes G ht, hu1]; exact oper_mono G b hm u1
    | false => rw [appl_no G ht, hu1]; exact hm u1
  have HQ1 : Hid (lenP (G f st) ≤ mostP) := by show _ ≤ _; rw [hu1]; omega
  obtain ⟨fk, hfk⟩ : ∃ x, (node ns f).k = x := ⟨_, rfl⟩
  obtain ⟨fn, hfn⟩ : ∃ x, (node ns f).n = x := ⟨_, rfl⟩
  obtain ⟨bk, hbk⟩ : ∃ x, (node ns b).k = x := ⟨_, rfl⟩
  obtain ⟨bn, hbn⟩ : ∃ x, (node ns b).n = x := ⟨_, rfl⟩
  obtain ⟨bm, hbm⟩ : ∃ x, (node ns b).m = x := ⟨_, rfl⟩
  obtain ⟨bs, hbs⟩ : ∃ x, (node ns b).s = x := ⟨_, rfl⟩
  rw [hfk, hfn, hbk, hbn, hbm, hbs] at HT
  rw [hfk, hfn] at hf1
  clear x0 x1 y0 y1 y2 y3 y4 y5 r1 hbn hbm hbs
  have hT : takesR ns f b = (decide (fk = 11 ∧ 1 ≤ fn ∧ fn ≤ 16) && (decide (bk = 9) && primB (node ns (kidN (node ns b) 0)) 29 30)) := by
    unfold takesR
    rw [hbk]
    unfold primB
    rw [hfk, hfn]
  by_cases hno : ¬ fk = 11 ∨ (fk = 11 ∧ ¬ fn ≤ 16) ∨ (fk = 11 ∧ fn ≤ 16 ∧ ¬ bk = 9)
  · have hTF : takesR ns f b = false := by
      rw [hT]
      rcases hno with h1 | ⟨_, h1⟩ | ⟨_, _, h1⟩
      · rw [decide_eq_false (fun hh => h1 hh.1)]; rfl
      · rw [decide_eq_false (fun hh => h1 hh.2.2)]; rfl
      · rw [decide_eq_false h1]; simp
    have hA := appl_no (L := L) G hTF st
    rw [hA] at hq ⊢
    have HQ := hide hq
    clear hq hA hTF hT h hkf hkb hop hmono hu1 hr r2 hb9 hf1 hm
    have hno2 : (fk == 11) = false ∨ (fk = 11 ∧ decide (fn ≤ 16) = false) ∨ (fk = 11 ∧ decide (fn ≤ 16) = true ∧ (bk == 9) = false) := by simpa using hno
    clear hno
    rcases hno2 with z1 | ⟨z1, z2⟩ | ⟨z1, z2, z3⟩ <;> (try subst z1) <;>
    · go_enter Tryz.func77, Tryz.ntmps77
      go_wp2_with (go_at_call 34; refine (unhide HKF _ g gc _ (unhide H) (unhide HQ1)).mono ?_; rintro e w5 ⟨⟨v5, rfl⟩, g5, gc5, hx5, hb5⟩; obtain ⟨a0, a1, a2, a3, a4, a5, a6, a7, a8⟩ := unhide HT w5 hx5.low; obtain ⟨d0, d1, d2, f0, f1, f2⟩ := hx5.sw.all; have HX5 := hide hx5; have HB5 := hide hb5; have hp5 := hx5.sw.lt.1; clear hx5 hb5 H)
      simp only [List.append_eq, List.cons_append, List.nil_append]
      go_big_quiet (fail)
      go_wp2_with (go_at_call 34; refine (unhide HKB _ g5 gc5 _ ((unhide HX5).below (Below.drewN ((Below.refl _ _).alloc (Nat.le_refl _) _) _)) (unhide HQ)).mono ?_; rintro e w6 ⟨⟨v6, rfl⟩, hw6⟩; have HW6 := hide (Went.trans (But.of_below (Below.drewN ((Below.refl _ _).alloc (Nat.le_refl _) _) _)) (.inl rfl) hw6); clear hw6)
      go_end0
      refine ⟨⟨_, rfl⟩, ?_⟩
      exact Went.trans (unhide HB5).1 (unhide HB5).2 (unhide HW6)
  · have z1 : fk = 11 := by
      by_cases hh : fk = 11
      · exact hh
      · exact absurd (.inl hh) hno
    have z2 : fn ≤ 16 := by
      by_cases hh : fn ≤ 16
      · exact hh
      · exact absurd (.inr (.inl ⟨z1, hh⟩)) hno
    have z3 : bk = 9 := by
      by_cases hh : bk = 9
      · exact hh
      · exact absurd (.inr (.inr ⟨z1, z2, hh⟩)) hno
    have z4 := hf1 z1
    obtain ⟨hk0, hkv, hkl⟩ := hb9 (hbk.trans z3)
    obtain ⟨kid, hkid⟩ : ∃ x, kidN (node ns b) 0 = x := ⟨_, rfl⟩
    obtain ⟨kb, ko, rfl, hkb2, q0⟩ := r2.get (k := 0) (by omega)
    rw [hkid] at hkl hkv hT
    rw [hkv, Nat.add_zero] at q0
    obtain ⟨bl2, off2, e2, _, _, _, _, _, _, _, q1, q2, _⟩ := hr.get hkl
    cases e2
    obtain ⟨kk, hkk⟩ : ∃ x, (node ns kid).k = x := ⟨_, rfl⟩
    obtain ⟨kn, hkn⟩ : ∃ x, (node ns kid).n = x := ⟨_, rfl⟩
    rw [hkk] at q1
    rw [hkn] at q2
    have HT2 : Hid (∀ W, Below Z.heap.size Z W → W.cell? ⟨kb, ko, none⟩ = some (.int .i64 (kid : Nat)) ∧ W.cell? ⟨bl, off + kid * 6, none⟩ = some (.int .i64 kk) ∧ W.cell? ⟨bl, off + kid * 6 + 1, none⟩ = some (.int .i64 kn) ∧ kb < W.heap.size) := fun W hW =>
      ⟨(hW.cell (p := ⟨kb, ko, none⟩) hkb2).trans q0, (hW.cell (p := ⟨bl, off + kid * 6, none⟩) hbl).trans q1, (hW.cell (p := ⟨bl, off + kid * 6 + 1, none⟩) hbl).trans q2, Nat.lt_of_lt_of_le hkb2 hW.size⟩
    have hT3 : takesR ns f b = decide (kk = 11 ∧ 29 ≤ kn ∧ kn ≤ 30) := by
      rw [hT, decide_eq_true ⟨z1, z4, z2⟩, decide_eq_true z3]
      unfold primB
      rw [hkk, hkn]
      rfl
    have hn20 : (0 : Int) < (n2 : Int) := by omega
    have hkli : (kid : Int) < (n : Int) := by omega
    have z2d : decide (fn ≤ 16) = true := decide_eq_true z2
    subst z1 z3
    clear hno z2 z4 hf1 hb9 hT hkk hkn q0 q1 q2 hkb2 hkv hkid hr r2 hk0 hfk hfn hbk
    by_cases hy : kk = 11 ∧ 29 ≤ kn ∧ kn ≤ 30
    · have hA := appl_yes (L := L) G (by rw [hT3]; exact decide_eq_true hy) st
      rw [hA] at hq ⊢
      have HQ := hide hq
      have hy2 : kk = 11 ∧ (kn = 29 ∨ ((kn == 29) = false ∧ kn = 30)) := by
        refine ⟨hy.1, ?_⟩
        by_cases h29 : kn = 29
        · exact .inl h29
        · exact .inr ⟨by simpa using h29, by omega⟩
      clear hq hA hT3 h hkf hkb hop hmono hu1 hm hy
      obtain ⟨rfl, hy3⟩ := hy2
      rcases hy3 with rfl | ⟨z29, rfl⟩ <;>
      · go_enter Tryz.func77, Tryz.ntmps77
        go_wp2_with (go_at_call 34; refine (unhide HKF _ g gc _ (unhide H) (unhide HQ1)).mono ?_; rintro e w5 ⟨⟨v5, rfl⟩, g5, gc5, hx5, hb5⟩; obtain ⟨a0, a1, a2, a3, a4, a5, a6, a7, a8⟩ := unhide HT w5 hx5.low; obtain ⟨b0, b1, b2, b3⟩ := unhide HT2 w5 hx5.low; obtain ⟨d0, d1, d2, f0, f1, f2⟩ := hx5.sw.all; have HX5 := hide hx5; have HB5 := hide hb5; have hp5 := hx5.sw.lt.1; clear hx5 hb5 H)
        simp only [List.append_eq, List.cons_append, List.nil_append]
        go_big_quiet (fail)
        go_wp2_with (go_at_call 75; refine (unhide HOP _ g5 gc5 _ ((unhide HX5).below (Below.drewN ((Below.refl _ _).alloc (Nat.le_refl _) _) _)) (unhide HQ)).mono ?_; rintro e w6 ⟨⟨v6, rfl⟩, hw6⟩; have HW6 := hide (Went.trans (But.of_below (Below.drewN ((Below.refl _ _).alloc (Nat.le_refl _) _) _)) (.inl rfl) hw6); clear hw6)
        (try simp only [Exit.inBlock, Exit.then])
        refine bodyPost_ret (results_none rfl _ _ _) rfl ?_
        refine ⟨⟨_, rfl⟩, ?_⟩
        exact Went.trans (unhide HB5).1 (unhide HB5).2 (unhide HW6)
    · have hA := appl_no (L := L) G (by rw [hT3]; exact decide_eq_false hy) st
      rw [hA] at hq ⊢
      have HQ := hide hq
      have hy2 : (kk == 11) = false ∨ (kk = 11 ∧ (kn == 29) = false ∧ (kn == 30) = false) := by
        by_cases h11 : kk = 11
        · exact .inr ⟨h11, by simp; omega, by simp; omega⟩
        · exact .inl (by simpa using h11)
      clear hq hA hT3 h hkf hkb hop hmono hu1 hm hy
      rcases hy2 with y1 | ⟨y1, y2, y3⟩ <;> (try subst y1) <;>
      · go_enter Tryz.func77, Tryz.ntmps77
        go_wp2_with (go_at_call 34; refine (unhide HKF _ g gc _ (unhide H) (unhide HQ1)).mono ?_; rintro e w5 ⟨⟨v5, rfl⟩, g5, gc5, hx5, hb5⟩; obtain ⟨a0, a1, a2, a3, a4, a5, a6, a7, a8⟩ := unhide HT w5 hx5.low; obtain ⟨b0, b1, b2, b3⟩ := unhide HT2 w5 hx5.low; obtain ⟨d0, d1, d2, f0, f1, f2⟩ := hx5.sw.all; have HX5 := hide hx5; have HB5 := hide hb5; have hp5 := hx5.sw.lt.1; clear hx5 hb5 H)
        simp only [List.append_eq, List.cons_append, List.nil_append]
        go_big_quiet (fail)
        go_wp2_with (go_at_call 34; refine (unhide HKB _ g5 gc5 _ ((unhide HX5).below (Below.drewN ((Below.refl _ _).alloc (Nat.le_refl _) _) _)) (unhide HQ)).mono ?_; rintro e w6 ⟨⟨v6, rfl⟩, hw6⟩; have HW6 := hide (Went.trans (But.of_below (Below.drewN ((Below.refl _ _).alloc (Nat.le_refl _) _) _)) (.inl rfl) hw6); clear hw6)
        go_end0
        refine ⟨⟨_, rfl⟩, ?_⟩
        exact Went.trans (unhide HB5).1 (unhide HB5).2 (unhide HW6)

end Go.Proofs.YtinndpnilmmmjaaGreatDoor
namespace Go.Proofs.YtinndpnilmmmjaaGreatDoor
open Go.RowKit

/-- The primitives' signs, in their order. -/
def primCs : List Nat := [43, 45, 215, 247, 8970, 8968, 124, 42, 61, 8800, 60, 8804, 8805, 62, 8743, 8744, 126, 9076, 9075, 44, 9021, 8854, 9033, 8593, 8595, 9035, 9042, 8714, 47, 9023, 8869, 8868, 8802]

def primS : ByteArray := ⟨(primCs.flatMap fun c => ((encZ (c : Nat)).map fun x => x.toNat.toUInt8) ++ [32]).toArray⟩

/-- The signs as texts. -/
def primTs : List ByteArray := primCs.map fun c => bstr (encZ (c : Nat))

theorem prim_pieces : (pcN primS primS.size).2 = primTs := by kernel_rfl

theorem primTs_len : primTs.length = 33 := by kernel_rfl

theorem prim_size : primS.size ≤ 100000 := by
  have : primS.size = 110 := by kernel_rfl
  omega

set_option maxRecDepth 100000 in
theorem l2Prims_any (w : World) : Calls Tryz.prog 122 #[] w (GivesStrs w primTs) := by
  have HC : ∀ x : ByteArray, x = primS → Calls Tryz.prog 141 #[.string x] w (GivesStrs w primTs) := fun x h => by
    rw [h, ← prim_pieces]
    exact l1List_any primS w prim_size
  have HL := hide HC
  clear HC
  go_enter Tryz.func122, Tryz.ntmps122
  go_wp2_with (go_at_call 141; refine (unhide HL _ (by kernel_rfl)).mono ?_; rintro e w5 ⟨g, cap, rfl, hr, hb⟩; have HR := hide hr; have HB := hide hb; clear hr hb)
  go_ret
  exact ⟨g, cap, rfl, unhide HR, unhide HB⟩

/-- How long a sign is. -/
theorem prim_short : ∀ t ∈ primTs, t.size ≤ 4 := by
  have h : (primTs.all fun t => decide (t.size ≤ 4)) = true := by kernel_rfl
  intro t ht
  have := List.all_eq_true.mp h t ht
  exact of_decide_eq_true this

end Go.Proofs.YtinndpnilmmmjaaGreatDoor
namespace Go.Proofs.YtinndpnilmmmjaaGreatDoor
open Go.RowKit

/-- A text said, from a world that the writer's has grown to. -/
theorem SX.say {Z w w1 : World} {p : Nat} {a : Option Addr} {n cap g gc : Nat} {st : List UInt8 × Bool} (h : SX Z p a n cap w g gc st) (hb : Below w.heap.size w w1) (s : ByteArray) (wd : Bool) (hl : lenP (sayP st s.data.toList wd) ≤ mostP) :
    Calls Tryz.prog 72 #[.pointer (some ⟨p, 0, none⟩), .string s, .bool wd] w1 fun e w' => (∃ v, e = .returned v) ∧ Went Z p a n cap w g (sayP st s.data.toList wd) w' := by
  refine (says_say Z p a n cap s wd w1 g gc st (h.below hb) hl).mono ?_
  rintro e w' ⟨hv, hw⟩
  exact ⟨hv, Went.trans (But.of_below hb) (.inl rfl) hw⟩

set_option maxRecDepth 20000 in
set_option maxHeartbeats 8000000 in
theorem says_fun17 (Z : World) (p : Nat) (a : Option Addr) (n cap : Nat) (k xn xm : Int) (xs : ByteArray) (s1 s2 : Option Addr) (n1 c1 n2 c2 : Nat) (hk : k = 17) :
    SaysP Z p a n cap 78 #[.pointer (some ⟨p, 0, none⟩), .agg #[.int .i64 k, .int .i64 xn, .int .i64 xm, .string xs, .slice s1 n1 c1, .slice s2 n2 c2]] (fun st => sayP st xs.data.toList true) := by
  intro w g gc st h hq
  have hq' : lenP (sayP st xs.data.toList true) ≤ mostP := hq
  have HQ := hide hq'
  have HX := hide h
  have hB : Hid (∀ o : Obj, Below w.heap.size w (w.alloc o)) := fun o => (Below.refl _ _).alloc (Nat.le_refl _) _
  clear h hq hq'
  subst hk
  go_enter Tryz.func78, Tryz.ntmps78
  go_wp2_with (first | (go_at_call 122; refine (l2Prims_any _).mono ?_; rintro e w5 ⟨pg, pc, rfl, hr, hb⟩; have b5 := (NBox.new w (.int .i64 17) (.int .i64 xn) (.int .i64 xm) (.string xs) (.slice s1 n1 c1) (.slice s2 n2 c2)).below (by simp) hb; obtain ⟨e0, e1, e2, e3, e4, e5⟩ := b5.all; have HB5 := hide ((unhide hB _).trans (hb.mono (by simp))); clear hr hb b5) | (go_at_call 72; refine ((unhide HX).say (unhide HB5) _ _ (unhide HQ)).mono ?_; rintro e w6 ⟨⟨v6, rfl⟩, hw6⟩; have HW6 := hide hw6; clear hw6))
  go_end0
  exact ⟨⟨_, rfl⟩, unhide HW6⟩

set_option maxRecDepth 20000 in
set_option maxHeartbeats 8000000 in
theorem says_fun18 (Z : World) (p : Nat) (a : Option Addr) (n cap : Nat) (k xn xm : Int) (xs : ByteArray) (s1 s2 : Option Addr) (n1 c1 n2 c2 : Nat) (hk : k = 18) :
    SaysP Z p a n cap 78 #[.pointer (some ⟨p, 0, none⟩), .agg #[.int .i64 k, .int .i64 xn, .int .i64 xm, .string xs, .slice s1 n1 c1, .slice s2 n2 c2]] (fun st => sayP st [226, 136, 135] false) := by
  intro w g gc st h hq
  have hq' : lenP (sayP st (⟨#[226, 136, 135]⟩ : ByteArray).data.toList false) ≤ mostP := hq
  have HQ := hide hq'
  have HX := hide h
  have hB : Hid (∀ o : Obj, Below w.heap.size w (w.alloc o)) := fun o => (Below.refl _ _).alloc (Nat.le_refl _) _
  clear h hq hq'
  subst hk
  go_enter Tryz.func78, Tryz.ntmps78
  go_wp2_with (first | (go_at_call 122; refine (l2Prims_any _).mono ?_; rintro e w5 ⟨pg, pc, rfl, hr, hb⟩; have b5 := (NBox.new w (.int .i64 18) (.int .i64 xn) (.int .i64 xm) (.string xs) (.slice s1 n1 c1) (.slice s2 n2 c2)).below (by simp) hb; obtain ⟨e0, e1, e2, e3, e4, e5⟩ := b5.all; have HB5 := hide ((unhide hB _).trans (hb.mono (by simp))); clear hr hb b5) | (go_at_call 72; refine ((unhide HX).say (unhide HB5) _ _ (unhide HQ)).mono ?_; rintro e w6 ⟨⟨v6, rfl⟩, hw6⟩; have HW6 := hide hw6; clear hw6))
  go_end0
  exact ⟨⟨_, rfl⟩, unhide HW6⟩

/-- A primitive's sign. -/
def primT (q : Nat) : ByteArray := primTs.getD q ⟨#[]⟩

theorem prims_at {w : World} {g q : Nat} (h : RowS w (some ⟨g, 0, none⟩) primTs.length primTs) (hq : q < 33) : w.cell? ⟨g, q, none⟩ = some (.string (primT q)) := by
  rcases h.at_ with h0 | ⟨b, off, e, _, hc⟩
  · rw [primTs_len] at h0; omega
  · cases e
    have := hc q (by rw [primTs_len]; exact hq)
    rwa [Nat.zero_add] at this

set_option maxRecDepth 20000 in
set_option maxHeartbeats 8000000 in
theorem says_fun11 (Z : World) (p : Nat) (a : Option Addr) (n cap : Nat) (k xm : Int) (q : Nat) (hq33 : q < 33) (xs : ByteArray) (s1 s2 : Option Addr) (n1 c1 n2 c2 : Nat) (hk : k = 11) :
    SaysP Z p a n cap 78 #[.pointer (some ⟨p, 0, none⟩), .agg #[.int .i64 k, .int .i64 ((q : Int) + 1), .int .i64 xm, .string xs, .slice s1 n1 c1, .slice s2 n2 c2]] (fun st => sayP st (primT q).data.toList false) := by
  intro w g gc st h hq
  have hq' : lenP (sayP st (primT q).data.toList false) ≤ mostP := hq
  have HQ := hide hq'
  have HX := hide h
  have hB : Hid (∀ o : Obj, Below w.heap.size w (w.alloc o)) := fun o => (Below.refl _ _).alloc (Nat.le_refl _) _
  have hlen := primTs_len
  have hsub : (q : Int) + 1 - 1 = (q : Int) := by omega
  clear h hq hq'
  subst hk
  go_enter Tryz.func78, Tryz.ntmps78
  go_wp2_with (first | (go_at_call 122; refine (l2Prims_any _).mono ?_; rintro e w5 ⟨pg, pc, rfl, hr, hb⟩; simp only [hlen]; have b5 := (NBox.new w (.int .i64 11) (.int .i64 ((q : Int) + 1)) (.int .i64 xm) (.string xs) (.slice s1 n1 c1) (.slice s2 n2 c2)).below (by simp) hb; obtain ⟨e0, e1, e2, e3, e4, e5⟩ := b5.all; have HB5 := hide ((unhide hB _).trans (hb.mono (by simp))); have hpq := prims_at hr hq33; clear hr hb b5) | (go_at_call 72; refine ((unhide HX).say (unhide HB5) _ _ (unhide HQ)).mono ?_; rintro e w6 ⟨⟨v6, rfl⟩, hw6⟩; have HW6 := hide hw6; clear hw6))

  go_end0
  exact ⟨⟨_, rfl⟩, unhide HW6⟩

end Go.Proofs.YtinndpnilmmmjaaGreatDoor
