import Derived.Test.YtgjpchnkodnieaaGreatDoorZv07
import Derived.Test.YtgjpchnkodnieaaGreatDoorZv02
import Derived.Test.YtgjpchnkodnieaaGreatDoorZv04
import Derived.Test.YtgjpchnkodnieaaGreatDoorZv08
import Derived.RangeFuncBound
import Derived.RangeFuncCalls
import Derived.Shelf.Abstract
import Derived.Shelf.RegionOpen
import Derived.WalkKit
import Derived.OwnWalkIn
import Derived.TacticsInMore
import Derived.LoopNIn
import Derived.LoopIn
import Derived.Test.YtgjpchnkodnieaaGreatDoorZv00
import Derived.Test.YtgjpchnkodnieaaGreatDoorChecked
import Derived.Test.YtgjpchnkodnieaaGreatDoorZv09
import Derived.LaidEql
import Derived.Stop.Asserts
import Derived.RowKitTokens
import Derived.Test.YtgjpchnkodnieaaGreatDoorZv01
import Derived.Test.YtgjpchnkodnieaaGreatDoorRows
import Derived.ProofKit
import Derived.OpenShut
import Derived.ShutString
import Derived.ChangeOld
import Derived.Below
import Derived.Lib.SmallJoins
import Derived.Test.YtgjpchnkodnieaaGreatDoorZv03
import Derived.Test.YtgjpchnkodnieaaGreatDoorZv06
import Derived.Test.YtgjpchnkodnieaaGreatDoorZv10
import Derived.Deep.RegionHeld
namespace Go.Proofs.YtgjpchnkodnieaaGreatDoor
open Go.RowKit Go.Shelf
attribute [local go_sem] Oper.semAt_some
def ixAt (n : Nat) (sh : List Int) (lo : Nat) (k : Nat) (v : Value) (W : World) : Prop := ∃ g, lo ≤ g ∧ v = .slice (some ⟨g, 0, none⟩) n n ∧ Blk W g (digits sh k)
theorem indexesIn_any (sa : Option Addr) (n cap : Nat) (w : World) : Calls Tryz.prog 150 #[.slice sa n cap] w fun e w' => e = .returned (.func (.func 228) #[] #[.pointer (some ⟨w.heap.size, 0, none⟩)]) ∧ w' = w.alloc (.cells #[.slice sa n cap] 23) := by
  go_enter Tryz.func150, Tryz.ntmps150
  go_wp2
  go_ret
  exact ⟨rfl, rfl⟩
theorem cellsOf_n (a : Option Addr) (n cap : Nat) (sh : List Int) (w : World) (h : Row w a n sh) (hin : ShapeIn sh) (N : Nat) (hr : Hid (prodAll sh = (N : Int))) : Calls Tryz.prog 116 #[.slice a n cap] w fun e w' => e = .returned (.int .i64 (N : Int)) ∧ w' = w := by
  rw [← hr.out]
  exact cellsOf_any a n cap sh w h (fun k => (hin.take k).bd)
set_option maxRecDepth 100000 in
set_option maxHeartbeats 2000000 in
theorem indexesIn1_seq (m Bn : Nat) (sa : Option Addr) (n cap : Nat) (sh : List Int) (w0 : World) (N : Nat) (T : Nat → Prop) (hBox : w0.cell? ⟨Bn, 0, none⟩ = some (.slice sa n cap)) (hBn : Bn < w0.heap.size) (hr : Row w0 sa n sh) (h5 : n ≤ 5) (hs : ShapeIn sh) (hN : prodAll sh = (N : Int)) (hT1 : ¬ T Bn) (hT2 : ∀ k, T k → ¬ At sa n k) :
    SeqCells m Tryz.prog 228 #[.pointer (some ⟨Bn, 0, none⟩)] N (ixAt n sh (w0.heap.size + 2)) T w0 := by
  intro l J W hW hz hTl hJ hY h0
  have hl := hr.len
  have hsm := hr.small
  have hNb : N ≤ 10000 := by have := hs.bd; omega
  have hBW : Bn < W.heap.size := by omega
  have hRW : Row W sa n sh := hr.below (Nat.le_refl _) hW
  have hbox := (hW.cell (p := ⟨Bn, 0, none⟩) hBn).trans hBox
  have hbox2 : (W.alloc (.cells (madeCells #[.int .i64 0] n) 3)).cell? ⟨Bn, 0, none⟩ = some (.slice sa n cap) := (((Below.refl _ W).alloc (Nat.le_refl _) _).cell (p := ⟨Bn, 0, none⟩) hBW).trans hbox
  have hmk := run_make_row' (P := Tryz.prog) 23 3 (.int .i64 0) 8 Tryz.underlying23 info_int rfl .i64 .i64 n (by omega) (by omega)
  have HRW := hide hRW
  have HS := hide hs
  have HN := hide hN
  have HY : Hid (∀ k v W1, k < N → J k W1 → ixAt n sh (w0.heap.size + 2) k v W1 → YieldAt Fence.wide (m - 1) Tryz.prog l #[.int .i64 (k : Nat), v] W1 fun e W' => e = .returned (.bool true) ∧ J (k + 1) W' ∧ But T W1 W') := hY
  have HJ : Hid (∀ k A B, J k A → Below W.heap.size A B → J k B) := hJ
  have HTL : Hid (∀ k, T k → k < W.heap.size) := hTl
  have HT1 := hide hT1
  have HT2 : Hid (∀ k, T k → ¬ At sa n k) := hT2
  have H0 := hide h0
  have HL := hide hl
  clear hRW hs hN hY hJ hTl hT1 hT2 h0 hl hr hBox hW
  refine callsIn_of_wp Tryz.func228 rfl trivial ?_ rfl
  simp only [Tryz.ntmps228, List.size_toArray, List.length_cons, List.length_nil, Nat.reduceAdd, Nat.reduceSub, Array.replicate_succ, Array.replicate_zero, List.push_toArray, List.append_toArray, List.nil_append, List.cons_append]
  gi_wp2_with (refine ⟨trivial, fun h => (by simp [Fence.wide] at h), ?_⟩; gi_at_call 116; refine (callsIn_wide.2 (cellsOf_n _ _ _ sh _ ((unhide HRW).alloc _) (unhide HS) N HN)).mono ?_; rintro e w1 ⟨rfl, rfl⟩)
  gi_loopw [10] (fun i wr => ∃ k : Nat, k ≤ N ∧ i = .int .i64 (k : Nat) ∧ Hid (J k wr) ∧ Hid (Blk wr W.heap.size (digits sh k)) ∧ Hid (But T W wr)) (fun i _ => N - (intOf i).toNat)
  case atStart =>
    refine ⟨0, Nat.zero_le _, rfl, hide (HJ.out _ _ _ H0.out ((Below.refl _ _).alloc (Nat.le_refl _) _)), ?_, hide ((But.refl _ _).alloc _)⟩
    show Blk _ _ _
    rw [show ((0 : Nat) : Int) = 0 from rfl, digits_zero, HL.out]
    exact Blk.made _ _ _ rfl
  case round =>
    obtain ⟨k, hk, rfl, hj, hb, hbut⟩ := hrel
    clear hbox2 hmk H0
    by_cases hlt : k < N
    · have HF : Hid (Full sh) := full_of HS.out (by rw [HN.out]; omega)
      obtain ⟨fn, tmps, assign, body, hy, hR⟩ := HY.out k _ wr hlt hj.out ⟨W.heap.size, hz, rfl, hb.out⟩
      gi_wp2
      refine ⟨fun h => (by simp [Fence.wide] at h), hR.mono ?_⟩
      rintro e W3 ⟨rfl, hJ3, hbut3⟩
      have hbt : But T W W3 := (hbut.out.trans hbut3).mono (by rintro x (h | h) <;> exact h)
      have hb3 : Blk W3 W.heap.size (digits sh k) := (hbut3.block _ hb.out.lt (fun h => by have := HTL.out _ h; omega)).trans hb.out
      have hr3 := hide (hbt.row HRW.out HT2.out)
      have hx3 : W3.cell? ⟨Bn, 0, none⟩ = some (.slice sa n cap) := (hbt.cellAt hBW HT1.out).trans hbox
      have HBT := hide hbt
      have HB3 := hide hb3
      have HJ3 := hide hJ3
      have hgs : ¬ At sa n W.heap.size := fun h => by have := HRW.out.hi h; omega
      clear hR hy hb3 hbt hbut3 hJ3 hj hb hbut
      gi_wp2_with (refine ⟨trivial, fun h => (by simp [Fence.wide] at h), ?_⟩; gi_at_call 229; refine (callsIn_wide.2 (advance_any _ _ _ _ _ sh k _ HB3.out hr3.out hgs HF.out HS.out)).mono ?_; rintro e w4 ⟨⟨v, rfl⟩, hb4, hbut4⟩)
      go_roundw
      case rel =>
        refine ⟨k + 1, by omega, by go_num, hide (HJ.out _ _ _ HJ3.out (hbut4.below HBT.out.size (by rintro x rfl; exact Nat.le_refl _))), ?_, ?_⟩
        · show Blk _ _ _
          rw [show ((k + 1 : Nat) : Int) = (k : Int) + 1 by omega]
          exact hb4
        · exact hide ⟨hbut4.os.trans HBT.out.os, hbut4.tape.trans HBT.out.tape, hbut4.output.trans HBT.out.output, Nat.le_trans HBT.out.size hbut4.size, fun x hx hn => (hbut4.block x (Nat.lt_of_lt_of_le hx HBT.out.size) (by omega)).trans (HBT.out.block x hx hn)⟩
      case measure => simp [intOf]; go_num
    · have : k = N := by omega
      subst this
      gi_wp2
      go_end0
      exact ⟨⟨_, rfl⟩, hj.out⟩
end Go.Proofs.YtgjpchnkodnieaaGreatDoor
namespace Go.Proofs.YtgjpchnkodnieaaGreatDoor
open Go.RowKit Go.Shelf
def ElemOk (a b : Addr) (g : Nat) (lb : Array Value) (f : Nat → Int × Int) (n : Nat) (w : World) : Prop :=
  ∀ k, k < n → ∀ W, Below w.heap.size w W → Calls Tryz.prog g (#[.int .i64 (k : Nat)] ++ lb) W fun e w' => e = .returned (.tuple #[.int .i64 (f k).1, errV a b (f k).2]) ∧ Below W.heap.size W w'
theorem ElemOk.low {a b : Addr} {g : Nat} {lb : Array Value} {f : Nat → Int × Int} {n : Nat} {w w1 : World} (h : ElemOk a b g lb f n w) (hb : Below w.heap.size w w1) : ElemOk a b g lb f n w1 :=
  fun k hk W hW => h k hk W (hb.trans (hW.mono hb.size))
end Go.Proofs.YtgjpchnkodnieaaGreatDoor
namespace Go.Proofs.YtgjpchnkodnieaaGreatDoor
open Go.ChangeShapes Go.WideShapes Go.ChangeAt Go.RowKit Go.Joins
theorem own : ownKnob Tryz.prog.godebug = none := by kernel_rfl
theorem laidOut : laidOutB Tryz.prog = true := by kernel_rfl
end Go.Proofs.YtgjpchnkodnieaaGreatDoor
namespace Go.Proofs.YtgjpchnkodnieaaGreatDoor
open Go.RowKit
theorem Box.free' {w : World} {p : Nat} {c : Bool} {v1 v2 : Value} (h : Box w p c v1 v2) : w.cell? ⟨p, 0, none⟩ = some (.bool c) ∧ w.cell? ⟨p, 1, none⟩ = some v1 ∧ w.cell? ⟨p, 2, none⟩ = some v2 ∧ w.frozen? ⟨p, 0, none⟩ = false ∧ w.frozen? ⟨p, 1, none⟩ = false ∧ w.frozen? ⟨p, 2, none⟩ = false ∧ p < w.heap.size :=
  ⟨h.cells.1, h.cells.2.1, h.cells.2.2, frozen_of_row w p _ _ _ h, frozen_of_row w p _ _ _ h, frozen_of_row w p _ _ _ h, h.lt⟩
theorem Box.sets {w : World} {p : Nat} {c c' : Bool} {v1 v2 u1 u2 : Value} (h : Box w p c v1 v2) : Box (((w.setCell ⟨p, 0, none⟩ (.bool c')).setCell ⟨p, 1, none⟩ u1).setCell ⟨p, 2, none⟩ u2) p c' u1 u2 := by
  unfold Box at h ⊢
  have h1 := heap_setCell_same w p 0 _ _ (.bool c') h
  have h2 := heap_setCell_same _ p 1 _ _ u1 h1
  have h3 := heap_setCell_same _ p 2 _ _ u2 h2
  simpa using h3
theorem Row.notBox {w : World} {a : Option Addr} {n p : Nat} {zs : List Int} {c : Bool} {a1 a2 : Option Addr} {l1 l2 c1 c2 : Nat} (h : Row w a n zs) (hb : Box w p c (.slice a1 l1 c1) (.slice a2 l2 c2)) {k : Nat} (hk : At a n k) : k ≠ p := by
  rcases h.at_ with h0 | ⟨g, off, rfl, hg, hc⟩
  · exact absurd h0 hk.1
  · have e := at_eq hk
    subst e
    rintro rfl
    have h1 := hc 0 (by have := hk.1; omega)
    unfold Box at hb
    simp only [World.cell?, hb] at h1
    simp at h1
    match off, h1 with
    | 0, h1 => simp at h1
    | 1, h1 => simp at h1
    | 2, h1 => simp at h1
theorem Row.otherB {w : World} {a : Option Addr} {n : Nat} {zs : List Int} (h : Row w a n zs) {q : Addr} (ha : ∀ k, At a n k → k ≠ q.block) (v : Value) : Row (w.setCell q v) a n zs :=
  ((But.refl (fun k => k = q.block) w).setCell rfl v).row h (fun k hk hk' => ha k hk' hk)
theorem Row.sets {w : World} {a : Option Addr} {n p : Nat} {zs : List Int} {c : Bool} {a1 a2 : Option Addr} {l1 l2 c1 c2 : Nat} (h : Row w a n zs) (hb : Box w p c (.slice a1 l1 c1) (.slice a2 l2 c2)) (u0 u1 u2 : Value) : Row (((w.setCell ⟨p, 0, none⟩ u0).setCell ⟨p, 1, none⟩ u1).setCell ⟨p, 2, none⟩ u2) a n zs :=
  ((h.otherB (fun _ hk => h.notBox hb hk) _).otherB (fun _ hk => h.notBox hb hk) _).otherB (fun _ hk => h.notBox hb hk) _
end Go.Proofs.YtgjpchnkodnieaaGreatDoor
namespace Go.Proofs.YtgjpchnkodnieaaGreatDoor
open Go.RowKit
def PAt (R : World → Option Addr → Nat → List Int → Prop) (w : World) (b off : Nat) (p : PartD) : Prop :=
  ∃ s1 n1 c1 s2 n2 c2, w.cell? ⟨b, off, none⟩ = some (.bool p.all) ∧ w.cell? ⟨b, off + 1, none⟩ = some (.bool p.c) ∧ w.cell? ⟨b, off + 2, none⟩ = some (.slice s1 n1 c1) ∧ w.cell? ⟨b, off + 3, none⟩ = some (.slice s2 n2 c2) ∧ R w s1 n1 p.sh ∧ R w s2 n2 p.dt
structure PRow (w : World) (a : Option Addr) (n : Nat) (ps : List PartD) : Prop where
  len : ps.length = n
  small : n ≤ 1048576
  at_ : n = 0 ∨ ∃ b off, a = some ⟨b, off, none⟩ ∧ b < w.heap.size ∧ ∀ i, i < n → PAt Row w b (off + i * 4) (part ps i)
structure PRaw (w : World) (a : Option Addr) (n : Nat) (ps : List PartD) : Prop where
  len : ps.length = n
  max : n ≤ 9223372036854775807
  at_ : n = 0 ∨ ∃ b off, a = some ⟨b, off, none⟩ ∧ b < w.heap.size ∧ ∀ i, i < n → PAt Raw w b (off + i * 4) (part ps i)
theorem Raw.below {w w' : World} {a : Option Addr} {n : Nat} {zs : List Int} {B : Nat} (h : Raw w a n zs) (hB : w.heap.size ≤ B) (hb : Below B w w') : Raw w' a n zs := by
  refine ⟨h.len, h.max, ?_⟩
  rcases h.at_ with h0 | ⟨b, off, rfl, hlt, hc⟩
  · exact .inl h0
  · exact .inr ⟨b, off, rfl, Nat.lt_of_lt_of_le hlt hb.size, fun i hi => (hb.cell (p := ⟨b, off + i, none⟩) (Nat.lt_of_lt_of_le hlt hB)).trans (hc i hi)⟩
theorem PAt.below {R : World → Option Addr → Nat → List Int → Prop} {w w' : World} {b off B : Nat} {p : PartD} (h : PAt R w b off p) (hR : ∀ a n zs, R w a n zs → R w' a n zs) (hlt : b < B) (hb : Below B w w') : PAt R w' b off p := by
  obtain ⟨s1, n1, c1, s2, n2, c2, e1, e2, e3, e4, e5, e6⟩ := h
  exact ⟨s1, n1, c1, s2, n2, c2, (hb.cell (p := ⟨b, off, none⟩) hlt).trans e1, (hb.cell (p := ⟨b, off + 1, none⟩) hlt).trans e2, (hb.cell (p := ⟨b, off + 2, none⟩) hlt).trans e3, (hb.cell (p := ⟨b, off + 3, none⟩) hlt).trans e4, hR _ _ _ e5, hR _ _ _ e6⟩
theorem PRow.below {w w' : World} {a : Option Addr} {n : Nat} {ps : List PartD} {B : Nat} (h : PRow w a n ps) (hB : w.heap.size ≤ B) (hb : Below B w w') : PRow w' a n ps := by
  refine ⟨h.len, h.small, ?_⟩
  rcases h.at_ with h0 | ⟨b, off, rfl, hlt, hc⟩
  · exact .inl h0
  · exact .inr ⟨b, off, rfl, Nat.lt_of_lt_of_le hlt hb.size, fun i hi => (hc i hi).below (fun _ _ _ hr => hr.below hB hb) (Nat.lt_of_lt_of_le hlt hB) hb⟩
theorem PRaw.below {w w' : World} {a : Option Addr} {n : Nat} {ps : List PartD} {B : Nat} (h : PRaw w a n ps) (hB : w.heap.size ≤ B) (hb : Below B w w') : PRaw w' a n ps := by
  refine ⟨h.len, h.max, ?_⟩
  rcases h.at_ with h0 | ⟨b, off, rfl, hlt, hc⟩
  · exact .inl h0
  · exact .inr ⟨b, off, rfl, Nat.lt_of_lt_of_le hlt hb.size, fun i hi => (hc i hi).below (fun _ _ _ hr => hr.below hB hb) (Nat.lt_of_lt_of_le hlt hB) hb⟩
theorem PRow.alloc {w : World} {a : Option Addr} {n : Nat} {ps : List PartD} (h : PRow w a n ps) (o : Obj) : PRow (w.alloc o) a n ps := h.below (Nat.le_refl _) ((Below.refl _ _).alloc (Nat.le_refl _) _)
theorem PRow.drew {w : World} {a : Option Addr} {n : Nat} {ps : List PartD} (h : PRow w a n ps) : PRow w.drew a n ps := h.below (Nat.le_refl _) (Below.refl _ _).drew
theorem PRow.get {w : World} {a : Option Addr} {n : Nat} {ps : List PartD} (h : PRow w a n ps) {k : Nat} (hk : k < n) : ∃ b off, a = some ⟨b, off, none⟩ ∧ b < w.heap.size ∧ PAt Row w b (off + k * 4) (part ps k) := by
  rcases h.at_ with h0 | ⟨b, off, rfl, hlt, hc⟩
  · omega
  · exact ⟨b, off, rfl, hlt, hc k hk⟩
theorem PRaw.get {w : World} {a : Option Addr} {n : Nat} {ps : List PartD} (h : PRaw w a n ps) {k : Nat} (hk : k < n) : ∃ b off, a = some ⟨b, off, none⟩ ∧ b < w.heap.size ∧ PAt Raw w b (off + k * 4) (part ps k) := by
  rcases h.at_ with h0 | ⟨b, off, rfl, hlt, hc⟩
  · omega
  · exact ⟨b, off, rfl, hlt, hc k hk⟩
structure PRowN (w : World) (a : Option Addr) (n : Nat) (ps : List PartD) : Prop where
  row : PRow w a n ps
  nn : ∀ b off, a = some ⟨b, off, none⟩ → b < w.heap.size → ∀ i, i < n → (part ps i).all = false → ∃ ad m c, w.cell? ⟨b, off + i * 4 + 2, none⟩ = some (.slice (some ad) m c)
theorem PRowN.below {w w' : World} {a : Option Addr} {n : Nat} {ps : List PartD} {B : Nat} (h : PRowN w a n ps) (hB : w.heap.size ≤ B) (hb : Below B w w') : PRowN w' a n ps := by
  refine ⟨h.row.below hB hb, fun b off e hlt i hi hall => ?_⟩
  obtain ⟨b', off', e', hlt', _⟩ := h.row.get hi
  rw [e] at e'
  cases e'
  obtain ⟨ad, m, c, hc⟩ := h.nn b off e hlt' i hi hall
  exact ⟨ad, m, c, (hb.cell (p := ⟨b, off + i * 4 + 2, none⟩) (Nat.lt_of_lt_of_le hlt' hB)).trans hc⟩
theorem PRowN.alloc {w : World} {a : Option Addr} {n : Nat} {ps : List PartD} (h : PRowN w a n ps) (o : Obj) : PRowN (w.alloc o) a n ps := h.below (Nat.le_refl _) ((Below.refl _ _).alloc (Nat.le_refl _) _)
def SmallN (ps : List PartD) (k : Nat) : Prop := ∀ i, i < k → (part ps i).sh.length ≤ 1048576 ∧ (part ps i).dt.length ≤ 1048576
theorem PRaw.row {w : World} {a : Option Addr} {n : Nat} {ps : List PartD} (h : PRaw w a n ps) (hn : n ≤ 1048576) (hs : SmallN ps n) : PRow w a n ps := by
  refine ⟨h.len, hn, ?_⟩
  rcases h.at_ with h0 | ⟨b, off, rfl, hlt, hc⟩
  · exact .inl h0
  · refine .inr ⟨b, off, rfl, hlt, fun i hi => ?_⟩
    obtain ⟨s1, n1, c1, s2, n2, c2, e1, e2, e3, e4, e5, e6⟩ := hc i hi
    have := hs i hi
    exact ⟨s1, n1, c1, s2, n2, c2, e1, e2, e3, e4, e5.row (by have := e5.len; omega), e6.row (by have := e6.len; omega)⟩
end Go.Proofs.YtgjpchnkodnieaaGreatDoor
namespace Go.Proofs.YtgjpchnkodnieaaGreatDoor
open Go.RowKit
set_option maxHeartbeats 400000 in
theorem l3Ints_room (ad : Addr) (n cap : Nat) (zs : List Int) (w : World) (h : Row w (some ad) n zs) :
    Calls Tryz.prog 71 #[.slice (some ad) n cap] w fun e w' => ∃ a' cap', e = .returned (.slice a' n cap') ∧ w'.ownsRow w.heap.size 3 1 (.slice a' n cap') n (zs.map (Value.int .i64)) ∧ OwnR w' w.heap.size a' n cap' zs ∧ Below w.heap.size w w' := by
  have hl := h.len
  have hs := h.small
  have H := hide h
  clear h
  obtain ⟨i0, hi, hz0, hz1, hz2⟩ := info_parts info_int
  go_enter Tryz.func71, Tryz.ntmps71
  go_wp2_with (at_builtin; refine wpList_append_own _ rfl _ _ 23 rfl w.heap.size 3 i0 (.int .i64 0) 1 8 Tryz.underlying23 hi hz0 hz1 hz2 rfl (by decide) _ _ _ rfl (owns_empty w) ad n cap (zs.map (Value.int .i64)) rfl (by simpa using hl) (cells_ints ((unhide H).alloc _)) (one_ints zs) (by unfold maxLen; omega) (by omega) (by simp) ?_; intro v1 w1 hown hgrow hnil)
  have hown' : w1.ownsRow w.heap.size 3 1 v1 n (zs.map (Value.int .i64)) := by simpa using hown
  have hnn : v1 ≠ .slice none 0 0 := fun e => by have h := (hnil.1 e).1; cases h
  obtain ⟨a', cap', rfl, ho⟩ := Own.of_owns hown' hs
  have hroom : Room w1 w.heap.size a' n cap' := by
    rcases hown'.2 with ⟨h', _⟩ | ⟨g, _, cur, h', _⟩
    · exact absurd h' hnn
    · obtain ⟨h1, _, _⟩ := Value.slice.inj h'
      subst h1
      exact Room.of_owns hown'
  have hbel : Below w.heap.size w w1 := ((Below.refl _ _).alloc (Nat.le_refl _) _).grown hgrow (by simp) (by intro k hk; cases hk; exact Nat.le_refl _)
  clear hown hgrow hnil hnn
  go_wp2
  go_ret
  exact ⟨_, _, rfl, hown', ⟨ho, hroom⟩, hbel⟩
end Go.Proofs.YtgjpchnkodnieaaGreatDoor
namespace Go.Proofs.YtgjpchnkodnieaaGreatDoor
open Go.RowKit
theorem vboxes2 {w w1 : World} {c : Int} {v1 v2 : Value} (hb : Below ((w.alloc (.cells #[.int .i64 c, v1, v2] 46)).alloc (.cells #[.int .i64 0, .slice none 0 0, .slice none 0 0] 46)).heap.size ((w.alloc (.cells #[.int .i64 c, v1, v2] 46)).alloc (.cells #[.int .i64 0, .slice none 0 0, .slice none 0 0] 46)) w1) :
    VBox w1 w.heap.size c v1 v2 ∧ VBox w1 (w.heap.size + 1) 0 (.slice none 0 0) (.slice none 0 0) ∧ Below w.heap.size w w1 := by
  have e : (w.alloc (.cells #[.int .i64 c, v1, v2] 46)).heap.size = w.heap.size + 1 := by simp
  refine ⟨((VBox.new w c v1 v2).alloc _).below (Nat.le_refl _) hb, ?_, (((Below.refl _ _).alloc (Nat.le_refl _) _).alloc (by simp) _).trans (hb.mono (by simp; omega))⟩
  have := (VBox.new (w.alloc (.cells #[.int .i64 c, v1, v2] 46)) 0 (.slice none 0 0) (.slice none 0 0)).below (Nat.le_refl _) hb
  rwa [e] at this
set_option maxRecDepth 20000 in
set_option maxHeartbeats 2000000 in
theorem l7Copy_room (c : Int) (a1 a2 : Addr) (n1 n2 c1 c2 : Nat) (sh dt : List Int) (w : World) (h1 : Row w (some a1) n1 sh) (h2 : Row w (some a2) n2 dt) :
    Calls Tryz.prog 88 #[.agg #[.int .i64 c, .slice (some a1) n1 c1, .slice (some a2) n2 c2]] w fun e w' => ∃ b1 d1 b2 d2, e = .returned (.agg #[.int .i64 c, .slice b1 n1 d1, .slice b2 n2 d2]) ∧ w'.ownsRow (w.heap.size + 2) 3 1 (.slice b1 n1 d1) n1 (sh.map (Value.int .i64)) ∧ Own w' w.heap.size b2 n2 dt ∧ (∀ x, At b2 n2 x → (Value.slice b1 n1 d1).ownBlock ≠ some x) ∧ RoomTwo w' w.heap.size b1 n1 d1 b2 n2 d2 ∧ Below w.heap.size w w' := by
  have H1 := hide h1
  have H2 := hide h2
  clear h1 h2
  obtain ⟨W0, hW0⟩ : ∃ W0, ((w.alloc (.cells #[.int .i64 c, .slice (some a1) n1 c1, .slice (some a2) n2 c2] 46)).alloc (.cells #[.int .i64 0, .slice none 0 0, .slice none 0 0] 46)) = W0 := ⟨_, rfl⟩
  have hz0 : W0.heap.size = w.heap.size + 2 := by rw [← hW0]; simp
  have HBX : Hid (∀ wx, Below W0.heap.size W0 wx → VBox wx w.heap.size c (.slice (some a1) n1 c1) (.slice (some a2) n2 c2) ∧ VBox wx (w.heap.size + 1) 0 (.slice none 0 0) (.slice none 0 0) ∧ Below w.heap.size w wx) := by
    intro wx hwx
    rw [← hW0] at hwx
    exact vboxes2 hwx
  have HK0 : Hid (VBox W0 w.heap.size c (.slice (some a1) n1 c1) (.slice (some a2) n2 c2)) := (unhide HBX _ (Below.refl _ _)).1
  have HKEEP : ∀ wx, Below (w.heap.size + 1) W0 wx → Below (w.heap.size + 1) W0 wx ∧ wx.cell? ⟨w.heap.size, 0, none⟩ = some (.int .i64 c) ∧ wx.cell? ⟨w.heap.size, 1, none⟩ = some (.slice (some a1) n1 c1) ∧ wx.cell? ⟨w.heap.size, 2, none⟩ = some (.slice (some a2) n2 c2) := fun wx hwx => ⟨hwx, ((unhide HK0).low (by omega) hwx).cells⟩
  obtain ⟨B0, B1, hB0⟩ := unhide HBX _ (Below.refl _ _)
  obtain ⟨x0, x1, x2, x3, x4, x5, x6⟩ := B0.all
  clear B0 B1
  go_enter Tryz.func88, Tryz.ntmps88
  go_wp2_with fail
  go_region_held (fun wx => Below (w.heap.size + 1) W0 wx ∧ wx.cell? ⟨w.heap.size, 0, none⟩ = some (.int .i64 c) ∧ wx.cell? ⟨w.heap.size, 1, none⟩ = some (.slice (some a1) n1 c1) ∧ wx.cell? ⟨w.heap.size, 2, none⟩ = some (.slice (some a2) n2 c2)) (first | exact HKEEP _ (hKB.mono (by omega)) | exact HKEEP _ ((((hKB.mono (by omega)).setCell (by simp) _).setCell (by simp) _).setCell (by simp) _) | exact HKEEP _ (hKA.mono (by omega)) | exact HKEEP _ (Below.refl _ _).drew)
    (first
    | (go_at_call_of 71 (Value.slice (some a1) n1 c1); refine (l3Ints_room _ _ _ sh _ (by exact (unhide H1).below (Nat.le_refl _) hB0.drew)).mono ?_; rintro e wA ⟨b1, d1, rfl, hOA, hRA, hbA⟩; have HRA := hide hRA.room; clear hRA; have hKA : Below W0.heap.size W0 wA := (Below.refl _ _).drew.trans (hbA.mono (by simp)); have HOA : Hid (wA.ownsRow (w.heap.size + 2) 3 1 (.slice b1 n1 d1) n1 (sh.map (Value.int .i64))) := owns_mono hOA (by simp; omega); obtain ⟨t0, t1, t2, t3, t4, t5, t6⟩ := (unhide HBX _ hKA).2.1.all; clear hOA)
    | (go_at_call_of 71 (Value.slice (some a2) n2 c2); refine (l3Ints_room _ _ _ dt _ (by exact (unhide H2).below (Nat.le_refl _) (unhide HBX _ hKA).2.2)).mono ?_; rintro e wB ⟨b2, d2, rfl, _, hRB, hbB⟩; have hOB := hRB.own; have HRT : Hid (RoomTwo wB w.heap.size b1 n1 d1 b2 n2 d2) := ⟨((unhide HRA).below (Nat.le_refl _) hbB).mono (by simp; omega), hRB.room.mono (by have := hKA.size; omega), fun k h1 h2 => by have q1 := ((unhide HRA).lt h1).2; have q2 := hRB.lowB h2; omega⟩; clear hRB HRA; have hKB : Below W0.heap.size W0 wB := hKA.trans (hbB.mono hKA.size); have HOB : Hid (Own wB W0.heap.size b2 n2 dt) := hOB.mono hKA.size; have HAP : Hid (∀ x, At b2 n2 x → (Value.slice b1 n1 d1).ownBlock ≠ some x) := (fun x hx e => by have h1 := hOB.low hx; have h2 := owns_lt (unhide HOA) e; omega); have HOA' := hide (owns_below (unhide HOA) (Nat.le_refl _) hbB); obtain ⟨s0, s1, s2, s3, s4, s5, s6⟩ := (unhide HBX _ hKB).2.1.all; clear hOB))
  go_wp2_with fail
  have hp2 : ∀ x, At b2 n2 x → x ≠ w.heap.size + 1 := fun x hx => by have := (unhide HOB).low hx; omega
  refine bodyPost_ret (v := .agg #[.int .i64 c, .slice b1 n1 d1, .slice b2 n2 d2]) (by simp [results, Tryz.results88, go_sem, s0, s1, s2]) rfl ?_
  exact ⟨b1, d1, b2, d2, rfl, owns_low_set (owns_low_set (owns_low_set (unhide HOA') (by omega) _) (by omega) _) (by omega) _, ((((unhide HOB).mono (by omega)).other hp2 _).other hp2 _).other hp2 _, unhide HAP, (((unhide HRT).set _ 0 _).set _ 1 _).set _ 2 _, (((unhide HBX _ hKB).2.2.setCell (by simp) _).setCell (by simp) _).setCell (by simp) _⟩
theorem l7Copy_owns (c : Int) (a1 a2 : Addr) (n1 n2 c1 c2 : Nat) (sh dt : List Int) (w : World) (h1 : Row w (some a1) n1 sh) (h2 : Row w (some a2) n2 dt) :
    Calls Tryz.prog 88 #[.agg #[.int .i64 c, .slice (some a1) n1 c1, .slice (some a2) n2 c2]] w fun e w' => ∃ b1 d1 b2 d2, e = .returned (.agg #[.int .i64 c, .slice b1 n1 d1, .slice b2 n2 d2]) ∧ w'.ownsRow (w.heap.size + 2) 3 1 (.slice b1 n1 d1) n1 (sh.map (Value.int .i64)) ∧ Own w' w.heap.size b2 n2 dt ∧ (∀ x, At b2 n2 x → (Value.slice b1 n1 d1).ownBlock ≠ some x) ∧ Below w.heap.size w w' := by
  refine (l7Copy_room c a1 a2 n1 n2 c1 c2 sh dt w h1 h2).mono ?_
  rintro e w' ⟨b1, d1, b2, d2, h, q1, q2, q3, _, q4⟩
  exact ⟨b1, d1, b2, d2, h, q1, q2, q3, q4⟩
end Go.Proofs.YtgjpchnkodnieaaGreatDoor
