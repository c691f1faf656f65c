import Derived.Test.YtgjpchnkodnieaaGreatDoorZv08
import Derived.Test.YtgjpchnkodnieaaGreatDoorZv04
import Derived.Test.YtgjpchnkodnieaaGreatDoorZv07
import Derived.RangeFuncNested
import Derived.RangeFuncBound
import Derived.RangeFuncCalls
import Derived.RangeFuncLeaves
import Derived.Shelf.Abstract
import Derived.Shelf.RegionOpen
import Derived.WalkKit
import Derived.OwnWalkIn
import Derived.TacticsInMore
import Derived.LoopNIn
import Derived.LoopIn
import Derived.Maps.AppendAt
import Derived.Test.YtgjpchnkodnieaaGreatDoorZv03
import Derived.Deep.AppendLies
import Derived.Deep.QuietTactic
import Derived.Deep.DeepCutAuto
import Derived.BigQuiet
namespace Go.Proofs.YtgjpchnkodnieaaGreatDoor
open Go.RowKit Go.Shelf
attribute [local go_sem] Oper.semAt_some
theorem Values_any (sa : Option Addr) (n cap : Nat) (w : World) : Calls Tryz.prog 147 #[.slice sa n cap] w fun e w' => e = .returned (.func (.func 226) #[] #[.pointer (some ⟨w.heap.size, 0, none⟩)]) ∧ w' = w.alloc (.cells #[.slice sa n cap] 23) := by
  go_enter Tryz.func147, Tryz.ntmps147
  go_wp2
  go_ret
  exact ⟨rfl, rfl⟩
set_option maxRecDepth 100000 in
set_option maxHeartbeats 2000000 in
theorem values1_seq (m Bn : Nat) (sa : Option Addr) (n cap : Nat) (zs : List Int) (w0 : World) (hBox : w0.cell? ⟨Bn, 0, none⟩ = some (.slice sa n cap)) (hBn : Bn < w0.heap.size) (hr : Row w0 sa n zs) :
    SeqReads m Tryz.prog 226 #[.pointer (some ⟨Bn, 0, none⟩)] n (fun k => #[.int .i64 (zs.getD k 0)]) w0 := by
  intro l J W hJ hY h0
  have hsm := hr.small
  have hbox := ((hJ _ _ h0).cell (p := ⟨Bn, 0, none⟩) hBn).trans hBox
  have HJ : Hid (∀ k A, J k A → Below w0.heap.size w0 A) := hJ
  have HY : Hid (∀ k W1, k < n → J k W1 → YieldAt Fence.wide (m - 1) Tryz.prog l #[.int .i64 (zs.getD k 0)] W1 fun e W' => e = .returned (.bool true) ∧ J (k + 1) W') := hY
  have H0 := hide h0
  have HR := hide hr
  clear hJ hY h0 hr hBox
  refine callsIn_of_wp Tryz.func226 rfl trivial ?_ rfl
  simp only [Tryz.ntmps226, List.size_toArray, List.length_cons, List.length_nil, Nat.reduceAdd, Nat.reduceSub, Array.replicate_succ, Array.replicate_zero, List.push_toArray, List.append_toArray, List.nil_append, List.cons_append]
  gi_wp2
  gi_loopw [7] (fun i wr => ∃ k : Nat, k ≤ n ∧ i = .int .i64 (k : Nat) ∧ Hid (J k wr)) (fun i _ => n - (intOf i).toNat)
  case atStart => exact ⟨0, Nat.zero_le _, rfl, H0⟩
  case round =>
    obtain ⟨k, hk, rfl, hj⟩ := hrel
    clear H0 hbox
    by_cases hlt : k < n
    · obtain ⟨b, off, rfl, hblt, hc⟩ := (HR.out.below (Nat.le_refl _) (HJ.out _ _ hj.out)).get hlt
      obtain ⟨fn, tmps, assign, body, hy, hRr⟩ := HY.out k wr hlt hj.out
      obtain ⟨x, hx⟩ : ∃ x, x = zs.getD k 0 := ⟨_, rfl⟩
      rw [← hx] at hc hy
      clear hx
      gi_wp2
      refine ⟨fun h => (by simp [Fence.wide] at h), hRr.mono ?_⟩
      rintro e W3 ⟨rfl, hJ3⟩
      have HJ3 := hide hJ3
      clear hRr hy hJ3 hc
      gi_wp2
      go_roundw
      case rel => exact ⟨k + 1, by omega, by go_num, HJ3⟩
      case measure => simp [intOf]; omega
    · have : k = n := by omega
      subst this
      gi_wp2
      go_end0
      exact ⟨⟨_, rfl⟩, hj.out⟩
def Coll (w0 : World) (pb : Nat) (zs : List Int) (k : Nat) (W : World) : Prop :=
  (∃ v, Boxed W pb 23 v ∧ W.ownsRow w0.heap.size 3 1 v k ((zs.take k).map (Value.int .i64)) ∧ (v = .slice none 0 0 ↔ k = 0)) ∧ Below w0.heap.size w0 W
theorem Coll.putObj {w0 : World} {pb : Nat} {zs : List Int} {k : Nat} {A : World} {l : Nat} {o : Obj} (h : Coll w0 pb zs k A) (hl : w0.heap.size ≤ l) (ho : A.heap[l]? = some o) (hc : o.isCells = false) (o' : Obj) : Coll w0 pb zs k (A.putObj l o') := by
  obtain ⟨⟨v, hb, hr, hn⟩, hbl⟩ := h
  refine ⟨⟨v, ?_, ?_, hn⟩, hbl.trans (below_putObj A hl o')⟩
  · have hne : pb ≠ l := fun e => by subst e; rw [show A.heap[pb]? = _ from hb] at ho; cases ho; cases hc
    exact (World.putObj_heap_other hne).trans hb
  · rcases hr with ⟨h1, h2⟩
    refine ⟨h1, ?_⟩
    rcases h2 with h | ⟨g, cap, cur, hv, hg, hgb, rest⟩
    · exact .inl h
    · have hne : g ≠ l := fun e => by subst e; rw [hgb] at ho; cases ho; cases hc
      exact .inr ⟨g, cap, cur, hv, hg, (World.putObj_heap_other hne).trans hgb, rest⟩
theorem Coll.alloc {w0 : World} {pb : Nat} {zs : List Int} {k : Nat} {A : World} (h : Coll w0 pb zs k A) (o : Obj) : Coll w0 pb zs k (A.alloc o) := by
  obtain ⟨⟨v, hb, hr, hn⟩, hbl⟩ := h
  exact ⟨⟨v, hb.alloc o, hr.alloc o, hn⟩, hbl.alloc hbl.size o⟩
theorem eg_vals : ∀ args w, (callFunc 226 args).run Tryz.prog w = .ok (.enter 226 args) w := enters_of Tryz.func226 (by kernel_rfl) rfl
set_option maxRecDepth 100000 in
set_option maxHeartbeats 2000000 in
theorem appendSeq_any (Bn : Nat) (sa : Option Addr) (n cap : Nat) (zs : List Int) (w : World) (hBox : w.cell? ⟨Bn, 0, none⟩ = some (.slice sa n cap)) (hBn : Bn < w.heap.size) (hr : Row w sa n zs) (hn : n ≤ 10000) :
    Calls Tryz.prog 272 #[.slice none 0 0, .func (.func 226) #[] #[.pointer (some ⟨Bn, 0, none⟩)]] w fun e w' => ∃ v, e = .returned v ∧ w'.ownsRow w.heap.size 3 1 v n (zs.map (Value.int .i64)) ∧ (v = .slice none 0 0 ↔ n = 0) ∧ Below w.heap.size w w' := by
  refine (callsIn_wide (n := 9)).1 ?_
  obtain ⟨i0, hi, hz0, hz1, hz2⟩ := info_parts info_int
  refine callsIn_of_wp_marks Tryz.func272 rfl trivial ?_ rfl
  simp only [Tryz.ntmps272, List.size_toArray, List.length_cons, List.length_nil, Nat.reduceAdd, Nat.reduceSub, Array.replicate_succ, Array.replicate_zero, List.push_toArray, List.append_toArray, List.nil_append, List.cons_append]
  gi_wp2
  have hlen := hr.len
  obtain ⟨W, hW⟩ : ∃ W, W = w.alloc (.cells #[.slice none 0 0] 23) := ⟨_, rfl⟩
  have h0 : Coll w w.heap.size zs 0 W := by
    rw [hW]
    exact ⟨⟨.slice none 0 0, Boxed.new w _ _, by simpa using World.ownsRow_nil _ _ _ _, by simp⟩, (Below.refl _ w).alloc (Nat.le_refl _) _⟩
  have hz : W.heap.size = w.heap.size + 1 := by rw [hW]; simp
  rw [← hW]
  refine range_reads (w0 := w) (gf := 226) (lb := #[.pointer (some ⟨Bn, 0, none⟩)]) rfl eg_vals (ar := fun k => #[.int .i64 (zs.getD k 0)]) (fun _ => rfl) (values1_seq _ Bn sa n cap zs w hBox hBn hr)
    (Coll w w.heap.size zs) (fun _ _ h => h.2) (fun k A l o o' h hl ho hc => h.putObj (by omega) ho hc o') (fun o o' => (h0.alloc o).alloc o')
    (fun k => { tmps := #[.slice none 0 0, .func (.func 226) #[] #[.pointer (some ⟨Bn, 0, none⟩)], .pointer (some ⟨w.heap.size, 0, none⟩), undef, .slice none 0 0, .int .i64 (zs.getD k 0), .func (.func 226) #[] #[.pointer (some ⟨Bn, 0, none⟩)], .int .i64 (zs.getD k 0), undef, undef, undef, undef, undef], defers := [] }) ?assign ?body ?done
  case assign =>
    intro l k A K hK
    gi_wp2
    exact hK
  case body =>
    rintro l k A hk ⟨⟨v, hv, hrow, hnil⟩, hB⟩
    obtain ⟨x, hx⟩ : ∃ x, x = zs.getD k 0 := ⟨_, rfl⟩
    have hts : (zs.take (k + 1)).map (Value.int .i64) = (zs.take k).map (Value.int .i64) ++ [.int .i64 x] := by rw [take_snoc zs k (by omega), ← hx]; simp
    have HTS := hide hts
    rw [← hx]
    have hc := hv.cell
    have hf := hv.frozen
    clear hx hts h0 hnil
    gi_wp2_with (gi_at_builtin; refine wpListIn_append_own _ rfl _ _ 23 rfl w.heap.size 3 i0 (.int .i64 0) 1 8 Tryz.underlying23 hi hz0 hz1 hz2 rfl (by decide) _ _ _ rfl (hrow.alloc _) ⟨A.heap.size, 0, none⟩ 1 1 [.int .i64 x] rfl rfl (cell_one_new _ _ _) (by simp [Value.oneCell']) (by unfold maxLen; omega) (by omega) (by have := hB.size; simp; omega) ?_; intro v' w1 hown' hgrow _; obtain ⟨g', cap', rfl⟩ := ownsRow_succ hown'; obtain ⟨hv1, hv2, hr2, hk2, hb2⟩ := hv.appended (by decide) hrow hB.size (Nat.le_refl _) hown' hgrow; have hc1 := hv1.cell; have hf1 := hv1.frozen)
    exact ⟨hk2, ⟨_, hv2, by rw [HTS.out]; exact hr2, by simp⟩, hB.trans hb2⟩
  case done =>
    rintro D A hD ⟨⟨v, hv, hrow, hnil⟩, hB⟩ hK
    have hc := hv.cell
    have hall : zs.take n = zs := List.take_of_length_le (by omega)
    have HALL := hide hall
    clear hall h0
    gi_wp2
    refine ⟨by simp, .inl ⟨_, _, rfl, run_takeDeferred hK, ?_⟩⟩
    refine ⟨_, results_tmp rfl _ _ _, v, rfl, ?_, hnil, hB.trans (below_putObj A (by omega) _)⟩
    have h := ownsRow_putObj hrow (.deferred none) hK rfl
    rw [HALL.out] at h
    exact h
end Go.Proofs.YtgjpchnkodnieaaGreatDoor
namespace Go.Proofs.YtgjpchnkodnieaaGreatDoor
open Go.RowKit
def Bo (a : Option Addr) (k : Nat) : Prop := ∃ p, a = some p ∧ p.block = k
theorem bo_at {a : Option Addr} {n k : Nat} (h : At a n k) : Bo a k := h.2
def Room (w : World) (B : Nat) (a : Option Addr) (n c : Nat) : Prop :=
  ∃ g cur, a = some ⟨g, 0, none⟩ ∧ B ≤ g ∧ w.heap[g]? = some (.cells cur 3 (0, 0)) ∧ n ≤ c ∧ c ≤ maxLen ∧ cur.size = c
section
variable {w w' : World} {B C n c : Nat} {a : Option Addr}
theorem Room.lt (h : Room w B a n c) {k : Nat} (hk : Bo a k) : B ≤ k ∧ k < w.heap.size := by
  obtain ⟨g, cur, rfl, hg, hh, _⟩ := h
  obtain ⟨p, hp, rfl⟩ := hk
  cases hp
  exact ⟨hg, lt_of_block hh⟩
theorem Room.but {S : Nat → Prop} (h : Room w B a n c) (hb : But S w w') (hs : ∀ k, S k → ¬ Bo a k) : Room w' B a n c := by
  obtain ⟨g, cur, rfl, hg, hh, r⟩ := h
  exact ⟨g, cur, rfl, hg, (hb.block g (lt_of_block hh) (fun e => hs g e ⟨_, rfl, rfl⟩)).trans hh, r⟩
theorem Room.below (h : Room w B a n c) (hC : w.heap.size ≤ C) (hb : Below C w w') : Room w' B a n c := by
  obtain ⟨g, cur, rfl, hg, hh, r⟩ := h
  exact ⟨g, cur, rfl, hg, (hb.block g (Nat.lt_of_lt_of_le (lt_of_block hh) hC)).trans hh, r⟩
theorem Room.alloc (h : Room w B a n c) (o : Obj) : Room (w.alloc o) B a n c := h.below (Nat.le_refl _) ((Below.refl _ _).alloc (Nat.le_refl _) _)
theorem Room.drew (h : Room w B a n c) : Room w.drew B a n c := h
theorem Room.mono (h : Room w B a n c) (hB : C ≤ B) : Room w C a n c := by
  obtain ⟨g, cur, rfl, hg, r⟩ := h
  exact ⟨g, cur, rfl, by omega, r⟩
theorem Room.set (h : Room w B a n c) (p o : Nat) (v : Value) : Room (w.setCell ⟨p, o, none⟩ v) B a n c := by
  obtain ⟨g, cur, rfl, hg, hh, h1, h2, h3⟩ := h
  by_cases e : g = p
  · subst e
    exact ⟨g, _, rfl, hg, heap_setCell_same w g o _ _ v hh, h1, h2, by simpa using h3⟩
  · exact ⟨g, cur, rfl, hg, (heap_setCell_other w ⟨p, o, none⟩ g v e).trans hh, h1, h2, h3⟩
theorem Room.nebox (h : Room w B a n c) {p : Nat} {x : Int} {v1 v2 : Value} (hx : VBox w p x v1 v2) : ¬ Bo a p := by
  rintro ⟨q, hq, rfl⟩
  obtain ⟨g, cur, rfl, hg, hh, _⟩ := h
  cases hq
  unfold VBox at hx
  rw [hh] at hx
  simp at hx
theorem Room.of_owns {g : Nat} {xs : List Value} (h : w.ownsRow B 3 1 (.slice (some ⟨g, 0, none⟩) n c) n xs) : Room w B (some ⟨g, 0, none⟩) n c := by
  rcases h.2 with ⟨h', _⟩ | ⟨g', cap, cur, h', hg, hh, h1, h2, h3, _⟩
  · simp at h'
  · cases h'
    exact ⟨g, cur, rfl, hg, hh, h1, h2, by omega⟩
theorem Room.of_blk {g : Nat} {zs : List Int} (h : Blk w g zs) (hn : zs.length = n) (hs : n ≤ 17592186044416) (hg : B ≤ g) : Room w B (some ⟨g, 0, none⟩) n n :=
  ⟨g, _, rfl, hg, h, Nat.le_refl _, by unfold maxLen; omega, by simpa using hn⟩
theorem Room.owns {zs : List Int} (h : Room w B a n c) (hr : Row w a n zs) : w.ownsRow B 3 1 (.slice a n c) n (zs.map (Value.int .i64)) := by
  obtain ⟨g, cur, rfl, hg, hh, h1, h2, h3⟩ := h
  have hl := hr.len
  refine ⟨by simpa using hl, .inr ⟨g, c, cur, rfl, hg, hh, h1, h2, by omega, ?_⟩⟩
  apply List.ext_getElem?
  intro i
  by_cases hi : i < n
  · obtain ⟨b, o, e, _, hc⟩ := hr.get hi
    cases e
    simp only [World.cell?, hh] at hc
    rw [Nat.zero_add] at hc
    rw [List.getElem?_take_of_lt (by omega)]
    have hz : (zs.map (Value.int .i64))[i]? = some (.int .i64 (zs.getD i 0)) := by simp [List.getD, hl, hi]
    rw [hz, ← hc]
    simp
  · rw [List.getElem?_eq_none (by simp; omega), List.getElem?_eq_none (by simp; omega)]
end
structure OwnR (w : World) (B : Nat) (a : Option Addr) (n c : Nat) (zs : List Int) : Prop where
  own : Own w B a n zs
  room : Room w B a n c
section
variable {w w' : World} {B C n c : Nat} {a : Option Addr} {zs : List Int}
theorem OwnR.row (h : OwnR w B a n c zs) : Row w a n zs := h.own.row
theorem OwnR.low (h : OwnR w B a n c zs) {k : Nat} (hk : At a n k) : B ≤ k := h.own.low hk
theorem OwnR.lowB (h : OwnR w B a n c zs) {k : Nat} (hk : Bo a k) : B ≤ k := (h.room.lt hk).1
theorem OwnR.hiB (h : OwnR w B a n c zs) {k : Nat} (hk : Bo a k) : k < w.heap.size := (h.room.lt hk).2
theorem OwnR.mono (h : OwnR w B a n c zs) (hB : C ≤ B) : OwnR w C a n c zs := ⟨h.own.mono hB, h.room.mono hB⟩
theorem OwnR.below (h : OwnR w B a n c zs) (hC : w.heap.size ≤ C) (hb : Below C w w') : OwnR w' B a n c zs := ⟨h.own.below hC hb, h.room.below hC hb⟩
theorem OwnR.alloc (h : OwnR w B a n c zs) (o : Obj) : OwnR (w.alloc o) B a n c zs := ⟨h.own.alloc o, h.room.alloc o⟩
theorem OwnR.other (h : OwnR w B a n c zs) {p o : Nat} (ha : ∀ k, At a n k → k ≠ p) (v : Value) : OwnR (w.setCell ⟨p, o, none⟩ v) B a n c zs := ⟨h.own.other (q := ⟨p, o, none⟩) ha v, h.room.set p o v⟩
theorem OwnR.but {g : Nat} (h : OwnR w B a n c zs) (hb : But (fun x => x = g) w w') (hg : ¬ Bo a g) : OwnR w' B a n c zs :=
  ⟨hb.own h.own (by rintro k rfl hk; exact hg (bo_at hk)), h.room.but hb (by rintro k rfl hk; exact hg hk)⟩
end
theorem Room.ownR {w : World} {B n c : Nat} {a : Option Addr} {zs : List Int} (h : Room w B a n c) (hr : Row w a n zs) : OwnR w B a n c zs := by
  refine ⟨⟨hr.len, hr.small, ?_⟩, h⟩
  obtain ⟨g, cur, rfl, hg, hh, _⟩ := h
  rcases hr.at_ with h0 | ⟨g', off, e, hl, hc⟩
  · exact .inl h0
  · cases e
    exact .inr ⟨g, 0, rfl, hg, hl, hc, fun i _ => frozen_of_row w g (0 + i) _ _ hh⟩
theorem OwnR.of_owns {w : World} {B n c g : Nat} {zs : List Int} (h : w.ownsRow B 3 1 (.slice (some ⟨g, 0, none⟩) n c) n (zs.map (Value.int .i64))) (hs : n ≤ 17592186044416) : OwnR w B (some ⟨g, 0, none⟩) n c zs := by
  obtain ⟨_, _, ev, ho⟩ := Own.of_owns h hs
  cases ev
  exact ⟨ho, Room.of_owns h⟩
theorem OwnR.set {w : World} {B n c g k : Nat} {zs : List Int} (h : OwnR w B (some ⟨g, 0, none⟩) n c zs) (hk : k < n) (x : Int) : OwnR (w.setCell ⟨g, k, none⟩ (.int .i64 x)) B (some ⟨g, 0, none⟩) n c (zs.set k x) := by
  have := h.own.set hk x
  rw [Nat.zero_add] at this
  exact ⟨this, h.room.set g k _⟩
structure RoomTwo (w : World) (B : Nat) (a1 : Option Addr) (n1 c1 : Nat) (a2 : Option Addr) (n2 c2 : Nat) : Prop where
  r1 : Room w B a1 n1 c1
  r2 : Room w B a2 n2 c2
  ne : ∀ k, Bo a1 k → ¬ Bo a2 k
section
variable {w w' : World} {B C n1 c1 n2 c2 : Nat} {a1 a2 : Option Addr}
theorem RoomTwo.below (h : RoomTwo w B a1 n1 c1 a2 n2 c2) (hC : w.heap.size ≤ C) (hb : Below C w w') : RoomTwo w' B a1 n1 c1 a2 n2 c2 := ⟨h.r1.below hC hb, h.r2.below hC hb, h.ne⟩
theorem RoomTwo.alloc (h : RoomTwo w B a1 n1 c1 a2 n2 c2) (o : Obj) : RoomTwo (w.alloc o) B a1 n1 c1 a2 n2 c2 := ⟨h.r1.alloc o, h.r2.alloc o, h.ne⟩
theorem RoomTwo.drew (h : RoomTwo w B a1 n1 c1 a2 n2 c2) : RoomTwo w.drew B a1 n1 c1 a2 n2 c2 := ⟨h.r1, h.r2, h.ne⟩
theorem RoomTwo.mono (h : RoomTwo w B a1 n1 c1 a2 n2 c2) (hC : C ≤ B) : RoomTwo w C a1 n1 c1 a2 n2 c2 := ⟨h.r1.mono hC, h.r2.mono hC, h.ne⟩
theorem RoomTwo.set (h : RoomTwo w B a1 n1 c1 a2 n2 c2) (p o : Nat) (v : Value) : RoomTwo (w.setCell ⟨p, o, none⟩ v) B a1 n1 c1 a2 n2 c2 := ⟨h.r1.set p o v, h.r2.set p o v, h.ne⟩
theorem RoomTwo.butV {p : Nat} {x : Int} {v1 v2 : Value} (h : RoomTwo w B a1 n1 c1 a2 n2 c2) (hx : VBox w p x v1 v2) (hb : But (fun k => k = p) w w') : RoomTwo w' B a1 n1 c1 a2 n2 c2 :=
  ⟨h.r1.but hb (by rintro k rfl; exact h.r1.nebox hx), h.r2.but hb (by rintro k rfl; exact h.r2.nebox hx), h.ne⟩
end
end Go.Proofs.YtgjpchnkodnieaaGreatDoor
namespace Go.Proofs.YtgjpchnkodnieaaGreatDoor
open Go.RowKit
set_option maxHeartbeats 400000 in
theorem l7In_eq (v : Int) (r : Bool) (hr : Hid (viewIn v = r)) (w : World) : Calls Tryz.prog 159 #[.int .i64 v] w fun e w' => e = .returned (.bool r) ∧ w' = w := by
  by_cases h1 : -10000 ≤ v
  · by_cases h2 : v ≤ 10000
    · have HE : Hid (r = true) := by rw [← unhide hr]; exact decide_eq_true ⟨h1, h2⟩
      go_enter Tryz.func159, Tryz.ntmps159
      go_wp2
      go_ret
      exact ⟨ret_bool (by rw [unhide HE]), rfl⟩
    · have HE : Hid (r = false) := by rw [← unhide hr]; exact decide_eq_false (by omega)
      go_enter Tryz.func159, Tryz.ntmps159
      go_wp2
      go_ret
      exact ⟨ret_bool (by rw [unhide HE]), rfl⟩
  · have HE : Hid (r = false) := by rw [← unhide hr]; exact decide_eq_false (by omega)
    go_enter Tryz.func159, Tryz.ntmps159
    go_wp2
    go_ret
    exact ⟨ret_bool (by rw [unhide HE]), rfl⟩
theorem formed_no1 {off : Int} {sh st : List Int} (h : shapeB sh = false) : formed off sh st = false := by unfold formed; rw [h]; rfl
theorem formed_no2 {off : Int} {sh st : List Int} (h : st.length ≠ sh.length) : formed off sh st = false := by unfold formed; rw [decide_eq_false h]; simp
theorem formed_no3 {off : Int} {sh st : List Int} (h : viewIn off = false) : formed off sh st = false := by unfold formed; rw [h]; simp
theorem formed_no4 {off : Int} {sh st : List Int} (h : st.all viewIn = false) : formed off sh st = false := by unfold formed; rw [h]; simp
theorem formed_yes {off : Int} {sh st : List Int} (h1 : shapeB sh = true) (h2 : st.length = sh.length) (h3 : viewIn off = true) (h4 : st.all viewIn = true) : formed off sh st = true := by unfold formed; rw [h1, decide_eq_true h2, h3, h4]; rfl
set_option maxHeartbeats 2000000 in
theorem l7Formed_eq (off : Int) (a1 a2 : Option Addr) (n1 n2 c1 c2 : Nat) (sh st : List Int) (w : World) (h1 : Row w a1 n1 sh) (h2 : Row w a2 n2 st) (r : Bool) (hr : Hid (formed off sh st = r)) :
    Calls Tryz.prog 80 #[.agg #[.int .i64 off, .slice a1 n1 c1, .slice a2 n2 c2]] w fun e w' => e = .returned (.bool r) ∧ Below w.heap.size w w' := by
  have hl1 := hide h1.len
  have hl2 := hide h2.len
  have hs1 := h1.small
  have hs2 := h2.small
  have H1 := hide h1
  have H2 := hide h2
  clear h1 h2
  have hW : ∀ o, Below w.heap.size w (w.alloc o) := fun o => (Below.refl _ _).alloc (Nat.le_refl _) _
  obtain ⟨r1, hr1⟩ : ∃ r, shapeB sh = r := ⟨_, rfl⟩
  obtain ⟨r3, hr3⟩ : ∃ r, viewIn off = r := ⟨_, rfl⟩
  have HR1 := hide hr1
  have HR3 := hide hr3
  clear hr1 hr3
  cases r1 with
  | false =>
    have HE : Hid (r = false) := by rw [← unhide hr]; exact formed_no1 (unhide HR1)
    go_enter Tryz.func80, Tryz.ntmps80
    go_wp2_with (go_at_call 158; refine (l3ShapeOk_eq _ _ _ sh _ ((unhide H1).alloc _) _ HR1).mono ?_; rintro e wq ⟨rfl, hw⟩; obtain rfl := hw.symm)
    go_ret
    exact ⟨ret_bool (by rw [unhide HE]), hW _⟩
  | true =>
    by_cases hn : n2 = n1
    · subst hn
      cases r3 with
      | false =>
        have HE : Hid (r = false) := by rw [← unhide hr]; exact formed_no3 (unhide HR3)
        go_enter Tryz.func80, Tryz.ntmps80
        go_wp2_with (first | (go_at_call 158; refine (l3ShapeOk_eq _ _ _ sh _ ((unhide H1).alloc _) _ HR1).mono ?_; rintro e wq ⟨rfl, hw⟩; obtain rfl := hw.symm) | (go_at_call 159; refine (l7In_eq off _ HR3 _).mono ?_; rintro e wq ⟨rfl, hw⟩; obtain rfl := hw.symm))
        go_ret
        exact ⟨ret_bool (by rw [unhide HE]), hW _⟩
      | true =>
        go_enter Tryz.func80, Tryz.ntmps80
        go_wp2_with (first | (go_at_call 158; refine (l3ShapeOk_eq _ _ _ sh _ ((unhide H1).alloc _) _ HR1).mono ?_; rintro e wq ⟨rfl, hw⟩; obtain rfl := hw.symm) | (go_at_call 159; refine (l7In_eq off _ HR3 _).mono ?_; rintro e wq ⟨rfl, hw⟩; obtain rfl := hw.symm))
        go_loop [3] (fun i => ∃ k : Nat, k ≤ n2 ∧ i = .int .i64 k ∧ Hid ((st.take k).all viewIn = true)) (fun i => n2 - (intOf i).toNat)
        case atStart => exact ⟨0, Nat.zero_le _, rfl, rfl⟩
        case round =>
          obtain ⟨k, hk, rfl, hall⟩ := hrel
          by_cases hlt : k < n2
          · obtain ⟨b, o, rfl, hb, hc⟩ := (unhide H2).get hlt
            have hc' := ((hW (.cells #[.int .i64 off, .slice a1 n2 c1, .slice (some ⟨b, o, none⟩) n2 c2] 46)).cell (p := ⟨b, o + k, none⟩) hb).trans hc
            have hks : Hid (k < st.length) := by show k < st.length; rw [unhide hl2]; exact hlt
            obtain ⟨x, hx⟩ : ∃ x, x = st.getD k 0 := ⟨_, rfl⟩
            rw [← hx] at hc'
            have HX := hide hx
            obtain ⟨rx, hrx⟩ : ∃ r, viewIn x = r := ⟨_, rfl⟩
            have HRX := hide hrx
            clear hx hc hrx
            cases rx with
            | false =>
              have HE : Hid (r = false) := by rw [← unhide hr]; exact formed_no4 (all_not st viewIn k (unhide hks) (by rw [← unhide HX]; exact unhide HRX))
              go_wp2_with (go_at_call 159; refine (l7In_eq x _ HRX _).mono ?_; rintro e wq ⟨rfl, hw⟩; obtain rfl := hw.symm)
              go_ret
              exact ⟨ret_bool (by rw [unhide HE]), hW _⟩
            | true =>
              have HA := hide (all_step st viewIn k (unhide hks) (unhide hall) (by rw [← unhide HX]; exact unhide HRX))
              go_wp2_with (go_at_call 159; refine (l7In_eq x _ HRX _).mono ?_; rintro e wq ⟨rfl, hw⟩; obtain rfl := hw.symm)
              go_round
              case rel => exact ⟨k + 1, by omega, by go_num, HA⟩
              case measure => simp [intOf]; omega
          · have HE : Hid (r = true) := by
              rw [← unhide hr]
              have := unhide hall
              rw [List.take_of_length_le (by rw [unhide hl2]; omega)] at this
              exact formed_yes (unhide HR1) (by rw [unhide hl1, unhide hl2]) (unhide HR3) this
            go_wp2
            go_ret
            exact ⟨ret_bool (by rw [unhide HE]), hW _⟩
    · have g0 : ((n2 : Int) != (n1 : Int)) = true := by simp; omega
      have HE : Hid (r = false) := by rw [← unhide hr]; exact formed_no2 (by rw [unhide hl1, unhide hl2]; exact hn)
      clear hn
      go_enter Tryz.func80, Tryz.ntmps80
      go_wp2_with (go_at_call 158; refine (l3ShapeOk_eq _ _ _ sh _ ((unhide H1).alloc _) _ HR1).mono ?_; rintro e wq ⟨rfl, hw⟩; obtain rfl := hw.symm)
      go_ret
      exact ⟨ret_bool (by rw [unhide HE]), hW _⟩
theorem placesOf_len (off : Int) (sh st : List Int) (N : Nat) (hN : countOf sh = (N : Int)) : (placesOf off sh st).length = N := by simp [placesOf, hN]
theorem placesOf_get (off : Int) (sh st : List Int) (N k : Nat) (hN : countOf sh = (N : Int)) (hk : k < N) : (placesOf off sh st).getD k 0 = placeOf off sh st k := by simp [placesOf, hN, hk]
set_option maxRecDepth 20000 in
set_option maxHeartbeats 4000000 in
theorem l7Places_any (off : Int) (a1 a2 : Option Addr) (n c1 c2 : Nat) (sh st : List Int) (w : World) (h1 : Row w a1 n sh) (h2 : Row w a2 n st) (hf : formed off sh st = true) (N : Nat) (hN : countOf sh = (N : Int)) :
    Calls Tryz.prog 81 #[.agg #[.int .i64 off, .slice a1 n c1, .slice a2 n c2]] w fun e w' => ∃ g k, e = .returned (.slice (some ⟨g, 0, none⟩) N k) ∧ Own w' w.heap.size (some ⟨g, 0, none⟩) N (placesOf off sh st) ∧ Below w.heap.size w w' := by
  have hl1 := hide h1.len
  have hl2 := hide h2.len
  have H1 := hide h1
  have H2 := hide h2
  have HF := hide hf
  have HN := hide hN
  obtain ⟨hsb, _, ho1, hst⟩ := formed_parts hf
  have HSB := hide hsb
  have HST := hide hst
  have hn5 : n ≤ 5 := by rw [← h1.len]; exact (shapeB_in hsb).2
  have hN4 : N ≤ 10000 := by have := (shapeB_count hsb).2; omega
  obtain ⟨ps, hps⟩ : ∃ ps, ps = placesOf off sh st := ⟨_, rfl⟩
  have HPL : Hid (ps.length = N) := by rw [hps]; exact placesOf_len off sh st N hN
  have HPG : Hid (∀ k, k < N → ps.getD k 0 = placeOf off sh st k) := fun k hk => by rw [hps]; exact placesOf_get off sh st N k hN hk
  rw [← hps]
  clear h1 h2 hf hN hsb hst hps
  obtain ⟨i0, hi, hz0, hz1, hz2⟩ := info_parts info_int
  go_enter Tryz.func81, Tryz.ntmps81
  go_upto_region 2 with fail
  have hO0 : (((w.alloc (.cells #[.int .i64 off, .slice a1 n c1, .slice a2 n c2] 46)).alloc (.cells #[] 3)).ownsRow (w.heap.size + 1) 3 1 (.slice (some ⟨w.heap.size + 1, 0, none⟩) 0 0) 0 ((ps.take 0).map (Value.int .i64))) := by
    have := owns_empty (w.alloc (.cells #[.int .i64 off, .slice a1 n c1, .slice a2 n c2] 46))
    simpa using this
  have HO0 := hide hO0
  clear hO0
  have HB0 : Hid (VBox ((w.alloc (.cells #[.int .i64 off, .slice a1 n c1, .slice a2 n c2] 46)).alloc (.cells #[] 3)) w.heap.size off (.slice a1 n c1) (.slice a2 n c2)) := (VBox.new w off _ _).alloc _
  have HW0 : Hid (Below w.heap.size w ((w.alloc (.cells #[.int .i64 off, .slice a1 n c1, .slice a2 n c2] 46)).alloc (.cells #[] 3))) := ((Below.refl _ _).alloc (Nat.le_refl _) _).alloc (by simp) _
  have hWz : w.heap.size + 1 ≤ ((w.alloc (.cells #[.int .i64 off, .slice a1 n c1, .slice a2 n c2] 46)).alloc (.cells #[] 3)).heap.size := by simp
  generalize (w.alloc (.cells #[.int .i64 off, .slice a1 n c1, .slice a2 n c2] 46)).alloc (.cells #[] 3) = W at *
  obtain ⟨x0, x1, x2, x3, x4, x5, x6⟩ := (unhide HB0).all
  go_wp2_with (go_at_call 48; refine (l3Count_eq _ _ _ sh _ ((unhide H1).below (Nat.le_refl _) (unhide HW0)) _ HN).mono ?_; rintro e wq ⟨rfl, hw⟩; obtain rfl := hw.symm)
  go_loopw [3, 5] (fun s v wr => ∃ P g cap, P ≤ N ∧ v = .int .i64 (P : Nat) ∧ s = .slice (some ⟨g, 0, none⟩) P cap ∧ Hid (wr.ownsRow (w.heap.size + 1) 3 1 (.slice (some ⟨g, 0, none⟩) P cap) P ((ps.take P).map (Value.int .i64))) ∧ Hid (Below (w.heap.size + 1) W wr)) (fun _ v _ => N - (intOf v).toNat)
  case atStart => exact ⟨0, _, 0, Nat.zero_le _, rfl, rfl, HO0, Below.refl _ _⟩
  case round =>
    obtain ⟨wo, hwo⟩ : ∃ x, x = wr := ⟨_, rfl⟩
    subst hwo
    obtain ⟨P, g, cap, hP, rfl, rfl, hown, hlow⟩ := hrel
    clear HO0 x0 x1 x2 x3 x4 x5 x6
    have HBo := hide ((unhide HB0).low (by omega) (unhide hlow))
    have HWo := hide ((unhide HW0).trans ((unhide hlow).mono (by omega)))
    have hwz := (unhide hlow).size
    obtain ⟨x0, x1, x2, x3, x4, x5, x6⟩ := (unhide HBo).all
    by_cases hlt : P < N
    · have HFU : Hid (Full sh) := full_of (shapeB_in (unhide HSB)).1 (by rw [prodAll_count sh (unhide HSB), unhide HN]; omega)
      obtain ⟨D, hD⟩ : ∃ D, D = digits sh (P : Nat) := ⟨_, rfl⟩
      have HDL : Hid (D.length = n) := by rw [hD, digits_len]; exact unhide hl1
      have HDI : Hid (IxIn sh D) := by rw [hD]; exact digits_in (unhide HFU) _
      have hci := l5Index_any a1 n c1 sh (P : Nat) wo ((unhide H1).below (Nat.le_refl _) (unhide HWo)) (by omega) (fun k => ((shapeB_in (unhide HSB)).1.cell k).2) (unhide HFU) (by omega) (by omega)
      rw [← hD] at hci
      have HPP : Hid (ps.getD P 0 = off + farN D st n) := by rw [unhide HPG P hlt, hD]; unfold placeOf; rw [unhide hl1]; exact rfl
      clear hD
      go_upto_region 7 with (go_at_call 55; refine hci.mono ?_; rintro e w2 ⟨rfl, hK2, hb2⟩; have HK2 := hide hK2; have HB2 := hide hb2; clear hK2 hb2)
      clear hci x0 x1 x2 x3 x4 x5 x6
      have HBp := hide ((unhide HBo).below (Nat.le_refl _) (unhide HB2))
      have HO2 := hide (owns_below (unhide hown) (Nat.le_refl _) (unhide HB2))
      have HL2 := hide ((unhide hlow).trans ((unhide HB2).mono (by omega)))
      have HRP := hide ((unhide HWo).trans ((unhide HB2).mono (unhide HWo).size))
      have hgt : wo.heap.size < w2.heap.size := (unhide HK2).lt
      obtain ⟨x0, x1, x2, x3, x4, x5, x6⟩ := (unhide HBp).all
      clear HBo HWo hown hlow HB2
      generalize wo.heap.size = gt at *
      go_wp2_with fail
      go_loopw [7, 8] (fun q v wx => ∃ i : Nat, i ≤ n ∧ v = .int .i64 (i : Nat) ∧ q = .int .i64 (off + farN D st i) ∧ Hid (Below w2.heap.size w2 wx)) (fun _ v _ => n - (intOf v).toNat)
      case atStart => exact ⟨0, Nat.zero_le _, rfl, by simp [farN], Below.refl _ _⟩
      case round =>
        obtain ⟨i, hi9, rfl, rfl, hbx⟩ := hrel
        clear x0 x1 x2 x3 x4 x5 x6
        have HBx := hide ((unhide HBp).below (Nat.le_refl _) (unhide hbx))
        obtain ⟨x0, x1, x2, x3, x4, x5, x6⟩ := (unhide HBx).all
        by_cases hli : i < n
        · have hcd := ((unhide hbx).cell (p := ⟨gt, i, none⟩) hgt).trans ((unhide HK2).cell (i := i) (by rw [unhide HDL]; exact hli))
          obtain ⟨bs, os, rfl, hbs, hcs⟩ := ((unhide H2).below (Nat.le_refl _) (unhide HRP)).get hli
          have hcs' := ((unhide hbx).cell (p := ⟨bs, os + i, none⟩) hbs).trans hcs
          have hfb := farN_bd (unhide HDI) (fun k => ((shapeB_in (unhide HSB)).1.cell k).2) (unhide HST) i (by rw [unhide hl1]; omega)
          have hfb2 := farN_bd (unhide HDI) (fun k => ((shapeB_in (unhide HSB)).1.cell k).2) (unhide HST) (i + 1) (by rw [unhide hl1]; omega)
          have HNX : Hid (farN D st (i + 1) = farN D st i + D.getD i 0 * st.getD i 0) := rfl
          rw [unhide HNX] at hfb2
          obtain ⟨q, hq⟩ : ∃ q, q = off + farN D st i := ⟨_, rfl⟩
          obtain ⟨x, hx⟩ : ∃ x, x = D.getD i 0 := ⟨_, rfl⟩
          obtain ⟨y, hy⟩ : ∃ y, y = st.getD i 0 := ⟨_, rfl⟩
          rw [← hx] at hcd hfb2
          rw [← hy] at hcs' hfb2
          have HNQ : Hid (off + farN D st (i + 1) = q + x * y) := by rw [unhide HNX, hq, hx, hy, Int.add_assoc]; exact rfl
          obtain ⟨z, hz⟩ : ∃ z, z = x * y := ⟨_, rfl⟩
          rw [← hz] at hfb2 HNQ
          have hw1 : IntKind.i64.wrap (x * y) = z := by rw [IntKind.wrap_i64, ← hz]; omega
          have hw2 : IntKind.i64.wrap (q + z) = q + z := by rw [IntKind.wrap_i64]; omega
          rw [← hq]
          clear hq hx hy hz hfb hfb2 hcs HNX
          go_wp2_with fail
          go_quiet (fail)
          go_wp2_with fail
          go_roundw
          case rel => exact ⟨i + 1, by omega, by go_num, by rw [unhide HNQ], Below.drewN (unhide hbx) nq⟩
          case measure => simp [intOf]; omega
        · have hin : i = n := by omega
          subst hin
          have HO3 := hide (owns_below (unhide HO2) (Nat.le_refl _) (unhide hbx))
          have HL3 := hide ((unhide HL2).trans ((unhide hbx).mono (by have := (unhide HL2).size; omega)))
          obtain ⟨r1, hr1⟩ : ∃ r, r = off + farN D st i := ⟨_, rfl⟩
          rw [← hr1]
          have HR : Hid (ps.getD P 0 = r1) := by rw [hr1]; exact unhide HPP
          have hz3 := (unhide HL3).size
          clear hr1 HO2 HL2 HK2 HBp HRP hbx
          go_wp2_with (at_builtin; refine wpList_append_lies _ rfl _ _ 23 rfl (w.heap.size + 1) 3 i0 (.int .i64 0) 1 8 Tryz.underlying23 hi hz0 hz1 hz2 rfl (by decide) _ _ _ rfl (owns_below (unhide HO3) (Nat.le_refl _) ((Below.refl _ _).alloc (Nat.le_refl _) _)) ⟨wr.heap.size, 0, none⟩ 1 1 [.int .i64 r1] rfl rfl (cells_new _ _) (one_one _) (by omega) (by unfold maxLen; omega) (by omega) (by simp; omega) (wr.heap.size + 1) (by simp) ?_; intro g' cap' w7 hown' hgrow hat hlt7; have hl7 := below_append _ (unhide HO3) (by omega) hgrow; clear hgrow hat hlt7)
          go_roundw
          case rel => exact ⟨P + 1, g', cap', by omega, by go_num, rfl, by show w7.ownsRow _ _ _ _ _ _; rw [take_snoc ps P (by rw [unhide HPL]; exact hlt), unhide HR]; simpa using hown', (unhide HL3).trans hl7⟩
          case measure => simp [intOf]; omega
    · have hPN : P = N := by omega
      subst hPN
      have HE : Hid (wo.ownsRow (w.heap.size + 1) 3 1 (.slice (some ⟨g, 0, none⟩) P cap) P (ps.map (Value.int .i64))) := by have := unhide hown; rwa [List.take_of_length_le (by rw [unhide HPL]; exact Nat.le_refl _)] at this
      obtain ⟨_, _, ev, hO⟩ := Own.of_owns (unhide HE) (by omega)
      cases ev
      have HO := hide hO
      clear hO hown
      go_wp2
      go_ret
      exact ⟨g, cap, rfl, (unhide HO).mono (by omega), unhide HWo⟩
end Go.Proofs.YtgjpchnkodnieaaGreatDoor
