import Derived.Test.YtcjhbeljhmocbaaDoorImplAxEnd
import Derived.Test.YtcjhbeljhmocbaaDoorImplShape
import Derived.Test.YtcjhbeljhmocbaaDoorBoxB
import Derived.Test.YtcjhbeljhmocbaaDoorMMath
import Derived.Test.YtcjhbeljhmocbaaDoorSpecShowH
import Derived.Test.YtcjhbeljhmocbaaDoorMRange
import Derived.RangeFuncBound
import Derived.RangeFuncCalls
import Derived.Shelf.Abstract
import Derived.Shelf.RegionOpen
import Derived.OwnWalkIn
import Derived.TacticsInMore
import Derived.LoopNIn
import Derived.LoopIn
namespace Go.Proofs.YtcjhbeljhmocbaaDoor
open Go.RowKit Go.Shelf

attribute [local go_sem] Oper.semAt_some

theorem addr_add0 (a : Addr) : a.add 0 = a := by simp [Addr.add]

theorem run_slice_row (a : Addr) (n c p q m : Nat) (hp : p ≤ q) (hq : q ≤ c) (hm : q - p = m) (hpc : p < c ∨ p = 0) (W : World) : (Instr.slice 22 (.slice (some a) n c) (some (.int .i64 (p : Nat))) (some (.int .i64 (q : Nat))) none).run Tryd.prog W = .ok (.slice (some (a.add p)) m (c - p)) W := by
  have h1 : (q : Int) ≤ (c : Int) := by omega
  have h2 : (p : Int) ≤ (q : Int) := by omega
  rcases hpc with h | h
  · have h3 : ¬ c = p := by omega
    go_simp
  · subst h
    have h4 := addr_add0 a
    go_simp

theorem run_slice_to (a : Addr) (n c q : Nat) (hq : q ≤ c) (W : World) : (Instr.slice 22 (.slice (some a) n c) none (some (.int .i64 (q : Nat))) none).run Tryd.prog W = .ok (.slice (some a) q c) W := by
  have h1 : (q : Int) ≤ (c : Int) := by omega
  go_simp

theorem Row.cut {w : World} {a : Addr} {n k : Nat} {zs : List Int} (h : Row w (some a) n zs) (hk : k ≤ n) : Row w (some a) k (zs.take k) := by
  have hl := h.len
  refine ⟨by simp; omega, by have := h.small; omega, ?_⟩
  rcases h.at_ with h0 | ⟨b', o', e, hlt, hc⟩
  · exact .inl (by omega)
  · cases e
    refine .inr ⟨_, _, rfl, hlt, fun i hi => ?_⟩
    rw [hc i (by omega)]
    simp [List.getD_eq_getElem?_getD, hi]

/-- The r-th row of an array of N columns. -/
theorem Row.rowAt {w : World} {a : Addr} {n N R r : Nat} {dt : List Int} (h : Row w (some a) n dt) (hl : n = R * N) (hr : r < R) : Row w (some (a.add (r * N))) N (rowAt dt N r) := by
  rcases h.at_ with h0 | ⟨b, o, e, -⟩
  · have hN : N = 0 := by
      rcases Nat.eq_zero_or_pos N with h | h
      · exact h
      · have := Nat.mul_le_mul (show 1 ≤ R by omega) h; omega
    exact ⟨rowAt_len (h.len.trans hl) hr, by omega, .inl hN⟩
  · cases e
    rw [addr_add]
    exact h.sub hl hr

set_option maxRecDepth 20000 in
set_option maxHeartbeats 1000000 in
theorem rowsOf_any (c : Bool) (a1 : Addr) (v2 : Value) (n1 c1 : Nat) (sh : List Int) (w : World) (h1 : Row w (some a1) n1 sh) (hc1 : n1 ≤ c1) (hs : ShapeIn sh) (N R : Nat) (hN : axisE sh 1 = N) (hR : prodAll (sh.take (n1 - 1)) = (R : Int)) :
    Calls Tryd.prog 21 #[.agg #[.bool c, .slice (some a1) n1 c1, v2]] w fun e w' => e = .returned (.func (.func 35) #[] #[.pointer (some ⟨w.heap.size + 1 + 1, 0, none⟩), .pointer (some ⟨w.heap.size, 0, none⟩), .pointer (some ⟨w.heap.size + 1, 0, none⟩)]) ∧
      w' = ((w.alloc (.cells #[.bool c, .slice (some a1) n1 c1, v2] 28)).alloc (.cells #[.int .i64 (N : Nat)] 3)).alloc (.cells #[.int .i64 (R : Nat)] 3) := by
  obtain ⟨m, hm⟩ : ∃ m, n1 - 1 = m := ⟨_, rfl⟩
  rw [hm] at hR
  have hsm := h1.small
  have hsl := run_slice_to a1 n1 c1 m (by omega)
  have HE : Hid (∀ W, Below w.heap.size w W → Calls Tryd.prog 20 #[.slice (some a1) n1 c1, .int .i64 1] W fun e w' => e = .returned (.int .i64 (N : Nat)) ∧ w' = W) := fun W hb => by
    rw [← hN]
    exact axisFromEnd_any (some a1) n1 c1 sh 1 W (h1.below (Nat.le_refl _) hb) (by omega) (by omega) (fun i => (hs.cell i).1)
  have HC : Hid (∀ W, Below w.heap.size w W → Calls Tryd.prog 29 #[.slice (some a1) m c1] W fun e w' => e = .returned (.int .i64 (R : Nat)) ∧ w' = W) := fun W hb => by
    have := cellsOf_any (some a1) m c1 (sh.take m) W ((h1.below (Nat.le_refl _) hb).cut (by omega)) (fun k => by rw [List.take_take]; exact (hs.take _).bd)
    rw [hR] at this
    exact this
  have HB1 : Hid (Below w.heap.size w (w.alloc (.cells #[.bool c, .slice (some a1) n1 c1, v2] 28))) := (Below.refl _ _).alloc (Nat.le_refl _) _
  have HB2 : Hid (Below w.heap.size w ((w.alloc (.cells #[.bool c, .slice (some a1) n1 c1, v2] 28)).alloc (.cells #[.int .i64 (N : Nat)] 3))) := (unhide HB1).alloc (by simp) _
  clear hN hR h1 hs
  have hcs : ((n1 : Int) - 1 < 0 ∧ m = 0) ∨ (¬ (n1 : Int) - 1 < 0 ∧ (n1 : Int) - 1 = (m : Int)) := by omega
  clear hm
  go_enter Tryd.func21, Tryd.ntmps21
  go_wp2_with fail
  refine (unhide HE _ (unhide HB1)).mono ?_
  rintro e w1 ⟨rfl, hw1⟩
  obtain rfl := hw1.symm
  clear hw1
  rcases hcs with ⟨hc0, rfl⟩ | ⟨hc0, hc3⟩
  · go_wp2_with fail
    refine (unhide HC _ (unhide HB2)).mono ?_
    rintro e w2 ⟨rfl, hw2⟩
    obtain rfl := hw2.symm
    clear hw2
    go_wp2_with fail
    go_ret
    exact ⟨rfl, rfl⟩
  · go_wp2_with fail
    refine (unhide HC _ (unhide HB2)).mono ?_
    rintro e w2 ⟨rfl, hw2⟩
    obtain rfl := hw2.symm
    clear hw2
    go_wp2_with fail
    go_ret
    exact ⟨rfl, rfl⟩

theorem eg_rows : ∀ args w, (callFunc 35 args).run Tryd.prog w = .ok (.enter 35 args) w := enters_of Tryd.func35 (by kernel_rfl) rfl

/-- The k-th round of rowsOf: the row's number, and the row. -/
def rowAr (a2 : Addr) (c2 N k : Nat) : Array Value := #[.int .i64 (k : Nat), .slice (some (a2.add (k * N))) N (c2 - k * N)]

/-- What rowsOf's function reads: the three boxes. -/
structure RowsBox (A : World) (p : Nat) (c : Bool) (v1 : Value) (a2 : Addr) (n2 c2 N R : Nat) : Prop where
  box : Box A p c v1 (.slice (some a2) n2 c2)
  cols : A.heap[p + 1]? = some (.cells #[.int .i64 (N : Nat)] 3 (0, 0))
  cnt : A.heap[p + 1 + 1]? = some (.cells #[.int .i64 (R : Nat)] 3 (0, 0))

theorem RowsBox.new (w : World) (c : Bool) (v1 : Value) (a2 : Addr) (n2 c2 N R : Nat) : RowsBox (((w.alloc (.cells #[.bool c, v1, .slice (some a2) n2 c2] 28)).alloc (.cells #[.int .i64 (N : Nat)] 3)).alloc (.cells #[.int .i64 (R : Nat)] 3)) w.heap.size c v1 a2 n2 c2 N R := by
  refine ⟨((Box.new w _ _ _).alloc _).alloc _, ?_, ?_⟩
  · have := World.alloc_heap_new (w.alloc (.cells #[.bool c, v1, .slice (some a2) n2 c2] 28)) (.cells #[.int .i64 (N : Nat)] 3)
    rw [World.size_alloc] at this
    exact (Below.heap_alloc _ _ _ (by simp)).trans this
  · have := World.alloc_heap_new ((w.alloc (.cells #[.bool c, v1, .slice (some a2) n2 c2] 28)).alloc (.cells #[.int .i64 (N : Nat)] 3)) (.cells #[.int .i64 (R : Nat)] 3)
    rwa [World.size_alloc, World.size_alloc] at this

theorem RowsBox.lt {A : World} {p : Nat} {c : Bool} {v1 : Value} {a2 : Addr} {n2 c2 N R : Nat} (h : RowsBox A p c v1 a2 n2 c2 N R) : p + 1 + 1 < A.heap.size := lt_of_block h.cnt

theorem RowsBox.but {S : Nat → Prop} {A B : World} {p : Nat} {c : Bool} {v1 : Value} {a2 : Addr} {n2 c2 N R : Nat} (h : RowsBox A p c v1 a2 n2 c2 N R) (hb : But S A B) (h0 : ¬ S p) (h1 : ¬ S (p + 1)) (h2 : ¬ S (p + 1 + 1)) : RowsBox B p c v1 a2 n2 c2 N R :=
  ⟨h.box.but hb h0, (hb.block _ (lt_of_block h.cols) h1).trans h.cols, (hb.block _ (lt_of_block h.cnt) h2).trans h.cnt⟩

set_option maxRecDepth 100000 in
set_option maxHeartbeats 2000000 in
theorem rows1_seq (m p : Nat) (c : Bool) (v1 : Value) (a2 : Addr) (n2 c2 N R : Nat) (hn : n2 = R * N) (hn2 : n2 ≤ 10000) (hR : R ≤ 10000) (hN : N ≤ 10000) (hc2 : n2 ≤ c2) :
    SeqWhen m Tryd.prog 35 #[.pointer (some ⟨p + 1 + 1, 0, none⟩), .pointer (some ⟨p, 0, none⟩), .pointer (some ⟨p + 1, 0, none⟩)] R (rowAr a2 c2 N) (fun A => RowsBox A p c v1 a2 n2 c2 N R) := by
  intro l J W hJ hY h0
  have hcn : W.cell? ⟨p + 1 + 1, 0, none⟩ = some (.int .i64 (R : Nat)) := by simp [World.cell?, (hJ _ _ h0).cnt]
  have HJ : Hid (∀ k A, J k A → RowsBox A p c v1 a2 n2 c2 N R) := hJ
  have HY : Hid (∀ k W1, k < R → J k W1 → YieldAt Fence.wide (m - 1) Tryd.prog l (rowAr a2 c2 N k) W1 fun e W' => e = .returned (.bool true) ∧ J (k + 1) W') := hY
  have HN := hide hn
  have H0 := hide h0
  clear hJ hY h0 hn
  refine callsIn_of_wp Tryd.func35 rfl trivial ?_ rfl
  simp only [Tryd.ntmps35, List.size_toArray, List.length_cons, List.length_nil, Nat.reduceAdd, Nat.reduceSub, Array.replicate_succ, Array.replicate_zero, List.push_toArray, List.append_toArray, List.nil_append, List.cons_append]
  gi_wp2
  gi_loopw [7] (fun i wr => ∃ k : Nat, k ≤ R ∧ i = .int .i64 (k : Nat) ∧ Hid (J k wr)) (fun i _ => R - (intOf i).toNat)
  case atStart => exact ⟨0, Nat.zero_le _, rfl, H0⟩
  case round =>
    obtain ⟨k, hk, rfl, hj⟩ := hrel
    clear H0 hcn
    by_cases hlt : k < R
    · have hlti : (k : Int) < (R : Int) := by omega
      have hb := HJ.out _ _ hj.out
      obtain ⟨-, -, x2⟩ := hb.box.cells
      have hcc : wr.cell? ⟨p + 1, 0, none⟩ = some (.int .i64 (N : Nat)) := by simp [World.cell?, hb.cols]
      have hle : (k + 1) * N ≤ R * N := Nat.mul_le_mul_right N hlt
      rw [← HN.out] at hle
      obtain ⟨fn, tmps, assign, body, hy, hRr⟩ := HY.out k wr hlt hj.out
      unfold rowAr at hy
      have hpc : k * N < c2 ∨ k * N = 0 := by
        rcases Nat.eq_zero_or_pos N with h | h
        · right; rw [h, Nat.mul_zero]
        · left; rw [Nat.add_mul, Nat.one_mul] at hle; omega
      have hsl := fun W => run_slice_row a2 n2 c2 (k * N) ((k + 1) * N) N (Nat.mul_le_mul_right N (by omega)) (by omega) (by rw [Nat.add_mul, Nat.one_mul]; omega) hpc W
      obtain ⟨u, hu⟩ : ∃ u, k * N = u := ⟨_, rfl⟩
      obtain ⟨u2, hu2⟩ : ∃ u, (k + 1) * N = u := ⟨_, rfl⟩
      have hm1 : (k : Int) * (N : Int) = (u : Int) := by rw [← hu]; simp
      have hm2 : ((k : Int) + 1) * (N : Int) = (u2 : Int) := by rw [← hu2]; simp
      rw [hu2] at hle
      have huu : u ≤ u2 := by rw [← hu, ← hu2]; exact Nat.mul_le_mul_right N (by omega)
      have hub : u ≤ 10000 := by omega
      rw [hu, hu2] at hsl
      rw [hu] at hy
      clear hpc hu hu2 hb
      gi_wp2
      refine ⟨fun h => (by simp [Fence.wide] at h), hRr.mono ?_⟩
      rintro e W3 ⟨rfl, hJ3⟩
      have HJ3 := hide hJ3
      clear hRr hy hJ3
      gi_wp2
      go_roundw
      case rel => exact ⟨k + 1, by omega, by go_num, HJ3⟩
      case measure => simp [intOf]; omega
    · have : k = R := by omega
      subst this
      gi_wp2
      go_end0
      exact ⟨⟨_, rfl⟩, hj.out⟩

end Go.Proofs.YtcjhbeljhmocbaaDoor
