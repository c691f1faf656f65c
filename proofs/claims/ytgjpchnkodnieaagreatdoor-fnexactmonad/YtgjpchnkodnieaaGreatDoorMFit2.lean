import Derived.Test.YtgjpchnkodnieaaGreatDoorMFit1
import Derived.Test.YtgjpchnkodnieaaGreatDoorMFit0
import Derived.Deep.DeepCutAuto
import Derived.Shelf.Slices.Reverse
import Derived.Ground.NamesProg
import Derived.Test.YtgjpchnkodnieaaGreatDoorProg
import Derived.Deep.AppendLies
import Derived.RangeFuncRecord
import Derived.Sort.OwnSortedInts
import Derived.Deep.RegionHeld
import Derived.Shelf.Spec.SlicesGrow
import Derived.Deep.WholeRow
import Derived.Lib.SliceRun
import Derived.BigQuiet
import Derived.Test.YtgjpchnkodnieaaGreatDoorChecked
namespace Go.Proofs.YtgjpchnkodnieaaGreatDoor

theorem prodAll_cons (x : Int) (l : List Int) : prodAll (x :: l) = x * prodAll l := by
  have e : x :: l = [x] ++ l := rfl
  rw [e, prodAll_append]
  simp [prodAll]

theorem prodAll_perm {l1 l2 : List Int} (h : l1.Perm l2) : prodAll l1 = prodAll l2 := by
  induction h with
  | nil => rfl
  | cons x _ ih => rw [prodAll_cons, prodAll_cons, ih]
  | swap x y l => rw [prodAll_cons, prodAll_cons, prodAll_cons, prodAll_cons, Int.mul_left_comm]
  | trans _ _ h1 h2 => exact h1.trans h2

/-- The product of the numbers that are not 0. -/
def big : List Int → Int
  | [] => 1
  | x :: r => if x = 0 then big r else x * big r

theorem big_pos {l : List Int} (h : l.all inCells = true) : 1 ≤ big l := by
  induction l with
  | nil => simp [big]
  | cons x r ih =>
    simp only [List.all_cons, Bool.and_eq_true] at h
    have hx : 0 ≤ x ∧ x ≤ 10000 := by simpa [inCells] using h.1
    have := ih h.2
    unfold big
    split
    · exact this
    · have h1 : 1 * 1 ≤ x * big r := Int.mul_le_mul (by omega) this (by omega) (by omega)
      omega

theorem big_perm {l1 l2 : List Int} (h : l1.Perm l2) : big l1 = big l2 := by
  induction h with
  | nil => rfl
  | cons x _ ih => simp only [big, ih]
  | swap x y l =>
    simp only [big]
    by_cases hx : x = 0
    · by_cases hy : y = 0
      · simp [hx, hy]
      · simp [hx, hy]
    · by_cases hy : y = 0
      · simp [hx, hy]
      · simp [hx, hy, Int.mul_left_comm]
  | trans _ _ h1 h2 => exact h1.trans h2

theorem prodFrom_big (l : List Int) (h : l.all inCells = true) (n : Int) (h1 : 1 ≤ n) (h2 : n ≤ 10000) : (∃ m, prodFrom l n = some m) ↔ n * big l ≤ 10000 := by
  induction l generalizing n with
  | nil => simp [prodFrom, big, h2]
  | cons x r ih =>
    simp only [List.all_cons, Bool.and_eq_true] at h
    have hx : 0 ≤ x ∧ x ≤ 10000 := by simpa [inCells] using h.1
    have hb := big_pos h.2
    simp only [prodFrom, big]
    by_cases h0 : x = 0
    · rw [if_pos h0, if_pos h0]; exact ih h.2 n h1 h2
    · rw [if_neg h0, if_neg h0, ← Int.mul_assoc]
      have hnx : 1 * 1 ≤ n * x := Int.mul_le_mul h1 (by omega) (by omega) (by omega)
      split
      · rename_i hbig
        constructor
        · rintro ⟨m, hm⟩; cases hm
        · intro hle
          have : n * x * 1 ≤ n * x * big r := Int.mul_le_mul_of_nonneg_left hb (by omega)
          omega
      · rename_i hbig
        exact ih h.2 (n * x) (by omega) (by omega)

theorem shapeIn_perm {l1 l2 : List Int} (h : l1.Perm l2) (hs : ShapeIn l1) : ShapeIn l2 := by
  have ha : l2.all inCells = true := by
    rw [List.all_eq_true]
    exact fun x hx => List.all_eq_true.1 hs.1 x (h.mem_iff.2 hx)
  have := (prodFrom_big l1 hs.1 1 (by omega) (by omega)).1 hs.2
  rw [big_perm h] at this
  exact ⟨ha, (prodFrom_big l2 ha 1 (by omega) (by omega)).2 this⟩

theorem order_perm {dt : List Int} {r : Nat} (h : orderOk dt r r = true) (hl : dt.length = r) : ((List.range r).map (axNo dt)).Perm (List.range r) := by
  have hat := inTurn_at (order_sorted h hl)
  have hsl : (sortedI dt).length = r := by rw [sortedI_len, hl]
  have e1 : (sortedI dt).map (fun x => (x - 1).toNat) = List.range r := by
    apply List.ext_getElem
    · simp [hsl]
    · intro i h1 h2
      have hi : i < r := by simpa using h2
      have := hat i hi
      rw [getD_eq _ i (by omega)] at this
      simp [this]
  have e2 : dt.map (fun x => (x - 1).toNat) = (List.range r).map (axNo dt) := by
    apply List.ext_getElem
    · simp [hl]
    · intro i h1 h2
      have hi : i < dt.length := by simpa using h1
      simp [axNo, hi]
  rw [← e2, ← e1]
  exact ((sortedI_perm dt).map _).symm

theorem turn_perm {dt sh : List Int} {r : Nat} (h : orderOk dt r r = true) (hl : dt.length = r) (hs : sh.length = r) : (turnN dt sh r r).Perm sh := by
  have e1 : sh = ((List.range r).map (axNo dt)).map (fun k => (turnN dt sh r r).getD k 0) := by
    apply List.ext_getElem
    · simp [hs]
    · intro i h1 h2
      have := (turned (sh := sh) h i (by omega)).1
      rw [getD_eq sh i h1] at this
      simp only [List.getElem_map, List.getElem_range]
      exact this.symm
  have e2 : turnN dt sh r r = (List.range r).map (fun k => (turnN dt sh r r).getD k 0) := by
    apply List.ext_getElem
    · simp [turnN_len]
    · intro i h1 h2
      rw [List.getElem_map, List.getElem_range, getD_eq _ i h1]
  have hp := ((order_perm h hl).map (fun k => (turnN dt sh r r).getD k 0)).symm
  rw [← e1, ← e2] at hp
  exact hp

/-- Which number of an index of the turned array is meant by an axis. -/
def transF (dt D : List Int) (i : Nat) : Int := D.getD (axNo dt i) 0

end Go.Proofs.YtgjpchnkodnieaaGreatDoor
namespace Go.Proofs.YtgjpchnkodnieaaGreatDoor

theorem trans_gather {d : Bool} {dt sh dt' : List Int} (h : orderOk dt sh.length sh.length = true) (hf : Full sh) (k : Nat) : gatherAt d sh dt' (transF dt) (turnN dt sh sh.length sh.length) k = transAt dt sh dt' k := by
  have hD := digits_in (turn_full h rfl hf) (k : Int)
  have hb := back_in h rfl hD
  have e : meant sh (transF dt) (digits (turnN dt sh sh.length sh.length) k) = backIx dt (digits (turnN dt sh sh.length sh.length) k) sh.length := rfl
  unfold gatherAt transAt
  rw [e, if_pos (inside_of hb _ (Nat.le_refl _))]

theorem trans_vals {d : Bool} {dt sh dt' : List Int} (h2 : arrOk d sh dt' = true) (h : orderOk dt sh.length sh.length = true) : vals (gatherAt d sh dt' (transF dt) (turnN dt sh sh.length sh.length)) dt'.length = vals (transAt dt sh dt') dt'.length := by
  obtain ⟨hin, hp, _⟩ := shapeIn_of h2
  by_cases h0 : dt'.length = 0
  · rw [h0]; rfl
  · exact map_range_eq fun k _ => by rw [trans_gather h (full_of hin (by rw [hp]; omega))]

end Go.Proofs.YtgjpchnkodnieaaGreatDoor
namespace Go.Proofs.YtgjpchnkodnieaaGreatDoor
open Go.RowKit

set_option maxRecDepth 20000 in
set_option maxHeartbeats 4000000 in
theorem inOrder_any (a b : Option Addr) (n c1 c2 : Nat) (l ps : List Int) (w : World) (h1 : Row w a n l) (h2 : Row w b n ps) (hn : n ≤ 5) (hord : orderOk ps n n = true) :
    Calls Tryz.prog 60 #[.slice a n c1, .slice b n c2] w fun e w' => ∃ g, e = .returned (.slice (some ⟨g, 0, none⟩) n n) ∧ w.heap.size ≤ g ∧ Blk w' g (turnN ps l n n) ∧ Below w.heap.size w w' := by
  have hl1 := hide h1.len
  have hl2 := hide h2.len
  have hmk := run_make_row' (P := Tryz.prog) 23 3 (.int .i64 0) 8 Tryz.underlying23 info_int rfl .i64 .i64 n (by omega) (by omega)
  obtain ⟨W, hW⟩ : ∃ W, w.alloc (.cells (madeCells #[.int .i64 0] n) 3) = W := ⟨_, rfl⟩
  obtain ⟨g, hg⟩ : ∃ g, w.heap.size = g := ⟨_, rfl⟩
  have HB : Hid (Below g w W) := by rw [← hW, ← hg]; exact (Below.refl _ _).alloc (Nat.le_refl _) _
  have HK0 : Hid (Blk W g (turnN ps l n 0)) := by rw [← hW]; exact Blk.made w n g hg.symm
  have HA : Hid (Row W a n l) := by rw [← hW]; exact h1.alloc _
  have HP : Hid (Row W b n ps) := by rw [← hW]; exact h2.alloc _
  have HA1 : Hid (∀ k, At a n k → k ≠ g) := fun k hk => by rw [← hg]; have := h1.hi hk; omega
  have HP1 : Hid (∀ k, At b n k → k ≠ g) := fun k hk => by rw [← hg]; have := h2.hi hk; omega
  have HWE := hide hW
  have HGE := hide hg
  have HO := hide hord
  clear h1 h2 hW hg hord
  go_enter Tryz.func60, Tryz.ntmps60
  go_upto_region 2 with fail
  rw [unhide HWE, unhide HGE]
  clear HWE hmk
  go_wp2_with fail
  go_loopw [13] (fun i wr => ∃ k : Nat, k ≤ n ∧ i = .int .i64 k ∧ Hid (Blk wr g (turnN ps l n k)) ∧ Hid (But (fun x => x = g) W wr)) (fun i _ => n - (intOf i).toNat)
  case atStart => exact ⟨0, Nat.zero_le _, rfl, HK0, hide (But.refl _ _)⟩
  case round =>
    obtain ⟨k, hk, rfl, hb, hbut⟩ := hrel
    by_cases hlt : k < n
    · obtain ⟨b1, o1, rfl, hb1, hc1⟩ := ((unhide hbut).row (unhide HA) (by rintro x rfl h; exact unhide HA1 _ h rfl)).get hlt
      obtain ⟨b2, o2, rfl, hb2, hc2⟩ := ((unhide hbut).row (unhide HP) (by rintro x rfl h; exact unhide HP1 _ h rfl)).get hlt
      have hso := order_step (unhide HO) hlt
      have hax := stepOk_lt hso
      have hrg := order_range (unhide HO) k hlt
      obtain ⟨x, hx⟩ : ∃ x, l.getD k 0 = x := ⟨_, rfl⟩
      obtain ⟨y, hy⟩ : ∃ y, ps.getD k 0 = y := ⟨_, rfl⟩
      obtain ⟨j, hj⟩ : ∃ j, axNo ps k = j := ⟨_, rfl⟩
      have hyj : y = (j : Int) + 1 := by rw [← hj]; unfold axNo; rw [hy]; rw [hy] at hrg; omega
      rw [hj] at hax
      rw [hx] at hc1
      rw [hy, hyj] at hc2
      have HN := hide ((unhide hb).set j x)
      have HE : Hid ((turnN ps l n k).set j x = turnN ps l n (k + 1)) := by show _ = (turnN ps l n k).set (axNo ps k) (l.getD k 0); rw [hj, hx]
      rw [unhide HE] at HN
      have hcj := (unhide hb).cell (i := j) (by rw [turnN_len]; exact hax)
      have hfj := (unhide hb).free j
      have hgl := (unhide hb).lt
      have hw1 : IntKind.i64.wrap ((j : Int) + 1 - 1) = (j : Int) := by rw [IntKind.wrap_i64]; omega
      have hji : (j : Int) < n := by omega
      have hj0 : (0 : Int) ≤ j := by omega
      have hjn : ((j : Int) + 1 - 1) = (j : Int) := by omega
      clear hx hy hj hyj hso hrg hax HE
      go_wp2_with fail
      go_roundw
      case rel => exact ⟨k + 1, by omega, by go_num, HN, hide ((unhide hbut).setCell (p := ⟨g, j, none⟩) rfl _)⟩
      case measure => (simp [intOf] <;> omega)
    · obtain rfl : k = n := by omega
      have KB := hide ((unhide HB).trans ((unhide hbut).below (B := g) (by have := (unhide HK0).lt; omega) (fun k hk => by omega)))
      go_wp2_with fail
      go_ret
      exact ⟨g, rfl, by rw [unhide HGE]; exact Nat.le_refl _, unhide hb, by rw [unhide HGE]; exact unhide KB⟩

end Go.Proofs.YtgjpchnkodnieaaGreatDoor
namespace Go.Proofs.YtgjpchnkodnieaaGreatDoor
open Go.RowKit

set_option maxRecDepth 20000 in
set_option maxHeartbeats 4000000 in
theorem listCode_bad1 (c d : Bool) (a1 a2 b1 b2 : Option Addr) (n1 n2 m1 m2 c1 c2 d1 d2 : Nat) (sh dt sh' dt' : List Int) (w : World) (h1 : Row w a1 n1 sh) (h2 : Row w a2 n2 dt) (k1 : Row w b1 m1 sh') (k2 : Row w b2 m2 dt') (hok : arrOk c sh dt = false) :
    Calls Tryz.prog 57 #[.agg #[.bool c, .slice a1 n1 c1, .slice a2 n2 c2], .agg #[.bool d, .slice b1 m1 d1, .slice b2 m2 d2]] w fun e w' => e = .returned (.int .i64 3) ∧ Below w.heap.size w w' := by
  obtain ⟨W0, hW0⟩ : ∃ W0, W0 = (w.alloc (.cells #[.bool c, .slice a1 n1 c1, .slice a2 n2 c2] 25)).alloc (.cells #[.bool d, .slice b1 m1 d1, .slice b2 m2 d2] 25) := ⟨_, rfl⟩
  have hz0 : W0.heap.size = w.heap.size + 2 := by rw [hW0]; simp
  have HB0 : Hid (Below w.heap.size w W0) := by rw [hW0]; exact ((Below.refl _ w).alloc (Nat.le_refl _) _).alloc (by simp) _
  have HX0 : Hid (Box W0 w.heap.size c (.slice a1 n1 c1) (.slice a2 n2 c2)) := by rw [hW0]; exact (Box.new w _ _ _).alloc _
  have HX1 : Hid (Box W0 (w.heap.size + 1) d (.slice b1 m1 d1) (.slice b2 m2 d2)) := by
    rw [hW0]
    show Box _ _ _ _ _
    have := Box.new (w.alloc (.cells #[.bool c, .slice a1 n1 c1, .slice a2 n2 c2] 25)) d (.slice b1 m1 d1) (.slice b2 m2 d2)
    simpa using this
  have H1 := hide (h1.below (Nat.le_refl _) HB0.out)
  have H2 := hide (h2.below (Nat.le_refl _) HB0.out)
  have K1 := hide (k1.below (Nat.le_refl _) HB0.out)
  have K2 := hide (k2.below (Nat.le_refl _) HB0.out)
  have hs1 := h1.small
  have HW0 := hide hW0
  have HR := hide hok
  clear h1 h2 k1 k2 hok hW0
  go_enter Tryz.func57, Tryz.ntmps57
  go_wp2_with (first | (go_at_call_of 51 (Value.slice a1 n1 c1); rw [← HW0.out]; refine (implArrayOk_eq _ _ _ _ _ _ _ sh dt _ H1.out H2.out _ HR).mono ?_; rintro e w1 ⟨rfl, hb1⟩; have HE1 := hide hb1; clear hb1; obtain ⟨x0, x1, x2, _, _, _⟩ := (HX0.out.below (Nat.le_refl _) HE1.out).all; obtain ⟨y0, y1, y2, _, _, _⟩ := (HX1.out.below (Nat.le_refl _) HE1.out).all; have hp1 : w.heap.size + 1 < w1.heap.size := (by have := HE1.out.size; omega)))
  go_ret
  exact ⟨rfl, HB0.out.trans (HE1.out.mono (by omega))⟩

set_option maxRecDepth 20000 in
set_option maxHeartbeats 4000000 in
theorem listCode_bad2 (c d : Bool) (a1 a2 b1 b2 : Option Addr) (n1 n2 m1 m2 c1 c2 d1 d2 : Nat) (sh dt sh' dt' : List Int) (w : World) (h1 : Row w a1 n1 sh) (h2 : Row w a2 n2 dt) (k1 : Row w b1 m1 sh') (k2 : Row w b2 m2 dt') (hok : arrOk c sh dt = true) (hok' : arrOk d sh' dt' = false) :
    Calls Tryz.prog 57 #[.agg #[.bool c, .slice a1 n1 c1, .slice a2 n2 c2], .agg #[.bool d, .slice b1 m1 d1, .slice b2 m2 d2]] w fun e w' => e = .returned (.int .i64 3) ∧ Below w.heap.size w w' := by
  obtain ⟨W0, hW0⟩ : ∃ W0, W0 = (w.alloc (.cells #[.bool c, .slice a1 n1 c1, .slice a2 n2 c2] 25)).alloc (.cells #[.bool d, .slice b1 m1 d1, .slice b2 m2 d2] 25) := ⟨_, rfl⟩
  have hz0 : W0.heap.size = w.heap.size + 2 := by rw [hW0]; simp
  have HB0 : Hid (Below w.heap.size w W0) := by rw [hW0]; exact ((Below.refl _ w).alloc (Nat.le_refl _) _).alloc (by simp) _
  have HX0 : Hid (Box W0 w.heap.size c (.slice a1 n1 c1) (.slice a2 n2 c2)) := by rw [hW0]; exact (Box.new w _ _ _).alloc _
  have HX1 : Hid (Box W0 (w.heap.size + 1) d (.slice b1 m1 d1) (.slice b2 m2 d2)) := by
    rw [hW0]
    show Box _ _ _ _ _
    have := Box.new (w.alloc (.cells #[.bool c, .slice a1 n1 c1, .slice a2 n2 c2] 25)) d (.slice b1 m1 d1) (.slice b2 m2 d2)
    simpa using this
  have H1 := hide (h1.below (Nat.le_refl _) HB0.out)
  have H2 := hide (h2.below (Nat.le_refl _) HB0.out)
  have K1 := hide (k1.below (Nat.le_refl _) HB0.out)
  have K2 := hide (k2.below (Nat.le_refl _) HB0.out)
  have hs1 := h1.small
  have HW0 := hide hW0
  have HR := hide hok
  have HR' := hide hok'
  clear hok'
  clear h1 h2 k1 k2 hok hW0
  go_enter Tryz.func57, Tryz.ntmps57
  go_wp2_with (first | (go_at_call_of 51 (Value.slice a1 n1 c1); rw [← HW0.out]; refine (implArrayOk_eq _ _ _ _ _ _ _ sh dt _ H1.out H2.out _ HR).mono ?_; rintro e w1 ⟨rfl, hb1⟩; have HE1 := hide hb1; clear hb1; obtain ⟨x0, x1, x2, _, _, _⟩ := (HX0.out.below (Nat.le_refl _) HE1.out).all; obtain ⟨y0, y1, y2, _, _, _⟩ := (HX1.out.below (Nat.le_refl _) HE1.out).all; have hp1 : w.heap.size + 1 < w1.heap.size := (by have := HE1.out.size; omega)) | (go_at_call 51; refine (implArrayOk_eq _ _ _ _ _ _ _ sh' dt' _ (K1.out.below (Nat.le_refl _) HE1.out) (K2.out.below (Nat.le_refl _) HE1.out) _ HR').mono ?_; rintro e w2 ⟨rfl, hb2⟩; have HE2 := hide (HE1.out.trans (hb2.mono HE1.out.size)); clear hb2 x0 x1 x2 y0 y1 y2; obtain ⟨x0, x1, x2, _, _, _⟩ := (HX0.out.below (Nat.le_refl _) HE2.out).all; have hp2 : w.heap.size + 1 < w2.heap.size := (by have := HE2.out.size; omega)))
  go_ret
  exact ⟨rfl, HB0.out.trans (HE2.out.mono (by omega))⟩

set_option maxRecDepth 20000 in
set_option maxHeartbeats 4000000 in
theorem listCode_long (c d : Bool) (a1 a2 b1 b2 : Option Addr) (n1 n2 m1 m2 c1 c2 d1 d2 : Nat) (sh dt sh' dt' : List Int) (w : World) (h1 : Row w a1 n1 sh) (h2 : Row w a2 n2 dt) (k1 : Row w b1 m1 sh') (k2 : Row w b2 m2 dt') (hok : arrOk c sh dt = true) (hok' : arrOk d sh' dt' = true) (hn : 1 < n1) :
    Calls Tryz.prog 57 #[.agg #[.bool c, .slice a1 n1 c1, .slice a2 n2 c2], .agg #[.bool d, .slice b1 m1 d1, .slice b2 m2 d2]] w fun e w' => e = .returned (.int .i64 4) ∧ Below w.heap.size w w' := by
  obtain ⟨W0, hW0⟩ : ∃ W0, W0 = (w.alloc (.cells #[.bool c, .slice a1 n1 c1, .slice a2 n2 c2] 25)).alloc (.cells #[.bool d, .slice b1 m1 d1, .slice b2 m2 d2] 25) := ⟨_, rfl⟩
  have hz0 : W0.heap.size = w.heap.size + 2 := by rw [hW0]; simp
  have HB0 : Hid (Below w.heap.size w W0) := by rw [hW0]; exact ((Below.refl _ w).alloc (Nat.le_refl _) _).alloc (by simp) _
  have HX0 : Hid (Box W0 w.heap.size c (.slice a1 n1 c1) (.slice a2 n2 c2)) := by rw [hW0]; exact (Box.new w _ _ _).alloc _
  have HX1 : Hid (Box W0 (w.heap.size + 1) d (.slice b1 m1 d1) (.slice b2 m2 d2)) := by
    rw [hW0]
    show Box _ _ _ _ _
    have := Box.new (w.alloc (.cells #[.bool c, .slice a1 n1 c1, .slice a2 n2 c2] 25)) d (.slice b1 m1 d1) (.slice b2 m2 d2)
    simpa using this
  have H1 := hide (h1.below (Nat.le_refl _) HB0.out)
  have H2 := hide (h2.below (Nat.le_refl _) HB0.out)
  have K1 := hide (k1.below (Nat.le_refl _) HB0.out)
  have K2 := hide (k2.below (Nat.le_refl _) HB0.out)
  have hs1 := h1.small
  have HW0 := hide hW0
  have HR := hide hok
  have HR' := hide hok'
  clear hok'
  clear h1 h2 k1 k2 hok hW0
  go_enter Tryz.func57, Tryz.ntmps57
  go_wp2_with (first | (go_at_call_of 51 (Value.slice a1 n1 c1); rw [← HW0.out]; refine (implArrayOk_eq _ _ _ _ _ _ _ sh dt _ H1.out H2.out _ HR).mono ?_; rintro e w1 ⟨rfl, hb1⟩; have HE1 := hide hb1; clear hb1; obtain ⟨x0, x1, x2, _, _, _⟩ := (HX0.out.below (Nat.le_refl _) HE1.out).all; obtain ⟨y0, y1, y2, _, _, _⟩ := (HX1.out.below (Nat.le_refl _) HE1.out).all; have hp1 : w.heap.size + 1 < w1.heap.size := (by have := HE1.out.size; omega)) | (go_at_call 51; refine (implArrayOk_eq _ _ _ _ _ _ _ sh' dt' _ (K1.out.below (Nat.le_refl _) HE1.out) (K2.out.below (Nat.le_refl _) HE1.out) _ HR').mono ?_; rintro e w2 ⟨rfl, hb2⟩; have HE2 := hide (HE1.out.trans (hb2.mono HE1.out.size)); clear hb2 x0 x1 x2 y0 y1 y2; obtain ⟨x0, x1, x2, _, _, _⟩ := (HX0.out.below (Nat.le_refl _) HE2.out).all; have hp2 : w.heap.size + 1 < w2.heap.size := (by have := HE2.out.size; omega)))
  go_ret
  exact ⟨rfl, HB0.out.trans (HE2.out.mono (by omega))⟩

set_option maxRecDepth 20000 in
set_option maxHeartbeats 4000000 in
theorem listCode_rest (c d : Bool) (a1 a2 b1 b2 : Option Addr) (n1 n2 m1 m2 c1 c2 d1 d2 : Nat) (sh dt sh' dt' : List Int) (w : World) (h1 : Row w a1 n1 sh) (h2 : Row w a2 n2 dt) (k1 : Row w b1 m1 sh') (k2 : Row w b2 m2 dt') (hok : arrOk c sh dt = true) (hok' : arrOk d sh' dt' = true) (hn : ¬ 1 < n1) :
    Calls Tryz.prog 57 #[.agg #[.bool c, .slice a1 n1 c1, .slice a2 n2 c2], .agg #[.bool d, .slice b1 m1 d1, .slice b2 m2 d2]] w fun e w' => e = .returned (.int .i64 (if c then 3 else 0)) ∧ Below w.heap.size w w' := by
  cases c with
  | false =>
    obtain ⟨W0, hW0⟩ : ∃ W0, W0 = (w.alloc (.cells #[.bool false, .slice a1 n1 c1, .slice a2 n2 c2] 25)).alloc (.cells #[.bool d, .slice b1 m1 d1, .slice b2 m2 d2] 25) := ⟨_, rfl⟩
    have hz0 : W0.heap.size = w.heap.size + 2 := by rw [hW0]; simp
    have HB0 : Hid (Below w.heap.size w W0) := by rw [hW0]; exact ((Below.refl _ w).alloc (Nat.le_refl _) _).alloc (by simp) _
    have HX0 : Hid (Box W0 w.heap.size false (.slice a1 n1 c1) (.slice a2 n2 c2)) := by rw [hW0]; exact (Box.new w _ _ _).alloc _
    have HX1 : Hid (Box W0 (w.heap.size + 1) d (.slice b1 m1 d1) (.slice b2 m2 d2)) := by
      rw [hW0]
      show Box _ _ _ _ _
      have := Box.new (w.alloc (.cells #[.bool false, .slice a1 n1 c1, .slice a2 n2 c2] 25)) d (.slice b1 m1 d1) (.slice b2 m2 d2)
      simpa using this
    have H1 := hide (h1.below (Nat.le_refl _) HB0.out)
    have H2 := hide (h2.below (Nat.le_refl _) HB0.out)
    have K1 := hide (k1.below (Nat.le_refl _) HB0.out)
    have K2 := hide (k2.below (Nat.le_refl _) HB0.out)
    have hs1 := h1.small
    have HW0 := hide hW0
    have HR := hide hok
    have HR' := hide hok'
    clear hok'
    clear h1 h2 k1 k2 hok hW0
    go_enter Tryz.func57, Tryz.ntmps57
    go_wp2_with (first | (go_at_call_of 51 (Value.slice a1 n1 c1); rw [← HW0.out]; refine (implArrayOk_eq _ _ _ _ _ _ _ sh dt _ H1.out H2.out _ HR).mono ?_; rintro e w1 ⟨rfl, hb1⟩; have HE1 := hide hb1; clear hb1; obtain ⟨x0, x1, x2, _, _, _⟩ := (HX0.out.below (Nat.le_refl _) HE1.out).all; obtain ⟨y0, y1, y2, _, _, _⟩ := (HX1.out.below (Nat.le_refl _) HE1.out).all; have hp1 : w.heap.size + 1 < w1.heap.size := (by have := HE1.out.size; omega)) | (go_at_call 51; refine (implArrayOk_eq _ _ _ _ _ _ _ sh' dt' _ (K1.out.below (Nat.le_refl _) HE1.out) (K2.out.below (Nat.le_refl _) HE1.out) _ HR').mono ?_; rintro e w2 ⟨rfl, hb2⟩; have HE2 := hide (HE1.out.trans (hb2.mono HE1.out.size)); clear hb2 x0 x1 x2 y0 y1 y2; obtain ⟨x0, x1, x2, _, _, _⟩ := (HX0.out.below (Nat.le_refl _) HE2.out).all; have hp2 : w.heap.size + 1 < w2.heap.size := (by have := HE2.out.size; omega)))
    go_ret
    exact ⟨rfl, HB0.out.trans (HE2.out.mono (by omega))⟩
  | true =>
    obtain ⟨W0, hW0⟩ : ∃ W0, W0 = (w.alloc (.cells #[.bool true, .slice a1 n1 c1, .slice a2 n2 c2] 25)).alloc (.cells #[.bool d, .slice b1 m1 d1, .slice b2 m2 d2] 25) := ⟨_, rfl⟩
    have hz0 : W0.heap.size = w.heap.size + 2 := by rw [hW0]; simp
    have HB0 : Hid (Below w.heap.size w W0) := by rw [hW0]; exact ((Below.refl _ w).alloc (Nat.le_refl _) _).alloc (by simp) _
    have HX0 : Hid (Box W0 w.heap.size true (.slice a1 n1 c1) (.slice a2 n2 c2)) := by rw [hW0]; exact (Box.new w _ _ _).alloc _
    have HX1 : Hid (Box W0 (w.heap.size + 1) d (.slice b1 m1 d1) (.slice b2 m2 d2)) := by
      rw [hW0]
      show Box _ _ _ _ _
      have := Box.new (w.alloc (.cells #[.bool true, .slice a1 n1 c1, .slice a2 n2 c2] 25)) d (.slice b1 m1 d1) (.slice b2 m2 d2)
      simpa using this
    have H1 := hide (h1.below (Nat.le_refl _) HB0.out)
    have H2 := hide (h2.below (Nat.le_refl _) HB0.out)
    have K1 := hide (k1.below (Nat.le_refl _) HB0.out)
    have K2 := hide (k2.below (Nat.le_refl _) HB0.out)
    have hs1 := h1.small
    have HW0 := hide hW0
    have HR := hide hok
    have HR' := hide hok'
    clear hok'
    clear h1 h2 k1 k2 hok hW0
    go_enter Tryz.func57, Tryz.ntmps57
    go_wp2_with (first | (go_at_call_of 51 (Value.slice a1 n1 c1); rw [← HW0.out]; refine (implArrayOk_eq _ _ _ _ _ _ _ sh dt _ H1.out H2.out _ HR).mono ?_; rintro e w1 ⟨rfl, hb1⟩; have HE1 := hide hb1; clear hb1; obtain ⟨x0, x1, x2, _, _, _⟩ := (HX0.out.below (Nat.le_refl _) HE1.out).all; obtain ⟨y0, y1, y2, _, _, _⟩ := (HX1.out.below (Nat.le_refl _) HE1.out).all; have hp1 : w.heap.size + 1 < w1.heap.size := (by have := HE1.out.size; omega)) | (go_at_call 51; refine (implArrayOk_eq _ _ _ _ _ _ _ sh' dt' _ (K1.out.below (Nat.le_refl _) HE1.out) (K2.out.below (Nat.le_refl _) HE1.out) _ HR').mono ?_; rintro e w2 ⟨rfl, hb2⟩; have HE2 := hide (HE1.out.trans (hb2.mono HE1.out.size)); clear hb2 x0 x1 x2 y0 y1 y2; obtain ⟨x0, x1, x2, _, _, _⟩ := (HX0.out.below (Nat.le_refl _) HE2.out).all; have hp2 : w.heap.size + 1 < w2.heap.size := (by have := HE2.out.size; omega)))
    go_ret
    exact ⟨rfl, HB0.out.trans (HE2.out.mono (by omega))⟩

/-- The code of what must be a list of numbers, beside an array. -/
def codeList (c d : Bool) (sh dt sh' dt' : List Int) : Int := if arrOk c sh dt = true ∧ arrOk d sh' dt' = true then listCode c sh.length else 3

theorem implListCode_any (c d : Bool) (a1 a2 b1 b2 : Option Addr) (n1 n2 m1 m2 c1 c2 d1 d2 : Nat) (sh dt sh' dt' : List Int) (w : World) (h1 : Row w a1 n1 sh) (h2 : Row w a2 n2 dt) (k1 : Row w b1 m1 sh') (k2 : Row w b2 m2 dt') (r : Int) (hr : Hid (codeList c d sh dt sh' dt' = r)) :
    Calls Tryz.prog 57 #[.agg #[.bool c, .slice a1 n1 c1, .slice a2 n2 c2], .agg #[.bool d, .slice b1 m1 d1, .slice b2 m2 d2]] w fun e w' => e = .returned (.int .i64 r) ∧ Below w.heap.size w w' := by
  have hr' := hr.out
  clear hr
  subst hr'
  unfold codeList
  cases hok : arrOk c sh dt with
  | false => rw [if_neg (by simp)]; exact listCode_bad1 c d a1 a2 b1 b2 n1 n2 m1 m2 c1 c2 d1 d2 sh dt sh' dt' w h1 h2 k1 k2 hok
  | true =>
    cases hok' : arrOk d sh' dt' with
    | false => rw [if_neg (by simp)]; exact listCode_bad2 c d a1 a2 b1 b2 n1 n2 m1 m2 c1 c2 d1 d2 sh dt sh' dt' w h1 h2 k1 k2 hok hok'
    | true =>
      rw [if_pos ⟨rfl, rfl⟩, h1.len]
      unfold listCode
      by_cases hn : 1 < n1
      · rw [if_pos hn]; exact listCode_long c d a1 a2 b1 b2 n1 n2 m1 m2 c1 c2 d1 d2 sh dt sh' dt' w h1 h2 k1 k2 hok hok' hn
      · rw [if_neg hn]; exact listCode_rest c d a1 a2 b1 b2 n1 n2 m1 m2 c1 c2 d1 d2 sh dt sh' dt' w h1 h2 k1 k2 hok hok' hn

end Go.Proofs.YtgjpchnkodnieaaGreatDoor
namespace Go.Proofs.YtgjpchnkodnieaaGreatDoor
open Go.RowKit Go.Shelf

theorem eg_trans : ∀ args w, (callFunc 61 args).run Tryz.prog w = .ok (.enter 61 args) w := enters_of Tryz.func61 (by kernel_rfl) rfl

set_option maxRecDepth 20000 in
set_option maxHeartbeats 2000000 in
theorem transClo (pk r cd : Nat) (c : Bool) (v : Value) (kd : Option Addr) (dt zs : List Int) (w : World) (hpk : Box w pk c v (.slice kd r cd)) (hr : Row w kd r dt) (ho : orderOk dt r r = true) (hz : zs.length = r) (h5 : r ≤ 5) :
    NumOk 61 #[.pointer (some ⟨pk, 0, none⟩)] (transF dt) zs r w := by
  intro D hD hDl k hk ib W hW hB
  obtain ⟨_, _, k2, _, _, _⟩ := (hpk.below (Nat.le_refl _) hW).all
  obtain ⟨bk, ok, rfl, _, ck⟩ := (hr.below (Nat.le_refl _) hW).get hk
  have hrg := order_range ho k hk
  have hlt := stepOk_lt (order_step ho hk)
  obtain ⟨j, hj⟩ : ∃ j, axNo dt k = j := ⟨_, rfl⟩
  have hdk : dt.getD k 0 = (j : Int) + 1 := by rw [← hj]; unfold axNo; omega
  rw [hj] at hlt
  rw [hdk] at ck
  have cd' := hB.cell (i := j) (by omega)
  obtain ⟨x, hx⟩ : ∃ x, D.getD j 0 = x := ⟨_, rfl⟩
  rw [hx] at cd'
  have HF : Hid (transF dt D k = x) := by show _ = _; unfold transF; rw [hj, hx]
  have hw1 : IntKind.i64.wrap ((j : Int) + 1 - 1) = (j : Int) := by rw [IntKind.wrap_i64]; omega
  rw [hz]
  clear hW hB hD hDl hpk hr ho hz hx hj hdk hrg
  go_enter Tryz.func61, Tryz.ntmps61
  go_wp2_with fail
  go_ret
  exact ⟨ret_int HF.out.symm, Below.refl _ _⟩

set_option maxRecDepth 20000 in
set_option maxHeartbeats 4000000 in
theorem implTranspose_code (c d : Bool) (a1 a2 b1 b2 : Addr) (n1 n2 m1 m2 c1 c2 d1 d2 : Nat) (sh dt sh' dt' : List Int) (w : World) (h1 : Row w (some a1) n1 sh) (h2 : Row w (some a2) n2 dt) (k1 : Row w (some b1) m1 sh') (k2 : Row w (some b2) m2 dt') (r : Int) (hrc : codeList c d sh dt sh' dt' = r) (hr : r ≠ 0) :
    Calls Tryz.prog 15 #[.agg #[.bool c, .slice (some a1) n1 c1, .slice (some a2) n2 c2], .agg #[.bool d, .slice (some b1) m1 d1, .slice (some b2) m2 d2]] w (GivesOwn w (noAns r)) := by
  have HRC := hide hrc
  have hs2 := h2.small
  have hs4 := k2.small
  have hs3 := k1.small
  have H1 := hide h1
  have H2 := hide h2
  have K1 := hide k1
  have K2 := hide k2
  have q : (r != 0) = true := by simp [hr]
  clear h1 h2 k1 k2 hrc hr
  go_enter Tryz.func15, Tryz.ntmps15
  go_wp2_with (first | (go_at_call 57; refine (implListCode_any c d (some a1) (some a2) (some b1) (some b2) n1 n2 m1 m2 c1 c2 d1 d2 sh dt sh' dt' _ ((((unhide H1).alloc _).alloc _).alloc _) ((((unhide H2).alloc _).alloc _).alloc _) ((((unhide K1).alloc _).alloc _).alloc _) ((((unhide K2).alloc _).alloc _).alloc _) _ HRC).mono ?_; rintro e w1 ⟨rfl, hb1⟩; obtain ⟨B0, B1, B2, hB1⟩ := boxes3 hb1; have HB0 := hide B0; have HB1 := hide B1; have HB2 := hide B2; have HB := hide hB1; obtain ⟨x0, x1, x2, x3, x4, x5, x6⟩ := B0.all; obtain ⟨y0, y1, y2, y3, y4, y5, y6⟩ := B1.all; obtain ⟨q0, q1, q2, q3, q4, q5, q6⟩ := B2.all; clear hb1 hB1 B0 B1 B2))
  refine bodyPost_ret (v := .tuple #[.agg #[.bool false, .slice none 0 0, .slice none 0 0], .int .i64 r]) (by simp [results, Tryz.results15, go_sem, q0, q1, q2]) rfl ?_
  exact gives_none ((((unhide HB).setCell (by simp <;> omega) _).setCell (by simp <;> omega) _).setCell (by simp <;> omega) _)

set_option maxRecDepth 20000 in
set_option maxHeartbeats 4000000 in
theorem implTranspose_len (c d : Bool) (a1 a2 b1 b2 : Addr) (n1 n2 m1 m2 c1 c2 d1 d2 : Nat) (sh dt sh' dt' : List Int) (w : World) (h1 : Row w (some a1) n1 sh) (h2 : Row w (some a2) n2 dt) (k1 : Row w (some b1) m1 sh') (k2 : Row w (some b2) m2 dt') (hrc : codeList c d sh dt sh' dt' = 0) (hn : n2 ≠ m1) :
    Calls Tryz.prog 15 #[.agg #[.bool c, .slice (some a1) n1 c1, .slice (some a2) n2 c2], .agg #[.bool d, .slice (some b1) m1 d1, .slice (some b2) m2 d2]] w (GivesOwn w (noAns 5)) := by
  have HRC := hide hrc
  have hs2 := h2.small
  have hs4 := k2.small
  have hs3 := k1.small
  have H1 := hide h1
  have H2 := hide h2
  have K1 := hide k1
  have K2 := hide k2
  have q : ((n2 : Int) != (m1 : Int)) = true := by simp; omega
  clear h1 h2 k1 k2 hrc
  go_enter Tryz.func15, Tryz.ntmps15
  go_wp2_with (first | (go_at_call 57; refine (implListCode_any c d (some a1) (some a2) (some b1) (some b2) n1 n2 m1 m2 c1 c2 d1 d2 sh dt sh' dt' _ ((((unhide H1).alloc _).alloc _).alloc _) ((((unhide H2).alloc _).alloc _).alloc _) ((((unhide K1).alloc _).alloc _).alloc _) ((((unhide K2).alloc _).alloc _).alloc _) _ HRC).mono ?_; rintro e w1 ⟨rfl, hb1⟩; obtain ⟨B0, B1, B2, hB1⟩ := boxes3 hb1; have HB0 := hide B0; have HB1 := hide B1; have HB2 := hide B2; have HB := hide hB1; obtain ⟨x0, x1, x2, x3, x4, x5, x6⟩ := B0.all; obtain ⟨y0, y1, y2, y3, y4, y5, y6⟩ := B1.all; obtain ⟨q0, q1, q2, q3, q4, q5, q6⟩ := B2.all; clear hb1 hB1 B0 B1 B2))
  refine bodyPost_ret (v := .tuple #[.agg #[.bool false, .slice none 0 0, .slice none 0 0], .int .i64 5]) (by simp [results, Tryz.results15, go_sem, q0, q1, q2]) rfl ?_
  exact gives_none ((((unhide HB).setCell (by simp <;> omega) _).setCell (by simp <;> omega) _).setCell (by simp <;> omega) _)

set_option maxRecDepth 20000 in
set_option maxHeartbeats 4000000 in
theorem implTranspose_dom (c d : Bool) (a1 a2 b1 b2 : Addr) (n1 m1 m2 c1 c2 d1 d2 : Nat) (sh dt sh' dt' : List Int) (w : World) (h1 : Row w (some a1) n1 sh) (h2 : Row w (some a2) m1 dt) (k1 : Row w (some b1) m1 sh') (k2 : Row w (some b2) m2 dt') (hrc : codeList c d sh dt sh' dt' = 0) (h5 : m1 ≤ 5) (ho : inTurn (sortedI dt) m1 = false) :
    Calls Tryz.prog 15 #[.agg #[.bool c, .slice (some a1) n1 c1, .slice (some a2) m1 c2], .agg #[.bool d, .slice (some b1) m1 d1, .slice (some b2) m2 d2]] w (GivesOwn w (noAns 3)) := by
  have HRC := hide hrc
  have HOR := hide ho
  have hs2 := h2.small
  have hs4 := k2.small
  have hs3 := k1.small
  have H1 := hide h1
  have H2 := hide h2
  have K1 := hide k1
  have K2 := hide k2
  clear h1 h2 k1 k2 hrc ho
  go_enter Tryz.func15, Tryz.ntmps15
  go_wp2_with (first | (go_at_call 57; refine (implListCode_any c d (some a1) (some a2) (some b1) (some b2) n1 m1 m1 m2 c1 c2 d1 d2 sh dt sh' dt' _ ((((unhide H1).alloc _).alloc _).alloc _) ((((unhide H2).alloc _).alloc _).alloc _) ((((unhide K1).alloc _).alloc _).alloc _) ((((unhide K2).alloc _).alloc _).alloc _) _ HRC).mono ?_; rintro e w1 ⟨rfl, hb1⟩; obtain ⟨B0, B1, B2, hB1⟩ := boxes3 hb1; have HB0 := hide B0; have HB1 := hide B1; have HB2 := hide B2; have HB := hide hB1; obtain ⟨x0, x1, x2, x3, x4, x5, x6⟩ := B0.all; obtain ⟨y0, y1, y2, y3, y4, y5, y6⟩ := B1.all; obtain ⟨q0, q1, q2, q3, q4, q5, q6⟩ := B2.all; clear hb1 hB1 B0 B1 B2) | (go_at_call 58; refine (isOrder_any _ _ _ dt _ ((unhide H2).below (Nat.le_refl _) (unhide HB)) (by omega) _ HOR).mono ?_; rintro e w2 ⟨rfl, hb2⟩; have HB0' := hide ((unhide HB0).below (Nat.le_refl _) hb2); have HB1' := hide ((unhide HB1).below (Nat.le_refl _) hb2); have HB2' := hide ((unhide HB2).below (Nat.le_refl _) hb2); have HC := hide ((unhide HB).trans (hb2.mono (by omega))); clear hb2 x0 x1 x2 x3 x4 x5 x6 y0 y1 y2 y3 y4 y5 y6 q0 q1 q2 q3 q4 q5 q6 HB0 HB1 HB2 HB; obtain ⟨x0, x1, x2, x3, x4, x5, x6⟩ := (unhide HB0').all; obtain ⟨y0, y1, y2, y3, y4, y5, y6⟩ := (unhide HB1').all; obtain ⟨q0, q1, q2, q3, q4, q5, q6⟩ := (unhide HB2').all))
  refine bodyPost_ret (v := .tuple #[.agg #[.bool false, .slice none 0 0, .slice none 0 0], .int .i64 3]) (by simp [results, Tryz.results15, go_sem, q0, q1, q2]) rfl ?_
  exact gives_none ((((unhide HC).setCell (by simp <;> omega) _).setCell (by simp <;> omega) _).setCell (by simp <;> omega) _)

set_option maxRecDepth 20000 in
set_option maxHeartbeats 4000000 in
theorem implTranspose_good (c d : Bool) (a1 a2 b1 b2 : Addr) (n1 m1 m2 c1 c2 d1 d2 : Nat) (sh dt sh' dt' : List Int) (w : World) (h1 : Row w (some a1) n1 sh) (h2 : Row w (some a2) m1 dt) (k1 : Row w (some b1) m1 sh') (k2 : Row w (some b2) m2 dt') (hrc : codeList c d sh dt sh' dt' = 0) (hok' : arrOk d sh' dt' = true) (ho : orderOk dt m1 m1 = true) :
    Calls Tryz.prog 15 #[.agg #[.bool c, .slice (some a1) n1 c1, .slice (some a2) m1 c2], .agg #[.bool d, .slice (some b1) m1 d1, .slice (some b2) m2 d2]] w (GivesOwn w ⟨d, turnN dt sh' m1 m1, vals (gatherAt d sh' dt' (transF dt) (turnN dt sh' m1 m1)) m2, 0⟩) := by
  obtain ⟨hin, hpr, h5⟩ := shapeIn_of hok'
  rw [k2.len] at hpr
  rw [k1.len] at h5
  have hpm := turn_perm (sh := sh') ho h2.len k1.len
  have HPZ : Hid (prodAll (turnN dt sh' m1 m1) = (m2 : Int)) := by rw [prodAll_perm hpm]; exact hpr
  have HIZ := hide (shapeIn_perm hpm.symm hin)
  have HIN := hide hin
  have HPR := hide hpr
  have HORD := hide ho
  have HRC := hide hrc
  have HOR : Hid (inTurn (sortedI dt) m1 = true) := by rw [← order_is h2.len]; exact hide ho
  have hs2 := h2.small
  have hs4 := k2.small
  have hs3 := k1.small
  have H1 := hide h1
  have H2 := hide h2
  have K1 := hide k1
  have K2 := hide k2
  clear h1 h2 k1 k2 hrc ho hin hpr hpm
  go_enter Tryz.func15, Tryz.ntmps15
  go_upto_region 8 with (first | (go_at_call 57; refine (implListCode_any c d (some a1) (some a2) (some b1) (some b2) n1 m1 m1 m2 c1 c2 d1 d2 sh dt sh' dt' _ ((((unhide H1).alloc _).alloc _).alloc _) ((((unhide H2).alloc _).alloc _).alloc _) ((((unhide K1).alloc _).alloc _).alloc _) ((((unhide K2).alloc _).alloc _).alloc _) _ HRC).mono ?_; rintro e w1 ⟨rfl, hb1⟩; obtain ⟨B0, B1, B2, hB1⟩ := boxes3 hb1; have HB0 := hide B0; have HB1 := hide B1; have HB2 := hide B2; have HB := hide hB1; obtain ⟨x0, x1, x2, x3, x4, x5, x6⟩ := B0.all; obtain ⟨y0, y1, y2, y3, y4, y5, y6⟩ := B1.all; obtain ⟨q0, q1, q2, q3, q4, q5, q6⟩ := B2.all; clear hb1 hB1 B0 B1 B2) | (go_at_call 58; refine (isOrder_any _ _ _ dt _ ((unhide H2).below (Nat.le_refl _) (unhide HB)) (by omega) _ HOR).mono ?_; rintro e w2 ⟨rfl, hb2⟩; have HB0' := hide ((unhide HB0).below (Nat.le_refl _) hb2); have HB1' := hide ((unhide HB1).below (Nat.le_refl _) hb2); have HB2' := hide ((unhide HB2).below (Nat.le_refl _) hb2); have HC := hide ((unhide HB).trans (hb2.mono (by omega))); clear hb2 x0 x1 x2 x3 x4 x5 x6 y0 y1 y2 y3 y4 y5 y6 q0 q1 q2 q3 q4 q5 q6 HB0 HB1 HB2 HB; obtain ⟨x0, x1, x2, x3, x4, x5, x6⟩ := (unhide HB0').all; obtain ⟨y0, y1, y2, y3, y4, y5, y6⟩ := (unhide HB1').all; obtain ⟨q0, q1, q2, q3, q4, q5, q6⟩ := (unhide HB2').all))
  obtain ⟨bx, hbx⟩ : ∃ bx, bx = w.heap.size + 1 + 1 := ⟨_, rfl⟩
  obtain ⟨wz, hwz⟩ : ∃ wz, wz = w2 := ⟨_, rfl⟩
  have hzb : bx < wz.heap.size := by rw [hbx, hwz]; exact q6
  have HZ0 : Hid (Box wz w.heap.size c (.slice (some a1) n1 c1) (.slice (some a2) m1 c2)) := by rw [hwz]; exact unhide HB0'
  have HZ1 : Hid (Box wz (w.heap.size + 1) d (.slice (some b1) m1 d1) (.slice (some b2) m2 d2)) := by rw [hwz]; exact unhide HB1'
  have HZ2 : Hid (Box wz bx false (.slice none 0 0) (.slice none 0 0)) := by rw [hwz, hbx]; exact unhide HB2'
  have HBZ : Hid (Below w.heap.size w wz) := by rw [hwz]; exact unhide HC
  have H2Z := hide ((unhide H2).below (Nat.le_refl _) (unhide HBZ))
  have K1Z := hide ((unhide K1).below (Nat.le_refl _) (unhide HBZ))
  have K2Z := hide ((unhide K2).below (Nat.le_refl _) (unhide HBZ))
  rw [← hwz, ← hbx]
  clear hwz HB0' HB1' HB2' HC x0 x1 x2 x3 x4 x5 x6 y0 y1 y2 y3 y4 y5 y6 q0 q1 q2 q3 q4 q5 q6 HRC HOR H1 H2 K1 K2
  obtain ⟨zz, hzz⟩ : ∃ zz, zz = turnN dt sh' m1 m1 := ⟨_, rfl⟩
  have HZL : Hid (zz.length = m1) := by rw [hzz]; exact turnN_len _ _ _ _
  rw [← hzz] at HPZ HIZ ⊢
  have HZZ := hide hzz
  clear hzz
  go_cut [5] (fun v wx => v = .int .i64 0 ∧ Res5 w d zz (vals (gatherAt d sh' dt' (transF dt) zz) m2) m1 m2 bx wx)
  case first =>
    have HKEEP : ∀ wx, But (fun k => k = bx) wz wx → wx.cell? ⟨w.heap.size + 1, 0, none⟩ = some (.bool d) ∧ wx.cell? ⟨w.heap.size + 1, 1, none⟩ = some (.slice (some b1) m1 d1) ∧ wx.cell? ⟨w.heap.size + 1, 2, none⟩ = some (.slice (some b2) m2 d2) ∧ wx.cell? ⟨w.heap.size, 2, none⟩ = some (.slice (some a2) m1 c2) := fun wx hwx => by
      obtain ⟨y0, y1, y2, _, _, _⟩ := (unhide HZ1).all
      exact ⟨(hwx.cellAt (by omega) (by omega)).trans y0, (hwx.cellAt (by omega) (by omega)).trans y1, (hwx.cellAt (by omega) (by omega)).trans y2, (hwx.cellAt (by omega) (by omega)).trans (unhide HZ0).all.2.2.1⟩
    obtain ⟨y0, y1, y2, y3⟩ := HKEEP _ (But.refl _ _)
    obtain ⟨r0, r1, r2, r3, r4, r5, r6⟩ := (unhide HZ2).all
    have hwb : w.heap.size + 1 < bx := by omega
    clear hbx
    go_region_held3 (fun wx => wx.cell? ⟨w.heap.size + 1, 0, none⟩ = some (.bool d) ∧ wx.cell? ⟨w.heap.size + 1, 1, none⟩ = some (.slice (some b1) m1 d1) ∧ wx.cell? ⟨w.heap.size + 1, 2, none⟩ = some (.slice (some b2) m2 d2) ∧ wx.cell? ⟨w.heap.size, 2, none⟩ = some (.slice (some a2) m1 c2)) (first | exact HKEEP _ (But.refl _ _).drew | exact HKEEP _ (But.of_below (unhide HKC)) | exact HKEEP _ (But.of_below (unhide HKG)) | exact HKEEP _ ((((But.of_below (S := fun k => k = bx) (unhide HKG)).setCell (p := ⟨bx, 0, none⟩) rfl _).setCell (p := ⟨bx, 1, none⟩) rfl _).setCell (p := ⟨bx, 2, none⟩) rfl _))
      (first
      | (go_at_call 60; refine (inOrder_any (some b1) (some a2) m1 d1 c2 sh' dt _ ((unhide K1Z).below (Nat.le_refl _) (Below.refl _ wz).drew) ((unhide H2Z).below (Nat.le_refl _) (Below.refl _ wz).drew) h5 (unhide HORD)).mono ?_; rintro e wC ⟨gs, rfl, hgs, hbs, hbC⟩; rw [← unhide HZZ] at hbs; have HKC : Hid (Below wz.heap.size wz wC) := (Below.refl _ wz).drew.trans hbC; have HGS := hide hbs; have HGL : Hid (wz.heap.size ≤ gs) := hgs; clear hgs hbs hbC r0 r1 r2 r3 r4 r5 r6 y0 y1 y2 y3; obtain ⟨y0, y1, y2, y3⟩ := HKEEP _ (But.of_below (unhide HKC)); obtain ⟨r0, r1, r2, r3, r4, r5, r6⟩ := ((unhide HZ2).below (Nat.le_refl _) (unhide HKC)).all)
      | (go_at_call 59; refine (gathered_any d (some b1) (some b2) (some ⟨gs, 0, none⟩) m1 m2 d1 d2 m1 m1 sh' dt' zz 61 _ eg_trans (transF dt) _ m2 ((unhide K1Z).below (Nat.le_refl _) (unhide HKC)) ((unhide K2Z).below (Nat.le_refl _) (unhide HKC)) ((unhide HGS).row (unhide HZL) (by omega)) (unhide HIN) (unhide HIZ) h5 (unhide HPZ) (unhide HPR) (transClo w.heap.size m1 c2 c _ (some a2) dt zz _ ((unhide HZ0).below (Nat.le_refl _) (unhide HKC)) ((unhide H2Z).below (Nat.le_refl _) (unhide HKC)) (unhide HORD) (unhide HZL) h5)).mono ?_; rintro e wG ⟨gd, rfl, hgd, hBG, hbG⟩; have HKG : Hid (Below wz.heap.size wz wG) := (unhide HKC).trans (hbG.mono (unhide HKC).size); have HBG := hide hBG; have HGD := hide hgd; have HGH := hide (unhide HGS).lt; have HOG := hide (((unhide HGS).below (Nat.le_refl _) hbG).own (B := wz.heap.size) (unhide HZL) (by omega) (unhide HGL)); clear hgd hBG hbG r0 r1 r2 r3 r4 r5 r6 y0 y1 y2 y3; obtain ⟨y0, y1, y2, y3⟩ := HKEEP _ (But.of_below (unhide HKG)); obtain ⟨r0, r1, r2, r3, r4, r5, r6⟩ := ((unhide HZ2).below (Nat.le_refl _) (unhide HKG)).all))
    all_goals go_wp2_with fail
    all_goals (go_meet; case rel => exact ⟨rfl, Res5.set ((unhide HZ2).below (Nat.le_refl _) (unhide HKG)) ((unhide HOG).mono (by have := (unhide HBZ).size; omega)) (by have := unhide HGD; have := (unhide HKC).size; have := (unhide HBZ).size; omega) (unhide HBG) (fun h => by have := at_eq h; have := unhide HGD; have := unhide HGH; omega) ((unhide HBZ).trans ((unhide HKG).mono (unhide HBZ).size)) (fun h => by have := at_eq h; have := unhide HGL; omega) (by have := unhide HGD; have := (unhide HKC).size; omega) (by omega)⟩)
  case rest =>
    obtain ⟨w3, hw3⟩ : ∃ x, x = wc := ⟨_, rfl⟩
    subst hw3
    obtain ⟨rfl, ash, csh, gd, hb, hO, hgd, hB, hne, hbl⟩ := hcut
    obtain ⟨q0, q1, q2, q3, q4, q5, q6⟩ := hb.all
    clear hb
    go_wp2_with fail
    refine bodyPost_ret (v := .tuple #[.agg #[.bool d, .slice ash m1 csh, .slice (some ⟨gd, 0, none⟩) m2 m2], .int .i64 0]) (by simp [results, Tryz.results15, go_sem, q0, q1, q2]) rfl ?_
    rw [← unhide HZZ]
    exact gives_res (by simp [vals]) (by omega) hO hgd hB hne hbl

theorem codeListT_bad1 {c d : Bool} {sh dt sh' dt' : List Int} (h : arrOk c sh dt = false) : codeList c d sh dt sh' dt' = 3 := by unfold codeList; rw [if_neg (by simp [h])]
theorem codeListT_bad2 {c d : Bool} {sh dt sh' dt' : List Int} (h : arrOk d sh' dt' = false) : codeList c d sh dt sh' dt' = 3 := by unfold codeList; rw [if_neg (by simp [h])]
theorem codeListT_ok {c d : Bool} {sh dt sh' dt' : List Int} (h : arrOk c sh dt = true) (h' : arrOk d sh' dt' = true) : codeList c d sh dt sh' dt' = listCode c sh.length := by unfold codeList; rw [if_pos ⟨h, h'⟩]

theorem implTranspose_any (c d : Bool) (a1 a2 b1 b2 : Addr) (n1 n2 m1 m2 c1 c2 d1 d2 : Nat) (sh dt sh' dt' : List Int) (w : World) (h1 : Row w (some a1) n1 sh) (h2 : Row w (some a2) n2 dt) (k1 : Row w (some b1) m1 sh') (k2 : Row w (some b2) m2 dt') :
    Calls Tryz.prog 15 #[.agg #[.bool c, .slice (some a1) n1 c1, .slice (some a2) n2 c2], .agg #[.bool d, .slice (some b1) m1 d1, .slice (some b2) m2 d2]] w (GivesOwn w (transpose c d sh dt sh' dt')) := by
  cases hok : arrOk c sh dt with
  | false => rw [transpose_bad1 hok]; exact implTranspose_code c d a1 a2 b1 b2 n1 n2 m1 m2 c1 c2 d1 d2 sh dt sh' dt' w h1 h2 k1 k2 3 (codeListT_bad1 hok) (by omega)
  | true =>
    cases hok' : arrOk d sh' dt' with
    | false => rw [transpose_bad2 hok']; exact implTranspose_code c d a1 a2 b1 b2 n1 n2 m1 m2 c1 c2 d1 d2 sh dt sh' dt' w h1 h2 k1 k2 3 (codeListT_bad2 hok') (by omega)
    | true =>
      have hcl := codeListT_ok hok hok'
      by_cases h0 : listCode c sh.length = 0
      · rw [h0] at hcl
        by_cases hn : n2 = m1
        · subst hn
          have hl : dt.length = sh'.length := by rw [h2.len, k1.len]
          have h5 : n2 ≤ 5 := by rw [← k1.len]; exact (shapeIn_of hok').2.2
          cases ho : orderOk dt sh'.length sh'.length with
          | false =>
            rw [transpose_dom hok hok' h0 hl ho]
            exact implTranspose_dom c d a1 a2 b1 b2 n1 n2 m2 c1 c2 d1 d2 sh dt sh' dt' w h1 h2 k1 k2 hcl h5 (by rw [← order_is h2.len, ← k1.len]; exact ho)
          | true =>
            rw [transpose_go hok hok' h0 hl ho, ← trans_vals hok' ho, k1.len, k2.len]
            exact implTranspose_good c d a1 a2 b1 b2 n1 n2 m2 c1 c2 d1 d2 sh dt sh' dt' w h1 h2 k1 k2 hcl hok' (by rw [← k1.len]; exact ho)
        · rw [transpose_len hok hok' h0 (by rw [h2.len, k1.len]; exact hn)]
          exact implTranspose_len c d a1 a2 b1 b2 n1 n2 m1 m2 c1 c2 d1 d2 sh dt sh' dt' w h1 h2 k1 k2 hcl hn
      · rw [transpose_list hok hok' _ rfl h0]
        exact implTranspose_code c d a1 a2 b1 b2 n1 n2 m1 m2 c1 c2 d1 d2 sh dt sh' dt' w h1 h2 k1 k2 _ hcl h0

end Go.Proofs.YtgjpchnkodnieaaGreatDoor
namespace Go.Proofs
open Go.Shelf
def Tryz.revI_ren : Go.Shelf.Ren := ⟨fun | 112 => 221 | n => n, fun | 28 => 23 | 3 => 3 | 4 => 4 | 0 => 0 | n => n, fun | n => n⟩
theorem Tryz.revI : Go.Proofs.Lays.n112 Tryz.prog Tryz.revI_ren := {
  mixed := by kernel_rfl
  f112 := Tryz.func221.trans (congrArg some (by kernel_rfl))
  t0 := Tryz.underlying0
  a0 := Tryz.isAgg0
  z0 := Tryz.sizeOf0
  v0 := Tryz.zeroValue0
  t3 := Tryz.underlying3
  a3 := Tryz.isAgg3
  z3 := Tryz.sizeOf3
  v3 := Tryz.zeroValue3
  t4 := Tryz.underlying4
  a4 := Tryz.isAgg4
  z4 := Tryz.sizeOf4
  v4 := Tryz.zeroValue4
  t28 := Tryz.underlying23
  a28 := Tryz.isAgg23
  z28 := Tryz.sizeOf23
  v28 := Tryz.zeroValue23 }
end Go.Proofs
namespace Go.Proofs.YtgjpchnkodnieaaGreatDoor

def front (sh : List Int) : List Int := sh.take (sh.length - 1)
def last (sh : List Int) : Int := sh.getD (sh.length - 1) 0

/-- The shape of an array as Catenate takes it beside another. -/
def sideSh (sh sh' : List Int) : List Int := if sh = [] then front sh' ++ [1] else if sh.length + 1 = sh'.length then sh ++ [1] else sh
def sideDt (sh dt sh' : List Int) : List Int := if sh = [] then List.replicate (countOf (sideSh sh sh')).toNat (dt.getD 0 0) else dt

/-- k rows, each of m elements of one list and of n of another. -/
def catN (x y : List Int) (m n : Nat) : Nat → List Int
  | 0 => []
  | k + 1 => catN x y m n k ++ (x.drop (k * m)).take m ++ (y.drop (k * n)).take n

def catenate (c d : Bool) (sh dt sh' dt' : List Int) : Ans :=
  if arrOk c sh dt = true ∧ arrOk d sh' dt' = true then
    if (sideSh sh sh').length ≠ (sideSh sh' sh).length then noAns 4
    else if front (sideSh sh sh') ≠ front (sideSh sh' sh) then noAns 5
    else if c ≠ d ∧ sideDt sh dt sh' ≠ [] ∧ sideDt sh' dt' sh ≠ [] then noAns 3
    else if shapeB (front (sideSh sh sh') ++ [last (sideSh sh sh') + last (sideSh sh' sh)]) = false then noAns 7
    else ⟨if sideDt sh dt sh' = [] ∧ sideDt sh' dt' sh ≠ [] then d else c, front (sideSh sh sh') ++ [last (sideSh sh sh') + last (sideSh sh' sh)],
      catN (sideDt sh dt sh') (sideDt sh' dt' sh) (last (sideSh sh sh')).toNat (last (sideSh sh' sh)).toNat (prodAll (front (sideSh sh sh'))).toNat, 0⟩
  else noAns 3

section
variable {c d : Bool} {sh dt sh' dt' : List Int}
theorem cat_bad1 (h : arrOk c sh dt = false) : catenate c d sh dt sh' dt' = noAns 3 := by unfold catenate; rw [if_neg (by simp [h])]
theorem cat_bad2 (h : arrOk d sh' dt' = false) : catenate c d sh dt sh' dt' = noAns 3 := by unfold catenate; rw [if_neg (by simp [h])]
theorem cat_rank (h1 : arrOk c sh dt = true) (h2 : arrOk d sh' dt' = true) (h : (sideSh sh sh').length ≠ (sideSh sh' sh).length) : catenate c d sh dt sh' dt' = noAns 4 := by
  unfold catenate; rw [if_pos ⟨h1, h2⟩, if_pos h]
variable {L R x y : List Int}
theorem cat_len (h1 : arrOk c sh dt = true) (h2 : arrOk d sh' dt' = true) (hL : sideSh sh sh' = L) (hR : sideSh sh' sh = R) (h : L.length = R.length) (hf : front L ≠ front R) : catenate c d sh dt sh' dt' = noAns 5 := by
  unfold catenate; rw [if_pos ⟨h1, h2⟩, hL, hR, if_neg (by simp [h]), if_pos hf]
theorem cat_dom (h1 : arrOk c sh dt = true) (h2 : arrOk d sh' dt' = true) (hL : sideSh sh sh' = L) (hR : sideSh sh' sh = R) (hx : sideDt sh dt sh' = x) (hy : sideDt sh' dt' sh = y) (h : L.length = R.length) (hf : front L = front R) (hd : c ≠ d ∧ x ≠ [] ∧ y ≠ []) : catenate c d sh dt sh' dt' = noAns 3 := by
  unfold catenate; rw [if_pos ⟨h1, h2⟩, hL, hR, hx, hy, if_neg (by simp [h]), if_neg (by simp [hf]), if_pos hd]
theorem cat_big (h1 : arrOk c sh dt = true) (h2 : arrOk d sh' dt' = true) (hL : sideSh sh sh' = L) (hR : sideSh sh' sh = R) (hx : sideDt sh dt sh' = x) (hy : sideDt sh' dt' sh = y) (h : L.length = R.length) (hf : front L = front R) (hd : ¬ (c ≠ d ∧ x ≠ [] ∧ y ≠ [])) (hz : shapeB (front L ++ [last L + last R]) = false) : catenate c d sh dt sh' dt' = noAns 7 := by
  unfold catenate; rw [if_pos ⟨h1, h2⟩, hL, hR, hx, hy, if_neg (by simp [h]), if_neg (by simp [hf]), if_neg hd, if_pos hz]
theorem cat_go (h1 : arrOk c sh dt = true) (h2 : arrOk d sh' dt' = true) (hL : sideSh sh sh' = L) (hR : sideSh sh' sh = R) (hx : sideDt sh dt sh' = x) (hy : sideDt sh' dt' sh = y) (h : L.length = R.length) (hf : front L = front R) (hd : ¬ (c ≠ d ∧ x ≠ [] ∧ y ≠ [])) (hz : shapeB (front L ++ [last L + last R]) = true) :
    catenate c d sh dt sh' dt' = ⟨if x = [] ∧ y ≠ [] then d else c, front L ++ [last L + last R], catN x y (last L).toNat (last R).toNat (prodAll (front L)).toNat, 0⟩ := by
  unfold catenate; rw [if_pos ⟨h1, h2⟩, hL, hR, hx, hy, if_neg (by simp [h]), if_neg (by simp [hf]), if_neg hd, if_neg (by simp [hz])]
end

theorem shapeIn_snoc1 {l : List Int} (h : ShapeIn l) : ShapeIn (l ++ [1]) := by
  obtain ⟨ha, m, hm⟩ := h
  refine ⟨by rw [List.all_append, ha]; rfl, m, ?_⟩
  have key : ∀ (l : List Int) (n : Int), 1 ≤ n → n ≤ 10000 → l.all inCells = true → ∀ m, prodFrom l n = some m → prodFrom (l ++ [1]) n = some m := by
    intro l
    induction l with
    | nil => intro n h1 h2 _ m hm; simp only [prodFrom] at hm ⊢; simp [prodFrom]; cases hm; omega
    | cons x r ih =>
      intro n h1 h2 hl m hm
      simp only [List.all_cons, Bool.and_eq_true] at hl
      have hx : 0 ≤ x ∧ x ≤ 10000 := by simpa [inCells] using hl.1
      simp only [prodFrom, List.cons_append] at hm ⊢
      by_cases h0 : x = 0
      · rw [if_pos h0] at hm ⊢; exact ih n h1 h2 hl.2 m hm
      · rw [if_neg h0] at hm ⊢
        split at hm
        · cases hm
        · rename_i hle
          rw [if_neg hle]
          have : 1 * 1 ≤ n * x := Int.mul_le_mul h1 (by omega) (by omega) (by omega)
          exact ih _ (by omega) (by omega) hl.2 m hm
  exact key l 1 (by omega) (by omega) ha m hm

theorem front_snoc (l : List Int) (x : Int) : front (l ++ [x]) = l := by simp [front]
theorem last_snoc (l : List Int) (x : Int) : last (l ++ [x]) = x := by simp [last]
theorem front_last {l : List Int} (h : l ≠ []) : l = front l ++ [last l] := by
  have hl : 0 < l.length := List.length_pos_iff.mpr h
  unfold front last
  have := List.take_append_drop (l.length - 1) l
  have e : l.drop (l.length - 1) = [l.getD (l.length - 1) 0] := by
    rw [List.drop_eq_getElem_cons (by omega)]
    simp [List.getD, show l.length - 1 < l.length by omega, show l.length - 1 + 1 = l.length by omega]
  rw [e] at this
  exact this.symm

/-- The array as it is taken has a valid shape. -/
theorem side_in {c d : Bool} {sh dt sh' dt' : List Int} (h1 : arrOk c sh dt = true) (h2 : arrOk d sh' dt' = true) : ShapeIn (sideSh sh sh') ∧ (sideSh sh sh').length ≤ 5 ∧ 0 < (sideSh sh sh').length ∧ prodAll (sideSh sh sh') = (sideDt sh dt sh').length := by
  obtain ⟨i1, p1, l1⟩ := shapeIn_of h1
  obtain ⟨i2, p2, l2⟩ := shapeIn_of h2
  unfold sideDt
  by_cases e : sh = []
  · have hs : sideSh sh sh' = front sh' ++ [1] := by unfold sideSh; rw [if_pos e]
    have hi : ShapeIn (front sh' ++ [1]) := shapeIn_snoc1 (i2.take _)
    have hl : (front sh' ++ [1]).length ≤ 5 := by simp [front]; omega
    rw [if_pos e, hs]
    refine ⟨hi, hl, by simp, ?_⟩
    have hb : shapeB (front sh' ++ [1]) = true := by
      obtain ⟨ha, m, hm⟩ := hi
      exact shape_good (n := (front sh' ++ [1]).length) rfl hl m ha hm
    have hc := prodAll_count _ hb
    have hn := hi.bd.1
    simp
    omega
  · rw [if_neg e]
    unfold sideSh
    rw [if_neg e]
    by_cases e2 : sh.length + 1 = sh'.length
    · rw [if_pos e2]
      refine ⟨shapeIn_snoc1 i1, by simp; omega, by simp, ?_⟩
      rw [prodAll_append, p1]; simp [prodAll]
    · rw [if_neg e2]
      exact ⟨i1, l1, List.length_pos_iff.mpr e, p1⟩

end Go.Proofs.YtgjpchnkodnieaaGreatDoor
namespace Go.Proofs.YtgjpchnkodnieaaGreatDoor
open Go.RowKit

theorem Blk.new (w : World) : Blk (w.alloc (.cells #[] 3)) w.heap.size [] := by
  show (w.heap.push _)[w.heap.size]? = _
  simp

theorem Blk.owns {w : World} {g base : Nat} (h : Blk w g []) (hb : base ≤ g) : w.ownsRow base 3 1 (.slice (some ⟨g, 0, none⟩) 0 0) 0 [] :=
  ⟨by simp, .inr ⟨g, 0, #[], rfl, hb, h, by simp, by unfold maxLen; omega, by simp, by simp⟩⟩

theorem Own.grown {w w1 : World} {B g n : Nat} {a : Option Addr} {zs : List Int} (h : Own w B a n zs) (o : Obj) (hg : (w.alloc o).grownBy w1 (some g)) (hne : ∀ x, At a n x → x ≠ g) : Own w1 B a n zs := by
  refine ⟨h.len, h.small, ?_⟩
  rcases h.at_ with h0 | ⟨b, off, rfl, hb, hlt, hc, hf⟩
  · exact .inl h0
  · by_cases hn : n = 0
    · exact .inl hn
    have hk : w1.heap[b]? = w.heap[b]? := (hg.block b (by simp; omega) (fun e => hne b (at_self hn) (by simpa using e))).trans (Below.heap_alloc w o b hlt)
    refine .inr ⟨b, off, rfl, hb, ?_, fun i hi => (World.cell?_of_block (w := w) (a := ⟨b, off + i, none⟩) hk).trans (hc i hi), fun i hi => (World.frozen?_of_block (w := w) (a := ⟨b, off + i, none⟩) hk).trans (hf i hi)⟩
    rcases Nat.lt_or_ge b w1.heap.size with h1 | h1
    · exact h1
    · rw [Array.getElem?_eq_none h1, Array.getElem?_eq_getElem hlt] at hk; cases hk

/-- A struct of an array is laid whose shape reads as zs and whose numbers are none yet; all of it is new. -/
def Laid (w2 : World) (c : Bool) (m : Nat) (zs : List Int) (r : Value) (wx : World) : Prop :=
  ∃ p g ash csh, r = .pointer (some ⟨p, 0, none⟩) ∧ Box wx p c (.slice ash m csh) (.slice (some ⟨g, 0, none⟩) 0 0) ∧ Blk wx g [] ∧ Own wx w2.heap.size ash m zs ∧ Below w2.heap.size w2 wx ∧ w2.heap.size ≤ p ∧ w2.heap.size ≤ g ∧ ∀ x, At ash m x → x ≠ g

theorem laid_cbz {w2 wA : World} {c : Bool} {m csh : Nat} {zs : List Int} {ash : Option Addr} (hO : Own wA w2.heap.size ash m zs) (hK : Below w2.heap.size w2 wA) : Laid w2 c m zs (.pointer (some ⟨wA.heap.size + 1, 0, none⟩)) ((wA.alloc (.cells #[] 3)).alloc (.cells #[.bool c, .slice ash m csh, .slice (some ⟨wA.heap.size, 0, none⟩) 0 0] 25)) := by
  have hs := hK.size
  refine ⟨wA.heap.size + 1, wA.heap.size, ash, csh, rfl, ?_, (Blk.new wA).alloc _, (hO.alloc _).alloc _, (hK.alloc hs _).alloc (by simp; omega) _, by omega, by omega, fun x hx => by have := hO.row.hi hx; omega⟩
  have := Box.new (wA.alloc (.cells #[] 3)) c (.slice ash m csh) (.slice (some ⟨wA.heap.size, 0, none⟩) 0 0)
  simpa using this

theorem laid_czb {w2 wA : World} {c : Bool} {m csh : Nat} {zs : List Int} {ash : Option Addr} (hO : Own wA w2.heap.size ash m zs) (hK : Below w2.heap.size w2 wA) : Laid w2 c m zs (.pointer (some ⟨wA.heap.size, 0, none⟩)) ((wA.alloc (.cells #[.bool c, .slice ash m csh, .slice (some ⟨wA.heap.size + 1, 0, none⟩) 0 0] 25)).alloc (.cells #[] 3)) := by
  have hs := hK.size
  refine ⟨wA.heap.size, wA.heap.size + 1, ash, csh, rfl, (Box.new _ _ _ _).alloc _, ?_, (hO.alloc _).alloc _, (hK.alloc hs _).alloc (by simp; omega) _, by omega, by omega, fun x hx => by have := hO.row.hi hx; omega⟩
  have := Blk.new (wA.alloc (.cells #[.bool c, .slice ash m csh, .slice (some ⟨wA.heap.size + 1, 0, none⟩) 0 0] 25))
  simpa using this

theorem laid_bcz {w2 wA : World} {c : Bool} {m csh : Nat} {zs : List Int} {ash : Option Addr} {g : Nat} (hO : Own wA w2.heap.size ash m zs) (hK : Below w2.heap.size w2 wA) (hQ : Blk wA g []) (hg : w2.heap.size ≤ g) (hne : ∀ x, At ash m x → x ≠ g) : Laid w2 c m zs (.pointer (some ⟨wA.heap.size, 0, none⟩)) (wA.alloc (.cells #[.bool c, .slice ash m csh, .slice (some ⟨g, 0, none⟩) 0 0] 25)) :=
  ⟨wA.heap.size, g, ash, csh, rfl, Box.new _ _ _ _, hQ.alloc _, hO.alloc _, hK.alloc hK.size _, hK.size, hg, hne⟩

theorem Blk.notBox {w : World} {g p : Nat} {c : Bool} {v1 v2 : Value} (h : Blk w g []) (hb : Box w p c v1 v2) : g ≠ p := by
  rintro rfl
  unfold Blk at h
  unfold Box at hb
  rw [h] at hb
  simp at hb

theorem laid_zc {w2 wA : World} {c : Bool} {m csh : Nat} {zs : List Int} {ash : Option Addr} {g p : Nat} {c' : Bool} {a1 a2 : Option Addr} {l1 l2 k1 k2 : Nat} (hO : Own wA w2.heap.size ash m zs) (hK : Below w2.heap.size w2 wA) (hP : Box wA p c' (.slice a1 l1 k1) (.slice a2 l2 k2)) (hp : w2.heap.size ≤ p) (hQ : Blk wA g []) (hg : w2.heap.size ≤ g) (hne : ∀ x, At ash m x → x ≠ g) :
    Laid w2 c m zs (.pointer (some ⟨p, 0, none⟩)) (((wA.setCell ⟨p, 0, none⟩ (.bool c)).setCell ⟨p, 1, none⟩ (.slice ash m csh)).setCell ⟨p, 2, none⟩ (.slice (some ⟨g, 0, none⟩) 0 0)) := by
  have hn : ∀ x, At ash m x → x ≠ p := fun x hx => hO.row.notBox hP hx
  have hgp := hQ.notBox hP
  exact ⟨p, g, ash, csh, rfl, hP.sets, ((hQ.other hgp _).other hgp _).other hgp _, ((hO.other hn _).other hn _).other hn _, ((hK.setCell hp _).setCell hp _).setCell hp _, hp, hg, hne⟩

theorem laid_zcb {w2 wA : World} {c : Bool} {m csh : Nat} {zs : List Int} {ash : Option Addr} {p : Nat} {c' : Bool} {a1 a2 : Option Addr} {l1 l2 k1 k2 : Nat} (hO : Own wA w2.heap.size ash m zs) (hK : Below w2.heap.size w2 wA) (hP : Box wA p c' (.slice a1 l1 k1) (.slice a2 l2 k2)) (hp : w2.heap.size ≤ p) :
    Laid w2 c m zs (.pointer (some ⟨p, 0, none⟩)) ((((wA.setCell ⟨p, 0, none⟩ (.bool c)).setCell ⟨p, 1, none⟩ (.slice ash m csh)).setCell ⟨p, 2, none⟩ (.slice (some ⟨wA.heap.size, 0, none⟩) 0 0)).alloc (.cells #[] 3)) := by
  have hn : ∀ x, At ash m x → x ≠ p := fun x hx => hO.row.notBox hP hx
  refine ⟨p, wA.heap.size, ash, csh, rfl, hP.sets.alloc _, ?_, (((hO.other hn _).other hn _).other hn _).alloc _, (((hK.setCell hp _).setCell hp _).setCell hp _).alloc (by simpa using hK.size) _, hp, hK.size, fun x hx => by have := hO.row.hi hx; omega⟩
  have := Blk.new (((wA.setCell ⟨p, 0, none⟩ (.bool c)).setCell ⟨p, 1, none⟩ (.slice ash m csh)).setCell ⟨p, 2, none⟩ (.slice (some ⟨wA.heap.size, 0, none⟩) 0 0))
  simpa using this

end Go.Proofs.YtgjpchnkodnieaaGreatDoor
namespace Go.Proofs.YtgjpchnkodnieaaGreatDoor
open Go.RowKit

/-- k elements have been gathered into the array in box p. -/
structure Stage (w2 : World) (p : Nat) (c : Bool) (ash : Option Addr) (m csh : Nat) (zs : List Int) (f : Nat → Int × Int) (k : Nat) (wr : World) (g cap : Nat) : Prop where
  box : Box wr p c (.slice ash m csh) (.slice (some ⟨g, 0, none⟩) k cap)
  owns : wr.ownsRow w2.heap.size 3 1 (.slice (some ⟨g, 0, none⟩) k cap) k ((vals f k).map (Value.int .i64))
  own : Own wr w2.heap.size ash m zs
  ne : ∀ x, At ash m x → x ≠ g
  low : Below w2.heap.size w2 wr
  code : firstCode f k = 0
  place : w2.heap.size ≤ p

theorem Stage.start {w2 wx : World} {p g : Nat} {c : Bool} {ash : Option Addr} {m csh : Nat} {zs : List Int} (f : Nat → Int × Int) (h1 : Box wx p c (.slice ash m csh) (.slice (some ⟨g, 0, none⟩) 0 0)) (h2 : Blk wx g []) (h3 : Own wx w2.heap.size ash m zs) (h4 : Below w2.heap.size w2 wx) (h7 : w2.heap.size ≤ p) (h5 : w2.heap.size ≤ g) (h6 : ∀ x, At ash m x → x ≠ g) : Stage w2 p c ash m csh zs f 0 wx g 0 :=
  ⟨h1, h2.owns h5, h3, h6, h4, rfl, h7⟩

theorem Stage.below {w2 wr w5 : World} {p g cap k : Nat} {c : Bool} {ash : Option Addr} {m csh : Nat} {zs : List Int} {f : Nat → Int × Int} (h : Stage w2 p c ash m csh zs f k wr g cap) (hb : Below wr.heap.size wr w5) : Stage w2 p c ash m csh zs f k w5 g cap :=
  ⟨h.box.below (Nat.le_refl _) hb, owns_below h.owns (Nat.le_refl _) hb, h.own.below (Nat.le_refl _) hb, h.ne, h.low.trans (hb.mono h.low.size), h.code, h.place⟩

theorem Stage.drew {w2 wr : World} {p g cap k : Nat} {c : Bool} {ash : Option Addr} {m csh : Nat} {zs : List Int} {f : Nat → Int × Int} (h : Stage w2 p c ash m csh zs f k wr g cap) : Stage w2 p c ash m csh zs f k wr.drew g cap := h.below (Below.refl _ _).drew

theorem Stage.push {w2 w5 w6 : World} {p g g' cap cap' k : Nat} {c : Bool} {ash : Option Addr} {m csh : Nat} {zs : List Int} {f : Nat → Int × Int} {r1 : Int} (o : Obj) (h : Stage w2 p c ash m csh zs f k w5 g cap) (hf : f k = (r1, 0))
    (hown : w6.ownsRow w2.heap.size 3 1 (.slice (some ⟨g', 0, none⟩) (k + 1) cap') (k + 1) ((vals f k).map (Value.int .i64) ++ [.int .i64 r1])) (hg : (w5.alloc o).grownBy w6 (Value.ownBlock (.slice (some ⟨g, 0, none⟩) k cap))) (hat : Value.ownBlock (.slice (some ⟨g, 0, none⟩) k cap) = some g' ∨ g' = w5.heap.size + 1) :
    Box w6 p c (.slice ash m csh) (.slice (some ⟨g, 0, none⟩) k cap) ∧ Stage w2 p c ash m csh zs f (k + 1) (w6.setCell ⟨p, 2, none⟩ (.slice (some ⟨g', 0, none⟩) (k + 1) cap')) g' cap' := by
  have hb6 := h.box.grown h.owns o hg
  have hg' : (w5.alloc o).grownBy w6 (some g) := hg
  have ho6 := h.own.grown o hg' h.ne
  have hlow := h.low.trans (below_append o h.owns h.low.size hg)
  have hne' : ∀ x, At ash m x → x ≠ g' := by
    intro x hx
    rcases hat with e | e
    · have e' : g = g' := by simpa [Value.ownBlock] using e
      rw [← e']; exact h.ne x hx
    · have := h.own.row.hi hx; omega
  refine ⟨hb6, hb6.set2 _, ?_, ho6.other (fun x hx => ho6.row.notBox hb6 hx) _, hne', hlow.setCell h.place _, code_step h.code (by rw [hf]), h.place⟩
  · rw [vals_snoc, hf]
    exact owns_box_set hown hb6 _ _

end Go.Proofs.YtgjpchnkodnieaaGreatDoor
namespace Go.Proofs.YtgjpchnkodnieaaGreatDoor
open Go.RowKit

section
variable {P : Program} (w : World)

/-- append of whatever number of elements to a slice that is there. -/
theorem run_append_some (t ty : TypeId) (base : Nat) (e : TypeId) (i : TypeInfo) (z : Value) (size bytes : Nat) (ht : P.underlying t = some (.slice e)) (hi : P.info? e = some i) (hz : i.zero = some z)
    (hsize : i.size = size) (hby : i.bytes = bytes) (hzs : z.cells.size = size) (hsz : 0 < size)
    (g0 n cap0 : Nat) (xs : List Value) (hown : w.ownsRow base e size (.slice (some ⟨g0, 0, none⟩) n cap0) n xs)
    (ad : Addr) (m c : Nat) (news : List Value) (hl : news.length = m * size) (hnews : ∀ j u, news[j]? = some u → w.cell? (ad.add j) = some u) (h1 : ∀ u ∈ news, u.oneCell' = true)
    (h63 : n + m ≤ maxLen) (hbytes : (n + m) * bytes ≤ 140737488355328) (hbase : base ≤ w.heap.size) :
    ∃ g cap w', (Builtin.append_ #[t, t] ty #[.slice (some ⟨g0, 0, none⟩) n cap0, .slice (some ad) m c]).run P w = .ok (.slice (some ⟨g, 0, none⟩) (n + m) cap) w' ∧
      w'.ownsRow base e size (.slice (some ⟨g, 0, none⟩) (n + m) cap) (n + m) (xs ++ news) ∧ w.grownBy w' (some g0) ∧ (g = g0 ∨ g = w.heap.size) := by
  obtain ⟨v', w', hr, h2, h3, h4, h5⟩ := run_append_own_at (P := P) w base t ty e i z size bytes ht hi hz hsize hby hzs hsz _ n xs hown ad m c news hl hnews h1 h63 hbytes hbase
  have hf : ∃ g cap, v' = .slice (some ⟨g, 0, none⟩) (n + m) cap := by
    rcases h2.2 with ⟨e0, e1⟩ | ⟨g, cap, cur, hv, _⟩
    · exact absurd (h4.1 e0).1 (by simp)
    · exact ⟨g, cap, hv⟩
  obtain ⟨g, cap, rfl⟩ := hf
  refine ⟨g, cap, w', hr, h2, h3, ?_⟩
  rcases h5 with h5 | h5
  · left; simpa [Value.ownBlock] using h5
  · right; simpa [Value.ownBlock] using h5

theorem wp_append_some {o : Oper} {a : Act} {K : Act → World → Prop} {Q : Exit → Act → World → Prop} (s x : Operand) (t : TypeId)
    (ho : o.op = .call { callee := .builtin .append, args := #[s, x], argTypes := #[t, t] })
    (base : Nat) (e : TypeId) (i : TypeInfo) (z : Value) (size bytes : Nat) (ht : P.underlying t = some (.slice e)) (hi : P.info? e = some i) (hz : i.zero = some z)
    (hsize : i.size = size) (hby : i.bytes = bytes) (hzs : z.cells.size = size) (hsz : 0 < size)
    (g0 n cap0 : Nat) (xs : List Value) (hs : a.eval s = .slice (some ⟨g0, 0, none⟩) n cap0) (hown : w.ownsRow base e size (.slice (some ⟨g0, 0, none⟩) n cap0) n xs)
    (ad : Addr) (m c : Nat) (news : List Value) (hx : a.eval x = .slice (some ad) m c) (hl : news.length = m * size) (hnews : ∀ j u, news[j]? = some u → w.cell? (ad.add j) = some u) (h1 : ∀ u ∈ news, u.oneCell' = true)
    (h63 : n + m ≤ maxLen) (hbytes : (n + m) * bytes ≤ 140737488355328) (hbase : base ≤ w.heap.size)
    (h : ∀ g cap w', w'.ownsRow base e size (.slice (some ⟨g, 0, none⟩) (n + m) cap) (n + m) (xs ++ news) → w.grownBy w' (some g0) → (g = g0 ∨ g = w.heap.size) → K (a.put o.dst (.slice (some ⟨g, 0, none⟩) (n + m) cap)) w') : o.wp P a w K Q := by
  obtain ⟨g, cap, w', hr, h2, h3, h4⟩ := run_append_some (P := P) w t o.type base e i z size bytes ht hi hz hsize hby hzs hsz g0 n cap0 xs hown ad m c news hl hnews h1 h63 hbytes hbase
  unfold Oper.wp execOp
  simp only [ho, resolve, invoke, builtin, Sem.run_bind, Sem.run_pure, Result.andThen_ok, List.map_toArray, List.map_cons, List.map_nil, hs, hx, hr]
  exact h g cap w' h2 h3 h4

theorem step_append_some {ops : Array Oper} {o : Oper} {a : Act} {K : Act → World → Prop} {Q : Exit → Act → World → Prop} {E : Prop} (hgd : o.guard = none) (s x : Operand) (t : TypeId)
    (ho : o.op = .call { callee := .builtin .append, args := #[s, x], argTypes := #[t, t] })
    (base : Nat) (e : TypeId) (i : TypeInfo) (z : Value) (size bytes : Nat) (ht : P.underlying t = some (.slice e)) (hi : P.info? e = some i) (hz : i.zero = some z)
    (hsize : i.size = size) (hby : i.bytes = bytes) (hzs : z.cells.size = size) (hsz : 0 < size)
    (g0 n cap0 : Nat) (xs : List Value) (hs : a.eval s = .slice (some ⟨g0, 0, none⟩) n cap0) (hown : w.ownsRow base e size (.slice (some ⟨g0, 0, none⟩) n cap0) n xs)
    (ad : Addr) (m c : Nat) (news : List Value) (hx : a.eval x = .slice (some ad) m c) (hl : news.length = m * size) (hnews : ∀ j u, news[j]? = some u → w.cell? (ad.add j) = some u) (h1 : ∀ u ∈ news, u.oneCell' = true)
    (h63 : n + m ≤ maxLen) (hbytes : (n + m) * bytes ≤ 140737488355328) (hbase : base ≤ w.heap.size)
    (h : ∀ g cap w', w'.ownsRow base e size (.slice (some ⟨g, 0, none⟩) (n + m) cap) (n + m) (xs ++ news) → w.grownBy w' (some g0) → (g = g0 ∨ g = w.heap.size) → K (a.put o.dst (.slice (some ⟨g, 0, none⟩) (n + m) cap)) w') :
    if Region.wanted o (yielded ops a.tmps) = true then Oper.wp P o a w K Q else E := by
  have hw : Region.wanted o (yielded ops a.tmps) = true := by simp [Region.wanted, hgd]
  rw [if_pos hw]
  exact wp_append_some w s x t ho base e i z size bytes ht hi hz hsize hby hzs hsz g0 n cap0 xs hs hown ad m c news hx hl hnews h1 h63 hbytes hbase h

end

theorem Box.grown0 {w w1 : World} {p base n g cap : Nat} {c : Bool} {v1 v2 : Value} {xs : List Value} (h : Box w p c v1 v2) (hown : w.ownsRow base 3 1 (.slice (some ⟨g, 0, none⟩) n cap) n xs) (hg : w.grownBy w1 (some g)) : Box w1 p c v1 v2 := by
  refine (hg.block p h.lt ?_).trans h
  rcases hown.2 with ⟨e, _⟩ | ⟨g', cap', cur, e, _, hh, _⟩
  · cases e
  · cases e
    intro e
    cases e
    unfold Box at h
    rw [h] at hh
    have := congrArg (fun o => match o with | some (.cells _ t _) => t | _ => 0) hh
    simp at this

theorem Own.grown0 {w w1 : World} {B g n : Nat} {a : Option Addr} {zs : List Int} (h : Own w B a n zs) (hg : w.grownBy w1 (some g)) (hne : ∀ x, At a n x → x ≠ g) : Own w1 B a n zs := by
  refine ⟨h.len, h.small, ?_⟩
  rcases h.at_ with h0 | ⟨b, off, rfl, hb, hlt, hc, hf⟩
  · exact .inl h0
  · by_cases hn : n = 0
    · exact .inl hn
    have hk : w1.heap[b]? = w.heap[b]? := hg.block b hlt (fun e => hne b (at_self hn) (by simpa using e))
    refine .inr ⟨b, off, rfl, hb, Nat.lt_of_lt_of_le hlt hg.size, fun i hi => ?_, fun i hi => ?_⟩
    · exact (World.cell?_of_block hk).trans (hc i hi)
    · exact (World.frozen?_of_block hk).trans (hf i hi)

/-- An array in box p, its elements so far l. -/
structure Gat (w2 : World) (p : Nat) (c : Bool) (ash : Option Addr) (m csh : Nat) (zs l : List Int) (n : Nat) (wr : World) (g cap : Nat) : Prop where
  box : Box wr p c (.slice ash m csh) (.slice (some ⟨g, 0, none⟩) n cap)
  owns : wr.ownsRow w2.heap.size 3 1 (.slice (some ⟨g, 0, none⟩) n cap) n (l.map (Value.int .i64))
  own : Own wr w2.heap.size ash m zs
  ne : ∀ x, At ash m x → x ≠ g
  low : Below w2.heap.size w2 wr
  place : w2.heap.size ≤ p

theorem Gat.len {w2 wr : World} {p g cap n : Nat} {c : Bool} {ash : Option Addr} {m csh : Nat} {zs l : List Int} (h : Gat w2 p c ash m csh zs l n wr g cap) : l.length = n := by
  have := h.owns.1
  simpa using this

theorem Gat.drew {w2 wr : World} {p g cap n : Nat} {c : Bool} {ash : Option Addr} {m csh : Nat} {zs l : List Int} (h : Gat w2 p c ash m csh zs l n wr g cap) : Gat w2 p c ash m csh zs l n wr.drew g cap :=
  have hb : Below wr.heap.size wr wr.drew := (Below.refl _ _).drew
  ⟨h.box.below (Nat.le_refl _) hb, owns_below h.owns (Nat.le_refl _) hb, h.own.below (Nat.le_refl _) hb, h.ne, h.low.trans (hb.mono h.low.size), h.place⟩

theorem Gat.push {w2 w5 w6 : World} {p g g' cap cap' n k : Nat} {c : Bool} {ash : Option Addr} {m csh : Nat} {zs l r : List Int} (h : Gat w2 p c ash m csh zs l n w5 g cap)
    (hown : w6.ownsRow w2.heap.size 3 1 (.slice (some ⟨g', 0, none⟩) (n + k) cap') (n + k) (l.map (Value.int .i64) ++ r.map (Value.int .i64))) (hg : w5.grownBy w6 (some g)) (hat : g' = g ∨ g' = w5.heap.size) :
    (Box w6 p c (.slice ash m csh) (.slice (some ⟨g, 0, none⟩) n cap) ∧ Below w2.heap.size w2 w6) ∧ Gat w2 p c ash m csh zs (l ++ r) (n + k) (w6.setCell ⟨p, 2, none⟩ (.slice (some ⟨g', 0, none⟩) (n + k) cap')) g' cap' := by
  have hb6 := h.box.grown0 h.owns hg
  have ho6 := h.own.grown0 hg h.ne
  have hge : w2.heap.size ≤ g := by
    rcases h.owns.2 with ⟨e, _⟩ | ⟨g1, _, _, e, hb, _⟩
    · cases e
    · cases e; exact hb
  have hlow : Below w2.heap.size w2 w6 := h.low.grown hg h.low.size (by intro k hk; cases hk; exact hge)
  have hne' : ∀ x, At ash m x → x ≠ g' := by
    intro x hx
    rcases hat with e | e
    · rw [e]; exact h.ne x hx
    · have := h.own.row.hi hx; omega
  refine ⟨⟨hb6, hlow⟩, hb6.set2 _, ?_, ho6.other (fun x hx => ho6.row.notBox hb6 hx) _, hne', hlow.setCell h.place _, h.place⟩
  rw [List.map_append]
  exact owns_box_set hown hb6 _ _

theorem addr_plus (b o k : Nat) : (⟨b, o, none⟩ : Addr).add k = ⟨b, o + k, none⟩ := by
  unfold Addr.add
  split
  · simp
  · rfl

/-- What a statement reads that appends to the array's elements. -/
theorem holds_of {wx : World} {p b : Nat} {c d : Bool} {v1 v2 u1 u2 : Value} (h : Box wx p c v1 v2) (hb : Box wx b d u1 u2) : wx.cell? ⟨p, 2, none⟩ = some v2 ∧ wx.cell? ⟨b, 2, none⟩ = some u2 ∧ wx.frozen? ⟨p, 2, none⟩ = false := by
  obtain ⟨x0, x1, x2, x3, x4, x5, x6⟩ := h.all
  exact ⟨x2, hb.cells.2.2, by assumption⟩

theorem Gat.holds {w2 wr : World} {p g cap n b : Nat} {c d : Bool} {ash : Option Addr} {m csh : Nat} {zs l : List Int} {u1 u2 : Value} (h : Gat w2 p c ash m csh zs l n wr g cap) (hb : Box wr b d u1 u2) : wr.cell? ⟨p, 2, none⟩ = some (.slice (some ⟨g, 0, none⟩) n cap) ∧ wr.cell? ⟨b, 2, none⟩ = some u2 ∧ wr.frozen? ⟨p, 2, none⟩ = false := holds_of h.box hb

theorem Gat.grew {w2 w5 w6 : World} {p g cap n : Nat} {c : Bool} {ash : Option Addr} {m csh : Nat} {zs l : List Int} (h : Gat w2 p c ash m csh zs l n w5 g cap) (hg : w5.grownBy w6 (some g)) :
    Box w6 p c (.slice ash m csh) (.slice (some ⟨g, 0, none⟩) n cap) ∧ Below w2.heap.size w2 w6 := by
  have hge : w2.heap.size ≤ g := by
    rcases h.owns.2 with ⟨e, _⟩ | ⟨g1, _, _, e, hb, _⟩
    · cases e
    · cases e; exact hb
  exact ⟨h.box.grown0 h.owns hg, h.low.grown hg h.low.size (by intro k hk; cases hk; exact hge)⟩

/-- The cells of a piece of a row. -/
theorem sub_cells {w : World} {a : Addr} {n u m : Nat} {zs : List Int} (h : Row w (some a) n zs) (hu : u + m ≤ n) : ∀ (j : Nat) v, (((zs.drop u).take m).map (Value.int .i64))[j]? = some v → w.cell? ((a.add u).add j) = some v := by
  intro j v hj
  have hlen := h.len
  have hjm : j < m := by
    rcases Nat.lt_or_ge j m with h' | h'
    · exact h'
    · rw [List.getElem?_eq_none (by simp; omega)] at hj; cases hj
  obtain ⟨b, o, e, _, _⟩ := h.get (show 0 < n by omega)
  cases e
  have hc := cells_ints h (u + j) v (by
    rw [← hj]
    simp only [List.getElem?_map, List.getElem?_take_of_lt hjm, List.getElem?_drop])
  rw [addr_plus] at hc
  rw [addr_plus, addr_plus, Nat.add_assoc]
  exact hc

theorem sub_cells' {w : World} {a A : Addr} {n u m e : Nat} {zs : List Int} (hA : (if e = u then some a else some (a.add u)) = some A) (h : Row w (some a) n zs) (hu : u + m ≤ n) (hn : n ≤ e) : ∀ (j : Nat) v, (((zs.drop u).take m).map (Value.int .i64))[j]? = some v → w.cell? (A.add j) = some v := by
  by_cases he : e = u
  · intro j v hj
    have : m = 0 := by omega
    subst this
    simp at hj
  · rw [if_neg he] at hA
    cases hA
    exact sub_cells h hu

theorem sub_len {n u m : Nat} {zs : List Int} (h : zs.length = n) (hu : u + m ≤ n) : (((zs.drop u).take m).map (Value.int .i64)).length = m * 1 := by
  simp; omega

theorem cat_bounds {k B x y p q n : Nat} (hk : k < B) (hp : B * x = p) (hq : B * y = q) (hn : n ≤ k * (x + y)) : k * x + x ≤ p ∧ k * y + y ≤ q ∧ n + x + y ≤ p + q := by
  have h1 : (k + 1) * x ≤ B * x := Nat.mul_le_mul_right _ hk
  have h2 : (k + 1) * y ≤ B * y := Nat.mul_le_mul_right _ hk
  rw [Nat.add_mul, Nat.one_mul] at h1 h2
  rw [Nat.mul_add] at hn
  omega

theorem cat_next {k x y n : Nat} (hn : n ≤ k * (x + y)) : n + x + y ≤ (k + 1) * (x + y) := by
  rw [Nat.add_mul, Nat.one_mul]; omega

end Go.Proofs.YtgjpchnkodnieaaGreatDoor
namespace Go.Proofs.YtgjpchnkodnieaaGreatDoor
open Go.RowKit

/-- A list of the call's own, made since W, that grows by appends. -/
structure Ch (W V : World) (g cap n : Nat) (zs : List Int) : Prop where
  own : V.ownsRow W.heap.size 3 1 (.slice (some ⟨g, 0, none⟩) n cap) n (zs.map (Value.int .i64))
  low : Below W.heap.size W V

section
variable {W V : World} {g cap n : Nat} {zs : List Int}
theorem Ch.start (hB : Below W.heap.size W V) (hg : g = V.heap.size) : Ch W (V.alloc (.cells #[] 3)) g 0 0 [] := by
  subst hg
  exact ⟨owns_mono (owns_empty V) hB.size, hB.alloc hB.size _⟩
theorem Ch.alloc (h : Ch W V g cap n zs) (o : Obj) : Ch W (V.alloc o) g cap n zs := ⟨owns_below h.own (Nat.le_refl _) ((Below.refl _ _).alloc (Nat.le_refl _) _), h.low.alloc h.low.size _⟩
theorem Ch.drew (h : Ch W V g cap n zs) : Ch W V.drew g cap n zs := ⟨owns_below h.own (Nat.le_refl _) (Below.refl _ _).drew, h.low.drew⟩
theorem Ch.row (h : Ch W V g cap n zs) (hs : n ≤ 17592186044416) : Row V (some ⟨g, 0, none⟩) n zs := by
  obtain ⟨a, c, e, ho⟩ := Own.of_owns h.own hs
  cases e
  exact ho.row

theorem step_append_ch {P : Program} (hP : P = Tryz.prog) {ops : Array Oper} {o : Oper} {a : Act} {K : Act → World → Prop} {Q : Exit → Act → World → Prop} {E : Prop} (hgd : o.guard = none) (s x : Operand)
    (ho : o.op = .call { callee := .builtin .append, args := #[s, x], argTypes := #[23, 23] })
    (hC : Ch W V g cap n zs) (hs : a.eval s = .slice (some ⟨g, 0, none⟩) n cap) (ad : Addr) (m c : Nat) (ys : List Int) (hr : Row W (some ad) m ys) (hx : a.eval x = .slice (some ad) m c) (N : Nat) (hN : n + m = N) (hb : N ≤ 20000)
    (h : ∀ g' cap' V', Ch W V' g' cap' N (zs ++ ys) → (∀ p c v1 v2, Box V p c v1 v2 → Box V' p c v1 v2) → K (a.put o.dst (.slice (some ⟨g', 0, none⟩) N cap')) V') :
    if Region.wanted o (yielded ops a.tmps) = true then Oper.wp P o a V K Q else E := by
  subst hP hN
  obtain ⟨i0, hi, hz0, hz1, hz2⟩ := info_parts info_int
  have hl := hr.len
  have hr' := hr.below (Nat.le_refl _) hC.low
  refine step_append_some _ hgd s x 23 ho W.heap.size 3 i0 (.int .i64 0) 1 8 Tryz.underlying23 hi hz0 hz1 hz2 rfl (by decide) g n cap (zs.map (Value.int .i64)) hs hC.own ad m c (ys.map (Value.int .i64)) hx (by simpa using hl) (cells_ints hr') (one_ints ys) (by unfold maxLen; omega) (by omega) hC.low.size ?_
  intro g' cap' V' hown hgrow _
  have hge : W.heap.size ≤ g := by
    rcases hC.own.2 with ⟨e, _⟩ | ⟨g', c', cur, e, hg, _⟩
    · cases e
    · cases e; exact hg
  exact h g' cap' V' ⟨by rw [List.map_append]; exact hown, hC.low.grown hgrow hC.low.size (by intro k hk; cases hk; exact hge)⟩ (fun p c v1 v2 hbx => hbx.grown0 hC.own hgrow)
end

end Go.Proofs.YtgjpchnkodnieaaGreatDoor
namespace Go.Proofs.YtgjpchnkodnieaaGreatDoor
open Go.RowKit

theorem wpList_append_some {P : Program} {w : World} {ops : Array Oper} {rest : List Oper} {o : Oper} {a : Act} {Q : Exit → Act → World → Prop} (hgd : o.guard = none) (s x : Operand) (t : TypeId)
    (ho : o.op = .call { callee := .builtin .append, args := #[s, x], argTypes := #[t, t] })
    (base : Nat) (e : TypeId) (i : TypeInfo) (z : Value) (size bytes : Nat) (ht : P.underlying t = some (.slice e)) (hi : P.info? e = some i) (hz : i.zero = some z)
    (hsize : i.size = size) (hby : i.bytes = bytes) (hzs : z.cells.size = size) (hsz : 0 < size)
    (g0 n cap0 : Nat) (xs : List Value) (hs : a.eval s = .slice (some ⟨g0, 0, none⟩) n cap0) (hown : w.ownsRow base e size (.slice (some ⟨g0, 0, none⟩) n cap0) n xs)
    (ad : Addr) (m c : Nat) (news : List Value) (hx : a.eval x = .slice (some ad) m c) (hl : news.length = m * size) (hnews : ∀ j u, news[j]? = some u → w.cell? (ad.add j) = some u) (h1 : ∀ u ∈ news, u.oneCell' = true)
    (h63 : n + m ≤ maxLen) (hbytes : (n + m) * bytes ≤ 140737488355328) (hbase : base ≤ w.heap.size)
    (h : ∀ g cap w', w'.ownsRow base e size (.slice (some ⟨g, 0, none⟩) (n + m) cap) (n + m) (xs ++ news) → w.grownBy w' (some g0) → (g = g0 ∨ g = w.heap.size) → wpList P ops Q rest (a.put o.dst (.slice (some ⟨g, 0, none⟩) (n + m) cap)) w') : wpList P ops Q (o :: rest) a w :=
  wpList_plain hgd fun _ hK => wp_append_some w s x t ho base e i z size bytes ht hi hz hsize hby hzs hsz g0 n cap0 xs hs hown ad m c news hx hl hnews h1 h63 hbytes hbase fun g cap w' h2 h3 h4 => hK _ _ (h g cap w' h2 h3 h4)

end Go.Proofs.YtgjpchnkodnieaaGreatDoor
namespace Go.Proofs.YtgjpchnkodnieaaGreatDoor
open Go.RowKit

theorem wpList_append_ch {W V : World} {g cap n : Nat} {zs : List Int} {ops : Array Oper} {rest : List Oper} {o : Oper} {a : Act} {Q : Exit → Act → World → Prop} (hgd : o.guard = none) (s x : Operand)
    (ho : o.op = .call { callee := .builtin .append, args := #[s, x], argTypes := #[23, 23] })
    (hC : Ch W V g cap n zs) (hs : a.eval s = .slice (some ⟨g, 0, none⟩) n cap) (ad : Addr) (m c : Nat) (ys : List Int) (hr : Row V (some ad) m ys) (hx : a.eval x = .slice (some ad) m c) (N : Nat) (hN : n + m = N) (hb : N ≤ 20000)
    (h : ∀ g' cap' V', Ch W V' g' cap' N (zs ++ ys) → (∀ p c v1 v2, Box V p c v1 v2 → Box V' p c v1 v2) → wpList Tryz.prog ops Q rest (a.put o.dst (.slice (some ⟨g', 0, none⟩) N cap')) V') :
    wpList Tryz.prog ops Q (o :: rest) a V := by
  subst hN
  obtain ⟨i0, hi, hz0, hz1, hz2⟩ := info_parts info_int
  have hl := hr.len
  refine wpList_append_some hgd s x 23 ho W.heap.size 3 i0 (.int .i64 0) 1 8 Tryz.underlying23 hi hz0 hz1 hz2 rfl (by decide) g n cap (zs.map (Value.int .i64)) hs hC.own ad m c (ys.map (Value.int .i64)) hx (by simpa using hl) (cells_ints hr) (one_ints ys) (by unfold maxLen; omega) (by omega) hC.low.size ?_
  intro g' cap' V' hown hgrow _
  have hge : W.heap.size ≤ g := by
    rcases hC.own.2 with ⟨e, _⟩ | ⟨g', c', cur, e, hg, _⟩
    · cases e
    · cases e; exact hg
  exact h g' cap' V' ⟨by rw [List.map_append]; exact hown, hC.low.grown hgrow hC.low.size (by intro k hk; cases hk; exact hge)⟩ (fun p c v1 v2 hbx => hbx.grown0 hC.own hgrow)

/-- A new block of one number. -/
theorem row_one (V : World) (x : Int) : Row (V.alloc (.cells #[.int .i64 x] 3)) (some ⟨V.heap.size, 0, none⟩) 1 [x] :=
  Blk.row (show Blk _ V.heap.size [x] from World.alloc_heap_new V _) rfl (by omega)

end Go.Proofs.YtgjpchnkodnieaaGreatDoor
namespace Go.Proofs.YtgjpchnkodnieaaGreatDoor
open Go.RowKit

set_option maxHeartbeats 400000 in
theorem l3Ints_some (ad : Addr) (n cap : Nat) (zs : List Int) (w : World) (h : Row w (some ad) n zs) :
    Calls Tryz.prog 71 #[.slice (some ad) n cap] w fun e w' => ∃ g cap', e = .returned (.slice (some ⟨g, 0, none⟩) n cap') ∧ Own w' w.heap.size (some ⟨g, 0, none⟩) n zs ∧ Below w.heap.size w w' := by
  have hl := h.len
  have hs := h.small
  have H := hide h
  clear h
  obtain ⟨i0, hi, hz0, hz1, hz2⟩ := info_parts info_int
  go_enter Tryz.func71, Tryz.ntmps71
  go_wp2_with (at_builtin; refine wpList_append_own _ rfl _ _ 23 rfl w.heap.size 3 i0 (.int .i64 0) 1 8 Tryz.underlying23 hi hz0 hz1 hz2 rfl (by decide) _ _ _ rfl (owns_empty w) ad n cap (zs.map (Value.int .i64)) rfl (by simpa using hl) (cells_ints ((unhide H).alloc _)) (one_ints zs) (by unfold maxLen; omega) (by omega) (by simp) ?_; intro v1 w1 hown hgrow hnil)
  have hown' : w1.ownsRow w.heap.size 3 1 v1 n (zs.map (Value.int .i64)) := by simpa using hown
  have hsome : ∃ g cap', v1 = .slice (some ⟨g, 0, none⟩) n cap' := by
    rcases hown'.2 with ⟨e, _⟩ | ⟨g, c', cur, e, _⟩
    · have := (hnil.mp e).1
      cases this
    · exact ⟨g, c', e⟩
  obtain ⟨g, cap', rfl⟩ := hsome
  obtain ⟨a', cap'', hv, ho⟩ := Own.of_owns hown' hs
  cases hv
  have hbel : Below w.heap.size w w1 := ((Below.refl _ _).alloc (Nat.le_refl _) _).grown hgrow (by simp) (by intro k hk; cases hk; exact Nat.le_refl _)
  clear hown hgrow hnil
  go_wp2
  go_ret
  exact ⟨_, _, rfl, ho, hbel⟩

end Go.Proofs.YtgjpchnkodnieaaGreatDoor
namespace Go.Proofs.YtgjpchnkodnieaaGreatDoor
open Go.RowKit

set_option maxHeartbeats 2000000 in
theorem l6Vector_any (ad : Addr) (n c : Nat) (zs : List Int) (w : World) (h : Row w (some ad) n zs) :
    Calls Tryz.prog 69 #[.slice (some ad) n c] w fun e w' => ∃ g1 g2 d2, e = .returned (.agg #[.bool false, .slice (some ⟨g1, 0, none⟩) 1 1, .slice (some ⟨g2, 0, none⟩) n d2]) ∧ Row w' (some ⟨g1, 0, none⟩) 1 [(n : Int)] ∧ Row w' (some ⟨g2, 0, none⟩) n zs ∧ Below w.heap.size w w' := by
  have hl := h.len
  have hs := h.small
  obtain ⟨W, hW⟩ : ∃ W, W = (w.alloc (.cells #[.bool false, .slice none 0 0, .slice none 0 0] 25)).alloc (.cells #[.int .i64 (n : Nat)] 3) := ⟨_, rfl⟩
  have hBW : Below w.heap.size w W := by rw [hW]; exact ((Below.refl _ w).alloc (Nat.le_refl _) _).alloc (by simp) _
  have HX : Hid (Box W w.heap.size false (.slice none 0 0) (.slice none 0 0)) := by rw [hW]; exact (Box.new w _ _ _).alloc _
  have HR1 : Hid (Row W (some ⟨w.heap.size + 1, 0, none⟩) 1 [(n : Int)]) := by
    rw [hW]
    have := row_one (w.alloc (.cells #[.bool false, .slice none 0 0, .slice none 0 0] 25)) (n : Int)
    rwa [World.size_alloc] at this
  have hcall := l3Ints_some ad n c zs W (h.below (Nat.le_refl _) hBW)
  have HBW := hide hBW
  rw [hW] at hcall
  clear h hBW
  go_enter Tryz.func69, Tryz.ntmps69
  go_wp2_with (go_at_call 71; refine hcall.mono ?_; rintro e w1 ⟨g2, d2, rfl, ho, hb1⟩; rw [← hW] at ho hb1; have HR2 := hide ho.row; have HX1 := hide ((unhide HX).below (Nat.le_refl _) hb1); have HR1' := hide ((unhide HR1).below (Nat.le_refl _) hb1); have HB1 := hide ((unhide HBW).trans (hb1.mono (unhide HBW).size)); obtain ⟨y0, y1, y2, y3, y4, y5, y6⟩ := (unhide HX1).all; clear ho hb1)
  have hx := (unhide HX1).sets (c' := false) (u1 := .slice (some ⟨w.heap.size + 1, 0, none⟩) 1 1) (u2 := .slice (some ⟨g2, 0, none⟩) n d2)
  obtain ⟨r0, r1, r2, _, _, _⟩ := hx.all
  refine bodyPost_ret (v := .agg #[.bool false, .slice (some ⟨w.heap.size + 1, 0, none⟩) 1 1, .slice (some ⟨g2, 0, none⟩) n d2]) (by simp [results, Tryz.results69, go_sem, r0, r1, r2]) rfl ?_
  exact ⟨_, _, _, rfl, (unhide HR1').sets (unhide HX1) _ _ _, (unhide HR2).sets (unhide HX1) _ _ _, (((unhide HB1).setCell (p := ⟨w.heap.size, 0, none⟩) (Nat.le_refl _) _).setCell (p := ⟨w.heap.size, 1, none⟩) (Nat.le_refl _) _).setCell (p := ⟨w.heap.size, 2, none⟩) (Nat.le_refl _) _⟩

/-- k numbers from n down. -/
theorem down_take (n k : Nat) (h : k < n) : (downTo n).take k ++ [((n - k : Nat) : Int)] = (downTo n).take (k + 1) := by
  rw [List.take_add_one]
  congr 1
  unfold downTo
  rw [List.getElem?_map, List.getElem?_range h]
  rfl

set_option maxHeartbeats 4000000 in
theorem l6Backward_any (n : Nat) (hn : n ≤ 10000) (w : World) :
    Calls Tryz.prog 73 #[.int .i64 (n : Nat)] w fun e w' => ∃ g1 g2 d2, e = .returned (.agg #[.bool false, .slice (some ⟨g1, 0, none⟩) 1 1, .slice (some ⟨g2, 0, none⟩) n d2]) ∧ Row w' (some ⟨g1, 0, none⟩) 1 [(n : Int)] ∧ Row w' (some ⟨g2, 0, none⟩) n (downTo n) ∧ Below w.heap.size w w' := by
  obtain ⟨W, hW⟩ : ∃ W, W = w.alloc (.cells #[.bool false, .slice none 0 0, .slice none 0 0] 25) := ⟨_, rfl⟩
  have hz : W.heap.size = w.heap.size + 1 := by rw [hW]; simp
  have HX : Hid (Box W w.heap.size false (.slice none 0 0) (.slice none 0 0)) := by rw [hW]; exact Box.new w _ _ _
  have HBW : Hid (Below w.heap.size w W) := by rw [hW]; exact (Below.refl _ w).alloc (Nat.le_refl _) _
  have HC : Hid (Ch W (W.alloc (.cells #[] 3)) (w.heap.size + 1) 0 0 []) := Ch.start (Below.refl _ _) hz.symm
  clear hz
  rw [hW] at HC
  go_enter Tryz.func73, Tryz.ntmps73
  go_wp2_with fail
  rw [← hW] at HC ⊢
  clear hW
  go_loopw [3, 4] (fun v i wr => ∃ (k g cap : Nat) (y : Int), k ≤ n ∧ v = .slice (some ⟨g, 0, none⟩) k cap ∧ i = .int .i64 y ∧ Hid (y = (n : Int) - (k : Int)) ∧ Hid (Ch W wr g cap k ((downTo n).take k))) (fun _ i _ => (intOf i).toNat)
  case atStart => exact ⟨0, _, _, n, Nat.zero_le _, rfl, rfl, hide (by simp), HC⟩
  case round =>
    obtain ⟨k, g, cap, y, hk, rfl, rfl, hy, hC⟩ := hrel
    clear HC
    by_cases hlt : k < n
    · have hy' : 0 < y := by have := unhide hy; omega
      have hyn : y ≤ 10000 := by have := unhide hy; omega
      have g0 : decide (0 < y) = true := by simpa using hy'
      have hr := row_one wr y
      have hC1 := (unhide hC).alloc (.cells #[.int .i64 y] 3)
      go_wp2_with (at_builtin; refine wpList_append_ch rfl _ _ rfl hC1 rfl _ _ _ [y] hr rfl (k + 1) rfl (by omega) ?_; intro g' cap' w1 hC2 _; have HC2 : Hid (Ch W w1 g' cap' (k + 1) ((downTo n).take (k + 1))) := (by rw [← down_take n k hlt, show (((n - k : Nat)) : Int) = y by have := unhide hy; omega]; exact hC2); clear hC2 hC1 hr)
      refine ⟨⟨k + 1, g', cap', y - 1, by omega, rfl, by go_num, hide (by have := unhide hy; omega), HC2⟩, ?_⟩
      simp [intOf]; omega
    · have hkn : k = n := by omega
      subst hkn
      have hy0 : ¬ 0 < y := by have := unhide hy; omega
      have hrow := (unhide hC).row (by omega)
      rw [List.take_of_length_le (by rw [downTo_len]; exact Nat.le_refl _)] at hrow
      have hcall := l6Vector_any ⟨g, 0, none⟩ k cap (downTo k) wr hrow
      have HXw := hide ((unhide HX).below (Nat.le_refl _) (unhide hC).low)
      have HBw := hide ((unhide HBW).trans ((unhide hC).low.mono (unhide HBW).size))
      clear hrow hlt
      go_wp2_with (go_at_call 69; refine hcall.mono ?_; rintro e w1 ⟨g1, g2, d2, rfl, r1, r2, hb1⟩; have R1 := hide r1; have R2 := hide r2; have HX1 := hide ((unhide HXw).below (Nat.le_refl _) hb1); have HB1 := hide ((unhide HBw).trans (hb1.mono (unhide HBw).size)); obtain ⟨y0, y1, y2, y3, y4, y5, y6⟩ := (unhide HX1).all; clear r1 r2 hb1)
      have hx := (unhide HX1).sets (c' := false) (u1 := .slice (some ⟨g1, 0, none⟩) 1 1) (u2 := .slice (some ⟨g2, 0, none⟩) k d2)
      obtain ⟨s0, s1, s2, _, _, _⟩ := hx.all
      refine bodyPost_ret (v := .agg #[.bool false, .slice (some ⟨g1, 0, none⟩) 1 1, .slice (some ⟨g2, 0, none⟩) k d2]) (by simp [results, Tryz.results73, go_sem, s0, s1, s2]) rfl ?_
      exact ⟨_, _, _, rfl, (unhide R1).sets (unhide HX1) _ _ _, (unhide R2).sets (unhide HX1) _ _ _, (((unhide HB1).setCell (p := ⟨w.heap.size, 0, none⟩) (Nat.le_refl _) _).setCell (p := ⟨w.heap.size, 1, none⟩) (Nat.le_refl _) _).setCell (p := ⟨w.heap.size, 2, none⟩) (Nat.le_refl _) _⟩

end Go.Proofs.YtgjpchnkodnieaaGreatDoor
namespace Go.Proofs.YtgjpchnkodnieaaGreatDoor
open Go.RowKit

set_option maxHeartbeats 400000 in
theorem l5Single_any (c : Bool) (v1 : Value) (a2 : Option Addr) (n2 c2 : Nat) (w : World) (hs : n2 ≤ 17592186044416) (r : Int) (hr : Hid (singleCode c n2 = r)) :
    Calls Tryz.prog 154 #[.agg #[.bool c, v1, .slice a2 n2 c2]] w fun e w' => e = .returned (.int .i64 r) ∧ Below w.heap.size w w' := by
  rw [← hr.out]
  have hW : ∀ o, Below w.heap.size w (w.alloc o) := fun o => (Below.refl _ _).alloc (Nat.le_refl _) _
  by_cases h : n2 = 1
  · subst h
    cases c
    · go_enter Tryz.func154, Tryz.ntmps154
      go_wp2
      go_ret
      exact ⟨rfl, hW _⟩
    · go_enter Tryz.func154, Tryz.ntmps154
      go_wp2
      go_ret
      exact ⟨rfl, hW _⟩
  · have g0 : ((n2 : Int) != 1) = true := by simp; omega
    have HE : Hid (singleCode c n2 = 5) := by show _ = _; unfold singleCode; rw [if_pos h]
    go_enter Tryz.func154, Tryz.ntmps154
    go_wp2
    go_ret
    exact ⟨ret_int HE.out.symm, hW _⟩

end Go.Proofs.YtgjpchnkodnieaaGreatDoor
namespace Go.Proofs.YtgjpchnkodnieaaGreatDoor
open Go.RowKit

theorem up_take (n k : Nat) (h : k < n) : (upTo n).take k ++ [((k + 1 : Nat) : Int)] = (upTo n).take (k + 1) := by
  rw [List.take_add_one]
  congr 1
  unfold upTo
  rw [List.getElem?_map, List.getElem?_range h]
  rfl

theorem iota_code {c : Bool} {dt : List Int} {r : Int} (h : singleCode c dt.length = r) (hr : r ≠ 0) : iotaA c dt = noAns r := by unfold iotaA; rw [h, if_pos hr]
theorem iota_low {c : Bool} {dt : List Int} (h : singleCode c dt.length = 0) (h2 : dt.getD 0 0 < 0) : iotaA c dt = noAns 3 := by unfold iotaA; rw [h, if_neg (by decide), if_pos h2]
theorem iota_big {c : Bool} {dt : List Int} (h : singleCode c dt.length = 0) (h3 : 10000 < dt.getD 0 0) : iotaA c dt = noAns 7 := by unfold iotaA; rw [h, if_neg (by decide), if_neg (by omega), if_pos h3]
theorem iota_go {c : Bool} {dt : List Int} {N : Nat} (h : singleCode c dt.length = 0) (h2 : dt.getD 0 0 = (N : Int)) (h3 : N ≤ 10000) : iotaA c dt = ⟨false, [(N : Int)], upTo N, 0⟩ := by
  unfold iotaA; rw [h, if_neg (by decide), h2, if_neg (by omega), if_neg (by omega)]; rfl

set_option maxRecDepth 20000 in
set_option maxHeartbeats 8000000 in
theorem l6Iota_any (c : Bool) (v1 : Option Addr) (a2 : Addr) (n1 n2 c1 c2 : Nat) (dt : List Int) (w : World) (h2 : Row w (some a2) n2 dt) (hbd : ∀ k, k < n2 → -1000000000000000 ≤ dt.getD k 0 ∧ dt.getD k 0 ≤ 1000000000000000) :
    Calls Tryz.prog 70 #[.agg #[.bool c, .slice v1 n1 c1, .slice (some a2) n2 c2]] w (GivesRow w (iotaA c dt)) := by
  have hl2 := hide h2.len
  have hs2 := h2.small
  have H2 := hide h2
  have HBD := hide hbd
  clear h2 hbd
  obtain ⟨W0, hW0⟩ : ∃ W0, W0 = (w.alloc (.cells #[.bool c, .slice v1 n1 c1, .slice (some a2) n2 c2] 25)).alloc (.cells #[.bool false, .slice none 0 0, .slice none 0 0] 25) := ⟨_, rfl⟩
  obtain ⟨B4, B5, hB0⟩ := boxes2 (w := w) (c := c) (v1 := .slice v1 n1 c1) (v2 := .slice (some a2) n2 c2) (Below.refl _ _)
  rw [← hW0] at B4 B5 hB0
  have D4 := hide B4
  have D6 := hide B5
  have HB0 := hide hB0
  obtain ⟨r, hr⟩ : ∃ r, singleCode c n2 = r := ⟨_, rfl⟩
  have HSC := hide hr
  have HCC : Hid (singleCode c dt.length = r) := by rw [unhide hl2]; exact hr
  obtain ⟨y0, y1, y2, y3, y4, y5, y6⟩ := B4.all
  rw [hW0] at y0 y1 y2 y3 y4 y5 y6
  clear hr B4 B5 hB0
  go_enter Tryz.func70, Tryz.ntmps70
  go_upto_region 2 with (go_at_call 154; refine (l5Single_any c _ _ _ _ _ hs2 r HSC).mono ?_; rintro e w3 ⟨rfl, hb3⟩; rw [← hW0] at hb3; have HB3 := hide hb3; clear hb3)
  have E4 := hide ((unhide D4).below (Nat.le_refl _) (unhide HB3))
  have E6 := hide ((unhide D6).below (Nat.le_refl _) (unhide HB3))
  have HB := hide ((unhide HB0).trans ((unhide HB3).mono (unhide HB0).size))
  clear D4 D6 HB0 HB3 y0 y1 y2 y3 y4 y5 y6 hW0 W0
  have hz6 := (unhide E6).lt
  by_cases h0 : r = 0
  · subst h0
    have hn2 : n2 = 1 := by have := unhide HSC; unfold singleCode at this; split at this; (· cases this); rename_i h; simpa using h
    subst hn2
    obtain ⟨x0, x1, x2, x3, x4, x5, x6⟩ := (unhide E4).all
    obtain ⟨bk, ok, hab, hbk, hck⟩ := (unhide H2).get (by omega : 0 < 1)
    cases hab
    have hcw := ((unhide HB).cell (p := ⟨bk, ok + 0, none⟩) hbk).trans hck
    rw [Nat.add_zero] at hcw
    obtain ⟨x, hx⟩ : ∃ x, x = dt.getD 0 0 := ⟨_, rfl⟩
    have hxb := unhide HBD 0 (by omega)
    rw [← hx] at hcw hxb
    clear hck
    by_cases hlow : x < 0
    · have HS : Hid (iotaA c dt = noAns 3) := iota_low (unhide HCC) (by rw [← hx]; exact hlow)
      have g0 : decide (x < 0) = true := by simpa using hlow
      clear hx hlow
      go_wp2_with fail
      refine (l4None_any _).mono ?_
      rintro e w9 ⟨rfl, hb9⟩
      obtain ⟨q0, q1, q2, q3, q4, q5, q6⟩ := ((unhide E6).below (Nat.le_refl _) hb9).all
      have hB9 := hide ((unhide HB).trans (hb9.mono (unhide HB).size))
      clear hb9 E4 E6 HB x0 x1 x2 x3 x4 x5 x6 hcw
      go_wp2
      refine bodyPost_ret (v := .tuple #[.agg #[.bool false, .slice none 0 0, .slice none 0 0], .int .i64 3]) (by simp [results, Tryz.results70, go_sem, q0, q1, q2]) rfl ?_
      rw [unhide HS]
      exact ⟨none, 0, 0, none, 0, 0, rfl, row_nil _ _, row_nil _ _, (((unhide hB9).setCell (by simp <;> omega) _).setCell (by simp <;> omega) _).setCell (by simp <;> omega) _⟩
    · have g0 : ¬ x < 0 := hlow
      by_cases hbig : 10000 < x
      · have HS : Hid (iotaA c dt = noAns 7) := iota_big (unhide HCC) (by rw [← hx]; exact hbig)
        have g1 : decide (10000 < x) = true := by simpa using hbig
        clear hx hlow hbig
        go_wp2_with fail
        refine (l4None_any _).mono ?_
        rintro e w9 ⟨rfl, hb9⟩
        obtain ⟨q0, q1, q2, q3, q4, q5, q6⟩ := ((unhide E6).below (Nat.le_refl _) hb9).all
        have hB9 := hide ((unhide HB).trans (hb9.mono (unhide HB).size))
        clear hb9 E4 E6 HB x0 x1 x2 x3 x4 x5 x6 hcw
        go_wp2
        refine bodyPost_ret (v := .tuple #[.agg #[.bool false, .slice none 0 0, .slice none 0 0], .int .i64 7]) (by simp [results, Tryz.results70, go_sem, q0, q1, q2]) rfl ?_
        rw [unhide HS]
        exact ⟨none, 0, 0, none, 0, 0, rfl, row_nil _ _, row_nil _ _, (((unhide hB9).setCell (by simp <;> omega) _).setCell (by simp <;> omega) _).setCell (by simp <;> omega) _⟩
      · obtain ⟨N, hN⟩ : ∃ N : Nat, x = (N : Int) := ⟨x.toNat, by omega⟩
        subst hN
        have hN1 : N ≤ 10000 := by omega
        have HS : Hid (iotaA c dt = ⟨false, [(N : Int)], upTo N, 0⟩) := iota_go (unhide HCC) hx.symm hN1
        have g0' : ¬ (N : Int) < 0 := hlow
        have g1 : ¬ (10000 : Int) < (N : Int) := hbig
        have HC : Hid (Ch w3 (w3.alloc (.cells #[] 3)) w3.heap.size 0 0 []) := Ch.start (Below.refl _ _) rfl
        have hbk3 : bk < w3.heap.size := Nat.lt_of_lt_of_le hbk (unhide HB).size
        clear hx hlow hbig hxb
        go_wp2_with fail
        clear x0 x1 x2 x3 x4 x5 x6 g0 g0' g1
        go_loopw [5, 6] (fun v i wr => ∃ (k g cap : Nat) (y : Int), k ≤ N ∧ v = .slice (some ⟨g, 0, none⟩) k cap ∧ i = .int .i64 y ∧ Hid (y = (k : Int) + 1) ∧ Hid (Ch w3 wr g cap k ((upTo N).take k))) (fun _ i _ => (N + 1 - (intOf i).toNat))
        case atStart => exact ⟨0, _, _, 1, Nat.zero_le _, rfl, rfl, hide (by simp), HC⟩
        case round =>
          obtain ⟨k, g, cap, y, hk, rfl, rfl, hy, hC⟩ := hrel
          clear HC
          have F4 := hide ((unhide E4).below (Nat.le_refl _) (unhide hC).low)
          obtain ⟨x0, x1, x2, x3, x4, x5, x6⟩ := (unhide F4).all
          have hcx := ((unhide hC).low.cell (p := ⟨bk, ok, none⟩) hbk3).trans hcw
          by_cases hlt : k < N
          · have hyn : y ≤ 10000 := by have := unhide hy; omega
            have hy0 : 1 ≤ y := by have := unhide hy; omega
            have g2 : decide (y ≤ (N : Int)) = true := by have := unhide hy; simp; omega
            have hr := row_one wr y
            have hC1 := (unhide hC).alloc (.cells #[.int .i64 y] 3)
            go_wp2_with (at_builtin; refine wpList_append_ch rfl _ _ rfl hC1 rfl _ _ _ [y] hr rfl (k + 1) rfl (by omega) ?_; intro g' cap' w1 hC2 _; have HC2 : Hid (Ch w3 w1 g' cap' (k + 1) ((upTo N).take (k + 1))) := (by rw [← up_take N k hlt, show (((k + 1 : Nat)) : Int) = y by have := unhide hy; omega]; exact hC2); clear hC2 hC1 hr)
            refine ⟨⟨k + 1, g', cap', y + 1, by omega, rfl, by go_num, hide (by have := unhide hy; omega), HC2⟩, ?_⟩
            simp [intOf]; have := unhide hy; omega
          · have hkn : k = N := by omega
            subst hkn
            have hyN : ¬ y ≤ (k : Int) := by have := unhide hy; omega
            have hrow := (unhide hC).row (by omega)
            rw [List.take_of_length_le (by rw [upTo_len]; exact Nat.le_refl _)] at hrow
            have hcall := l6Vector_any ⟨g, 0, none⟩ k cap (upTo k) wr hrow
            have HXw := hide ((unhide E6).below (Nat.le_refl _) (unhide hC).low)
            have HBw := hide ((unhide HB).trans ((unhide hC).low.mono (unhide HB).size))
            clear hrow hlt
            go_wp2_with (go_at_call 69; refine hcall.mono ?_; rintro e w1 ⟨g1, g2, d2, rfl, r1, r2, hb1⟩; have R1 := hide r1; have R2 := hide r2; have HX1 := hide ((unhide HXw).below (Nat.le_refl _) hb1); have HB1 := hide ((unhide HBw).trans (hb1.mono (unhide HBw).size)); obtain ⟨y0, y1, y2, y3, y4, y5, y6⟩ := (unhide HX1).all; clear r1 r2 hb1)
            have hx := (unhide HX1).sets (c' := false) (u1 := .slice (some ⟨g1, 0, none⟩) 1 1) (u2 := .slice (some ⟨g2, 0, none⟩) k d2)
            obtain ⟨s0, s1, s2, _, _, _⟩ := hx.all
            refine bodyPost_ret (v := .tuple #[.agg #[.bool false, .slice (some ⟨g1, 0, none⟩) 1 1, .slice (some ⟨g2, 0, none⟩) k d2], .int .i64 0]) (by simp [results, Tryz.results70, go_sem, s0, s1, s2]) rfl ?_
            rw [unhide HS]
            exact ⟨_, _, _, _, _, _, rfl, (unhide R1).sets (unhide HX1) _ _ _, (unhide R2).sets (unhide HX1) _ _ _, (((unhide HB1).setCell (by simp <;> omega) _).setCell (by simp <;> omega) _).setCell (by simp <;> omega) _⟩
  · have HS : Hid (iotaA c dt = noAns r) := iota_code (unhide HCC) h0
    have hcb : (r != 0) = true := by simp [h0]
    clear h0
    go_wp2_with fail
    refine (l4None_any _).mono ?_
    rintro e w9 ⟨rfl, hb9⟩
    obtain ⟨q0, q1, q2, q3, q4, q5, q6⟩ := ((unhide E6).below (Nat.le_refl _) hb9).all
    have hB9 := hide ((unhide HB).trans (hb9.mono (unhide HB).size))
    clear hb9 E4 E6 HB
    go_wp2
    refine bodyPost_ret (v := .tuple #[.agg #[.bool false, .slice none 0 0, .slice none 0 0], .int .i64 r]) (by simp [results, Tryz.results70, go_sem, q0, q1, q2]) rfl ?_
    rw [unhide HS]
    exact ⟨none, 0, 0, none, 0, 0, rfl, row_nil _ _, row_nil _ _, (((unhide hB9).setCell (by simp <;> omega) _).setCell (by simp <;> omega) _).setCell (by simp <;> omega) _⟩

end Go.Proofs.YtgjpchnkodnieaaGreatDoor
namespace Go.Proofs.YtgjpchnkodnieaaGreatDoor
open Go.RowKit Go.Shelf

/-- What a method gives: an array of its own, laid in the answer's box. -/
theorem own_end {w W : World} {p : Nat} {c d : Bool} {y1 y2 : Option Addr} {l1 k1 l2 k2 : Nat} {code : Int} {b1 b2 : Option Addr} {m1 d1 m2 d2 : Nat} {sh dt : List Int} (hx : Box W p c (.slice y1 l1 k1) (.slice y2 l2 k2)) (h1 : Own W w.heap.size b1 m1 sh) (h2 : Own W w.heap.size b2 m2 dt) (hap : Apart b1 m1 b2 m2) (hb : Below w.heap.size w W) (hp : w.heap.size ≤ p) :
    GivesOwn w ⟨d, sh, dt, code⟩ (.returned (.tuple #[.agg #[.bool d, .slice b1 m1 d1, .slice b2 m2 d2], .int .i64 code])) (((W.setCell ⟨p, 0, none⟩ (.bool d)).setCell ⟨p, 1, none⟩ (.slice b1 m1 d1)).setCell ⟨p, 2, none⟩ (.slice b2 m2 d2)) := by
  have e1 : ∀ k, At b1 m1 k → k ≠ p := fun k hk => h1.row.notBox hx hk
  have e2 : ∀ k, At b2 m2 k → k ≠ p := fun k hk => h2.row.notBox hx hk
  exact ⟨_, _, _, _, _, _, rfl, ((h1.other (q := ⟨p, 0, none⟩) e1 _).other (q := ⟨p, 1, none⟩) e1 _).other (q := ⟨p, 2, none⟩) e1 _, ((h2.other (q := ⟨p, 0, none⟩) e2 _).other (q := ⟨p, 1, none⟩) e2 _).other (q := ⟨p, 2, none⟩) e2 _, hap, ((hb.setCell (p := ⟨p, 0, none⟩) hp _).setCell (p := ⟨p, 1, none⟩) hp _).setCell (p := ⟨p, 2, none⟩) hp _⟩

theorem put_all (zs ts : List Int) (h : ts.length = zs.length) : Go.Sort.putCells (Value.int .i64) 0 ts.toArray (zs.map (Value.int .i64)).toArray = (ts.map (Value.int .i64)).toArray := by
  have h1 := take_putCellsI (zs.map (Value.int .i64)).toArray ts (by simp; omega)
  rw [List.take_of_length_le (by simp [Go.Sort.putCells]; omega)] at h1
  exact Array.ext' (by simpa using h1)

theorem Reverse_blk (g cap n : Nat) (zs : List Int) (w : World) (hb : Blk w g zs) (hn : zs.length = n) (hs : n ≤ 10000) :
    Calls Tryz.prog 221 #[.slice (some ⟨g, 0, none⟩) n cap] w fun e w' => e = .returned (.tuple #[]) ∧ Blk w' g zs.reverse ∧ But (fun x => x = g) w w' := by
  have hb' : w.heap[g]? = some (.cells (zs.map (Value.int .i64)).toArray 3 (0, 0)) := hb
  have hH := holds_of_blockI (ss := zs) hb' (List.take_of_length_le (by simp))
  subst hn
  refine (Any.slices_Reverse_int Tryz.revI g 0 cap zs w hH (by omega)).mono ?_
  rintro e w' ⟨rfl, q, rfl⟩
  have h1 := heap_sortedI (n := q) (os := #[]) zs.reverse.toArray hb'
  have h2 := grownBy_sortedI (w := w) (g := g) (n := q) (os := #[]) zs.reverse.toArray
  rw [Go.Sort.grow_empty] at h1 h2
  rw [put_all _ _ (by simp)] at h1
  exact ⟨rfl, h1, h2.os, h2.tape, h2.output, h2.size, fun k hk hne => h2.block k hk (fun e => by cases e; exact hne rfl)⟩

theorem up_rev (n : Nat) : (upTo n).reverse = downTo n := by
  apply List.ext_getElem
  · simp [upTo, downTo]
  · intro i h1 h2
    simp [upTo, downTo] at h1 h2 ⊢
    omega

set_option maxRecDepth 20000 in
set_option maxHeartbeats 8000000 in
theorem mon_scalarOfOne (op : Int) (c : Bool) (a1 a2 : Addr) (n1 n2 c1 c2 : Nat) (sh dt : List Int) (w : World) (h1 : Row w (some a1) n1 sh) (h2 : Row w (some a2) n2 dt) (ga gb : Addr) (hG : Gl w ga gb) :
    Calls Tryz.prog 137 #[.int .i64 op, .agg #[.bool c, .slice (some a1) n1 c1, .slice (some a2) n2 c2]] w (GivesOwn w (scalar1 op c sh dt)) := by
  have hl1 := hide h1.len
  have hl2 := hide h2.len
  have hs1 := h1.small
  have hs2 := h2.small
  have H1 := hide h1
  have H2 := hide h2
  clear h1 h2
  obtain ⟨W0, hW0⟩ : ∃ W0, W0 = (w.alloc (.cells #[.bool c, .slice (some a1) n1 c1, .slice (some a2) n2 c2] 25)).alloc (.cells #[.bool false, .slice none 0 0, .slice none 0 0] 25) := ⟨_, rfl⟩
  obtain ⟨B4, B5, hB0⟩ := boxes2 (w := w) (c := c) (v1 := .slice (some a1) n1 c1) (v2 := .slice (some a2) n2 c2) (Below.refl _ _)
  rw [← hW0] at B4 B5 hB0
  have E4 := hide B4
  have E6 := hide B5
  have HB := hide hB0
  obtain ⟨x0, x1, x2, x3, x4, x5, x6⟩ := B4.all
  have hz6 := (unhide E6).lt
  have K1 := hide ((unhide H1).below (Nat.le_refl _) hB0)
  have K2 := hide ((unhide H2).below (Nat.le_refl _) hB0)
  clear B4 B5 hB0
  have hcl := implScalar1_any op c a1 a2 n1 n2 c1 c2 sh dt W0 (unhide K1) (unhide K2) ga gb (hG.below (unhide HB))
  obtain ⟨rc, rsh, rdt, rp, hr⟩ : ∃ rc rsh rdt rp, scalar1 op c sh dt = ⟨rc, rsh, rdt, rp⟩ := ⟨_, _, _, _, rfl⟩
  rw [hr] at hcl ⊢
  clear hr hG
  rw [hW0] at hcl x0 x1 x2 x3 x4 x5 x6
  go_enter Tryz.func137, Tryz.ntmps137
  go_wp2_with (go_at_call 217; refine hcl.mono ?_; rintro e w4 ⟨b1, m1, d1, b2, m2, d2, rfl, r1, r2, hap, hb4⟩; rw [← hW0] at r1 r2 hb4; have R1 := hide r1; have R2 := hide r2; have HX := hide ((unhide E6).below (Nat.le_refl _) hb4); have HBX := hide ((unhide HB).trans (hb4.mono (unhide HB).size)); simp only; obtain ⟨q0, q1, q2, q3, q4, q5, q6⟩ := (unhide HX).all; clear r1 r2 hb4)
  have hx := (unhide HX).sets (c' := rc) (u1 := .slice b1 m1 d1) (u2 := .slice b2 m2 d2)
  obtain ⟨s0, s1, s2, _, _, _⟩ := hx.all
  refine bodyPost_ret (v := .tuple #[.agg #[.bool rc, .slice b1 m1 d1, .slice b2 m2 d2], .int .i64 rp]) (by simp [results, Tryz.results137, go_sem, s0, s1, s2]) rfl ?_
  exact own_end (unhide HX) ((unhide R1).mono (unhide HB).size) ((unhide R2).mono (unhide HB).size) hap (unhide HBX) (by omega)

set_option maxRecDepth 20000 in
set_option maxHeartbeats 8000000 in
theorem mon_grade26 (c : Bool) (a1 a2 : Addr) (n1 n2 c1 c2 : Nat) (sh dt : List Int) (w : World) (h1 : Row w (some a1) n1 sh) (h2 : Row w (some a2) n2 dt) :
    Calls Tryz.prog 144 #[.int .i64 26, .agg #[.bool c, .slice (some a1) n1 c1, .slice (some a2) n2 c2]] w (GivesOwn w (gradeA c sh dt false)) := by
  have hl1 := hide h1.len
  have hl2 := hide h2.len
  have hs1 := h1.small
  have hs2 := h2.small
  have H1 := hide h1
  have H2 := hide h2
  clear h1 h2
  obtain ⟨W0, hW0⟩ : ∃ W0, W0 = (w.alloc (.cells #[.bool c, .slice (some a1) n1 c1, .slice (some a2) n2 c2] 25)).alloc (.cells #[.bool false, .slice none 0 0, .slice none 0 0] 25) := ⟨_, rfl⟩
  obtain ⟨B4, B5, hB0⟩ := boxes2 (w := w) (c := c) (v1 := .slice (some a1) n1 c1) (v2 := .slice (some a2) n2 c2) (Below.refl _ _)
  rw [← hW0] at B4 B5 hB0
  have E4 := hide B4
  have E6 := hide B5
  have HB := hide hB0
  obtain ⟨x0, x1, x2, x3, x4, x5, x6⟩ := B4.all
  have hz6 := (unhide E6).lt
  have K1 := hide ((unhide H1).below (Nat.le_refl _) hB0)
  have K2 := hide ((unhide H2).below (Nat.le_refl _) hB0)
  clear B4 B5 hB0
  have hcl := implGrade_any c false (some a1) (some a2) n1 n2 c1 c2 sh dt W0 (unhide K1) (unhide K2)
  obtain ⟨rc, rsh, rdt, rp, hr⟩ : ∃ rc rsh rdt rp, gradeA c sh dt false = ⟨rc, rsh, rdt, rp⟩ := ⟨_, _, _, _, rfl⟩
  rw [hr] at hcl ⊢
  clear hr
  rw [hW0] at hcl x0 x1 x2 x3 x4 x5 x6
  go_enter Tryz.func144, Tryz.ntmps144
  go_wp2_with (go_at_call 223; refine hcl.mono ?_; rintro e w4 ⟨b1, m1, d1, b2, m2, d2, rfl, r1, r2, hap, hb4, _⟩; rw [← hW0] at r1 r2 hb4; have R1 := hide r1; have R2 := hide r2; have HX := hide ((unhide E6).below (Nat.le_refl _) hb4); have HBX := hide ((unhide HB).trans (hb4.mono (unhide HB).size)); simp only; obtain ⟨q0, q1, q2, q3, q4, q5, q6⟩ := (unhide HX).all; clear r1 r2 hb4)
  have hx := (unhide HX).sets (c' := rc) (u1 := .slice b1 m1 d1) (u2 := .slice b2 m2 d2)
  obtain ⟨s0, s1, s2, _, _, _⟩ := hx.all
  refine bodyPost_ret (v := .tuple #[.agg #[.bool rc, .slice b1 m1 d1, .slice b2 m2 d2], .int .i64 rp]) (by simp [results, Tryz.results144, go_sem, s0, s1, s2]) rfl ?_
  exact own_end (unhide HX) ((unhide R1).mono (unhide HB).size) ((unhide R2).mono (unhide HB).size) hap (unhide HBX) (by omega)

set_option maxRecDepth 20000 in
set_option maxHeartbeats 8000000 in
theorem mon_grade27 (c : Bool) (a1 a2 : Addr) (n1 n2 c1 c2 : Nat) (sh dt : List Int) (w : World) (h1 : Row w (some a1) n1 sh) (h2 : Row w (some a2) n2 dt) :
    Calls Tryz.prog 144 #[.int .i64 27, .agg #[.bool c, .slice (some a1) n1 c1, .slice (some a2) n2 c2]] w (GivesOwn w (gradeA c sh dt true)) := by
  have hl1 := hide h1.len
  have hl2 := hide h2.len
  have hs1 := h1.small
  have hs2 := h2.small
  have H1 := hide h1
  have H2 := hide h2
  clear h1 h2
  obtain ⟨W0, hW0⟩ : ∃ W0, W0 = (w.alloc (.cells #[.bool c, .slice (some a1) n1 c1, .slice (some a2) n2 c2] 25)).alloc (.cells #[.bool false, .slice none 0 0, .slice none 0 0] 25) := ⟨_, rfl⟩
  obtain ⟨B4, B5, hB0⟩ := boxes2 (w := w) (c := c) (v1 := .slice (some a1) n1 c1) (v2 := .slice (some a2) n2 c2) (Below.refl _ _)
  rw [← hW0] at B4 B5 hB0
  have E4 := hide B4
  have E6 := hide B5
  have HB := hide hB0
  obtain ⟨x0, x1, x2, x3, x4, x5, x6⟩ := B4.all
  have hz6 := (unhide E6).lt
  have K1 := hide ((unhide H1).below (Nat.le_refl _) hB0)
  have K2 := hide ((unhide H2).below (Nat.le_refl _) hB0)
  clear B4 B5 hB0
  have hcl := implGrade_any c true (some a1) (some a2) n1 n2 c1 c2 sh dt W0 (unhide K1) (unhide K2)
  obtain ⟨rc, rsh, rdt, rp, hr⟩ : ∃ rc rsh rdt rp, gradeA c sh dt true = ⟨rc, rsh, rdt, rp⟩ := ⟨_, _, _, _, rfl⟩
  rw [hr] at hcl ⊢
  clear hr
  rw [hW0] at hcl x0 x1 x2 x3 x4 x5 x6
  go_enter Tryz.func144, Tryz.ntmps144
  go_wp2_with (go_at_call 223; refine hcl.mono ?_; rintro e w4 ⟨b1, m1, d1, b2, m2, d2, rfl, r1, r2, hap, hb4, _⟩; rw [← hW0] at r1 r2 hb4; have R1 := hide r1; have R2 := hide r2; have HX := hide ((unhide E6).below (Nat.le_refl _) hb4); have HBX := hide ((unhide HB).trans (hb4.mono (unhide HB).size)); simp only; obtain ⟨q0, q1, q2, q3, q4, q5, q6⟩ := (unhide HX).all; clear r1 r2 hb4)
  have hx := (unhide HX).sets (c' := rc) (u1 := .slice b1 m1 d1) (u2 := .slice b2 m2 d2)
  obtain ⟨s0, s1, s2, _, _, _⟩ := hx.all
  refine bodyPost_ret (v := .tuple #[.agg #[.bool rc, .slice b1 m1 d1, .slice b2 m2 d2], .int .i64 rp]) (by simp [results, Tryz.results144, go_sem, s0, s1, s2]) rfl ?_
  exact own_end (unhide HX) ((unhide R1).mono (unhide HB).size) ((unhide R2).mono (unhide HB).size) hap (unhide HBX) (by omega)

set_option maxRecDepth 20000 in
set_option maxHeartbeats 8000000 in
theorem mon_count (op : Int) (c : Bool) (a1 a2 : Addr) (n1 n2 c1 c2 : Nat) (sh dt : List Int) (w : World) (h1 : Row w (some a1) n1 sh) (h2 : Row w (some a2) n2 dt) (hbd : ∀ k, k < n2 → -1000000000000000 ≤ dt.getD k 0 ∧ dt.getD k 0 ≤ 1000000000000000) :
    Calls Tryz.prog 139 #[.int .i64 op, .agg #[.bool c, .slice (some a1) n1 c1, .slice (some a2) n2 c2]] w (GivesOwn w (iotaA c dt)) := by
  have hl1 := hide h1.len
  have hl2 := hide h2.len
  have hs1 := h1.small
  have hs2 := h2.small
  have H1 := hide h1
  have H2 := hide h2
  clear h1 h2
  obtain ⟨W0, hW0⟩ : ∃ W0, W0 = (w.alloc (.cells #[.bool c, .slice (some a1) n1 c1, .slice (some a2) n2 c2] 25)).alloc (.cells #[.bool false, .slice none 0 0, .slice none 0 0] 25) := ⟨_, rfl⟩
  obtain ⟨B4, B5, hB0⟩ := boxes2 (w := w) (c := c) (v1 := .slice (some a1) n1 c1) (v2 := .slice (some a2) n2 c2) (Below.refl _ _)
  rw [← hW0] at B4 B5 hB0
  have E4 := hide B4
  have E6 := hide B5
  have HB := hide hB0
  obtain ⟨x0, x1, x2, x3, x4, x5, x6⟩ := B4.all
  have hz6 := (unhide E6).lt
  have K1 := hide ((unhide H1).below (Nat.le_refl _) hB0)
  have K2 := hide ((unhide H2).below (Nat.le_refl _) hB0)
  clear B4 B5 hB0
  have HBD := hide hbd
  clear hbd
  obtain ⟨q0, q1, q2, q3, q4, q5, q6⟩ := (unhide E6).all
  by_cases hn : n2 = 1
  rotate_left
  · have HS : Hid (iotaA c dt = noAns 5) := iota_code (r := 5) (by rw [unhide hl2]; unfold singleCode; rw [if_pos hn]) (by decide)
    have g0 : ((n2 : Int) != 1) = true := by simp; omega
    clear hn
    rw [hW0] at x0 x1 x2 x3 x4 x5 x6 q0 q1 q2 q3 q4 q5 q6
    go_enter Tryz.func139, Tryz.ntmps139
    go_wp2_with fail
    rw [← hW0]
    clear q0 q1 q2 q3 q4 q5 q6
    obtain ⟨q0, q1, q2, _, _, _⟩ := (unhide E6).all
    refine bodyPost_ret (v := .tuple #[.agg #[.bool false, .slice none 0 0, .slice none 0 0], .int .i64 5]) (by simp [results, Tryz.results139, go_sem, q0, q1, q2]) rfl ?_
    rw [unhide HS]
    exact gives_none (unhide HB)
  subst hn
  cases c with
  | true =>
    have HS : Hid (iotaA true dt = noAns 3) := iota_code (r := 3) (by rw [unhide hl2]; rfl) (by decide)
    rw [hW0] at x0 x1 x2 x3 x4 x5 x6 q0 q1 q2 q3 q4 q5 q6
    go_enter Tryz.func139, Tryz.ntmps139
    go_wp2_with fail
    rw [← hW0]
    clear q0 q1 q2 q3 q4 q5 q6
    obtain ⟨q0, q1, q2, _, _, _⟩ := (unhide E6).all
    refine bodyPost_ret (v := .tuple #[.agg #[.bool false, .slice none 0 0, .slice none 0 0], .int .i64 3]) (by simp [results, Tryz.results139, go_sem, q0, q1, q2]) rfl ?_
    rw [unhide HS]
    exact gives_none (unhide HB)
  | false =>
  obtain ⟨bk, ok, hab, hbk, hck⟩ := (unhide K2).get (by omega : 0 < 1)
  cases hab
  rw [Nat.add_zero] at hck
  obtain ⟨x, hx⟩ : ∃ x, x = dt.getD 0 0 := ⟨_, rfl⟩
  have hxb := unhide HBD 0 (by omega)
  rw [← hx] at hck hxb
  have HC0 : Hid (singleCode false dt.length = 0) := by rw [unhide hl2]; exact rfl
  by_cases hlow : x < 0
  · have HS : Hid (iotaA false dt = noAns 3) := iota_low (unhide HC0) (by rw [← hx]; exact hlow)
    have g0 : decide (x < 0) = true := by simpa using hlow
    clear hx hlow
    rw [hW0] at x0 x1 x2 x3 x4 x5 x6 q0 q1 q2 q3 q4 q5 q6 hck
    go_enter Tryz.func139, Tryz.ntmps139
    go_wp2_with fail
    rw [← hW0]
    clear q0 q1 q2 q3 q4 q5 q6
    obtain ⟨q0, q1, q2, _, _, _⟩ := (unhide E6).all
    refine bodyPost_ret (v := .tuple #[.agg #[.bool false, .slice none 0 0, .slice none 0 0], .int .i64 3]) (by simp [results, Tryz.results139, go_sem, q0, q1, q2]) rfl ?_
    rw [unhide HS]
    exact gives_none (unhide HB)
  by_cases hbig : 10000 < x
  · have HS : Hid (iotaA false dt = noAns 7) := iota_big (unhide HC0) (by rw [← hx]; exact hbig)
    have g0 : ¬ x < 0 := hlow
    have g1 : decide (10000 < x) = true := by simpa using hbig
    clear hx hlow hbig
    rw [hW0] at x0 x1 x2 x3 x4 x5 x6 q0 q1 q2 q3 q4 q5 q6 hck
    go_enter Tryz.func139, Tryz.ntmps139
    go_wp2_with fail
    rw [← hW0]
    clear q0 q1 q2 q3 q4 q5 q6
    obtain ⟨q0, q1, q2, _, _, _⟩ := (unhide E6).all
    refine bodyPost_ret (v := .tuple #[.agg #[.bool false, .slice none 0 0, .slice none 0 0], .int .i64 7]) (by simp [results, Tryz.results139, go_sem, q0, q1, q2]) rfl ?_
    rw [unhide HS]
    exact gives_none (unhide HB)
  obtain ⟨N, hN⟩ : ∃ N : Nat, x = (N : Int) := ⟨x.toNat, by omega⟩
  subst hN
  have hN1 : N ≤ 10000 := by omega
  have HS : Hid (iotaA false dt = ⟨false, [(N : Int)], upTo N, 0⟩) := iota_go (unhide HC0) hx.symm hN1
  have g0 : ¬ (N : Int) < 0 := hlow
  have g1 : ¬ (10000 : Int) < (N : Int) := hbig
  have hcl := numbersUpTo_any N hN1 W0
  clear hx hlow hbig hxb
  rw [hW0] at x0 x1 x2 x3 x4 x5 x6 hck hcl
  go_enter Tryz.func139, Tryz.ntmps139
  go_wp2_with (go_at_call 218; refine hcl.mono ?_; rintro e w4 ⟨s, g, rfl, hs0, hg0, hsg, hbs, hbg, hb4⟩; rw [← hW0] at hs0 hg0 hb4; have R1 := hide hbs; have R2 := hide hbg; have HX := hide ((unhide E6).below (Nat.le_refl _) hb4); have HBX := hide ((unhide HB).trans (hb4.mono (unhide HB).size)); clear q0 q1 q2 q3 q4 q5 q6; obtain ⟨q0, q1, q2, q3, q4, q5, q6⟩ := (unhide HX).all; clear hbs hbg hb4)
  have hz0 := (unhide HB).size
  rw [unhide HS]
  have hx := (unhide HX).sets (c' := false) (u1 := .slice (some ⟨s, 0, none⟩) 1 1) (u2 := .slice (some ⟨g, 0, none⟩) N N)
  obtain ⟨s0, s1, s2, _, _, _⟩ := hx.all
  refine bodyPost_ret (v := .tuple #[.agg #[.bool false, .slice (some ⟨s, 0, none⟩) 1 1, .slice (some ⟨g, 0, none⟩) N N], .int .i64 0]) (by simp [results, Tryz.results139, go_sem, s0, s1, s2]) rfl ?_
  exact own_end (unhide HX) ((unhide R1).own rfl (by omega) (by omega)) ((unhide R2).own (upTo_len N) (by omega) (by omega)) (fun k h1 h2 => by have e1 := at_eq h1; have e2 := at_eq h2; omega) (unhide HBX) (by omega)

set_option maxRecDepth 20000 in
set_option maxHeartbeats 8000000 in
theorem mon_turn (op : Int) (c : Bool) (a1 a2 : Addr) (n1 n2 c1 c2 : Nat) (sh dt : List Int) (w : World) (h1 : Row w (some a1) n1 sh) (h2 : Row w (some a2) n2 dt) (hn5 : n1 ≤ 5) :
    Calls Tryz.prog 142 #[.int .i64 op, .agg #[.bool c, .slice (some a1) n1 c1, .slice (some a2) n2 c2]] w (GivesOwn w (transpose false c [(n1 : Int)] (downTo n1) sh dt)) := by
  have hl1 := hide h1.len
  have hl2 := hide h2.len
  have hs1 := h1.small
  have hs2 := h2.small
  have H1 := hide h1
  have H2 := hide h2
  clear h1 h2
  obtain ⟨W0, hW0⟩ : ∃ W0, W0 = (w.alloc (.cells #[.bool c, .slice (some a1) n1 c1, .slice (some a2) n2 c2] 25)).alloc (.cells #[.bool false, .slice none 0 0, .slice none 0 0] 25) := ⟨_, rfl⟩
  obtain ⟨B4, B5, hB0⟩ := boxes2 (w := w) (c := c) (v1 := .slice (some a1) n1 c1) (v2 := .slice (some a2) n2 c2) (Below.refl _ _)
  rw [← hW0] at B4 B5 hB0
  have E4 := hide B4
  have E6 := hide B5
  have HB := hide hB0
  obtain ⟨x0, x1, x2, x3, x4, x5, x6⟩ := B4.all
  have hz6 := (unhide E6).lt
  have K1 := hide ((unhide H1).below (Nat.le_refl _) hB0)
  have K2 := hide ((unhide H2).below (Nat.le_refl _) hB0)
  clear B4 B5 hB0
  have hcl := numbersUpTo_any n1 (by omega) W0
  rw [hW0] at hcl x0 x1 x2 x3 x4 x5 x6
  obtain ⟨rc, rsh, rdt, rp, hr⟩ : ∃ rc rsh rdt rp, transpose false c [(n1 : Int)] (downTo n1) sh dt = ⟨rc, rsh, rdt, rp⟩ := ⟨_, _, _, _, rfl⟩
  have HRR := hide hr
  rw [hr]
  clear hr
  go_enter Tryz.func142, Tryz.ntmps142
  go_upto_region 2 with (go_at_call 218; refine hcl.mono ?_; rintro e w4 ⟨s, g, rfl, hs0, hg0, hsg, hbs, hbg, hb4⟩; rw [← hW0] at hs0 hg0 hb4; have R1 := hide hbs; have R2 := hide hbg; have HK4 := hide hb4; clear hbs hbg hb4)
  clear hcl x0 x1 x2 x3 x4 x5 x6 hW0
  obtain ⟨W5, hW5⟩ : ∃ W, W = w4.alloc (.cells #[.bool false, .slice (some ⟨s, 0, none⟩) 1 1, .slice (some ⟨g, 0, none⟩) n1 n1] 25) := ⟨_, rfl⟩
  obtain ⟨p5, hp5⟩ : ∃ p, p = w4.heap.size := ⟨_, rfl⟩
  have hK5 : Below w4.heap.size w4 W5 := by rw [hW5]; exact (Below.refl _ _).alloc (Nat.le_refl _) _
  have HX5 : Hid (Box W5 p5 false (.slice (some ⟨s, 0, none⟩) 1 1) (.slice (some ⟨g, 0, none⟩) n1 n1)) := by rw [hW5, hp5]; exact Box.new _ _ _ _
  have S1 := hide ((unhide R1).below (Nat.le_refl _) hK5)
  have S2 := hide ((unhide R2).below (Nat.le_refl _) hK5)
  have HK : Hid (Below W0.heap.size W0 W5) := (unhide HK4).trans (hK5.mono (unhide HK4).size)
  have F4 := hide ((unhide E4).below (Nat.le_refl _) (unhide HK))
  have F6 := hide ((unhide E6).below (Nat.le_refl _) (unhide HK))
  have hsz := (unhide HK4).size
  have hgp : g < p5 := by rw [hp5]; exact (unhide R2).lt
  have hsp : s < p5 := by rw [hp5]; exact (unhide R1).lt
  rw [← hW5, ← hp5]
  clear hW5 hp5 hK5 R1 R2 HK4 E4 E6
  obtain ⟨y0, y1, y2, y3, y4, y5, y6⟩ := (unhide HX5).all
  have hrv := Reverse_blk g n1 n1 (upTo n1) W5 (unhide S2) (upTo_len n1) (by omega)
  rw [up_rev] at hrv
  go_upto_region 3 with (go_at_call 221; refine hrv.mono ?_; rintro e w6 ⟨rfl, hb6, hbt⟩; have T2 := hide hb6; have HBT := hide hbt; clear hb6 hbt)
  clear hrv y0 y1 y2 y3 y4 y5 y6
  have hz0 := (unhide HB).size
  have G4 := hide ((unhide F4).but (unhide HBT) (show ¬ w.heap.size = g by omega))
  have G6 := hide ((unhide F6).but (unhide HBT) (show ¬ w.heap.size + 1 = g by omega))
  have G5 := hide ((unhide HX5).but (unhide HBT) (show ¬ p5 = g by omega))
  have T1 : Hid (Blk w6 s [(n1 : Int)]) := ((unhide HBT).block s (by have := (unhide HX5).lt; omega) (by omega)).trans (unhide S1)
  have HB6 : Hid (Below w.heap.size w w6) := ((unhide HB).trans ((unhide HK).mono (unhide HB).size)).trans ((unhide HBT).below (by have := (unhide HK).size; omega) (fun y hy => by omega))
  have L1 := hide ((unhide H1).below (Nat.le_refl _) (unhide HB6))
  have L2 := hide ((unhide H2).below (Nat.le_refl _) (unhide HB6))
  clear S1 S2 F4 F6 HX5 HBT HK
  obtain ⟨x0, x1, x2, x3, x4, x5, x6⟩ := (unhide G4).all
  obtain ⟨y0, y1, y2, y3, y4, y5, y6⟩ := (unhide G5).all
  have htr := implTranspose_any false c ⟨s, 0, none⟩ ⟨g, 0, none⟩ a1 a2 1 n1 n1 n2 1 n1 c1 c2 [(n1 : Int)] (downTo n1) sh dt w6 ((unhide T1).row rfl (by omega)) ((unhide T2).row (downTo_len n1) (by omega)) (unhide L1) (unhide L2)
  rw [unhide HRR] at htr
  go_wp2_with (go_at_call 15; refine htr.mono ?_; rintro e w7 ⟨b1, m1, d1, b2, m2, d2, rfl, r1, r2, hap, hb7⟩; have Q1 := hide r1; have Q2 := hide r2; have HX := hide ((unhide G6).below (Nat.le_refl _) hb7); have HBX := hide ((unhide HB6).trans (hb7.mono (unhide HB6).size)); simp only; obtain ⟨q0, q1, q2, q3, q4, q5, q6⟩ := (unhide HX).all; clear r1 r2 hb7)
  have hx := (unhide HX).sets (c' := rc) (u1 := .slice b1 m1 d1) (u2 := .slice b2 m2 d2)
  obtain ⟨s0, s1, s2, _, _, _⟩ := hx.all
  refine bodyPost_ret (v := .tuple #[.agg #[.bool rc, .slice b1 m1 d1, .slice b2 m2 d2], .int .i64 rp]) (by simp [results, Tryz.results142, go_sem, s0, s1, s2]) rfl ?_
  exact own_end (unhide HX) ((unhide Q1).mono (unhide HB6).size) ((unhide Q2).mono (unhide HB6).size) hap (unhide HBX) (by omega)

end Go.Proofs.YtgjpchnkodnieaaGreatDoor
namespace Go.Proofs.YtgjpchnkodnieaaGreatDoor
open Go.RowKit Go.Shelf

theorem blk_one (V : World) (x : Int) : Blk (V.alloc (.cells #[.int .i64 x] 3)) V.heap.size [x] := World.alloc_heap_new V _

set_option maxRecDepth 20000 in
set_option maxHeartbeats 8000000 in
theorem mon_shape (op : Int) (c : Bool) (a1 a2 : Addr) (n1 n2 c1 c2 : Nat) (sh dt : List Int) (w : World) (h1 : Row w (some a1) n1 sh) (h2 : Row w (some a2) n2 dt) :
    Calls Tryz.prog 138 #[.int .i64 op, .agg #[.bool c, .slice (some a1) n1 c1, .slice (some a2) n2 c2]] w (GivesOwn w (⟨false, [(n1 : Int)], sh, 0⟩)) := by
  have hl1 := hide h1.len
  have hl2 := hide h2.len
  have hs1 := h1.small
  have hs2 := h2.small
  have H1 := hide h1
  have H2 := hide h2
  clear h1 h2
  obtain ⟨W0, hW0⟩ : ∃ W0, W0 = (w.alloc (.cells #[.bool c, .slice (some a1) n1 c1, .slice (some a2) n2 c2] 25)).alloc (.cells #[.bool false, .slice none 0 0, .slice none 0 0] 25) := ⟨_, rfl⟩
  obtain ⟨B4, B5, hB0⟩ := boxes2 (w := w) (c := c) (v1 := .slice (some a1) n1 c1) (v2 := .slice (some a2) n2 c2) (Below.refl _ _)
  rw [← hW0] at B4 B5 hB0
  have E4 := hide B4
  have E6 := hide B5
  have HB := hide hB0
  obtain ⟨x0, x1, x2, x3, x4, x5, x6⟩ := B4.all
  have hz6 := (unhide E6).lt
  have K1 := hide ((unhide H1).below (Nat.le_refl _) hB0)
  have K2 := hide ((unhide H2).below (Nat.le_refl _) hB0)
  clear B4 B5 hB0
  have hz0 := (unhide HB).size
  have hK0 : Below W0.heap.size W0 W0.drew := (Below.refl _ _).drew
  have HKEEP : ∀ wx, Below (w.heap.size + 1) W0 wx → Below (w.heap.size + 1) W0 wx ∧ wx.cell? ⟨w.heap.size, 1, none⟩ = some (.slice (some a1) n1 c1) := fun wx hwx => ⟨hwx, (((unhide E4).low (by omega) hwx).cells).2.1⟩
  have hR9 : ∀ wx, Below W0.heap.size W0 wx → Row wx (some a1) n1 sh := fun wx hwx => (unhide K1).below (Nat.le_refl _) hwx
  go_enter Tryz.func138, Tryz.ntmps138
  go_wp2_with fail
  rw [← hW0]
  clear hW0 x3 x4 x5
  go_region_held (fun wx => Below (w.heap.size + 1) W0 wx ∧ wx.cell? ⟨w.heap.size, 1, none⟩ = some (.slice (some a1) n1 c1)) (first | exact HKEEP _ (hK4.mono (by omega)) | exact HKEEP _ ((hK4.alloc hK4.size _).mono (by omega)) | exact HKEEP _ ((((hK4.mono (by omega)).setCell (by simp) _).setCell (by simp) _).setCell (by simp) _) | exact HKEEP _ ((((hK4.mono (by omega)).setCell (by simp) _).setCell (by simp) _).setCell (by simp) _ |>.alloc (by have := hK4.size; simp; omega) _) | exact HKEEP _ (hK0.mono (by omega)) | exact HKEEP _ ((hK0.alloc (by simp) _).mono (by omega)) | exact HKEEP _ ((((Below.refl _ _).alloc (Nat.le_refl _) _).drew).mono (by omega)))
    (first
    | (go_at_call 63; refine (Clone_opt (some a1) n1 c1 sh _ (by first | exact hR9 _ hK0 | exact hR9 _ (hK0.alloc (by simp) _) | exact hR9 _ ((Below.refl _ _).alloc (Nat.le_refl _) _).drew)).mono ?_; rintro e w4 ⟨g2, d2, rfl, _, ho, hb4⟩; have hK4 : Below W0.heap.size W0 w4 := (by first | exact hK0.trans (hb4.mono (by simp)) | exact (hK0.alloc (by simp) _).trans (hb4.mono (by simp)) | exact (((Below.refl _ _).alloc (Nat.le_refl _) _).drew).trans (hb4.mono (by simp))); (first | (with_reducible have hR1 := (blk_one _ _).below (Nat.le_refl _) hb4) | (with_reducible have hR1 := ((blk_one _ _).below (Nat.le_refl _) (Below.refl _ _).drew).below (Nat.le_refl _) hb4) | skip); (first | have hlo : ∀ k, At g2 n1 k → W0.heap.size + 1 ≤ k := (fun k hk => by have := ho.low hk; simpa using this) | skip); have R2 := hide ho; obtain ⟨q0, q1, q2, q3, q4, q5, q6⟩ := ((unhide E6).below (Nat.le_refl _) hK4).all; clear ho hb4))
  all_goals go_wp2_with fail
  all_goals
    have HX := hide ((unhide E6).below (Nat.le_refl _) hK4)
    have HBX := hide ((unhide HB).trans (hK4.mono (unhide HB).size))
    have hbz := (unhide HBX).size
    first
    | (have hx := (unhide HX).sets (c' := false) (u1 := .slice (some ⟨W0.heap.size, 0, none⟩) 1 1) (u2 := .slice g2 n1 d2)
       obtain ⟨s0, s1, s2, _, _, _⟩ := hx.all
       have hR1' : Blk w4 W0.heap.size [(n1 : Int)] := by simpa using hR1
       refine bodyPost_ret (v := .tuple #[.agg #[.bool false, .slice (some ⟨W0.heap.size, 0, none⟩) 1 1, .slice g2 n1 d2], .int .i64 0]) (by simp [results, Tryz.results138, go_sem, s0, s1, s2]) rfl ?_
       exact own_end (unhide HX) (hR1'.own rfl (by omega) (by omega)) ((unhide R2).mono (by simp; omega)) (fun k k1 k2 => by have e1 := at_eq k1; have e2 := hlo _ k2; omega) (unhide HBX) (by omega))
    | (have hx := (unhide HX).sets (c' := false) (u1 := .slice (some ⟨w4.heap.size, 0, none⟩) 1 1) (u2 := .slice g2 n1 d2)
       obtain ⟨s0, s1, s2, _, _, _⟩ := (hx.alloc (.cells #[.int .i64 (n1 : Nat)] 3)).all
       have hrv : Blk ((((w4.setCell ⟨w.heap.size + 1, 0, none⟩ (.bool false)).setCell ⟨w.heap.size + 1, 1, none⟩ (.slice (some ⟨w4.heap.size, 0, none⟩) 1 1)).setCell ⟨w.heap.size + 1, 2, none⟩ (.slice g2 n1 d2)).alloc (.cells #[.int .i64 (n1 : Nat)] 3)) w4.heap.size [(n1 : Int)] := by have := blk_one (((w4.setCell ⟨w.heap.size + 1, 0, none⟩ (.bool false)).setCell ⟨w.heap.size + 1, 1, none⟩ (.slice (some ⟨w4.heap.size, 0, none⟩) 1 1)).setCell ⟨w.heap.size + 1, 2, none⟩ (.slice g2 n1 d2)) (n1 : Int); simpa using this
       refine bodyPost_ret (v := .tuple #[.agg #[.bool false, .slice (some ⟨w4.heap.size, 0, none⟩) 1 1, .slice g2 n1 d2], .int .i64 0]) (by simp [results, Tryz.results138, go_sem, s0, s1, s2]) rfl ?_
       have e2 : ∀ k, At g2 n1 k → k ≠ w.heap.size + 1 := fun k hk => (unhide R2).row.notBox (unhide HX) hk
       have o2 := (((((unhide R2).mono (show w.heap.size ≤ _ by simp; omega)).other (q := ⟨w.heap.size + 1, 0, none⟩) e2 (.bool false)).other (q := ⟨w.heap.size + 1, 1, none⟩) e2 (.slice (some ⟨w4.heap.size, 0, none⟩) 1 1)).other (q := ⟨w.heap.size + 1, 2, none⟩) e2 (.slice g2 n1 d2)).alloc (.cells #[.int .i64 (n1 : Nat)] 3)
       exact ⟨_, _, _, _, _, _, rfl, hrv.own rfl (by omega) (by omega), o2, fun k k1 k2 => by have e1 := at_eq k1; have e3 := (unhide R2).row.hi k2; omega, Below.alloc ((((unhide HBX).setCell (by simp <;> omega) _).setCell (by simp <;> omega) _).setCell (by simp <;> omega) _) (by simp; omega) _⟩)

set_option maxRecDepth 20000 in
set_option maxHeartbeats 8000000 in
theorem mon_elements (op : Int) (c : Bool) (a1 a2 : Addr) (n1 n2 c1 c2 : Nat) (sh dt : List Int) (w : World) (h1 : Row w (some a1) n1 sh) (h2 : Row w (some a2) n2 dt) :
    Calls Tryz.prog 140 #[.int .i64 op, .agg #[.bool c, .slice (some a1) n1 c1, .slice (some a2) n2 c2]] w (GivesOwn w (⟨c, [(n2 : Int)], dt, 0⟩)) := by
  have hl1 := hide h1.len
  have hl2 := hide h2.len
  have hs1 := h1.small
  have hs2 := h2.small
  have H1 := hide h1
  have H2 := hide h2
  clear h1 h2
  obtain ⟨W0, hW0⟩ : ∃ W0, W0 = (w.alloc (.cells #[.bool c, .slice (some a1) n1 c1, .slice (some a2) n2 c2] 25)).alloc (.cells #[.bool false, .slice none 0 0, .slice none 0 0] 25) := ⟨_, rfl⟩
  obtain ⟨B4, B5, hB0⟩ := boxes2 (w := w) (c := c) (v1 := .slice (some a1) n1 c1) (v2 := .slice (some a2) n2 c2) (Below.refl _ _)
  rw [← hW0] at B4 B5 hB0
  have E4 := hide B4
  have E6 := hide B5
  have HB := hide hB0
  obtain ⟨x0, x1, x2, x3, x4, x5, x6⟩ := B4.all
  have hz6 := (unhide E6).lt
  have K1 := hide ((unhide H1).below (Nat.le_refl _) hB0)
  have K2 := hide ((unhide H2).below (Nat.le_refl _) hB0)
  clear B4 B5 hB0
  have hz0 := (unhide HB).size
  have hK0 : Below W0.heap.size W0 W0.drew := (Below.refl _ _).drew
  have HKEEP : ∀ wx, Below (w.heap.size + 1) W0 wx → Below (w.heap.size + 1) W0 wx ∧ wx.cell? ⟨w.heap.size, 0, none⟩ = some (.bool c) ∧ wx.cell? ⟨w.heap.size, 2, none⟩ = some (.slice (some a2) n2 c2) := fun wx hwx => ⟨hwx, (((unhide E4).low (by omega) hwx).cells).1, (((unhide E4).low (by omega) hwx).cells).2.2⟩
  have hR9 : ∀ wx, Below W0.heap.size W0 wx → Row wx (some a2) n2 dt := fun wx hwx => (unhide K2).below (Nat.le_refl _) hwx
  go_enter Tryz.func140, Tryz.ntmps140
  go_wp2_with fail
  rw [← hW0]
  clear hW0 x3 x4 x5
  go_region_held (fun wx => Below (w.heap.size + 1) W0 wx ∧ wx.cell? ⟨w.heap.size, 0, none⟩ = some (.bool c) ∧ wx.cell? ⟨w.heap.size, 2, none⟩ = some (.slice (some a2) n2 c2)) (first | exact HKEEP _ (hK4.mono (by omega)) | exact HKEEP _ ((hK4.alloc hK4.size _).mono (by omega)) | exact HKEEP _ ((((hK4.mono (by omega)).setCell (by simp) _).setCell (by simp) _).setCell (by simp) _) | exact HKEEP _ ((((hK4.mono (by omega)).setCell (by simp) _).setCell (by simp) _).setCell (by simp) _ |>.alloc (by have := hK4.size; simp; omega) _) | exact HKEEP _ (hK0.mono (by omega)) | exact HKEEP _ ((hK0.alloc (by simp) _).mono (by omega)) | exact HKEEP _ ((((Below.refl _ _).alloc (Nat.le_refl _) _).drew).mono (by omega)))
    (first
    | (go_at_call 63; refine (Clone_opt (some a2) n2 c2 dt _ (by first | exact hR9 _ hK0 | exact hR9 _ (hK0.alloc (by simp) _) | exact hR9 _ ((Below.refl _ _).alloc (Nat.le_refl _) _).drew)).mono ?_; rintro e w4 ⟨g2, d2, rfl, _, ho, hb4⟩; have hK4 : Below W0.heap.size W0 w4 := (by first | exact hK0.trans (hb4.mono (by simp)) | exact (hK0.alloc (by simp) _).trans (hb4.mono (by simp)) | exact (((Below.refl _ _).alloc (Nat.le_refl _) _).drew).trans (hb4.mono (by simp))); (first | (with_reducible have hR1 := (blk_one _ _).below (Nat.le_refl _) hb4) | (with_reducible have hR1 := ((blk_one _ _).below (Nat.le_refl _) (Below.refl _ _).drew).below (Nat.le_refl _) hb4) | skip); (first | have hlo : ∀ k, At g2 n2 k → W0.heap.size + 1 ≤ k := (fun k hk => by have := ho.low hk; simpa using this) | skip); have R2 := hide ho; obtain ⟨q0, q1, q2, q3, q4, q5, q6⟩ := ((unhide E6).below (Nat.le_refl _) hK4).all; clear ho hb4))
  all_goals go_wp2_with fail
  all_goals
    have HX := hide ((unhide E6).below (Nat.le_refl _) hK4)
    have HBX := hide ((unhide HB).trans (hK4.mono (unhide HB).size))
    have hbz := (unhide HBX).size
    first
    | (have hx := (unhide HX).sets (c' := c) (u1 := .slice (some ⟨W0.heap.size, 0, none⟩) 1 1) (u2 := .slice g2 n2 d2)
       obtain ⟨s0, s1, s2, _, _, _⟩ := hx.all
       have hR1' : Blk w4 W0.heap.size [(n2 : Int)] := by simpa using hR1
       refine bodyPost_ret (v := .tuple #[.agg #[.bool c, .slice (some ⟨W0.heap.size, 0, none⟩) 1 1, .slice g2 n2 d2], .int .i64 0]) (by simp [results, Tryz.results140, go_sem, s0, s1, s2]) rfl ?_
       exact own_end (unhide HX) (hR1'.own rfl (by omega) (by omega)) ((unhide R2).mono (by simp; omega)) (fun k k1 k2 => by have e1 := at_eq k1; have e2 := hlo _ k2; omega) (unhide HBX) (by omega))
    | (have hx := (unhide HX).sets (c' := c) (u1 := .slice (some ⟨w4.heap.size, 0, none⟩) 1 1) (u2 := .slice g2 n2 d2)
       obtain ⟨s0, s1, s2, _, _, _⟩ := (hx.alloc (.cells #[.int .i64 (n2 : Nat)] 3)).all
       have hrv : Blk ((((w4.setCell ⟨w.heap.size + 1, 0, none⟩ (.bool c)).setCell ⟨w.heap.size + 1, 1, none⟩ (.slice (some ⟨w4.heap.size, 0, none⟩) 1 1)).setCell ⟨w.heap.size + 1, 2, none⟩ (.slice g2 n2 d2)).alloc (.cells #[.int .i64 (n2 : Nat)] 3)) w4.heap.size [(n2 : Int)] := by have := blk_one (((w4.setCell ⟨w.heap.size + 1, 0, none⟩ (.bool c)).setCell ⟨w.heap.size + 1, 1, none⟩ (.slice (some ⟨w4.heap.size, 0, none⟩) 1 1)).setCell ⟨w.heap.size + 1, 2, none⟩ (.slice g2 n2 d2)) (n2 : Int); simpa using this
       refine bodyPost_ret (v := .tuple #[.agg #[.bool c, .slice (some ⟨w4.heap.size, 0, none⟩) 1 1, .slice g2 n2 d2], .int .i64 0]) (by simp [results, Tryz.results140, go_sem, s0, s1, s2]) rfl ?_
       have e2 : ∀ k, At g2 n2 k → k ≠ w.heap.size + 1 := fun k hk => (unhide R2).row.notBox (unhide HX) hk
       have o2 := (((((unhide R2).mono (show w.heap.size ≤ _ by simp; omega)).other (q := ⟨w.heap.size + 1, 0, none⟩) e2 (.bool c)).other (q := ⟨w.heap.size + 1, 1, none⟩) e2 (.slice (some ⟨w4.heap.size, 0, none⟩) 1 1)).other (q := ⟨w.heap.size + 1, 2, none⟩) e2 (.slice g2 n2 d2)).alloc (.cells #[.int .i64 (n2 : Nat)] 3)
       exact ⟨_, _, _, _, _, _, rfl, hrv.own rfl (by omega) (by omega), o2, fun k k1 k2 => by have e1 := at_eq k1; have e3 := (unhide R2).row.hi k2; omega, Below.alloc ((((unhide HBX).setCell (by simp <;> omega) _).setCell (by simp <;> omega) _).setCell (by simp <;> omega) _) (by simp; omega) _⟩)

end Go.Proofs.YtgjpchnkodnieaaGreatDoor
namespace Go.Proofs
open Go.Shelf
def Tryz.growI_ren : Go.Shelf.Ren := ⟨fun | 4 => 185 | n => n, fun | 22 => 23 | 25 => 3 | 3 => 3 | 4 => 4 | 9 => 9 | 20 => 20 | 0 => 0 | n => n, fun | n => n⟩
theorem Tryz.growI : Go.Proofs.Lays8.n4 Tryz.prog Tryz.growI_ren := {
  mixed := by kernel_rfl
  f4 := ⟨Tryz.f185.name, by decide, Tryz.func185.trans (congrArg some (by kernel_rfl))⟩
  t0 := Tryz.underlying0
  a0 := Tryz.isAgg0
  z0 := Tryz.sizeOf0
  v0 := Tryz.zeroValue0
  t3 := Tryz.underlying3
  a3 := Tryz.isAgg3
  z3 := Tryz.sizeOf3
  v3 := Tryz.zeroValue3
  t4 := Tryz.underlying4
  a4 := Tryz.isAgg4
  z4 := Tryz.sizeOf4
  v4 := Tryz.zeroValue4
  t9 := Tryz.underlying9
  a9 := Tryz.isAgg9
  z9 := Tryz.sizeOf9
  v9 := Tryz.zeroValue9
  t20 := Tryz.underlying20
  a20 := Tryz.isAgg20
  z20 := Tryz.sizeOf20
  v20 := Tryz.zeroValue20
  t22 := Tryz.underlying23
  a22 := Tryz.isAgg23
  z22 := Tryz.sizeOf23
  v22 := Tryz.zeroValue23 }
end Go.Proofs
namespace Go.Proofs.YtgjpchnkodnieaaGreatDoor
open Go.RowKit Go.Shelf

theorem zero_cells_len (n : Nat) : (Builtin.zeroCells (Value.int .i64 0).cells n).size = n := by
  simp [Builtin.zeroCells, Value.cells]

theorem Grow_own (n : Nat) (w : World) (hn : n ≤ 17592186044416) : Calls Tryz.prog 185 #[.slice none 0 0, .int .i64 (n : Nat)] w fun e w' => ∃ v, e = .returned v ∧ w'.ownsRow w.heap.size 3 1 v 0 [] ∧ Below w.heap.size w w' := by
  obtain ⟨i0, hi, hz0, hz1, hz2⟩ := info_parts info_int
  by_cases h0 : n = 0
  · subst h0
    refine (Any8.slices_Grow_room Tryz.growI none 0 0 0 w (Nat.le_refl _) (by omega) (by omega) (by omega)).mono ?_
    rintro e w' ⟨rfl, rfl⟩
    exact ⟨_, rfl, ⟨rfl, .inl ⟨rfl, rfl⟩⟩, Below.refl _ _⟩
  · refine (Any8.slices_Grow_grow Tryz.growI i0 (.int .i64 0) hi hz0 (by rw [hz1]; omega) none 0 0 n [] w (Nat.le_refl _) (by omega) (by rw [hz2]; omega) (by omega) (by simp) (fun _ => rfl) (fun a ha => by cases ha)).mono ?_
    rintro e w' ⟨rfl, rfl⟩
    have hge := grownCap_ge w (0 + n) 0 (Tryz.growI_ren.t 25)
    have hle := grownCap_le_maxLen w (0 + n) 0 (Tryz.growI_ren.t 25) (by unfold maxLen; omega)
    refine ⟨_, rfl, ⟨rfl, .inr ⟨w.heap.size, _, _, rfl, Nat.le_refl _, by exact heap_alloc_last w.drew _, Nat.zero_le _, hle, ?_, rfl⟩⟩, (Below.refl _ _).drew.alloc (by simp) _⟩
    simp only [Nat.zero_add] at hge
    simp only [Array.size_append, zero_cells_len]
    simp
    omega

theorem below_append0 {w w1 : World} {base n : Nat} {v : Value} {xs : List Value} (hown : w.ownsRow base 3 1 v n xs) (hb : base ≤ w.heap.size) (hg : w.grownBy w1 v.ownBlock) : Below base w w1 :=
  (Below.refl _ _).grown hg hb (by
    intro k hk
    rcases hown.2 with ⟨rfl, _⟩ | ⟨g, cap, cur, rfl, hbg, _⟩
    · cases hk
    · cases hk; exact hbg)

set_option maxRecDepth 20000 in
set_option maxHeartbeats 2000000 in
theorem Concat2_any (bs : Nat) (a b : Addr) (n m ca cb : Nat) (xs ys : List Int) (w : World) (h0 : w.cell? ⟨bs, 0, none⟩ = some (.slice (some a) n ca)) (h1 : w.cell? ⟨bs, 1, none⟩ = some (.slice (some b) m cb)) (hx : Row w (some a) n xs) (hy : Row w (some b) m ys) (hn : n ≤ 1000000) (hm : m ≤ 1000000) :
    Calls Tryz.prog 113 #[.slice (some ⟨bs, 0, none⟩) 2 2] w fun e w' => ∃ a' cap', e = .returned (.slice a' (n + m) cap') ∧ Own w' w.heap.size a' (n + m) (xs ++ ys) ∧ Below w.heap.size w w' := by
  have hl1 := hx.len
  have hl2 := hy.len
  have HX := hide hx
  have HY := hide hy
  clear hx hy
  have hbs := World.block_lt_of_cell? _ _ h0
  obtain ⟨i0, hi, hz0, hz1, hz2⟩ := info_parts info_int
  have hs1 : (n : Int) + (m : Int) = ((n + m : Nat) : Int) := by simp
  obtain ⟨s, hs⟩ : ∃ s, s = n + m := ⟨_, rfl⟩
  rw [← hs] at hs1
  have HS := hide hs
  have hsb : s ≤ 2000000 := by omega
  clear hs
  go_enter Tryz.func113, Tryz.ntmps113
  go_wp2
  refine wp_loop_rounds 3 ?_
  rw [rounds_succ]
  go_wp2
  rw [rounds_succ]
  go_wp2
  rw [rounds_succ]
  go_wp2_with fail
  refine (Grow_own s w (by omega)).mono ?_
  rintro e w1 ⟨v, rfl, hown, hb1⟩
  have k0 := (hb1.cell (p := ⟨bs, 0, none⟩) hbs).trans h0
  have k1 := (hb1.cell (p := ⟨bs, 1, none⟩) hbs).trans h1
  have hsz := hb1.size
  have HB1 := hide hb1
  have HC1 := hide h1
  clear hb1 h0 h1
  go_wp2
  refine wp_loop_rounds 3 ?_
  rw [rounds_succ]
  obtain ⟨av, cv, rfl⟩ := owns_slice hown
  go_wp2_with (at_builtin; refine wpList_append_own _ rfl _ _ 23 rfl w.heap.size 3 i0 (.int .i64 0) 1 8 Tryz.underlying23 hi hz0 hz1 hz2 rfl (by decide) _ _ _ rfl hown a n ca (xs.map (Value.int .i64)) rfl (by simpa using hl1) (cells_ints ((unhide HX).below (Nat.le_refl _) (unhide HB1))) (one_ints xs) (by unfold maxLen; omega) (by omega) (by omega) ?_; intro v1 w2 hown1 hgrow1 hnil1; clear hnil1; have HB2 := hide ((unhide HB1).trans (below_append0 hown hsz hgrow1)); have hsz2 := (unhide HB2).size; clear hgrow1 hown k0 k1; have k1 := ((unhide HB2).cell (p := ⟨bs, 1, none⟩) hbs).trans (unhide HC1); obtain ⟨av1, cv1, rfl⟩ := owns_slice hown1)
  have hown1' : w2.ownsRow w.heap.size 3 1 (.slice av1 n cv1) n (xs.map (Value.int .i64)) := by simpa using hown1
  clear hown1
  rw [rounds_succ]
  go_wp2_with (at_builtin; refine wpList_append_own _ rfl _ _ 23 rfl w.heap.size 3 i0 (.int .i64 0) 1 8 Tryz.underlying23 hi hz0 hz1 hz2 rfl (by decide) _ _ _ rfl hown1' b m cb (ys.map (Value.int .i64)) rfl (by simpa using hl2) (cells_ints ((unhide HY).below (Nat.le_refl _) (unhide HB2))) (one_ints ys) (by unfold maxLen; omega) (by omega) (by omega) ?_; intro v2 w3 hown2 hgrow2 hnil2; clear hnil2; have HB3 := hide ((unhide HB2).trans (below_append0 hown1' hsz2 hgrow2)); clear hgrow2 hown1' k1; obtain ⟨av2, cv2, rfl⟩ := owns_slice hown2)
  rw [rounds_succ]
  go_wp2
  go_ret
  obtain ⟨a', cap', he, hO⟩ := Own.of_owns (zs := xs ++ ys) (by rw [List.map_append]; exact hown2) (by omega)
  cases he
  exact ⟨_, _, rfl, hO, unhide HB3⟩

end Go.Proofs.YtgjpchnkodnieaaGreatDoor
namespace Go.Proofs.YtgjpchnkodnieaaGreatDoor
open Go.RowKit Go.Shelf

theorem Row.takeS {w : World} {b off n k : Nat} {zs : List Int} (h : Row w (some ⟨b, off, none⟩) n zs) (hk : k ≤ n) : Row w (some ⟨b, off, none⟩) k (zs.take k) := by
  have hl := h.len
  refine ⟨by simp; omega, by have := h.small; omega, ?_⟩
  rcases h.at_ with h0 | ⟨b', o', e, hlt, hc⟩
  · exact .inl (by omega)
  · cases e
    refine .inr ⟨b, off, rfl, hlt, fun i hi => ?_⟩
    rw [hc i (by omega)]
    simp [List.getD_eq_getElem?_getD, hi]

theorem Row.dropS {w : World} {b off n k : Nat} {zs : List Int} (h : Row w (some ⟨b, off, none⟩) n zs) (hk : k ≤ n) : Row w (some ⟨b, off + k, none⟩) (n - k) (zs.drop k) := by
  have hl := h.len
  refine ⟨by simp; omega, by have := h.small; omega, ?_⟩
  rcases h.at_ with h0 | ⟨b', o', e, hlt, hc⟩
  · exact .inl (by omega)
  · cases e
    refine .inr ⟨b, off + k, rfl, hlt, fun i hi => ?_⟩
    rw [show off + k + i = off + (k + i) by omega, hc (k + i) (by omega)]
    simp [List.getD_eq_getElem?_getD, List.getElem?_drop]

theorem Row.zeroS {w : World} {a : Option Addr} {zs : List Int} (h : zs = []) : Row w a 0 zs := ⟨by rw [h]; rfl, by omega, .inl rfl⟩

theorem Row.zeroS' {w : World} {a : Option Addr} {zs : List Int} {n : Nat} (h : zs.length = n + 1) : Row w a (n + 1 - (n + 1)) (zs.drop (n + 1)) := by
  rw [Nat.sub_self]; exact Row.zeroS (List.drop_of_length_le (by omega))

theorem cellsOf_eq (a : Option Addr) (n cap : Nat) (sh : List Int) (w : World) (h : Row w a n sh) (hin : ShapeIn sh) (r : Int) (hr : Hid (prodAll sh = r)) : Calls Tryz.prog 116 #[.slice a n cap] w fun e w' => e = .returned (.int .i64 r) ∧ w' = w := by
  rw [← unhide hr]
  exact cellsOf_any a n cap sh w h (fun k => (hin.take k).bd)

/-- What axisOf answers. -/
def AxisOk (w : World) (B N A : Int) (others : List Int) (e : Ending) (w' : World) : Prop :=
  ∃ oa ol oc, e = .returned (.agg #[.int .i64 B, .int .i64 N, .int .i64 A, .slice oa ol oc]) ∧ Own w' (w.heap.size + 1) oa ol others ∧ Below w.heap.size w w'

end Go.Proofs.YtgjpchnkodnieaaGreatDoor
namespace Go.Proofs.YtgjpchnkodnieaaGreatDoor
open Go.RowKit Go.Shelf

/-- The end of axisOf: the answer's four fields are stored. -/
theorem axis_end {w wD : World} {B N A : Int} {oa : Option Addr} {ol oc : Nat} {zs : List Int} {x0 x1 x2 x3 : Value} (hO : Own wD (w.heap.size + 1) oa ol zs) (hb : Below w.heap.size w wD) :
    AxisOk w B N A zs (.returned (.agg #[.int .i64 B, .int .i64 N, .int .i64 A, .slice oa ol oc])) ((((wD.setCell ⟨w.heap.size, 0, none⟩ x0).setCell ⟨w.heap.size, 1, none⟩ x1).setCell ⟨w.heap.size, 2, none⟩ x2).setCell ⟨w.heap.size, 3, none⟩ x3) := by
  have hk : ∀ k, At oa ol k → k ≠ w.heap.size := fun k hk => by have := hO.low hk; omega
  exact ⟨oa, ol, oc, rfl, (((hO.other hk _).other hk _).other hk _).other hk _, (((hb.setCell (Nat.le_refl _) _).setCell (Nat.le_refl _) _).setCell (Nat.le_refl _) _).setCell (Nat.le_refl _) _⟩

theorem axis_box {w W0 : World} (h : W0.heap[w.heap.size]? = some (.cells #[.int .i64 0, .int .i64 0, .int .i64 0, .slice none 0 0] 133 (0, 0))) (wx : World) (hx : Below W0.heap.size W0 wx) :
    w.heap.size < wx.heap.size ∧ (wx.cell? ⟨w.heap.size, 0, none⟩ = some (.int .i64 0) ∧ wx.cell? ⟨w.heap.size, 1, none⟩ = some (.int .i64 0) ∧ wx.cell? ⟨w.heap.size, 2, none⟩ = some (.int .i64 0) ∧ wx.cell? ⟨w.heap.size, 3, none⟩ = some (.slice none 0 0)) ∧ wx.frozen? ⟨w.heap.size, 0, none⟩ = false ∧ wx.frozen? ⟨w.heap.size, 1, none⟩ = false ∧ wx.frozen? ⟨w.heap.size, 2, none⟩ = false ∧ wx.frozen? ⟨w.heap.size, 3, none⟩ = false := by
  have hAB := (hx.block _ (lt_of_block h)).trans h
  exact ⟨lt_of_block hAB, ⟨cell_of_row _ _ 0 _ _ _ hAB, cell_of_row _ _ 1 _ _ _ hAB, cell_of_row _ _ 2 _ _ _ hAB, cell_of_row _ _ 3 _ _ _ hAB⟩, frozen_of_row _ _ 0 _ _ hAB, frozen_of_row _ _ 1 _ _ hAB, frozen_of_row _ _ 2 _ _ hAB, frozen_of_row _ _ 3 _ _ hAB⟩

set_option maxRecDepth 20000 in
set_option maxHeartbeats 8000000 in
theorem axisOf_pos (fl : Bool) (b off n c bg : Nat) (sh : List Int) (B N A : Int) (w : World) (h : Row w (some ⟨b, off, none⟩) (n + 1) sh) (hc : n + 1 ≤ c) (hin : ShapeIn sh) (hl5 : n + 1 ≤ 5) (hbg : (fl = true ∧ bg = 0) ∨ (fl = false ∧ bg = n)) (hB : prodAll (sh.take bg) = B) (hN : prodAll ((sh.drop bg).take 1) = N) (hA : prodAll (sh.drop (bg + 1)) = A) :
    Calls Tryz.prog 112 #[.slice (some ⟨b, off, none⟩) (n + 1) c, .bool fl] w (AxisOk w B N A (sh.take bg ++ sh.drop (bg + 1))) := by
  have hs := h.small
  have hbn : bg ≤ n := by omega
  have HIF : Hid (ShapeIn (sh.take bg)) := hin.take _
  have HIM : Hid (ShapeIn ((sh.drop bg).take 1)) := (hin.drop _).take _
  have HIB : Hid (ShapeIn (sh.drop (bg + 1))) := hin.drop _
  have HRF : Hid (Row w (some ⟨b, off, none⟩) bg (sh.take bg)) := h.takeS (by omega)
  have HRM : Hid (Row w (some ⟨b, off + bg, none⟩) 1 ((sh.drop bg).take 1)) := (h.dropS (by omega)).takeS (by omega)
  have HRD : Hid (Row w (some ⟨b, off + (bg + 1), none⟩) (n + 1 - (bg + 1)) (sh.drop (bg + 1))) := h.dropS (by omega)
  have HPB := hide hB
  have HPN := hide hN
  have HPA := hide hA
  have HLN := hide h.len
  clear h hB hN hA
  have hf5 : bg ≤ 1000000 := by omega
  have hk5 : n + 1 - (bg + 1) ≤ 1000000 := by omega
  go_enter Tryz.func112, Tryz.ntmps112
  go_upto_if 15 with fail
  go_cut [5, 6] (fun s5 s6 wr => s5 = .int .i64 (bg : Nat) ∧ s6 = .int .i64 ((bg : Int) + 1) ∧ wr = (w.alloc (.cells #[.int .i64 0, .int .i64 0, .int .i64 0, .slice none 0 0] 133)))
  case first =>
    rcases hbg with ⟨rfl, rfl⟩ | ⟨rfl, rfl⟩
    · go_wp2
      all_goals (go_meet; case rel => exact ⟨rfl, by go_num, rfl⟩)
    · go_wp2
      all_goals (go_meet; case rel => exact ⟨rfl, by go_num, rfl⟩)
  case rest =>
    obtain ⟨rfl, rfl, rfl⟩ := hcut
    clear hbg
    go_upto_region 4 with fail
    go_cut [7, 8] (fun s7 s8 wr => s7 = .slice (some ⟨b, off, none⟩) bg c ∧ (∃ pb cb, s8 = .slice (some pb) (n + 1 - (bg + 1)) cb ∧ Hid (Row w (some pb) (n + 1 - (bg + 1)) (sh.drop (bg + 1)))) ∧ ∃ nq, wr = ((w.alloc (.cells #[.int .i64 0, .int .i64 0, .int .i64 0, .slice none 0 0] 133)).drewN nq))
    case first =>
      by_cases hc1 : c = bg + 1
      · subst hc1
        have hbn' : n = bg := by omega
        subst hbn'
        go_quiet (fail)
        go_wp2
        all_goals (go_meet; case rel => exact ⟨rfl, ⟨⟨b, off, none⟩, 0, by simp, Row.zeroS' (unhide HLN)⟩, _, rfl⟩)
      · have hc2 : bg + 1 < c := by omega
        clear hc1
        go_quiet (fail)
        go_wp2
        all_goals (go_meet; case rel => exact ⟨rfl, ⟨⟨b, off + (bg + 1), none⟩, c - (bg + 1), by simp, HRD⟩, _, rfl⟩)
    case rest =>
      obtain ⟨rfl, ⟨pb, cb, rfl, HRB⟩, nq, rfl⟩ := hcut
      clear HRD
      obtain ⟨kn, hkn⟩ : ∃ kn, n + 1 - (bg + 1) = kn := ⟨_, rfl⟩
      rw [hkn] at hk5 HRB ⊢
      have hcb : bg + 1 ≤ c := by omega
      have hcb2 : bg < c := by omega
      clear hkn
      go_upto_region 5 with fail
      obtain ⟨W0, hW0⟩ : ∃ W0, W0 = ((w.alloc (.cells #[.int .i64 0, .int .i64 0, .int .i64 0, .slice none 0 0] 133)).drewN nq) := ⟨_, rfl⟩
      have hK0 : Below w.heap.size w W0 := by rw [hW0]; exact Below.drewN ((Below.refl _ _).alloc (Nat.le_refl _) _) _
      have hz0 : W0.heap.size = w.heap.size + 1 := by rw [hW0]; simp
      have AB := hide (axis_box (w := w) (W0 := W0) (by rw [hW0]; exact heap_alloc_last w _))
      rw [← hW0]
      clear hW0
      go_region_held (fun wx => Below w.heap.size W0 wx) (first | (repeat (first | exact hKD.mono (by omega) | exact Below.refl _ _ | refine Below.drew ?_ | refine Below.setCell ?_ (by first | omega | (simp <;> omega)) _ | refine Below.alloc ?_ (by first | omega | (simp <;> omega)) _)))
        (first
        | (go_at_call_of 116 (Value.slice (some ⟨b, off, none⟩) bg c); refine (cellsOf_eq _ _ _ (sh.take bg) _ (by first | exact (unhide HRF).below (Nat.le_refl _) hK0.drew | exact (unhide HRF).below (Nat.le_refl _) (hK0.alloc (by omega) _).drew) (unhide HIF) _ HPB).mono ?_; rintro e wA ⟨rfl, rfl⟩)
        | (go_at_call_of 116 (Value.slice (some ⟨b, off + bg, none⟩) 1 (c - bg)); refine (cellsOf_eq _ _ _ ((sh.drop bg).take 1) _ (by first | exact (unhide HRM).below (Nat.le_refl _) hK0.drew | exact (unhide HRM).below (Nat.le_refl _) (hK0.alloc (by omega) _).drew) (unhide HIM) _ HPN).mono ?_; rintro e wA ⟨rfl, rfl⟩)
        | (go_at_call 116; refine (cellsOf_eq _ _ _ (sh.drop (bg + 1)) _ (by first | exact (unhide HRB).below (Nat.le_refl _) hK0.drew | exact (unhide HRB).below (Nat.le_refl _) (hK0.alloc (by omega) _).drew) (unhide HIB) _ HPA).mono ?_; rintro e wA ⟨rfl, rfl⟩)
        | (go_at_call 113; rw [← hz0]; refine (Concat2_any W0.heap.size _ _ _ _ _ _ (sh.take bg) (sh.drop (bg + 1)) _ (cell_of_row _ _ 0 _ _ (0, 0) (heap_alloc_last W0 _)) (cell_of_row _ _ 1 _ _ (0, 0) (heap_alloc_last W0 _)) ((unhide HRF).below (Nat.le_refl _) (hK0.alloc (by omega) _).drew) ((unhide HRB).below (Nat.le_refl _) (hK0.alloc (by omega) _).drew) hf5 hk5).mono ?_; rintro e wD ⟨oa, oc, rfl, hO, hbD⟩; have hKD : Below W0.heap.size W0 wD := ((Below.refl _ _).alloc (Nat.le_refl _) _).drew.trans (hbD.mono (by simp)); have HO := hide (hO.mono (B' := w.heap.size + 1) (by simp; omega)); obtain ⟨hwl, ⟨q0, q1, q2, q3⟩, f0, f1, f2, f3⟩ := unhide AB _ hKD; clear hbD hO))
      all_goals go_wp2
      all_goals refine bodyPost_ret (v := .agg #[.int .i64 B, .int .i64 N, .int .i64 A, .slice oa _ oc]) (by simp [results, Tryz.results112, go_sem, q0, q1, q2, q3]; try rfl) rfl ?_
      all_goals exact axis_end (unhide HO) (hK0.trans (hKD.mono (by omega)))

end Go.Proofs.YtgjpchnkodnieaaGreatDoor
namespace Go.Proofs.YtgjpchnkodnieaaGreatDoor
open Go.RowKit Go.Shelf

theorem shapeIn_nil : ShapeIn [] := by
  have h : arrOk false [] [0] = true := by decide
  exact (shapeIn_of h).1

set_option maxRecDepth 20000 in
set_option maxHeartbeats 8000000 in
theorem axisOf_zero (fl : Bool) (a : Addr) (c : Nat) (w : World) :
    Calls Tryz.prog 112 #[.slice (some a) 0 c, .bool fl] w (AxisOk w 1 1 1 []) := by
  obtain ⟨b, off, sp⟩ := a
  have HP : Hid (prodAll [] = 1) := rfl
  have HI := hide shapeIn_nil
  go_enter Tryz.func112, Tryz.ntmps112
  go_upto_if 15 with fail
  go_cut [5, 6] (fun s5 s6 wr => s5 = .int .i64 0 ∧ s6 = .int .i64 0 ∧ wr = (w.alloc (.cells #[.int .i64 0, .int .i64 0, .int .i64 0, .slice none 0 0] 133)))
  case first =>
    cases fl
    all_goals go_wp2
    all_goals (go_meet; case rel => exact ⟨rfl, rfl, rfl⟩)
  case rest =>
    obtain ⟨rfl, rfl, rfl⟩ := hcut
    go_upto_region 4 with fail
    go_cut [7, 8] (fun s7 s8 wr => (∃ pf cf, s7 = .slice (some pf) 0 cf) ∧ (∃ pb cb, s8 = .slice (some pb) 0 cb) ∧ ∃ nq, wr = ((w.alloc (.cells #[.int .i64 0, .int .i64 0, .int .i64 0, .slice none 0 0] 133)).drewN nq))
    case first =>
      by_cases hc : c = 0
      · subst hc
        go_quiet (fail)
        go_wp2
        all_goals (go_meet; case rel => exact ⟨⟨_, _, rfl⟩, ⟨_, _, rfl⟩, _, rfl⟩)
      · have hc2 : 0 < c := by omega
        go_quiet (fail)
        go_wp2
        all_goals (go_meet; case rel => exact ⟨⟨_, _, rfl⟩, ⟨_, _, rfl⟩, _, rfl⟩)
    case rest =>
      obtain ⟨⟨pf, cf, rfl⟩, ⟨pb, cb, rfl⟩, nq, rfl⟩ := hcut
      obtain ⟨W0, hW0⟩ : ∃ W0, W0 = ((w.alloc (.cells #[.int .i64 0, .int .i64 0, .int .i64 0, .slice none 0 0] 133)).drewN nq) := ⟨_, rfl⟩
      have hK0 : Below w.heap.size w W0 := by rw [hW0]; exact Below.drewN ((Below.refl _ _).alloc (Nat.le_refl _) _) _
      have hz0 : W0.heap.size = w.heap.size + 1 := by rw [hW0]; simp
      have AB := hide (axis_box (w := w) (W0 := W0) (by rw [hW0]; exact heap_alloc_last w _))
      rw [← hW0]
      clear hW0
      go_upto_region 5 with fail
      by_cases hc : c = 0
      · subst hc
        go_region_held (fun wx => Below w.heap.size W0 wx) (first | (repeat (first | exact hKD.mono (by omega) | exact Below.refl _ _ | refine Below.drew ?_ | refine Below.setCell ?_ (by first | omega | (simp <;> omega)) _ | refine Below.alloc ?_ (by first | omega | (simp <;> omega)) _)))
          (first
          | (go_at_call 116; refine (cellsOf_eq _ _ _ [] _ (Row.zeroS rfl) (unhide HI) _ HP).mono ?_; rintro e wA ⟨rfl, rfl⟩)
          | (go_at_call 113; rw [← hz0]; refine (Concat2_any W0.heap.size _ _ _ _ _ _ [] [] _ (cell_of_row _ _ 0 _ _ (0, 0) (heap_alloc_last W0 _)) (cell_of_row _ _ 1 _ _ (0, 0) (heap_alloc_last W0 _)) (Row.zeroS rfl) (Row.zeroS rfl) (by omega) (by omega)).mono ?_; rintro e wD ⟨oa, oc, rfl, hO, hbD⟩; have hKD : Below W0.heap.size W0 wD := ((Below.refl _ _).alloc (Nat.le_refl _) _).drew.trans (hbD.mono (by simp)); have HO := hide (hO.mono (B' := w.heap.size + 1) (by simp; omega)); obtain ⟨hwl, ⟨q0, q1, q2, q3⟩, f0, f1, f2, f3⟩ := unhide AB _ hKD; clear hbD hO))
        all_goals go_wp2
        all_goals refine bodyPost_ret (v := .agg #[.int .i64 1, .int .i64 1, .int .i64 1, .slice oa _ oc]) (by simp [results, Tryz.results112, go_sem, q0, q1, q2, q3]; try rfl) rfl ?_
        all_goals exact axis_end (unhide HO) (hK0.trans (hKD.mono (by omega)))
      · have hc2 : 0 < c := by omega
        go_region_held (fun wx => Below w.heap.size W0 wx) (first | (repeat (first | exact hKD.mono (by omega) | exact Below.refl _ _ | refine Below.drew ?_ | refine Below.setCell ?_ (by first | omega | (simp <;> omega)) _ | refine Below.alloc ?_ (by first | omega | (simp <;> omega)) _)))
          (first
          | (go_at_call 116; refine (cellsOf_eq _ _ _ [] _ (Row.zeroS rfl) (unhide HI) _ HP).mono ?_; rintro e wA ⟨rfl, rfl⟩)
          | (go_at_call 113; rw [← hz0]; refine (Concat2_any W0.heap.size _ _ _ _ _ _ [] [] _ (cell_of_row _ _ 0 _ _ (0, 0) (heap_alloc_last W0 _)) (cell_of_row _ _ 1 _ _ (0, 0) (heap_alloc_last W0 _)) (Row.zeroS rfl) (Row.zeroS rfl) (by omega) (by omega)).mono ?_; rintro e wD ⟨oa, oc, rfl, hO, hbD⟩; have hKD : Below W0.heap.size W0 wD := ((Below.refl _ _).alloc (Nat.le_refl _) _).drew.trans (hbD.mono (by simp)); have HO := hide (hO.mono (B' := w.heap.size + 1) (by simp; omega)); obtain ⟨hwl, ⟨q0, q1, q2, q3⟩, f0, f1, f2, f3⟩ := unhide AB _ hKD; clear hbD hO))
        all_goals go_wp2
        all_goals refine bodyPost_ret (v := .agg #[.int .i64 1, .int .i64 1, .int .i64 1, .slice oa _ oc]) (by simp [results, Tryz.results112, go_sem, q0, q1, q2, q3]; try rfl) rfl ?_
        all_goals exact axis_end (unhide HO) (hK0.trans (hKD.mono (by omega)))

end Go.Proofs.YtgjpchnkodnieaaGreatDoor
namespace Go.Proofs.YtgjpchnkodnieaaGreatDoor
open Go.RowKit

set_option maxHeartbeats 1000000 in
theorem l4Mod_any (a b : Int) (w : World) (ha : -1000000000000000 ≤ a ∧ a ≤ 1000000000000000) (hb : -1000000000000000 ≤ b ∧ b ≤ 1000000000000000) : Calls Tryz.prog 196 #[.int .i64 a, .int .i64 b] w fun e w' => e = .returned (.int .i64 (modOf a b)) ∧ w' = w := by
  obtain ⟨ha1, ha2⟩ := ha
  obtain ⟨hb1, hb2⟩ := hb
  by_cases h0 : a = 0
  · subst h0
    have HE : Hid (modOf 0 b = b) := rfl
    go_enter Tryz.func196, Tryz.ntmps196
    go_wp2
    go_ret
    exact ⟨ret_int HE.out.symm, rfl⟩
  have q0 : (a == 0) = false := by simp [h0]
  have hm : -1000000000000000 ≤ b.tmod a ∧ b.tmod a ≤ 1000000000000000 := by
    have := Int.natAbs_tmod b a
    have h3 : b.natAbs % a.natAbs ≤ b.natAbs := Nat.mod_le _ _
    omega
  obtain ⟨m, hm0⟩ : ∃ m, b.tmod a = m := ⟨_, rfl⟩
  rw [hm0] at hm
  obtain ⟨hm1, hm2⟩ := hm
  by_cases hz : m = 0
  · subst hz
    have HE : Hid (modOf a b = 0) := by show _ = _; unfold modOf; rw [if_neg h0, hm0]; simp
    go_enter Tryz.func196, Tryz.ntmps196
    go_wp2
    go_ret
    exact ⟨ret_int HE.out.symm, rfl⟩
  have q1 : (m != 0) = true := by simp [hz]
  by_cases hs : m < 0
  · by_cases ht : a < 0
    · have HE : Hid (modOf a b = m) := by show _ = _; unfold modOf; rw [if_neg h0, hm0]; simp [hs, ht]
      clear hz
      go_enter Tryz.func196, Tryz.ntmps196
      go_wp2
      go_ret
      exact ⟨ret_int HE.out.symm, rfl⟩
    · have HE : Hid (modOf a b = m + a) := by show _ = _; unfold modOf; rw [if_neg h0, hm0]; simp [hs, ht, hz]
      clear hz
      go_enter Tryz.func196, Tryz.ntmps196
      go_wp2
      go_ret
      exact ⟨ret_int HE.out.symm, rfl⟩
  · by_cases ht : a < 0
    · have HE : Hid (modOf a b = m + a) := by show _ = _; unfold modOf; rw [if_neg h0, hm0]; simp [hs, ht, hz]
      clear hz
      go_enter Tryz.func196, Tryz.ntmps196
      go_wp2
      go_ret
      exact ⟨ret_int HE.out.symm, rfl⟩
    · have HE : Hid (modOf a b = m) := by show _ = _; unfold modOf; rw [if_neg h0, hm0]; simp [hs, ht]
      clear hz
      go_enter Tryz.func196, Tryz.ntmps196
      go_wp2
      go_ret
      exact ⟨ret_int HE.out.symm, rfl⟩

end Go.Proofs.YtgjpchnkodnieaaGreatDoor
namespace Go.Proofs.YtgjpchnkodnieaaGreatDoor
open Go.RowKit

set_option maxHeartbeats 400000 in
theorem truth_call (b : Bool) (w : World) : Calls Tryz.prog 200 #[.bool b] w fun e w' => e = .returned (.int .i64 (truth b)) ∧ w' = w := by
  cases b
  all_goals
    go_enter Tryz.func200, Tryz.ntmps200
    go_wp2
    go_ret
    exact ⟨rfl, rfl⟩

set_option maxHeartbeats 400000 in
theorem l4In_any (v : Int) (w : World) : Calls Tryz.prog 202 #[.int .i64 v] w fun e w' => e = .returned (.bool (inM v)) ∧ w' = w := by
  by_cases h1 : v ≤ 1000000000000000
  · by_cases h2 : -1000000000000000 ≤ v
    · have HE : Hid (inM v = true) := inM_of h2 h1
      go_enter Tryz.func202, Tryz.ntmps202
      go_wp2
      go_ret
      exact ⟨ret_bool HE.out.symm, rfl⟩
    · have HE : Hid (inM v = false) := inM_not (by omega)
      go_enter Tryz.func202, Tryz.ntmps202
      go_wp2
      go_ret
      exact ⟨ret_bool HE.out.symm, rfl⟩
  · have HE : Hid (inM v = false) := inM_not (by omega)
    go_enter Tryz.func202, Tryz.ntmps202
    go_wp2
    go_ret
    exact ⟨ret_bool HE.out.symm, rfl⟩

theorem prod_sign {a b x y : Int} (hx : x = a ∨ x = -a) (hy : y = b ∨ y = -b) : x * y = a * b ∨ x * y = -(a * b) := by
  rcases hx with rfl | rfl <;> rcases hy with rfl | rfl <;> simp [Int.neg_mul, Int.mul_neg]

set_option maxHeartbeats 2000000 in
theorem l4Times_any (a b : Int) (w : World) (ha : -1000000000000000 ≤ a ∧ a ≤ 1000000000000000) (hb : -1000000000000000 ≤ b ∧ b ≤ 1000000000000000) : Calls Tryz.prog 201 #[.int .i64 a, .int .i64 b] w fun e w' => e = .returned (.tuple #[.int .i64 (timesOf a b).1, .bool (timesOf a b).2]) ∧ w' = w := by
  obtain ⟨ha1, ha2⟩ := ha
  obtain ⟨hb1, hb2⟩ := hb
  by_cases h0 : a = 0
  · subst h0
    have HE : Hid (timesOf 0 b = (0, true)) := by show _ = _; simp [timesOf, inM]
    go_enter Tryz.func201, Tryz.ntmps201
    go_wp2
    go_ret2
    exact ⟨ret_ib (by rw [unhide HE]) (by rw [unhide HE]), rfl⟩
  by_cases h1 : b = 0
  · subst h1
    have HE : Hid (timesOf a 0 = (0, true)) := by show _ = _; simp [timesOf, inM]
    have q0 : (a == 0) = false := by simp [h0]
    clear h0
    go_enter Tryz.func201, Tryz.ntmps201
    go_wp2
    go_ret2
    exact ⟨ret_ib (by rw [unhide HE]) (by rw [unhide HE]), rfl⟩
  have q0 : (a == 0) = false := by simp [h0]
  have q1 : (b == 0) = false := by simp [h1]
  obtain ⟨x, hx⟩ : ∃ x, (if a < 0 then -a else a) = x := ⟨_, rfl⟩
  obtain ⟨y, hy⟩ : ∃ y, (if b < 0 then -b else b) = y := ⟨_, rfl⟩
  have hy0 : 0 < y := by rw [← hy]; split <;> omega
  have hyn : ¬ y = 0 := by omega
  have hxy : x * y = a * b ∨ x * y = -(a * b) := prod_sign (by rw [← hx]; split <;> simp) (by rw [← hy]; split <;> simp)
  have hp0 : 0 ≤ x * y := Int.mul_nonneg (by rw [← hx]; split <;> omega) (by omega)
  have hq : (1000000000000000 : Int).tdiv y < x ↔ 1000000000000000 < x * y := tdiv_lt hy0
  obtain ⟨t, ht⟩ : ∃ t, (1000000000000000 : Int).tdiv y = t := ⟨_, rfl⟩
  have htb : 0 ≤ t ∧ t ≤ 1000000000000000 := by
    rw [← ht, Int.tdiv_eq_ediv_of_nonneg (by omega)]
    exact ⟨Int.ediv_nonneg (by omega) (by omega), Int.ediv_le_self _ (by omega)⟩
  obtain ⟨ht1, ht2⟩ := htb
  rw [ht] at hq
  obtain ⟨pr, hpr⟩ : ∃ pr, a * b = pr := ⟨_, rfl⟩
  rw [hpr] at hxy
  by_cases hbig : t < x
  · have HE : Hid (timesOf a b = (0, false)) := times_big (by rw [hpr]; exact inM_not (by have := hq.mp hbig; omega))
    clear hq hxy hp0 h0 h1
    by_cases hs : a < 0
    all_goals by_cases hu : b < 0
    all_goals
      simp only [hs, hu, if_true, if_false] at hx hy
      subst hx hy
      go_enter Tryz.func201, Tryz.ntmps201
      go_wp2
      go_ret2
      exact ⟨ret_ib (by rw [unhide HE]) (by rw [unhide HE]), rfl⟩
  · have hle : x * y ≤ 1000000000000000 := by
      by_cases h' : 1000000000000000 < x * y
      · exact absurd (hq.mpr h') hbig
      · omega
    have hpb1 : -1000000000000000 ≤ pr := by omega
    have hpb2 : pr ≤ 1000000000000000 := by omega
    have HE : Hid (timesOf a b = (pr, true)) := by show _ = _; rw [times_ok (by rw [hpr]; exact inM_of hpb1 hpb2), hpr]
    clear hq hxy hp0 hle h0 h1
    by_cases hs : a < 0
    all_goals by_cases hu : b < 0
    all_goals
      simp only [hs, hu, if_true, if_false] at hx hy
      subst hx hy
      go_enter Tryz.func201, Tryz.ntmps201
      go_wp2
      go_ret2
      exact ⟨ret_ib (by rw [unhide HE]) (by rw [unhide HE]), rfl⟩

theorem l4Times_eq (a b : Int) (w : World) (ha : -1000000000000000 ≤ a ∧ a ≤ 1000000000000000) (hb : -1000000000000000 ≤ b ∧ b ≤ 1000000000000000) (r1 : Int) (r2 : Bool) (hr : Hid (timesOf a b = (r1, r2))) : Calls Tryz.prog 201 #[.int .i64 a, .int .i64 b] w fun e w' => e = .returned (.tuple #[.int .i64 r1, .bool r2]) ∧ w' = w := by
  have := l4Times_any a b w ha hb
  rw [unhide hr] at this
  exact this

end Go.Proofs.YtgjpchnkodnieaaGreatDoor
namespace Go.Proofs.YtgjpchnkodnieaaGreatDoor
open Go.RowKit

theorem pow_ok {a b : Int} (h : inM (a ^ b.toNat) = true) : powOf a b = (a ^ b.toNat, true) := by simp [powOf, h]
theorem pow_big {a b : Int} (h : inM (a ^ b.toNat) = false) : powOf a b = (0, false) := by simp [powOf, h]

theorem pow_zero_base {b : Int} (h : 0 < b) : powOf 0 b = (0, true) := by
  have : (0 : Int) ^ b.toNat = 0 := Int.zero_pow (by omega)
  rw [pow_ok (by rw [this]; rfl), this]
theorem pow_zero_zero : powOf 0 0 = (1, true) := by simp [powOf, inM]
theorem pow_one_base {b : Int} : powOf 1 b = (1, true) := by
  have : (1 : Int) ^ b.toNat = 1 := Int.one_pow
  rw [pow_ok (by rw [this]; rfl), this]
theorem neg_one_pow (n : Nat) : ((-1 : Int)) ^ n = 1 - (n % 2 : Nat) * 2 := by
  induction n with
  | zero => rfl
  | succ n ih => rw [Int.pow_succ, ih]; omega
theorem pow_neg_one {b : Int} (h : 0 ≤ b) : powOf (-1) b = (1 - b.tmod 2 * 2, true) := by
  have e : b.tmod 2 = ((b.toNat % 2 : Nat) : Int) := by rw [Int.tmod_eq_emod_of_nonneg h]; omega
  have : (-1 : Int) ^ b.toNat = 1 - b.tmod 2 * 2 := by rw [neg_one_pow, e]
  rw [pow_ok (by rw [this]; have : 0 ≤ b.tmod 2 ∧ b.tmod 2 ≤ 1 := by rw [e]; omega
                 exact inM_of (by omega) (by omega)), this]

set_option maxHeartbeats 2000000 in
theorem l4Power_any (a b : Int) (w : World) (ha : -1000000000000000 ≤ a ∧ a ≤ 1000000000000000) (hb0 : 0 ≤ b) (hb : b ≤ 1000000000000000) : Calls Tryz.prog 236 #[.int .i64 a, .int .i64 b] w fun e w' => e = .returned (.tuple #[.int .i64 (powOf a b).1, .bool (powOf a b).2]) ∧ w' = w := by
  by_cases h0 : a = 0
  · subst h0
    by_cases hz : b = 0
    · subst hz
      have HE : Hid (powOf 0 0 = (truth true, true)) := pow_zero_zero
      go_enter Tryz.func236, Tryz.ntmps236
      go_wp2_with (go_at_call 200; refine (truth_call _ _).mono ?_; rintro e w1 ⟨rfl, rfl⟩)
      go_ret2
      exact ⟨ret_ib (by rw [unhide HE]) (by rw [unhide HE]), rfl⟩
    · have HE : Hid (powOf 0 b = (truth false, true)) := pow_zero_base (by omega)
      have qz : (b == 0) = false := by simp [hz]
      go_enter Tryz.func236, Tryz.ntmps236
      go_wp2_with (go_at_call 200; refine (truth_call _ _).mono ?_; rintro e w1 ⟨rfl, rfl⟩)
      go_ret2
      exact ⟨ret_ib (by rw [unhide HE]) (by rw [unhide HE]), rfl⟩
  by_cases h1 : a = 1
  · subst h1
    have HE : Hid (powOf 1 b = (truth true, true)) := pow_one_base
    go_enter Tryz.func236, Tryz.ntmps236
    go_wp2_with (go_at_call 200; refine (truth_call _ _).mono ?_; rintro e w1 ⟨rfl, rfl⟩)
    go_ret2
    exact ⟨ret_ib (by rw [unhide HE]) (by rw [unhide HE]), rfl⟩
  have q0 : (a == 0) = false := by simp [h0]
  have q1 : (a == 1) = false := by simp [h1]
  by_cases h2 : a = -1
  · subst h2
    have HE := hide (pow_neg_one hb0)
    have hm : 0 ≤ b.tmod 2 ∧ b.tmod 2 ≤ 1 := by rw [Int.tmod_eq_emod_of_nonneg hb0]; omega
    obtain ⟨m, hm0⟩ : ∃ m, b.tmod 2 = m := ⟨_, rfl⟩
    rw [hm0] at hm HE
    obtain ⟨hm1, hm2⟩ := hm
    go_enter Tryz.func236, Tryz.ntmps236
    go_wp2
    go_ret2
    exact ⟨ret_ib (by rw [unhide HE]) (by rw [unhide HE]), rfl⟩
  have q2 : (a == -1) = false := by simp [h2]
  have h3 := hide (abs_ge_two h0 h1 h2)
  clear h0 h1 h2
  obtain ⟨n, hn⟩ : ∃ n : Nat, b = n := ⟨b.toNat, by omega⟩
  subst hn
  go_enter Tryz.func236, Tryz.ntmps236
  go_wp2
  go_loop [6, 7] (fun v i => ∃ (k : Nat) (x : Int), k ≤ n ∧ i = .int .i64 k ∧ v = .int .i64 x ∧ Hid (a ^ k = x) ∧ Hid (inM (a ^ k) = true)) (fun _ i => n - (intOf i).toNat)
  case atStart => exact ⟨0, 1, Nat.zero_le _, rfl, rfl, hide (by simp), hide (by simp [inM])⟩
  case round =>
    obtain ⟨k, x, hk, rfl, rfl, hx, hin⟩ := hrel
    have hxb : -1000000000000000 ≤ x ∧ x ≤ 1000000000000000 := by rw [← unhide hx]; exact inM_bd (unhide hin)
    by_cases hlt : k < n
    · have hps : a ^ (k + 1) = x * a := by rw [Int.pow_succ, unhide hx]
      by_cases hbig : inM (x * a) = true
      · have HT : Hid (timesOf x a = (x * a, true)) := times_ok hbig
        have hyb := inM_bd hbig
        obtain ⟨y, hy⟩ : ∃ y, x * a = y := ⟨_, rfl⟩
        rw [hy] at HT hbig hyb hps
        have HP := hide hps
        have HIN : Hid (inM (a ^ (k + 1)) = true) := by show _ = _; rw [hps]; exact hbig
        clear hy hbig hps
        go_wp2_with (go_at_call 201; refine (l4Times_eq _ _ _ hxb ha _ _ HT).mono ?_; rintro e w1 ⟨rfl, rfl⟩)
        go_round
        case rel => exact ⟨k + 1, y, by omega, by go_num, rfl, HP, HIN⟩
        case measure => simp [intOf]; omega
      · have hb' : inM (x * a) = false := by simpa using hbig
        have HT : Hid (timesOf x a = (0, false)) := times_big hb'
        have HE : Hid (powOf a n = (0, false)) := pow_big (pow_step_big (unhide h3) (k + 1) _ (by simp; omega) (by rw [hps]; exact hb'))
        clear hbig hb' hps
        go_wp2_with (go_at_call 201; refine (l4Times_eq _ _ _ hxb ha _ _ HT).mono ?_; rintro e w1 ⟨rfl, rfl⟩)
        go_ret2
        exact ⟨ret_ib (by rw [unhide HE]) (by rw [unhide HE]), rfl⟩
    · have hkn : k = n := by omega
      subst hkn
      have HE : Hid (powOf a k = (x, true)) := by show _ = _; rw [pow_ok (by simpa using unhide hin)]; simpa using unhide hx
      go_wp2
      go_ret2
      exact ⟨ret_ib (by rw [unhide HE]) (by rw [unhide HE]), rfl⟩

end Go.Proofs.YtgjpchnkodnieaaGreatDoor
namespace Go.Proofs.YtgjpchnkodnieaaGreatDoor
open Go.RowKit

theorem truth_eq (b : Bool) (w : World) (r : Int) (hr : Hid (truth b = r)) : Calls Tryz.prog 200 #[.bool b] w fun e w' => e = .returned (.int .i64 r) ∧ w' = w := by
  rw [← unhide hr]; exact truth_call b w

set_option maxHeartbeats 2000000 in
theorem l4Order_any (op a b : Int) (w : World) (hop : op = 5 ∨ op = 6 ∨ op = 9 ∨ op = 10 ∨ op = 11 ∨ op = 12 ∨ op = 13 ∨ op = 14) : Calls Tryz.prog 237 #[.int .i64 op, .int .i64 a, .int .i64 b] w fun e w' => e = .returned (.int .i64 (orderOf op a b)) ∧ w' = w := by
  have hcmp : a < b ∨ a = b ∨ b < a := by omega
  rcases hcmp with h | h | h
  · have k1 : (a == b) = false := by simp; omega
    have k2 : ¬ b < a := by omega
    have k3 : a ≤ b := by omega
    rcases hop with rfl | rfl | rfl | rfl | rfl | rfl | rfl | rfl
    all_goals
      go_enter Tryz.func237, Tryz.ntmps237
      go_wp2_with (go_at_call 200; refine (truth_call _ _).mono ?_; rintro e w1 ⟨rfl, rfl⟩)
      go_ret
      exact ⟨ret_int (by simp [orderOf, truth] <;> omega), rfl⟩
  · subst h
    rcases hop with rfl | rfl | rfl | rfl | rfl | rfl | rfl | rfl
    all_goals
      go_enter Tryz.func237, Tryz.ntmps237
      go_wp2_with (go_at_call 200; refine (truth_call _ _).mono ?_; rintro e w1 ⟨rfl, rfl⟩)
      go_ret
      exact ⟨ret_int (by simp [orderOf, truth]), rfl⟩
  · have k1 : (a == b) = false := by simp; omega
    have k2 : ¬ a < b := by omega
    have k3 : b ≤ a := by omega
    have k5 : ¬ a ≤ b := by omega
    rcases hop with rfl | rfl | rfl | rfl | rfl | rfl | rfl | rfl
    all_goals
      go_enter Tryz.func237, Tryz.ntmps237
      go_wp2_with (go_at_call 200; refine (truth_call _ _).mono ?_; rintro e w1 ⟨rfl, rfl⟩)
      go_ret
      exact ⟨ret_int (by simp [orderOf, truth] <;> omega), rfl⟩

end Go.Proofs.YtgjpchnkodnieaaGreatDoor
namespace Go.Proofs.YtgjpchnkodnieaaGreatDoor
open Go.RowKit

theorem l4In_eq (v : Int) (w : World) (r : Bool) (hr : Hid (inM v = r)) : Calls Tryz.prog 202 #[.int .i64 v] w fun e w' => e = .returned (.bool r) ∧ w' = w := by
  rw [← unhide hr]; exact l4In_any v w
theorem l4Mod_eq (a b : Int) (w : World) (ha : -1000000000000000 ≤ a ∧ a ≤ 1000000000000000) (hb : -1000000000000000 ≤ b ∧ b ≤ 1000000000000000) (r : Int) (hr : Hid (modOf a b = r)) : Calls Tryz.prog 196 #[.int .i64 a, .int .i64 b] w fun e w' => e = .returned (.int .i64 r) ∧ w' = w := by
  rw [← unhide hr]; exact l4Mod_any a b w ha hb
theorem l4Power_eq (a b : Int) (w : World) (ha : -1000000000000000 ≤ a ∧ a ≤ 1000000000000000) (hb0 : 0 ≤ b) (hb : b ≤ 1000000000000000) (r1 : Int) (r2 : Bool) (hr : Hid (powOf a b = (r1, r2))) : Calls Tryz.prog 236 #[.int .i64 a, .int .i64 b] w fun e w' => e = .returned (.tuple #[.int .i64 r1, .bool r2]) ∧ w' = w := by
  have := l4Power_any a b w ha hb0 hb
  rw [unhide hr] at this
  exact this
theorem l4Order_eq (op a b : Int) (w : World) (hop : op = 5 ∨ op = 6 ∨ op = 9 ∨ op = 10 ∨ op = 11 ∨ op = 12 ∨ op = 13 ∨ op = 14) (r : Int) (hr : Hid (orderOf op a b = r)) : Calls Tryz.prog 237 #[.int .i64 op, .int .i64 a, .int .i64 b] w fun e w' => e = .returned (.int .i64 r) ∧ w' = w := by
  rw [← unhide hr]; exact l4Order_any op a b w hop

theorem lim_ok {v : Int} (h : inM v = true) : limited (v, true) = (v, 0) := by simp [limited, h]
theorem lim_no {v : Int} (h : inM v = false) : limited (v, true) = (0, 7) := by simp [limited, h]
theorem lim_bad {v : Int} : limited (v, false) = (0, 7) := by simp [limited]

def TwoC (op a b : Int) : Prop := ∀ w : World, Calls Tryz.prog 183 #[.int .i64 op, .int .i64 a, .int .i64 b] w fun e w' => e = .returned (.tuple #[.int .i64 (twoOf op a b).1, .int .i64 (twoOf op a b).2]) ∧ w' = w

set_option maxHeartbeats 1000000 in
theorem two1 {a b : Int} (ha : -1000000000000000 ≤ a ∧ a ≤ 1000000000000000) (hb : -1000000000000000 ≤ b ∧ b ≤ 1000000000000000) : TwoC 1 a b := by
  intro w
  obtain ⟨ha1, ha2⟩ := ha
  obtain ⟨hb1, hb2⟩ := hb
  obtain ⟨r, hr⟩ : ∃ r, inM (a + b) = r := ⟨_, rfl⟩
  have HR := hide hr
  cases r with
  | true =>
    have HE : Hid (twoOf 1 a b = (a + b, 0)) := lim_ok hr
    clear hr
    go_enter Tryz.func183, Tryz.ntmps183
    go_wp2_with (go_at_call 202; refine (l4In_eq _ _ _ HR).mono ?_; rintro e w1 ⟨rfl, rfl⟩)
    go_ret2
    exact ⟨ret_two (by rw [unhide HE]) (by rw [unhide HE]), rfl⟩
  | false =>
    have HE : Hid (twoOf 1 a b = (0, 7)) := lim_no hr
    clear hr
    go_enter Tryz.func183, Tryz.ntmps183
    go_wp2_with (go_at_call 202; refine (l4In_eq _ _ _ HR).mono ?_; rintro e w1 ⟨rfl, rfl⟩)
    go_ret2
    exact ⟨ret_two (by rw [unhide HE]) (by rw [unhide HE]), rfl⟩

set_option maxHeartbeats 1000000 in
theorem two2 {a b : Int} (ha : -1000000000000000 ≤ a ∧ a ≤ 1000000000000000) (hb : -1000000000000000 ≤ b ∧ b ≤ 1000000000000000) : TwoC 2 a b := by
  intro w
  obtain ⟨ha1, ha2⟩ := ha
  obtain ⟨hb1, hb2⟩ := hb
  obtain ⟨r, hr⟩ : ∃ r, inM (a - b) = r := ⟨_, rfl⟩
  have HR := hide hr
  cases r with
  | true =>
    have HE : Hid (twoOf 2 a b = (a - b, 0)) := lim_ok hr
    clear hr
    go_enter Tryz.func183, Tryz.ntmps183
    go_wp2_with (go_at_call 202; refine (l4In_eq _ _ _ HR).mono ?_; rintro e w1 ⟨rfl, rfl⟩)
    go_ret2
    exact ⟨ret_two (by rw [unhide HE]) (by rw [unhide HE]), rfl⟩
  | false =>
    have HE : Hid (twoOf 2 a b = (0, 7)) := lim_no hr
    clear hr
    go_enter Tryz.func183, Tryz.ntmps183
    go_wp2_with (go_at_call 202; refine (l4In_eq _ _ _ HR).mono ?_; rintro e w1 ⟨rfl, rfl⟩)
    go_ret2
    exact ⟨ret_two (by rw [unhide HE]) (by rw [unhide HE]), rfl⟩

set_option maxHeartbeats 1000000 in
theorem two3 {a b : Int} (ha : -1000000000000000 ≤ a ∧ a ≤ 1000000000000000) (hb : -1000000000000000 ≤ b ∧ b ≤ 1000000000000000) : TwoC 3 a b := by
  intro w
  have HE : Hid (twoOf 3 a b = limited (timesOf a b)) := rfl
  obtain ⟨q, hq⟩ : ∃ q, timesOf a b = q := ⟨_, rfl⟩
  obtain ⟨v, ok⟩ := q
  have HQ := hide hq
  rw [hq] at HE
  clear hq
  cases ok with
  | false =>
    rw [lim_bad] at HE
    go_enter Tryz.func183, Tryz.ntmps183
    go_wp2_with (go_at_call 201; refine (l4Times_eq _ _ _ ha hb _ _ HQ).mono ?_; rintro e w1 ⟨rfl, rfl⟩)
    go_ret2
    exact ⟨ret_two (by rw [unhide HE]) (by rw [unhide HE]), rfl⟩
  | true =>
    obtain ⟨r, hr⟩ : ∃ r, inM v = r := ⟨_, rfl⟩
    have HR := hide hr
    cases r with
    | true =>
      rw [lim_ok hr] at HE
      clear hr
      go_enter Tryz.func183, Tryz.ntmps183
      go_wp2_with (first | (go_at_call 201; refine (l4Times_eq _ _ _ ha hb _ _ HQ).mono ?_; rintro e w1 ⟨rfl, rfl⟩) | (go_at_call 202; refine (l4In_eq _ _ _ HR).mono ?_; rintro e w1 ⟨rfl, rfl⟩))
      go_ret2
      exact ⟨ret_two (by rw [unhide HE]) (by rw [unhide HE]), rfl⟩
    | false =>
      rw [lim_no hr] at HE
      clear hr
      go_enter Tryz.func183, Tryz.ntmps183
      go_wp2_with (first | (go_at_call 201; refine (l4Times_eq _ _ _ ha hb _ _ HQ).mono ?_; rintro e w1 ⟨rfl, rfl⟩) | (go_at_call 202; refine (l4In_eq _ _ _ HR).mono ?_; rintro e w1 ⟨rfl, rfl⟩))
      go_ret2
      exact ⟨ret_two (by rw [unhide HE]) (by rw [unhide HE]), rfl⟩

set_option maxHeartbeats 1000000 in
theorem two4 {a b : Int} (ha : -1000000000000000 ≤ a ∧ a ≤ 1000000000000000) (hb : -1000000000000000 ≤ b ∧ b ≤ 1000000000000000) : TwoC 4 a b := by
  intro w
  obtain ⟨ha1, ha2⟩ := ha
  obtain ⟨hb1, hb2⟩ := hb
  have HE : Hid (twoOf 4 a b = (if a = 0 ∧ b = 0 then (1, 0) else if b = 0 ∨ a.tmod b ≠ 0 then (0, 3) else limited (a.tdiv b, true))) := rfl
  by_cases hz : b = 0
  · subst hz
    by_cases h0 : a = 0
    · subst h0
      rw [if_pos ⟨rfl, rfl⟩] at HE
      go_enter Tryz.func183, Tryz.ntmps183
      go_wp2
      go_ret2
      exact ⟨ret_two (by rw [unhide HE]) (by rw [unhide HE]), rfl⟩
    · rw [if_neg (fun h => h0 h.1), if_pos (.inl rfl)] at HE
      have q0 : (a == 0) = false := by simp [h0]
      go_enter Tryz.func183, Tryz.ntmps183
      go_wp2
      go_ret2
      exact ⟨ret_two (by rw [unhide HE]) (by rw [unhide HE]), rfl⟩
  have qz : (b == 0) = false := by simp [hz]
  rw [if_neg (fun h => hz h.2)] at HE
  obtain ⟨m, hm⟩ : ∃ m, a.tmod b = m := ⟨_, rfl⟩
  rw [hm] at HE
  by_cases hm0 : m = 0
  · subst hm0
    rw [if_neg (by simp [hz])] at HE
    have hd : -1000000000000000 ≤ a.tdiv b ∧ a.tdiv b ≤ 1000000000000000 := by
      have h1 := Int.natAbs_tdiv_le_natAbs a b
      omega
    obtain ⟨v, hv⟩ : ∃ v, a.tdiv b = v := ⟨_, rfl⟩
    rw [hv] at HE hd
    rw [lim_ok (inM_of hd.1 hd.2)] at HE
    obtain ⟨hd1, hd2⟩ := hd
    have HR : Hid (inM v = true) := inM_of hd1 hd2
    by_cases h0 : a = 0
    · subst h0
      have hv0 : v = 0 := by rw [← hv]; simp
      subst hv0
      clear hv hm
      go_enter Tryz.func183, Tryz.ntmps183
      go_wp2_with (go_at_call 202; refine (l4In_eq _ _ _ HR).mono ?_; rintro e w1 ⟨rfl, rfl⟩)
      go_ret2
      exact ⟨ret_two (by rw [unhide HE]) (by rw [unhide HE]), rfl⟩
    · have q0 : (a == 0) = false := by simp [h0]
      go_enter Tryz.func183, Tryz.ntmps183
      go_wp2_with (go_at_call 202; refine (l4In_eq _ _ _ HR).mono ?_; rintro e w1 ⟨rfl, rfl⟩)
      go_ret2
      exact ⟨ret_two (by rw [unhide HE]) (by rw [unhide HE]), rfl⟩
  · rw [if_pos (.inr hm0)] at HE
    have qm : (m != 0) = true := by simp [hm0]
    have h0 : ¬ a = 0 := by rintro rfl; simp at hm; exact hm0 hm.symm
    have q0 : (a == 0) = false := by simp [h0]
    go_enter Tryz.func183, Tryz.ntmps183
    go_wp2
    go_ret2
    exact ⟨ret_two (by rw [unhide HE]) (by rw [unhide HE]), rfl⟩

set_option maxHeartbeats 1000000 in
theorem two7 {a b : Int} (ha : -1000000000000000 ≤ a ∧ a ≤ 1000000000000000) (hb : -1000000000000000 ≤ b ∧ b ≤ 1000000000000000) : TwoC 7 a b := by
  intro w
  have HE : Hid (twoOf 7 a b = limited (modOf a b, true)) := rfl
  obtain ⟨v, hv⟩ : ∃ v, modOf a b = v := ⟨_, rfl⟩
  have HV := hide hv
  rw [hv] at HE
  clear hv
  obtain ⟨r, hr⟩ : ∃ r, inM v = r := ⟨_, rfl⟩
  have HR := hide hr
  cases r with
  | true =>
    rw [lim_ok hr] at HE
    clear hr
    go_enter Tryz.func183, Tryz.ntmps183
    go_wp2_with (first | (go_at_call 196; refine (l4Mod_eq _ _ _ ha hb _ HV).mono ?_; rintro e w1 ⟨rfl, rfl⟩) | (go_at_call 202; refine (l4In_eq _ _ _ HR).mono ?_; rintro e w1 ⟨rfl, rfl⟩))
    go_ret2
    exact ⟨ret_two (by rw [unhide HE]) (by rw [unhide HE]), rfl⟩
  | false =>
    rw [lim_no hr] at HE
    clear hr
    go_enter Tryz.func183, Tryz.ntmps183
    go_wp2_with (first | (go_at_call 196; refine (l4Mod_eq _ _ _ ha hb _ HV).mono ?_; rintro e w1 ⟨rfl, rfl⟩) | (go_at_call 202; refine (l4In_eq _ _ _ HR).mono ?_; rintro e w1 ⟨rfl, rfl⟩))
    go_ret2
    exact ⟨ret_two (by rw [unhide HE]) (by rw [unhide HE]), rfl⟩

set_option maxHeartbeats 1000000 in
theorem two8 {a b : Int} (ha : -1000000000000000 ≤ a ∧ a ≤ 1000000000000000) (hb : -1000000000000000 ≤ b ∧ b ≤ 1000000000000000) : TwoC 8 a b := by
  intro w
  have HE : Hid (twoOf 8 a b = (if b < 0 then (0, 3) else limited (powOf a b))) := rfl
  by_cases hn : b < 0
  · rw [if_pos hn] at HE
    go_enter Tryz.func183, Tryz.ntmps183
    go_wp2
    go_ret2
    exact ⟨ret_two (by rw [unhide HE]) (by rw [unhide HE]), rfl⟩
  rw [if_neg hn] at HE
  obtain ⟨q, hq⟩ : ∃ q, powOf a b = q := ⟨_, rfl⟩
  obtain ⟨v, ok⟩ := q
  have HQ := hide hq
  rw [hq] at HE
  clear hq
  cases ok with
  | false =>
    rw [lim_bad] at HE
    go_enter Tryz.func183, Tryz.ntmps183
    go_wp2_with (go_at_call 236; refine (l4Power_eq _ _ _ ha (by omega) hb.2 _ _ HQ).mono ?_; rintro e w1 ⟨rfl, rfl⟩)
    go_ret2
    exact ⟨ret_two (by rw [unhide HE]) (by rw [unhide HE]), rfl⟩
  | true =>
    obtain ⟨r, hr⟩ : ∃ r, inM v = r := ⟨_, rfl⟩
    have HR := hide hr
    cases r with
    | true =>
      rw [lim_ok hr] at HE
      clear hr
      go_enter Tryz.func183, Tryz.ntmps183
      go_wp2_with (first | (go_at_call 236; refine (l4Power_eq _ _ _ ha (by omega) hb.2 _ _ HQ).mono ?_; rintro e w1 ⟨rfl, rfl⟩) | (go_at_call 202; refine (l4In_eq _ _ _ HR).mono ?_; rintro e w1 ⟨rfl, rfl⟩))
      go_ret2
      exact ⟨ret_two (by rw [unhide HE]) (by rw [unhide HE]), rfl⟩
    | false =>
      rw [lim_no hr] at HE
      clear hr
      go_enter Tryz.func183, Tryz.ntmps183
      go_wp2_with (first | (go_at_call 236; refine (l4Power_eq _ _ _ ha (by omega) hb.2 _ _ HQ).mono ?_; rintro e w1 ⟨rfl, rfl⟩) | (go_at_call 202; refine (l4In_eq _ _ _ HR).mono ?_; rintro e w1 ⟨rfl, rfl⟩))
      go_ret2
      exact ⟨ret_two (by rw [unhide HE]) (by rw [unhide HE]), rfl⟩

end Go.Proofs.YtgjpchnkodnieaaGreatDoor
