import Derived.WalkKit
import Derived.WalkSpells
import Derived.Test.YtgjpchnkodnieaaGreatDoorChecked
import Derived.Deep.QuietTactic
import Derived.BigQuiet
import Derived.Deep.Draws
import Derived.RangeFuncRecord
import Derived.MapKept
import Derived.Shelf.Abstract
import Derived.Laws.EntriesVeiled
import Derived.Deep.RegionWith
import Derived.Deep.DeepCutAuto
import Derived.LaidEql
import Derived.Stop.Asserts
import Derived.RowKitTokens
import Derived.Deep.WholeRow
import Derived.Lib.SliceRun
namespace Go.Proofs.YtgjpchnkodnieaaGreatDoor
open Go.RowKit

/-- The slice (a, n, _) reads as the numbers zs. -/
structure Row (w : World) (a : Option Addr) (n : Nat) (zs : List Int) : Prop where
  len : zs.length = n
  small : n ≤ 17592186044416
  at_ : n = 0 ∨ ∃ b off, a = some ⟨b, off, none⟩ ∧ b < w.heap.size ∧ ∀ i, i < n → w.cell? ⟨b, off + i, none⟩ = some (.int .i64 (zs.getD i 0))

theorem Row.below {w w' : World} {a : Option Addr} {n : Nat} {zs : List Int} {B : Nat} (h : Row w a n zs) (hB : w.heap.size ≤ B) (hb : Below B w w') : Row w' a n zs := by
  refine ⟨h.len, h.small, ?_⟩
  rcases h.at_ with h0 | ⟨b, off, rfl, hlt, hc⟩
  · exact .inl h0
  · exact .inr ⟨b, off, rfl, Nat.lt_of_lt_of_le hlt hb.size, fun i hi => (hb.cell (p := ⟨b, off + i, none⟩) (Nat.lt_of_lt_of_le hlt hB)).trans (hc i hi)⟩

/-- Block g holds just the numbers zs. -/
def Blk (w : World) (g : Nat) (zs : List Int) : Prop := w.heap[g]? = some (.cells (zs.map (Value.int .i64)).toArray 3 (0, 0))

theorem Blk.lt {w : World} {g : Nat} {zs : List Int} (h : Blk w g zs) : g < w.heap.size := lt_of_block h

theorem Blk.cell {w : World} {g : Nat} {zs : List Int} (h : Blk w g zs) {i : Nat} (hi : i < zs.length) : w.cell? ⟨g, i, none⟩ = some (.int .i64 (zs.getD i 0)) := by
  unfold Blk at h
  simp [World.cell?, h, hi]

theorem Blk.free {w : World} {g : Nat} {zs : List Int} (h : Blk w g zs) (i : Nat) : w.frozen? ⟨g, i, none⟩ = false := frozen_of_row w g i _ _ h

theorem Blk.row {w : World} {g n : Nat} {zs : List Int} (h : Blk w g zs) (hn : zs.length = n) (hs : n ≤ 17592186044416) : Row w (some ⟨g, 0, none⟩) n zs :=
  ⟨hn, hs, .inr ⟨g, 0, rfl, h.lt, fun i hi => by simpa using h.cell (i := i) (by omega)⟩⟩

theorem Blk.below {w w' : World} {g : Nat} {zs : List Int} {B : Nat} (h : Blk w g zs) (hB : w.heap.size ≤ B) (hb : Below B w w') : Blk w' g zs := (hb.block g (Nat.lt_of_lt_of_le h.lt hB)).trans h

theorem Blk.set {w : World} {g : Nat} {zs : List Int} (h : Blk w g zs) (i : Nat) (x : Int) : Blk (w.setCell ⟨g, i, none⟩ (.int .i64 x)) g (zs.set i x) := by
  unfold Blk at h ⊢
  rw [heap_setCell_same w g i _ _ _ h]
  simp [List.map_set]

theorem Blk.of_owns {w : World} {base g n : Nat} {zs : List Int} (h : w.ownsRow base 3 1 (.slice (some ⟨g, 0, none⟩) n n) n (zs.map (Value.int .i64))) : Blk w g zs := by
  rcases h.2 with ⟨h', _⟩ | ⟨g', cap', cur, h', _, hg, _, _, hs, ht⟩
  · simp at h'
  · simp only [Value.slice.injEq, Option.some.injEq, Addr.mk.injEq, and_true, true_and] at h'
    obtain ⟨rfl, rfl⟩ := h'
    unfold Blk
    rw [hg, ← ht, List.take_of_length_le (by simp; omega)]

theorem Blk.other {w : World} {g : Nat} {zs : List Int} (h : Blk w g zs) {p : Addr} (hp : g ≠ p.block) (v : Value) : Blk (w.setCell p v) g zs := (heap_setCell_other w p g v hp).trans h
theorem Blk.drew {w : World} {g : Nat} {zs : List Int} (h : Blk w g zs) : Blk w.drew g zs := h
theorem Blk.alloc {w : World} {g : Nat} {zs : List Int} (h : Blk w g zs) (o : Obj) : Blk (w.alloc o) g zs := (Below.heap_alloc w o g h.lt).trans h

theorem bcell {W w1 : World} (hb : Below W.heap.size W w1) : (∀ b o, b < W.heap.size → w1.cell? ⟨b, o, none⟩ = W.cell? ⟨b, o, none⟩) ∧ (∀ b o, b < W.heap.size → w1.frozen? ⟨b, o, none⟩ = W.frozen? ⟨b, o, none⟩) :=
  ⟨fun b o h => hb.cell (p := ⟨b, o, none⟩) h, fun b o h => hb.frozen (p := ⟨b, o, none⟩) h⟩

theorem hide {p : Prop} (h : p) : Hid p := h
theorem unhide {p : Prop} (h : Hid p) : p := h
theorem ret_bool {a b : Bool} (h : a = b) : Ending.returned (.bool a) = .returned (.bool b) := by rw [h]
theorem ret_int {k : IntKind} {a b : Int} (h : a = b) : Ending.returned (.int k a) = .returned (.int k b) := by rw [h]
theorem ret_ib {a a' : Int} {b b' : Bool} (ha : a = a') (hb : b = b') : Ending.returned (.tuple #[.int .i64 a, .bool b]) = .returned (.tuple #[.int .i64 a', .bool b']) := by rw [ha, hb]
theorem ret_two {a b a' b' : Int} (ha : a = a') (hb : b = b') : Ending.returned (.tuple #[.int .i64 a, .int .i64 b]) = .returned (.tuple #[.int .i64 a', .int .i64 b']) := by rw [ha, hb]

end Go.Proofs.YtgjpchnkodnieaaGreatDoor
namespace Go.Proofs.YtgjpchnkodnieaaGreatDoor
open Go.RowKit

theorem info_int : (Tryz.prog.info? 3).map (fun i => (i.zero, i.size, i.bytes)) = some (some (.int .i64 0), 1, 8) := by kernel_rfl

theorem take_set (zs : List Int) (m k : Nat) (h : k < zs.length) : (zs.take k ++ List.replicate (m + 1) (0 : Int)).set k (zs.getD k 0) = zs.take (k + 1) ++ List.replicate m 0 := by
  have hk : (zs.take k).length = k := by simp; omega
  have hx : zs.getD k 0 = zs[k] := by simp [h]
  rw [List.replicate_succ, List.set_append_right _ _ (by omega), hk, Nat.sub_self, List.set_cons_zero, hx, List.take_succ_eq_append_getElem h, List.append_assoc]
  rfl

end Go.Proofs.YtgjpchnkodnieaaGreatDoor
namespace Go.Proofs.YtgjpchnkodnieaaGreatDoor
open Go.RowKit

theorem szIntS_big (a : Option Addr) (n cap : Nat) (left : Int) (w : World) (hn : n ≤ 9223372036854775807) (hl : 0 ≤ left) (hl2 : left ≤ 1048576) (h : left < n) :
    Calls Tryz.prog 67 #[.slice a n cap, .int .i64 left] w fun e w' => e = .returned (.int .i64 (-1)) ∧ w' = w := by
  go_enter Tryz.func67, Tryz.ntmps67
  go_wp2
  go_ret
  exact ⟨rfl, rfl⟩

theorem szIntS_ok (a : Option Addr) (n cap : Nat) (left : Int) (w : World) (hl2 : left ≤ 1048576) (h : n ≤ left) :
    Calls Tryz.prog 67 #[.slice a n cap, .int .i64 left] w fun e w' => e = .returned (.int .i64 (left - n)) ∧ w' = w := by
  go_enter Tryz.func67, Tryz.ntmps67
  go_wp2
  go_ret
  exact ⟨rfl, rfl⟩

set_option maxHeartbeats 400000 in
theorem toIntS_any (a : Option Addr) (n cap : Nat) (zs : List Int) (w : World) (h : Row w a n zs) :
    Calls Tryz.prog 76 #[.slice a n cap] w fun e w' => ∃ g, e = .returned (.slice (some ⟨g, 0, none⟩) n n) ∧ w.heap.size ≤ g ∧ Blk w' g zs ∧ Below w.heap.size w w' := by
  obtain ⟨hlen, hsm, hat⟩ := h
  obtain ⟨i0, hi, hz0, hz1, hz2⟩ := info_parts info_int
  go_enter Tryz.func76, Tryz.ntmps76
  go_wp2_with (at_make; refine wpList_make_full _ rfl _ _ 23 rfl w.heap.size 3 i0 (.int .i64 0) 1 Tryz.underlying23 hi hz0 hz1 _ _ _ _ n rfl rfl rfl rfl (by rw [hz2]; omega) (by unfold maxLen; omega) (Nat.le_refl _) ?_; intro w1 hown hgrow)
  have hblk : Blk w1 w.heap.size (zs.take 0 ++ List.replicate (n - 0) 0) := Blk.of_owns (n := n) (base := w.heap.size) (by simpa [toList_madeCells_one, Value.cells] using hown)
  have hbel : Below w.heap.size w w1 := (Below.refl _ _).grown hgrow (Nat.le_refl _) (by simp)
  clear hown hgrow hi hz0 hz1 hz2
  go_wp2
  go_loopw [4] (fun i wr => ∃ k : Nat, k ≤ n ∧ i = .int .i64 k ∧ Blk wr w.heap.size (zs.take k ++ List.replicate (n - k) 0) ∧ Below w.heap.size w wr) (fun i _ => n - (intOf i).toNat)
  case atStart => exact ⟨0, Nat.zero_le _, rfl, hblk, hbel⟩
  case round =>
    obtain ⟨k, hk, rfl, hb, hbl⟩ := hrel
    clear hblk hbel
    by_cases hlt : k < n
    · have hat' : ∃ b off, a = some ⟨b, off, none⟩ ∧ wr.cell? ⟨b, off + k, none⟩ = some (.int .i64 (zs.getD k 0)) := by
        rcases hat with h0 | ⟨b, off, rfl, hlt', hc⟩
        · omega
        · exact ⟨b, off, rfl, (hbl.cell (p := ⟨b, off + k, none⟩) hlt').trans (hc k hlt)⟩
      obtain ⟨b, off, rfl, hc⟩ := hat'
      clear hat
      obtain ⟨x, hx⟩ : ∃ x, x = zs.getD k 0 := ⟨_, rfl⟩
      rw [← hx] at hc
      have hc2 := hb.cell (i := k) (by simp; omega)
      have hf2 := hb.free k
      have hs := hb.set k x
      have HR : Hid (Blk (wr.setCell ⟨w.heap.size, k, none⟩ (.int .i64 x)) w.heap.size (zs.take (k + 1) ++ List.replicate (n - (k + 1)) 0)) := by
        have e : n - k = n - (k + 1) + 1 := by omega
        rw [e, hx, take_set zs _ k (by omega)] at hs
        rw [hx]
        exact hs
      clear hs hb hx
      go_wp2
      go_roundw
      case rel => exact ⟨k + 1, by omega, by go_num, HR.out, hbl.setCell (Nat.le_refl _) _⟩
      case measure => simp [intOf]; omega
    · have hkn : k = n := by omega
      subst hkn
      go_wp2
      go_ret
      exact ⟨_, rfl, Nat.le_refl _, by simpa [List.take_of_length_le (Nat.le_of_eq hlen)] using hb, hbl⟩

theorem take_step {xs ys : List Int} {n k : Nat} (hx : xs.length = n) (hy : ys.length = n) (hk : k < n) (h : xs.take k = ys.take k) (he : xs.getD k 0 = ys.getD k 0) : xs.take (k + 1) = ys.take (k + 1) := by
  have e1 : xs.getD k 0 = xs[k] := by simp [hx, hk]
  have e2 : ys.getD k 0 = ys[k] := by simp [hy, hk]
  rw [List.take_succ_eq_append_getElem (by omega), List.take_succ_eq_append_getElem (by omega), h, ← e1, ← e2, he]

set_option maxHeartbeats 400000 in
theorem eqIntS_any (a b : Option Addr) (n m ca cb : Nat) (xs ys : List Int) (w : World) (hx : Row w a n xs) (hy : Row w b m ys) :
    Calls Tryz.prog 28 #[.slice a n ca, .slice b m cb] w fun e w' => e = .returned (.bool (decide (xs = ys))) ∧ ∃ q, w' = w.drewN q := by
  obtain ⟨hxl, hxs, hxa⟩ := hx
  obtain ⟨hyl, hys, hya⟩ := hy
  by_cases hne : n = m
  · subst hne
    have hn : ((n : Int) != (n : Int)) = false := by simp
    go_enter Tryz.func28, Tryz.ntmps28
    go_wp2
    go_loopw [5] (fun i wr => ∃ k : Nat, k ≤ n ∧ i = .int .i64 k ∧ xs.take k = ys.take k ∧ ∃ q, wr = w.drewN q) (fun i _ => n - (intOf i).toNat)
    case atStart => exact ⟨0, Nat.zero_le _, rfl, rfl, 0, rfl⟩
    case round =>
      obtain ⟨k, hk, rfl, htk, q, rfl⟩ := hrel
      by_cases hlt : k < n
      · have ha : ∃ b off, a = some ⟨b, off, none⟩ ∧ w.cell? ⟨b, off + k, none⟩ = some (.int .i64 (xs.getD k 0)) := by
          rcases hxa with h0 | ⟨b, off, rfl, hlt', hc⟩
          · omega
          · exact ⟨b, off, rfl, hc k hlt⟩
        have hb : ∃ b' off, b = some ⟨b', off, none⟩ ∧ w.cell? ⟨b', off + k, none⟩ = some (.int .i64 (ys.getD k 0)) := by
          rcases hya with h0 | ⟨b, off, rfl, hlt', hc⟩
          · omega
          · exact ⟨b, off, rfl, hc k hlt⟩
        obtain ⟨b1, o1, rfl, hc1⟩ := ha
        obtain ⟨b2, o2, rfl, hc2⟩ := hb
        clear hxa hya
        obtain ⟨x, hx⟩ : ∃ x, x = xs.getD k 0 := ⟨_, rfl⟩
        obtain ⟨y, hy⟩ : ∃ y, y = ys.getD k 0 := ⟨_, rfl⟩
        rw [← hx] at hc1
        rw [← hy] at hc2
        have HX : Hid (x = xs.getD k 0) := hx
        have HY : Hid (y = ys.getD k 0) := hy
        have HT : Hid (xs.take k = ys.take k) := htk
        have HL : Hid (xs.length = n ∧ ys.length = n) := ⟨hxl, hyl⟩
        clear hx hy htk hxl hyl
        by_cases hxy : x = y
        · have hb : (x != y) = false := by simp [hxy]
          have HXY : Hid (x = y) := hxy
          clear hxy
          go_wp2
          go_quiet (fail)
          go_wp2
          go_roundw
          case rel => exact ⟨k + 1, by omega, by go_num, take_step HL.out.1 HL.out.2 hlt HT.out (HX.out.symm.trans (HXY.out.trans HY.out)), _, by first | rfl | exact World.drewN_drewN _ _ _⟩
          case measure => simp [intOf]; omega
        · have hb : (x != y) = true := by simp [hxy]
          have HN : Hid (¬ xs = ys) := fun e => hxy (by rw [HX.out, HY.out, e])
          clear hxy
          go_wp2
          go_quiet (fail)
          go_wp2
          go_ret
          exact ⟨ret_bool (decide_eq_false HN.out).symm, _, World.drewN_drewN _ _ _⟩
      · have hkn : k = n := by omega
        have HE : Hid (xs = ys) := by
          show xs = ys
          rwa [List.take_of_length_le (by omega), List.take_of_length_le (by omega)] at htk
        clear htk
        subst hkn
        go_wp2
        go_ret
        exact ⟨ret_bool (decide_eq_true HE.out).symm, _, rfl⟩
  · have hn : ((n : Int) != (m : Int)) = true := by simp; omega
    have HN : Hid (¬ xs = ys) := fun e => hne (by rw [← hxl, ← hyl, e])
    clear hne
    go_enter Tryz.func28, Tryz.ntmps28
    go_wp2
    go_ret
    exact ⟨ret_bool (decide_eq_false HN.out).symm, 0, rfl⟩

end Go.Proofs.YtgjpchnkodnieaaGreatDoor
namespace Go.Proofs.YtgjpchnkodnieaaGreatDoor
open Go.RowKit

theorem Row.alloc {w : World} {a : Option Addr} {n : Nat} {zs : List Int} (h : Row w a n zs) (o : Obj) : Row (w.alloc o) a n zs := h.below (Nat.le_refl _) ((Below.refl _ _).alloc (Nat.le_refl _) _)
theorem Row.drewN {w : World} {a : Option Addr} {n : Nat} {zs : List Int} (h : Row w a n zs) (q : Nat) : Row (w.drewN q) a n zs := ⟨h.len, h.small, h.at_⟩
theorem Below.drewN {B : Nat} {a w : World} (h : Below B a w) (q : Nat) : Below B a (w.drewN q) := h.trans ⟨rfl, rfl, rfl, Nat.le_refl _, fun _ _ => rfl⟩

theorem Row.get {w : World} {a : Option Addr} {n : Nat} {zs : List Int} (h : Row w a n zs) {k : Nat} (hk : k < n) : ∃ b off, a = some ⟨b, off, none⟩ ∧ b < w.heap.size ∧ w.cell? ⟨b, off + k, none⟩ = some (.int .i64 (zs.getD k 0)) := by
  rcases h.at_ with h0 | ⟨b, off, rfl, hlt, hc⟩
  · omega
  · exact ⟨b, off, rfl, hlt, hc k hk⟩

end Go.Proofs.YtgjpchnkodnieaaGreatDoor

namespace Go.Proofs.YtgjpchnkodnieaaGreatDoor
open Go.RowKit

set_option maxHeartbeats 400000 in
theorem szArray_big (c : Bool) (a1 a2 : Option Addr) (n1 n2 c1 c2 : Nat) (left : Int) (w : World) (h1 : n1 ≤ 9223372036854775807) (h2 : n2 ≤ 9223372036854775807) (hl : 0 ≤ left) (hl2 : left ≤ 1048576) (hA : left < n1 + n2) :
    Calls Tryz.prog 19 #[.agg #[.bool c, .slice a1 n1 c1, .slice a2 n2 c2], .int .i64 left] w fun e w' => e = .returned (.int .i64 (-1)) ∧ Below w.heap.size w w' := by
  by_cases hB : left < n1
  · go_enter Tryz.func19, Tryz.ntmps19
    go_wp2_with fail
    refine (szIntS_big _ _ _ _ _ h1 hl hl2 hB).mono ?_
    rintro e w' ⟨rfl, rfl⟩
    go_wp2
    go_ret
    exact ⟨rfl, (Below.refl _ _).alloc (Nat.le_refl _) _⟩
  · go_enter Tryz.func19, Tryz.ntmps19
    go_wp2_with fail
    refine (szIntS_ok _ _ _ _ _ hl2 (by omega)).mono ?_
    rintro e w' ⟨rfl, rfl⟩
    go_wp2_with fail
    refine (szIntS_big _ _ _ _ _ h2 (by omega) (by omega) (by omega)).mono ?_
    rintro e w' ⟨rfl, rfl⟩
    go_wp2
    go_ret
    exact ⟨rfl, (Below.refl _ _).alloc (Nat.le_refl _) _⟩

set_option maxHeartbeats 400000 in
theorem szArray_ok (c : Bool) (a1 a2 : Option Addr) (n1 n2 c1 c2 : Nat) (left : Int) (w : World) (hl2 : left ≤ 1048576) (hA : n1 + n2 ≤ left) :
    Calls Tryz.prog 19 #[.agg #[.bool c, .slice a1 n1 c1, .slice a2 n2 c2], .int .i64 left] w fun e w' => e = .returned (.int .i64 (left - n1 - n2)) ∧ Below w.heap.size w w' := by
  go_enter Tryz.func19, Tryz.ntmps19
  go_wp2_with fail
  refine (szIntS_ok _ _ _ _ _ hl2 (by omega)).mono ?_
  rintro e w' ⟨rfl, rfl⟩
  go_wp2_with fail
  refine (szIntS_ok _ _ _ _ _ (by omega) (by omega)).mono ?_
  rintro e w' ⟨rfl, rfl⟩
  go_wp2
  go_ret
  exact ⟨rfl, (Below.refl _ _).alloc (Nat.le_refl _) _⟩

set_option maxHeartbeats 400000 in
theorem toArray_any (c : Bool) (a1 a2 : Option Addr) (n1 n2 c1 c2 : Nat) (sh dt : List Int) (w : World) (h1 : Row w a1 n1 sh) (h2 : Row w a2 n2 dt) :
    Calls Tryz.prog 21 #[.agg #[.bool c, .slice a1 n1 c1, .slice a2 n2 c2]] w fun e w' => ∃ g1 g2, e = .returned (.agg #[.bool c, .slice (some ⟨g1, 0, none⟩) n1 n1, .slice (some ⟨g2, 0, none⟩) n2 n2]) ∧ w.heap.size ≤ g1 ∧ g1 < g2 ∧ Blk w' g1 sh ∧ Blk w' g2 dt ∧ Below w.heap.size w w' := by
  go_enter Tryz.func21, Tryz.ntmps21
  go_wp2_with fail
  refine (toIntS_any _ _ _ sh _ (by exact h1.below (Nat.le_refl _) (by repeat (first | exact Below.refl _ _ | refine Below.alloc ?_ (by simp <;> omega) _)))).mono ?_
  rintro e w1 ⟨g1, rfl, hg1, hb1, hbe1⟩
  obtain ⟨hc, hf⟩ := bcell hbe1
  have hz := hbe1.size
  have hbW : Below w.heap.size w w1 := Below.trans (by repeat (first | exact Below.refl _ _ | refine Below.alloc ?_ (by simp <;> omega) _)) (hbe1.mono (by simp <;> omega))
  simp at hc hf hz hg1
  have hz0 : w.heap.size < w1.heap.size := by omega
  have hz1 : w.heap.size + 1 < w1.heap.size := by omega
  have hz3 : w.heap.size + 1 + 1 < w1.heap.size := by omega
  clear hbe1
  go_wp2_with fail
  refine (toIntS_any _ _ _ dt _ (by exact h2.below (Nat.le_refl _) (hbW.setCell (by simp <;> omega) _))).mono ?_
  rintro e w2 ⟨g2, rfl, hg2, hb2, hbe2⟩
  obtain ⟨hc2, hf2⟩ := bcell hbe2
  have hz2 := hbe2.size
  have hbW2 : Below w.heap.size w w2 := (hbW.setCell (p := ⟨w.heap.size + 1 + 1, 1, none⟩) (by simp <;> omega) _).trans (hbe2.mono (by simp <;> omega))
  have hb1' : Blk w2 g1 sh := (hb1.other (p := ⟨w.heap.size + 1 + 1, 1, none⟩) (by simp; omega) _).below (Nat.le_refl _) hbe2
  simp at hc2 hf2 hz2 hg2
  clear hbe2
  go_wp2
  refine bodyPost_ret (v := .agg #[.bool c, .slice (some ⟨g1, 0, none⟩) n1 n1, .slice (some ⟨g2, 0, none⟩) n2 n2]) (by simp [results, Tryz.results21, go_sem, hc2, hc, hz1]) rfl ⟨g1, g2, rfl, by omega, ?_, ?_, ?_, ?_⟩
  · have := hb1.lt; omega
  · exact (((hb1'.other (by simp; omega) _).other (by simp; omega) _).other (by simp; omega) _).other (by simp; omega) _
  · exact (((hb2.other (by simp; omega) _).other (by simp; omega) _).other (by simp; omega) _).other (by simp; omega) _
  · exact (((hbW2.setCell (by simp <;> omega) _).setCell (by simp) _).setCell (by simp) _).setCell (by simp) _

set_option maxHeartbeats 400000 in
theorem eqArray_any (c d : Bool) (a1 a2 b1 b2 : Option Addr) (n1 n2 m1 m2 c1 c2 d1 d2 : Nat) (sh dt sh' dt' : List Int) (w : World) (h1 : Row w a1 n1 sh) (h2 : Row w a2 n2 dt) (k1 : Row w b1 m1 sh') (k2 : Row w b2 m2 dt') :
    Calls Tryz.prog 13 #[.agg #[.bool c, .slice a1 n1 c1, .slice a2 n2 c2], .agg #[.bool d, .slice b1 m1 d1, .slice b2 m2 d2]] w fun e w' => e = .returned (.bool (decide (c = d ∧ sh = sh' ∧ dt = dt'))) ∧ Below w.heap.size w w' := by
  have hW : ∀ o1 o2, Below w.heap.size w ((w.alloc o1).alloc o2) := fun o1 o2 => ((Below.refl _ _).alloc (Nat.le_refl _) _).alloc (by simp) _
  by_cases hcd : c = d
  · subst hcd
    have hb : (c == c) = true := by simp
    by_cases hs : sh = sh'
    · have HS := hs
      have hd1 : decide (sh = sh') = true := by simp [hs]
      clear hs
      by_cases ht : dt = dt'
      · have hd2 : decide (dt = dt') = true := by simp [ht]
        have HE : Hid (decide (c = c ∧ sh = sh' ∧ dt = dt') = true) := decide_eq_true ⟨rfl, HS, ht⟩
        clear ht HS
        go_enter Tryz.func13, Tryz.ntmps13
        go_wp2_with fail
        refine (eqIntS_any _ _ _ _ _ _ sh sh' _ ((h1.alloc _).alloc _) ((k1.alloc _).alloc _)).mono ?_
        rintro e w1 ⟨rfl, q, rfl⟩
        rw [hd1]
        go_wp2_with fail
        refine (eqIntS_any _ _ _ _ _ _ dt dt' _ (((h2.alloc _).alloc _).drewN _) (((k2.alloc _).alloc _).drewN _)).mono ?_
        rintro e w1 ⟨rfl, q, rfl⟩
        rw [hd2]
        go_wp2
        go_ret
        exact ⟨ret_bool HE.out.symm, Below.drewN (hW _ _) _⟩
      · have hd2 : decide (dt = dt') = false := by simp [ht]
        have HE : Hid (decide (c = c ∧ sh = sh' ∧ dt = dt') = false) := decide_eq_false (fun h => ht h.2.2)
        clear ht HS
        go_enter Tryz.func13, Tryz.ntmps13
        go_wp2_with fail
        refine (eqIntS_any _ _ _ _ _ _ sh sh' _ ((h1.alloc _).alloc _) ((k1.alloc _).alloc _)).mono ?_
        rintro e w1 ⟨rfl, q, rfl⟩
        rw [hd1]
        go_wp2_with fail
        refine (eqIntS_any _ _ _ _ _ _ dt dt' _ (((h2.alloc _).alloc _).drewN _) (((k2.alloc _).alloc _).drewN _)).mono ?_
        rintro e w1 ⟨rfl, q, rfl⟩
        rw [hd2]
        go_wp2
        go_ret
        exact ⟨ret_bool HE.out.symm, Below.drewN (hW _ _) _⟩
    · have hd1 : decide (sh = sh') = false := by simp [hs]
      have HE : Hid (decide (c = c ∧ sh = sh' ∧ dt = dt') = false) := decide_eq_false (fun h => hs h.2.1)
      clear hs
      go_enter Tryz.func13, Tryz.ntmps13
      go_wp2_with fail
      refine (eqIntS_any _ _ _ _ _ _ sh sh' _ ((h1.alloc _).alloc _) ((k1.alloc _).alloc _)).mono ?_
      rintro e w1 ⟨rfl, q, rfl⟩
      rw [hd1]
      go_wp2
      go_ret
      exact ⟨ret_bool HE.out.symm, Below.drewN (hW _ _) _⟩
  · have hb : (c == d) = false := by simp [hcd]
    have HE : Hid (decide (c = d ∧ sh = sh' ∧ dt = dt') = false) := decide_eq_false (fun h => hcd h.1)
    clear hcd
    go_enter Tryz.func13, Tryz.ntmps13
    go_wp2
    go_ret
    exact ⟨ret_bool HE.out.symm, hW _ _⟩

end Go.Proofs.YtgjpchnkodnieaaGreatDoor
namespace Go.Proofs.YtgjpchnkodnieaaGreatDoor
open Go.RowKit

/-- The slice (a, n, _) reads as the numbers zs, lies in a block from B on, and may be written. -/
structure Own (w : World) (B : Nat) (a : Option Addr) (n : Nat) (zs : List Int) : Prop where
  len : zs.length = n
  small : n ≤ 17592186044416
  at_ : n = 0 ∨ ∃ g off, a = some ⟨g, off, none⟩ ∧ B ≤ g ∧ g < w.heap.size ∧ (∀ i, i < n → w.cell? ⟨g, off + i, none⟩ = some (.int .i64 (zs.getD i 0))) ∧ (∀ i, i < n → w.frozen? ⟨g, off + i, none⟩ = false)

theorem Own.row {w : World} {B : Nat} {a : Option Addr} {n : Nat} {zs : List Int} (h : Own w B a n zs) : Row w a n zs := by
  refine ⟨h.len, h.small, ?_⟩
  rcases h.at_ with h0 | ⟨g, off, rfl, _, hlt, hc, _⟩
  · exact .inl h0
  · exact .inr ⟨g, off, rfl, hlt, hc⟩

theorem Own.mono {w : World} {B B' : Nat} {a : Option Addr} {n : Nat} {zs : List Int} (h : Own w B a n zs) (hB : B' ≤ B) : Own w B' a n zs := by
  refine ⟨h.len, h.small, ?_⟩
  rcases h.at_ with h0 | ⟨g, off, rfl, hg, r⟩
  · exact .inl h0
  · exact .inr ⟨g, off, rfl, by omega, r⟩

theorem Own.below {w w' : World} {a : Option Addr} {n : Nat} {zs : List Int} {B C : Nat} (h : Own w C a n zs) (hB : w.heap.size ≤ B) (hb : Below B w w') : Own w' C a n zs := by
  refine ⟨h.len, h.small, ?_⟩
  rcases h.at_ with h0 | ⟨g, off, rfl, hg, hlt, hc, hf⟩
  · exact .inl h0
  · exact .inr ⟨g, off, rfl, hg, Nat.lt_of_lt_of_le hlt hb.size, fun i hi => (hb.cell (p := ⟨g, off + i, none⟩) (Nat.lt_of_lt_of_le hlt hB)).trans (hc i hi), fun i hi => (hb.frozen (p := ⟨g, off + i, none⟩) (Nat.lt_of_lt_of_le hlt hB)).trans (hf i hi)⟩

theorem Blk.own {w : World} {B g n : Nat} {zs : List Int} (h : Blk w g zs) (hn : zs.length = n) (hs : n ≤ 17592186044416) (hg : B ≤ g) : Own w B (some ⟨g, 0, none⟩) n zs :=
  ⟨hn, hs, .inr ⟨g, 0, rfl, hg, h.lt, fun i hi => by simpa using h.cell (i := i) (by omega), fun i hi => h.free _⟩⟩

/-- Block k holds cells of the slice (a, n, _). -/
def At (a : Option Addr) (n k : Nat) : Prop := n ≠ 0 ∧ ∃ p, a = some p ∧ p.block = k

theorem at_self {g off n : Nat} (h : n ≠ 0) : At (some ⟨g, off, none⟩) n g := ⟨h, _, rfl, rfl⟩
theorem at_eq {g off n k : Nat} (h : At (some ⟨g, off, none⟩) n k) : g = k := by obtain ⟨_, p, hp, hk⟩ := h; cases hp; exact hk

/-- w' is w but for the blocks in S, and for new ones. -/
structure But (S : Nat → Prop) (w w' : World) : Prop where
  os : w'.os = w.os
  tape : w'.tape = w.tape
  output : w'.output = w.output
  size : w.heap.size ≤ w'.heap.size
  block : ∀ k, k < w.heap.size → ¬ S k → w'.heap[k]? = w.heap[k]?

theorem But.refl (S : Nat → Prop) (w : World) : But S w w := ⟨rfl, rfl, rfl, Nat.le_refl _, fun _ _ _ => rfl⟩

theorem But.trans {S T : Nat → Prop} {w w1 w2 : World} (h : But S w w1) (k : But T w1 w2) : But (fun x => S x ∨ T x) w w2 :=
  ⟨k.os.trans h.os, k.tape.trans h.tape, k.output.trans h.output, Nat.le_trans h.size k.size, fun i hi hn => (k.block i (Nat.lt_of_lt_of_le hi h.size) (fun e => hn (.inr e))).trans (h.block i hi (fun e => hn (.inl e)))⟩

theorem But.mono {S T : Nat → Prop} {w w1 : World} (h : But S w w1) (hs : ∀ k, S k → T k) : But T w w1 := ⟨h.os, h.tape, h.output, h.size, fun k hk hn => h.block k hk (fun e => hn (hs k e))⟩

theorem But.of_below {S : Nat → Prop} {w w' : World} (h : Below w.heap.size w w') : But S w w' := ⟨h.os, h.tape, h.output, h.size, fun k hk _ => h.block k hk⟩

theorem But.setCell {S : Nat → Prop} {w w' : World} (h : But S w w') {p : Addr} (hp : S p.block) (v : Value) : But S w (w'.setCell p v) :=
  ⟨h.os, h.tape, h.output, by simpa using h.size, fun k hk hn => by
    rw [heap_setCell_other w' p k v (fun e => hn (by rw [e]; exact hp))]
    exact h.block k hk hn⟩

theorem But.alloc {S : Nat → Prop} {w w' : World} (h : But S w w') (o : Obj) : But S w (w'.alloc o) :=
  ⟨h.os, h.tape, h.output, by have := h.size; simp; omega, fun k hk hn => (Below.heap_alloc w' o k (Nat.lt_of_lt_of_le hk h.size)).trans (h.block k hk hn)⟩

theorem But.below {S : Nat → Prop} {B : Nat} {w w' : World} (h : But S w w') (hB : B ≤ w.heap.size) (hs : ∀ k, S k → B ≤ k) : Below B w w' :=
  ⟨h.os, h.tape, h.output, h.size, fun k hk => h.block k (Nat.lt_of_lt_of_le hk hB) (fun e => by have := hs k e; omega)⟩

/-- Two slices with cells lie in different blocks. -/
def Apart (a : Option Addr) (n : Nat) (b : Option Addr) (m : Nat) : Prop := ∀ k, At a n k → ¬ At b m k

theorem Apart.symm {a b : Option Addr} {n m : Nat} (h : Apart a n b m) : Apart b m a n := fun k h1 h2 => h k h2 h1

theorem But.own {S : Nat → Prop} {b : Option Addr} {m B : Nat} {w w' : World} {ys : List Int} (h : But S w w') (ho : Own w B b m ys) (hap : ∀ k, S k → ¬ At b m k) : Own w' B b m ys := by
  refine ⟨ho.len, ho.small, ?_⟩
  rcases ho.at_ with h0 | ⟨g, off, rfl, hg, hlt, hc, hf⟩
  · exact .inl h0
  · by_cases hm : m = 0
    · exact .inl hm
    have hb := h.block g hlt (fun e => hap g e ⟨hm, _, rfl, rfl⟩)
    exact .inr ⟨g, off, rfl, hg, Nat.lt_of_lt_of_le hlt h.size, fun i hi => (World.cell?_of_block (w := w) (a := ⟨g, off + i, none⟩) hb).trans (hc i hi), fun i hi => (World.frozen?_of_block (w := w) (a := ⟨g, off + i, none⟩) hb).trans (hf i hi)⟩

theorem But.row {S : Nat → Prop} {b : Option Addr} {m : Nat} {w w' : World} {ys : List Int} (h : But S w w') (ho : Row w b m ys) (hap : ∀ k, S k → ¬ At b m k) : Row w' b m ys := by
  refine ⟨ho.len, ho.small, ?_⟩
  rcases ho.at_ with h0 | ⟨g, off, rfl, hlt, hc⟩
  · exact .inl h0
  · by_cases hm : m = 0
    · exact .inl hm
    have hb := h.block g hlt (fun e => hap g e ⟨hm, _, rfl, rfl⟩)
    exact .inr ⟨g, off, rfl, Nat.lt_of_lt_of_le hlt h.size, fun i hi => (World.cell?_of_block (w := w) (a := ⟨g, off + i, none⟩) hb).trans (hc i hi)⟩

theorem Own.low {w : World} {B : Nat} {a : Option Addr} {n : Nat} {zs : List Int} (h : Own w B a n zs) {k : Nat} (hk : At a n k) : B ≤ k := by
  rcases h.at_ with h0 | ⟨g, off, rfl, hg, _⟩
  · exact absurd h0 hk.1
  · have := at_eq hk; omega

theorem Row.hi {w : World} {a : Option Addr} {n : Nat} {zs : List Int} (h : Row w a n zs) {k : Nat} (hk : At a n k) : k < w.heap.size := by
  rcases h.at_ with h0 | ⟨g, off, rfl, hg, _⟩
  · exact absurd h0 hk.1
  · have := at_eq hk; omega

/-- n marks from k on. -/
def marks (k : Int) (n : Nat) : List Int := (List.range n).map fun (i : Nat) => k + (i : Int)

theorem marks_len (k : Int) (n : Nat) : (marks k n).length = n := by simp [marks]
theorem marks_get (k : Int) (n i : Nat) (h : i < n) : (marks k n).getD i 0 = k + i := by simp [marks, h]

end Go.Proofs.YtgjpchnkodnieaaGreatDoor
namespace Go.Proofs.YtgjpchnkodnieaaGreatDoor
open Go.RowKit

set_option maxHeartbeats 400000 in
theorem markIntS_any (a : Option Addr) (n cap B : Nat) (zs : List Int) (k : Int) (w : World) (h : Own w B a n zs) (hk0 : 0 ≤ k) (hk : k ≤ 4611686018427387904) :
    Calls Tryz.prog 77 #[.slice a n cap, .int .i64 k] w fun e w' => e = .returned (.int .i64 (k + n)) ∧ Own w' B a n (marks k n) ∧ But (At a n) w w' := by
  obtain ⟨hlen, hsm, hat⟩ := h
  go_enter Tryz.func77, Tryz.ntmps77
  go_wp2
  go_loopw [1, 5] (fun c i wr => ∃ j : Nat, j ≤ n ∧ i = .int .i64 j ∧ c = .int .i64 (k + j) ∧ But (At a n) w wr ∧
    (n = 0 ∨ ∃ g off, a = some ⟨g, off, none⟩ ∧ B ≤ g ∧ g < wr.heap.size ∧ (∀ i, i < j → wr.cell? ⟨g, off + i, none⟩ = some (.int .i64 (k + i))) ∧ (∀ i, i < n → (wr.cell? ⟨g, off + i, none⟩).isSome = true) ∧ (∀ i, i < n → wr.frozen? ⟨g, off + i, none⟩ = false))) (fun _ i _ => n - (intOf i).toNat)
  case atStart =>
    refine ⟨0, Nat.zero_le _, rfl, by simp, But.refl _ _, ?_⟩
    rcases hat with h0 | ⟨g, off, rfl, hg, hlt, hc, hf⟩
    · exact .inl h0
    · exact .inr ⟨g, off, rfl, hg, hlt, fun i hi => absurd hi (Nat.not_lt_zero _), fun i hi => by rw [hc i hi]; rfl, hf⟩
  case round =>
    obtain ⟨j, hj, rfl, rfl, hbut, hst⟩ := hrel
    by_cases hlt : j < n
    · rcases hst with h0 | ⟨g, off, rfl, hg, hgl, hc, hs, hf⟩
      · omega
      · clear hat
        have hs1 := hs j hlt
        have hf1 := hf j hlt
        obtain ⟨u, hu⟩ := Option.isSome_iff_exists.mp hs1
        have HB := hide hbut
        have HS := hide hs
        have HF := hide hf
        have HC := hide hc
        clear hbut hs hf hc
        go_wp2
        go_roundw
        case rel =>
          refine ⟨j + 1, by omega, by go_num, by go_num, (unhide HB).setCell (at_self (by omega)) _, .inr ⟨g, off, rfl, hg, by simpa using hgl, fun i hi => ?_, fun i hi => ?_, fun i hi => ?_⟩⟩
          · by_cases hij : i = j
            · subst hij
              exact World.cell?_setCell_same _ _ _ hu
            · rw [World.cell?_setCell_other _ _ _ _ (by simp <;> omega)]
              exact unhide HC i (by omega)
          · by_cases hij : i = j
            · subst hij
              rw [World.cell?_setCell_same _ _ _ hu]; rfl
            · rw [World.cell?_setCell_other _ _ _ _ (by simp <;> omega)]
              exact unhide HS i hi
          · simpa using unhide HF i hi
        case measure => simp [intOf]; omega
    · have hjn : j = n := by omega
      subst hjn
      have HB := hide hbut
      have HT := hide hst
      clear hbut hst hat
      go_wp2
      go_ret
      refine ⟨rfl, ⟨marks_len _ _, hsm, ?_⟩, unhide HB⟩
      rcases unhide HT with h0 | ⟨g, off, rfl, hg, hgl, hc, hs, hf⟩
      · exact .inl h0
      · exact .inr ⟨g, off, rfl, hg, hgl, fun i hi => by rw [marks_get _ _ _ hi]; exact hc i hi, hf⟩

end Go.Proofs.YtgjpchnkodnieaaGreatDoor
namespace Go.Proofs.YtgjpchnkodnieaaGreatDoor
open Go.RowKit

set_option maxHeartbeats 400000 in
theorem heldIntS_marks (a : Option Addr) (n cap : Nat) (k : Int) (w : World) (h : Row w a n (marks k n)) (hk0 : 0 ≤ k) (hk : k ≤ 4611686018427387904) :
    Calls Tryz.prog 78 #[.slice a n cap, .int .i64 k] w fun e w' => e = .returned (.int .i64 (k + n)) ∧ w' = w := by
  obtain ⟨hlen, hsm, hat⟩ := h
  clear hlen
  go_enter Tryz.func78, Tryz.ntmps78
  go_wp2
  go_loop [1, 5] (fun c i => ∃ j : Nat, j ≤ n ∧ i = .int .i64 j ∧ c = .int .i64 (k + j)) (fun _ i => n - (intOf i).toNat)
  case atStart => exact ⟨0, Nat.zero_le _, rfl, by simp⟩
  case round =>
    obtain ⟨j, hj, rfl, rfl⟩ := hrel
    by_cases hlt : j < n
    · have ha : ∃ b off, a = some ⟨b, off, none⟩ ∧ w.cell? ⟨b, off + j, none⟩ = some (.int .i64 (k + j)) := by
        rcases hat with h0 | ⟨b, off, rfl, hlt', hc⟩
        · omega
        · exact ⟨b, off, rfl, by rw [← marks_get k n j hlt]; exact hc j hlt⟩
      obtain ⟨b, off, rfl, hc⟩ := ha
      clear hat
      go_wp2
      go_round
      case rel => exact ⟨j + 1, by omega, by go_num, by go_num⟩
      case measure => simp [intOf]; omega
    · have hjn : j = n := by omega
      subst hjn
      clear hat
      go_wp2
      go_ret
      exact ⟨rfl, rfl⟩

end Go.Proofs.YtgjpchnkodnieaaGreatDoor
namespace Go.Proofs.YtgjpchnkodnieaaGreatDoor
open Go.RowKit

theorem Own.alloc {w : World} {B : Nat} {a : Option Addr} {n : Nat} {zs : List Int} (h : Own w B a n zs) (o : Obj) : Own (w.alloc o) B a n zs := h.below (Nat.le_refl _) ((Below.refl _ _).alloc (Nat.le_refl _) _)

end Go.Proofs.YtgjpchnkodnieaaGreatDoor
namespace Go.Proofs.YtgjpchnkodnieaaGreatDoor

def runeOk (v : Int) : Bool := decide (0 ≤ v ∧ v ≤ 1114111 ∧ (v < 55296 ∨ 57343 < v))

def inCells (v : Int) : Bool := decide (0 ≤ v ∧ v ≤ 10000)

/-- The product of the numbers of a shape that are not 0, going from the front; none when it passes 10000. -/
def prodFrom : List Int → Int → Option Int
  | [], n => some n
  | x :: r, n => if x = 0 then prodFrom r n else if 10000 < n * x then none else prodFrom r (n * x)

def countOf (sh : List Int) : Int :=
  if sh.all inCells then
    match prodFrom sh 1 with
    | none => -1
    | some n => if 0 ∈ sh then 0 else n
  else -1

def dataOk (c : Bool) (v : Int) : Bool := (!c || runeOk v) && decide (-1000000000000000 ≤ v ∧ v ≤ 1000000000000000)

def arrOk (c : Bool) (sh dt : List Int) : Bool := decide (sh.length ≤ 5) && (decide (countOf sh = dt.length) && dt.all (dataOk c))

theorem prodFrom_snoc (xs : List Int) (x n : Int) : prodFrom (xs ++ [x]) n = (prodFrom xs n).bind (fun m => prodFrom [x] m) := by
  induction xs generalizing n with
  | nil => simp [prodFrom]
  | cons y r ih =>
    simp only [List.cons_append, prodFrom]
    split
    · exact ih n
    · split
      · simp
      · exact ih _

theorem prodFrom_bd (xs : List Int) (n m : Int) (hx : xs.all inCells = true) (h1 : 1 ≤ n) (h2 : n ≤ 10000) (h : prodFrom xs n = some m) : 1 ≤ m ∧ m ≤ 10000 := by
  induction xs generalizing n with
  | nil => simp [prodFrom] at h; omega
  | cons y r ih =>
    simp only [List.all_cons, Bool.and_eq_true] at hx
    have hy : 0 ≤ y ∧ y ≤ 10000 := by simpa [inCells] using hx.1
    simp only [prodFrom] at h
    split at h
    · exact ih n hx.2 h1 h2 h
    · split at h
      · simp at h
      · rename_i h0 hle
        refine ih (n * y) hx.2 ?_ (by omega) h
        have : 1 * 1 ≤ n * y := Int.mul_le_mul h1 (by omega) (by omega) (by omega)
        omega

theorem prodFrom_none_append (xs ys : List Int) (n : Int) (h : prodFrom xs n = none) : prodFrom (xs ++ ys) n = none := by
  induction xs generalizing n with
  | nil => simp [prodFrom] at h
  | cons y r ih =>
    simp only [List.cons_append, prodFrom] at h ⊢
    split at h
    · rename_i h0; rw [if_pos h0]; exact ih n h
    · rename_i h0; rw [if_neg h0]
      split at h
      · rename_i h1; rw [if_pos h1]
      · rename_i h1; rw [if_neg h1]; exact ih _ h

theorem take_snoc (xs : List Int) (k : Nat) (h : k < xs.length) : xs.take (k + 1) = xs.take k ++ [xs.getD k 0] := by
  rw [List.take_succ_eq_append_getElem h]; simp [h]

theorem all_step (xs : List Int) (p : Int → Bool) (k : Nat) (h : k < xs.length) (ha : (xs.take k).all p = true) (hp : p (xs.getD k 0) = true) : (xs.take (k + 1)).all p = true := by
  rw [take_snoc xs k h, List.all_append, ha]; simpa using hp

theorem all_not (xs : List Int) (p : Int → Bool) (k : Nat) (h : k < xs.length) (hp : p (xs.getD k 0) = false) : xs.all p = false := by
  rw [← Bool.not_eq_true, List.all_eq_true]
  intro hh
  have := hh (xs.getD k 0) (by simp [h])
  rw [hp] at this
  exact absurd this (by simp)

theorem zero_step (xs : List Int) (k : Nat) (h : k < xs.length) : decide (0 ∈ xs.take (k + 1)) = (decide (0 ∈ xs.take k) || decide (xs.getD k 0 = 0)) := by
  rw [take_snoc xs k h]
  generalize xs.take k = t
  generalize xs.getD k 0 = y
  by_cases h1 : 0 ∈ t <;> by_cases h2 : y = 0 <;> simp [h1, h2]
  exact fun e => h2 e.symm

theorem prod_step0 (xs : List Int) (k : Nat) (h : k < xs.length) (n : Int) (hp : prodFrom (xs.take k) 1 = some n) (h0 : xs.getD k 0 = 0) : prodFrom (xs.take (k + 1)) 1 = some n := by
  rw [take_snoc xs k h, prodFrom_snoc, hp, h0]; simp [prodFrom]

theorem prod_step (xs : List Int) (k : Nat) (h : k < xs.length) (n : Int) (hp : prodFrom (xs.take k) 1 = some n) (h0 : xs.getD k 0 ≠ 0) (hl : n * xs.getD k 0 ≤ 10000) : prodFrom (xs.take (k + 1)) 1 = some (n * xs.getD k 0) := by
  rw [take_snoc xs k h, prodFrom_snoc, hp]; simp only [Option.bind_some, prodFrom, if_neg h0]; rw [if_neg (by omega)]

theorem prod_none (xs : List Int) (k : Nat) (h : k < xs.length) (n : Int) (hp : prodFrom (xs.take k) 1 = some n) (h0 : xs.getD k 0 ≠ 0) (hl : 10000 < n * xs.getD k 0) : prodFrom xs 1 = none := by
  have : prodFrom (xs.take (k + 1)) 1 = none := by
    rw [take_snoc xs k h, prodFrom_snoc, hp]; simp only [Option.bind_some, prodFrom, if_neg h0]; rw [if_pos hl]
  rw [← List.take_append_drop (k + 1) xs]
  exact prodFrom_none_append _ _ _ this

theorem count_bad (sh : List Int) (h : sh.all inCells = false) : countOf sh = -1 := by simp [countOf, h]
theorem count_big (sh : List Int) (h : prodFrom sh 1 = none) : countOf sh = -1 := by unfold countOf; rw [h]; split <;> rfl
theorem count_zero (sh : List Int) (n : Int) (ha : sh.all inCells = true) (h : prodFrom sh 1 = some n) (h0 : decide (0 ∈ sh) = true) : countOf sh = 0 := by
  unfold countOf; rw [h, if_pos ha]; simp only []; rw [if_pos (of_decide_eq_true h0)]
theorem count_n (sh : List Int) (n : Int) (ha : sh.all inCells = true) (h : prodFrom sh 1 = some n) (h0 : decide (0 ∈ sh) = false) : countOf sh = n := by
  unfold countOf; rw [h, if_pos ha]; simp only []; rw [if_neg (of_decide_eq_false h0)]

theorem count_bd (sh : List Int) : -1 ≤ countOf sh ∧ countOf sh ≤ 10000 := by
  unfold countOf
  split
  · rename_i ha
    split
    · omega
    · rename_i n hn
      have := prodFrom_bd sh 1 n ha (by omega) (by omega) hn
      split <;> omega
  · omega

end Go.Proofs.YtgjpchnkodnieaaGreatDoor
namespace Go.Proofs.YtgjpchnkodnieaaGreatDoor
open Go.RowKit

set_option maxHeartbeats 1000000 in
theorem l3Count_any (a : Option Addr) (n cap : Nat) (sh : List Int) (w : World) (h : Row w a n sh) : Calls Tryz.prog 48 #[.slice a n cap] w fun e w' => e = .returned (.int .i64 (countOf sh)) ∧ w' = w := by
  have hlen := hide h.len
  have hsm := h.small
  have H := hide h
  clear h
  go_enter Tryz.func48, Tryz.ntmps48
  go_wp2
  go_loop [4] (fun i => ∃ k : Nat, k ≤ n ∧ i = .int .i64 k ∧ Hid ((sh.take k).all inCells = true)) (fun i => n - (intOf i).toNat)
  case atStart => exact ⟨0, Nat.zero_le _, rfl, rfl⟩
  case round =>
    obtain ⟨k, hk, rfl, hall⟩ := hrel
    by_cases hlt : k < n
    · obtain ⟨b, off, rfl, hblt, hc⟩ := (unhide H).get hlt
      have hks : Hid (k < sh.length) := by show k < sh.length; rw [unhide hlen]; exact hlt
      obtain ⟨x, hx⟩ : ∃ x, x = sh.getD k 0 := ⟨_, rfl⟩
      rw [← hx] at hc
      have HX := hide hx
      clear hx
      by_cases hneg : x < 0
      · have HE : Hid (countOf sh = -1) := count_bad sh (all_not sh inCells k (unhide hks) (by rw [← unhide HX]; exact decide_eq_false (by omega)))
        go_wp2
        go_ret
        exact ⟨ret_int HE.out.symm, rfl⟩
      · by_cases hbig : 10000 < x
        · have HE : Hid (countOf sh = -1) := count_bad sh (all_not sh inCells k (unhide hks) (by rw [← unhide HX]; exact decide_eq_false (by omega)))
          go_wp2
          go_ret
          exact ⟨ret_int HE.out.symm, rfl⟩
        · have HA : Hid ((sh.take (k + 1)).all inCells = true) := all_step sh inCells k (unhide hks) (unhide hall) (by rw [← unhide HX]; exact decide_eq_true (by omega))
          go_wp2
          go_round
          case rel => exact ⟨k + 1, by omega, by go_num, HA⟩
          case measure => simp [intOf]; omega
    · have HA : Hid (sh.all inCells = true) := by
        have := unhide hall
        rwa [List.take_of_length_le (by rw [unhide hlen]; omega)] at this
      clear hall
      go_wp2
      go_loop [3, 5, 6] (fun p z i => ∃ (k : Nat) (m : Int), k ≤ n ∧ i = .int .i64 k ∧ p = .int .i64 m ∧ Hid (prodFrom (sh.take k) 1 = some m) ∧ z = .bool (decide (0 ∈ sh.take k))) (fun _ _ i => n - (intOf i).toNat)
      case atStart => exact ⟨0, 1, Nat.zero_le _, rfl, rfl, rfl, rfl⟩
      case round =>
        obtain ⟨k, m, hk, rfl, rfl, hp, rfl⟩ := hrel
        have hmb := prodFrom_bd (sh.take k) 1 m (by rw [List.all_eq_true]; exact fun x hx => List.all_eq_true.1 (unhide HA) x (List.mem_of_mem_take hx)) (by omega) (by omega) (unhide hp)
        obtain ⟨hm1, hm2⟩ := hmb
        by_cases hlt : k < n
        · obtain ⟨b, off, rfl, hblt, hc⟩ := (unhide H).get hlt
          have hks : Hid (k < sh.length) := by show k < sh.length; rw [unhide hlen]; exact hlt
          have hxb : 0 ≤ sh.getD k 0 ∧ sh.getD k 0 ≤ 10000 := of_decide_eq_true (List.all_eq_true.1 (unhide HA) (sh.getD k 0) (by simp [unhide hks]))
          have HZ := hide (zero_step sh k (unhide hks))
          obtain ⟨x, hx⟩ : ∃ x, x = sh.getD k 0 := ⟨_, rfl⟩
          rw [← hx] at hc hxb
          obtain ⟨hx0, hx1⟩ := hxb
          have HX := hide hx
          clear hx
          generalize decide (0 ∈ sh.take k) = z0 at *
          by_cases h0 : x = 0
          · have hb : (x == 0) = true := by simp [h0]
            have HP := hide (prod_step0 sh k (unhide hks) m (unhide hp) (by rw [← unhide HX]; exact h0))
            have HZ2 : Hid (true = decide (0 ∈ sh.take (k + 1))) := by show _ = _; rw [unhide HZ, ← unhide HX, decide_eq_true h0, Bool.or_true]
            clear h0 HZ
            go_wp2
            go_round
            case rel => exact ⟨k + 1, m, by omega, by go_num, rfl, HP, by rw [← unhide HZ2]⟩
            case measure => simp [intOf]; omega
          · have hb : (x == 0) = false := by simp [h0]
            have HZ2 : Hid (z0 = decide (0 ∈ sh.take (k + 1))) := by show _ = _; rw [unhide HZ, ← unhide HX, decide_eq_false h0, Bool.or_false]
            have hmx : m * x ≤ 10000 * 10000 := Int.mul_le_mul hm2 hx1 hx0 (by omega)
            have hmx0 : 0 ≤ m * x := Int.mul_nonneg (by omega) hx0
            by_cases hbig : 10000 < m * x
            · have HE : Hid (countOf sh = -1) := count_big sh (prod_none sh k (unhide hks) m (unhide hp) (by rw [← unhide HX]; exact h0) (by rw [← unhide HX]; exact hbig))
              clear h0 HZ
              go_wp2
              go_ret
              exact ⟨ret_int HE.out.symm, rfl⟩
            · have HP := hide (prod_step sh k (unhide hks) m (unhide hp) (by rw [← unhide HX]; exact h0) (by rw [← unhide HX]; omega))
              rw [← unhide HX] at HP
              clear h0 HZ
              go_wp2
              go_round
              case rel => exact ⟨k + 1, m * x, by omega, by go_num, rfl, HP, by rw [← unhide HZ2]⟩
              case measure => simp [intOf]; omega
        · have HP : Hid (prodFrom sh 1 = some m) := by
            have := unhide hp
            rwa [List.take_of_length_le (by rw [unhide hlen]; omega)] at this
          rw [List.take_of_length_le (by rw [unhide hlen]; omega)]
          by_cases hz : 0 ∈ sh
          · have hd : decide (0 ∈ sh) = true := decide_eq_true hz
            have HE := hide (count_zero sh m (unhide HA) (unhide HP) hd)
            clear hz
            rw [hd]
            go_wp2
            go_ret
            exact ⟨ret_int HE.out.symm, rfl⟩
          · have hd : decide (0 ∈ sh) = false := decide_eq_false hz
            have HE := hide (count_n sh m (unhide HA) (unhide HP) hd)
            clear hz
            rw [hd]
            go_wp2
            go_ret
            exact ⟨ret_int HE.out.symm, rfl⟩

theorem l3Count_eq (a : Option Addr) (n cap : Nat) (sh : List Int) (w : World) (h : Row w a n sh) (cn : Int) (hc : Hid (countOf sh = cn)) : Calls Tryz.prog 48 #[.slice a n cap] w fun e w' => e = .returned (.int .i64 cn) ∧ w' = w := by
  rw [← hc.out]; exact l3Count_any a n cap sh w h

end Go.Proofs.YtgjpchnkodnieaaGreatDoor
namespace Go.Proofs.YtgjpchnkodnieaaGreatDoor
open Go.RowKit

theorem Own.of_owns {w : World} {base n : Nat} {v : Value} {zs : List Int} (h : w.ownsRow base 3 1 v n (zs.map (Value.int .i64))) (hs : n ≤ 17592186044416) : ∃ a cap, v = .slice a n cap ∧ Own w base a n zs := by
  have hl : zs.length = n := by simpa using h.1
  rcases h.2 with ⟨rfl, h0⟩ | ⟨g, cap, cur, rfl, hb, hg, _, _, hcs, ht⟩
  · exact ⟨none, 0, by rw [h0], hl, hs, .inl h0⟩
  · refine ⟨some ⟨g, 0, none⟩, cap, rfl, hl, hs, .inr ⟨g, 0, rfl, hb, lt_of_block hg, fun i hi => ?_, fun i hi => frozen_of_row w g _ _ _ hg⟩⟩
    have e : cur.toList[i]? = some (.int .i64 (zs.getD i 0)) := by
      have : (cur.toList.take (n * 1))[i]? = (zs.map (Value.int .i64))[i]? := by rw [ht]
      rw [List.getElem?_take, if_pos (by omega)] at this
      rw [this]
      simp [hl, hi]
    simpa [World.cell?, hg] using e

theorem cells_ints {w : World} {ad : Addr} {n : Nat} {zs : List Int} (h : Row w (some ad) n zs) : ∀ (j : Nat) u, (zs.map (Value.int .i64))[j]? = some u → w.cell? (ad.add j) = some u := by
  intro j u hj
  have hl := h.len
  have hj' : j < n := by
    rcases Nat.lt_or_ge j n with h' | h'
    · exact h'
    · rw [List.getElem?_eq_none (by simp; omega)] at hj; cases hj
  obtain ⟨b, off, hab, hblt, hc⟩ := h.get hj'
  cases hab
  have hadd : (⟨b, off, none⟩ : Addr).add j = ⟨b, off + j, none⟩ := by by_cases h : j = 0 <;> simp [Addr.add, h]
  rw [hadd, hc]
  simpa [hl, hj'] using hj

theorem one_ints (zs : List Int) : ∀ u ∈ zs.map (Value.int .i64), u.oneCell' = true := by
  intro u hu
  obtain ⟨x, _, rfl⟩ := List.mem_map.mp hu
  rfl

theorem owns_empty (w : World) : (w.alloc (.cells #[] 3)).ownsRow w.heap.size 3 1 (.slice (some ⟨w.heap.size, 0, none⟩) 0 0) 0 [] := by
  refine ⟨by simp, .inr ⟨w.heap.size, 0, #[], rfl, Nat.le_refl _, ?_, by simp, by unfold maxLen; omega, by simp, by simp⟩⟩
  show (w.heap.push _)[w.heap.size]? = _
  simp

set_option maxHeartbeats 400000 in
theorem l3Ints_owns (ad : Addr) (n cap : Nat) (zs : List Int) (w : World) (h : Row w (some ad) n zs) :
    Calls Tryz.prog 71 #[.slice (some ad) n cap] w fun e w' => ∃ a' cap', e = .returned (.slice a' n cap') ∧ w'.ownsRow w.heap.size 3 1 (.slice a' n cap') n (zs.map (Value.int .i64)) ∧ Below w.heap.size w w' := by
  have hl := h.len
  have hs := h.small
  have H := hide h
  clear h
  obtain ⟨i0, hi, hz0, hz1, hz2⟩ := info_parts info_int
  go_enter Tryz.func71, Tryz.ntmps71
  go_wp2_with (at_builtin; refine wpList_append_own _ rfl _ _ 23 rfl w.heap.size 3 i0 (.int .i64 0) 1 8 Tryz.underlying23 hi hz0 hz1 hz2 rfl (by decide) _ _ _ rfl (owns_empty w) ad n cap (zs.map (Value.int .i64)) rfl (by simpa using hl) (cells_ints ((unhide H).alloc _)) (one_ints zs) (by unfold maxLen; omega) (by omega) (by simp) ?_; intro v1 w1 hown hgrow hnil)
  clear hnil
  have hown' : w1.ownsRow w.heap.size 3 1 v1 n (zs.map (Value.int .i64)) := by simpa using hown
  obtain ⟨a', cap', rfl, ho⟩ := Own.of_owns hown' hs
  have hbel : Below w.heap.size w w1 := ((Below.refl _ _).alloc (Nat.le_refl _) _).grown hgrow (by simp) (by intro k hk; cases hk; exact Nat.le_refl _)
  clear hown hgrow ho
  go_wp2
  go_ret
  exact ⟨_, _, rfl, hown', hbel⟩

theorem l3Ints_any (ad : Addr) (n cap : Nat) (zs : List Int) (w : World) (h : Row w (some ad) n zs) :
    Calls Tryz.prog 71 #[.slice (some ad) n cap] w fun e w' => ∃ a' cap', e = .returned (.slice a' n cap') ∧ Own w' w.heap.size a' n zs ∧ Below w.heap.size w w' := by
  refine (l3Ints_owns ad n cap zs w h).mono ?_
  rintro e w' ⟨a', cap', rfl, ho, hb⟩
  obtain ⟨a2, c2, e2, ho2⟩ := Own.of_owns ho h.small
  cases e2
  exact ⟨a', cap', rfl, ho2, hb⟩

end Go.Proofs.YtgjpchnkodnieaaGreatDoor
namespace Go.Proofs.YtgjpchnkodnieaaGreatDoor
open Go.RowKit Go.Shelf

theorem check_int (w : World) (em : Bool) (k : Int) : (Instr.checkKey em 10000 3 (.int .i64 k)).run Tryz.prog w = .ok () w := MapKept.run_checkKey Tryz.underlying3 (by simp [MapKept.IsKey]) em 9999
theorem find_int (w : World) (k : Int) (es : List MapEntry) (r : Option (Nat × Value)) (hf : Instr.findNow (.int .i64) (.int .i64 k) es 0 = some r) : (Instr.findKey 3 (.int .i64 k) es).run Tryz.prog w = .ok r w := by
  unfold Instr.findKey
  simp only [Sem.run_bind, run_underlying Tryz.underlying3, Result.andThen, hf]
  rfl

/-- An entry more in a map that was made last. -/
theorem ins_step (T E : TypeId) (hT : Tryz.prog.underlying T = some (.map 3 E)) (w : World) (es : List MapEntry) (c : Nat) (k : Int) (v : Value) (hf : Instr.findNow (.int .i64) (.int .i64 k) es 0 = some none) :
    (Instr.mapUpdate T (.map (some w.heap.size)) (.int .i64 k) v).run Tryz.prog (w.alloc (.map es.toArray c)) = .ok () (w.alloc (.map (es ++ [(⟨.int .i64 k, v, c⟩ : MapEntry)]).toArray (c + 1))) := by
  have hb := World.alloc_heap_new w (.map es.toArray c)
  have e : (w.heap.push (Obj.map es.toArray c)).setIfInBounds w.heap.size (Obj.map (es ++ [(⟨.int .i64 k, v, c⟩ : MapEntry)]).toArray (c + 1)) = w.heap.push (Obj.map (es ++ [(⟨.int .i64 k, v, c⟩ : MapEntry)]).toArray (c + 1)) := by
    apply Array.ext'
    simp
  unfold Instr.mapUpdate
  simp only [Sem.run_bind, run_underlying hT, Result.andThen, MapKept.run_getObj_map hb, check_int, find_int _ _ _ _ hf]
  rw [show (es.toArray.push ({ key := Value.int IntKind.i64 k, val := v, born := c } : MapEntry)) = (es ++ [(⟨.int .i64 k, v, c⟩ : MapEntry)]).toArray by simp]
  rw [MapKept.run_setObj_map _ hb]
  exact congrArg (fun h => Result.ok () ({ w with heap := h } : World)) e

theorem look_hit (T E : TypeId) (hT : Tryz.prog.underlying T = some (.map 3 E)) (w : World) (p : Nat) (es : List MapEntry) (c i : Nat) (k : Int) (v : Value) (hb : w.heap[p]? = some (.map es.toArray c)) (hf : Instr.findNow (.int .i64) (.int .i64 k) es 0 = some (some (i, v))) :
    (Instr.lookup T (.map (some p)) (.int .i64 k) true).run Tryz.prog w = .ok (.tuple #[v, .bool true]) w := by
  simp [Instr.lookup, run_underlying hT, MapKept.run_getObj_map hb, check_int, find_int _ _ _ _ hf, Result.andThen]

theorem look_miss (T E : TypeId) (hT : Tryz.prog.underlying T = some (.map 3 E)) (w : World) (p : Nat) (es : List MapEntry) (c : Nat) (k : Int) (z : Value) (hz : (zeroValue E).run Tryz.prog w = .ok z w) (hb : w.heap[p]? = some (.map es.toArray c)) (hf : Instr.findNow (.int .i64) (.int .i64 k) es 0 = some none) :
    (Instr.lookup T (.map (some p)) (.int .i64 k) true).run Tryz.prog w = .ok (.tuple #[z, .bool false]) w := by
  simp [Instr.lookup, run_underlying hT, MapKept.run_getObj_map hb, check_int, find_int _ _ _ _ hf, hz, Result.andThen]

theorem make_map (T : TypeId) (w : World) : (Instr.makeMap T none).run Tryz.prog w = .ok (.map (some w.heap.size)) (w.alloc (.map #[] 0)) := by
  simp [Instr.makeMap, Result.andThen]

/-- The functions of one argument. -/
def monTab (op : Int) : List MapEntry := [⟨.int .i64 1, .func (.func 137) #[.int .i64 op] #[], 0⟩,
  ⟨.int .i64 2, .func (.func 137) #[.int .i64 op] #[], 1⟩,
  ⟨.int .i64 3, .func (.func 137) #[.int .i64 op] #[], 2⟩,
  ⟨.int .i64 7, .func (.func 137) #[.int .i64 op] #[], 3⟩,
  ⟨.int .i64 17, .func (.func 137) #[.int .i64 op] #[], 4⟩,
  ⟨.int .i64 18, .func (.func 138) #[.int .i64 op] #[], 5⟩,
  ⟨.int .i64 19, .func (.func 139) #[.int .i64 op] #[], 6⟩,
  ⟨.int .i64 20, .func (.func 140) #[.int .i64 op] #[], 7⟩,
  ⟨.int .i64 28, .func (.func 140) #[.int .i64 op] #[], 8⟩,
  ⟨.int .i64 21, .func (.func 141) #[.int .i64 op] #[], 9⟩,
  ⟨.int .i64 22, .func (.func 141) #[.int .i64 op] #[], 10⟩,
  ⟨.int .i64 23, .func (.func 142) #[.int .i64 op] #[], 11⟩,
  ⟨.int .i64 24, .func (.func 143) #[.int .i64 op] #[], 12⟩,
  ⟨.int .i64 26, .func (.func 144) #[.int .i64 op] #[], 13⟩,
  ⟨.int .i64 27, .func (.func 144) #[.int .i64 op] #[], 14⟩,
  ⟨.int .i64 33, .func (.func 145) #[.int .i64 op] #[], 15⟩]

set_option maxRecDepth 100000 in
set_option maxHeartbeats 8000000 in
theorem monads_any (op : Int) (w : World) :
    Calls Tryz.prog 52 #[.int .i64 op] w fun e w' => e = .returned (.map (some w.heap.size)) ∧ w' = w.alloc (.map (monTab op).toArray 16) := by
  have i0 := ins_step 74 _ Tryz.underlying74 w [] 0 1 (.func (.func 137) #[.int .i64 op] #[]) (by rfl)
  simp only [List.nil_append, Nat.reduceAdd] at i0
  have i1 := ins_step 74 _ Tryz.underlying74 w [⟨.int .i64 1, .func (.func 137) #[.int .i64 op] #[], 0⟩] 1 2 (.func (.func 137) #[.int .i64 op] #[]) (by rfl)
  simp only [List.cons_append, List.nil_append, Nat.reduceAdd] at i1
  have i2 := ins_step 74 _ Tryz.underlying74 w [⟨.int .i64 1, .func (.func 137) #[.int .i64 op] #[], 0⟩, ⟨.int .i64 2, .func (.func 137) #[.int .i64 op] #[], 1⟩] 2 3 (.func (.func 137) #[.int .i64 op] #[]) (by rfl)
  simp only [List.cons_append, List.nil_append, Nat.reduceAdd] at i2
  have i3 := ins_step 74 _ Tryz.underlying74 w [⟨.int .i64 1, .func (.func 137) #[.int .i64 op] #[], 0⟩, ⟨.int .i64 2, .func (.func 137) #[.int .i64 op] #[], 1⟩, ⟨.int .i64 3, .func (.func 137) #[.int .i64 op] #[], 2⟩] 3 7 (.func (.func 137) #[.int .i64 op] #[]) (by rfl)
  simp only [List.cons_append, List.nil_append, Nat.reduceAdd] at i3
  have i4 := ins_step 74 _ Tryz.underlying74 w [⟨.int .i64 1, .func (.func 137) #[.int .i64 op] #[], 0⟩, ⟨.int .i64 2, .func (.func 137) #[.int .i64 op] #[], 1⟩, ⟨.int .i64 3, .func (.func 137) #[.int .i64 op] #[], 2⟩, ⟨.int .i64 7, .func (.func 137) #[.int .i64 op] #[], 3⟩] 4 17 (.func (.func 137) #[.int .i64 op] #[]) (by rfl)
  simp only [List.cons_append, List.nil_append, Nat.reduceAdd] at i4
  have i5 := ins_step 74 _ Tryz.underlying74 w [⟨.int .i64 1, .func (.func 137) #[.int .i64 op] #[], 0⟩, ⟨.int .i64 2, .func (.func 137) #[.int .i64 op] #[], 1⟩, ⟨.int .i64 3, .func (.func 137) #[.int .i64 op] #[], 2⟩, ⟨.int .i64 7, .func (.func 137) #[.int .i64 op] #[], 3⟩, ⟨.int .i64 17, .func (.func 137) #[.int .i64 op] #[], 4⟩] 5 18 (.func (.func 138) #[.int .i64 op] #[]) (by rfl)
  simp only [List.cons_append, List.nil_append, Nat.reduceAdd] at i5
  have i6 := ins_step 74 _ Tryz.underlying74 w [⟨.int .i64 1, .func (.func 137) #[.int .i64 op] #[], 0⟩, ⟨.int .i64 2, .func (.func 137) #[.int .i64 op] #[], 1⟩, ⟨.int .i64 3, .func (.func 137) #[.int .i64 op] #[], 2⟩, ⟨.int .i64 7, .func (.func 137) #[.int .i64 op] #[], 3⟩, ⟨.int .i64 17, .func (.func 137) #[.int .i64 op] #[], 4⟩, ⟨.int .i64 18, .func (.func 138) #[.int .i64 op] #[], 5⟩] 6 19 (.func (.func 139) #[.int .i64 op] #[]) (by rfl)
  simp only [List.cons_append, List.nil_append, Nat.reduceAdd] at i6
  have i7 := ins_step 74 _ Tryz.underlying74 w [⟨.int .i64 1, .func (.func 137) #[.int .i64 op] #[], 0⟩, ⟨.int .i64 2, .func (.func 137) #[.int .i64 op] #[], 1⟩, ⟨.int .i64 3, .func (.func 137) #[.int .i64 op] #[], 2⟩, ⟨.int .i64 7, .func (.func 137) #[.int .i64 op] #[], 3⟩, ⟨.int .i64 17, .func (.func 137) #[.int .i64 op] #[], 4⟩, ⟨.int .i64 18, .func (.func 138) #[.int .i64 op] #[], 5⟩, ⟨.int .i64 19, .func (.func 139) #[.int .i64 op] #[], 6⟩] 7 20 (.func (.func 140) #[.int .i64 op] #[]) (by rfl)
  simp only [List.cons_append, List.nil_append, Nat.reduceAdd] at i7
  have i8 := ins_step 74 _ Tryz.underlying74 w [⟨.int .i64 1, .func (.func 137) #[.int .i64 op] #[], 0⟩, ⟨.int .i64 2, .func (.func 137) #[.int .i64 op] #[], 1⟩, ⟨.int .i64 3, .func (.func 137) #[.int .i64 op] #[], 2⟩, ⟨.int .i64 7, .func (.func 137) #[.int .i64 op] #[], 3⟩, ⟨.int .i64 17, .func (.func 137) #[.int .i64 op] #[], 4⟩, ⟨.int .i64 18, .func (.func 138) #[.int .i64 op] #[], 5⟩, ⟨.int .i64 19, .func (.func 139) #[.int .i64 op] #[], 6⟩, ⟨.int .i64 20, .func (.func 140) #[.int .i64 op] #[], 7⟩] 8 28 (.func (.func 140) #[.int .i64 op] #[]) (by rfl)
  simp only [List.cons_append, List.nil_append, Nat.reduceAdd] at i8
  have i9 := ins_step 74 _ Tryz.underlying74 w [⟨.int .i64 1, .func (.func 137) #[.int .i64 op] #[], 0⟩, ⟨.int .i64 2, .func (.func 137) #[.int .i64 op] #[], 1⟩, ⟨.int .i64 3, .func (.func 137) #[.int .i64 op] #[], 2⟩, ⟨.int .i64 7, .func (.func 137) #[.int .i64 op] #[], 3⟩, ⟨.int .i64 17, .func (.func 137) #[.int .i64 op] #[], 4⟩, ⟨.int .i64 18, .func (.func 138) #[.int .i64 op] #[], 5⟩, ⟨.int .i64 19, .func (.func 139) #[.int .i64 op] #[], 6⟩, ⟨.int .i64 20, .func (.func 140) #[.int .i64 op] #[], 7⟩, ⟨.int .i64 28, .func (.func 140) #[.int .i64 op] #[], 8⟩] 9 21 (.func (.func 141) #[.int .i64 op] #[]) (by rfl)
  simp only [List.cons_append, List.nil_append, Nat.reduceAdd] at i9
  have i10 := ins_step 74 _ Tryz.underlying74 w [⟨.int .i64 1, .func (.func 137) #[.int .i64 op] #[], 0⟩, ⟨.int .i64 2, .func (.func 137) #[.int .i64 op] #[], 1⟩, ⟨.int .i64 3, .func (.func 137) #[.int .i64 op] #[], 2⟩, ⟨.int .i64 7, .func (.func 137) #[.int .i64 op] #[], 3⟩, ⟨.int .i64 17, .func (.func 137) #[.int .i64 op] #[], 4⟩, ⟨.int .i64 18, .func (.func 138) #[.int .i64 op] #[], 5⟩, ⟨.int .i64 19, .func (.func 139) #[.int .i64 op] #[], 6⟩, ⟨.int .i64 20, .func (.func 140) #[.int .i64 op] #[], 7⟩, ⟨.int .i64 28, .func (.func 140) #[.int .i64 op] #[], 8⟩, ⟨.int .i64 21, .func (.func 141) #[.int .i64 op] #[], 9⟩] 10 22 (.func (.func 141) #[.int .i64 op] #[]) (by rfl)
  simp only [List.cons_append, List.nil_append, Nat.reduceAdd] at i10
  have i11 := ins_step 74 _ Tryz.underlying74 w [⟨.int .i64 1, .func (.func 137) #[.int .i64 op] #[], 0⟩, ⟨.int .i64 2, .func (.func 137) #[.int .i64 op] #[], 1⟩, ⟨.int .i64 3, .func (.func 137) #[.int .i64 op] #[], 2⟩, ⟨.int .i64 7, .func (.func 137) #[.int .i64 op] #[], 3⟩, ⟨.int .i64 17, .func (.func 137) #[.int .i64 op] #[], 4⟩, ⟨.int .i64 18, .func (.func 138) #[.int .i64 op] #[], 5⟩, ⟨.int .i64 19, .func (.func 139) #[.int .i64 op] #[], 6⟩, ⟨.int .i64 20, .func (.func 140) #[.int .i64 op] #[], 7⟩, ⟨.int .i64 28, .func (.func 140) #[.int .i64 op] #[], 8⟩, ⟨.int .i64 21, .func (.func 141) #[.int .i64 op] #[], 9⟩, ⟨.int .i64 22, .func (.func 141) #[.int .i64 op] #[], 10⟩] 11 23 (.func (.func 142) #[.int .i64 op] #[]) (by rfl)
  simp only [List.cons_append, List.nil_append, Nat.reduceAdd] at i11
  have i12 := ins_step 74 _ Tryz.underlying74 w [⟨.int .i64 1, .func (.func 137) #[.int .i64 op] #[], 0⟩, ⟨.int .i64 2, .func (.func 137) #[.int .i64 op] #[], 1⟩, ⟨.int .i64 3, .func (.func 137) #[.int .i64 op] #[], 2⟩, ⟨.int .i64 7, .func (.func 137) #[.int .i64 op] #[], 3⟩, ⟨.int .i64 17, .func (.func 137) #[.int .i64 op] #[], 4⟩, ⟨.int .i64 18, .func (.func 138) #[.int .i64 op] #[], 5⟩, ⟨.int .i64 19, .func (.func 139) #[.int .i64 op] #[], 6⟩, ⟨.int .i64 20, .func (.func 140) #[.int .i64 op] #[], 7⟩, ⟨.int .i64 28, .func (.func 140) #[.int .i64 op] #[], 8⟩, ⟨.int .i64 21, .func (.func 141) #[.int .i64 op] #[], 9⟩, ⟨.int .i64 22, .func (.func 141) #[.int .i64 op] #[], 10⟩, ⟨.int .i64 23, .func (.func 142) #[.int .i64 op] #[], 11⟩] 12 24 (.func (.func 143) #[.int .i64 op] #[]) (by rfl)
  simp only [List.cons_append, List.nil_append, Nat.reduceAdd] at i12
  have i13 := ins_step 74 _ Tryz.underlying74 w [⟨.int .i64 1, .func (.func 137) #[.int .i64 op] #[], 0⟩, ⟨.int .i64 2, .func (.func 137) #[.int .i64 op] #[], 1⟩, ⟨.int .i64 3, .func (.func 137) #[.int .i64 op] #[], 2⟩, ⟨.int .i64 7, .func (.func 137) #[.int .i64 op] #[], 3⟩, ⟨.int .i64 17, .func (.func 137) #[.int .i64 op] #[], 4⟩, ⟨.int .i64 18, .func (.func 138) #[.int .i64 op] #[], 5⟩, ⟨.int .i64 19, .func (.func 139) #[.int .i64 op] #[], 6⟩, ⟨.int .i64 20, .func (.func 140) #[.int .i64 op] #[], 7⟩, ⟨.int .i64 28, .func (.func 140) #[.int .i64 op] #[], 8⟩, ⟨.int .i64 21, .func (.func 141) #[.int .i64 op] #[], 9⟩, ⟨.int .i64 22, .func (.func 141) #[.int .i64 op] #[], 10⟩, ⟨.int .i64 23, .func (.func 142) #[.int .i64 op] #[], 11⟩, ⟨.int .i64 24, .func (.func 143) #[.int .i64 op] #[], 12⟩] 13 26 (.func (.func 144) #[.int .i64 op] #[]) (by rfl)
  simp only [List.cons_append, List.nil_append, Nat.reduceAdd] at i13
  have i14 := ins_step 74 _ Tryz.underlying74 w [⟨.int .i64 1, .func (.func 137) #[.int .i64 op] #[], 0⟩, ⟨.int .i64 2, .func (.func 137) #[.int .i64 op] #[], 1⟩, ⟨.int .i64 3, .func (.func 137) #[.int .i64 op] #[], 2⟩, ⟨.int .i64 7, .func (.func 137) #[.int .i64 op] #[], 3⟩, ⟨.int .i64 17, .func (.func 137) #[.int .i64 op] #[], 4⟩, ⟨.int .i64 18, .func (.func 138) #[.int .i64 op] #[], 5⟩, ⟨.int .i64 19, .func (.func 139) #[.int .i64 op] #[], 6⟩, ⟨.int .i64 20, .func (.func 140) #[.int .i64 op] #[], 7⟩, ⟨.int .i64 28, .func (.func 140) #[.int .i64 op] #[], 8⟩, ⟨.int .i64 21, .func (.func 141) #[.int .i64 op] #[], 9⟩, ⟨.int .i64 22, .func (.func 141) #[.int .i64 op] #[], 10⟩, ⟨.int .i64 23, .func (.func 142) #[.int .i64 op] #[], 11⟩, ⟨.int .i64 24, .func (.func 143) #[.int .i64 op] #[], 12⟩, ⟨.int .i64 26, .func (.func 144) #[.int .i64 op] #[], 13⟩] 14 27 (.func (.func 144) #[.int .i64 op] #[]) (by rfl)
  simp only [List.cons_append, List.nil_append, Nat.reduceAdd] at i14
  have i15 := ins_step 74 _ Tryz.underlying74 w [⟨.int .i64 1, .func (.func 137) #[.int .i64 op] #[], 0⟩, ⟨.int .i64 2, .func (.func 137) #[.int .i64 op] #[], 1⟩, ⟨.int .i64 3, .func (.func 137) #[.int .i64 op] #[], 2⟩, ⟨.int .i64 7, .func (.func 137) #[.int .i64 op] #[], 3⟩, ⟨.int .i64 17, .func (.func 137) #[.int .i64 op] #[], 4⟩, ⟨.int .i64 18, .func (.func 138) #[.int .i64 op] #[], 5⟩, ⟨.int .i64 19, .func (.func 139) #[.int .i64 op] #[], 6⟩, ⟨.int .i64 20, .func (.func 140) #[.int .i64 op] #[], 7⟩, ⟨.int .i64 28, .func (.func 140) #[.int .i64 op] #[], 8⟩, ⟨.int .i64 21, .func (.func 141) #[.int .i64 op] #[], 9⟩, ⟨.int .i64 22, .func (.func 141) #[.int .i64 op] #[], 10⟩, ⟨.int .i64 23, .func (.func 142) #[.int .i64 op] #[], 11⟩, ⟨.int .i64 24, .func (.func 143) #[.int .i64 op] #[], 12⟩, ⟨.int .i64 26, .func (.func 144) #[.int .i64 op] #[], 13⟩, ⟨.int .i64 27, .func (.func 144) #[.int .i64 op] #[], 14⟩] 15 33 (.func (.func 145) #[.int .i64 op] #[]) (by rfl)
  simp only [List.cons_append, List.nil_append, Nat.reduceAdd] at i15
  have hmm := make_map 74 w
  go_enter Tryz.func52, Tryz.ntmps52
  go_wp2_with fail
  go_ret
  exact ⟨rfl, rfl⟩

end Go.Proofs.YtgjpchnkodnieaaGreatDoor
namespace Go.Proofs.YtgjpchnkodnieaaGreatDoor

def shapeB (sh : List Int) : Bool := decide (sh.length ≤ 5) && decide (0 ≤ countOf sh)

theorem shape_long {sh : List Int} {n : Nat} (hl : sh.length = n) (h : 5 < n) : shapeB sh = false := by unfold shapeB; rw [decide_eq_false (by omega)]; rfl
theorem shape_bad {sh : List Int} (h : countOf sh = -1) : shapeB sh = false := by unfold shapeB; rw [h]; simp
theorem shape_good {sh : List Int} {n : Nat} (hl : sh.length = n) (h : n ≤ 5) (m : Int) (ha : sh.all inCells = true) (hp : prodFrom sh 1 = some m) : shapeB sh = true := by
  have hb := prodFrom_bd sh 1 m ha (by omega) (by omega) hp
  unfold shapeB; rw [decide_eq_true (by omega)]
  by_cases h0 : decide (0 ∈ sh) = true
  · rw [count_zero sh m ha hp h0]; rfl
  · rw [count_n sh m ha hp (by simpa using h0), decide_eq_true (by omega)]; rfl

/-- The product of all numbers of a shape. -/
def prodAll (sh : List Int) : Int := sh.foldl (· * ·) 1

theorem prodAll_snoc (sh : List Int) (k : Nat) (h : k < sh.length) : prodAll (sh.take (k + 1)) = prodAll (sh.take k) * sh.getD k 0 := by
  rw [take_snoc sh k h]; simp [prodAll]

theorem prodAll_of (sh : List Int) (n m : Int) (h : prodFrom sh n = some m) : sh.foldl (· * ·) n = if 0 ∈ sh then 0 else m := by
  induction sh generalizing n with
  | nil => simp [prodFrom] at h; simp [h]
  | cons x r ih =>
    simp only [prodFrom] at h
    by_cases h0 : x = 0
    · subst h0
      have hz : ∀ (l : List Int), l.foldl (· * ·) 0 = 0 := by intro l; induction l with
        | nil => rfl
        | cons y s ih => simpa using ih
      simp [hz]
    · rw [if_neg h0] at h
      split at h
      · simp at h
      · rw [List.foldl_cons, ih _ h]
        have : (0 ∈ x :: r) ↔ 0 ∈ r := by simp; intro e; exact absurd e.symm h0
        simp only [this]

theorem prodAll_count (sh : List Int) (h : shapeB sh = true) : prodAll sh = countOf sh := by
  unfold shapeB at h
  simp only [Bool.and_eq_true, decide_eq_true_eq] at h
  have h2 := h.2
  unfold countOf at h2 ⊢
  split at h2
  · rename_i ha
    rw [if_pos ha]
    split at h2
    · omega
    · rename_i m hm
      exact prodAll_of sh 1 m hm
  · omega

theorem prodAll_bd (sh : List Int) (h : shapeB sh = true) (k : Nat) : 0 ≤ prodAll (sh.take k) ∧ prodAll (sh.take k) ≤ 10000 := by
  unfold shapeB at h
  simp only [Bool.and_eq_true, decide_eq_true_eq] at h
  have h2 := h.2
  unfold countOf at h2
  split at h2
  · rename_i ha
    split at h2
    · omega
    · rename_i m hm
      have hat : (sh.take k).all inCells = true := by rw [List.all_eq_true]; exact fun x hx => List.all_eq_true.1 ha x (List.mem_of_mem_take hx)
      cases hpt : prodFrom (sh.take k) 1 with
      | none =>
        have := prodFrom_none_append (sh.take k) (sh.drop k) 1 hpt
        rw [List.take_append_drop] at this
        rw [this] at hm; simp at hm
      | some m' =>
        have hb := prodFrom_bd _ 1 m' hat (by omega) (by omega) hpt
        unfold prodAll
        rw [prodAll_of _ 1 m' hpt]
        split <;> omega
  · omega

/-- Numbers that a valid array may have in its shape, but for how many they are. -/
def ShapeIn (sh : List Int) : Prop := sh.all inCells = true ∧ ∃ m, prodFrom sh 1 = some m

theorem prodFrom_less (ys : List Int) (n m k : Int) (hy : ys.all inCells = true) (hk : 1 ≤ k) (hkn : k ≤ n) (h : prodFrom ys n = some m) : ∃ m', prodFrom ys k = some m' := by
  induction ys generalizing n k with
  | nil => exact ⟨k, rfl⟩
  | cons y r ih =>
    simp only [List.all_cons, Bool.and_eq_true] at hy
    have hyb : 0 ≤ y ∧ y ≤ 10000 := by simpa [inCells] using hy.1
    simp only [prodFrom] at h ⊢
    by_cases h0 : y = 0
    · rw [if_pos h0] at h ⊢; exact ih n k hy.2 hk hkn h
    · rw [if_neg h0] at h ⊢
      split at h
      · simp at h
      · rename_i hle
        have h1 : k * y ≤ n * y := Int.mul_le_mul_of_nonneg_right hkn (by omega)
        have h2 : 1 * 1 ≤ k * y := Int.mul_le_mul hk (by omega) (by omega) (by omega)
        rw [if_neg (by omega)]
        exact ih (n * y) (k * y) hy.2 (by omega) h1 h

theorem ShapeIn.take {sh : List Int} (h : ShapeIn sh) (k : Nat) : ShapeIn (sh.take k) := by
  obtain ⟨ha, m, hm⟩ := h
  refine ⟨by rw [List.all_eq_true]; exact fun x hx => List.all_eq_true.1 ha x (List.mem_of_mem_take hx), ?_⟩
  cases hpt : prodFrom (sh.take k) 1 with
  | none =>
    have := prodFrom_none_append (sh.take k) (sh.drop k) 1 hpt
    rw [List.take_append_drop] at this
    rw [this] at hm; simp at hm
  | some m' => exact ⟨m', rfl⟩

theorem prodFrom_append (xs ys : List Int) (n : Int) : prodFrom (xs ++ ys) n = (prodFrom xs n).bind (prodFrom ys) := by
  induction xs generalizing n with
  | nil => simp [prodFrom]
  | cons y r ih =>
    simp only [List.cons_append, prodFrom]
    split
    · exact ih n
    · split
      · simp
      · exact ih _

theorem ShapeIn.drop {sh : List Int} (h : ShapeIn sh) (k : Nat) : ShapeIn (sh.drop k) := by
  have ht := h.take k
  obtain ⟨ha, m, hm⟩ := h
  have hd : (sh.drop k).all inCells = true := by rw [List.all_eq_true]; exact fun x hx => List.all_eq_true.1 ha x (List.mem_of_mem_drop hx)
  refine ⟨hd, ?_⟩
  obtain ⟨hta, p, hp⟩ := ht
  have hb := prodFrom_bd _ 1 p hta (by omega) (by omega) hp
  rw [← List.take_append_drop k sh, prodFrom_append, hp, Option.bind_some] at hm
  exact prodFrom_less _ p m 1 hd (by omega) hb.1 hm

theorem ShapeIn.bd {sh : List Int} (h : ShapeIn sh) : 0 ≤ prodAll sh ∧ prodAll sh ≤ 10000 := by
  obtain ⟨ha, m, hm⟩ := h
  have hb := prodFrom_bd sh 1 m ha (by omega) (by omega) hm
  unfold prodAll
  rw [prodAll_of sh 1 m hm]
  split <;> omega

theorem ShapeIn.cell {sh : List Int} (h : ShapeIn sh) (k : Nat) : 0 ≤ sh.getD k 0 ∧ sh.getD k 0 ≤ 10000 := by
  by_cases hk : k < sh.length
  · have := List.all_eq_true.1 h.1 (sh.getD k 0) (by simp [hk])
    simpa [inCells] using this
  · have e : sh.getD k 0 = 0 := by simp [List.getD, List.getElem?_eq_none (by omega : sh.length ≤ k)]
    rw [e]; omega

theorem shapeIn_of {c : Bool} {sh dt : List Int} (h : arrOk c sh dt = true) : ShapeIn sh ∧ prodAll sh = dt.length ∧ sh.length ≤ 5 := by
  unfold arrOk at h
  simp only [Bool.and_eq_true, decide_eq_true_eq] at h
  obtain ⟨h5, hc, _⟩ := h
  have hs : shapeB sh = true := by unfold shapeB; rw [decide_eq_true h5, decide_eq_true (by omega)]; rfl
  refine ⟨?_, by rw [prodAll_count sh hs, hc], h5⟩
  unfold countOf at hc
  split at hc
  · rename_i ha
    split at hc
    · omega
    · rename_i m hm; exact ⟨ha, m, hm⟩
  · omega

theorem prodAll_append (xs ys : List Int) : prodAll (xs ++ ys) = prodAll xs * prodAll ys := by
  have key : ∀ (ys : List Int) (n : Int), ys.foldl (· * ·) n = n * ys.foldl (· * ·) 1 := by
    intro ys
    induction ys with
    | nil => intro n; simp
    | cons y r ih => intro n; rw [List.foldl_cons, List.foldl_cons, ih (n * y), ih (1 * y), Int.one_mul, Int.mul_assoc]
  unfold prodAll
  rw [List.foldl_append, key]

end Go.Proofs.YtgjpchnkodnieaaGreatDoor
namespace Go.Proofs.YtgjpchnkodnieaaGreatDoor

/-- The place of an index, by its first k numbers. -/
def placeN (sh ix : List Int) : Nat → Int
  | 0 => 0
  | k + 1 => placeN sh ix k * sh.getD k 0 + ix.getD k 0

def place (sh ix : List Int) : Int := placeN sh ix sh.length

/-- Each number of an index is below its axis. -/
def IxIn (sh ix : List Int) : Prop := ∀ k, k < sh.length → 0 ≤ ix.getD k 0 ∧ ix.getD k 0 < sh.getD k 0

theorem placeN_bd {sh ix : List Int} (hi : IxIn sh ix) (k : Nat) (hk : k ≤ sh.length) : 0 ≤ placeN sh ix k ∧ placeN sh ix k < prodAll (sh.take k) := by
  induction k with
  | zero => simp [placeN, prodAll]
  | succ k ih =>
    obtain ⟨h1, h2⟩ := ih (by omega)
    obtain ⟨h3, h4⟩ := hi k (by omega)
    rw [prodAll_snoc sh k (by omega)]
    show 0 ≤ placeN sh ix k * sh.getD k 0 + ix.getD k 0 ∧ placeN sh ix k * sh.getD k 0 + ix.getD k 0 < _
    have h5 : 0 ≤ placeN sh ix k * sh.getD k 0 := Int.mul_nonneg h1 (by omega)
    have h6 : (placeN sh ix k + 1) * sh.getD k 0 ≤ prodAll (sh.take k) * sh.getD k 0 := Int.mul_le_mul_of_nonneg_right (by omega) (by omega)
    rw [Int.add_mul, Int.one_mul] at h6
    omega

theorem place_bd {sh ix : List Int} (hi : IxIn sh ix) : 0 ≤ place sh ix ∧ place sh ix < prodAll sh := by
  have := placeN_bd hi sh.length (Nat.le_refl _)
  rwa [List.take_length] at this

/-- What is left of a place behind j axes, going from the last. -/
def restN (sh : List Int) (p : Int) : Nat → Int
  | 0 => p
  | j + 1 => restN sh p j / sh.getD (sh.length - 1 - j) 0

def digit (sh : List Int) (p : Int) (i : Nat) : Int := restN sh p (sh.length - 1 - i) % sh.getD i 0

/-- The index of a place. -/
def digits (sh : List Int) (p : Int) : List Int := (List.range sh.length).map (digit sh p)

theorem digits_len (sh : List Int) (p : Int) : (digits sh p).length = sh.length := by simp [digits]

theorem digits_get (sh : List Int) (p : Int) (k : Nat) (hk : k < sh.length) : (digits sh p).getD k 0 = digit sh p k := by simp [digits, hk]

/-- No axis of length 0. -/
def Full (sh : List Int) : Prop := ∀ k, k < sh.length → 0 < sh.getD k 0

theorem restN_nn {sh : List Int} (hf : Full sh) {p : Int} (hp : 0 ≤ p) (j : Nat) (hj : j ≤ sh.length) : 0 ≤ restN sh p j ∧ restN sh p j ≤ p := by
  induction j with
  | zero => exact ⟨hp, Int.le_refl _⟩
  | succ j ih =>
    obtain ⟨h1, h2⟩ := ih (by omega)
    have hs := hf (sh.length - 1 - j) (by omega)
    show 0 ≤ restN sh p j / sh.getD (sh.length - 1 - j) 0 ∧ restN sh p j / sh.getD (sh.length - 1 - j) 0 ≤ p
    exact ⟨Int.ediv_nonneg h1 (by omega), Int.le_trans (Int.ediv_le_self _ h1) h2⟩

theorem digits_in {sh : List Int} (hf : Full sh) (p : Int) : IxIn sh (digits sh p) := by
  intro k hk
  rw [digits_get sh p k hk]
  have hs := hf k hk
  exact ⟨Int.emod_nonneg _ (by omega), Int.emod_lt_of_pos _ hs⟩

theorem restN_lt {sh : List Int} (hf : Full sh) {p : Int} (hl : p < prodAll sh) (j : Nat) (hj : j ≤ sh.length) : restN sh p j < prodAll (sh.take (sh.length - j)) := by
  induction j with
  | zero => simpa [restN] using hl
  | succ j ih =>
    have h1 := ih (by omega)
    have hs := hf (sh.length - 1 - j) (by omega)
    have e : sh.length - j = sh.length - 1 - j + 1 := by omega
    rw [e, prodAll_snoc sh _ (by omega)] at h1
    have e2 : sh.length - (j + 1) = sh.length - 1 - j := by omega
    rw [e2]
    exact Int.ediv_lt_of_lt_mul hs h1

theorem place_digits_aux {sh : List Int} (hf : Full sh) {p : Int} (hp : 0 ≤ p) (hl : p < prodAll sh) (k : Nat) (hk : k ≤ sh.length) : placeN sh (digits sh p) k = restN sh p (sh.length - k) := by
  induction k with
  | zero =>
    have h1 := (restN_nn hf hp sh.length (Nat.le_refl _)).1
    have h2 := restN_lt hf hl sh.length (Nat.le_refl _)
    simp [prodAll] at h2
    show (0 : Int) = _
    simp
    omega
  | succ k ih =>
    have h1 := ih (by omega)
    show placeN sh (digits sh p) k * sh.getD k 0 + (digits sh p).getD k 0 = _
    rw [h1, digits_get sh p k (by omega)]
    have e : sh.length - k = sh.length - (k + 1) + 1 := by omega
    have e2 : sh.length - 1 - (sh.length - (k + 1)) = k := by omega
    have e3 : sh.length - 1 - k = sh.length - (k + 1) := by omega
    rw [e]
    show restN sh p (sh.length - (k + 1)) / sh.getD (sh.length - 1 - (sh.length - (k + 1))) 0 * sh.getD k 0 + digit sh p k = _
    rw [e2]
    unfold digit
    rw [e3, Int.mul_comm]
    exact Int.mul_ediv_add_emod _ _

/-- The index of a place is the index of that place. -/
theorem place_digits {sh : List Int} (hf : Full sh) {p : Int} (hp : 0 ≤ p) (hl : p < prodAll sh) : place sh (digits sh p) = p := by
  have := place_digits_aux hf hp hl sh.length (Nat.le_refl _)
  simpa [place, restN] using this

theorem full_of {sh : List Int} (h : ShapeIn sh) (hp : 0 < prodAll sh) : Full sh := by
  intro k hk
  have h1 := (h.cell k).1
  by_cases h0 : sh.getD k 0 = 0
  · exfalso
    have e : sh = sh.take k ++ sh.getD k 0 :: sh.drop (k + 1) := by simp [List.getD, hk]
    have hz : prodAll sh = 0 := by
      rw [e, prodAll_append, h0]
      have : prodAll (0 :: sh.drop (k + 1)) = prodAll [0] * prodAll (sh.drop (k + 1)) := by rw [← prodAll_append]; rfl
      rw [this]
      simp [prodAll]
    omega
  · omega

theorem drop_set {D : List Int} {m : Nat} (hm : m < D.length) : (List.replicate (m + 1) (0 : Int) ++ D.drop (m + 1)).set m (D.getD m 0) = List.replicate m 0 ++ D.drop m := by
  have e : D.drop m = D.getD m 0 :: D.drop (m + 1) := by simp [List.getD, hm]
  rw [e, List.replicate_succ', List.append_assoc, List.set_append_right _ _ (by simp)]
  simp

end Go.Proofs.YtgjpchnkodnieaaGreatDoor
namespace Go.Proofs.YtgjpchnkodnieaaGreatDoor

def inM (v : Int) : Bool := decide (-1000000000000000 ≤ v ∧ v ≤ 1000000000000000)

def truth (b : Bool) : Int := if b then 1 else 0
theorem truth_bd (b : Bool) : 0 ≤ truth b ∧ truth b ≤ 1 := by cases b <;> simp [truth]

def timesOf (a b : Int) : Int × Bool := if inM (a * b) = true then (a * b, true) else (0, false)
def powOf (a b : Int) : Int × Bool := if inM (a ^ b.toNat) = true then (a ^ b.toNat, true) else (0, false)
def modOf (a b : Int) : Int := if a = 0 then b else if b.tmod a ≠ 0 ∧ decide (b.tmod a < 0) ≠ decide (a < 0) then b.tmod a + a else b.tmod a
def orderOf (op a b : Int) : Int :=
  if op = 5 then (if a < b then a else b) else if op = 6 then (if a < b then b else a)
  else if op = 9 then truth (decide (a = b)) else if op = 10 then truth (decide (a ≠ b))
  else if op = 11 then truth (decide (a < b)) else if op = 13 then truth (decide (b ≤ a)) else if op = 12 then truth (decide (a ≤ b)) else truth (decide (b < a))

def limited (r : Int × Bool) : Int × Int := if r.2 = true ∧ inM r.1 = true then (r.1, 0) else (0, 7)

/-- A scalar function on two numbers: what it gives and its code. -/
def twoOf (op a b : Int) : Int × Int :=
  if op = 1 then limited (a + b, true) else if op = 2 then limited (a - b, true) else if op = 3 then limited (timesOf a b)
  else if op = 4 then (if a = 0 ∧ b = 0 then (1, 0) else if b = 0 ∨ a.tmod b ≠ 0 then (0, 3) else limited (a.tdiv b, true))
  else if op = 7 then limited (modOf a b, true)
  else if op = 8 then (if b < 0 then (0, 3) else limited (powOf a b))
  else if op = 15 ∨ op = 16 then (if (a ≠ 0 ∧ a ≠ 1) ∨ (b ≠ 0 ∧ b ≠ 1) then (0, 3) else limited (truth (decide (truth (decide (op = 15)) < a + b)), true))
  else limited (orderOf op a b, true)

theorem tdiv_lt {x y : Int} (hy : 0 < y) : (1000000000000000 : Int).tdiv y < x ↔ 1000000000000000 < x * y := by
  rw [Int.tdiv_eq_ediv_of_nonneg (by omega)]
  constructor
  · intro h
    by_cases h' : 1000000000000000 < x * y
    · exact h'
    · exact absurd (Int.le_ediv_of_mul_le hy (by omega : x * y ≤ 1000000000000000)) (by omega)
  · intro h
    by_cases h' : (1000000000000000 : Int) / y < x
    · exact h'
    · have := Int.mul_le_of_le_ediv hy (by omega : x ≤ (1000000000000000 : Int) / y)
      omega

theorem times_big {a b : Int} (h : inM (a * b) = false) : timesOf a b = (0, false) := by simp [timesOf, h]
theorem times_ok {a b : Int} (h : inM (a * b) = true) : timesOf a b = (a * b, true) := by simp [timesOf, h]
theorem inM_of {v : Int} (h1 : -1000000000000000 ≤ v) (h2 : v ≤ 1000000000000000) : inM v = true := decide_eq_true ⟨h1, h2⟩
theorem inM_not {v : Int} (h : v < -1000000000000000 ∨ 1000000000000000 < v) : inM v = false := decide_eq_false (by omega)
theorem inM_bd {v : Int} (h : inM v = true) : -1000000000000000 ≤ v ∧ v ≤ 1000000000000000 := of_decide_eq_true h

theorem abs_ge_two {a : Int} (h0 : a ≠ 0) (h1 : a ≠ 1) (hm : a ≠ -1) : 2 ≤ a.natAbs := by omega

/-- Beyond the bound a power of a number of two or more stays there. -/
theorem pow_step_big {a : Int} (ha : 2 ≤ a.natAbs) (k n : Nat) (hk : k ≤ n) (h : inM (a ^ k) = false) : inM (a ^ n) = false := by
  have hb : ∀ v : Int, inM v = false ↔ 1000000000000000 < v.natAbs := by
    intro v; simp only [inM, decide_eq_false_iff_not]; omega
  rw [hb] at h ⊢
  rw [Int.natAbs_pow] at h ⊢
  exact Nat.lt_of_lt_of_le h (Nat.pow_le_pow_right (by omega) hk)

theorem pow_bound {a : Int} (ha : 2 ≤ a.natAbs) (k : Nat) (h : inM (a ^ k) = true) : k < 50 := by
  have hb := inM_bd h
  have h1 : (a ^ k).natAbs ≤ 1000000000000000 := by omega
  rw [Int.natAbs_pow] at h1
  rcases Nat.lt_or_ge k 50 with h' | h'
  · exact h'
  · have : 2 ^ 50 ≤ a.natAbs ^ k := Nat.le_trans (Nat.pow_le_pow_right (by omega) h') (Nat.pow_le_pow_left ha k)
    have e : (2 : Nat) ^ 50 = 1125899906842624 := by decide
    omega

end Go.Proofs.YtgjpchnkodnieaaGreatDoor
namespace Go.Proofs.YtgjpchnkodnieaaGreatDoor

/-- An array and a code, as a function of the document answers them. -/
structure Ans where
  c : Bool
  sh : List Int
  dt : List Int
  code : Int

end Go.Proofs.YtgjpchnkodnieaaGreatDoor
namespace Go.Proofs.YtgjpchnkodnieaaGreatDoor

/-- The first code other than 0 among the first n; 0 if there is none. -/
def firstCode (f : Nat → Int × Int) : Nat → Int
  | 0 => 0
  | n + 1 => if firstCode f n = 0 then (f n).2 else firstCode f n

def vals (f : Nat → Int × Int) (n : Nat) : List Int := (List.range n).map fun i => (f i).1

theorem vals_len (f : Nat → Int × Int) (n : Nat) : (vals f n).length = n := by simp [vals]

theorem vals_snoc (f : Nat → Int × Int) (n : Nat) : (vals f (n + 1)).map (Value.int .i64) = (vals f n).map (Value.int .i64) ++ [.int .i64 (f n).1] := by
  simp [vals, List.range_succ]

theorem code_step {f : Nat → Int × Int} {n : Nat} (h : firstCode f n = 0) (h2 : (f n).2 = 0) : firstCode f (n + 1) = 0 := by
  simp [firstCode, h, h2]

theorem code_stays {f : Nat → Int × Int} {n m : Nat} (h : firstCode f n ≠ 0) (hm : n ≤ m) : firstCode f m = firstCode f n := by
  induction m with
  | zero => have : n = 0 := by omega
            subst this; rfl
  | succ m ih =>
    rcases Nat.lt_or_ge n (m + 1) with h' | h'
    · have := ih (by omega)
      simp only [firstCode]
      rw [this, if_neg h]
    · have : n = m + 1 := by omega
      subst this; rfl

theorem code_found {f : Nat → Int × Int} {k n : Nat} (h : firstCode f k = 0) (hk : k < n) (h2 : (f k).2 ≠ 0) : firstCode f n = (f k).2 := by
  have e : firstCode f (k + 1) = (f k).2 := by simp [firstCode, h]
  rw [code_stays (n := k + 1) (by rw [e]; exact h2) (by omega), e]

def noAns (code : Int) : Ans := ⟨false, [], [], code⟩

/-- n elements, or the first code. -/
def gatherAns (c : Bool) (sh : List Int) (f : Nat → Int × Int) (n : Nat) : Ans := if firstCode f n = 0 then ⟨c, sh, vals f n, 0⟩ else noAns (firstCode f n)

theorem gather_good {c : Bool} {sh : List Int} {f : Nat → Int × Int} {n : Nat} (h : firstCode f n = 0) : gatherAns c sh f n = ⟨c, sh, vals f n, 0⟩ := by simp [gatherAns, h]
theorem gather_bad {c : Bool} {sh : List Int} {f : Nat → Int × Int} {k n : Nat} (h : firstCode f k = 0) (hk : k < n) (h2 : (f k).2 ≠ 0) : gatherAns c sh f n = noAns (f k).2 := by
  have e := code_found h hk h2
  unfold gatherAns; rw [if_neg (by rw [e]; exact h2), e]

/-- A scalar function on elements of arrays that may be Char. -/
def elemOf (op : Int) (c : Bool) (dt : List Int) (i : Nat) (d : Bool) (dt' : List Int) (j : Nat) : Int × Int :=
  if c ≠ d then (truth (decide (op = 10)), 0) else twoOf op (dt.getD i 0) (dt'.getD j 0)

def opIn (op : Int) : Bool := decide (1 ≤ op ∧ op ≤ 16)
def opEq (op : Int) : Bool := decide (op = 9 ∨ op = 10)

def wideB (n1 n2 m1 m2 : Nat) : Bool := decide (n2 = 1) && (decide (m2 ≠ 1) || decide (n1 < m1))

def scalar2 (op : Int) (c d : Bool) (sh dt sh' dt' : List Int) : Ans :=
  if arrOk c sh dt = true ∧ arrOk d sh' dt' = true ∧ opIn op = true then
    let wide := wideB sh.length dt.length sh'.length dt'.length
    let tall := decide (dt'.length = 1) && !wide
    if (!wide && !tall) = true ∧ sh.length ≠ sh'.length then noAns 4
    else if (!wide && !tall) = true ∧ sh ≠ sh' then noAns 5
    else if (c || d) = true ∧ opEq op = false then noAns 3
    else gatherAns false (if wide then sh' else sh) (fun i => elemOf op c dt (i % dt.length) d dt' (i % dt'.length)) (countOf (if wide then sh' else sh)).toNat
  else noAns 3

end Go.Proofs.YtgjpchnkodnieaaGreatDoor
namespace Go.Proofs.YtgjpchnkodnieaaGreatDoor

/-- The code of an array that should be a list of numbers. -/
def listCode (c : Bool) (n : Nat) : Int := if 1 < n then 4 else if c then 3 else 0

def fillOf (c : Bool) : Int := if c then 32 else 0

def reshapeAt (d : Bool) (dt' : List Int) (m2 k : Nat) : Int × Int := (if m2 = 0 then fillOf d else dt'.getD (k % m2) 0, 0)

def nonNeg (v : Int) : Bool := decide (0 ≤ v)

def reshape (c d : Bool) (sh dt sh' dt' : List Int) : Ans :=
  if arrOk c sh dt = true ∧ arrOk d sh' dt' = true then
    if listCode c sh.length ≠ 0 then noAns (listCode c sh.length)
    else if dt.all nonNeg = false then noAns 3
    else if shapeB dt = false then noAns 7
    else gatherAns d dt (reshapeAt d dt' dt'.length) (countOf dt).toNat
  else noAns 3

theorem reshape_bad1 {c d : Bool} {sh dt sh' dt' : List Int} (h : arrOk c sh dt = false) : reshape c d sh dt sh' dt' = noAns 3 := by unfold reshape; rw [if_neg (by simp [h])]
theorem reshape_bad2 {c d : Bool} {sh dt sh' dt' : List Int} (h : arrOk d sh' dt' = false) : reshape c d sh dt sh' dt' = noAns 3 := by unfold reshape; rw [if_neg (by simp [h])]
theorem reshape_list {c d : Bool} {sh dt sh' dt' : List Int} (h1 : arrOk c sh dt = true) (h2 : arrOk d sh' dt' = true) (r : Int) (h : listCode c sh.length = r) (hr : r ≠ 0) : reshape c d sh dt sh' dt' = noAns r := by
  unfold reshape; rw [if_pos ⟨h1, h2⟩, h, if_pos hr]
theorem reshape_neg {c d : Bool} {sh dt sh' dt' : List Int} (h1 : arrOk c sh dt = true) (h2 : arrOk d sh' dt' = true) (h : listCode c sh.length = 0) (h3 : dt.all nonNeg = false) : reshape c d sh dt sh' dt' = noAns 3 := by
  unfold reshape; rw [if_pos ⟨h1, h2⟩, if_neg (by simp [h]), if_pos h3]
theorem reshape_big {c d : Bool} {sh dt sh' dt' : List Int} (h1 : arrOk c sh dt = true) (h2 : arrOk d sh' dt' = true) (h : listCode c sh.length = 0) (h3 : dt.all nonNeg = true) (h4 : shapeB dt = false) : reshape c d sh dt sh' dt' = noAns 7 := by
  unfold reshape; rw [if_pos ⟨h1, h2⟩, if_neg (by simp [h]), if_neg (by simp [h3]), if_pos h4]
theorem reshape_go {c d : Bool} {sh dt sh' dt' : List Int} (h1 : arrOk c sh dt = true) (h2 : arrOk d sh' dt' = true) (h : listCode c sh.length = 0) (h3 : dt.all nonNeg = true) (h4 : shapeB dt = true) (m2 N : Nat) (l4 : dt'.length = m2) (hN : countOf dt = N) : reshape c d sh dt sh' dt' = gatherAns d dt (reshapeAt d dt' m2) N := by
  unfold reshape; rw [if_pos ⟨h1, h2⟩, if_neg (by simp [h]), if_neg (by simp [h3]), if_neg (by simp [h4]), l4, hN]; rfl

theorem shapeB_count {sh : List Int} (h : shapeB sh = true) : 0 ≤ countOf sh ∧ countOf sh ≤ 10000 := by
  unfold shapeB at h
  simp only [Bool.and_eq_true, decide_eq_true_eq] at h
  exact ⟨h.2, (count_bd sh).2⟩

end Go.Proofs.YtgjpchnkodnieaaGreatDoor
namespace Go.Proofs.YtgjpchnkodnieaaGreatDoor

/-- An index moved by a start. -/
def addIx (ix st : List Int) : List Int := (List.range ix.length).map fun i => ix.getD i 0 + st.getD i 0

theorem addIx_len (ix st : List Int) : (addIx ix st).length = ix.length := by simp [addIx]
theorem addIx_get (ix st : List Int) (k : Nat) (hk : k < ix.length) : (addIx ix st).getD k 0 = ix.getD k 0 + st.getD k 0 := by simp [addIx, hk]

/-- The first k numbers of an index lie within their axes. -/
def insideN (sh ix : List Int) : Nat → Bool
  | 0 => true
  | k + 1 => insideN sh ix k && (decide (0 ≤ ix.getD k 0) && decide (ix.getD k 0 < sh.getD k 0))

theorem inside_each {sh ix : List Int} {n : Nat} (h : insideN sh ix n = true) (k : Nat) (hk : k < n) : 0 ≤ ix.getD k 0 ∧ ix.getD k 0 < sh.getD k 0 := by
  induction n with
  | zero => omega
  | succ n ih =>
    simp only [insideN, Bool.and_eq_true, decide_eq_true_eq] at h
    by_cases e : k = n
    · subst e; exact h.2
    · exact ih h.1 (by omega)

theorem inside_in {sh ix : List Int} (h : insideN sh ix sh.length = true) : IxIn sh ix := fun k hk => inside_each h k hk

/-- What stands at place k of a window. -/
def windowAt (c : Bool) (sh dt st zs : List Int) (k : Nat) : Int × Int :=
  if insideN sh (addIx (digits zs k) st) sh.length = true then (dt.getD (place sh (addIx (digits zs k) st)).toNat 0, 0) else (fillOf c, 0)

theorem window_code (c : Bool) (sh dt st zs : List Int) (k : Nat) : (windowAt c sh dt st zs k).2 = 0 := by unfold windowAt; split <;> rfl

theorem mix_set {A D : List Int} {k : Nat} (hl : A.length = D.length) (hk : k < D.length) : (A.take k ++ D.drop k).set k (A.getD k 0) = A.take (k + 1) ++ D.drop (k + 1) := by
  have e : D.drop k = D.getD k 0 :: D.drop (k + 1) := by simp [List.getD, hk]
  have e2 : A.take (k + 1) = A.take k ++ [A.getD k 0] := take_snoc A k (by omega)
  rw [e, e2, List.append_assoc, List.set_append_right _ _ (by simp; omega)]
  have e3 : k - (A.take k).length = 0 := by simp; omega
  rw [e3]
  rfl

theorem mix_get {A D : List Int} {k : Nat} (hl : A.length = D.length) (hk : k < D.length) : (A.take k ++ D.drop k).getD k 0 = D.getD k 0 := by
  have e3 : min k A.length = k := by omega
  simp [List.getD, List.getElem?_append, e3]

theorem mix_got {A D : List Int} {k : Nat} (hk : k < A.length) : (A.take (k + 1) ++ D.drop (k + 1)).getD k 0 = A.getD k 0 := by
  have e : k < min (k + 1) A.length := by omega
  simp [List.getD, List.getElem?_append, e, hk]

theorem mix_len {A D : List Int} {k : Nat} (hl : A.length = D.length) (hk : k ≤ D.length) : (A.take k ++ D.drop k).length = D.length := by simp; omega

theorem shapeB_in {sh : List Int} (h : shapeB sh = true) : ShapeIn sh ∧ sh.length ≤ 5 := by
  unfold shapeB at h
  simp only [Bool.and_eq_true, decide_eq_true_eq] at h
  refine ⟨?_, h.1⟩
  have h2 := h.2
  unfold countOf at h2
  split at h2
  · rename_i ha
    split at h2
    · omega
    · rename_i m hm; exact ⟨ha, m, hm⟩
  · omega

end Go.Proofs.YtgjpchnkodnieaaGreatDoor
namespace Go.Proofs.YtgjpchnkodnieaaGreatDoor

theorem map_range_set (n k : Nat) (f : Nat → Int) (x : Int) : ((List.range n).map f).set k x = (List.range n).map fun i => if i = k then x else f i := by
  apply List.ext_getElem
  · simp
  · intro i h1 h2
    simp only [List.getElem_set, List.getElem_map, List.getElem_range]
    by_cases e : k = i
    · subst e; simp
    · rw [if_neg e, if_neg (fun h => e h.symm)]

theorem map_range_get (n k : Nat) (f : Nat → Int) (h : k < n) : ((List.range n).map f).getD k 0 = f k := by simp [h]
theorem map_range_len (n : Nat) (f : Nat → Int) : ((List.range n).map f).length = n := by simp
theorem map_range_eq {n : Nat} {f g : Nat → Int} (h : ∀ i, i < n → f i = g i) : (List.range n).map f = (List.range n).map g := List.map_congr_left fun i hi => h i (by simpa using hi)

/-- The index of place p whose last j numbers have gone back to 0. -/
def midDigit (sh : List Int) (p : Int) (j i : Nat) : Int := if sh.length - j ≤ i then 0 else digit sh p i
def mid (sh : List Int) (p : Int) (j : Nat) : List Int := (List.range sh.length).map (midDigit sh p j)

theorem mid_len (sh : List Int) (p : Int) (j : Nat) : (mid sh p j).length = sh.length := by simp [mid]
theorem mid_get (sh : List Int) (p : Int) (j : Nat) (hj : j < sh.length) : (mid sh p j).getD (sh.length - 1 - j) 0 = digit sh p (sh.length - 1 - j) := by
  unfold mid; rw [map_range_get _ _ _ (by omega)]; unfold midDigit; rw [if_neg (by omega)]
theorem mid_zero (sh : List Int) (p : Int) : mid sh p 0 = digits sh p := map_range_eq fun i hi => by unfold midDigit; rw [if_neg (by omega)]
theorem mid_step (sh : List Int) (p : Int) (j : Nat) (hj : j < sh.length) : (mid sh p j).set (sh.length - 1 - j) 0 = mid sh p (j + 1) := by
  unfold mid
  rw [map_range_set]
  refine map_range_eq fun i hi => ?_
  unfold midDigit
  by_cases e : i = sh.length - 1 - j
  · rw [if_pos e, if_pos (by omega)]
  · rw [if_neg e]
    by_cases h : sh.length - j ≤ i
    · rw [if_pos h, if_pos (by omega)]
    · rw [if_neg h, if_neg (by omega)]

def Carry (sh : List Int) (p : Int) (j : Nat) : Prop := restN sh (p + 1) j = restN sh p j + 1 ∧ ∀ i, sh.length - j ≤ i → i < sh.length → digit sh (p + 1) i = 0

theorem carry_zero (sh : List Int) (p : Int) : Carry sh p 0 := ⟨rfl, fun i h1 h2 => by omega⟩

theorem next_same {r s : Int} (hs : 0 < s) (h : r % s + 1 < s) : (r + 1) / s = r / s ∧ (r + 1) % s = r % s + 1 := by
  have h1 := Int.mul_ediv_add_emod r s
  have h2 := Int.emod_nonneg r (by omega : s ≠ 0)
  exact (Int.ediv_emod_unique hs).2 ⟨by omega, by omega, h⟩

theorem next_over {r s : Int} (hs : 0 < s) (h : ¬ r % s + 1 < s) : (r + 1) / s = r / s + 1 ∧ (r + 1) % s = 0 := by
  have h1 := Int.mul_ediv_add_emod r s
  have h2 := Int.emod_nonneg r (by omega : s ≠ 0)
  have h3 := Int.emod_lt_of_pos r hs
  have h4 : r % s + 1 = s := by omega
  refine (Int.ediv_emod_unique hs).2 ⟨?_, by omega, hs⟩
  rw [Int.mul_add, Int.mul_one]
  omega

theorem digit_at (sh : List Int) (p : Int) (j : Nat) (hj : j < sh.length) : digit sh p (sh.length - 1 - j) = restN sh p j % sh.getD (sh.length - 1 - j) 0 := by
  unfold digit; rw [show sh.length - 1 - (sh.length - 1 - j) = j by omega]

theorem carry_step {sh : List Int} (hf : Full sh) {p : Int} {j : Nat} (hc : Carry sh p j) (hj : j < sh.length) (h : ¬ digit sh p (sh.length - 1 - j) + 1 < sh.getD (sh.length - 1 - j) 0) : Carry sh p (j + 1) := by
  rw [digit_at _ _ _ hj] at h
  obtain ⟨h1, h2⟩ := next_over (hf (sh.length - 1 - j) (by omega)) h
  refine ⟨?_, fun i hi hl => ?_⟩
  · show restN sh (p + 1) j / _ = restN sh p j / _ + 1
    rw [hc.1]; exact h1
  · by_cases e : i = sh.length - 1 - j
    · subst e; rw [digit_at _ _ _ hj, hc.1]; exact h2
    · exact hc.2 i (by omega) hl

theorem restN_congr {sh : List Int} {p q : Int} {j : Nat} (h : restN sh p j = restN sh q j) (d : Nat) : restN sh p (j + d) = restN sh q (j + d) := by
  induction d with
  | zero => exact h
  | succ d ih => show restN sh p (j + d) / _ = restN sh q (j + d) / _; rw [ih]

theorem carry_stop {sh : List Int} (hf : Full sh) {p : Int} {j : Nat} (hc : Carry sh p j) (hj : j < sh.length) (h : digit sh p (sh.length - 1 - j) + 1 < sh.getD (sh.length - 1 - j) 0) :
    (mid sh p j).set (sh.length - 1 - j) (digit sh p (sh.length - 1 - j) + 1) = digits sh (p + 1) := by
  have hd := digit_at sh p j hj
  rw [hd] at h ⊢
  obtain ⟨h1, h2⟩ := next_same (hf (sh.length - 1 - j) (by omega)) h
  unfold mid digits
  rw [map_range_set]
  refine map_range_eq fun i hi => ?_
  by_cases e : i = sh.length - 1 - j
  · rw [if_pos e]; subst e; rw [digit_at _ _ _ hj, hc.1, h2]
  · rw [if_neg e]
    unfold midDigit
    by_cases h3 : sh.length - j ≤ i
    · rw [if_pos h3, hc.2 i h3 hi]
    · rw [if_neg h3]
      have e2 : restN sh p (j + 1) = restN sh (p + 1) (j + 1) := by
        show restN sh p j / _ = restN sh (p + 1) j / _
        rw [hc.1, h1]
      have e3 := restN_congr e2 (sh.length - 1 - i - (j + 1))
      rw [show j + 1 + (sh.length - 1 - i - (j + 1)) = sh.length - 1 - i by omega] at e3
      unfold digit
      rw [e3]

theorem carry_end {sh : List Int} {p : Int} {j : Nat} (hc : Carry sh p j) (hj : sh.length ≤ j) : mid sh p j = digits sh (p + 1) :=
  map_range_eq fun i hi => by unfold midDigit; rw [if_pos (by omega), hc.2 i (by omega) hi]

theorem digits_zero (sh : List Int) : digits sh 0 = List.replicate sh.length 0 := by
  have h0 : ∀ j, restN sh 0 j = 0 := by
    intro j
    induction j with
    | zero => rfl
    | succ j ih => show restN sh 0 j / _ = 0; rw [ih]; simp
  have e : List.replicate sh.length (0 : Int) = (List.range sh.length).map fun _ => 0 := by
    rw [List.map_const']; simp
  rw [e]
  exact map_range_eq fun i hi => by unfold digit; rw [h0]; simp

/-- The index of another array that a function of indexes means. -/
def meant (sh : List Int) (f : List Int → Nat → Int) (D : List Int) : List Int := (List.range sh.length).map (f D)

theorem meant_len (sh : List Int) (f : List Int → Nat → Int) (D : List Int) : (meant sh f D).length = sh.length := by simp [meant]
theorem meant_get (sh : List Int) (f : List Int → Nat → Int) (D : List Int) (k : Nat) (h : k < sh.length) : (meant sh f D).getD k 0 = f D k := map_range_get _ _ _ h

/-- What stands at place k of what is gathered. -/
def gatherAt (c : Bool) (sh dt : List Int) (f : List Int → Nat → Int) (zs : List Int) (k : Nat) : Int × Int :=
  if insideN sh (meant sh f (digits zs k)) sh.length = true then (dt.getD (place sh (meant sh f (digits zs k))).toNat 0, 0) else (fillOf c, 0)

/-- k elements have been gathered, the others are the fill. -/
def halfway (c : Bool) (sh dt : List Int) (f : List Int → Nat → Int) (zs : List Int) (N k : Nat) : List Int := (List.range N).map fun i => if i < k then (gatherAt c sh dt f zs i).1 else fillOf c

theorem half_len (c : Bool) (sh dt : List Int) (f : List Int → Nat → Int) (zs : List Int) (N k : Nat) : (halfway c sh dt f zs N k).length = N := by simp [halfway]
theorem half_zero (c : Bool) (sh dt : List Int) (f : List Int → Nat → Int) (zs : List Int) (N : Nat) : halfway c sh dt f zs N 0 = List.replicate N (fillOf c) := by
  have e : List.replicate N (fillOf c) = (List.range N).map fun _ => fillOf c := by rw [List.map_const']; simp
  rw [e]
  exact map_range_eq fun i _ => by rw [if_neg (by omega)]
theorem half_all (c : Bool) (sh dt : List Int) (f : List Int → Nat → Int) (zs : List Int) (N : Nat) : halfway c sh dt f zs N N = vals (gatherAt c sh dt f zs) N := map_range_eq fun i hi => by rw [if_pos hi]
theorem half_in (c : Bool) (sh dt : List Int) (f : List Int → Nat → Int) (zs : List Int) (N k : Nat) (x : Int) (hx : (gatherAt c sh dt f zs k).1 = x) : (halfway c sh dt f zs N k).set k x = halfway c sh dt f zs N (k + 1) := by
  unfold halfway
  rw [map_range_set]
  refine map_range_eq fun i _ => ?_
  by_cases e : i = k
  · subst e; rw [if_pos rfl, if_pos (by omega), hx]
  · rw [if_neg e]
    by_cases h : i < k
    · rw [if_pos h, if_pos (by omega)]
    · rw [if_neg h, if_neg (by omega)]
theorem half_out (c : Bool) (sh dt : List Int) (f : List Int → Nat → Int) (zs : List Int) (N k : Nat) (h : insideN sh (meant sh f (digits zs k)) sh.length = false) : halfway c sh dt f zs N k = halfway c sh dt f zs N (k + 1) := by
  refine map_range_eq fun i _ => ?_
  by_cases e : i = k
  · subst e; rw [if_neg (by omega), if_pos (by omega)]; unfold gatherAt; rw [if_neg (by simp [h])]
  · by_cases h : i < k
    · rw [if_pos h, if_pos (by omega)]
    · rw [if_neg h, if_neg (by omega)]
theorem gather_in {c : Bool} {sh dt : List Int} {f : List Int → Nat → Int} {zs : List Int} {k : Nat} (h : insideN sh (meant sh f (digits zs k)) sh.length = true) : (gatherAt c sh dt f zs k).1 = dt.getD (place sh (meant sh f (digits zs k))).toNat 0 := by unfold gatherAt; rw [if_pos h]

theorem inside_step {sh ix : List Int} {k : Nat} (h : insideN sh ix k = true) (h1 : 0 ≤ ix.getD k 0) (h2 : ix.getD k 0 < sh.getD k 0) : insideN sh ix (k + 1) = true := by
  simp only [insideN, Bool.and_eq_true, decide_eq_true_eq]; exact ⟨h, h1, h2⟩
theorem inside_not {sh ix : List Int} {n k : Nat} (hk : k < n) (h : ¬ (0 ≤ ix.getD k 0 ∧ ix.getD k 0 < sh.getD k 0)) : insideN sh ix n = false := by
  cases e : insideN sh ix n with
  | false => rfl
  | true => exact absurd (inside_each e k hk) h
theorem placeN_bd' {sh ix : List Int} (k : Nat) (hi : insideN sh ix k = true) (hk : k ≤ sh.length) : 0 ≤ placeN sh ix k ∧ placeN sh ix k < prodAll (sh.take k) ∨ k = 0 := by
  by_cases h0 : k = 0
  · exact .inr h0
  refine .inl ?_
  have hin : IxIn (sh.take k) ix := fun i hi' => by
    have hi2 : i < k := by simp at hi'; omega
    have := inside_each hi i hi2
    have e : (sh.take k).getD i 0 = sh.getD i 0 := by simp [List.getD, hi2]
    rw [e]; exact this
  have hb := place_bd hin
  have e2 : ∀ j, j ≤ k → placeN (sh.take k) ix j = placeN sh ix j := by
    intro j
    induction j with
    | zero => intro _; rfl
    | succ j ih =>
      intro hj
      show placeN (sh.take k) ix j * _ + _ = placeN sh ix j * _ + _
      rw [ih (by omega)]
      have e : (sh.take k).getD j 0 = sh.getD j 0 := by simp [List.getD, show j < k by omega]
      rw [e]
  have hlen : (sh.take k).length = k := by simp; omega
  unfold place at hb
  rw [hlen, e2 k (Nat.le_refl _)] at hb
  exact hb

end Go.Proofs.YtgjpchnkodnieaaGreatDoor
namespace Go.Proofs.YtgjpchnkodnieaaGreatDoor

/-- The place of the last axis, or of the first. -/
def axisAt (sh : List Int) (first : Bool) : Nat := if first then 0 else sh.length - 1
def axisB (sh : List Int) (first : Bool) : Int := prodAll (sh.take (axisAt sh first))
def axisN (sh : List Int) (first : Bool) : Int := sh.getD (axisAt sh first) 0
def axisA (sh : List Int) (first : Bool) : Int := prodAll (sh.drop (axisAt sh first + 1))
def without (sh : List Int) (first : Bool) : List Int := if first then sh.drop 1 else sh.take (sh.length - 1)

theorem axis_all (sh : List Int) (first : Bool) (h : sh ≠ []) : axisB sh first * axisN sh first * axisA sh first = prodAll sh := by
  have hl : 0 < sh.length := List.length_pos_iff.mpr h
  have hat : axisAt sh first < sh.length := by unfold axisAt; split <;> omega
  have e : sh = sh.take (axisAt sh first) ++ ([sh.getD (axisAt sh first) 0] ++ sh.drop (axisAt sh first + 1)) := by
    have h1 := List.take_append_drop (axisAt sh first + 1) sh
    rw [take_snoc sh _ hat, List.append_assoc] at h1
    exact h1.symm
  have e1 : prodAll [sh.getD (axisAt sh first) 0] = sh.getD (axisAt sh first) 0 := by simp [prodAll]
  have e2 := congrArg prodAll e
  rw [prodAll_append, prodAll_append, e1, ← Int.mul_assoc] at e2
  exact e2.symm

/-- What folding nothing gives. -/
def emptyOf (op : Int) : Int := [0, 0, 0, 1, 1, 1000000000000000, -1000000000000000, 0, 1, 1, 0, 0, 1, 1, 0, 1, 0].getD op.toNat 0

/-- Numbers folded from the right, and the code. -/
def foldR (op : Int) : List Int → Int × Int
  | [] => (emptyOf op, 0)
  | [x] => (x, 0)
  | x :: y :: r => if (foldR op (y :: r)).2 ≠ 0 then (0, (foldR op (y :: r)).2) else twoOf op x (foldR op (y :: r)).1

theorem foldR_cons {op x : Int} {r : List Int} (h : r ≠ []) : foldR op (x :: r) = if (foldR op r).2 ≠ 0 then (0, (foldR op r).2) else twoOf op x (foldR op r).1 := by
  cases r with
  | nil => exact absurd rfl h
  | cons y s => rfl

theorem foldR_code {op : Int} (xs : List Int) {r : List Int} {c : Int} (hr : r ≠ []) (h : foldR op r = (0, c)) (hc : c ≠ 0) : foldR op (xs ++ r) = (0, c) := by
  induction xs with
  | nil => exact h
  | cons x s ih =>
    rw [List.cons_append, foldR_cons (by simp [hr]), ih]
    simp [hc]

theorem two_code {op a b : Int} (h : (twoOf op a b).2 ≠ 0) : (twoOf op a b).1 = 0 := by
  unfold twoOf limited at h ⊢
  repeat' split
  all_goals simp_all

theorem two_bd (op a b : Int) : -1000000000000000 ≤ (twoOf op a b).1 ∧ (twoOf op a b).1 ≤ 1000000000000000 := by
  have hl : ∀ r : Int × Bool, -1000000000000000 ≤ (limited r).1 ∧ (limited r).1 ≤ 1000000000000000 := by
    intro r; unfold limited; split
    · rename_i h; exact inM_bd h.2
    · simp
  unfold twoOf
  repeat' split
  all_goals first | exact hl _ | simp

/-- The numbers along an axis. -/
def lineOf (dt : List Int) (p n after q : Nat) : List Int := (List.range n).map fun i => dt.getD ((p * n + i) * after + q) 0

theorem line_len (dt : List Int) (p n after q : Nat) : (lineOf dt p n after q).length = n := by simp [lineOf]
theorem line_get (dt : List Int) (p n after q i : Nat) (h : i < n) : (lineOf dt p n after q).getD i 0 = dt.getD ((p * n + i) * after + q) 0 := by simp [lineOf, h]
theorem line_snoc (dt : List Int) (p n after q k : Nat) (h : k < n) : ((lineOf dt p n after q).take (k + 1)).map (Value.int .i64) = ((lineOf dt p n after q).take k).map (Value.int .i64) ++ [.int .i64 (dt.getD ((p * n + k) * after + q) 0)] := by
  rw [take_snoc _ _ (by rw [line_len]; exact h), line_get _ _ _ _ _ _ h]; simp

theorem line_in {B n A p q i L : Nat} (hL : B * n * A = L) (hp : p < B) (hq : q < A) (hi : i < n) : (p * n + i) * A + q < L := by
  have h1 : p * n + i < B * n := by
    have : (p + 1) * n ≤ B * n := Nat.mul_le_mul_right n hp
    rw [Nat.add_mul] at this; omega
  have h2 : (p * n + i + 1) * A ≤ B * n * A := Nat.mul_le_mul_right A h1
  rw [Nat.add_mul] at h2; omega

def fold (op : Int) (c : Bool) (sh dt : List Int) (first : Bool) : Ans :=
  if arrOk c sh dt = true ∧ opIn op = true then
    if sh = [] then ⟨c, [], dt, 0⟩
    else if c = true ∧ axisN sh first ≠ 1 then noAns 3
    else gatherAns c (without sh first) (fun k => foldR op (lineOf dt (k / (axisA sh first).toNat) (axisN sh first).toNat (axisA sh first).toNat (k % (axisA sh first).toNat))) ((axisB sh first).toNat * (axisA sh first).toNat)
  else noAns 3

def scan (op : Int) (c : Bool) (sh dt : List Int) (first : Bool) : Ans :=
  if arrOk c sh dt = true ∧ opIn op = true then
    if sh = [] then ⟨c, [], dt, 0⟩
    else if c = true ∧ 1 < axisN sh first then noAns 3
    else gatherAns c sh (fun k => foldR op ((lineOf dt (k / (axisA sh first).toNat / (axisN sh first).toNat) (axisN sh first).toNat (axisA sh first).toNat (k % (axisA sh first).toNat)).take (k / (axisA sh first).toNat % (axisN sh first).toNat + 1))) ((axisB sh first).toNat * (axisN sh first).toNat * (axisA sh first).toNat)
  else noAns 3

end Go.Proofs.YtgjpchnkodnieaaGreatDoor
namespace Go.Proofs.YtgjpchnkodnieaaGreatDoor

/-- The code of an array that should have one number. -/
def singleCode (c : Bool) (n : Nat) : Int := if n ≠ 1 then 5 else if c then 3 else 0

/-- Where element t of the rotated array comes from. -/
def rotFrom (n A d t : Nat) : Nat := (t / A / n * n + (t / A % n + d) % n) * A + t % A

def rotAt (n A d : Nat) (dt : List Int) (t : Nat) : Int × Int := (dt.getD (rotFrom n A d t) 0, 0)

theorem rotFrom_at {n A d p i q : Nat} (hi : i < n) (hq : q < A) : rotFrom n A d ((p * n + i) * A + q) = (p * n + (i + d) % n) * A + q := by
  have hA : 0 < A := by omega
  have hn : 0 < n := by omega
  have e1 : ((p * n + i) * A + q) / A = p * n + i := by rw [Nat.add_comm, Nat.add_mul_div_right _ _ hA, Nat.div_eq_of_lt hq, Nat.zero_add]
  have e2 : ((p * n + i) * A + q) % A = q := by rw [Nat.add_comm, Nat.add_mul_mod_self_right, Nat.mod_eq_of_lt hq]
  have e3 : (p * n + i) / n = p := by rw [Nat.add_comm, Nat.add_mul_div_right _ _ hn, Nat.div_eq_of_lt hi, Nat.zero_add]
  have e4 : (p * n + i) % n = i := by rw [Nat.add_comm, Nat.add_mul_mod_self_right, Nat.mod_eq_of_lt hi]
  unfold rotFrom
  rw [e1, e2, e3, e4]

theorem three_lt {B n A p i q : Nat} (hp : p < B) (hi : i < n) (hq : q < A) : (p * n + i) * A + q < B * n * A := by
  have h1 : p * n + i + 1 ≤ B * n := by
    have : (p + 1) * n ≤ B * n := Nat.mul_le_mul_right n hp
    rw [Nat.add_mul, Nat.one_mul] at this
    omega
  have h2 : (p * n + i + 1) * A ≤ B * n * A := Nat.mul_le_mul_right A h1
  rw [Nat.add_mul, Nat.one_mul] at h2
  omega

def rotate (c d : Bool) (sh dt sh' dt' : List Int) (fl : Bool) : Ans :=
  if arrOk c sh dt = true ∧ arrOk d sh' dt' = true then
    if singleCode c dt.length ≠ 0 then noAns (singleCode c dt.length)
    else if sh' = [] ∨ dt' = [] then ⟨d, sh', dt', 0⟩
    else ⟨d, sh', vals (rotAt (axisN sh' fl).toNat (axisA sh' fl).toNat (modOf (axisN sh' fl) (dt.getD 0 0)).toNat dt') dt'.length, 0⟩
  else noAns 3

section
variable {c d fl : Bool} {sh dt sh' dt' : List Int}
theorem rotate_bad1 (h : arrOk c sh dt = false) : rotate c d sh dt sh' dt' fl = noAns 3 := by unfold rotate; rw [if_neg (by simp [h])]
theorem rotate_bad2 (h : arrOk d sh' dt' = false) : rotate c d sh dt sh' dt' fl = noAns 3 := by unfold rotate; rw [if_neg (by simp [h])]
theorem rotate_code (h1 : arrOk c sh dt = true) (h2 : arrOk d sh' dt' = true) (r : Int) (h : singleCode c dt.length = r) (hr : r ≠ 0) : rotate c d sh dt sh' dt' fl = noAns r := by
  unfold rotate; rw [if_pos ⟨h1, h2⟩, h, if_pos hr]
theorem rotate_none (h1 : arrOk c sh dt = true) (h2 : arrOk d sh' dt' = true) (h : singleCode c dt.length = 0) (h3 : sh' = [] ∨ dt' = []) : rotate c d sh dt sh' dt' fl = ⟨d, sh', dt', 0⟩ := by
  unfold rotate; rw [if_pos ⟨h1, h2⟩, if_neg (by simp [h]), if_pos h3]
theorem rotate_go (h1 : arrOk c sh dt = true) (h2 : arrOk d sh' dt' = true) (h : singleCode c dt.length = 0) (h3 : sh' ≠ []) (h4 : dt' ≠ []) (n A e : Nat) (hn : axisN sh' fl = n) (hA : axisA sh' fl = A) (he : modOf n (dt.getD 0 0) = e) : rotate c d sh dt sh' dt' fl = ⟨d, sh', vals (rotAt n A e dt') dt'.length, 0⟩ := by
  unfold rotate; rw [if_pos ⟨h1, h2⟩, if_neg (by simp [h]), if_neg (by rintro (h | h); exact h3 h; exact h4 h), hn, hA, he]; rfl
end

theorem modOf_pos {n : Nat} (hn : 0 < n) (b : Int) : 0 ≤ modOf n b ∧ modOf n b < n := by
  unfold modOf
  have h1 := Int.tmod_lt_of_pos b (by omega : (0 : Int) < n)
  have h2 : -(n : Int) < b.tmod n := Int.lt_tmod_of_pos b (by omega)
  rw [if_neg (by omega)]
  split
  · rename_i h
    have h3 : b.tmod n < 0 := by
      by_cases h4 : b.tmod n < 0
      · exact h4
      · exfalso; apply h.2; rw [decide_eq_false h4, decide_eq_false (by omega)]
    omega
  · rename_i h
    have : ¬ b.tmod n < 0 := by
      intro h4
      apply h
      refine ⟨by omega, ?_⟩
      rw [decide_eq_true h4, decide_eq_false (by omega)]; simp
    omega

end Go.Proofs.YtgjpchnkodnieaaGreatDoor
namespace Go.Proofs.YtgjpchnkodnieaaGreatDoor

theorem inside_of {sh ix : List Int} (h : IxIn sh ix) (k : Nat) (hk : k ≤ sh.length) : insideN sh ix k = true := by
  induction k with
  | zero => rfl
  | succ k ih => exact inside_step (ih (by omega)) (h k (by omega)).1 (h k (by omega)).2

theorem getD_drop (l : List Int) (b m : Nat) : (l.drop b).getD m 0 = l.getD (b + m) 0 := by simp [List.getD]

theorem placeN_add (sh ix : List Int) (b m : Nat) (hm : b + m ≤ sh.length) : placeN sh ix (b + m) = placeN sh ix b * prodAll ((sh.drop b).take m) + placeN (sh.drop b) (ix.drop b) m := by
  induction m with
  | zero => simp [placeN, prodAll]
  | succ m ih =>
    show placeN sh ix (b + m) * sh.getD (b + m) 0 + ix.getD (b + m) 0 = _
    rw [ih (by omega), prodAll_snoc _ _ (by simp; omega)]
    show _ = placeN sh ix b * (prodAll ((sh.drop b).take m) * (sh.drop b).getD m 0) + (placeN (sh.drop b) (ix.drop b) m * (sh.drop b).getD m 0 + (ix.drop b).getD m 0)
    rw [getD_drop, getD_drop, Int.add_mul, Int.mul_assoc, Int.add_assoc]

theorem place_split (sh ix : List Int) (a : Nat) (ha : a < sh.length) : place sh ix = (placeN sh ix a * sh.getD a 0 + ix.getD a 0) * prodAll (sh.drop (a + 1)) + place (sh.drop (a + 1)) (ix.drop (a + 1)) := by
  have h := placeN_add sh ix (a + 1) (sh.length - (a + 1)) (by omega)
  rw [show a + 1 + (sh.length - (a + 1)) = sh.length by omega, List.take_of_length_le (by simp)] at h
  unfold place
  rw [h]
  simp [placeN]

theorem placeN_same {sh x y : List Int} (k : Nat) (h : ∀ i, i < k → x.getD i 0 = y.getD i 0) : placeN sh x k = placeN sh y k := by
  induction k with
  | zero => rfl
  | succ k ih => show placeN sh x k * _ + _ = placeN sh y k * _ + _; rw [ih (fun i hi => h i (by omega)), h k (by omega)]

theorem modOf_emod {n : Int} (hn : 0 < n) (b : Int) : modOf n b = b % n := by
  unfold modOf
  rw [if_neg (by omega)]
  have h1 := Int.tmod_lt_of_pos b hn
  have h2 : -n < b.tmod n := Int.lt_tmod_of_pos b hn
  have h3 := Int.mul_tdiv_add_tmod b n
  split
  · rename_i h
    have h4 : b.tmod n < 0 := by
      by_cases h4 : b.tmod n < 0
      · exact h4
      · exfalso; apply h.2; rw [decide_eq_false h4, decide_eq_false (by omega)]
    have := (Int.ediv_emod_unique (a := b) (r := b.tmod n + n) (q := b.tdiv n - 1) hn).2 ⟨by rw [Int.mul_sub, Int.mul_one]; omega, by omega, by omega⟩
    exact this.2.symm
  · rename_i h
    have h4 : ¬ b.tmod n < 0 := by
      intro h4
      apply h
      refine ⟨by omega, ?_⟩
      rw [decide_eq_true h4, decide_eq_false (by omega)]; simp
    have := (Int.ediv_emod_unique (a := b) (r := b.tmod n) (q := b.tdiv n) hn).2 ⟨by omega, by omega, by omega⟩
    exact this.2.symm

theorem wrap_emod {n : Int} (hn : 0 < n) (b : Int) : (b.tmod n + n).tmod n = b % n := by
  have h1 := Int.tmod_lt_of_pos b hn
  have h2 : -n < b.tmod n := Int.lt_tmod_of_pos b hn
  have h3 := Int.mul_tdiv_add_tmod b n
  rw [Int.tmod_eq_emod_of_nonneg (by omega)]
  by_cases h4 : b.tmod n < 0
  · rw [Int.emod_eq_of_lt (by omega) (by omega)]
    have := (Int.ediv_emod_unique (a := b) (r := b.tmod n + n) (q := b.tdiv n - 1) hn).2 ⟨by rw [Int.mul_sub, Int.mul_one]; omega, by omega, by omega⟩
    exact this.2.symm
  · rw [Int.add_emod_right, Int.emod_eq_of_lt (by omega) (by omega)]
    have := (Int.ediv_emod_unique (a := b) (r := b.tmod n) (q := b.tdiv n) hn).2 ⟨by omega, by omega, by omega⟩
    exact this.2.symm

/-- Which element along each axis is meant where axis a is turned by k. -/
def rotF (sh : List Int) (a : Int) (k : Int) (D : List Int) (i : Nat) : Int := if (i : Int) = a then (D.getD i 0 + k) % sh.getD i 0 else D.getD i 0

theorem rot_gather {d : Bool} {sh dt : List Int} {a : Nat} {k : Int} (hf : Full sh) (ha : a < sh.length) (t : Nat) (ht : (t : Int) < prodAll sh) (n A e : Nat) (hn : sh.getD a 0 = n) (hA : prodAll (sh.drop (a + 1)) = A) (he : modOf n k = e) :
    gatherAt d sh dt (rotF sh a k) sh t = rotAt n A e dt t := by
  have hn0 : (0 : Int) < n := by rw [← hn]; exact hf a ha
  have hD := digits_in hf (t : Int)
  have hpl := place_digits hf (p := (t : Int)) (by omega) ht
  have hDl := digits_len sh (t : Int)
  obtain ⟨D, hDD⟩ : ∃ D, digits sh (t : Int) = D := ⟨_, rfl⟩
  rw [hDD] at hD hpl hDl
  have hMg := meant_get sh (rotF sh a k) D
  have hMl := meant_len sh (rotF sh a k) D
  obtain ⟨M, hM⟩ : ∃ M, meant sh (rotF sh a k) D = M := ⟨_, rfl⟩
  rw [hM] at hMg hMl
  have hoth : ∀ i, i < sh.length → i ≠ a → M.getD i 0 = D.getD i 0 := fun i hi hne => by rw [hMg i hi]; unfold rotF; rw [if_neg (by omega)]
  have hat : M.getD a 0 = (D.getD a 0 + k) % n := by rw [hMg a ha]; unfold rotF; rw [if_pos rfl, hn]
  have hMin : IxIn sh M := fun i hi => by
    by_cases e : i = a
    · subst e; rw [hat, hn]; exact ⟨Int.emod_nonneg _ (by omega), Int.emod_lt_of_pos _ hn0⟩
    · rw [hoth i hi e]; exact hD i hi
  have hdrop : M.drop (a + 1) = D.drop (a + 1) := by
    apply List.ext_getElem
    · simp; omega
    · intro i h1 h2
      have hi : a + 1 + i < sh.length := by simp at h1; omega
      have := hoth (a + 1 + i) hi (by omega)
      simp only [List.getElem_drop]
      simpa [List.getD, show a + 1 + i < M.length by omega, show a + 1 + i < D.length by omega] using this
  have hsp := place_split sh M a ha
  have hsd := place_split sh D a ha
  rw [placeN_same a (fun i hi => hoth i (by omega) (by omega)), hat, hdrop, hn, hA] at hsp
  rw [hpl, hn, hA] at hsd
  have hrest : IxIn (sh.drop (a + 1)) (D.drop (a + 1)) := fun i hi => by
    rw [getD_drop, getD_drop]; exact hD _ (by simp at hi; omega)
  have hq := place_bd hrest
  rw [hA] at hq
  have hP := (placeN_bd hD a (by omega)).1
  have hi := hD a ha
  rw [hn] at hi
  obtain ⟨p, hp⟩ : ∃ p : Nat, placeN sh D a = p := ⟨(placeN sh D a).toNat, by omega⟩
  obtain ⟨i, hi'⟩ : ∃ i : Nat, D.getD a 0 = i := ⟨(D.getD a 0).toNat, by omega⟩
  obtain ⟨q, hq'⟩ : ∃ q : Nat, place (sh.drop (a + 1)) (D.drop (a + 1)) = q := ⟨(place (sh.drop (a + 1)) (D.drop (a + 1))).toNat, by omega⟩
  rw [hp, hi', hq'] at hsd hsp
  rw [hi'] at hi
  rw [hq'] at hq
  have he2 : ((i : Int) + k) % n = (((i + e) % n : Nat) : Int) := by
    rw [modOf_emod hn0] at he
    rw [Int.natCast_emod, Int.natCast_add, ← he, Int.add_emod_emod]
  rw [he2] at hsp
  have hts : t = (p * n + i) * A + q := by exact_mod_cast hsd
  have hfrom := rotFrom_at (n := n) (A := A) (d := e) (p := p) (i := i) (q := q) (by omega) (by omega)
  have hpm : place sh M = ((rotFrom n A e t : Nat) : Int) := by rw [hts, hfrom, hsp]; push_cast; rfl
  unfold gatherAt rotAt
  rw [hDD, hM, if_pos (inside_of hMin _ (Nat.le_refl _)), hpm]
  simp

theorem vals_same {f g : Nat → Int × Int} {n : Nat} (h : ∀ i, i < n → (f i).1 = (g i).1) : vals f n = vals g n := map_range_eq h

end Go.Proofs.YtgjpchnkodnieaaGreatDoor
namespace Go.Proofs.YtgjpchnkodnieaaGreatDoor

/-- The axis' numbers as axisOf gives them: before, along, behind. -/
structure AxisIs (sh : List Int) (fl : Bool) (B L A : Nat) : Prop where
  b : axisB sh fl = B
  l : axisN sh fl = L
  a : axisA sh fl = A

theorem axis_is {c : Bool} {sh dt : List Int} (fl : Bool) (hok : arrOk c sh dt = true) (hne : sh ≠ []) : ∃ B L A : Nat, AxisIs sh fl B L A ∧ B * L * A = dt.length ∧ B ≤ 10000 ∧ L ≤ 10000 ∧ A ≤ 10000 := by
  obtain ⟨hin, hp, _⟩ := shapeIn_of hok
  have h1 := (hin.take (axisAt sh fl)).bd
  have h2 := hin.cell (axisAt sh fl)
  have h3 := (hin.drop (axisAt sh fl + 1)).bd
  have e := axis_all sh fl hne
  rw [hp] at e
  obtain ⟨B, hB⟩ : ∃ B : Nat, axisB sh fl = B := ⟨(axisB sh fl).toNat, by unfold axisB; omega⟩
  obtain ⟨L, hL⟩ : ∃ L : Nat, axisN sh fl = L := ⟨(axisN sh fl).toNat, by unfold axisN; omega⟩
  obtain ⟨A, hA⟩ : ∃ A : Nat, axisA sh fl = A := ⟨(axisA sh fl).toNat, by unfold axisA; omega⟩
  refine ⟨B, L, A, ⟨hB, hL, hA⟩, ?_, ?_, ?_, ?_⟩
  · rw [hB, hL, hA] at e
    exact_mod_cast e
  · unfold axisB at hB; omega
  · unfold axisN at hL; omega
  · unfold axisA at hA; omega

end Go.Proofs.YtgjpchnkodnieaaGreatDoor
namespace Go.Proofs.YtgjpchnkodnieaaGreatDoor

/-- Where element t of the reversed array comes from. -/
def revFrom (n A t : Nat) : Nat := (t / A / n * n + (n - 1 - t / A % n)) * A + t % A

def revAt (n A : Nat) (dt : List Int) (t : Nat) : Int × Int := (dt.getD (revFrom n A t) 0, 0)

theorem revFrom_at {n A p i q : Nat} (hi : i < n) (hq : q < A) : revFrom n A ((p * n + i) * A + q) = (p * n + (n - 1 - i)) * A + q := by
  have hA : 0 < A := by omega
  have hn : 0 < n := by omega
  have e1 : ((p * n + i) * A + q) / A = p * n + i := by rw [Nat.add_comm, Nat.add_mul_div_right _ _ hA, Nat.div_eq_of_lt hq, Nat.zero_add]
  have e2 : ((p * n + i) * A + q) % A = q := by rw [Nat.add_comm, Nat.add_mul_mod_self_right, Nat.mod_eq_of_lt hq]
  have e3 : (p * n + i) / n = p := by rw [Nat.add_comm, Nat.add_mul_div_right _ _ hn, Nat.div_eq_of_lt hi, Nat.zero_add]
  have e4 : (p * n + i) % n = i := by rw [Nat.add_comm, Nat.add_mul_mod_self_right, Nat.mod_eq_of_lt hi]
  unfold revFrom
  rw [e1, e2, e3, e4]

/-- Which element along each axis is meant where axis a is reversed. -/
def revF (a n : Nat) (D : List Int) (k : Nat) : Int := if k = a then (n : Int) - 1 - D.getD k 0 else D.getD k 0

theorem rev_gather {d : Bool} {sh dt : List Int} {a : Nat} (hf : Full sh) (ha : a < sh.length) (t : Nat) (ht : (t : Int) < prodAll sh) (n A : Nat) (hn : sh.getD a 0 = n) (hA : prodAll (sh.drop (a + 1)) = A) :
    gatherAt d sh dt (revF a n) sh t = revAt n A dt t := by
  have hn0 : (0 : Int) < n := by rw [← hn]; exact hf a ha
  have hD := digits_in hf (t : Int)
  have hpl := place_digits hf (p := (t : Int)) (by omega) ht
  have hDl := digits_len sh (t : Int)
  obtain ⟨D, hDD⟩ : ∃ D, digits sh (t : Int) = D := ⟨_, rfl⟩
  rw [hDD] at hD hpl hDl
  have hMg := meant_get sh (revF a n) D
  have hMl := meant_len sh (revF a n) D
  obtain ⟨M, hM⟩ : ∃ M, meant sh (revF a n) D = M := ⟨_, rfl⟩
  rw [hM] at hMg hMl
  have hoth : ∀ i, i < sh.length → i ≠ a → M.getD i 0 = D.getD i 0 := fun i hi hne => by rw [hMg i hi]; unfold revF; rw [if_neg hne]
  have hat : M.getD a 0 = (n : Int) - 1 - D.getD a 0 := by rw [hMg a ha]; unfold revF; rw [if_pos rfl]
  have hMin : IxIn sh M := fun i hi => by
    by_cases e : i = a
    · subst e; rw [hat, hn]; have := hD i ha; rw [hn] at this; omega
    · rw [hoth i hi e]; exact hD i hi
  have hdrop : M.drop (a + 1) = D.drop (a + 1) := by
    apply List.ext_getElem
    · simp; omega
    · intro i h1 h2
      have hi : a + 1 + i < sh.length := by simp at h1; omega
      have := hoth (a + 1 + i) hi (by omega)
      simp only [List.getElem_drop]
      simpa [List.getD, show a + 1 + i < M.length by omega, show a + 1 + i < D.length by omega] using this
  have hsp := place_split sh M a ha
  have hsd := place_split sh D a ha
  rw [placeN_same a (fun i hi => hoth i (by omega) (by omega)), hat, hdrop, hn, hA] at hsp
  rw [hpl, hn, hA] at hsd
  have hrest : IxIn (sh.drop (a + 1)) (D.drop (a + 1)) := fun i hi => by
    rw [getD_drop, getD_drop]; exact hD _ (by simp at hi; omega)
  have hq := place_bd hrest
  rw [hA] at hq
  have hP := (placeN_bd hD a (by omega)).1
  have hi := hD a ha
  rw [hn] at hi
  obtain ⟨p, hp⟩ : ∃ p : Nat, placeN sh D a = p := ⟨(placeN sh D a).toNat, by omega⟩
  obtain ⟨i, hi'⟩ : ∃ i : Nat, D.getD a 0 = i := ⟨(D.getD a 0).toNat, by omega⟩
  obtain ⟨q, hq'⟩ : ∃ q : Nat, place (sh.drop (a + 1)) (D.drop (a + 1)) = q := ⟨(place (sh.drop (a + 1)) (D.drop (a + 1))).toNat, by omega⟩
  rw [hp, hi', hq'] at hsd hsp
  rw [hi'] at hi
  rw [hq'] at hq
  have he2 : (n : Int) - 1 - (i : Int) = ((n - 1 - i : Nat) : Int) := by omega
  rw [he2] at hsp
  have hts : t = (p * n + i) * A + q := by exact_mod_cast hsd
  have hfrom := revFrom_at (n := n) (A := A) (p := p) (i := i) (q := q) (by omega) (by omega)
  have hpm : place sh M = ((revFrom n A t : Nat) : Int) := by rw [hts, hfrom, hsp]; push_cast; rfl
  unfold gatherAt revAt
  rw [hDD, hM, if_pos (inside_of hMin _ (Nat.le_refl _)), hpm]
  simp

/-- An array with its elements in the other order along an axis. -/
def revA (c : Bool) (sh dt : List Int) (fl : Bool) : Ans :=
  if sh = [] ∨ dt = [] then ⟨c, sh, dt, 0⟩ else ⟨c, sh, vals (revAt (axisN sh fl).toNat (axisA sh fl).toNat dt) dt.length, 0⟩

theorem revA_none {c fl : Bool} {sh dt : List Int} (h : sh = [] ∨ dt = []) : revA c sh dt fl = ⟨c, sh, dt, 0⟩ := by unfold revA; rw [if_pos h]
theorem revA_go {c fl : Bool} {sh dt : List Int} (h1 : sh ≠ []) (h2 : dt ≠ []) (n A : Nat) (hn : axisN sh fl = n) (hA : axisA sh fl = A) : revA c sh dt fl = ⟨c, sh, vals (revAt n A dt) dt.length, 0⟩ := by
  unfold revA; rw [if_neg (by rintro (h | h); exact h1 h; exact h2 h), hn, hA]; rfl

end Go.Proofs.YtgjpchnkodnieaaGreatDoor
namespace Go.Proofs.YtgjpchnkodnieaaGreatDoor

/-- The axis that number i of an order names, from 0 on. -/
def axNo (dt : List Int) (i : Nat) : Nat := (dt.getD i 0 - 1).toNat

def seenN (dt : List Int) (r : Nat) : Nat → List Bool
  | 0 => List.replicate r false
  | i + 1 => (seenN dt r i).set (axNo dt i) true

def turnN (dt sh : List Int) (r : Nat) : Nat → List Int
  | 0 => List.replicate r 0
  | i + 1 => (turnN dt sh r i).set (axNo dt i) (sh.getD i 0)

/-- Number i of an order is in 1 .. r and has not been there. -/
def stepOk (dt : List Int) (r i : Nat) : Bool := decide (1 ≤ dt.getD i 0 ∧ dt.getD i 0 ≤ r) && !(seenN dt r i).getD (axNo dt i) false

def orderOk (dt : List Int) (r : Nat) : Nat → Bool
  | 0 => true
  | i + 1 => orderOk dt r i && stepOk dt r i

theorem seenN_len (dt : List Int) (r i : Nat) : (seenN dt r i).length = r := by
  induction i with
  | zero => simp [seenN]
  | succ i ih => simp [seenN, ih]

theorem turnN_len (dt sh : List Int) (r i : Nat) : (turnN dt sh r i).length = r := by
  induction i with
  | zero => simp [turnN]
  | succ i ih => simp [turnN, ih]

theorem orderOk_le {dt : List Int} {r m i : Nat} (h : orderOk dt r m = true) (hi : i ≤ m) : orderOk dt r i = true := by
  induction m with
  | zero => have : i = 0 := by omega
            subst this; exact h
  | succ m ih =>
    simp only [orderOk, Bool.and_eq_true] at h
    by_cases e : i = m + 1
    · subst e; simp only [orderOk, Bool.and_eq_true]; exact h
    · exact ih h.1 (by omega)

theorem order_step {dt : List Int} {r m i : Nat} (h : orderOk dt r m = true) (hi : i < m) : stepOk dt r i = true := by
  have := orderOk_le h (by omega : i + 1 ≤ m)
  simp only [orderOk, Bool.and_eq_true] at this
  exact this.2

theorem stepOk_lt {dt : List Int} {r i : Nat} (h : stepOk dt r i = true) : axNo dt i < r := by
  unfold stepOk at h
  simp only [Bool.and_eq_true, decide_eq_true_eq] at h
  unfold axNo
  omega

theorem stepOk_new {dt : List Int} {r i : Nat} (h : stepOk dt r i = true) : (seenN dt r i).getD (axNo dt i) false = false := by
  unfold stepOk at h
  simp only [Bool.and_eq_true, Bool.not_eq_true'] at h
  exact h.2

theorem getD_set {α : Type} (l : List α) (k j : Nat) (x d : α) (hk : k < l.length) : (l.set k x).getD j d = if j = k then x else l.getD j d := by
  by_cases e : j = k
  · subst e; simp [List.getD, hk]
  · rw [if_neg e]; simp [List.getD, List.getElem?_set_ne (Ne.symm e)]

/-- What has been laid stays. -/
theorem turned {dt sh : List Int} {r m : Nat} (h : orderOk dt r m = true) : ∀ i, i < m → (turnN dt sh r m).getD (axNo dt i) 0 = sh.getD i 0 ∧ (seenN dt r m).getD (axNo dt i) false = true := by
  induction m with
  | zero => intro i hi; omega
  | succ m ih =>
    intro i hi
    have h1 := orderOk_le h (by omega : m ≤ m + 1)
    have h2 := order_step h (by omega : m < m + 1)
    have hl := stepOk_lt h2
    simp only [turnN, seenN]
    rw [getD_set _ _ _ _ _ (by rw [turnN_len]; exact hl), getD_set _ _ _ _ _ (by rw [seenN_len]; exact hl)]
    by_cases e : i = m
    · subst e; simp
    · obtain ⟨a, b⟩ := ih h1 i (by omega)
      have hne : axNo dt i ≠ axNo dt m := fun e => by rw [e, stepOk_new h2] at b; cases b
      rw [if_neg hne, if_neg hne]
      exact ⟨a, b⟩

theorem count_set (l : List Bool) (k : Nat) (hk : k < l.length) (h : l.getD k false = false) : (l.set k true).count true = l.count true + 1 := by
  induction l generalizing k with
  | nil => simp at hk
  | cons x r ih =>
    cases k with
    | zero =>
      have : x = false := by simpa using h
      subst this
      simp
    | succ k =>
      have := ih k (by simpa using hk) (by simpa using h)
      simp only [List.set_cons_succ, List.count_cons, this]
      omega

theorem seen_count {dt : List Int} {r m : Nat} (h : orderOk dt r m = true) : (seenN dt r m).count true = m := by
  induction m with
  | zero => simp [seenN, List.count_replicate]
  | succ m ih =>
    have h1 := orderOk_le h (by omega : m ≤ m + 1)
    have h2 := order_step h (by omega : m < m + 1)
    simp only [seenN]
    rw [count_set _ _ (by rw [seenN_len]; exact stepOk_lt h2) (stepOk_new h2), ih h1]

theorem seen_from {dt : List Int} {r m k : Nat} (h : (seenN dt r m).getD k false = true) : ∃ i, i < m ∧ axNo dt i = k := by
  induction m with
  | zero => simp [seenN, List.getD, List.getElem?_replicate] at h; split at h <;> simp at h
  | succ m ih =>
    simp only [seenN] at h
    by_cases e : axNo dt m = k
    · exact ⟨m, by omega, e⟩
    · have : ((seenN dt r m).set (axNo dt m) true).getD k false = (seenN dt r m).getD k false := by simp [List.getD, List.getElem?_set_ne e]
      rw [this] at h
      obtain ⟨i, hi, he⟩ := ih h
      exact ⟨i, by omega, he⟩

/-- Every axis is named. -/
theorem all_named {dt : List Int} {r k : Nat} (h : orderOk dt r r = true) (hk : k < r) : ∃ i, i < r ∧ axNo dt i = k := by
  apply seen_from (r := r)
  have hc := seen_count h
  have hl := seenN_len dt r r
  have hall := List.count_eq_length.mp (hc.trans hl.symm)
  have hm : (seenN dt r r).getD k false ∈ seenN dt r r := by simp [List.getD, hl, hk]
  exact (hall _ hm).symm

/-- An index of the turned array, as one of the array. -/
def backIx (dt D : List Int) (r : Nat) : List Int := (List.range r).map fun i => D.getD (axNo dt i) 0

theorem backIx_len (dt D : List Int) (r : Nat) : (backIx dt D r).length = r := by simp [backIx]
theorem backIx_get (dt D : List Int) (r i : Nat) (hi : i < r) : (backIx dt D r).getD i 0 = D.getD (axNo dt i) 0 := by simp [backIx, hi]

theorem back_in {dt sh D : List Int} {r : Nat} (h : orderOk dt r r = true) (hl : sh.length = r) (hD : IxIn (turnN dt sh r r) D) : IxIn sh (backIx dt D r) := by
  intro i hi
  rw [hl] at hi
  rw [backIx_get _ _ _ _ hi]
  have := hD (axNo dt i) (by rw [turnN_len]; exact stepOk_lt (order_step h hi))
  rw [(turned h i hi).1] at this
  exact this

theorem turn_cell {dt sh : List Int} {r : Nat} (h : orderOk dt r r = true) {k : Nat} (hk : k < r) : ∃ i, i < r ∧ (turnN dt sh r r).getD k 0 = sh.getD i 0 := by
  obtain ⟨i, hi, he⟩ := all_named h hk
  exact ⟨i, hi, by rw [← he]; exact (turned h i hi).1⟩

theorem turn_full {dt sh : List Int} {r : Nat} (h : orderOk dt r r = true) (hl : sh.length = r) (hf : Full sh) : Full (turnN dt sh r r) := by
  intro k hk
  rw [turnN_len] at hk
  obtain ⟨i, hi, he⟩ := turn_cell (sh := sh) h hk
  rw [he]
  exact hf i (by rw [hl]; exact hi)

theorem turn_le {dt sh : List Int} {r : Nat} (h : orderOk dt r r = true) (hs : ∀ k, sh.getD k 0 ≤ 10000) (k : Nat) : (turnN dt sh r r).getD k 0 ≤ 10000 := by
  by_cases hk : k < r
  · obtain ⟨i, _, he⟩ := turn_cell (sh := sh) h hk
    rw [he]; exact hs i
  · have : (turnN dt sh r r).getD k 0 = 0 := by simp [List.getD, List.getElem?_eq_none (by rw [turnN_len]; omega : (turnN dt sh r r).length ≤ k)]
    omega

def transAt (dt sh' dt' : List Int) (k : Nat) : Int × Int := (dt'.getD (place sh' (backIx dt (digits (turnN dt sh' sh'.length sh'.length) k) sh'.length)).toNat 0, 0)

def transpose (c d : Bool) (sh dt sh' dt' : List Int) : Ans :=
  if arrOk c sh dt = true ∧ arrOk d sh' dt' = true then
    if listCode c sh.length ≠ 0 then noAns (listCode c sh.length)
    else if dt.length ≠ sh'.length then noAns 5
    else if orderOk dt sh'.length sh'.length = false then noAns 3
    else ⟨d, turnN dt sh' sh'.length sh'.length, vals (transAt dt sh' dt') dt'.length, 0⟩
  else noAns 3

section
variable {c d : Bool} {sh dt sh' dt' : List Int}
theorem transpose_bad1 (h : arrOk c sh dt = false) : transpose c d sh dt sh' dt' = noAns 3 := by unfold transpose; rw [if_neg (by simp [h])]
theorem transpose_bad2 (h : arrOk d sh' dt' = false) : transpose c d sh dt sh' dt' = noAns 3 := by unfold transpose; rw [if_neg (by simp [h])]
theorem transpose_list (h1 : arrOk c sh dt = true) (h2 : arrOk d sh' dt' = true) (r : Int) (h : listCode c sh.length = r) (hr : r ≠ 0) : transpose c d sh dt sh' dt' = noAns r := by
  unfold transpose; rw [if_pos ⟨h1, h2⟩, h, if_pos hr]
theorem transpose_len (h1 : arrOk c sh dt = true) (h2 : arrOk d sh' dt' = true) (h : listCode c sh.length = 0) (hl : dt.length ≠ sh'.length) : transpose c d sh dt sh' dt' = noAns 5 := by
  unfold transpose; rw [if_pos ⟨h1, h2⟩, if_neg (by simp [h]), if_pos hl]
theorem transpose_dom (h1 : arrOk c sh dt = true) (h2 : arrOk d sh' dt' = true) (h : listCode c sh.length = 0) (hl : dt.length = sh'.length) (ho : orderOk dt sh'.length sh'.length = false) : transpose c d sh dt sh' dt' = noAns 3 := by
  unfold transpose; rw [if_pos ⟨h1, h2⟩, if_neg (by simp [h]), if_neg (by simp [hl]), if_pos ho]
theorem transpose_go (h1 : arrOk c sh dt = true) (h2 : arrOk d sh' dt' = true) (h : listCode c sh.length = 0) (hl : dt.length = sh'.length) (ho : orderOk dt sh'.length sh'.length = true) : transpose c d sh dt sh' dt' = ⟨d, turnN dt sh' sh'.length sh'.length, vals (transAt dt sh' dt') dt'.length, 0⟩ := by
  unfold transpose; rw [if_pos ⟨h1, h2⟩, if_neg (by simp [h]), if_neg (by simp [hl]), if_neg (by simp [ho])]
end

theorem order_bad {dt : List Int} {r i : Nat} (hi : i < r) (h : stepOk dt r i = false) : orderOk dt r r = false := by
  cases e : orderOk dt r r with
  | false => rfl
  | true => rw [order_step e hi] at h; cases h

end Go.Proofs.YtgjpchnkodnieaaGreatDoor
namespace Go.Proofs.YtgjpchnkodnieaaGreatDoor

/-- Place p comes ahead of place q: its key is less, or the same and the place is. -/
def bef (K : Int → Int) (p q : Int) : Prop := K p < K q ∨ (K p = K q ∧ p < q)

section
variable {K : Int → Int} {p q r : Int}
theorem bef_trans (h1 : bef K p q) (h2 : bef K q r) : bef K p r := by unfold bef at *; omega
theorem bef_irrefl : ¬ bef K p p := by unfold bef; omega
theorem bef_asymm (h1 : bef K p q) : ¬ bef K q p := by unfold bef at *; omega
theorem bef_of_le (h1 : K p ≤ K q) (h2 : p < q) : bef K p q := by unfold bef; omega
end

/-- Two lists of the same numbers that rise are one. -/
theorem rise_unique {K : Int → Int} {l1 l2 : List Int} (h1 : l1.Pairwise (bef K)) (h2 : l2.Pairwise (bef K)) (hp : l1.Perm l2) : l1 = l2 := by
  induction l1 generalizing l2 with
  | nil => exact (List.nil_perm.1 hp).symm
  | cons x t ih =>
    cases l2 with
    | nil => exact absurd (List.perm_nil.1 hp) (by simp)
    | cons y u =>
      rw [List.pairwise_cons] at h1 h2
      have hx : x ∈ y :: u := hp.subset (by simp)
      have hy : y ∈ x :: t := hp.symm.subset (by simp)
      have e : x = y := by
        rcases List.mem_cons.1 hx with h | h
        · exact h
        · rcases List.mem_cons.1 hy with h' | h'
          · exact h'.symm
          · exact absurd (h2.1 x h) (bef_asymm (h1.1 y h'))
      subst e
      rw [ih h1.2 h2.2 (List.Perm.cons_inv hp)]

/-- What D says from a on, below b. -/
def seg (D : Nat → Int) (a b : Nat) : List Int := (List.range' a (b - a)).map D

section
variable {K : Int → Int} {D E : Nat → Int} {a m b : Nat}

theorem seg_split (h1 : a ≤ m) (h2 : m ≤ b) : seg D a b = seg D a m ++ seg D m b := by
  unfold seg
  rw [← List.map_append]
  congr 1
  have e : b - a = (m - a) + (b - m) := by omega
  rw [e, ← List.range'_append]
  congr 2
  omega

theorem seg_mem {x : Int} : x ∈ seg D a b ↔ ∃ i, a ≤ i ∧ i < b ∧ D i = x := by
  unfold seg
  rw [List.mem_map]
  constructor
  · rintro ⟨i, hi, e⟩
    have := List.mem_range'.1 hi
    obtain ⟨j, hj, rfl⟩ := this
    exact ⟨_, by omega, by omega, e⟩
  · rintro ⟨i, h1, h2, e⟩
    refine ⟨i, ?_, e⟩
    rw [List.mem_range']
    exact ⟨i - a, by omega, by omega⟩

theorem seg_congr (h : ∀ i, a ≤ i → i < b → D i = E i) : seg D a b = seg E a b := by
  unfold seg
  refine List.map_congr_left fun i hi => ?_
  obtain ⟨j, hj, rfl⟩ := List.mem_range'.1 hi
  exact h _ (by omega) (by omega)

theorem seg_none (h : b ≤ a) : seg D a b = [] := by
  unfold seg
  rw [show b - a = 0 by omega]
  rfl

theorem seg_one : seg D a (a + 1) = [D a] := by
  unfold seg
  rw [show a + 1 - a = 1 by omega]
  rfl

/-- From a on, below b, D rises. -/
def Rise (K : Int → Int) (D : Nat → Int) (a b : Nat) : Prop := ∀ i j, a ≤ i → i < j → j < b → bef K (D i) (D j)

theorem Rise.pairwise (h : Rise K D a b) : (seg D a b).Pairwise (bef K) := by
  unfold seg
  rw [List.pairwise_map]
  have key : ∀ n s, (∀ i j, s ≤ i → i < j → j < s + n → bef K (D i) (D j)) → (List.range' s n).Pairwise (fun i j => bef K (D i) (D j)) := by
    intro n
    induction n with
    | zero => intro s _; simp
    | succ n ih =>
      intro s hs
      rw [List.range'_succ, List.pairwise_cons]
      refine ⟨fun j hj => ?_, ih (s + 1) (fun i j h1 h2 h3 => hs i j (by omega) h2 (by omega))⟩
      obtain ⟨t, ht, rfl⟩ := List.mem_range'.1 hj
      exact hs s _ (Nat.le_refl _) (by omega) (by omega)
  exact key _ _ (fun i j h1 h2 h3 => h i j h1 h2 (by omega))

theorem Rise.sub {a' b' : Nat} (h : Rise K D a b) (h1 : a ≤ a') (h2 : b' ≤ b) : Rise K D a' b' := fun i j h3 h4 h5 => h i j (by omega) h4 (by omega)

/-- D with the numbers of [a, m) and those of [m, b) changed about. -/
def rot (D : Nat → Int) (a m b : Nat) : Nat → Int := fun x => if a ≤ x ∧ x < b then (if x < a + (b - m) then D (x + (m - a)) else D (x - (b - m))) else D x

theorem rot_out (x : Nat) (h : x < a ∨ b ≤ x) : rot D a m b x = D x := by unfold rot; rw [if_neg (by omega)]
theorem rot_low {x : Nat} (h1 : a ≤ x) (h2 : x < a + (b - m)) (hm : a ≤ m) (hb : m ≤ b) : rot D a m b x = D (x + (m - a)) := by unfold rot; rw [if_pos (by omega), if_pos h2]
theorem rot_high {x : Nat} (h1 : a + (b - m) ≤ x) (h2 : x < b) : rot D a m b x = D (x - (b - m)) := by unfold rot; rw [if_pos (by omega), if_neg (by omega)]

theorem seg_shift (k : Nat) : seg (fun x => D (x + k)) a b = seg D (a + k) (b + k) := by
  unfold seg
  have e : b + k - (a + k) = b - a := by omega
  rw [e]
  have key : ∀ n s, (List.range' s n).map (fun x => D (x + k)) = (List.range' (s + k) n).map D := by
    intro n
    induction n with
    | zero => intro s; rfl
    | succ n ih => intro s; rw [List.range'_succ, List.range'_succ, List.map_cons, List.map_cons, ih (s + 1), show s + 1 + k = s + k + 1 by omega]
  exact key _ _

theorem rot_seg_low (h1 : a ≤ m) (h2 : m ≤ b) : seg (rot D a m b) a (a + (b - m)) = seg D m b := by
  have e : seg (rot D a m b) a (a + (b - m)) = seg (fun x => D (x + (m - a))) a (a + (b - m)) := seg_congr fun i h3 h4 => rot_low h3 h4 h1 h2
  rw [e, seg_shift]
  congr 1 <;> omega

theorem rot_seg_high (h2 : m ≤ b) : seg (rot D a m b) (a + (b - m)) b = seg D a m := by
  have e : seg D a m = seg (fun x => D (x - (b - m))) (a + (b - m)) b := by
    have := seg_shift (D := fun x => D (x - (b - m))) (a := a) (b := m) (b - m)
    rw [show m + (b - m) = b by omega] at this
    rw [← this]
    exact seg_congr fun i _ _ => by rw [Nat.add_sub_cancel]
  rw [e]
  exact seg_congr fun i h3 h4 => rot_high h3 h4

theorem rot_perm (h1 : a ≤ m) (h2 : m ≤ b) : (seg (rot D a m b) a b).Perm (seg D a b) := by
  rw [seg_split (m := a + (b - m)) (by omega) (by omega), rot_seg_low h1 h2, rot_seg_high h2, seg_split h1 h2]
  exact List.perm_append_comm

/-- D' is D with the numbers of [a, b) in order. -/
structure Merged (K : Int → Int) (D D' : Nat → Int) (a b : Nat) : Prop where
  perm : (seg D' a b).Perm (seg D a b)
  rise : Rise K D' a b
  out : ∀ i, (i < a ∨ b ≤ i) → D' i = D i

theorem perm_all {P : Int → Prop} (h : (seg E a b).Perm (seg D a b)) (hp : ∀ i, a ≤ i → i < b → P (D i)) : ∀ i, a ≤ i → i < b → P (E i) := fun i h1 h2 => by
  have : E i ∈ seg D a b := h.subset (seg_mem.2 ⟨i, h1, h2, rfl⟩)
  obtain ⟨j, h3, h4, e⟩ := seg_mem.1 this
  rw [← e]
  exact hp j h3 h4

theorem Merged.refl (h : Rise K D a b) : Merged K D D a b := ⟨List.Perm.refl _, h, fun _ _ => rfl⟩

/-- Each place of [a, m) is less than each of [m, b). -/
def Low (D : Nat → Int) (a m b : Nat) : Prop := ∀ i j, a ≤ i → i < m → m ≤ j → j < b → D i < D j

/-- Where a merge is cut: so many from the left, and from the right. -/
structure Cut (K : Int → Int) (D : Nat → Int) (a s m e b : Nat) : Prop where
  as_ : a ≤ s
  sm : s ≤ m
  me : m ≤ e
  eb : e ≤ b
  l : Rise K D a m
  r : Rise K D m b
  low : Low D a m b
  c1 : s = a ∨ e = b ∨ K (D (s - 1)) ≤ K (D e)
  c2 : e = m ∨ s = m ∨ K (D (e - 1)) < K (D s)

theorem Rise.key (h : Rise K D a b) {i j : Nat} (h1 : a ≤ i) (h2 : i ≤ j) (h3 : j < b) : K (D i) ≤ K (D j) := by
  rcases Nat.lt_or_ge i j with h4 | h4
  · have := h i j h1 h4 h3; unfold bef at this; omega
  · rw [show i = j by omega]; omega

theorem Rise.join (h1 : Rise K D a m) (h2 : Rise K D m b) (h3 : ∀ i j, a ≤ i → i < m → m ≤ j → j < b → bef K (D i) (D j)) : Rise K D a b := fun i j hi hij hj => by
  rcases Nat.lt_or_ge j m with h | h
  · exact h1 i j hi hij h
  · rcases Nat.lt_or_ge i m with h' | h'
    · exact h3 i j hi h' h hj
    · exact h2 i j h' hij hj

theorem Cut.e1 {s e i : Nat} (_h : Cut K D a s m e b) (_h1 : a ≤ i) (h2 : i < s) : rot D s m e i = D i := rot_out _ (by omega)
theorem Cut.e3 {s e i : Nat} (_h : Cut K D a s m e b) (h1 : s + (e - m) ≤ i) (h2 : i < e) : rot D s m e i = D (i - (e - m)) := rot_high h1 h2
theorem Cut.e4 {s e i : Nat} (_h : Cut K D a s m e b) (h1 : e ≤ i) : rot D s m e i = D i := rot_out _ (by omega)


theorem Cut.e2 {s e i : Nat} (h : Cut K D a s m e b) (h1 : s ≤ i) (h2 : i < s + (e - m)) : rot D s m e i = D (i + (m - s)) := rot_low h1 h2 h.sm h.me

theorem Cut.left {s e : Nat} (h : Cut K D a s m e b) : Rise K (rot D s m e) a s ∧ Rise K (rot D s m e) s (s + (e - m)) ∧ Low (rot D s m e) a s (s + (e - m)) := by
  have h1 := h.as_
  have h2 := h.sm
  have h3 := h.me
  have h4 := h.eb
  refine ⟨fun i j hi hij hj => ?_, fun i j hi hij hj => ?_, fun i j hi hi2 hj hj2 => ?_⟩
  · rw [h.e1 hi (by omega), h.e1 (by omega) hj]
    exact h.l i j hi hij (by omega)
  · rw [h.e2 hi (by omega), h.e2 (by omega) hj]
    exact h.r _ _ (by omega) (by omega) (by omega)
  · rw [h.e1 hi hi2, h.e2 hj hj2]
    exact h.low _ _ hi (by omega) (by omega) (by omega)

theorem Cut.right {s e : Nat} (h : Cut K D a s m e b) : Rise K (rot D s m e) (s + (e - m)) e ∧ Rise K (rot D s m e) e b ∧ Low (rot D s m e) (s + (e - m)) e b := by
  have h1 := h.as_
  have h2 := h.sm
  have h3 := h.me
  have h4 := h.eb
  refine ⟨fun i j hi hij hj => ?_, fun i j hi hij hj => ?_, fun i j hi hi2 hj hj2 => ?_⟩
  · rw [h.e3 hi (by omega), h.e3 (by omega) hj]
    exact h.l _ _ (by omega) (by omega) (by omega)
  · rw [h.e4 hi, h.e4 (by omega)]
    exact h.r i j (by omega) hij hj
  · rw [h.e3 hi hi2, h.e4 hj]
    exact h.low _ _ (by omega) (by omega) (by omega) hj2

/-- All of the first half come ahead of all of the second. -/
theorem Cut.cross {s e i j : Nat} (h : Cut K D a s m e b) (h1 : a ≤ i) (h2 : i < s + (e - m)) (h3 : s + (e - m) ≤ j) (h4 : j < b) : bef K (rot D s m e i) (rot D s m e j) := by
  have k1 := h.as_
  have k2 := h.sm
  have k3 := h.me
  have k4 := h.eb
  rcases Nat.lt_or_ge i s with hi | hi
  · rw [h.e1 h1 hi]
    rcases Nat.lt_or_ge j e with hj | hj
    · rw [h.e3 h3 hj]
      exact h.l _ _ h1 (by omega) (by omega)
    · rw [h.e4 hj]
      refine bef_of_le ?_ (h.low _ _ h1 (by omega) (by omega) h4)
      have q1 := h.l.key (i := i) (j := s - 1) h1 (by omega) (by omega)
      have q2 := h.r.key (i := e) (j := j) k3 hj h4
      rcases h.c1 with c | c | c <;> omega
  · rw [h.e2 hi h2]
    rcases Nat.lt_or_ge j e with hj | hj
    · rw [h.e3 h3 hj]
      left
      have q1 := h.r.key (i := i + (m - s)) (j := e - 1) (by omega) (by omega) (by omega)
      have q2 := h.l.key (i := s) (j := j - (e - m)) k1 (by omega) (by omega)
      rcases h.c2 with c | c | c <;> omega
    · rw [h.e4 hj]
      exact h.r _ _ (by omega) (by omega) h4

/-- The halves put in order, one behind the other. -/
theorem Cut.merged {s e : Nat} (h : Cut K D a s m e b) {E1 E2 : Nat → Int} (m1 : Merged K (rot D s m e) E1 a (s + (e - m))) (m2 : Merged K E1 E2 (s + (e - m)) b) : Merged K D E2 a b := by
  have k1 := h.as_
  have k2 := h.sm
  have k3 := h.me
  have k4 := h.eb
  have hE1h : ∀ i, s + (e - m) ≤ i → E1 i = rot D s m e i := fun i hi => m1.out i (by omega)
  have hE2l : ∀ i, i < s + (e - m) → E2 i = E1 i := fun i hi => m2.out i (by omega)
  have p2 : (seg E2 (s + (e - m)) b).Perm (seg (rot D s m e) (s + (e - m)) b) := by
    rw [← seg_congr (D := E1) (E := rot D s m e) (fun i h1 _ => hE1h i h1)]
    exact m2.perm
  have s1 : seg E2 a (s + (e - m)) = seg E1 a (s + (e - m)) := seg_congr fun i _ h2 => hE2l i h2
  have hr : (seg (rot D s m e) a b).Perm (seg D a b) := by
    rw [seg_split (m := s) k1 (by omega), seg_split (a := s) (m := e) (by omega) k4, seg_split (D := D) (m := s) k1 (by omega), seg_split (D := D) (a := s) (m := e) (by omega) k4]
    rw [seg_congr (D := rot D s m e) (E := D) (a := a) (b := s) (fun i h1 h2 => h.e1 h1 h2), seg_congr (D := rot D s m e) (E := D) (a := e) (b := b) (fun i h1 _ => h.e4 h1)]
    exact List.Perm.append_left _ (List.Perm.append_right _ (rot_perm k2 k3))
  refine ⟨?_, fun i j hi hij hj => ?_, fun i hi => ?_⟩
  · refine List.Perm.trans ?_ hr
    rw [seg_split (m := s + (e - m)) (by omega) (by omega), seg_split (D := rot D s m e) (m := s + (e - m)) (by omega) (by omega), s1]
    exact List.Perm.append m1.perm p2
  · rcases Nat.lt_or_ge j (s + (e - m)) with h1 | h1
    · rw [hE2l i (by omega), hE2l j h1]
      exact m1.rise i j hi hij h1
    · rcases Nat.lt_or_ge i (s + (e - m)) with h2 | h2
      · rw [hE2l i h2]
        refine perm_all (P := fun y => bef K (E1 i) y) p2 (fun t ht1 ht2 => ?_) j h1 hj
        exact perm_all (P := fun x => bef K x (rot D s m e t)) m1.perm (fun u hu1 hu2 => h.cross hu1 hu2 ht1 ht2) i hi h2
      · exact m2.rise i j h2 hij hj
  · rw [m2.out i (by omega), m1.out i (by omega)]
    exact rot_out _ (by omega)

/-- The first number brought to its place among those behind it. -/
theorem ins_left {e : Nat} (hae : a + 1 ≤ e) (heb : e ≤ b) (hr : Rise K D (a + 1) b) (hlow : Low D a (a + 1) b) (hc2 : e = a + 1 ∨ K (D (e - 1)) < K (D a)) (hc1 : e = b ∨ K (D a) ≤ K (D e)) : Merged K D (rot D a (a + 1) e) a b := by
  have h : Cut K D a a (a + 1) e b := ⟨Nat.le_refl _, by omega, hae, heb, fun i j h1 h2 h3 => by omega, hr, hlow, .inl rfl, by rcases hc2 with c | c; exact .inl c; exact .inr (.inr c)⟩
  refine h.merged (Merged.refl h.left.2.1) (Merged.refl (h.right.1.join h.right.2.1 fun i j h1 h2 h3 h4 => ?_))
  rw [h.e3 h1 h2, h.e4 h3]
  have ei : i - (e - (a + 1)) = a := by omega
  rw [ei]
  refine bef_of_le ?_ (hlow _ _ (Nat.le_refl _) (by omega) (by omega) h4)
  have := hr.key (i := e) (j := j) (by omega) h3 h4
  rcases hc1 with c | c <;> omega

/-- The last number brought to its place among those ahead of it. -/
theorem ins_right {s : Nat} (has : a ≤ s) (hsm : s ≤ m) (hl : Rise K D a m) (hlow : Low D a m (m + 1)) (hc2 : s = m ∨ K (D m) < K (D s)) (hc1 : s = a ∨ K (D (s - 1)) ≤ K (D m)) : Merged K D (rot D s m (m + 1)) a (m + 1) := by
  have h : Cut K D a s m (m + 1) (m + 1) := ⟨has, hsm, by omega, Nat.le_refl _, hl, fun i j h1 h2 h3 => by omega, hlow, .inr (.inl rfl), by rcases hc2 with c | c; exact .inr (.inl c); exact .inr (.inr (by simpa using c))⟩
  refine h.merged (Merged.refl (h.left.1.join h.left.2.1 fun i j h1 h2 h3 h4 => ?_)) (Merged.refl h.right.1)
  rw [h.e1 h1 h2, h.e2 h3 h4]
  have ej : j + (m - s) = m := by omega
  rw [ej]
  refine bef_of_le ?_ (hlow _ _ h1 (by omega) (Nat.le_refl _) (by omega))
  have := hl.key (i := i) (j := s - 1) h1 (by omega) (by omega)
  rcases hc1 with c | c <;> omega

/-- D with two numbers changed about. -/
def swap2 (D : Nat → Int) (x y : Nat) : Nat → Int := fun z => if z = x then D y else if z = y then D x else D z

theorem rot_self (D : Nat → Int) (a b : Nat) : rot D a a b = D := by
  funext x
  unfold rot
  by_cases h : a ≤ x ∧ x < b
  · rw [if_pos h, if_pos (by omega)]; congr 1; omega
  · rw [if_neg h]

theorem rot_self2 (D : Nat → Int) (a b : Nat) : rot D a b b = D := by
  funext x
  unfold rot
  by_cases h : a ≤ x ∧ x < b
  · rw [if_pos h, if_neg (by omega)]; congr 1; omega
  · rw [if_neg h]

/-- The first number goes one place on. -/
theorem swap_on (D : Nat → Int) {a k : Nat} (h : a ≤ k) : swap2 (rot D a (a + 1) (k + 1)) k (k + 1) = rot D a (a + 1) (k + 2) := by
  funext x
  unfold swap2
  by_cases h1 : x = k
  · subst h1
    rw [if_pos rfl, rot_out _ (by omega), rot_low h (by omega) (by omega) (by omega)]
    congr 1
    omega
  · rw [if_neg h1]
    by_cases h2 : x = k + 1
    · subst h2
      rw [if_pos rfl, rot_high (x := k) (by omega) (by omega), rot_high (x := k + 1) (by omega) (by omega)]
      congr 1
      omega
    · rw [if_neg h2]
      by_cases h3 : a ≤ x ∧ x < k
      · rw [rot_low h3.1 (by omega) (by omega) (by omega), rot_low h3.1 (by omega) (by omega) (by omega)]
      · rw [rot_out _ (by omega), rot_out _ (by omega)]

/-- The last number goes one place back. -/
theorem swap_back (D : Nat → Int) {m k : Nat} (h : k + 1 ≤ m) : swap2 (rot D (k + 1) m (m + 1)) (k + 1) k = rot D k m (m + 1) := by
  funext x
  unfold swap2
  by_cases h1 : x = k + 1
  · subst h1
    rw [if_pos rfl, rot_out _ (by omega), rot_high (x := k + 1) (by omega) (by omega)]
    congr 1
    omega
  · rw [if_neg h1]
    by_cases h2 : x = k
    · subst h2
      rw [if_pos rfl, rot_low (x := x + 1) (Nat.le_refl _) (by omega) h (by omega), rot_low (Nat.le_refl _) (by omega) (by omega) (by omega)]
      congr 1
      omega
    · rw [if_neg h2]
      by_cases h3 : k + 1 ≤ x ∧ x < m + 1
      · rw [rot_high (by omega) h3.2, rot_high (by omega) h3.2]
      · rw [rot_out _ (by omega), rot_out _ (by omega)]

/-- D with n numbers from x on and n from y on changed about. -/
def swapR (D : Nat → Int) (x y n : Nat) : Nat → Int := fun z => if x ≤ z ∧ z < x + n then D (y + (z - x)) else if y ≤ z ∧ z < y + n then D (x + (z - y)) else D z

theorem swapR_zero (D : Nat → Int) (x y : Nat) : swapR D x y 0 = D := by
  funext z
  unfold swapR
  rw [if_neg (by omega), if_neg (by omega)]

theorem swapR_step (D : Nat → Int) {x y n : Nat} (h : x + n < y) : swap2 (swapR D x y n) (x + n) (y + n) = swapR D x y (n + 1) := by
  funext z
  unfold swap2 swapR
  repeat' split
  all_goals first
    | rfl
    | (congr 1; omega)

theorem rot_more (D : Nat → Int) {m i j : Nat} (h : j < i) (him : i ≤ m) : rot (swapR D (m - i) m j) (m - (i - j)) m (m + j) = rot D (m - i) m (m + j) := by
  funext x
  unfold rot swapR
  repeat' split
  all_goals first
    | rfl
    | (congr 1; omega)

theorem rot_less (D : Nat → Int) {m i j : Nat} (h : i < j) (him : i ≤ m) : rot (swapR D (m - i) (m + j - i) i) (m - i) m (m + (j - i)) = rot D (m - i) m (m + j) := by
  funext x
  unfold rot swapR
  repeat' split
  all_goals first
    | rfl
    | (congr 1; omega)

theorem rot_even (D : Nat → Int) {m i : Nat} (him : i ≤ m) : swapR D (m - i) m i = rot D (m - i) m (m + i) := by
  funext x
  unfold rot swapR
  repeat' split
  all_goals first
    | rfl
    | (congr 1; omega)

theorem Merged.grow {E' : Nat → Int} (h1 : Merged K D E a m) (h2 : Merged K E E' a (m + 1)) (ham : a ≤ m) : Merged K D E' a (m + 1) := by
  refine ⟨h2.perm.trans ?_, h2.rise, fun i hi => (h2.out i hi).trans (h1.out i (by omega))⟩
  rw [seg_split (m := m) ham (by omega), seg_split (D := D) (m := m) ham (by omega), seg_congr (D := E) (E := D) (a := m) (b := m + 1) (fun i h _ => h1.out i (by omega))]
  exact List.Perm.append_right _ h1.perm

theorem Merged.all {P : Int → Prop} {n : Nat} (h : Merged K D E a b) (hp : ∀ i, i < n → P (D i)) (hb : b ≤ n) : ∀ i, i < n → P (E i) := fun i hi => by
  by_cases hx : a ≤ i ∧ i < b
  · exact perm_all h.perm (fun j _ h2 => hp j (by omega)) i hx.1 hx.2
  · rw [h.out i (by omega)]; exact hp i hi

end

end Go.Proofs.YtgjpchnkodnieaaGreatDoor
namespace Go.Proofs.YtgjpchnkodnieaaGreatDoor

/-- The numbers 1, 2, .. up to L. -/
def upTo (L : Nat) : List Int := (List.range L).map fun (i : Nat) => (i : Int) + 1
theorem upTo_len (L : Nat) : (upTo L).length = L := by simp [upTo]
theorem upTo_get {L i : Nat} (h : i < L) : (upTo L).getD i 0 = (i : Int) + 1 := by simp [upTo, h]

end Go.Proofs.YtgjpchnkodnieaaGreatDoor
namespace Go.Proofs.YtgjpchnkodnieaaGreatDoor
open Go.RowKit

theorem Own.low' {w w' : World} {a : Option Addr} {n : Nat} {zs : List Int} {B C : Nat} (h : Own w C a n zs) (ha : ∀ k, At a n k → k < B) (hb : Below B w w') : Own w' C a n zs := by
  refine ⟨h.len, h.small, ?_⟩
  rcases h.at_ with h0 | ⟨g, off, rfl, hg, hlt, hc, hf⟩
  · exact .inl h0
  · by_cases h0 : n = 0
    · exact .inl h0
    have hgB := ha g (at_self h0)
    exact .inr ⟨g, off, rfl, hg, Nat.lt_of_lt_of_le hlt hb.size, fun i hi => (hb.cell (p := ⟨g, off + i, none⟩) hgB).trans (hc i hi), fun i hi => (hb.frozen (p := ⟨g, off + i, none⟩) hgB).trans (hf i hi)⟩

theorem Own.other {w : World} {a : Option Addr} {n C : Nat} {zs : List Int} (h : Own w C a n zs) {q : Addr} (ha : ∀ k, At a n k → k ≠ q.block) (v : Value) : Own (w.setCell q v) C a n zs :=
  ((But.refl (fun k => k = q.block) w).setCell rfl v).own h (fun k hk hk' => ha k hk' hk)

/-- An append to a slice of the call's own leaves all blocks below its base. -/
theorem below_append {w w1 : World} {base n : Nat} {v : Value} {xs : List Value} (o : Obj) (hown : w.ownsRow base 3 1 v n xs) (hb : base ≤ w.heap.size) (hg : (w.alloc o).grownBy w1 v.ownBlock) : Below base w w1 :=
  ((Below.refl _ _).alloc hb _).grown hg (by simp; omega) (by
    intro k hk
    rcases hown.2 with ⟨rfl, _⟩ | ⟨g, cap, cur, rfl, hbg, _⟩
    · cases hk
    · cases hk; exact hbg)

theorem owns_slice {w : World} {base e size n : Nat} {v : Value} {xs : List Value} (h : w.ownsRow base e size v n xs) : ∃ a cap, v = .slice a n cap := by
  rcases h.2 with ⟨rfl, h0⟩ | ⟨g, cap, cur, rfl, _⟩
  · exact ⟨none, 0, by rw [h0]⟩
  · exact ⟨_, _, rfl⟩

theorem take_map_snoc (f : Int → Int) (xs : List Int) (k : Nat) (h : k < xs.length) : ((xs.take (k + 1)).map f).map (Value.int .i64) = ((xs.take k).map f).map (Value.int .i64) ++ [.int .i64 (f (xs.getD k 0))] := by
  rw [take_snoc xs k h]; simp

theorem row_nil (w : World) (a : Option Addr) : Row w a 0 [] := ⟨rfl, by omega, .inl rfl⟩

theorem cells_new (w : World) (x : Int) : ∀ (j : Nat) u, ([.int .i64 x] : List Value)[j]? = some u → (w.alloc (.cells #[.int .i64 x] 3)).cell? ((⟨w.heap.size, 0, none⟩ : Addr).add j) = some u := by
  intro j u hj
  match j, hj with
  | 0, hj => simp at hj; subst hj; simp [Addr.add]

theorem one_one (x : Int) : ∀ u ∈ ([.int .i64 x] : List Value), u.oneCell' = true := by intro u hu; simp at hu; subst hu; rfl

theorem owns_below {w w' : World} {base e size n B : Nat} {v : Value} {xs : List Value} (h : w.ownsRow base e size v n xs) (hB : w.heap.size ≤ B) (hb : Below B w w') : w'.ownsRow base e size v n xs := by
  obtain ⟨h1, h2⟩ := h
  refine ⟨h1, ?_⟩
  rcases h2 with h2 | ⟨g, cap, cur, hv, hg, hh, r⟩
  · exact Or.inl h2
  · exact Or.inr ⟨g, cap, cur, hv, hg, (hb.block g (Nat.lt_of_lt_of_le (lt_of_block hh) hB)).trans hh, r⟩

theorem owns_low_set {w : World} {base n p o : Nat} {v : Value} {xs : List Value} (h : w.ownsRow base 3 1 v n xs) (hp : p < base) (u : Value) : (w.setCell ⟨p, o, none⟩ u).ownsRow base 3 1 v n xs := by
  obtain ⟨h1, h2⟩ := h
  refine ⟨h1, ?_⟩
  rcases h2 with h2 | ⟨g, cap, cur, hv, hg, hh, r⟩
  · exact Or.inl h2
  · refine Or.inr ⟨g, cap, cur, hv, hg, ?_, r⟩
    rw [Below.heap_setCell _ _ _ _ (by
      intro e
      have e' : g = p := e
      omega)]
    exact hh

theorem owns_lt {w : World} {base e size n g : Nat} {v : Value} {xs : List Value} (h : w.ownsRow base e size v n xs) (hg : v.ownBlock = some g) : g < w.heap.size := by
  rcases h.2 with ⟨rfl, _⟩ | ⟨g', cap, cur, rfl, _, hh, _⟩
  · cases hg
  · cases hg; exact lt_of_block hh

theorem Own.grownO {w w1 : World} {B n : Nat} {a : Option Addr} {zs : List Int} (h : Own w B a n zs) (o : Obj) {ob : Option Nat} (hg : (w.alloc o).grownBy w1 ob) (hne : ∀ x, At a n x → ob ≠ some x) : Own w1 B a n zs := by
  refine ⟨h.len, h.small, ?_⟩
  rcases h.at_ with h0 | ⟨b, off, rfl, hb, hlt, hc, hf⟩
  · exact .inl h0
  · by_cases hn : n = 0
    · exact .inl hn
    have hk : w1.heap[b]? = w.heap[b]? := (hg.block b (by simp; omega) (fun e => hne b (at_self hn) e.symm)).trans (Below.heap_alloc w o b hlt)
    refine .inr ⟨b, off, rfl, hb, ?_, fun i hi => (World.cell?_of_block (w := w) (a := ⟨b, off + i, none⟩) hk).trans (hc i hi), fun i hi => (World.frozen?_of_block (w := w) (a := ⟨b, off + i, none⟩) hk).trans (hf i hi)⟩
    rcases Nat.lt_or_ge b w1.heap.size with h1 | h1
    · exact h1
    · rw [Array.getElem?_eq_none h1, Array.getElem?_eq_getElem hlt] at hk; cases hk

theorem owns_mono {w : World} {base base' e size n : Nat} {v : Value} {xs : List Value} (h : w.ownsRow base e size v n xs) (hb : base' ≤ base) : w.ownsRow base' e size v n xs := by
  obtain ⟨h1, h2⟩ := h
  refine ⟨h1, ?_⟩
  rcases h2 with h2 | ⟨g, cap, cur, hv, hg, hh, r⟩
  · exact Or.inl h2
  · exact Or.inr ⟨g, cap, cur, hv, by omega, hh, r⟩

theorem owns_grown {w w1 : World} {base base' n g g2 cap : Nat} {xs : List Value} (h : w.ownsRow base 3 1 (.slice (some ⟨g, 0, none⟩) n cap) n xs) (o : Obj) (hg : (w.alloc o).grownBy w1 (some g2)) (hne : g ≠ g2) (hb : base' ≤ base) : w1.ownsRow base' 3 1 (.slice (some ⟨g, 0, none⟩) n cap) n xs := by
  obtain ⟨h1, h2⟩ := h
  refine ⟨h1, ?_⟩
  rcases h2 with ⟨h2, _⟩ | ⟨g', cap', cur, hv, hg', hh, r⟩
  · simp at h2
  · have e : g = g' := by simp at hv; exact hv.1
    subst e
    refine Or.inr ⟨g, cap', cur, hv, by omega, ?_, r⟩
    have hlt := lt_of_block hh
    exact (hg.block g (by simp; omega) (fun e => hne (by simpa using e))).trans ((Below.heap_alloc w o g hlt).trans hh)

theorem Own.set {w : World} {B g off n k : Nat} {zs : List Int} (h : Own w B (some ⟨g, off, none⟩) n zs) (hk : k < n) (x : Int) : Own (w.setCell ⟨g, off + k, none⟩ (.int .i64 x)) B (some ⟨g, off, none⟩) n (zs.set k x) := by
  refine ⟨by rw [List.length_set]; exact h.len, h.small, ?_⟩
  rcases h.at_ with h0 | ⟨g', off', e, hg, hlt, hc, hf⟩
  · omega
  · cases e
    refine .inr ⟨g, off, rfl, hg, by simpa using hlt, fun i hi => ?_, fun i hi => ?_⟩
    · by_cases e : i = k
      · subst e
        rw [World.cell?_setCell_same _ _ _ (hc i hi)]
        have hl := h.len
        simp [List.getD, hl, hk]
      · rw [World.cell?_setCell_other _ _ _ _ (by simp <;> omega), hc i hi]
        simp [List.getD, List.getElem?_set_ne (Ne.symm e)]
    · simpa using hf i hi

theorem But.drew {S : Nat → Prop} {w w' : World} (h : But S w w') : But S w w'.drew := ⟨h.os, h.tape, h.output, h.size, h.block⟩

theorem But.cellAt {S : Nat → Prop} {w w' : World} (h : But S w w') {b o : Nat} (hb : b < w.heap.size) (hn : ¬ S b) : w'.cell? ⟨b, o, none⟩ = w.cell? ⟨b, o, none⟩ := World.cell?_of_block (w := w) (a := ⟨b, o, none⟩) (h.block b hb hn)

end Go.Proofs.YtgjpchnkodnieaaGreatDoor
namespace Go.Proofs.YtgjpchnkodnieaaGreatDoor
open Go.RowKit

set_option maxHeartbeats 1000000 in
theorem markArray_any (c : Bool) (a1 a2 : Option Addr) (n1 n2 c1 c2 B : Nat) (sh dt : List Int) (k : Int) (w : World) (h1 : Own w B a1 n1 sh) (h2 : Own w B a2 n2 dt) (hap : Apart a1 n1 a2 n2) (hk0 : 0 ≤ k) (hk : k ≤ 2305843009213693952) :
    Calls Tryz.prog 22 #[.agg #[.bool c, .slice a1 n1 c1, .slice a2 n2 c2], .int .i64 k] w fun e w' => e = .returned (.int .i64 (k + n1 + n2)) ∧ Own w' B a1 n1 (marks k n1) ∧ Own w' B a2 n2 (marks (k + n1) n2) ∧ But (fun x => At a1 n1 x ∨ At a2 n2 x) w w' := by
  have hs1 := h1.small
  have hs2 := h2.small
  have hi1 : Hid (∀ x, At a1 n1 x → x < w.heap.size) := fun x hx => h1.row.hi hx
  have H1 := hide h1
  have H2 := hide h2
  have HA := hide hap
  clear h1 h2 hap
  go_enter Tryz.func22, Tryz.ntmps22
  go_wp2_with fail
  refine (markIntS_any _ _ _ B sh _ _ (by exact (unhide H1).below (Nat.le_refl _) ((Below.refl _ _).alloc (Nat.le_refl _) _)) (by omega) (by omega)).mono ?_
  rintro e w1 ⟨rfl, ho1, hb1⟩
  have hz1 := hb1.size
  have hcell : w1.heap[w.heap.size]? = _ := hb1.block w.heap.size (by simp) (fun hx => by have := unhide hi1 _ hx; omega)
  have hc0 := World.cell?_of_block (a := ⟨w.heap.size, 0, none⟩) hcell
  have hc1 := World.cell?_of_block (a := ⟨w.heap.size, 1, none⟩) hcell
  have hc2 := World.cell?_of_block (a := ⟨w.heap.size, 2, none⟩) hcell
  have hf := fun o => World.frozen?_of_block (a := ⟨w.heap.size, o, none⟩) hcell
  simp at hc0 hc1 hc2 hz1
  have ho2 : Own w1 B a2 n2 dt := hb1.own ((unhide H2).below (Nat.le_refl _) ((Below.refl _ _).alloc (Nat.le_refl _) _)) (unhide HA)
  have HO1 := hide ho1
  have HB1 := hide hb1
  clear hcell hf ho1 hb1
  go_wp2_with fail
  refine (markIntS_any _ _ _ B dt _ _ ho2 (by omega) (by omega)).mono ?_
  rintro e w2 ⟨rfl, ho3, hb2⟩
  have HO3 := hide ho3
  have HB2 := hide hb2
  have ho4 : Hid (Own w2 B a1 n1 (marks k n1)) := hb2.own (unhide HO1) (unhide HA).symm
  clear ho3 hb2
  go_wp2
  go_ret
  exact ⟨rfl, unhide ho4, unhide HO3, (((But.refl _ _).alloc _).trans ((unhide HB1).trans (unhide HB2))).mono (fun x hx => by rcases hx with hx | hx; exact absurd hx id; exact hx)⟩

end Go.Proofs.YtgjpchnkodnieaaGreatDoor
namespace Go.Proofs.YtgjpchnkodnieaaGreatDoor
open Go.RowKit

set_option maxHeartbeats 1000000 in
theorem heldArray_marks (c : Bool) (a1 a2 : Option Addr) (n1 n2 c1 c2 : Nat) (k : Int) (w : World) (h1 : Row w a1 n1 (marks k n1)) (h2 : Row w a2 n2 (marks (k + n1) n2)) (hk0 : 0 ≤ k) (hk : k ≤ 2305843009213693952) :
    Calls Tryz.prog 23 #[.agg #[.bool c, .slice a1 n1 c1, .slice a2 n2 c2], .int .i64 k] w fun e w' => e = .returned (.int .i64 (k + n1 + n2)) ∧ Below w.heap.size w w' := by
  have hs1 := h1.small
  have hs2 := h2.small
  have H1 := hide h1
  have H2 := hide h2
  clear h1 h2
  go_enter Tryz.func23, Tryz.ntmps23
  go_wp2_with fail
  refine (heldIntS_marks _ _ _ _ _ (by exact (unhide H1).below (Nat.le_refl _) ((Below.refl _ _).alloc (Nat.le_refl _) _)) (by omega) (by omega)).mono ?_
  rintro e w1 ⟨rfl, rfl⟩
  go_wp2_with fail
  refine (heldIntS_marks _ _ _ _ _ (by exact (unhide H2).below (Nat.le_refl _) ((Below.refl _ _).alloc (Nat.le_refl _) _)) (by omega) (by omega)).mono ?_
  rintro e w1 ⟨rfl, rfl⟩
  go_wp2
  go_ret
  exact ⟨rfl, (Below.refl _ _).alloc (Nat.le_refl _) _⟩

end Go.Proofs.YtgjpchnkodnieaaGreatDoor
namespace Go.Proofs.YtgjpchnkodnieaaGreatDoor
open Go.RowKit

theorem box1 {w wr : World} {o1 : Obj} (hK : Below (w.heap.size + 1) (w.alloc o1) wr) :
    Below w.heap.size w wr ∧ w.heap.size + 1 ≤ wr.heap.size ∧ (∀ b o, b < w.heap.size + 1 → wr.cell? ⟨b, o, none⟩ = (w.alloc o1).cell? ⟨b, o, none⟩) :=
  ⟨((Below.refl _ _).alloc (Nat.le_refl _) _).trans (hK.mono (by omega)), by have := hK.size; simp at this; omega, fun b o hb => hK.cell (p := ⟨b, o, none⟩) hb⟩

theorem box2 {w wr : World} {o1 o2 : Obj} (hK : Below (w.heap.size + 2) ((w.alloc o1).alloc o2) wr) :
    Below w.heap.size w wr ∧ w.heap.size + 2 ≤ wr.heap.size ∧ (∀ b o, b < w.heap.size + 2 → wr.cell? ⟨b, o, none⟩ = ((w.alloc o1).alloc o2).cell? ⟨b, o, none⟩) :=
  ⟨(((Below.refl _ _).alloc (Nat.le_refl _) _).alloc (by simp) _).trans (hK.mono (by omega)), by have := hK.size; simp at this; omega, fun b o hb => hK.cell (p := ⟨b, o, none⟩) hb⟩

/-- What a slice argument is known to be: its cells, and that its length is an int. -/
structure Raw (w : World) (a : Option Addr) (n : Nat) (zs : List Int) : Prop where
  len : zs.length = n
  max : n ≤ 9223372036854775807
  at_ : n = 0 ∨ ∃ b off, a = some ⟨b, off, none⟩ ∧ b < w.heap.size ∧ ∀ i, i < n → w.cell? ⟨b, off + i, none⟩ = some (.int .i64 (zs.getD i 0))

theorem Raw.row {w : World} {a : Option Addr} {n : Nat} {zs : List Int} (h : Raw w a n zs) (hn : n ≤ 17592186044416) : Row w a n zs := ⟨h.len, hn, h.at_⟩

end Go.Proofs.YtgjpchnkodnieaaGreatDoor
namespace Go.Proofs.YtgjpchnkodnieaaGreatDoor
open Go.RowKit

theorem eqArray_refl (c : Bool) (a1 a2 b1 b2 : Option Addr) (n1 n2 m1 m2 c1 c2 d1 d2 : Nat) (sh dt : List Int) (w : World) (h1 : Row w a1 n1 sh) (h2 : Row w a2 n2 dt) (k1 : Row w b1 m1 sh) (k2 : Row w b2 m2 dt) :
    Calls Tryz.prog 13 #[.agg #[.bool c, .slice a1 n1 c1, .slice a2 n2 c2], .agg #[.bool c, .slice b1 m1 d1, .slice b2 m2 d2]] w fun e w' => e = .returned (.bool true) ∧ Below w.heap.size w w' := by
  have := eqArray_any c c a1 a2 b1 b2 n1 n2 m1 m2 c1 c2 d1 d2 sh dt sh dt w h1 h2 k1 k2
  rwa [decide_eq_true ⟨rfl, rfl, rfl⟩] at this

end Go.Proofs.YtgjpchnkodnieaaGreatDoor
namespace Go.Proofs.YtgjpchnkodnieaaGreatDoor
open Go.RowKit

/-- Block p holds a struct of an array. -/
def Box (w : World) (p : Nat) (c : Bool) (v1 v2 : Value) : Prop := w.heap[p]? = some (.cells #[.bool c, v1, v2] 25 (0, 0))

theorem Box.lt {w : World} {p : Nat} {c : Bool} {v1 v2 : Value} (h : Box w p c v1 v2) : p < w.heap.size := lt_of_block h

theorem Box.cells {w : World} {p : Nat} {c : Bool} {v1 v2 : Value} (h : Box w p c v1 v2) : w.cell? ⟨p, 0, none⟩ = some (.bool c) ∧ w.cell? ⟨p, 1, none⟩ = some v1 ∧ w.cell? ⟨p, 2, none⟩ = some v2 := by
  unfold Box at h
  simp [World.cell?, h]

theorem Box.below {w w' : World} {p B : Nat} {c : Bool} {v1 v2 : Value} (h : Box w p c v1 v2) (hB : w.heap.size ≤ B) (hb : Below B w w') : Box w' p c v1 v2 := (hb.block p (Nat.lt_of_lt_of_le h.lt hB)).trans h

theorem Box.but {S : Nat → Prop} {w w' : World} {p : Nat} {c : Bool} {v1 v2 : Value} (h : Box w p c v1 v2) (hb : But S w w') (hn : ¬ S p) : Box w' p c v1 v2 := (hb.block p h.lt hn).trans h

theorem Box.alloc {w : World} {p : Nat} {c : Bool} {v1 v2 : Value} (h : Box w p c v1 v2) (o : Obj) : Box (w.alloc o) p c v1 v2 := (Below.heap_alloc w o p h.lt).trans h

theorem Box.drew {w : World} {p : Nat} {c : Bool} {v1 v2 : Value} (h : Box w p c v1 v2) : Box w.drew p c v1 v2 := h

theorem Box.new (w : World) (c : Bool) (v1 v2 : Value) : Box (w.alloc (.cells #[.bool c, v1, v2] 25 (0, 0))) w.heap.size c v1 v2 := by
  show (w.heap.push _)[w.heap.size]? = _
  simp

end Go.Proofs.YtgjpchnkodnieaaGreatDoor

namespace Go.Proofs.YtgjpchnkodnieaaGreatDoor
open Go.RowKit

set_option maxHeartbeats 400000 in
theorem l1RuneOk_any (v : Int) (w : World) : Calls Tryz.prog 49 #[.int .i64 v] w fun e w' => e = .returned (.bool (runeOk v)) ∧ w' = w := by
  by_cases h1 : 0 ≤ v
  · by_cases h2 : v ≤ 1114111
    · by_cases h3 : v < 55296
      · have HE : Hid (runeOk v = true) := decide_eq_true ⟨h1, h2, .inl h3⟩
        go_enter Tryz.func49, Tryz.ntmps49
        go_wp2
        go_ret
        exact ⟨ret_bool HE.out.symm, rfl⟩
      · by_cases h4 : 57343 < v
        · have HE : Hid (runeOk v = true) := decide_eq_true ⟨h1, h2, .inr h4⟩
          go_enter Tryz.func49, Tryz.ntmps49
          go_wp2
          go_ret
          exact ⟨ret_bool HE.out.symm, rfl⟩
        · have HE : Hid (runeOk v = false) := decide_eq_false (fun h => by omega)
          go_enter Tryz.func49, Tryz.ntmps49
          go_wp2
          go_ret
          exact ⟨ret_bool HE.out.symm, rfl⟩
    · have HE : Hid (runeOk v = false) := decide_eq_false (fun h => by omega)
      go_enter Tryz.func49, Tryz.ntmps49
      go_wp2
      go_ret
      exact ⟨ret_bool HE.out.symm, rfl⟩
  · have HE : Hid (runeOk v = false) := decide_eq_false (fun h => by omega)
    go_enter Tryz.func49, Tryz.ntmps49
    go_wp2
    go_ret
    exact ⟨ret_bool HE.out.symm, rfl⟩

theorem l1RuneOk_eq (v : Int) (w : World) (b : Bool) (h : Hid (runeOk v = b)) : Calls Tryz.prog 49 #[.int .i64 v] w fun e w' => e = .returned (.bool b) ∧ w' = w := by
  rw [← h.out]; exact l1RuneOk_any v w

end Go.Proofs.YtgjpchnkodnieaaGreatDoor
namespace Go.Proofs.YtgjpchnkodnieaaGreatDoor
open Go.RowKit

theorem arr_long {c : Bool} {sh dt : List Int} {n1 : Nat} (hl : sh.length = n1) (h : 5 < n1) : arrOk c sh dt = false := by
  unfold arrOk; rw [decide_eq_false (by omega)]; rfl
theorem arr_count {c : Bool} {sh dt : List Int} {n2 : Nat} (hl : dt.length = n2) (h : countOf sh ≠ n2) : arrOk c sh dt = false := by
  unfold arrOk; rw [decide_eq_false (p := countOf sh = _) (by rw [hl]; exact h)]; simp
theorem arr_data {c : Bool} {sh dt : List Int} (h : dt.all (dataOk c) = false) : arrOk c sh dt = false := by
  unfold arrOk; rw [h]; simp
theorem arr_good {c : Bool} {sh dt : List Int} {n1 n2 : Nat} (hl1 : sh.length = n1) (hl2 : dt.length = n2) (h5 : n1 ≤ 5) (hc : countOf sh = n2) (h : dt.all (dataOk c) = true) : arrOk c sh dt = true := by
  unfold arrOk; rw [h, decide_eq_true (by omega), decide_eq_true (by rw [hl2]; exact hc)]; rfl

set_option maxHeartbeats 1000000 in
theorem ArrayOk_any (c : Bool) (a1 a2 : Option Addr) (n1 n2 c1 c2 : Nat) (sh dt : List Int) (w : World) (h1 : Row w a1 n1 sh) (h2 : Row w a2 n2 dt) :
    Calls Tryz.prog 10 #[.agg #[.bool c, .slice a1 n1 c1, .slice a2 n2 c2]] w fun e w' => e = .returned (.bool (arrOk c sh dt)) ∧ Below w.heap.size w w' := by
  have hl1 := hide h1.len
  have hl2 := hide h2.len
  have hs1 := h1.small
  have hs2 := h2.small
  have H1 := hide h1
  have H2 := hide h2
  clear h1 h2
  have hW : ∀ o, Below w.heap.size w (w.alloc o) := fun o => (Below.refl _ _).alloc (Nat.le_refl _) _
  have hcb := count_bd sh
  obtain ⟨hcb1, hcb2⟩ := hcb
  by_cases h5 : 5 < n1
  · have hd : decide ((5 : Int) < (n1 : Int)) = true := by simp; omega
    have HE := hide (arr_long (c := c) (dt := dt) (unhide hl1) h5)
    go_enter Tryz.func10, Tryz.ntmps10
    go_wp2
    go_quiet (fail)
    go_wp2
    go_ret
    exact ⟨ret_bool HE.out.symm, Below.drewN (hW _) _⟩
  · have hd : decide ((5 : Int) < (n1 : Int)) = false := by simp; omega
    obtain ⟨cn, hcn⟩ : ∃ cn, countOf sh = cn := ⟨_, rfl⟩
    rw [hcn] at hcb1 hcb2
    have HC := hide hcn
    clear hcn
    by_cases hcn : cn = n2
    · have hb : (cn != (n2 : Int)) = false := by simp [hcn]
      have HCN := hide hcn
      clear hcn
      go_enter Tryz.func10, Tryz.ntmps10
      go_wp2
      go_quiet ((go_at_call 48; exact Calls.quiet_of_same (l3Count_eq _ _ _ sh _ (((unhide H1).alloc _).drewN _) cn HC)))
      go_wp2
      go_loopw [3, 4] (fun i v wr => ∃ k : Nat, k ≤ n2 ∧ i = .int .i64 k ∧ Hid ((dt.take k).all (dataOk c) = true) ∧ wr = (w.alloc (.cells #[.bool c, .slice a1 n1 c1, .slice a2 n2 c2] 25)).drewN nq) (fun i _ _ => n2 - (intOf i).toNat)
      case atStart => exact ⟨0, Nat.zero_le _, rfl, rfl, rfl⟩
      case round =>
        obtain ⟨k, hk, rfl, hall, rfl⟩ := hrel
        by_cases hlt : k < n2
        · obtain ⟨b, off, rfl, hblt, hc⟩ := (unhide H2).get hlt
          have hks : Hid (k < dt.length) := by show k < dt.length; rw [unhide hl2]; exact hlt
          obtain ⟨x, hx⟩ : ∃ x, x = dt.getD k 0 := ⟨_, rfl⟩
          rw [← hx] at hc
          have HX := hide hx
          clear hx
          have hN : ∀ {r : Bool}, dataOk c x = r → r = false → Hid (arrOk c sh dt = false) := fun h1 h2 => arr_data (all_not dt (dataOk c) k (unhide hks) (by rw [← unhide HX, h1, h2]))
          have hY : ∀ {r : Bool}, dataOk c x = r → r = true → Hid ((dt.take (k + 1)).all (dataOk c) = true) := fun h1 h2 => all_step dt (dataOk c) k (unhide hks) (unhide hall) (by rw [← unhide HX, h1, h2])
          cases c with
          | true =>
            cases hr : runeOk x with
            | true =>
              have hxb := of_decide_eq_true hr
              have HR := hide hr
              have HA := hY (show dataOk true x = true by unfold dataOk; rw [hr, decide_eq_true (by omega)]; rfl) rfl
              have hx1 : x ≤ 1000000000000000 := by omega
              have hx2 : -1000000000000000 ≤ x := by omega
              clear hr hxb hN hY
              go_wp2_with (go_at_call 49; refine (l1RuneOk_eq _ _ true HR).mono ?_; rintro e w' ⟨rfl, rfl⟩)
              go_roundw
              case rel => exact ⟨k + 1, by omega, by go_num, HA, by first | exact trivial | rfl⟩
              case measure => simp [intOf]; omega
            | false =>
              have HR := hide hr
              have HE := hN (show dataOk true x = false by unfold dataOk; rw [hr]; rfl) rfl
              clear hr hN hY
              go_wp2_with (go_at_call 49; refine (l1RuneOk_eq _ _ false HR).mono ?_; rintro e w' ⟨rfl, rfl⟩)
              go_ret
              exact ⟨ret_bool HE.out.symm, Below.drewN (hW _) _⟩
          | false =>
            by_cases hx1 : 1000000000000000 < x
            · have HE := hN (show dataOk false x = false by unfold dataOk; rw [decide_eq_false (by omega)]; rfl) rfl
              clear hN hY
              go_wp2
              go_ret
              exact ⟨ret_bool HE.out.symm, Below.drewN (hW _) _⟩
            · by_cases hx2 : x < -1000000000000000
              · have HE := hN (show dataOk false x = false by unfold dataOk; rw [decide_eq_false (by omega)]; rfl) rfl
                clear hN hY
                go_wp2
                go_ret
                exact ⟨ret_bool HE.out.symm, Below.drewN (hW _) _⟩
              · have HA := hY (show dataOk false x = true by unfold dataOk; rw [decide_eq_true (by omega)]; rfl) rfl
                clear hN hY
                go_wp2
                go_roundw
                case rel => exact ⟨k + 1, by omega, by go_num, HA, by first | exact trivial | rfl⟩
                case measure => simp [intOf]; omega
        · have HA : Hid (dt.all (dataOk c) = true) := by
            have := unhide hall
            rwa [List.take_of_length_le (by rw [unhide hl2]; omega)] at this
          have HE := hide (arr_good (unhide hl1) (unhide hl2) (by omega) ((unhide HC).trans (unhide HCN)) (unhide HA))
          go_wp2
          go_ret
          exact ⟨ret_bool HE.out.symm, Below.drewN (hW _) _⟩
    · have hb : (cn != (n2 : Int)) = true := by simp [hcn]
      have HE := hide (arr_count (c := c) (sh := sh) (unhide hl2) (by rw [unhide HC]; exact hcn))
      clear hcn
      go_enter Tryz.func10, Tryz.ntmps10
      go_wp2
      go_quiet ((go_at_call 48; exact Calls.quiet_of_same (l3Count_eq _ _ _ sh _ (((unhide H1).alloc _).drewN _) cn HC)))
      go_wp2
      go_ret
      exact ⟨ret_bool HE.out.symm, Below.drewN (hW _) _⟩

theorem ArrayOk_eq (c : Bool) (a1 a2 : Option Addr) (n1 n2 c1 c2 : Nat) (sh dt : List Int) (w : World) (h1 : Row w a1 n1 sh) (h2 : Row w a2 n2 dt) (r : Bool) (hr : Hid (arrOk c sh dt = r)) :
    Calls Tryz.prog 10 #[.agg #[.bool c, .slice a1 n1 c1, .slice a2 n2 c2]] w fun e w' => e = .returned (.bool r) ∧ Below w.heap.size w w' := by
  rw [← hr.out]; exact ArrayOk_any c a1 a2 n1 n2 c1 c2 sh dt w h1 h2

end Go.Proofs.YtgjpchnkodnieaaGreatDoor
namespace Go.Proofs.YtgjpchnkodnieaaGreatDoor
open Go.RowKit

theorem Box.free {w : World} {p : Nat} {c : Bool} {v1 v2 : Value} (h : Box w p c v1 v2) (o : Nat) : w.frozen? ⟨p, o, none⟩ = false := frozen_of_row w p o _ _ h

theorem Box.all {w : World} {p : Nat} {c : Bool} {v1 v2 : Value} (h : Box w p c v1 v2) : w.cell? ⟨p, 0, none⟩ = some (.bool c) ∧ w.cell? ⟨p, 1, none⟩ = some v1 ∧ w.cell? ⟨p, 2, none⟩ = some v2 ∧ w.frozen? ⟨p, 0, none⟩ = false ∧ w.frozen? ⟨p, 1, none⟩ = false ∧ w.frozen? ⟨p, 2, none⟩ = false ∧ p < w.heap.size :=
  ⟨h.cells.1, h.cells.2.1, h.cells.2.2, h.free _, h.free _, h.free _, h.lt⟩

theorem Box.set2 {w : World} {p : Nat} {c : Bool} {v1 v2 : Value} (h : Box w p c v1 v2) (v : Value) : Box (w.setCell ⟨p, 2, none⟩ v) p c v1 v := by
  unfold Box at h ⊢
  rw [heap_setCell_same w p 2 _ _ _ h]
  simp

theorem Box.other {w : World} {p : Nat} {c : Bool} {v1 v2 : Value} (h : Box w p c v1 v2) {q : Addr} (hq : p ≠ q.block) (v : Value) : Box (w.setCell q v) p c v1 v2 := (heap_setCell_other w q p v hq).trans h

theorem Box.low {w w' : World} {p B : Nat} {c : Bool} {v1 v2 : Value} (h : Box w p c v1 v2) (hp : p < B) (hb : Below B w w') : Box w' p c v1 v2 := (hb.block p hp).trans h

theorem Box.grown {w w1 : World} {p base n : Nat} {c : Bool} {v1 v2 v : Value} {xs : List Value} (h : Box w p c v1 v2) (hown : w.ownsRow base 3 1 v n xs) (o : Obj) (hg : (w.alloc o).grownBy w1 v.ownBlock) : Box w1 p c v1 v2 := by
  refine (hg.block p (by have := h.lt; simp; omega) ?_).trans (h.alloc o)
  rcases hown.2 with ⟨rfl, _⟩ | ⟨g, cap, cur, rfl, _, hh, _⟩
  · exact fun e => by cases e
  · intro e
    have e' : p = g := by simpa [Value.ownBlock] using e
    subst e'
    unfold Box at h
    rw [hh] at h
    simp at h

theorem owns_box_set {w : World} {base n p : Nat} {v : Value} {xs : List Value} {c : Bool} {v1 v2 : Value} (h : w.ownsRow base 3 1 v n xs) (hb : Box w p c v1 v2) (o : Nat) (u : Value) : (w.setCell ⟨p, o, none⟩ u).ownsRow base 3 1 v n xs := by
  obtain ⟨h1, h2⟩ := h
  refine ⟨h1, ?_⟩
  rcases h2 with h2 | ⟨g, cap, cur, hv, hg, hh, r⟩
  · exact Or.inl h2
  · refine Or.inr ⟨g, cap, cur, hv, hg, ?_, r⟩
    rw [Below.heap_setCell _ _ _ _ (by
      intro e
      have e' : g = p := e
      subst e'
      unfold Box at hb
      rw [hh] at hb
      simp at hb)]
    exact hh

end Go.Proofs.YtgjpchnkodnieaaGreatDoor
namespace Go.Proofs.YtgjpchnkodnieaaGreatDoor
open Go.RowKit

/-- What an impl function's answer is. -/
def GivesOwn (w : World) (r : Ans) (e : Ending) (w' : World) : Prop := ∃ b1 m1 d1 b2 m2 d2, e = .returned (.tuple #[.agg #[.bool r.c, .slice b1 m1 d1, .slice b2 m2 d2], .int .i64 r.code]) ∧ Own w' w.heap.size b1 m1 r.sh ∧ Own w' w.heap.size b2 m2 r.dt ∧ Apart b1 m1 b2 m2 ∧ Below w.heap.size w w'

theorem own_none (w : World) (B : Nat) (a : Option Addr) : Own w B a 0 [] := ⟨rfl, by omega, .inl rfl⟩

theorem gives_none {w w' : World} {code : Int} (h : Below w.heap.size w w') : GivesOwn w (noAns code) (.returned (.tuple #[.agg #[.bool false, .slice none 0 0, .slice none 0 0], .int .i64 code])) w' :=
  ⟨none, 0, 0, none, 0, 0, rfl, own_none _ _ _, own_none _ _ _, fun _ h => absurd rfl h.1, h⟩

theorem arr_parts {c : Bool} {sh dt : List Int} (h : arrOk c sh dt = true) : shapeB sh = true ∧ countOf sh = (dt.length : Int) := by
  unfold arrOk at h
  simp only [Bool.and_eq_true, decide_eq_true_eq] at h
  refine ⟨?_, h.2.1⟩
  unfold shapeB
  rw [decide_eq_true h.1, decide_eq_true (by omega)]; rfl

theorem firstCode_zero {f : Nat → Int × Int} {n : Nat} : firstCode f n = 0 ↔ ∀ k, k < n → (f k).2 = 0 := by
  induction n with
  | zero => exact ⟨fun _ k hk => absurd hk (Nat.not_lt_zero _), fun _ => rfl⟩
  | succ n ih =>
    constructor
    · intro h
      have h0 : firstCode f n = 0 := by
        by_cases h0 : firstCode f n = 0
        · exact h0
        · simp only [firstCode, if_neg h0] at h; exact h
      have h1 : (f n).2 = 0 := by simpa only [firstCode, if_pos h0] using h
      intro k hk
      by_cases hkn : k = n
      · subst hkn; exact h1
      · exact ih.mp h0 k (by omega)
    · intro h
      exact code_step (ih.mpr fun k hk => h k (by omega)) (h n (by omega))

end Go.Proofs.YtgjpchnkodnieaaGreatDoor
namespace Go.Proofs.YtgjpchnkodnieaaGreatDoor

/-- What a place is ordered by: its element, or the element with the other sign. -/
def gradeK (down : Bool) (dt : List Int) (p : Int) : Int := if down then - dt.getD (p - 1).toNat 0 else dt.getD (p - 1).toNat 0

/-- A list of the places 1 to n that rises. -/
def IsGrade (K : Int → Int) (n : Nat) (l : List Int) : Prop := l.Perm (upTo n) ∧ l.Pairwise (bef K)

def gradeL (K : Int → Int) (n : Nat) : List Int := (upTo n).mergeSort fun x y => decide (K x < K y ∨ (K x = K y ∧ x ≤ y))

theorem upTo_ne (n : Nat) : (upTo n).Pairwise (· ≠ ·) := by
  unfold upTo
  rw [List.pairwise_map]
  exact (List.nodup_iff_pairwise_ne.1 List.nodup_range).imp (fun h => by omega)

theorem gradeL_is (K : Int → Int) (n : Nat) : IsGrade K n (gradeL K n) := by
  have hp : (gradeL K n).Perm (upTo n) := List.mergeSort_perm _ _
  refine ⟨hp, ?_⟩
  have h1 : (gradeL K n).Pairwise (fun x y => decide (K x < K y ∨ (K x = K y ∧ x ≤ y)) = true) :=
    List.pairwise_mergeSort (fun a b c h1 h2 => by simp only [decide_eq_true_eq] at *; omega) (fun a b => by simp only [Bool.or_eq_true, decide_eq_true_eq]; omega) _
  have h2 : (gradeL K n).Pairwise (· ≠ ·) := hp.symm.pairwise (upTo_ne n) (fun h => Ne.symm h)
  refine (h1.and h2).imp fun {x y} h => ?_
  have h3 := h.1
  have h4 := h.2
  simp only [decide_eq_true_eq] at h3
  unfold bef
  omega

theorem gradeL_eq {K : Int → Int} {n : Nat} {l : List Int} (h : IsGrade K n l) : gradeL K n = l :=
  rise_unique (gradeL_is K n).2 h.2 ((gradeL_is K n).1.trans h.1.symm)

def gradeA (c : Bool) (sh dt : List Int) (down : Bool) : Ans :=
  if arrOk c sh dt = true then (if sh.length = 1 then ⟨false, sh, gradeL (gradeK down dt) dt.length, 0⟩ else noAns 4) else noAns 3

theorem grade_bad {c : Bool} {sh dt : List Int} {down : Bool} (h : arrOk c sh dt = false) : gradeA c sh dt down = noAns 3 := by unfold gradeA; rw [if_neg (by rw [h]; decide)]
theorem grade_rank {c : Bool} {sh dt : List Int} {down : Bool} (h : arrOk c sh dt = true) (hn : sh.length ≠ 1) : gradeA c sh dt down = noAns 4 := by unfold gradeA; rw [if_pos h, if_neg hn]
theorem grade_go {c : Bool} {sh dt l : List Int} {down : Bool} (h : arrOk c sh dt = true) (hn : sh.length = 1) (hl : IsGrade (gradeK down dt) dt.length l) : gradeA c sh dt down = ⟨false, sh, l, 0⟩ := by unfold gradeA; rw [if_pos h, if_pos hn, gradeL_eq hl]

/-- The shape of a line is its number of elements. -/
theorem line_shape {c : Bool} {sh dt : List Int} (h : arrOk c sh dt = true) (hn : sh.length = 1) : sh = [(dt.length : Int)] := by
  have h1 := (arr_parts h).2
  obtain ⟨x, rfl⟩ : ∃ x, sh = [x] := by
    cases sh with
    | nil => simp at hn
    | cons x t => cases t with
      | nil => exact ⟨x, rfl⟩
      | cons y u => simp at hn
  have h2 := prodAll_count _ (arr_parts h).1
  rw [h1] at h2
  have h3 : prodAll [x] = x := by simp [prodAll]
  rw [← h2, h3]

theorem merged_grade {K : Int → Int} {E : Nat → Int} {n : Nat} (h : Merged K (fun i => (i : Int) + 1) E 0 n) : IsGrade K n ((List.range n).map E) := by
  have e : ∀ D : Nat → Int, seg D 0 n = (List.range n).map D := fun D => by unfold seg; rw [Nat.sub_zero, List.range_eq_range']
  refine ⟨?_, ?_⟩
  · have := h.perm
    rw [e, e] at this
    exact this
  · have := h.rise.pairwise
    rwa [e] at this

end Go.Proofs.YtgjpchnkodnieaaGreatDoor
namespace Go.Proofs.YtgjpchnkodnieaaGreatDoor
open Go.RowKit

set_option maxHeartbeats 400000 in
theorem l4None_any (w : World) : Calls Tryz.prog 53 #[] w fun e w' => e = .returned (.agg #[.bool false, .slice none 0 0, .slice none 0 0]) ∧ Below w.heap.size w w' := by
  go_enter Tryz.func53, Tryz.ntmps53
  go_wp2
  exact bodyPost_ret (v := .agg #[.bool false, .slice none 0 0, .slice none 0 0]) (by simp [results, Tryz.results53, go_sem]) rfl ⟨rfl, (Below.refl _ _).alloc (Nat.le_refl _) _⟩

end Go.Proofs.YtgjpchnkodnieaaGreatDoor
namespace Go.Proofs.YtgjpchnkodnieaaGreatDoor
open Go.RowKit

set_option maxHeartbeats 400000 in
theorem l4Truth_any (b : Bool) (w : World) : Calls Tryz.prog 200 #[.bool b] w fun e w' => e = .returned (.int .i64 (truth b)) ∧ w' = w := by
  cases b
  all_goals
    go_enter Tryz.func200, Tryz.ntmps200
    go_wp2
    go_ret
    exact ⟨rfl, rfl⟩

end Go.Proofs.YtgjpchnkodnieaaGreatDoor
namespace Go.Proofs.YtgjpchnkodnieaaGreatDoor
open Go.RowKit



/-- A scalar function on one number: what it gives and its code. -/
def oneOf (op v : Int) : Int × Int :=
  if op = 1 then (v, 0) else if op = 2 then (-v, 0) else if op = 3 then (truth (decide (0 < v)) - truth (decide (v < 0)), 0)
  else if op = 7 then (if v < 0 then -v else v, 0) else if v ≠ 0 ∧ v ≠ 1 then (0, 3) else (1 - v, 0)

def oneOp (op : Int) : Bool := decide (op = 1 ∨ op = 2 ∨ op = 3 ∨ op = 7 ∨ op = 17)

def scalar1 (op : Int) (c : Bool) (sh dt : List Int) : Ans :=
  if arrOk c sh dt = true ∧ oneOp op = true ∧ c = false ∧ (dt.all fun v => decide ((oneOf op v).2 = 0)) = true then ⟨false, sh, dt.map fun v => (oneOf op v).1, 0⟩ else noAns 3

set_option maxHeartbeats 400000 in
theorem l4One_any (op v : Int) (w : World) (hv : -1000000000000000 ≤ v ∧ v ≤ 1000000000000000) : Calls Tryz.prog 153 #[.int .i64 op, .int .i64 v] w fun e w' => e = .returned (.tuple #[.int .i64 (oneOf op v).1, .int .i64 (oneOf op v).2]) ∧ w' = w := by
  obtain ⟨hv1, hv2⟩ := hv
  by_cases h1 : op = 1
  · subst h1
    have HE : Hid (oneOf 1 v = (v, 0)) := rfl
    go_enter Tryz.func153, Tryz.ntmps153
    go_wp2
    go_ret2
    exact ⟨ret_two (by rw [unhide HE]) (by rw [unhide HE]), rfl⟩
  by_cases h2 : op = 2
  · subst h2
    have HE : Hid (oneOf 2 v = (-v, 0)) := rfl
    go_enter Tryz.func153, Tryz.ntmps153
    go_wp2
    go_ret2
    exact ⟨ret_two (by rw [unhide HE]) (by rw [unhide HE]), rfl⟩
  by_cases h3 : op = 3
  · subst h3
    obtain ⟨r1, hr1⟩ : ∃ r, decide (0 < v) = r := ⟨_, rfl⟩
    obtain ⟨r2, hr2⟩ : ∃ r, decide (v < 0) = r := ⟨_, rfl⟩
    have HE : Hid (oneOf 3 v = (truth r1 - truth r2, 0)) := by show _ = _; rw [← hr1, ← hr2]; rfl
    obtain ⟨b1, b2⟩ := truth_bd r1
    obtain ⟨b3, b4⟩ := truth_bd r2
    go_enter Tryz.func153, Tryz.ntmps153
    go_wp2_with (go_at_call 200; refine (l4Truth_any _ _).mono ?_; rintro e w1 ⟨rfl, rfl⟩)
    go_ret2
    exact ⟨ret_two (by rw [unhide HE]) (by rw [unhide HE]), rfl⟩
  by_cases h7 : op = 7
  · subst h7
    by_cases hn : v < 0
    · have HE : Hid (oneOf 7 v = (-v, 0)) := by show _ = _; simp [oneOf, hn]
      go_enter Tryz.func153, Tryz.ntmps153
      go_wp2
      go_ret2
      exact ⟨ret_two (by rw [unhide HE]) (by rw [unhide HE]), rfl⟩
    · have HE : Hid (oneOf 7 v = (v, 0)) := by show _ = _; simp [oneOf, hn]
      go_enter Tryz.func153, Tryz.ntmps153
      go_wp2
      go_ret2
      exact ⟨ret_two (by rw [unhide HE]) (by rw [unhide HE]), rfl⟩
  have q1 : (op == 1) = false := by simp [h1]
  have q2 : (op == 2) = false := by simp [h2]
  have q3 : (op == 3) = false := by simp [h3]
  have q7 : (op == 7) = false := by simp [h7]
  by_cases hv0 : v = 0
  · subst hv0
    have HE : Hid (oneOf op 0 = (1, 0)) := by show _ = _; simp [oneOf, h1, h2, h3, h7]
    clear h1 h2 h3 h7
    go_enter Tryz.func153, Tryz.ntmps153
    go_wp2
    go_ret2
    exact ⟨ret_two (by rw [unhide HE]) (by rw [unhide HE]), rfl⟩
  by_cases hv3 : v = 1
  · subst hv3
    have HE : Hid (oneOf op 1 = (0, 0)) := by show _ = _; simp [oneOf, h1, h2, h3, h7]
    clear h1 h2 h3 h7
    go_enter Tryz.func153, Tryz.ntmps153
    go_wp2
    go_ret2
    exact ⟨ret_two (by rw [unhide HE]) (by rw [unhide HE]), rfl⟩
  have HE : Hid (oneOf op v = (0, 3)) := by show _ = _; simp [oneOf, h1, h2, h3, h7, hv0, hv3]
  have u0 : (v != 0) = true := by simp [hv0]
  have u1 : (v != 1) = true := by simp [hv3]
  clear h1 h2 h3 h7 hv0 hv3
  go_enter Tryz.func153, Tryz.ntmps153
  go_wp2
  go_ret2
  exact ⟨ret_two (by rw [unhide HE]) (by rw [unhide HE]), rfl⟩

end Go.Proofs.YtgjpchnkodnieaaGreatDoor
namespace Go.Proofs.YtgjpchnkodnieaaGreatDoor

/-- The numbers n, n - 1, .. down to 1. -/
def downTo (n : Nat) : List Int := (List.range n).map fun i => ((n - i : Nat) : Int)
theorem downTo_len (n : Nat) : (downTo n).length = n := by simp [downTo]

def iotaA (c : Bool) (dt : List Int) : Ans :=
  if singleCode c dt.length ≠ 0 then noAns (singleCode c dt.length) else if dt.getD 0 0 < 0 then noAns 3 else if 10000 < dt.getD 0 0 then noAns 7
  else ⟨false, [dt.getD 0 0], upTo (dt.getD 0 0).toNat, 0⟩

/-- What Monad means. -/
def monadA (op : Int) (c : Bool) (sh dt : List Int) : Ans :=
  if arrOk c sh dt = true ∧ 1 ≤ op ∧ op ≤ 33 then
    if oneOp op = true then scalar1 op c sh dt
    else if op = 18 then ⟨false, [(sh.length : Int)], sh, 0⟩
    else if op = 19 then iotaA c dt
    else if op = 20 ∨ op = 28 then ⟨c, [(dt.length : Int)], dt, 0⟩
    else if op = 21 then revA c sh dt false
    else if op = 22 then revA c sh dt true
    else if op = 23 then transpose false c [(sh.length : Int)] (downTo sh.length) sh dt
    else if op = 24 then ⟨c, [], [if dt = [] then fillOf c else dt.getD 0 0], 0⟩
    else if op = 26 then gradeA c sh dt false
    else if op = 27 then gradeA c sh dt true
    else if op = 33 then ⟨false, [], [if sh = [] then 1 else sh.getD 0 0], 0⟩
    else noAns 1
  else noAns 3

section
variable {op : Int} {c : Bool} {sh dt : List Int}
theorem mon_bad (h : ¬ (arrOk c sh dt = true ∧ 1 ≤ op ∧ op ≤ 33)) : monadA op c sh dt = noAns 3 := by unfold monadA; rw [if_neg h]
theorem mon_one (h : arrOk c sh dt = true) (ho : op = 1 ∨ op = 2 ∨ op = 3 ∨ op = 7 ∨ op = 17) : monadA op c sh dt = scalar1 op c sh dt := by
  unfold monadA; rw [if_pos ⟨h, by omega, by omega⟩, if_pos (show oneOp op = true from decide_eq_true ho)]
theorem mon_is (h : arrOk c sh dt = true) (h1 : 1 ≤ op ∧ op ≤ 33) (ho : oneOp op = false) : monadA op c sh dt = (if op = 18 then ⟨false, [(sh.length : Int)], sh, 0⟩
    else if op = 19 then iotaA c dt
    else if op = 20 ∨ op = 28 then ⟨c, [(dt.length : Int)], dt, 0⟩
    else if op = 21 then revA c sh dt false
    else if op = 22 then revA c sh dt true
    else if op = 23 then transpose false c [(sh.length : Int)] (downTo sh.length) sh dt
    else if op = 24 then ⟨c, [], [if dt = [] then fillOf c else dt.getD 0 0], 0⟩
    else if op = 26 then gradeA c sh dt false
    else if op = 27 then gradeA c sh dt true
    else if op = 33 then ⟨false, [], [if sh = [] then 1 else sh.getD 0 0], 0⟩
    else noAns 1) := by unfold monadA; rw [if_pos ⟨h, h1⟩, if_neg (by rw [ho]; decide)]
end

end Go.Proofs.YtgjpchnkodnieaaGreatDoor
namespace Go.Proofs.YtgjpchnkodnieaaGreatDoor

theorem vals_set (f : Nat → Int × Int) (m k : Nat) : (vals f k ++ List.replicate (m + 1) (0 : Int)).set k (f k).1 = vals f (k + 1) ++ List.replicate m 0 := by
  have hk : (vals f k).length = k := vals_len f k
  rw [List.replicate_succ, List.set_append_right _ _ (by omega), hk, Nat.sub_self, List.set_cons_zero]
  simp [vals, List.range_succ]

theorem vals_pre_len (f : Nat → Int × Int) (n k : Nat) (h : k ≤ n) : (vals f k ++ List.replicate (n - k) (0 : Int)).length = n := by
  simp [vals_len]; omega

end Go.Proofs.YtgjpchnkodnieaaGreatDoor
namespace Go.Proofs.YtgjpchnkodnieaaGreatDoor
open Go.RowKit

/-- The two sentinels lie as their initialisers lay them: errNoResult points to a, errTooGreat to b. -/
structure Gl (w : World) (a b : Addr) : Prop where
  no : w.cell? ⟨2, 0, none⟩ = some (.iface 278 (.pointer (some a)))
  big : w.cell? ⟨1, 0, none⟩ = some (.iface 278 (.pointer (some b)))
  ne : a ≠ b
  rowA : ∃ ca ta, w.heap[a.block]? = some (.cells ca ta (0, 0))
  rowB : ∃ cb tb, w.heap[b.block]? = some (.cells cb tb (0, 0))

theorem Gl.below {w w' : World} {a b : Addr} (h : Gl w a b) (hb : Below w.heap.size w w') : Gl w' a b := by
  obtain ⟨h1, h2, h3, ⟨ca, ta, h4⟩, ⟨cb, tb, h5⟩⟩ := h
  exact ⟨(hb.cell (p := ⟨2, 0, none⟩) (World.block_lt_of_cell? _ _ h1)).trans h1, (hb.cell (p := ⟨1, 0, none⟩) (World.block_lt_of_cell? _ _ h2)).trans h2, h3,
    ⟨ca, ta, (hb.block _ (lt_of_block h4)).trans h4⟩, ⟨cb, tb, (hb.block _ (lt_of_block h5)).trans h5⟩⟩

theorem Gl.alloc {w : World} {a b : Addr} (h : Gl w a b) (o : Obj) : Gl (w.alloc o) a b := h.below ((Below.refl _ _).alloc (Nat.le_refl _) _)
theorem Gl.drewN {w : World} {a b : Addr} (h : Gl w a b) (q : Nat) : Gl (w.drewN q) a b := h.below (Below.drewN (Below.refl _ _) _)

/-- What an axis of no elements gives for the ops 1 to 16. -/
def emptyTab : List Int := [0, 0, 1, 1, 1000000000000000, -1000000000000000, 0, 1, 1, 0, 0, 1, 1, 0, 1, 0]

/-- The sentinels and the table emptyFolds lie as laid. -/
structure GlF (w : World) (a b : Addr) : Prop where
  gl : Gl w a b
  tab : ∀ i, i < 16 → w.cell? ⟨0, i, none⟩ = some (.int .i64 (emptyTab.getD i 0))

theorem GlF.below {w w' : World} {a b : Addr} (h : GlF w a b) (hb : Below w.heap.size w w') : GlF w' a b :=
  ⟨h.gl.below hb, fun i hi => (hb.cell (p := ⟨0, i, none⟩) (World.block_lt_of_cell? _ _ (h.tab i hi))).trans (h.tab i hi)⟩
theorem GlF.alloc {w : World} {a b : Addr} (h : GlF w a b) (o : Obj) : GlF (w.alloc o) a b := h.below ((Below.refl _ _).alloc (Nat.le_refl _) _)

/-- What an element's function gives for a code: nil, errTooGreat or errNoResult. -/
def errV (a b : Addr) (code : Int) : Value := if code = 0 then .nilIface else if code = 7 then .iface 278 (.pointer (some b)) else .iface 278 (.pointer (some a))

theorem errV_0 (a b : Addr) : errV a b 0 = .nilIface := rfl
theorem errV_7 (a b : Addr) : errV a b 7 = .iface 278 (.pointer (some b)) := rfl
theorem errV_3 (a b : Addr) : errV a b 3 = .iface 278 (.pointer (some a)) := rfl

/-- The codes that elements can have. -/
def codeIn (code : Int) : Prop := code = 0 ∨ code = 3 ∨ code = 7

end Go.Proofs.YtgjpchnkodnieaaGreatDoor
namespace Go.Proofs.YtgjpchnkodnieaaGreatDoor
open Go.RowKit Go.Extern.Stop Go.Stop Go.Extern

theorem is_typeOf (v : Value) (w : World) : (Extern.ReflectliteType.typeOf #[.iface 278 v]).run Tryz.prog w = .ok (.iface 253 (.agg #[.pointer (some ⟨3, 278, none⟩)])) w := by kernel_rfl
/-- The model's entry for (rtype).Comparable, under a name of its own. -/
def cmpEntry : Array Value → Sem Value := Extern.ReflectliteType.method fun t => do Extern.Rtype.noPackHeld "Comparable" t; pure (.bool (← typeInfo t).comparable)
theorem is_comparable (w : World) : (cmpEntry #[.agg #[.pointer (some ⟨3, 278, none⟩)]]).run Tryz.prog w = .ok (.bool true) w := by kernel_rfl
theorem is_methodComparable (v : Value) (w : World) : (Go.method 414 253 v "Comparable").run Tryz.prog w = .ok (358, v) w := by kernel_rfl
theorem is_comp : (Tryz.prog.info? 278).map (·.comparable) = some true := by kernel_rfl
theorem is_size : (Tryz.prog.info? 302).map (·.size) = some 1 := by kernel_rfl
theorem is_noIs (v : Value) (xT : TypeId) (w : World) : (Instr.typeAssert (.iface 278 v) xT 255 true).run Tryz.prog w = .ok (.tuple #[.nilIface, .bool false]) w := run_typeAssert_lacksB Tryz.underlying255 (by kernel_rfl) (by kernel_rfl) v xT w
theorem is_noUnwrap (v : Value) (xT : TypeId) (w : World) : (Instr.typeAssert (.iface 278 v) xT 258 true).run Tryz.prog w = .ok (.tuple #[.nilIface, .bool false]) w := run_typeAssert_lacksB Tryz.underlying258 (by kernel_rfl) (by kernel_rfl) v xT w
theorem is_noUnwraps (v : Value) (xT : TypeId) (w : World) : (Instr.typeAssert (.iface 278 v) xT 260 true).run Tryz.prog w = .ok (.tuple #[.nilIface, .bool false]) w := run_typeAssert_lacksB Tryz.underlying260 (by kernel_rfl) (by kernel_rfl) v xT w

/-- errors.Is(x, x), x a pointer to an errors.errorString. -/
theorem is_same (a : Addr) (w : World) :
    Calls Tryz.prog 258 #[.iface 278 (.pointer (some a)), .iface 278 (.pointer (some a))] w fun e w' => e = .returned (.bool true) ∧ w' = w := by
  obtain ⟨i, hi, hcmp⟩ := Option.map_eq_some_iff.1 is_comp
  obtain ⟨j, hj, hjs⟩ := Option.map_eq_some_iff.1 is_size
  have h8 := @run_callFunc_extern Tryz.prog 284 _ Extern.ReflectliteType.typeOf Tryz.func284 (by kernel_rfl) (by kernel_rfl) (by kernel_rfl) (by kernel_rfl)
  have h32 := @run_callFunc_extern Tryz.prog 358 _ cmpEntry Tryz.func358 (by kernel_rfl) (by kernel_rfl) (by kernel_rfl) (by kernel_rfl)
  have tT := is_typeOf
  have cT := is_comparable
  have mR := is_methodComparable
  have heq := run_eql_iface_ptr_same (P := Tryz.prog) w a Tryz.underlying143 Tryz.underlying278 hi hcmp hj
  go_enter Tryz.func258, Tryz.ntmps258
  go_wp2
  refine wp_loop_rounds 1 ?_
  rw [rounds_succ]
  go_wp2
  go_ret
  exact ⟨rfl, rfl⟩

/-- errors.Is(x, y), two different pointers to errors.errorString. -/
theorem is_other (a b : Addr) (ca cb : Array Value) (ta tb : TypeId) (w : World) (hne : a ≠ b) (ha : w.heap[a.block]? = some (.cells ca ta (0, 0))) (hb : w.heap[b.block]? = some (.cells cb tb (0, 0))) :
    Calls Tryz.prog 258 #[.iface 278 (.pointer (some a)), .iface 278 (.pointer (some b))] w fun e w' => e = .returned (.bool false) ∧ w' = w := by
  obtain ⟨i, hi, hcmp⟩ := Option.map_eq_some_iff.1 is_comp
  obtain ⟨j, hj, hjs⟩ := Option.map_eq_some_iff.1 is_size
  have h8 := @run_callFunc_extern Tryz.prog 284 _ Extern.ReflectliteType.typeOf Tryz.func284 (by kernel_rfl) (by kernel_rfl) (by kernel_rfl) (by kernel_rfl)
  have h32 := @run_callFunc_extern Tryz.prog 358 _ cmpEntry Tryz.func358 (by kernel_rfl) (by kernel_rfl) (by kernel_rfl) (by kernel_rfl)
  have tT := is_typeOf
  have cT := is_comparable
  have mR := is_methodComparable
  have nE := is_noIs
  have uE := is_noUnwrap
  have vE := is_noUnwraps
  have heq := run_eql_iface_ptr_other (P := Tryz.prog) w Tryz.underlying143 Tryz.underlying278 hi hcmp hj (by rw [hjs]; decide) hne ha hb
  go_enter Tryz.func258, Tryz.ntmps258
  go_wp2
  refine wp_loop_rounds 1 ?_
  rw [rounds_succ]
  go_wp2
  go_ret
  exact ⟨rfl, rfl⟩

set_option maxHeartbeats 400000 in
theorem codeOf_big (a b : Addr) (w : World) (hG : Gl w a b) : Calls Tryz.prog 190 #[errV a b 7] w fun e w' => e = .returned (.int .i64 7) ∧ w' = w := by
  have hc := hG.big
  rw [errV_7]
  go_enter Tryz.func190, Tryz.ntmps190
  go_wp2_with (go_at_call 258; refine (is_same b _).mono ?_; rintro e w' ⟨rfl, rfl⟩)
  go_ret
  exact ⟨rfl, rfl⟩

set_option maxHeartbeats 400000 in
theorem codeOf_no (a b : Addr) (w : World) (hG : Gl w a b) : Calls Tryz.prog 190 #[errV a b 3] w fun e w' => e = .returned (.int .i64 3) ∧ w' = w := by
  have hc := hG.big
  obtain ⟨ca, ta, h4⟩ := hG.rowA
  obtain ⟨cb, tb, h5⟩ := hG.rowB
  have HN := hide hG.ne
  have H4 := hide h4
  have H5 := hide h5
  clear h4 h5 hG
  rw [errV_3]
  go_enter Tryz.func190, Tryz.ntmps190
  go_wp2_with (go_at_call 258; refine (is_other a b _ _ _ _ _ (unhide HN) (unhide H4) (unhide H5)).mono ?_; rintro e w' ⟨rfl, rfl⟩)
  go_ret
  exact ⟨rfl, rfl⟩

theorem codeOf_any (a b : Addr) (code : Int) (w : World) (hG : Gl w a b) (hc : codeIn code) (h0 : code ≠ 0) : Calls Tryz.prog 190 #[errV a b code] w fun e w' => e = .returned (.int .i64 code) ∧ w' = w := by
  rcases hc with h | rfl | rfl
  · exact absurd h h0
  · exact codeOf_no a b w hG
  · exact codeOf_big a b w hG

end Go.Proofs.YtgjpchnkodnieaaGreatDoor
namespace Go.Proofs.YtgjpchnkodnieaaGreatDoor
open Go.RowKit Go.Shelf

/-- The function value (g, lb) gives at each place below n what f says, in whatever world holds what lay in w. -/
def ElemOk (a b : Addr) (g : Nat) (lb : Array Value) (f : Nat → Int × Int) (n : Nat) (w : World) : Prop :=
  ∀ k, k < n → ∀ W, Below w.heap.size w W → Calls Tryz.prog g (#[.int .i64 (k : Nat)] ++ lb) W fun e w' => e = .returned (.tuple #[.int .i64 (f k).1, errV a b (f k).2]) ∧ Below W.heap.size W w'

theorem ElemOk.low {a b : Addr} {g : Nat} {lb : Array Value} {f : Nat → Int × Int} {n : Nat} {w w1 : World} (h : ElemOk a b g lb f n w) (hb : Below w.heap.size w w1) : ElemOk a b g lb f n w1 :=
  fun k hk W hW => h k hk W (hb.trans (hW.mono hb.size))

theorem neq_nil_nil (w : World) : (binOp .neq 143 .nilIface .nilIface).run Tryz.prog w = .ok (.bool false) w := by kernel_rfl

set_option maxHeartbeats 2000000 in
theorem listOf_any (a b : Addr) (g : Nat) (lb : Array Value) (eg : ∀ args w, (callFunc g args).run Tryz.prog w = .ok (.enter g args) w) (f : Nat → Int × Int) (n : Nat) (w : World) (hn : n ≤ 17592186044416) (hf : ∀ k, k < n → codeIn (f k).2) (hE : ElemOk a b g lb f n w) :
    Calls Tryz.prog 121 #[.int .i64 (n : Nat), .func (.func g) #[] lb] w fun e w' =>
      ((firstCode f n = 0 ∧ e = .returned (.tuple #[.slice (some ⟨w.heap.size, 0, none⟩) n n, .nilIface]) ∧ Blk w' w.heap.size (vals f n)) ∨ (firstCode f n ≠ 0 ∧ codeIn (firstCode f n) ∧ e = .returned (.tuple #[.slice none 0 0, errV a b (firstCode f n)]))) ∧ Below w.heap.size w w' := by
  have HE := hide hE
  have HF := hide hf
  clear hE hf
  obtain ⟨i0, hi, hz0, hz1, hz2⟩ := info_parts info_int
  go_enter Tryz.func121, Tryz.ntmps121
  go_wp2_with (at_make; refine wpList_make_full _ rfl _ _ 23 rfl w.heap.size 3 i0 (.int .i64 0) 1 Tryz.underlying23 hi hz0 hz1 _ _ _ _ n rfl rfl rfl rfl (by rw [hz2]; omega) (by unfold maxLen; omega) (Nat.le_refl _) ?_; intro w1 hown hgrow)
  have hblk : Blk w1 w.heap.size (vals f 0 ++ List.replicate (n - 0) 0) := Blk.of_owns (n := n) (base := w.heap.size) (by simpa [toList_madeCells_one, Value.cells, vals] using hown)
  have hbel : Below w.heap.size w w1 := (Below.refl _ _).grown hgrow (Nat.le_refl _) (by simp)
  clear hown hgrow hi hz0 hz1 hz2
  have HBK := hide hblk
  have HBL := hide hbel
  clear hblk hbel
  go_wp2
  go_loopw [7, 8, 9, 14] (fun _ _ _ i wr => ∃ k : Nat, k ≤ n ∧ i = .int .i64 k ∧ Hid (Blk wr w.heap.size (vals f k ++ List.replicate (n - k) 0)) ∧ Hid (Below w.heap.size w wr) ∧ Hid (firstCode f k = 0)) (fun _ _ _ i _ => n - (intOf i).toNat)
  case atStart => exact ⟨0, Nat.zero_le _, rfl, HBK, HBL, rfl⟩
  case round =>
    obtain ⟨k, hk, rfl, hb, hbl, hfc⟩ := hrel
    clear HBK HBL w1
    by_cases hlt : k < n
    · obtain ⟨r, hr⟩ : ∃ r, r = f k := ⟨_, rfl⟩
      obtain ⟨r1, r2⟩ := r
      have hcall := unhide HE k hlt wr (unhide hbl)
      rw [← hr] at hcall
      have hcode := unhide HF k hlt
      rw [← hr] at hcode
      have HR := hide hr
      clear hr
      by_cases h0 : r2 = 0
      · subst h0
        clear hcode
        rw [errV_0] at hcall
        have hnn := neq_nil_nil
        go_wp2_with (go_at_fn g; refine hcall.mono ?_; rintro e w2 ⟨rfl, hb2⟩; have HB := hide ((unhide hb).below (Nat.le_refl _) hb2); have HL := hide ((unhide hbl).trans (hb2.mono (unhide hbl).size)); have hc2 := (unhide HB).cell (i := k) (by simp [vals_len]; omega); have hf2 := (unhide HB).free k; clear hb2)
        have HS : Hid (Blk (w2.setCell ⟨w.heap.size, k, none⟩ (.int .i64 r1)) w.heap.size (vals f (k + 1) ++ List.replicate (n - (k + 1)) 0)) := by
          have hs := (unhide HB).set k r1
          have e : n - k = n - (k + 1) + 1 := by omega
          have e1 : r1 = (f k).1 := by rw [← unhide HR]
          rw [e] at hs
          rw [e1] at hs ⊢
          rw [vals_set] at hs
          exact hs
        go_roundw
        case rel => exact ⟨k + 1, by omega, by go_num, HS, (unhide HL).setCell (Nat.le_refl _) _, code_step (unhide hfc) (by rw [← unhide HR])⟩
        case measure => simp [intOf]; omega
      · have HC : Hid (firstCode f n = r2) := by
          show _ = _
          have e2 : (f k).2 = r2 := by rw [← unhide HR]
          rw [code_found (unhide hfc) hlt (by rw [e2]; exact h0), e2]
        have HI := hide hcode
        have HZ := hide h0
        have hrv : ∃ p, errV a b r2 = .iface 278 (.pointer (some p)) := by
          rcases hcode with h | rfl | rfl
          · exact absurd h h0
          · exact ⟨a, rfl⟩
          · exact ⟨b, rfl⟩
        obtain ⟨p, hp⟩ := hrv
        rw [hp] at hcall
        have HP := hide hp
        clear hcode h0 hp
        go_wp2_with (go_at_fn g; refine hcall.mono ?_; rintro e w2 ⟨rfl, hb2⟩; have HL := hide ((unhide hbl).trans (hb2.mono (unhide hbl).size)); clear hb2)
        go_ret2
        refine ⟨.inr ⟨by rw [unhide HC]; exact unhide HZ, by rw [unhide HC]; exact unhide HI, ?_⟩, unhide HL⟩
        rw [unhide HC, unhide HP]
        rfl
    · have hkn : k = n := by omega
      subst hkn
      go_wp2
      go_ret2
      exact ⟨.inl ⟨unhide hfc, rfl, by simpa using unhide hb⟩, unhide hbl⟩

end Go.Proofs.YtgjpchnkodnieaaGreatDoor
namespace Go.Proofs.YtgjpchnkodnieaaGreatDoor
open Go.RowKit

def withinB (v lo hi : Int) : Bool := decide (lo ≤ v ∧ v ≤ hi)

set_option maxHeartbeats 400000 in
theorem isWithin_any (v lo hi : Int) (w : World) : Calls Tryz.prog 50 #[.int .i64 v, .int .i64 lo, .int .i64 hi] w fun e w' => e = .returned (.bool (withinB v lo hi)) ∧ w' = w := by
  by_cases h1 : lo ≤ v
  · by_cases h2 : v ≤ hi
    · have HE : Hid (withinB v lo hi = true) := decide_eq_true ⟨h1, h2⟩
      go_enter Tryz.func50, Tryz.ntmps50
      go_wp2
      go_ret
      exact ⟨ret_bool HE.out.symm, rfl⟩
    · have HE : Hid (withinB v lo hi = false) := decide_eq_false (fun h => by omega)
      go_enter Tryz.func50, Tryz.ntmps50
      go_wp2
      go_ret
      exact ⟨ret_bool HE.out.symm, rfl⟩
  · have HE : Hid (withinB v lo hi = false) := decide_eq_false (fun h => by omega)
    go_enter Tryz.func50, Tryz.ntmps50
    go_wp2
    go_ret
    exact ⟨ret_bool HE.out.symm, rfl⟩

theorem isWithin_eq (v lo hi : Int) (w : World) (b : Bool) (h : Hid (withinB v lo hi = b)) : Calls Tryz.prog 50 #[.int .i64 v, .int .i64 lo, .int .i64 hi] w fun e w' => e = .returned (.bool b) ∧ w' = w := by
  rw [← h.out]; exact isWithin_any v lo hi w

set_option maxHeartbeats 1000000 in
theorem shapeOk_any (a : Option Addr) (n cap : Nat) (sh : List Int) (w : World) (h : Row w a n sh) : Calls Tryz.prog 114 #[.slice a n cap] w fun e w' => e = .returned (.bool (shapeB sh)) ∧ w' = w := by
  have hlen := hide h.len
  have hsm := h.small
  have H := hide h
  clear h
  by_cases h5 : 5 < n
  · have HE := hide (shape_long (unhide hlen) h5)
    go_enter Tryz.func114, Tryz.ntmps114
    go_wp2
    go_ret
    exact ⟨ret_bool HE.out.symm, rfl⟩
  · go_enter Tryz.func114, Tryz.ntmps114
    go_wp2
    go_loop [3, 5, 11] (fun p _ i => ∃ (k : Nat) (m : Int), k ≤ n ∧ i = .int .i64 k ∧ p = .int .i64 m ∧ Hid ((sh.take k).all inCells = true) ∧ Hid (prodFrom (sh.take k) 1 = some m)) (fun _ _ i => n - (intOf i).toNat)
    case atStart => exact ⟨0, 1, Nat.zero_le _, rfl, rfl, rfl, rfl⟩
    case round =>
      obtain ⟨k, m, hk, rfl, rfl, hall, hp⟩ := hrel
      have hmb := prodFrom_bd (sh.take k) 1 m (unhide hall) (by omega) (by omega) (unhide hp)
      obtain ⟨hm1, hm2⟩ := hmb
      by_cases hlt : k < n
      · obtain ⟨b, off, rfl, hblt, hc⟩ := (unhide H).get hlt
        have hks : Hid (k < sh.length) := by show k < sh.length; rw [unhide hlen]; exact hlt
        obtain ⟨x, hx⟩ : ∃ x, x = sh.getD k 0 := ⟨_, rfl⟩
        rw [← hx] at hc
        have HX := hide hx
        clear hx
        by_cases hin : 0 ≤ x ∧ x ≤ 10000
        · have HW : Hid (withinB x 0 10000 = true) := decide_eq_true hin
          have HA : Hid ((sh.take (k + 1)).all inCells = true) := all_step sh inCells k (unhide hks) (unhide hall) (by rw [← unhide HX]; exact decide_eq_true hin)
          obtain ⟨hx0, hx1⟩ := hin
          by_cases h0 : x = 0
          · have HP := hide (prod_step0 sh k (unhide hks) m (unhide hp) (by rw [← unhide HX]; exact h0))
            subst h0
            have hw : wrap64 (m * (if (0 : Int) < 1 then 1 else 0)) = m := by rw [if_pos (by omega), Int.mul_one]; exact (by unfold wrap64; omega)
            go_wp2_with (go_at_call 50; refine (isWithin_eq _ _ _ _ true HW).mono ?_; rintro e w' ⟨rfl, rfl⟩)
            go_round
            case rel => exact ⟨k + 1, m, by omega, by go_num, rfl, HA, HP⟩
            case measure => simp [intOf]; omega
          · have hx2 : ¬ x < 1 := by omega
            have hmx : m * x ≤ 10000 * 10000 := Int.mul_le_mul hm2 hx1 hx0 (by omega)
            have hmx0 : 0 ≤ m * x := Int.mul_nonneg (by omega) hx0
            have hw : wrap64 (m * x) = m * x := (by unfold wrap64; omega)
            by_cases hbig : 10000 < m * x
            · have HE : Hid (shapeB sh = false) := shape_bad (count_big sh (prod_none sh k (unhide hks) m (unhide hp) (by rw [← unhide HX]; exact h0) (by rw [← unhide HX]; exact hbig)))
              clear h0
              go_wp2_with (go_at_call 50; refine (isWithin_eq _ _ _ _ true HW).mono ?_; rintro e w' ⟨rfl, rfl⟩)
              go_ret
              exact ⟨ret_bool HE.out.symm, rfl⟩
            · have HP := hide (prod_step sh k (unhide hks) m (unhide hp) (by rw [← unhide HX]; exact h0) (by rw [← unhide HX]; omega))
              rw [← unhide HX] at HP
              clear h0
              go_wp2_with (go_at_call 50; refine (isWithin_eq _ _ _ _ true HW).mono ?_; rintro e w' ⟨rfl, rfl⟩)
              go_round
              case rel => exact ⟨k + 1, m * x, by omega, by go_num, rfl, HA, HP⟩
              case measure => simp [intOf]; omega
        · have HW : Hid (withinB x 0 10000 = false) := decide_eq_false hin
          have HE : Hid (shapeB sh = false) := shape_bad (count_bad sh (all_not sh inCells k (unhide hks) (by rw [← unhide HX]; exact decide_eq_false hin)))
          clear hin
          go_wp2_with (go_at_call 50; refine (isWithin_eq _ _ _ _ false HW).mono ?_; rintro e w' ⟨rfl, rfl⟩)
          go_ret
          exact ⟨ret_bool HE.out.symm, rfl⟩
      · have htk : sh.take k = sh := List.take_of_length_le (by rw [unhide hlen]; omega)
        have HE := hide (shape_good (unhide hlen) (by omega) m (by have := unhide hall; rwa [htk] at this) (by have := unhide hp; rwa [htk] at this))
        clear htk
        go_wp2
        go_ret
        exact ⟨ret_bool HE.out.symm, rfl⟩

theorem shapeOk_eq (a : Option Addr) (n cap : Nat) (sh : List Int) (w : World) (h : Row w a n sh) (r : Bool) (hr : Hid (shapeB sh = r)) : Calls Tryz.prog 114 #[.slice a n cap] w fun e w' => e = .returned (.bool r) ∧ w' = w := by
  rw [← hr.out]; exact shapeOk_any a n cap sh w h

set_option maxHeartbeats 400000 in
theorem cellsOf_any (a : Option Addr) (n cap : Nat) (sh : List Int) (w : World) (h : Row w a n sh) (hb : ∀ k, 0 ≤ prodAll (sh.take k) ∧ prodAll (sh.take k) ≤ 10000) : Calls Tryz.prog 116 #[.slice a n cap] w fun e w' => e = .returned (.int .i64 (prodAll sh)) ∧ w' = w := by
  have hlen := hide h.len
  have hsm := h.small
  have H := hide h
  have HB := hide hb
  clear h hb
  go_enter Tryz.func116, Tryz.ntmps116
  go_wp2
  go_loop [3, 5, 8] (fun p _ i => ∃ (k : Nat) (m : Int), k ≤ n ∧ i = .int .i64 k ∧ p = .int .i64 m ∧ Hid (prodAll (sh.take k) = m)) (fun _ _ i => n - (intOf i).toNat)
  case atStart => exact ⟨0, 1, Nat.zero_le _, rfl, rfl, rfl⟩
  case round =>
    obtain ⟨k, m, hk, rfl, rfl, hp⟩ := hrel
    by_cases hlt : k < n
    · obtain ⟨b, off, rfl, hblt, hc⟩ := (unhide H).get hlt
      have hks : Hid (k < sh.length) := by show k < sh.length; rw [unhide hlen]; exact hlt
      obtain ⟨x, hx⟩ : ∃ x, x = sh.getD k 0 := ⟨_, rfl⟩
      have HP : Hid (prodAll (sh.take (k + 1)) = m * x) := by show _ = _; rw [prodAll_snoc sh k (unhide hks), unhide hp, hx]
      have hpb := unhide HB (k + 1)
      rw [unhide HP] at hpb
      obtain ⟨hb0, hb1⟩ := hpb
      rw [← hx] at hc
      clear hx
      go_wp2
      go_round
      case rel => exact ⟨k + 1, m * x, by omega, by go_num, rfl, HP⟩
      case measure => simp [intOf]; omega
    · have HE : Hid (prodAll sh = m) := by have := unhide hp; rwa [List.take_of_length_le (by rw [unhide hlen]; omega)] at this
      go_wp2
      go_ret
      exact ⟨ret_int HE.out.symm, rfl⟩

theorem cellsOf_count (a : Option Addr) (n cap : Nat) (sh : List Int) (w : World) (h : Row w a n sh) (hs : shapeB sh = true) (cn : Int) (hc : Hid (countOf sh = cn)) : Calls Tryz.prog 116 #[.slice a n cap] w fun e w' => e = .returned (.int .i64 cn) ∧ w' = w := by
  rw [← hc.out, ← prodAll_count sh hs]; exact cellsOf_any a n cap sh w h (prodAll_bd sh hs)

end Go.Proofs.YtgjpchnkodnieaaGreatDoor
namespace Go.Proofs.YtgjpchnkodnieaaGreatDoor
open Go.RowKit

set_option maxHeartbeats 400000 in
theorem isNumber_any (v : Int) (w : World) : Calls Tryz.prog 215 #[.int .i64 v] w fun e w' => e = .returned (.bool (dataOk false v)) ∧ w' = w := by
  have HE : Hid (dataOk false v = withinB v (-1000000000000000) 1000000000000000) := by show _ = _; unfold dataOk withinB; simp
  go_enter Tryz.func215, Tryz.ntmps215
  go_wp2_with (go_at_call 50; refine (isWithin_any _ _ _ _).mono ?_; rintro e w' ⟨rfl, rfl⟩)
  go_ret
  exact ⟨ret_bool HE.out.symm, rfl⟩

set_option maxHeartbeats 400000 in
theorem ValidRune_any (v : Int) (w : World) (h0 : 0 ≤ v) (h1 : v ≤ 1114111) : Calls Tryz.prog 266 #[.int .i32 v] w fun e w' => e = .returned (.bool (runeOk v)) ∧ w' = w := by
  by_cases h3 : v < 55296
  · have HE : Hid (runeOk v = true) := decide_eq_true ⟨h0, h1, .inl h3⟩
    go_enter Tryz.func266, Tryz.ntmps266
    go_wp2
    go_ret
    exact ⟨ret_bool HE.out.symm, rfl⟩
  · by_cases h4 : 57343 < v
    · have HE : Hid (runeOk v = true) := decide_eq_true ⟨h0, h1, .inr h4⟩
      go_enter Tryz.func266, Tryz.ntmps266
      go_wp2
      go_ret
      exact ⟨ret_bool HE.out.symm, rfl⟩
    · have HE : Hid (runeOk v = false) := decide_eq_false (fun h => by omega)
      go_enter Tryz.func266, Tryz.ntmps266
      go_wp2
      go_ret
      exact ⟨ret_bool HE.out.symm, rfl⟩

theorem wrap32 (v : Int) (h0 : 0 ≤ v) (h1 : v ≤ 1114111) : IntKind.i32.wrap v = v := by
  unfold IntKind.wrap; simp [IntKind.bits, IntKind.signed]; omega

set_option maxHeartbeats 400000 in
theorem isCharacter_any (v : Int) (w : World) : Calls Tryz.prog 216 #[.int .i64 v] w fun e w' => e = .returned (.bool (dataOk true v)) ∧ w' = w := by
  by_cases h : 0 ≤ v ∧ v ≤ 1114111
  · obtain ⟨h0, h1⟩ := h
    have HE : Hid (dataOk true v = runeOk v) := by show _ = _; unfold dataOk; rw [decide_eq_true (by omega)]; simp
    have HW : Hid (withinB v 0 1114111 = true) := decide_eq_true ⟨h0, h1⟩
    have hw := wrap32 v h0 h1
    go_enter Tryz.func216, Tryz.ntmps216
    go_wp2_with (first | (go_at_call 50; refine (isWithin_eq _ _ _ _ true HW).mono ?_; rintro e w' ⟨rfl, rfl⟩) | (go_at_call 266; refine (ValidRune_any _ _ h0 h1).mono ?_; rintro e w' ⟨rfl, rfl⟩))
    go_ret
    exact ⟨ret_bool HE.out.symm, rfl⟩
  · have HE : Hid (dataOk true v = false) := by show _ = _; unfold dataOk runeOk; rw [decide_eq_false (p := 0 ≤ v ∧ _ ∧ _) (by omega)]; simp
    have HW : Hid (withinB v 0 1114111 = false) := decide_eq_false h
    clear h
    go_enter Tryz.func216, Tryz.ntmps216
    go_wp2_with (go_at_call 50; refine (isWithin_eq _ _ _ _ false HW).mono ?_; rintro e w' ⟨rfl, rfl⟩)
    go_ret
    exact ⟨ret_bool HE.out.symm, rfl⟩

end Go.Proofs.YtgjpchnkodnieaaGreatDoor
namespace Go.Proofs.YtgjpchnkodnieaaGreatDoor
open Go.RowKit Go.Shelf

/-- What reckoned answers: the shape that it was given and new elements, or nothing and the first code. -/
def Reck (w : World) (f : Nat → Int × Int) (n : Nat) (a1 : Option Addr) (n1 c1 : Nat) (e : Ending) (w' : World) : Prop :=
  ((firstCode f n = 0 ∧ ∃ p, w.heap.size ≤ p ∧ e = .returned (.tuple #[.agg #[.bool false, .slice a1 n1 c1, .slice (some ⟨p, 0, none⟩) n n], .int .i64 0]) ∧ Blk w' p (vals f n))
    ∨ (firstCode f n ≠ 0 ∧ e = .returned (.tuple #[.agg #[.bool false, .slice none 0 0, .slice none 0 0], .int .i64 (firstCode f n)]))) ∧ Below w.heap.size w w'

set_option maxHeartbeats 1000000 in
theorem reckoned_any (a b : Addr) (g : Nat) (lb : Array Value) (eg : ∀ args w, (callFunc g args).run Tryz.prog w = .ok (.enter g args) w) (f : Nat → Int × Int) (n : Nat) (a1 : Option Addr) (n1 c1 : Nat) (sh : List Int) (w : World) (h1 : Row w a1 n1 sh) (hsh : shapeB sh = true) (hc : countOf sh = (n : Int))
    (hG : Gl w a b) (hf : ∀ k, k < n → codeIn (f k).2) (hE : ElemOk a b g lb f n w) :
    Calls Tryz.prog 118 #[.slice a1 n1 c1, .func (.func g) #[] lb] w (Reck w f n a1 n1 c1) := by
  have hn : n ≤ 17592186044416 := by
    have := (prodAll_bd sh hsh sh.length).2
    rw [List.take_length, prodAll_count sh hsh, hc] at this
    omega
  have HE : Hid (∀ o, ElemOk a b g lb f n (w.alloc o)) := fun o => hE.low ((Below.refl _ _).alloc (Nat.le_refl _) _)
  have HF := hide hf
  have H1 := hide h1
  have HS := hide hsh
  have HC := hide hc
  have HG := hide hG
  clear hE hf h1 hsh hc hG
  have HW : Hid (∀ o, Below w.heap.size w (w.alloc o)) := fun o => (Below.refl _ _).alloc (Nat.le_refl _) _
  by_cases h0 : firstCode f n = 0
  · have HZ := hide h0
    clear h0
    go_enter Tryz.func118, Tryz.ntmps118
    go_wp2_with (first
      | (go_at_call 116; refine (cellsOf_count _ _ _ sh _ ((unhide H1).alloc _) (unhide HS) _ HC).mono ?_; rintro e w1 ⟨rfl, rfl⟩)
      | (go_at_call 121; refine (listOf_any a b g lb eg f n _ hn (unhide HF) (unhide HE _)).mono ?_; rintro e w2 ⟨hr, hb2⟩; obtain ⟨_, rfl, hblk⟩ | ⟨hne, _⟩ := hr; rotate_left; exact absurd (unhide HZ) hne; have hB := Box.below (Box.new w false (.slice none 0 0) (.slice none 0 0)) (Nat.le_refl _) hb2; obtain ⟨q0, q1, q2, q3, q4, q5, q6⟩ := hB.all; have HK := hide hblk; have HL := hide ((unhide HW _).trans (hb2.mono (by simp))); clear hblk hb2 hB))
    refine bodyPost_ret (v := .tuple #[.agg #[.bool false, .slice a1 n1 c1, .slice (some ⟨w.heap.size + 1, 0, none⟩) n n], .int .i64 0]) (by simp [results, Tryz.results118, go_sem, q0, q1, q2]) rfl ?_
    refine ⟨.inl ⟨unhide HZ, w.heap.size + 1, by omega, rfl, ?_⟩, (((unhide HL).setCell (Nat.le_refl _) _).setCell (Nat.le_refl _) _).setCell (Nat.le_refl _) _⟩
    have hk : Blk w2 (w.heap.size + 1) (vals f n) := by simpa using unhide HK
    exact ((hk.other (by simp) _).other (by simp) _).other (by simp) _
  · have HZ := hide h0
    clear h0
    go_enter Tryz.func118, Tryz.ntmps118
    go_wp2_with (first
      | (go_at_call 116; refine (cellsOf_count _ _ _ sh _ ((unhide H1).alloc _) (unhide HS) _ HC).mono ?_; rintro e w1 ⟨rfl, rfl⟩)
      | (go_at_call 121; refine (listOf_any a b g lb eg f n _ hn (unhide HF) (unhide HE _)).mono ?_; rintro e w2 ⟨hr, hb2⟩; obtain ⟨hne, _⟩ | ⟨_, hci, rfl⟩ := hr; exact absurd hne (unhide HZ); have hB := Box.below (Box.new w false (.slice none 0 0) (.slice none 0 0)) (Nat.le_refl _) hb2; obtain ⟨q0, q1, q2, q3, q4, q5, q6⟩ := hB.all; have HI := hide hci; have HL := hide ((unhide HW _).trans (hb2.mono (by simp))); clear hb2 hB hci; obtain ⟨c, hcc⟩ : ∃ c, c = firstCode f n := ⟨_, rfl⟩; rw [← hcc]; have HCC := hide hcc; clear hcc; obtain ⟨ev, hev⟩ : ∃ ev, ev = errV a b c := ⟨_, rfl⟩; rw [← hev]; have hev2 : ∃ p, ev = .iface 278 (.pointer (some p)) := (by rw [hev, unhide HCC]; rcases unhide HI with h | h | h; exact absurd h (unhide HZ); exact ⟨a, by rw [h]; rfl⟩; exact ⟨b, by rw [h]; rfl⟩); have HEV := hide hev; clear hev; obtain ⟨p, rfl⟩ := hev2)
      | (go_at_call 190; rw [unhide HEV]; refine (codeOf_any a b c _ ((unhide HG).below (unhide HL)) (by rw [unhide HCC]; exact unhide HI) (by rw [unhide HCC]; exact unhide HZ)).mono ?_; rintro e w3 ⟨rfl, rfl⟩))
    refine bodyPost_ret (v := .tuple #[.agg #[.bool false, .slice none 0 0, .slice none 0 0], .int .i64 c]) (by simp [results, Tryz.results118, go_sem, q0, q1, q2]) rfl ?_
    exact ⟨.inr ⟨unhide HZ, by rw [← unhide HCC]⟩, (((unhide HL).setCell (Nat.le_refl _) _).setCell (Nat.le_refl _) _).setCell (Nat.le_refl _) _⟩

end Go.Proofs.YtgjpchnkodnieaaGreatDoor
namespace Go.Proofs.YtgjpchnkodnieaaGreatDoor
open Go.RowKit Go.Shelf

set_option maxHeartbeats 400000 in
theorem isTruth_eq (v : Int) (w : World) (r : Bool) (h : Hid (withinB v 0 1 = r)) : Calls Tryz.prog 283 #[.int .i64 v] w fun e w' => e = .returned (.bool r) ∧ w' = w := by
  go_enter Tryz.func283, Tryz.ntmps283
  go_wp2_with (go_at_call 50; refine (isWithin_eq _ _ _ _ r h).mono ?_; rintro e w' ⟨rfl, rfl⟩)
  go_ret
  exact ⟨rfl, rfl⟩

set_option maxHeartbeats 400000 in
theorem magnitude_any (v : Int) (w : World) (hv : -1000000000000000 ≤ v ∧ v ≤ 1000000000000000) : Calls Tryz.prog 281 #[.int .i64 v] w fun e w' => e = .returned (.int .i64 (if v < 0 then -v else v)) ∧ w' = w := by
  obtain ⟨h1, h2⟩ := hv
  by_cases h : v < 0
  · rw [if_pos h]
    go_enter Tryz.func281, Tryz.ntmps281
    go_wp2
    go_ret
    exact ⟨by first | rfl | (simp; omega), rfl⟩
  · rw [if_neg h]
    go_enter Tryz.func281, Tryz.ntmps281
    go_wp2
    go_ret
    exact ⟨by first | rfl | (simp; omega), rfl⟩

theorem ret_el {a b : Addr} {r : Int × Int} {x c : Int} (h : r = (x, c)) : Ending.returned (.tuple #[.int .i64 x, errV a b c]) = Ending.returned (.tuple #[.int .i64 r.1, errV a b r.2]) := by rw [h]

end Go.Proofs.YtgjpchnkodnieaaGreatDoor
namespace Go.Proofs.YtgjpchnkodnieaaGreatDoor
open Go.RowKit Go.Shelf

set_option maxHeartbeats 400000 in
theorem change1 (v : Int) (a b : Addr) (w : World) : Calls Tryz.prog 305 #[.int .i64 v] w fun e w' => e = .returned (.tuple #[.int .i64 (oneOf 1 v).1, errV a b (oneOf 1 v).2]) ∧ ∃ q, w' = w.drewN q := by
  have e : oneOf 1 v = (v, 0) := rfl
  rw [e]
  go_enter Tryz.func305, Tryz.ntmps305
  go_wp2
  go_ret2
  exact ⟨rfl, 0, rfl⟩

set_option maxHeartbeats 400000 in
theorem change2 (v : Int) (a b : Addr) (w : World) (hv : -1000000000000000 ≤ v ∧ v ≤ 1000000000000000) : Calls Tryz.prog 306 #[.int .i64 v] w fun e w' => e = .returned (.tuple #[.int .i64 (oneOf 2 v).1, errV a b (oneOf 2 v).2]) ∧ ∃ q, w' = w.drewN q := by
  have e : oneOf 2 v = (-v, 0) := rfl
  rw [e]
  obtain ⟨h1, h2⟩ := hv
  go_enter Tryz.func306, Tryz.ntmps306
  go_wp2
  go_ret2
  exact ⟨rfl, 0, rfl⟩

set_option maxHeartbeats 400000 in
theorem change3 (v : Int) (a b : Addr) (w : World) (hv : -1000000000000000 ≤ v ∧ v ≤ 1000000000000000) : Calls Tryz.prog 307 #[.int .i64 v] w fun e w' => e = .returned (.tuple #[.int .i64 (oneOf 3 v).1, errV a b (oneOf 3 v).2]) ∧ ∃ q, w' = w.drewN q := by
  obtain ⟨h1, h2⟩ := hv
  rcases (show v < 0 ∨ v = 0 ∨ v = 1 ∨ 1 < v by omega) with h | rfl | rfl | h
  · have HE : Hid (oneOf 3 v = (-1, 0)) := by show _ = _; simp [oneOf, truth, h, Int.not_lt.mpr (Int.le_of_lt h)]
    have h3 : (if 1 < v then 1 else v) = v := if_neg (by omega)
    go_enter Tryz.func307, Tryz.ntmps307
    go_wp2
    go_ret2
    exact ⟨ret_el (c := 0) HE.out, 0, rfl⟩
  · go_enter Tryz.func307, Tryz.ntmps307
    go_wp2
    go_ret2
    exact ⟨rfl, 0, rfl⟩
  · go_enter Tryz.func307, Tryz.ntmps307
    go_wp2
    go_ret2
    exact ⟨rfl, 0, rfl⟩
  · have HE : Hid (oneOf 3 v = (1, 0)) := by show _ = _; simp [oneOf, truth, show 0 < v by omega, show ¬ v < 0 by omega]
    have h3 : (if 1 < v then 1 else v) = 1 := if_pos (by omega)
    go_enter Tryz.func307, Tryz.ntmps307
    go_wp2
    go_ret2
    exact ⟨ret_el (c := 0) HE.out, 0, rfl⟩

set_option maxHeartbeats 400000 in
theorem change7 (v : Int) (a b : Addr) (w : World) (hv : -1000000000000000 ≤ v ∧ v ≤ 1000000000000000) : Calls Tryz.prog 308 #[.int .i64 v] w fun e w' => e = .returned (.tuple #[.int .i64 (oneOf 7 v).1, errV a b (oneOf 7 v).2]) ∧ ∃ q, w' = w.drewN q := by
  have HE : Hid (oneOf 7 v = (if v < 0 then -v else v, 0)) := rfl
  obtain ⟨m, hm⟩ : ∃ m, m = if v < 0 then -v else v := ⟨_, rfl⟩
  have hcall := magnitude_any v w hv
  rw [← hm] at HE hcall
  clear hm hv
  go_enter Tryz.func308, Tryz.ntmps308
  go_wp2_with (go_at_call 281; refine hcall.mono ?_; rintro e w' ⟨rfl, rfl⟩)
  go_ret2
  exact ⟨ret_el (c := 0) HE.out, 0, rfl⟩

set_option maxHeartbeats 400000 in
theorem change17 (v : Int) (a b : Addr) (w : World) (hG : Gl w a b) (hv : -1000000000000000 ≤ v ∧ v ≤ 1000000000000000) : Calls Tryz.prog 309 #[.int .i64 v] w fun e w' => e = .returned (.tuple #[.int .i64 (oneOf 17 v).1, errV a b (oneOf 17 v).2]) ∧ ∃ q, w' = w.drewN q := by
  have hc := hG.no
  clear hG
  by_cases h : v = 0 ∨ v = 1
  · have HE : Hid (oneOf 17 v = (1 - v, 0)) := by rcases h with rfl | rfl <;> rfl
    have HT : Hid (withinB v 0 1 = true) := by rcases h with rfl | rfl <;> rfl
    clear h
    obtain ⟨h1, h2⟩ := hv
    go_enter Tryz.func309, Tryz.ntmps309
    go_wp2_with (go_at_call 283; refine (isTruth_eq _ _ _ HT).mono ?_; rintro e w' ⟨rfl, rfl⟩)
    go_ret2
    exact ⟨ret_el (c := 0) HE.out, 0, rfl⟩
  · have HE : Hid (oneOf 17 v = (0, 3)) := by show _ = _; simp only [not_or] at h; simp [oneOf, h]
    have HT : Hid (withinB v 0 1 = false) := decide_eq_false (by omega)
    clear h
    go_enter Tryz.func309, Tryz.ntmps309
    go_wp2_with (go_at_call 283; refine (isTruth_eq _ _ _ HT).mono ?_; rintro e w' ⟨rfl, rfl⟩)
    go_quiet (fail)
    go_wp2
    go_ret2
    exact ⟨ret_el (c := 3) HE.out, _, rfl⟩

end Go.Proofs.YtgjpchnkodnieaaGreatDoor
namespace Go.Proofs.YtgjpchnkodnieaaGreatDoor
open Go.RowKit Go.Shelf

/-- What changeOf answers. -/
def chV (op : Int) : Value := if op = 1 then .func (.func 305) #[] #[] else if op = 2 then .func (.func 306) #[] #[] else if op = 3 then .func (.func 307) #[] #[]
  else if op = 7 then .func (.func 308) #[] #[] else if op = 17 then .func (.func 309) #[] #[] else .nilFunc

/-- The array of functions that changeOf lays. -/
def chTab : Array Value := #[.nilFunc, .func (.func 305) #[] #[], .func (.func 306) #[] #[], .func (.func 307) #[] #[], .nilFunc, .nilFunc, .nilFunc, .func (.func 308) #[] #[], .nilFunc, .nilFunc, .nilFunc, .nilFunc, .nilFunc, .nilFunc, .nilFunc, .nilFunc, .nilFunc, .func (.func 309) #[] #[]]

theorem chTab_at (w : World) (k : Nat) (h : k ≤ 17) : (w.alloc (.cells chTab 240)).cell? ⟨w.heap.size, k, none⟩ = some (chV k) := by
  rw [cell_of_row _ _ k chTab _ (0, 0) (heap_alloc_last w _)]
  have hk : k = 0 ∨ k = 1 ∨ k = 2 ∨ k = 3 ∨ k = 4 ∨ k = 5 ∨ k = 6 ∨ k = 7 ∨ k = 8 ∨ k = 9 ∨ k = 10 ∨ k = 11 ∨ k = 12 ∨ k = 13 ∨ k = 14 ∨ k = 15 ∨ k = 16 ∨ k = 17 := by omega
  rcases hk with rfl | rfl | rfl | rfl | rfl | rfl | rfl | rfl | rfl | rfl | rfl | rfl | rfl | rfl | rfl | rfl | rfl | rfl
  all_goals rfl

set_option maxHeartbeats 4000000 in
theorem changeOf_any (op : Int) (w : World) : Calls Tryz.prog 267 #[.int .i64 op] w fun e w' => e = .returned (chV op) ∧ Below w.heap.size w w' := by
  by_cases h : 0 ≤ op ∧ op ≤ 17
  · have HT : Hid (withinB op 0 17 = true) := decide_eq_true h
    obtain ⟨k, rfl⟩ : ∃ k : Nat, op = k := ⟨op.toNat, by omega⟩
    have hk : k ≤ 17 := by omega
    have hc := chTab_at w k hk
    unfold chTab at hc
    have HV : Hid (chV k = chV k) := rfl
    obtain ⟨v, hv⟩ : ∃ v, v = chV k := ⟨_, rfl⟩
    rw [← hv] at hc
    have HVV := hide hv
    clear h hv
    go_enter Tryz.func267, Tryz.ntmps267
    go_wp2_with (go_at_call 50; refine (isWithin_eq _ _ _ _ _ HT).mono ?_; rintro e w' ⟨rfl, rfl⟩)
    go_ret
    exact ⟨by rw [← HVV.out]; rfl, (Below.refl _ _).alloc (Nat.le_refl _) _⟩
  · have HT : Hid (withinB op 0 17 = false) := decide_eq_false h
    have HE : Hid (chV op = .nilFunc) := by
      show _ = _
      unfold chV
      rw [if_neg (by omega), if_neg (by omega), if_neg (by omega), if_neg (by omega), if_neg (by omega)]
    clear h
    go_enter Tryz.func267, Tryz.ntmps267
    go_wp2_with (go_at_call 50; refine (isWithin_eq _ _ _ _ _ HT).mono ?_; rintro e w' ⟨rfl, rfl⟩)
    go_ret
    exact ⟨by rw [HE.out]; rfl, (Below.refl _ _).alloc (Nat.le_refl _) _⟩

end Go.Proofs.YtgjpchnkodnieaaGreatDoor
namespace Go.Proofs.YtgjpchnkodnieaaGreatDoor
open Go.RowKit

set_option maxHeartbeats 400000 in
theorem Clone_any (ad : Addr) (n cap : Nat) (zs : List Int) (w : World) (h : Row w (some ad) n zs) :
    Calls Tryz.prog 63 #[.slice (some ad) n cap] w fun e w' => ∃ a' cap', e = .returned (.slice a' n cap') ∧ n ≤ cap' ∧ Own w' w.heap.size a' n zs ∧ Below w.heap.size w w' := by
  have hl := h.len
  have hs := h.small
  have H := hide h
  clear h
  obtain ⟨i0, hi, hz0, hz1, hz2⟩ := info_parts info_int
  have qT : ∀ (w : World) (a : Option Addr) (n c n' c' : Nat), (binOp .eql 23 (.slice a n c) (.slice none n' c')).run Tryz.prog w = .ok (.bool a.isNone) w := fun w a n c n' c' => Lib.run_eql_slice_nil w _ _ a n c n' c' Tryz.underlying23
  go_enter Tryz.func63, Tryz.ntmps63
  go_wp2_with (at_builtin; refine wpList_append_own _ rfl _ _ 23 rfl w.heap.size 3 i0 (.int .i64 0) 1 8 Tryz.underlying23 hi hz0 hz1 hz2 rfl (by decide) _ _ _ rfl (owns_empty w) ad n cap (zs.map (Value.int .i64)) rfl (by simpa using hl) (cells_ints ((unhide H).alloc _)) (one_ints zs) (by unfold maxLen; omega) (by omega) (by simp) ?_; intro v1 w1 hown hgrow hnil)
  clear hnil
  have hown' : w1.ownsRow w.heap.size 3 1 v1 n (zs.map (Value.int .i64)) := by simpa using hown
  obtain ⟨a', cap', rfl, ho⟩ := Own.of_owns hown' hs
  have hbel : Below w.heap.size w w1 := ((Below.refl _ _).alloc (Nat.le_refl _) _).grown hgrow (by simp) (by intro k hk; cases hk; exact Nat.le_refl _)
  have hcap : n ≤ cap' := by
    rcases hown'.2 with ⟨h', h0⟩ | ⟨g', c', cur, h', _, _, hle, _⟩
    · simp at h'; omega
    · cases h'; omega
  clear hown hgrow hown'
  go_wp2
  go_ret
  exact ⟨_, _, rfl, hcap, ho, hbel⟩

set_option maxHeartbeats 400000 in
theorem Clone_nil (cap : Nat) (w : World) :
    Calls Tryz.prog 63 #[.slice none 0 cap] w fun e w' => e = .returned (.slice none 0 0) ∧ w' = w := by
  have qT : ∀ (w : World) (a : Option Addr) (n c n' c' : Nat), (binOp .eql 23 (.slice a n c) (.slice none n' c')).run Tryz.prog w = .ok (.bool a.isNone) w := fun w a n c n' c' => Lib.run_eql_slice_nil w _ _ a n c n' c' Tryz.underlying23
  go_enter Tryz.func63, Tryz.ntmps63
  go_wp2
  go_ret
  exact ⟨rfl, rfl⟩

/-- A copy of a slice that may be nil. -/
theorem Clone_opt (ad : Option Addr) (n cap : Nat) (zs : List Int) (w : World) (h : Row w ad n zs) :
    Calls Tryz.prog 63 #[.slice ad n cap] w fun e w' => ∃ a' cap', e = .returned (.slice a' n cap') ∧ n ≤ cap' ∧ Own w' w.heap.size a' n zs ∧ Below w.heap.size w w' := by
  cases ad with
  | some a => exact Clone_any a n cap zs w h
  | none =>
    have h0 : n = 0 := by
      rcases Nat.eq_zero_or_pos n with h0 | h0
      · exact h0
      · obtain ⟨b, o, e, _⟩ := h.get h0
        cases e
    have hl := h.len
    subst h0
    obtain rfl : zs = [] := List.length_eq_zero_iff.1 hl
    refine (Clone_nil cap w).mono ?_
    rintro e w' ⟨rfl, rfl⟩
    exact ⟨none, 0, rfl, Nat.le_refl _, ⟨rfl, by omega, .inl rfl⟩, Below.refl _ _⟩

end Go.Proofs.YtgjpchnkodnieaaGreatDoor
