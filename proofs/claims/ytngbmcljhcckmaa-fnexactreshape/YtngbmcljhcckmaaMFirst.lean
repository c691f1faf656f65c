import Derived.WalkKit
import Derived.WalkSpells
import Derived.Test.YtngbmcljhcckmaaChecked
import Derived.Deep.QuietTactic
import Derived.BigQuiet
import Derived.Deep.Draws
namespace Go.Proofs.Ytngbmcljhcckmaa
open Go.RowKit

/-- The slice (a, n, _) reads as the numbers zs. -/
structure Row (w : World) (a : Option Addr) (n : Nat) (zs : List Int) : Prop where
  len : zs.length = n
  small : n ≤ 17592186044416
  at_ : n = 0 ∨ ∃ b off, a = some ⟨b, off, none⟩ ∧ b < w.heap.size ∧ ∀ i, i < n → w.cell? ⟨b, off + i, none⟩ = some (.int .i64 (zs.getD i 0))

theorem Row.below {w w' : World} {a : Option Addr} {n : Nat} {zs : List Int} {B : Nat} (h : Row w a n zs) (hB : w.heap.size ≤ B) (hb : Below B w w') : Row w' a n zs := by
  refine ⟨h.len, h.small, ?_⟩
  rcases h.at_ with h0 | ⟨b, off, rfl, hlt, hc⟩
  · exact .inl h0
  · exact .inr ⟨b, off, rfl, Nat.lt_of_lt_of_le hlt hb.size, fun i hi => (hb.cell (p := ⟨b, off + i, none⟩) (Nat.lt_of_lt_of_le hlt hB)).trans (hc i hi)⟩

/-- Block g holds just the numbers zs. -/
def Blk (w : World) (g : Nat) (zs : List Int) : Prop := w.heap[g]? = some (.cells (zs.map (Value.int .i64)).toArray 3 (0, 0))

theorem Blk.lt {w : World} {g : Nat} {zs : List Int} (h : Blk w g zs) : g < w.heap.size := lt_of_block h

theorem Blk.cell {w : World} {g : Nat} {zs : List Int} (h : Blk w g zs) {i : Nat} (hi : i < zs.length) : w.cell? ⟨g, i, none⟩ = some (.int .i64 (zs.getD i 0)) := by
  unfold Blk at h
  simp [World.cell?, h, hi]

theorem Blk.free {w : World} {g : Nat} {zs : List Int} (h : Blk w g zs) (i : Nat) : w.frozen? ⟨g, i, none⟩ = false := frozen_of_row w g i _ _ h

theorem Blk.row {w : World} {g n : Nat} {zs : List Int} (h : Blk w g zs) (hn : zs.length = n) (hs : n ≤ 17592186044416) : Row w (some ⟨g, 0, none⟩) n zs :=
  ⟨hn, hs, .inr ⟨g, 0, rfl, h.lt, fun i hi => by simpa using h.cell (i := i) (by omega)⟩⟩

theorem Blk.below {w w' : World} {g : Nat} {zs : List Int} {B : Nat} (h : Blk w g zs) (hB : w.heap.size ≤ B) (hb : Below B w w') : Blk w' g zs := (hb.block g (Nat.lt_of_lt_of_le h.lt hB)).trans h

theorem Blk.set {w : World} {g : Nat} {zs : List Int} (h : Blk w g zs) (i : Nat) (x : Int) : Blk (w.setCell ⟨g, i, none⟩ (.int .i64 x)) g (zs.set i x) := by
  unfold Blk at h ⊢
  rw [heap_setCell_same w g i _ _ _ h]
  simp [List.map_set]

theorem Blk.of_owns {w : World} {base g n : Nat} {zs : List Int} (h : w.ownsRow base 3 1 (.slice (some ⟨g, 0, none⟩) n n) n (zs.map (Value.int .i64))) : Blk w g zs := by
  rcases h.2 with ⟨h', _⟩ | ⟨g', cap', cur, h', _, hg, _, _, hs, ht⟩
  · simp at h'
  · simp only [Value.slice.injEq, Option.some.injEq, Addr.mk.injEq, and_true, true_and] at h'
    obtain ⟨rfl, rfl⟩ := h'
    unfold Blk
    rw [hg, ← ht, List.take_of_length_le (by simp; omega)]

theorem Blk.other {w : World} {g : Nat} {zs : List Int} (h : Blk w g zs) {p : Addr} (hp : g ≠ p.block) (v : Value) : Blk (w.setCell p v) g zs := (heap_setCell_other w p g v hp).trans h
theorem Blk.drew {w : World} {g : Nat} {zs : List Int} (h : Blk w g zs) : Blk w.drew g zs := h
theorem Blk.alloc {w : World} {g : Nat} {zs : List Int} (h : Blk w g zs) (o : Obj) : Blk (w.alloc o) g zs := (Below.heap_alloc w o g h.lt).trans h

theorem bcell {W w1 : World} (hb : Below W.heap.size W w1) : (∀ b o, b < W.heap.size → w1.cell? ⟨b, o, none⟩ = W.cell? ⟨b, o, none⟩) ∧ (∀ b o, b < W.heap.size → w1.frozen? ⟨b, o, none⟩ = W.frozen? ⟨b, o, none⟩) :=
  ⟨fun b o h => hb.cell (p := ⟨b, o, none⟩) h, fun b o h => hb.frozen (p := ⟨b, o, none⟩) h⟩

theorem hide {p : Prop} (h : p) : Hid p := h
theorem unhide {p : Prop} (h : Hid p) : p := h
theorem ret_bool {a b : Bool} (h : a = b) : Ending.returned (.bool a) = .returned (.bool b) := by rw [h]
theorem ret_int {k : IntKind} {a b : Int} (h : a = b) : Ending.returned (.int k a) = .returned (.int k b) := by rw [h]
theorem ret_ib {a a' : Int} {b b' : Bool} (ha : a = a') (hb : b = b') : Ending.returned (.tuple #[.int .i64 a, .bool b]) = .returned (.tuple #[.int .i64 a', .bool b']) := by rw [ha, hb]
theorem ret_two {a b a' b' : Int} (ha : a = a') (hb : b = b') : Ending.returned (.tuple #[.int .i64 a, .int .i64 b]) = .returned (.tuple #[.int .i64 a', .int .i64 b']) := by rw [ha, hb]

end Go.Proofs.Ytngbmcljhcckmaa
namespace Go.Proofs.Ytngbmcljhcckmaa
open Go.RowKit

theorem info_int : (Try.prog.info? 3).map (fun i => (i.zero, i.size, i.bytes)) = some (some (.int .i64 0), 1, 8) := by kernel_rfl

theorem szIntS_big (a : Option Addr) (n cap : Nat) (left : Int) (w : World) (hn : n ≤ 9223372036854775807) (hl : 0 ≤ left) (hl2 : left ≤ 1048576) (h : left < n) :
    Calls Try.prog 36 #[.slice a n cap, .int .i64 left] w fun e w' => e = .returned (.int .i64 (-1)) ∧ w' = w := by
  go_enter Try.func36, Try.ntmps36
  go_wp2
  go_ret
  exact ⟨rfl, rfl⟩

theorem szIntS_ok (a : Option Addr) (n cap : Nat) (left : Int) (w : World) (hl2 : left ≤ 1048576) (h : n ≤ left) :
    Calls Try.prog 36 #[.slice a n cap, .int .i64 left] w fun e w' => e = .returned (.int .i64 (left - n)) ∧ w' = w := by
  go_enter Try.func36, Try.ntmps36
  go_wp2
  go_ret
  exact ⟨rfl, rfl⟩

theorem take_set (zs : List Int) (m k : Nat) (h : k < zs.length) : (zs.take k ++ List.replicate (m + 1) (0 : Int)).set k (zs.getD k 0) = zs.take (k + 1) ++ List.replicate m 0 := by
  have hk : (zs.take k).length = k := by simp; omega
  have hx : zs.getD k 0 = zs[k] := by simp [h]
  rw [List.replicate_succ, List.set_append_right _ _ (by omega), hk, Nat.sub_self, List.set_cons_zero, hx, List.take_succ_eq_append_getElem h, List.append_assoc]
  rfl

set_option maxHeartbeats 400000 in
theorem toIntS_any (a : Option Addr) (n cap : Nat) (zs : List Int) (w : World) (h : Row w a n zs) :
    Calls Try.prog 43 #[.slice a n cap] w fun e w' => ∃ g, e = .returned (.slice (some ⟨g, 0, none⟩) n n) ∧ w.heap.size ≤ g ∧ Blk w' g zs ∧ Below w.heap.size w w' := by
  obtain ⟨hlen, hsm, hat⟩ := h
  obtain ⟨i0, hi, hz0, hz1, hz2⟩ := info_parts info_int
  go_enter Try.func43, Try.ntmps43
  go_wp2_with (at_make; refine wpList_make_full _ rfl _ _ 22 rfl w.heap.size 3 i0 (.int .i64 0) 1 Try.underlying22 hi hz0 hz1 _ _ _ _ n rfl rfl rfl rfl (by rw [hz2]; omega) (by unfold maxLen; omega) (Nat.le_refl _) ?_; intro w1 hown hgrow)
  have hblk : Blk w1 w.heap.size (zs.take 0 ++ List.replicate (n - 0) 0) := Blk.of_owns (n := n) (base := w.heap.size) (by simpa [toList_madeCells_one, Value.cells] using hown)
  have hbel : Below w.heap.size w w1 := (Below.refl _ _).grown hgrow (Nat.le_refl _) (by simp)
  clear hown hgrow hi hz0 hz1 hz2
  go_wp2
  go_loopw [4] (fun i wr => ∃ k : Nat, k ≤ n ∧ i = .int .i64 k ∧ Blk wr w.heap.size (zs.take k ++ List.replicate (n - k) 0) ∧ Below w.heap.size w wr) (fun i _ => n - (intOf i).toNat)
  case atStart => exact ⟨0, Nat.zero_le _, rfl, hblk, hbel⟩
  case round =>
    obtain ⟨k, hk, rfl, hb, hbl⟩ := hrel
    clear hblk hbel
    by_cases hlt : k < n
    · have hat' : ∃ b off, a = some ⟨b, off, none⟩ ∧ wr.cell? ⟨b, off + k, none⟩ = some (.int .i64 (zs.getD k 0)) := by
        rcases hat with h0 | ⟨b, off, rfl, hlt', hc⟩
        · omega
        · exact ⟨b, off, rfl, (hbl.cell (p := ⟨b, off + k, none⟩) hlt').trans (hc k hlt)⟩
      obtain ⟨b, off, rfl, hc⟩ := hat'
      clear hat
      obtain ⟨x, hx⟩ : ∃ x, x = zs.getD k 0 := ⟨_, rfl⟩
      rw [← hx] at hc
      have hc2 := hb.cell (i := k) (by simp; omega)
      have hf2 := hb.free k
      have hs := hb.set k x
      have HR : Hid (Blk (wr.setCell ⟨w.heap.size, k, none⟩ (.int .i64 x)) w.heap.size (zs.take (k + 1) ++ List.replicate (n - (k + 1)) 0)) := by
        have e : n - k = n - (k + 1) + 1 := by omega
        rw [e, hx, take_set zs _ k (by omega)] at hs
        rw [hx]
        exact hs
      clear hs hb hx
      go_wp2
      go_roundw
      case rel => exact ⟨k + 1, by omega, by go_num, HR.out, hbl.setCell (Nat.le_refl _) _⟩
      case measure => simp [intOf]; omega
    · have hkn : k = n := by omega
      subst hkn
      go_wp2
      go_ret
      exact ⟨_, rfl, Nat.le_refl _, by simpa [List.take_of_length_le (Nat.le_of_eq hlen)] using hb, hbl⟩

theorem take_step {xs ys : List Int} {n k : Nat} (hx : xs.length = n) (hy : ys.length = n) (hk : k < n) (h : xs.take k = ys.take k) (he : xs.getD k 0 = ys.getD k 0) : xs.take (k + 1) = ys.take (k + 1) := by
  have e1 : xs.getD k 0 = xs[k] := by simp [hx, hk]
  have e2 : ys.getD k 0 = ys[k] := by simp [hy, hk]
  rw [List.take_succ_eq_append_getElem (by omega), List.take_succ_eq_append_getElem (by omega), h, ← e1, ← e2, he]

set_option maxHeartbeats 400000 in
theorem eqIntS_any (a b : Option Addr) (n m ca cb : Nat) (xs ys : List Int) (w : World) (hx : Row w a n xs) (hy : Row w b m ys) :
    Calls Try.prog 52 #[.slice a n ca, .slice b m cb] w fun e w' => e = .returned (.bool (decide (xs = ys))) ∧ ∃ q, w' = w.drewN q := by
  obtain ⟨hxl, hxs, hxa⟩ := hx
  obtain ⟨hyl, hys, hya⟩ := hy
  by_cases hne : n = m
  · subst hne
    have hn : ((n : Int) != (n : Int)) = false := by simp
    go_enter Try.func52, Try.ntmps52
    go_wp2
    go_loopw [5] (fun i wr => ∃ k : Nat, k ≤ n ∧ i = .int .i64 k ∧ xs.take k = ys.take k ∧ ∃ q, wr = w.drewN q) (fun i _ => n - (intOf i).toNat)
    case atStart => exact ⟨0, Nat.zero_le _, rfl, rfl, 0, rfl⟩
    case round =>
      obtain ⟨k, hk, rfl, htk, q, rfl⟩ := hrel
      by_cases hlt : k < n
      · have ha : ∃ b off, a = some ⟨b, off, none⟩ ∧ w.cell? ⟨b, off + k, none⟩ = some (.int .i64 (xs.getD k 0)) := by
          rcases hxa with h0 | ⟨b, off, rfl, hlt', hc⟩
          · omega
          · exact ⟨b, off, rfl, hc k hlt⟩
        have hb : ∃ b' off, b = some ⟨b', off, none⟩ ∧ w.cell? ⟨b', off + k, none⟩ = some (.int .i64 (ys.getD k 0)) := by
          rcases hya with h0 | ⟨b, off, rfl, hlt', hc⟩
          · omega
          · exact ⟨b, off, rfl, hc k hlt⟩
        obtain ⟨b1, o1, rfl, hc1⟩ := ha
        obtain ⟨b2, o2, rfl, hc2⟩ := hb
        clear hxa hya
        obtain ⟨x, hx⟩ : ∃ x, x = xs.getD k 0 := ⟨_, rfl⟩
        obtain ⟨y, hy⟩ : ∃ y, y = ys.getD k 0 := ⟨_, rfl⟩
        rw [← hx] at hc1
        rw [← hy] at hc2
        have HX : Hid (x = xs.getD k 0) := hx
        have HY : Hid (y = ys.getD k 0) := hy
        have HT : Hid (xs.take k = ys.take k) := htk
        have HL : Hid (xs.length = n ∧ ys.length = n) := ⟨hxl, hyl⟩
        clear hx hy htk hxl hyl
        by_cases hxy : x = y
        · have hb : (x != y) = false := by simp [hxy]
          have HXY : Hid (x = y) := hxy
          clear hxy
          go_wp2
          go_quiet (fail)
          go_wp2
          go_roundw
          case rel => exact ⟨k + 1, by omega, by go_num, take_step HL.out.1 HL.out.2 hlt HT.out (HX.out.symm.trans (HXY.out.trans HY.out)), _, by first | rfl | exact World.drewN_drewN _ _ _⟩
          case measure => simp [intOf]; omega
        · have hb : (x != y) = true := by simp [hxy]
          have HN : Hid (¬ xs = ys) := fun e => hxy (by rw [HX.out, HY.out, e])
          clear hxy
          go_wp2
          go_quiet (fail)
          go_wp2
          go_ret
          exact ⟨ret_bool (decide_eq_false HN.out).symm, _, World.drewN_drewN _ _ _⟩
      · have hkn : k = n := by omega
        have HE : Hid (xs = ys) := by
          show xs = ys
          rwa [List.take_of_length_le (by omega), List.take_of_length_le (by omega)] at htk
        clear htk
        subst hkn
        go_wp2
        go_ret
        exact ⟨ret_bool (decide_eq_true HE.out).symm, _, rfl⟩
  · have hn : ((n : Int) != (m : Int)) = true := by simp; omega
    have HN : Hid (¬ xs = ys) := fun e => hne (by rw [← hxl, ← hyl, e])
    clear hne
    go_enter Try.func52, Try.ntmps52
    go_wp2
    go_ret
    exact ⟨ret_bool (decide_eq_false HN.out).symm, 0, rfl⟩

end Go.Proofs.Ytngbmcljhcckmaa
namespace Go.Proofs.Ytngbmcljhcckmaa
open Go.RowKit

/-- The slice (a, n, _) reads as the numbers zs, lies in a block from B on, and may be written. -/
structure Own (w : World) (B : Nat) (a : Option Addr) (n : Nat) (zs : List Int) : Prop where
  len : zs.length = n
  small : n ≤ 17592186044416
  at_ : n = 0 ∨ ∃ g off, a = some ⟨g, off, none⟩ ∧ B ≤ g ∧ g < w.heap.size ∧ (∀ i, i < n → w.cell? ⟨g, off + i, none⟩ = some (.int .i64 (zs.getD i 0))) ∧ (∀ i, i < n → w.frozen? ⟨g, off + i, none⟩ = false)

theorem Own.row {w : World} {B : Nat} {a : Option Addr} {n : Nat} {zs : List Int} (h : Own w B a n zs) : Row w a n zs := by
  refine ⟨h.len, h.small, ?_⟩
  rcases h.at_ with h0 | ⟨g, off, rfl, _, hlt, hc, _⟩
  · exact .inl h0
  · exact .inr ⟨g, off, rfl, hlt, hc⟩

theorem Own.mono {w : World} {B B' : Nat} {a : Option Addr} {n : Nat} {zs : List Int} (h : Own w B a n zs) (hB : B' ≤ B) : Own w B' a n zs := by
  refine ⟨h.len, h.small, ?_⟩
  rcases h.at_ with h0 | ⟨g, off, rfl, hg, r⟩
  · exact .inl h0
  · exact .inr ⟨g, off, rfl, by omega, r⟩

theorem Own.below {w w' : World} {a : Option Addr} {n : Nat} {zs : List Int} {B C : Nat} (h : Own w C a n zs) (hB : w.heap.size ≤ B) (hb : Below B w w') : Own w' C a n zs := by
  refine ⟨h.len, h.small, ?_⟩
  rcases h.at_ with h0 | ⟨g, off, rfl, hg, hlt, hc, hf⟩
  · exact .inl h0
  · exact .inr ⟨g, off, rfl, hg, Nat.lt_of_lt_of_le hlt hb.size, fun i hi => (hb.cell (p := ⟨g, off + i, none⟩) (Nat.lt_of_lt_of_le hlt hB)).trans (hc i hi), fun i hi => (hb.frozen (p := ⟨g, off + i, none⟩) (Nat.lt_of_lt_of_le hlt hB)).trans (hf i hi)⟩

theorem Blk.own {w : World} {B g n : Nat} {zs : List Int} (h : Blk w g zs) (hn : zs.length = n) (hs : n ≤ 17592186044416) (hg : B ≤ g) : Own w B (some ⟨g, 0, none⟩) n zs :=
  ⟨hn, hs, .inr ⟨g, 0, rfl, hg, h.lt, fun i hi => by simpa using h.cell (i := i) (by omega), fun i hi => h.free _⟩⟩

/-- Block k holds cells of the slice (a, n, _). -/
def At (a : Option Addr) (n k : Nat) : Prop := n ≠ 0 ∧ ∃ p, a = some p ∧ p.block = k

theorem at_self {g off n : Nat} (h : n ≠ 0) : At (some ⟨g, off, none⟩) n g := ⟨h, _, rfl, rfl⟩
theorem at_eq {g off n k : Nat} (h : At (some ⟨g, off, none⟩) n k) : g = k := by obtain ⟨_, p, hp, hk⟩ := h; cases hp; exact hk

/-- w' is w but for the blocks in S, and for new ones. -/
structure But (S : Nat → Prop) (w w' : World) : Prop where
  os : w'.os = w.os
  tape : w'.tape = w.tape
  output : w'.output = w.output
  size : w.heap.size ≤ w'.heap.size
  block : ∀ k, k < w.heap.size → ¬ S k → w'.heap[k]? = w.heap[k]?

theorem But.refl (S : Nat → Prop) (w : World) : But S w w := ⟨rfl, rfl, rfl, Nat.le_refl _, fun _ _ _ => rfl⟩

theorem But.trans {S T : Nat → Prop} {w w1 w2 : World} (h : But S w w1) (k : But T w1 w2) : But (fun x => S x ∨ T x) w w2 :=
  ⟨k.os.trans h.os, k.tape.trans h.tape, k.output.trans h.output, Nat.le_trans h.size k.size, fun i hi hn => (k.block i (Nat.lt_of_lt_of_le hi h.size) (fun e => hn (.inr e))).trans (h.block i hi (fun e => hn (.inl e)))⟩

theorem But.mono {S T : Nat → Prop} {w w1 : World} (h : But S w w1) (hs : ∀ k, S k → T k) : But T w w1 := ⟨h.os, h.tape, h.output, h.size, fun k hk hn => h.block k hk (fun e => hn (hs k e))⟩

theorem But.of_below {S : Nat → Prop} {w w' : World} (h : Below w.heap.size w w') : But S w w' := ⟨h.os, h.tape, h.output, h.size, fun k hk _ => h.block k hk⟩

theorem But.setCell {S : Nat → Prop} {w w' : World} (h : But S w w') {p : Addr} (hp : S p.block) (v : Value) : But S w (w'.setCell p v) :=
  ⟨h.os, h.tape, h.output, by simpa using h.size, fun k hk hn => by
    rw [heap_setCell_other w' p k v (fun e => hn (by rw [e]; exact hp))]
    exact h.block k hk hn⟩

theorem But.alloc {S : Nat → Prop} {w w' : World} (h : But S w w') (o : Obj) : But S w (w'.alloc o) :=
  ⟨h.os, h.tape, h.output, by have := h.size; simp; omega, fun k hk hn => (Below.heap_alloc w' o k (Nat.lt_of_lt_of_le hk h.size)).trans (h.block k hk hn)⟩

theorem But.below {S : Nat → Prop} {B : Nat} {w w' : World} (h : But S w w') (hB : B ≤ w.heap.size) (hs : ∀ k, S k → B ≤ k) : Below B w w' :=
  ⟨h.os, h.tape, h.output, h.size, fun k hk => h.block k (Nat.lt_of_lt_of_le hk hB) (fun e => by have := hs k e; omega)⟩

/-- Two slices with cells lie in different blocks. -/
def Apart (a : Option Addr) (n : Nat) (b : Option Addr) (m : Nat) : Prop := ∀ k, At a n k → ¬ At b m k

theorem Apart.symm {a b : Option Addr} {n m : Nat} (h : Apart a n b m) : Apart b m a n := fun k h1 h2 => h k h2 h1

theorem But.own {S : Nat → Prop} {b : Option Addr} {m B : Nat} {w w' : World} {ys : List Int} (h : But S w w') (ho : Own w B b m ys) (hap : ∀ k, S k → ¬ At b m k) : Own w' B b m ys := by
  refine ⟨ho.len, ho.small, ?_⟩
  rcases ho.at_ with h0 | ⟨g, off, rfl, hg, hlt, hc, hf⟩
  · exact .inl h0
  · by_cases hm : m = 0
    · exact .inl hm
    have hb := h.block g hlt (fun e => hap g e ⟨hm, _, rfl, rfl⟩)
    exact .inr ⟨g, off, rfl, hg, Nat.lt_of_lt_of_le hlt h.size, fun i hi => (World.cell?_of_block (w := w) (a := ⟨g, off + i, none⟩) hb).trans (hc i hi), fun i hi => (World.frozen?_of_block (w := w) (a := ⟨g, off + i, none⟩) hb).trans (hf i hi)⟩

theorem But.row {S : Nat → Prop} {b : Option Addr} {m : Nat} {w w' : World} {ys : List Int} (h : But S w w') (ho : Row w b m ys) (hap : ∀ k, S k → ¬ At b m k) : Row w' b m ys := by
  refine ⟨ho.len, ho.small, ?_⟩
  rcases ho.at_ with h0 | ⟨g, off, rfl, hlt, hc⟩
  · exact .inl h0
  · by_cases hm : m = 0
    · exact .inl hm
    have hb := h.block g hlt (fun e => hap g e ⟨hm, _, rfl, rfl⟩)
    exact .inr ⟨g, off, rfl, Nat.lt_of_lt_of_le hlt h.size, fun i hi => (World.cell?_of_block (w := w) (a := ⟨g, off + i, none⟩) hb).trans (hc i hi)⟩

theorem Own.low {w : World} {B : Nat} {a : Option Addr} {n : Nat} {zs : List Int} (h : Own w B a n zs) {k : Nat} (hk : At a n k) : B ≤ k := by
  rcases h.at_ with h0 | ⟨g, off, rfl, hg, _⟩
  · exact absurd h0 hk.1
  · have := at_eq hk; omega

theorem Row.hi {w : World} {a : Option Addr} {n : Nat} {zs : List Int} (h : Row w a n zs) {k : Nat} (hk : At a n k) : k < w.heap.size := by
  rcases h.at_ with h0 | ⟨g, off, rfl, hg, _⟩
  · exact absurd h0 hk.1
  · have := at_eq hk; omega

/-- n marks from k on. -/
def marks (k : Int) (n : Nat) : List Int := (List.range n).map fun (i : Nat) => k + (i : Int)

theorem marks_len (k : Int) (n : Nat) : (marks k n).length = n := by simp [marks]
theorem marks_get (k : Int) (n i : Nat) (h : i < n) : (marks k n).getD i 0 = k + i := by simp [marks, h]

set_option maxHeartbeats 400000 in
theorem markIntS_any (a : Option Addr) (n cap B : Nat) (zs : List Int) (k : Int) (w : World) (h : Own w B a n zs) (hk0 : 0 ≤ k) (hk : k ≤ 4611686018427387904) :
    Calls Try.prog 53 #[.slice a n cap, .int .i64 k] w fun e w' => e = .returned (.int .i64 (k + n)) ∧ Own w' B a n (marks k n) ∧ But (At a n) w w' := by
  obtain ⟨hlen, hsm, hat⟩ := h
  go_enter Try.func53, Try.ntmps53
  go_wp2
  go_loopw [1, 5] (fun c i wr => ∃ j : Nat, j ≤ n ∧ i = .int .i64 j ∧ c = .int .i64 (k + j) ∧ But (At a n) w wr ∧
    (n = 0 ∨ ∃ g off, a = some ⟨g, off, none⟩ ∧ B ≤ g ∧ g < wr.heap.size ∧ (∀ i, i < j → wr.cell? ⟨g, off + i, none⟩ = some (.int .i64 (k + i))) ∧ (∀ i, i < n → (wr.cell? ⟨g, off + i, none⟩).isSome = true) ∧ (∀ i, i < n → wr.frozen? ⟨g, off + i, none⟩ = false))) (fun _ i _ => n - (intOf i).toNat)
  case atStart =>
    refine ⟨0, Nat.zero_le _, rfl, by simp, But.refl _ _, ?_⟩
    rcases hat with h0 | ⟨g, off, rfl, hg, hlt, hc, hf⟩
    · exact .inl h0
    · exact .inr ⟨g, off, rfl, hg, hlt, fun i hi => absurd hi (Nat.not_lt_zero _), fun i hi => by rw [hc i hi]; rfl, hf⟩
  case round =>
    obtain ⟨j, hj, rfl, rfl, hbut, hst⟩ := hrel
    by_cases hlt : j < n
    · rcases hst with h0 | ⟨g, off, rfl, hg, hgl, hc, hs, hf⟩
      · omega
      · clear hat
        have hs1 := hs j hlt
        have hf1 := hf j hlt
        obtain ⟨u, hu⟩ := Option.isSome_iff_exists.mp hs1
        have HB := hide hbut
        have HS := hide hs
        have HF := hide hf
        have HC := hide hc
        clear hbut hs hf hc
        go_wp2
        go_roundw
        case rel =>
          refine ⟨j + 1, by omega, by go_num, by go_num, (unhide HB).setCell (at_self (by omega)) _, .inr ⟨g, off, rfl, hg, by simpa using hgl, fun i hi => ?_, fun i hi => ?_, fun i hi => ?_⟩⟩
          · by_cases hij : i = j
            · subst hij
              exact World.cell?_setCell_same _ _ _ hu
            · rw [World.cell?_setCell_other _ _ _ _ (by simp <;> omega)]
              exact unhide HC i (by omega)
          · by_cases hij : i = j
            · subst hij
              rw [World.cell?_setCell_same _ _ _ hu]; rfl
            · rw [World.cell?_setCell_other _ _ _ _ (by simp <;> omega)]
              exact unhide HS i hi
          · simpa using unhide HF i hi
        case measure => simp [intOf]; omega
    · have hjn : j = n := by omega
      subst hjn
      have HB := hide hbut
      have HT := hide hst
      clear hbut hst hat
      go_wp2
      go_ret
      refine ⟨rfl, ⟨marks_len _ _, hsm, ?_⟩, unhide HB⟩
      rcases unhide HT with h0 | ⟨g, off, rfl, hg, hgl, hc, hs, hf⟩
      · exact .inl h0
      · exact .inr ⟨g, off, rfl, hg, hgl, fun i hi => by rw [marks_get _ _ _ hi]; exact hc i hi, hf⟩

set_option maxHeartbeats 400000 in
theorem heldIntS_marks (a : Option Addr) (n cap : Nat) (k : Int) (w : World) (h : Row w a n (marks k n)) (hk0 : 0 ≤ k) (hk : k ≤ 4611686018427387904) :
    Calls Try.prog 54 #[.slice a n cap, .int .i64 k] w fun e w' => e = .returned (.int .i64 (k + n)) ∧ w' = w := by
  obtain ⟨hlen, hsm, hat⟩ := h
  clear hlen
  go_enter Try.func54, Try.ntmps54
  go_wp2
  go_loop [1, 5] (fun c i => ∃ j : Nat, j ≤ n ∧ i = .int .i64 j ∧ c = .int .i64 (k + j)) (fun _ i => n - (intOf i).toNat)
  case atStart => exact ⟨0, Nat.zero_le _, rfl, by simp⟩
  case round =>
    obtain ⟨j, hj, rfl, rfl⟩ := hrel
    by_cases hlt : j < n
    · have ha : ∃ b off, a = some ⟨b, off, none⟩ ∧ w.cell? ⟨b, off + j, none⟩ = some (.int .i64 (k + j)) := by
        rcases hat with h0 | ⟨b, off, rfl, hlt', hc⟩
        · omega
        · exact ⟨b, off, rfl, by rw [← marks_get k n j hlt]; exact hc j hlt⟩
      obtain ⟨b, off, rfl, hc⟩ := ha
      clear hat
      go_wp2
      go_round
      case rel => exact ⟨j + 1, by omega, by go_num, by go_num⟩
      case measure => simp [intOf]; omega
    · have hjn : j = n := by omega
      subst hjn
      clear hat
      go_wp2
      go_ret
      exact ⟨rfl, rfl⟩

end Go.Proofs.Ytngbmcljhcckmaa
