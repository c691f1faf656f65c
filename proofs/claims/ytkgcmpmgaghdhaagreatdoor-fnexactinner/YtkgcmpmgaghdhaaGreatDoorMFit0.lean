import Derived.WalkKit
import Derived.WalkSpells
import Derived.Test.YtkgcmpmgaghdhaaGreatDoorChecked
import Derived.Deep.QuietTactic
import Derived.BigQuiet
import Derived.Deep.Draws
import Derived.Laws.CopyOwn
import Derived.Laws.Bits64b
import Derived.Deep.RegionHeld3
import Derived.Deep.DeepCutAuto
import Derived.Deep.RegionWith
import Derived.Deep.AppendLies
import Derived.Deep.WholeRow
import Derived.LaidEql
import Derived.Stop.Asserts
import Derived.RowKitTokens
import Derived.Shelf.Abstract
namespace Go.Proofs.YtkgcmpmgaghdhaaGreatDoor
open Go.RowKit

/-- The slice (a, n, _) reads as the numbers zs. -/
structure Row (w : World) (a : Option Addr) (n : Nat) (zs : List Int) : Prop where
  len : zs.length = n
  small : n ≤ 17592186044416
  at_ : n = 0 ∨ ∃ b off, a = some ⟨b, off, none⟩ ∧ b < w.heap.size ∧ ∀ i, i < n → w.cell? ⟨b, off + i, none⟩ = some (.int .i64 (zs.getD i 0))

theorem Row.below {w w' : World} {a : Option Addr} {n : Nat} {zs : List Int} {B : Nat} (h : Row w a n zs) (hB : w.heap.size ≤ B) (hb : Below B w w') : Row w' a n zs := by
  refine ⟨h.len, h.small, ?_⟩
  rcases h.at_ with h0 | ⟨b, off, rfl, hlt, hc⟩
  · exact .inl h0
  · exact .inr ⟨b, off, rfl, Nat.lt_of_lt_of_le hlt hb.size, fun i hi => (hb.cell (p := ⟨b, off + i, none⟩) (Nat.lt_of_lt_of_le hlt hB)).trans (hc i hi)⟩

/-- Block g holds just the numbers zs. -/
def Blk (w : World) (g : Nat) (zs : List Int) : Prop := w.heap[g]? = some (.cells (zs.map (Value.int .i64)).toArray 3 (0, 0))

theorem Blk.lt {w : World} {g : Nat} {zs : List Int} (h : Blk w g zs) : g < w.heap.size := lt_of_block h

theorem Blk.cell {w : World} {g : Nat} {zs : List Int} (h : Blk w g zs) {i : Nat} (hi : i < zs.length) : w.cell? ⟨g, i, none⟩ = some (.int .i64 (zs.getD i 0)) := by
  unfold Blk at h
  simp [World.cell?, h, hi]

theorem Blk.free {w : World} {g : Nat} {zs : List Int} (h : Blk w g zs) (i : Nat) : w.frozen? ⟨g, i, none⟩ = false := frozen_of_row w g i _ _ h

theorem Blk.row {w : World} {g n : Nat} {zs : List Int} (h : Blk w g zs) (hn : zs.length = n) (hs : n ≤ 17592186044416) : Row w (some ⟨g, 0, none⟩) n zs :=
  ⟨hn, hs, .inr ⟨g, 0, rfl, h.lt, fun i hi => by simpa using h.cell (i := i) (by omega)⟩⟩

theorem Blk.below {w w' : World} {g : Nat} {zs : List Int} {B : Nat} (h : Blk w g zs) (hB : w.heap.size ≤ B) (hb : Below B w w') : Blk w' g zs := (hb.block g (Nat.lt_of_lt_of_le h.lt hB)).trans h

theorem Blk.set {w : World} {g : Nat} {zs : List Int} (h : Blk w g zs) (i : Nat) (x : Int) : Blk (w.setCell ⟨g, i, none⟩ (.int .i64 x)) g (zs.set i x) := by
  unfold Blk at h ⊢
  rw [heap_setCell_same w g i _ _ _ h]
  simp [List.map_set]

theorem Blk.of_owns {w : World} {base g n : Nat} {zs : List Int} (h : w.ownsRow base 3 1 (.slice (some ⟨g, 0, none⟩) n n) n (zs.map (Value.int .i64))) : Blk w g zs := by
  rcases h.2 with ⟨h', _⟩ | ⟨g', cap', cur, h', _, hg, _, _, hs, ht⟩
  · simp at h'
  · simp only [Value.slice.injEq, Option.some.injEq, Addr.mk.injEq, and_true, true_and] at h'
    obtain ⟨rfl, rfl⟩ := h'
    unfold Blk
    rw [hg, ← ht, List.take_of_length_le (by simp; omega)]

theorem Blk.other {w : World} {g : Nat} {zs : List Int} (h : Blk w g zs) {p : Addr} (hp : g ≠ p.block) (v : Value) : Blk (w.setCell p v) g zs := (heap_setCell_other w p g v hp).trans h
theorem Blk.drew {w : World} {g : Nat} {zs : List Int} (h : Blk w g zs) : Blk w.drew g zs := h
theorem Blk.alloc {w : World} {g : Nat} {zs : List Int} (h : Blk w g zs) (o : Obj) : Blk (w.alloc o) g zs := (Below.heap_alloc w o g h.lt).trans h

theorem bcell {W w1 : World} (hb : Below W.heap.size W w1) : (∀ b o, b < W.heap.size → w1.cell? ⟨b, o, none⟩ = W.cell? ⟨b, o, none⟩) ∧ (∀ b o, b < W.heap.size → w1.frozen? ⟨b, o, none⟩ = W.frozen? ⟨b, o, none⟩) :=
  ⟨fun b o h => hb.cell (p := ⟨b, o, none⟩) h, fun b o h => hb.frozen (p := ⟨b, o, none⟩) h⟩

theorem hide {p : Prop} (h : p) : Hid p := h
theorem unhide {p : Prop} (h : Hid p) : p := h
theorem ret_bool {a b : Bool} (h : a = b) : Ending.returned (.bool a) = .returned (.bool b) := by rw [h]
theorem ret_int {k : IntKind} {a b : Int} (h : a = b) : Ending.returned (.int k a) = .returned (.int k b) := by rw [h]
theorem ret_ib {a a' : Int} {b b' : Bool} (ha : a = a') (hb : b = b') : Ending.returned (.tuple #[.int .i64 a, .bool b]) = .returned (.tuple #[.int .i64 a', .bool b']) := by rw [ha, hb]
theorem ret_two {a b a' b' : Int} (ha : a = a') (hb : b = b') : Ending.returned (.tuple #[.int .i64 a, .int .i64 b]) = .returned (.tuple #[.int .i64 a', .int .i64 b']) := by rw [ha, hb]

end Go.Proofs.YtkgcmpmgaghdhaaGreatDoor
namespace Go.Proofs.YtkgcmpmgaghdhaaGreatDoor
open Go.RowKit

theorem info_int : (Tryz.prog.info? 3).map (fun i => (i.zero, i.size, i.bytes)) = some (some (.int .i64 0), 1, 8) := by kernel_rfl

theorem take_set (zs : List Int) (m k : Nat) (h : k < zs.length) : (zs.take k ++ List.replicate (m + 1) (0 : Int)).set k (zs.getD k 0) = zs.take (k + 1) ++ List.replicate m 0 := by
  have hk : (zs.take k).length = k := by simp; omega
  have hx : zs.getD k 0 = zs[k] := by simp [h]
  rw [List.replicate_succ, List.set_append_right _ _ (by omega), hk, Nat.sub_self, List.set_cons_zero, hx, List.take_succ_eq_append_getElem h, List.append_assoc]
  rfl

end Go.Proofs.YtkgcmpmgaghdhaaGreatDoor
namespace Go.Proofs.YtkgcmpmgaghdhaaGreatDoor
open Go.RowKit

/-- The slice (a, n, _) reads as the numbers zs, lies in a block from B on, and may be written. -/
structure Own (w : World) (B : Nat) (a : Option Addr) (n : Nat) (zs : List Int) : Prop where
  len : zs.length = n
  small : n ≤ 17592186044416
  at_ : n = 0 ∨ ∃ g off, a = some ⟨g, off, none⟩ ∧ B ≤ g ∧ g < w.heap.size ∧ (∀ i, i < n → w.cell? ⟨g, off + i, none⟩ = some (.int .i64 (zs.getD i 0))) ∧ (∀ i, i < n → w.frozen? ⟨g, off + i, none⟩ = false)

theorem Own.row {w : World} {B : Nat} {a : Option Addr} {n : Nat} {zs : List Int} (h : Own w B a n zs) : Row w a n zs := by
  refine ⟨h.len, h.small, ?_⟩
  rcases h.at_ with h0 | ⟨g, off, rfl, _, hlt, hc, _⟩
  · exact .inl h0
  · exact .inr ⟨g, off, rfl, hlt, hc⟩

theorem Own.mono {w : World} {B B' : Nat} {a : Option Addr} {n : Nat} {zs : List Int} (h : Own w B a n zs) (hB : B' ≤ B) : Own w B' a n zs := by
  refine ⟨h.len, h.small, ?_⟩
  rcases h.at_ with h0 | ⟨g, off, rfl, hg, r⟩
  · exact .inl h0
  · exact .inr ⟨g, off, rfl, by omega, r⟩

theorem Own.below {w w' : World} {a : Option Addr} {n : Nat} {zs : List Int} {B C : Nat} (h : Own w C a n zs) (hB : w.heap.size ≤ B) (hb : Below B w w') : Own w' C a n zs := by
  refine ⟨h.len, h.small, ?_⟩
  rcases h.at_ with h0 | ⟨g, off, rfl, hg, hlt, hc, hf⟩
  · exact .inl h0
  · exact .inr ⟨g, off, rfl, hg, Nat.lt_of_lt_of_le hlt hb.size, fun i hi => (hb.cell (p := ⟨g, off + i, none⟩) (Nat.lt_of_lt_of_le hlt hB)).trans (hc i hi), fun i hi => (hb.frozen (p := ⟨g, off + i, none⟩) (Nat.lt_of_lt_of_le hlt hB)).trans (hf i hi)⟩

theorem Blk.own {w : World} {B g n : Nat} {zs : List Int} (h : Blk w g zs) (hn : zs.length = n) (hs : n ≤ 17592186044416) (hg : B ≤ g) : Own w B (some ⟨g, 0, none⟩) n zs :=
  ⟨hn, hs, .inr ⟨g, 0, rfl, hg, h.lt, fun i hi => by simpa using h.cell (i := i) (by omega), fun i hi => h.free _⟩⟩

/-- Block k holds cells of the slice (a, n, _). -/
def At (a : Option Addr) (n k : Nat) : Prop := n ≠ 0 ∧ ∃ p, a = some p ∧ p.block = k

theorem at_self {g off n : Nat} (h : n ≠ 0) : At (some ⟨g, off, none⟩) n g := ⟨h, _, rfl, rfl⟩
theorem at_eq {g off n k : Nat} (h : At (some ⟨g, off, none⟩) n k) : g = k := by obtain ⟨_, p, hp, hk⟩ := h; cases hp; exact hk

/-- w' is w but for the blocks in S, and for new ones. -/
structure But (S : Nat → Prop) (w w' : World) : Prop where
  os : w'.os = w.os
  tape : w'.tape = w.tape
  output : w'.output = w.output
  size : w.heap.size ≤ w'.heap.size
  block : ∀ k, k < w.heap.size → ¬ S k → w'.heap[k]? = w.heap[k]?

theorem But.refl (S : Nat → Prop) (w : World) : But S w w := ⟨rfl, rfl, rfl, Nat.le_refl _, fun _ _ _ => rfl⟩

theorem But.trans {S T : Nat → Prop} {w w1 w2 : World} (h : But S w w1) (k : But T w1 w2) : But (fun x => S x ∨ T x) w w2 :=
  ⟨k.os.trans h.os, k.tape.trans h.tape, k.output.trans h.output, Nat.le_trans h.size k.size, fun i hi hn => (k.block i (Nat.lt_of_lt_of_le hi h.size) (fun e => hn (.inr e))).trans (h.block i hi (fun e => hn (.inl e)))⟩

theorem But.mono {S T : Nat → Prop} {w w1 : World} (h : But S w w1) (hs : ∀ k, S k → T k) : But T w w1 := ⟨h.os, h.tape, h.output, h.size, fun k hk hn => h.block k hk (fun e => hn (hs k e))⟩

theorem But.of_below {S : Nat → Prop} {w w' : World} (h : Below w.heap.size w w') : But S w w' := ⟨h.os, h.tape, h.output, h.size, fun k hk _ => h.block k hk⟩

theorem But.setCell {S : Nat → Prop} {w w' : World} (h : But S w w') {p : Addr} (hp : S p.block) (v : Value) : But S w (w'.setCell p v) :=
  ⟨h.os, h.tape, h.output, by simpa using h.size, fun k hk hn => by
    rw [heap_setCell_other w' p k v (fun e => hn (by rw [e]; exact hp))]
    exact h.block k hk hn⟩

theorem But.alloc {S : Nat → Prop} {w w' : World} (h : But S w w') (o : Obj) : But S w (w'.alloc o) :=
  ⟨h.os, h.tape, h.output, by have := h.size; simp; omega, fun k hk hn => (Below.heap_alloc w' o k (Nat.lt_of_lt_of_le hk h.size)).trans (h.block k hk hn)⟩

theorem But.below {S : Nat → Prop} {B : Nat} {w w' : World} (h : But S w w') (hB : B ≤ w.heap.size) (hs : ∀ k, S k → B ≤ k) : Below B w w' :=
  ⟨h.os, h.tape, h.output, h.size, fun k hk => h.block k (Nat.lt_of_lt_of_le hk hB) (fun e => by have := hs k e; omega)⟩

/-- Two slices with cells lie in different blocks. -/
def Apart (a : Option Addr) (n : Nat) (b : Option Addr) (m : Nat) : Prop := ∀ k, At a n k → ¬ At b m k

theorem Apart.symm {a b : Option Addr} {n m : Nat} (h : Apart a n b m) : Apart b m a n := fun k h1 h2 => h k h2 h1

theorem But.own {S : Nat → Prop} {b : Option Addr} {m B : Nat} {w w' : World} {ys : List Int} (h : But S w w') (ho : Own w B b m ys) (hap : ∀ k, S k → ¬ At b m k) : Own w' B b m ys := by
  refine ⟨ho.len, ho.small, ?_⟩
  rcases ho.at_ with h0 | ⟨g, off, rfl, hg, hlt, hc, hf⟩
  · exact .inl h0
  · by_cases hm : m = 0
    · exact .inl hm
    have hb := h.block g hlt (fun e => hap g e ⟨hm, _, rfl, rfl⟩)
    exact .inr ⟨g, off, rfl, hg, Nat.lt_of_lt_of_le hlt h.size, fun i hi => (World.cell?_of_block (w := w) (a := ⟨g, off + i, none⟩) hb).trans (hc i hi), fun i hi => (World.frozen?_of_block (w := w) (a := ⟨g, off + i, none⟩) hb).trans (hf i hi)⟩

theorem But.row {S : Nat → Prop} {b : Option Addr} {m : Nat} {w w' : World} {ys : List Int} (h : But S w w') (ho : Row w b m ys) (hap : ∀ k, S k → ¬ At b m k) : Row w' b m ys := by
  refine ⟨ho.len, ho.small, ?_⟩
  rcases ho.at_ with h0 | ⟨g, off, rfl, hlt, hc⟩
  · exact .inl h0
  · by_cases hm : m = 0
    · exact .inl hm
    have hb := h.block g hlt (fun e => hap g e ⟨hm, _, rfl, rfl⟩)
    exact .inr ⟨g, off, rfl, Nat.lt_of_lt_of_le hlt h.size, fun i hi => (World.cell?_of_block (w := w) (a := ⟨g, off + i, none⟩) hb).trans (hc i hi)⟩

theorem Own.low {w : World} {B : Nat} {a : Option Addr} {n : Nat} {zs : List Int} (h : Own w B a n zs) {k : Nat} (hk : At a n k) : B ≤ k := by
  rcases h.at_ with h0 | ⟨g, off, rfl, hg, _⟩
  · exact absurd h0 hk.1
  · have := at_eq hk; omega

theorem Row.hi {w : World} {a : Option Addr} {n : Nat} {zs : List Int} (h : Row w a n zs) {k : Nat} (hk : At a n k) : k < w.heap.size := by
  rcases h.at_ with h0 | ⟨g, off, rfl, hg, _⟩
  · exact absurd h0 hk.1
  · have := at_eq hk; omega

/-- n marks from k on. -/
def marks (k : Int) (n : Nat) : List Int := (List.range n).map fun (i : Nat) => k + (i : Int)

theorem marks_len (k : Int) (n : Nat) : (marks k n).length = n := by simp [marks]
theorem marks_get (k : Int) (n i : Nat) (h : i < n) : (marks k n).getD i 0 = k + i := by simp [marks, h]

end Go.Proofs.YtkgcmpmgaghdhaaGreatDoor
namespace Go.Proofs.YtkgcmpmgaghdhaaGreatDoor
open Go.RowKit

set_option maxHeartbeats 400000 in
theorem markIntS_any (a : Option Addr) (n cap B : Nat) (zs : List Int) (k : Int) (w : World) (h : Own w B a n zs) (hk0 : 0 ≤ k) (hk : k ≤ 4611686018427387904) :
    Calls Tryz.prog 99 #[.slice a n cap, .int .i64 k] w fun e w' => e = .returned (.int .i64 (k + n)) ∧ Own w' B a n (marks k n) ∧ But (At a n) w w' := by
  obtain ⟨hlen, hsm, hat⟩ := h
  go_enter Tryz.func99, Tryz.ntmps99
  go_wp2
  go_loopw [1, 5] (fun c i wr => ∃ j : Nat, j ≤ n ∧ i = .int .i64 j ∧ c = .int .i64 (k + j) ∧ But (At a n) w wr ∧
    (n = 0 ∨ ∃ g off, a = some ⟨g, off, none⟩ ∧ B ≤ g ∧ g < wr.heap.size ∧ (∀ i, i < j → wr.cell? ⟨g, off + i, none⟩ = some (.int .i64 (k + i))) ∧ (∀ i, i < n → (wr.cell? ⟨g, off + i, none⟩).isSome = true) ∧ (∀ i, i < n → wr.frozen? ⟨g, off + i, none⟩ = false))) (fun _ i _ => n - (intOf i).toNat)
  case atStart =>
    refine ⟨0, Nat.zero_le _, rfl, by simp, But.refl _ _, ?_⟩
    rcases hat with h0 | ⟨g, off, rfl, hg, hlt, hc, hf⟩
    · exact .inl h0
    · exact .inr ⟨g, off, rfl, hg, hlt, fun i hi => absurd hi (Nat.not_lt_zero _), fun i hi => by rw [hc i hi]; rfl, hf⟩
  case round =>
    obtain ⟨j, hj, rfl, rfl, hbut, hst⟩ := hrel
    by_cases hlt : j < n
    · rcases hst with h0 | ⟨g, off, rfl, hg, hgl, hc, hs, hf⟩
      · omega
      · clear hat
        have hs1 := hs j hlt
        have hf1 := hf j hlt
        obtain ⟨u, hu⟩ := Option.isSome_iff_exists.mp hs1
        have HB := hide hbut
        have HS := hide hs
        have HF := hide hf
        have HC := hide hc
        clear hbut hs hf hc
        go_wp2
        go_roundw
        case rel =>
          refine ⟨j + 1, by omega, by go_num, by go_num, (unhide HB).setCell (at_self (by omega)) _, .inr ⟨g, off, rfl, hg, by simpa using hgl, fun i hi => ?_, fun i hi => ?_, fun i hi => ?_⟩⟩
          · by_cases hij : i = j
            · subst hij
              exact World.cell?_setCell_same _ _ _ hu
            · rw [World.cell?_setCell_other _ _ _ _ (by simp <;> omega)]
              exact unhide HC i (by omega)
          · by_cases hij : i = j
            · subst hij
              rw [World.cell?_setCell_same _ _ _ hu]; rfl
            · rw [World.cell?_setCell_other _ _ _ _ (by simp <;> omega)]
              exact unhide HS i hi
          · simpa using unhide HF i hi
        case measure => simp [intOf]; omega
    · have hjn : j = n := by omega
      subst hjn
      have HB := hide hbut
      have HT := hide hst
      clear hbut hst hat
      go_wp2
      go_ret
      refine ⟨rfl, ⟨marks_len _ _, hsm, ?_⟩, unhide HB⟩
      rcases unhide HT with h0 | ⟨g, off, rfl, hg, hgl, hc, hs, hf⟩
      · exact .inl h0
      · exact .inr ⟨g, off, rfl, hg, hgl, fun i hi => by rw [marks_get _ _ _ hi]; exact hc i hi, hf⟩

end Go.Proofs.YtkgcmpmgaghdhaaGreatDoor
namespace Go.Proofs.YtkgcmpmgaghdhaaGreatDoor
open Go.RowKit

set_option maxHeartbeats 400000 in
theorem heldIntS_marks (a : Option Addr) (n cap : Nat) (k : Int) (w : World) (h : Row w a n (marks k n)) (hk0 : 0 ≤ k) (hk : k ≤ 4611686018427387904) :
    Calls Tryz.prog 100 #[.slice a n cap, .int .i64 k] w fun e w' => e = .returned (.int .i64 (k + n)) ∧ w' = w := by
  obtain ⟨hlen, hsm, hat⟩ := h
  clear hlen
  go_enter Tryz.func100, Tryz.ntmps100
  go_wp2
  go_loop [1, 5] (fun c i => ∃ j : Nat, j ≤ n ∧ i = .int .i64 j ∧ c = .int .i64 (k + j)) (fun _ i => n - (intOf i).toNat)
  case atStart => exact ⟨0, Nat.zero_le _, rfl, by simp⟩
  case round =>
    obtain ⟨j, hj, rfl, rfl⟩ := hrel
    by_cases hlt : j < n
    · have ha : ∃ b off, a = some ⟨b, off, none⟩ ∧ w.cell? ⟨b, off + j, none⟩ = some (.int .i64 (k + j)) := by
        rcases hat with h0 | ⟨b, off, rfl, hlt', hc⟩
        · omega
        · exact ⟨b, off, rfl, by rw [← marks_get k n j hlt]; exact hc j hlt⟩
      obtain ⟨b, off, rfl, hc⟩ := ha
      clear hat
      go_wp2
      go_round
      case rel => exact ⟨j + 1, by omega, by go_num, by go_num⟩
      case measure => simp [intOf]; omega
    · have hjn : j = n := by omega
      subst hjn
      clear hat
      go_wp2
      go_ret
      exact ⟨rfl, rfl⟩

end Go.Proofs.YtkgcmpmgaghdhaaGreatDoor
namespace Go.Proofs.YtkgcmpmgaghdhaaGreatDoor
open Go.RowKit

theorem szIntS_big (a : Option Addr) (n cap : Nat) (left : Int) (w : World) (hn : n ≤ 9223372036854775807) (hl : 0 ≤ left) (hl2 : left ≤ 1048576) (h : left < n) :
    Calls Tryz.prog 85 #[.slice a n cap, .int .i64 left] w fun e w' => e = .returned (.int .i64 (-1)) ∧ w' = w := by
  go_enter Tryz.func85, Tryz.ntmps85
  go_wp2
  go_ret
  exact ⟨rfl, rfl⟩

theorem szIntS_ok (a : Option Addr) (n cap : Nat) (left : Int) (w : World) (hl2 : left ≤ 1048576) (h : n ≤ left) :
    Calls Tryz.prog 85 #[.slice a n cap, .int .i64 left] w fun e w' => e = .returned (.int .i64 (left - n)) ∧ w' = w := by
  go_enter Tryz.func85, Tryz.ntmps85
  go_wp2
  go_ret
  exact ⟨rfl, rfl⟩

set_option maxHeartbeats 400000 in
theorem toIntS_any (a : Option Addr) (n cap : Nat) (zs : List Int) (w : World) (h : Row w a n zs) :
    Calls Tryz.prog 92 #[.slice a n cap] w fun e w' => ∃ g, e = .returned (.slice (some ⟨g, 0, none⟩) n n) ∧ w.heap.size ≤ g ∧ Blk w' g zs ∧ Below w.heap.size w w' := by
  obtain ⟨hlen, hsm, hat⟩ := h
  obtain ⟨i0, hi, hz0, hz1, hz2⟩ := info_parts info_int
  go_enter Tryz.func92, Tryz.ntmps92
  go_wp2_with (at_make; refine wpList_make_full _ rfl _ _ 23 rfl w.heap.size 3 i0 (.int .i64 0) 1 Tryz.underlying23 hi hz0 hz1 _ _ _ _ n rfl rfl rfl rfl (by rw [hz2]; omega) (by unfold maxLen; omega) (Nat.le_refl _) ?_; intro w1 hown hgrow)
  have hblk : Blk w1 w.heap.size (zs.take 0 ++ List.replicate (n - 0) 0) := Blk.of_owns (n := n) (base := w.heap.size) (by simpa [toList_madeCells_one, Value.cells] using hown)
  have hbel : Below w.heap.size w w1 := (Below.refl _ _).grown hgrow (Nat.le_refl _) (by simp)
  clear hown hgrow hi hz0 hz1 hz2
  go_wp2
  go_loopw [4] (fun i wr => ∃ k : Nat, k ≤ n ∧ i = .int .i64 k ∧ Blk wr w.heap.size (zs.take k ++ List.replicate (n - k) 0) ∧ Below w.heap.size w wr) (fun i _ => n - (intOf i).toNat)
  case atStart => exact ⟨0, Nat.zero_le _, rfl, hblk, hbel⟩
  case round =>
    obtain ⟨k, hk, rfl, hb, hbl⟩ := hrel
    clear hblk hbel
    by_cases hlt : k < n
    · have hat' : ∃ b off, a = some ⟨b, off, none⟩ ∧ wr.cell? ⟨b, off + k, none⟩ = some (.int .i64 (zs.getD k 0)) := by
        rcases hat with h0 | ⟨b, off, rfl, hlt', hc⟩
        · omega
        · exact ⟨b, off, rfl, (hbl.cell (p := ⟨b, off + k, none⟩) hlt').trans (hc k hlt)⟩
      obtain ⟨b, off, rfl, hc⟩ := hat'
      clear hat
      obtain ⟨x, hx⟩ : ∃ x, x = zs.getD k 0 := ⟨_, rfl⟩
      rw [← hx] at hc
      have hc2 := hb.cell (i := k) (by simp; omega)
      have hf2 := hb.free k
      have hs := hb.set k x
      have HR : Hid (Blk (wr.setCell ⟨w.heap.size, k, none⟩ (.int .i64 x)) w.heap.size (zs.take (k + 1) ++ List.replicate (n - (k + 1)) 0)) := by
        have e : n - k = n - (k + 1) + 1 := by omega
        rw [e, hx, take_set zs _ k (by omega)] at hs
        rw [hx]
        exact hs
      clear hs hb hx
      go_wp2
      go_roundw
      case rel => exact ⟨k + 1, by omega, by go_num, HR.out, hbl.setCell (Nat.le_refl _) _⟩
      case measure => simp [intOf]; omega
    · have hkn : k = n := by omega
      subst hkn
      go_wp2
      go_ret
      exact ⟨_, rfl, Nat.le_refl _, by simpa [List.take_of_length_le (Nat.le_of_eq hlen)] using hb, hbl⟩

theorem take_step {xs ys : List Int} {n k : Nat} (hx : xs.length = n) (hy : ys.length = n) (hk : k < n) (h : xs.take k = ys.take k) (he : xs.getD k 0 = ys.getD k 0) : xs.take (k + 1) = ys.take (k + 1) := by
  have e1 : xs.getD k 0 = xs[k] := by simp [hx, hk]
  have e2 : ys.getD k 0 = ys[k] := by simp [hy, hk]
  rw [List.take_succ_eq_append_getElem (by omega), List.take_succ_eq_append_getElem (by omega), h, ← e1, ← e2, he]

set_option maxHeartbeats 400000 in
theorem eqIntS_any (a b : Option Addr) (n m ca cb : Nat) (xs ys : List Int) (w : World) (hx : Row w a n xs) (hy : Row w b m ys) :
    Calls Tryz.prog 21 #[.slice a n ca, .slice b m cb] w fun e w' => e = .returned (.bool (decide (xs = ys))) ∧ ∃ q, w' = w.drewN q := by
  obtain ⟨hxl, hxs, hxa⟩ := hx
  obtain ⟨hyl, hys, hya⟩ := hy
  by_cases hne : n = m
  · subst hne
    have hn : ((n : Int) != (n : Int)) = false := by simp
    go_enter Tryz.func21, Tryz.ntmps21
    go_wp2
    go_loopw [5] (fun i wr => ∃ k : Nat, k ≤ n ∧ i = .int .i64 k ∧ xs.take k = ys.take k ∧ ∃ q, wr = w.drewN q) (fun i _ => n - (intOf i).toNat)
    case atStart => exact ⟨0, Nat.zero_le _, rfl, rfl, 0, rfl⟩
    case round =>
      obtain ⟨k, hk, rfl, htk, q, rfl⟩ := hrel
      by_cases hlt : k < n
      · have ha : ∃ b off, a = some ⟨b, off, none⟩ ∧ w.cell? ⟨b, off + k, none⟩ = some (.int .i64 (xs.getD k 0)) := by
          rcases hxa with h0 | ⟨b, off, rfl, hlt', hc⟩
          · omega
          · exact ⟨b, off, rfl, hc k hlt⟩
        have hb : ∃ b' off, b = some ⟨b', off, none⟩ ∧ w.cell? ⟨b', off + k, none⟩ = some (.int .i64 (ys.getD k 0)) := by
          rcases hya with h0 | ⟨b, off, rfl, hlt', hc⟩
          · omega
          · exact ⟨b, off, rfl, hc k hlt⟩
        obtain ⟨b1, o1, rfl, hc1⟩ := ha
        obtain ⟨b2, o2, rfl, hc2⟩ := hb
        clear hxa hya
        obtain ⟨x, hx⟩ : ∃ x, x = xs.getD k 0 := ⟨_, rfl⟩
        obtain ⟨y, hy⟩ : ∃ y, y = ys.getD k 0 := ⟨_, rfl⟩
        rw [← hx] at hc1
        rw [← hy] at hc2
        have HX : Hid (x = xs.getD k 0) := hx
        have HY : Hid (y = ys.getD k 0) := hy
        have HT : Hid (xs.take k = ys.take k) := htk
        have HL : Hid (xs.length = n ∧ ys.length = n) := ⟨hxl, hyl⟩
        clear hx hy htk hxl hyl
        by_cases hxy : x = y
        · have hb : (x != y) = false := by simp [hxy]
          have HXY : Hid (x = y) := hxy
          clear hxy
          go_wp2
          go_quiet (fail)
          go_wp2
          go_roundw
          case rel => exact ⟨k + 1, by omega, by go_num, take_step HL.out.1 HL.out.2 hlt HT.out (HX.out.symm.trans (HXY.out.trans HY.out)), _, by first | rfl | exact World.drewN_drewN _ _ _⟩
          case measure => simp [intOf]; omega
        · have hb : (x != y) = true := by simp [hxy]
          have HN : Hid (¬ xs = ys) := fun e => hxy (by rw [HX.out, HY.out, e])
          clear hxy
          go_wp2
          go_quiet (fail)
          go_wp2
          go_ret
          exact ⟨ret_bool (decide_eq_false HN.out).symm, _, World.drewN_drewN _ _ _⟩
      · have hkn : k = n := by omega
        have HE : Hid (xs = ys) := by
          show xs = ys
          rwa [List.take_of_length_le (by omega), List.take_of_length_le (by omega)] at htk
        clear htk
        subst hkn
        go_wp2
        go_ret
        exact ⟨ret_bool (decide_eq_true HE.out).symm, _, rfl⟩
  · have hn : ((n : Int) != (m : Int)) = true := by simp; omega
    have HN : Hid (¬ xs = ys) := fun e => hne (by rw [← hxl, ← hyl, e])
    clear hne
    go_enter Tryz.func21, Tryz.ntmps21
    go_wp2
    go_ret
    exact ⟨ret_bool (decide_eq_false HN.out).symm, 0, rfl⟩

end Go.Proofs.YtkgcmpmgaghdhaaGreatDoor
namespace Go.Proofs.YtkgcmpmgaghdhaaGreatDoor
open Go.RowKit

theorem Row.alloc {w : World} {a : Option Addr} {n : Nat} {zs : List Int} (h : Row w a n zs) (o : Obj) : Row (w.alloc o) a n zs := h.below (Nat.le_refl _) ((Below.refl _ _).alloc (Nat.le_refl _) _)
theorem Row.drewN {w : World} {a : Option Addr} {n : Nat} {zs : List Int} (h : Row w a n zs) (q : Nat) : Row (w.drewN q) a n zs := ⟨h.len, h.small, h.at_⟩
theorem Below.drewN {B : Nat} {a w : World} (h : Below B a w) (q : Nat) : Below B a (w.drewN q) := h.trans ⟨rfl, rfl, rfl, Nat.le_refl _, fun _ _ => rfl⟩

theorem Row.get {w : World} {a : Option Addr} {n : Nat} {zs : List Int} (h : Row w a n zs) {k : Nat} (hk : k < n) : ∃ b off, a = some ⟨b, off, none⟩ ∧ b < w.heap.size ∧ w.cell? ⟨b, off + k, none⟩ = some (.int .i64 (zs.getD k 0)) := by
  rcases h.at_ with h0 | ⟨b, off, rfl, hlt, hc⟩
  · omega
  · exact ⟨b, off, rfl, hlt, hc k hk⟩

end Go.Proofs.YtkgcmpmgaghdhaaGreatDoor

namespace Go.Proofs.YtkgcmpmgaghdhaaGreatDoor
open Go.RowKit

theorem Own.alloc {w : World} {B : Nat} {a : Option Addr} {n : Nat} {zs : List Int} (h : Own w B a n zs) (o : Obj) : Own (w.alloc o) B a n zs := h.below (Nat.le_refl _) ((Below.refl _ _).alloc (Nat.le_refl _) _)

end Go.Proofs.YtkgcmpmgaghdhaaGreatDoor
namespace Go.Proofs.YtkgcmpmgaghdhaaGreatDoor

def runeOk (v : Int) : Bool := decide (0 ≤ v ∧ v ≤ 1114111 ∧ (v < 55296 ∨ 57343 < v))

def inCells (v : Int) : Bool := decide (0 ≤ v ∧ v ≤ 10000)

/-- The product of the numbers of a shape that are not 0, going from the front; none when it passes 10000. -/
def prodFrom : List Int → Int → Option Int
  | [], n => some n
  | x :: r, n => if x = 0 then prodFrom r n else if 10000 < n * x then none else prodFrom r (n * x)

def countOf (sh : List Int) : Int :=
  if sh.all inCells then
    match prodFrom sh 1 with
    | none => -1
    | some n => if 0 ∈ sh then 0 else n
  else -1

def dataOk (c : Bool) (v : Int) : Bool := (!c || runeOk v) && decide (-1000000000000000 ≤ v ∧ v ≤ 1000000000000000)

def arrOk (c : Bool) (sh dt : List Int) : Bool := decide (sh.length ≤ 5) && (decide (countOf sh = dt.length) && dt.all (dataOk c))

theorem prodFrom_snoc (xs : List Int) (x n : Int) : prodFrom (xs ++ [x]) n = (prodFrom xs n).bind (fun m => prodFrom [x] m) := by
  induction xs generalizing n with
  | nil => simp [prodFrom]
  | cons y r ih =>
    simp only [List.cons_append, prodFrom]
    split
    · exact ih n
    · split
      · simp
      · exact ih _

theorem prodFrom_bd (xs : List Int) (n m : Int) (hx : xs.all inCells = true) (h1 : 1 ≤ n) (h2 : n ≤ 10000) (h : prodFrom xs n = some m) : 1 ≤ m ∧ m ≤ 10000 := by
  induction xs generalizing n with
  | nil => simp [prodFrom] at h; omega
  | cons y r ih =>
    simp only [List.all_cons, Bool.and_eq_true] at hx
    have hy : 0 ≤ y ∧ y ≤ 10000 := by simpa [inCells] using hx.1
    simp only [prodFrom] at h
    split at h
    · exact ih n hx.2 h1 h2 h
    · split at h
      · simp at h
      · rename_i h0 hle
        refine ih (n * y) hx.2 ?_ (by omega) h
        have : 1 * 1 ≤ n * y := Int.mul_le_mul h1 (by omega) (by omega) (by omega)
        omega

theorem prodFrom_none_append (xs ys : List Int) (n : Int) (h : prodFrom xs n = none) : prodFrom (xs ++ ys) n = none := by
  induction xs generalizing n with
  | nil => simp [prodFrom] at h
  | cons y r ih =>
    simp only [List.cons_append, prodFrom] at h ⊢
    split at h
    · rename_i h0; rw [if_pos h0]; exact ih n h
    · rename_i h0; rw [if_neg h0]
      split at h
      · rename_i h1; rw [if_pos h1]
      · rename_i h1; rw [if_neg h1]; exact ih _ h

theorem take_snoc (xs : List Int) (k : Nat) (h : k < xs.length) : xs.take (k + 1) = xs.take k ++ [xs.getD k 0] := by
  rw [List.take_succ_eq_append_getElem h]; simp [h]

theorem all_step (xs : List Int) (p : Int → Bool) (k : Nat) (h : k < xs.length) (ha : (xs.take k).all p = true) (hp : p (xs.getD k 0) = true) : (xs.take (k + 1)).all p = true := by
  rw [take_snoc xs k h, List.all_append, ha]; simpa using hp

theorem all_not (xs : List Int) (p : Int → Bool) (k : Nat) (h : k < xs.length) (hp : p (xs.getD k 0) = false) : xs.all p = false := by
  rw [← Bool.not_eq_true, List.all_eq_true]
  intro hh
  have := hh (xs.getD k 0) (by simp [h])
  rw [hp] at this
  exact absurd this (by simp)

theorem zero_step (xs : List Int) (k : Nat) (h : k < xs.length) : decide (0 ∈ xs.take (k + 1)) = (decide (0 ∈ xs.take k) || decide (xs.getD k 0 = 0)) := by
  rw [take_snoc xs k h]
  generalize xs.take k = t
  generalize xs.getD k 0 = y
  by_cases h1 : 0 ∈ t <;> by_cases h2 : y = 0 <;> simp [h1, h2]
  exact fun e => h2 e.symm

theorem prod_step0 (xs : List Int) (k : Nat) (h : k < xs.length) (n : Int) (hp : prodFrom (xs.take k) 1 = some n) (h0 : xs.getD k 0 = 0) : prodFrom (xs.take (k + 1)) 1 = some n := by
  rw [take_snoc xs k h, prodFrom_snoc, hp, h0]; simp [prodFrom]

theorem prod_step (xs : List Int) (k : Nat) (h : k < xs.length) (n : Int) (hp : prodFrom (xs.take k) 1 = some n) (h0 : xs.getD k 0 ≠ 0) (hl : n * xs.getD k 0 ≤ 10000) : prodFrom (xs.take (k + 1)) 1 = some (n * xs.getD k 0) := by
  rw [take_snoc xs k h, prodFrom_snoc, hp]; simp only [Option.bind_some, prodFrom, if_neg h0]; rw [if_neg (by omega)]

theorem prod_none (xs : List Int) (k : Nat) (h : k < xs.length) (n : Int) (hp : prodFrom (xs.take k) 1 = some n) (h0 : xs.getD k 0 ≠ 0) (hl : 10000 < n * xs.getD k 0) : prodFrom xs 1 = none := by
  have : prodFrom (xs.take (k + 1)) 1 = none := by
    rw [take_snoc xs k h, prodFrom_snoc, hp]; simp only [Option.bind_some, prodFrom, if_neg h0]; rw [if_pos hl]
  rw [← List.take_append_drop (k + 1) xs]
  exact prodFrom_none_append _ _ _ this

theorem count_bad (sh : List Int) (h : sh.all inCells = false) : countOf sh = -1 := by simp [countOf, h]
theorem count_big (sh : List Int) (h : prodFrom sh 1 = none) : countOf sh = -1 := by unfold countOf; rw [h]; split <;> rfl
theorem count_zero (sh : List Int) (n : Int) (ha : sh.all inCells = true) (h : prodFrom sh 1 = some n) (h0 : decide (0 ∈ sh) = true) : countOf sh = 0 := by
  unfold countOf; rw [h, if_pos ha]; simp only []; rw [if_pos (of_decide_eq_true h0)]
theorem count_n (sh : List Int) (n : Int) (ha : sh.all inCells = true) (h : prodFrom sh 1 = some n) (h0 : decide (0 ∈ sh) = false) : countOf sh = n := by
  unfold countOf; rw [h, if_pos ha]; simp only []; rw [if_neg (of_decide_eq_false h0)]

theorem count_bd (sh : List Int) : -1 ≤ countOf sh ∧ countOf sh ≤ 10000 := by
  unfold countOf
  split
  · rename_i ha
    split
    · omega
    · rename_i n hn
      have := prodFrom_bd sh 1 n ha (by omega) (by omega) hn
      split <;> omega
  · omega

end Go.Proofs.YtkgcmpmgaghdhaaGreatDoor
namespace Go.Proofs.YtkgcmpmgaghdhaaGreatDoor
open Go.RowKit

set_option maxHeartbeats 1000000 in
theorem l3Count_any (a : Option Addr) (n cap : Nat) (sh : List Int) (w : World) (h : Row w a n sh) : Calls Tryz.prog 41 #[.slice a n cap] w fun e w' => e = .returned (.int .i64 (countOf sh)) ∧ w' = w := by
  have hlen := hide h.len
  have hsm := h.small
  have H := hide h
  clear h
  go_enter Tryz.func41, Tryz.ntmps41
  go_wp2
  go_loop [4] (fun i => ∃ k : Nat, k ≤ n ∧ i = .int .i64 k ∧ Hid ((sh.take k).all inCells = true)) (fun i => n - (intOf i).toNat)
  case atStart => exact ⟨0, Nat.zero_le _, rfl, rfl⟩
  case round =>
    obtain ⟨k, hk, rfl, hall⟩ := hrel
    by_cases hlt : k < n
    · obtain ⟨b, off, rfl, hblt, hc⟩ := (unhide H).get hlt
      have hks : Hid (k < sh.length) := by show k < sh.length; rw [unhide hlen]; exact hlt
      obtain ⟨x, hx⟩ : ∃ x, x = sh.getD k 0 := ⟨_, rfl⟩
      rw [← hx] at hc
      have HX := hide hx
      clear hx
      by_cases hneg : x < 0
      · have HE : Hid (countOf sh = -1) := count_bad sh (all_not sh inCells k (unhide hks) (by rw [← unhide HX]; exact decide_eq_false (by omega)))
        go_wp2
        go_ret
        exact ⟨ret_int HE.out.symm, rfl⟩
      · by_cases hbig : 10000 < x
        · have HE : Hid (countOf sh = -1) := count_bad sh (all_not sh inCells k (unhide hks) (by rw [← unhide HX]; exact decide_eq_false (by omega)))
          go_wp2
          go_ret
          exact ⟨ret_int HE.out.symm, rfl⟩
        · have HA : Hid ((sh.take (k + 1)).all inCells = true) := all_step sh inCells k (unhide hks) (unhide hall) (by rw [← unhide HX]; exact decide_eq_true (by omega))
          go_wp2
          go_round
          case rel => exact ⟨k + 1, by omega, by go_num, HA⟩
          case measure => simp [intOf]; omega
    · have HA : Hid (sh.all inCells = true) := by
        have := unhide hall
        rwa [List.take_of_length_le (by rw [unhide hlen]; omega)] at this
      clear hall
      go_wp2
      go_loop [3, 5, 6] (fun p z i => ∃ (k : Nat) (m : Int), k ≤ n ∧ i = .int .i64 k ∧ p = .int .i64 m ∧ Hid (prodFrom (sh.take k) 1 = some m) ∧ z = .bool (decide (0 ∈ sh.take k))) (fun _ _ i => n - (intOf i).toNat)
      case atStart => exact ⟨0, 1, Nat.zero_le _, rfl, rfl, rfl, rfl⟩
      case round =>
        obtain ⟨k, m, hk, rfl, rfl, hp, rfl⟩ := hrel
        have hmb := prodFrom_bd (sh.take k) 1 m (by rw [List.all_eq_true]; exact fun x hx => List.all_eq_true.1 (unhide HA) x (List.mem_of_mem_take hx)) (by omega) (by omega) (unhide hp)
        obtain ⟨hm1, hm2⟩ := hmb
        by_cases hlt : k < n
        · obtain ⟨b, off, rfl, hblt, hc⟩ := (unhide H).get hlt
          have hks : Hid (k < sh.length) := by show k < sh.length; rw [unhide hlen]; exact hlt
          have hxb : 0 ≤ sh.getD k 0 ∧ sh.getD k 0 ≤ 10000 := of_decide_eq_true (List.all_eq_true.1 (unhide HA) (sh.getD k 0) (by simp [unhide hks]))
          have HZ := hide (zero_step sh k (unhide hks))
          obtain ⟨x, hx⟩ : ∃ x, x = sh.getD k 0 := ⟨_, rfl⟩
          rw [← hx] at hc hxb
          obtain ⟨hx0, hx1⟩ := hxb
          have HX := hide hx
          clear hx
          generalize decide (0 ∈ sh.take k) = z0 at *
          by_cases h0 : x = 0
          · have hb : (x == 0) = true := by simp [h0]
            have HP := hide (prod_step0 sh k (unhide hks) m (unhide hp) (by rw [← unhide HX]; exact h0))
            have HZ2 : Hid (true = decide (0 ∈ sh.take (k + 1))) := by show _ = _; rw [unhide HZ, ← unhide HX, decide_eq_true h0, Bool.or_true]
            clear h0 HZ
            go_wp2
            go_round
            case rel => exact ⟨k + 1, m, by omega, by go_num, rfl, HP, by rw [← unhide HZ2]⟩
            case measure => simp [intOf]; omega
          · have hb : (x == 0) = false := by simp [h0]
            have HZ2 : Hid (z0 = decide (0 ∈ sh.take (k + 1))) := by show _ = _; rw [unhide HZ, ← unhide HX, decide_eq_false h0, Bool.or_false]
            have hmx : m * x ≤ 10000 * 10000 := Int.mul_le_mul hm2 hx1 hx0 (by omega)
            have hmx0 : 0 ≤ m * x := Int.mul_nonneg (by omega) hx0
            by_cases hbig : 10000 < m * x
            · have HE : Hid (countOf sh = -1) := count_big sh (prod_none sh k (unhide hks) m (unhide hp) (by rw [← unhide HX]; exact h0) (by rw [← unhide HX]; exact hbig))
              clear h0 HZ
              go_wp2
              go_ret
              exact ⟨ret_int HE.out.symm, rfl⟩
            · have HP := hide (prod_step sh k (unhide hks) m (unhide hp) (by rw [← unhide HX]; exact h0) (by rw [← unhide HX]; omega))
              rw [← unhide HX] at HP
              clear h0 HZ
              go_wp2
              go_round
              case rel => exact ⟨k + 1, m * x, by omega, by go_num, rfl, HP, by rw [← unhide HZ2]⟩
              case measure => simp [intOf]; omega
        · have HP : Hid (prodFrom sh 1 = some m) := by
            have := unhide hp
            rwa [List.take_of_length_le (by rw [unhide hlen]; omega)] at this
          rw [List.take_of_length_le (by rw [unhide hlen]; omega)]
          by_cases hz : 0 ∈ sh
          · have hd : decide (0 ∈ sh) = true := decide_eq_true hz
            have HE := hide (count_zero sh m (unhide HA) (unhide HP) hd)
            clear hz
            rw [hd]
            go_wp2
            go_ret
            exact ⟨ret_int HE.out.symm, rfl⟩
          · have hd : decide (0 ∈ sh) = false := decide_eq_false hz
            have HE := hide (count_n sh m (unhide HA) (unhide HP) hd)
            clear hz
            rw [hd]
            go_wp2
            go_ret
            exact ⟨ret_int HE.out.symm, rfl⟩

theorem l3Count_eq (a : Option Addr) (n cap : Nat) (sh : List Int) (w : World) (h : Row w a n sh) (cn : Int) (hc : Hid (countOf sh = cn)) : Calls Tryz.prog 41 #[.slice a n cap] w fun e w' => e = .returned (.int .i64 cn) ∧ w' = w := by
  rw [← hc.out]; exact l3Count_any a n cap sh w h

end Go.Proofs.YtkgcmpmgaghdhaaGreatDoor
namespace Go.Proofs.YtkgcmpmgaghdhaaGreatDoor
open Go.RowKit

theorem Own.of_owns {w : World} {base n : Nat} {v : Value} {zs : List Int} (h : w.ownsRow base 3 1 v n (zs.map (Value.int .i64))) (hs : n ≤ 17592186044416) : ∃ a cap, v = .slice a n cap ∧ Own w base a n zs := by
  have hl : zs.length = n := by simpa using h.1
  rcases h.2 with ⟨rfl, h0⟩ | ⟨g, cap, cur, rfl, hb, hg, _, _, hcs, ht⟩
  · exact ⟨none, 0, by rw [h0], hl, hs, .inl h0⟩
  · refine ⟨some ⟨g, 0, none⟩, cap, rfl, hl, hs, .inr ⟨g, 0, rfl, hb, lt_of_block hg, fun i hi => ?_, fun i hi => frozen_of_row w g _ _ _ hg⟩⟩
    have e : cur.toList[i]? = some (.int .i64 (zs.getD i 0)) := by
      have : (cur.toList.take (n * 1))[i]? = (zs.map (Value.int .i64))[i]? := by rw [ht]
      rw [List.getElem?_take, if_pos (by omega)] at this
      rw [this]
      simp [hl, hi]
    simpa [World.cell?, hg] using e

theorem cells_ints {w : World} {ad : Addr} {n : Nat} {zs : List Int} (h : Row w (some ad) n zs) : ∀ (j : Nat) u, (zs.map (Value.int .i64))[j]? = some u → w.cell? (ad.add j) = some u := by
  intro j u hj
  have hl := h.len
  have hj' : j < n := by
    rcases Nat.lt_or_ge j n with h' | h'
    · exact h'
    · rw [List.getElem?_eq_none (by simp; omega)] at hj; cases hj
  obtain ⟨b, off, hab, hblt, hc⟩ := h.get hj'
  cases hab
  have hadd : (⟨b, off, none⟩ : Addr).add j = ⟨b, off + j, none⟩ := by by_cases h : j = 0 <;> simp [Addr.add, h]
  rw [hadd, hc]
  simpa [hl, hj'] using hj

theorem one_ints (zs : List Int) : ∀ u ∈ zs.map (Value.int .i64), u.oneCell' = true := by
  intro u hu
  obtain ⟨x, _, rfl⟩ := List.mem_map.mp hu
  rfl

theorem owns_empty (w : World) : (w.alloc (.cells #[] 3)).ownsRow w.heap.size 3 1 (.slice (some ⟨w.heap.size, 0, none⟩) 0 0) 0 [] := by
  refine ⟨by simp, .inr ⟨w.heap.size, 0, #[], rfl, Nat.le_refl _, ?_, by simp, by unfold maxLen; omega, by simp, by simp⟩⟩
  show (w.heap.push _)[w.heap.size]? = _
  simp

set_option maxHeartbeats 400000 in
theorem l3Ints_owns (ad : Addr) (n cap : Nat) (zs : List Int) (w : World) (h : Row w (some ad) n zs) :
    Calls Tryz.prog 56 #[.slice (some ad) n cap] w fun e w' => ∃ a' cap', e = .returned (.slice a' n cap') ∧ w'.ownsRow w.heap.size 3 1 (.slice a' n cap') n (zs.map (Value.int .i64)) ∧ Below w.heap.size w w' := by
  have hl := h.len
  have hs := h.small
  have H := hide h
  clear h
  obtain ⟨i0, hi, hz0, hz1, hz2⟩ := info_parts info_int
  go_enter Tryz.func56, Tryz.ntmps56
  go_wp2_with (at_builtin; refine wpList_append_own _ rfl _ _ 23 rfl w.heap.size 3 i0 (.int .i64 0) 1 8 Tryz.underlying23 hi hz0 hz1 hz2 rfl (by decide) _ _ _ rfl (owns_empty w) ad n cap (zs.map (Value.int .i64)) rfl (by simpa using hl) (cells_ints ((unhide H).alloc _)) (one_ints zs) (by unfold maxLen; omega) (by omega) (by simp) ?_; intro v1 w1 hown hgrow hnil)
  clear hnil
  have hown' : w1.ownsRow w.heap.size 3 1 v1 n (zs.map (Value.int .i64)) := by simpa using hown
  obtain ⟨a', cap', rfl, ho⟩ := Own.of_owns hown' hs
  have hbel : Below w.heap.size w w1 := ((Below.refl _ _).alloc (Nat.le_refl _) _).grown hgrow (by simp) (by intro k hk; cases hk; exact Nat.le_refl _)
  clear hown hgrow ho
  go_wp2
  go_ret
  exact ⟨_, _, rfl, hown', hbel⟩

theorem l3Ints_any (ad : Addr) (n cap : Nat) (zs : List Int) (w : World) (h : Row w (some ad) n zs) :
    Calls Tryz.prog 56 #[.slice (some ad) n cap] w fun e w' => ∃ a' cap', e = .returned (.slice a' n cap') ∧ Own w' w.heap.size a' n zs ∧ Below w.heap.size w w' := by
  refine (l3Ints_owns ad n cap zs w h).mono ?_
  rintro e w' ⟨a', cap', rfl, ho, hb⟩
  obtain ⟨a2, c2, e2, ho2⟩ := Own.of_owns ho h.small
  cases e2
  exact ⟨a', cap', rfl, ho2, hb⟩

end Go.Proofs.YtkgcmpmgaghdhaaGreatDoor
namespace Go.Proofs.YtkgcmpmgaghdhaaGreatDoor
open Go.RowKit

theorem Own.low' {w w' : World} {a : Option Addr} {n : Nat} {zs : List Int} {B C : Nat} (h : Own w C a n zs) (ha : ∀ k, At a n k → k < B) (hb : Below B w w') : Own w' C a n zs := by
  refine ⟨h.len, h.small, ?_⟩
  rcases h.at_ with h0 | ⟨g, off, rfl, hg, hlt, hc, hf⟩
  · exact .inl h0
  · by_cases h0 : n = 0
    · exact .inl h0
    have hgB := ha g (at_self h0)
    exact .inr ⟨g, off, rfl, hg, Nat.lt_of_lt_of_le hlt hb.size, fun i hi => (hb.cell (p := ⟨g, off + i, none⟩) hgB).trans (hc i hi), fun i hi => (hb.frozen (p := ⟨g, off + i, none⟩) hgB).trans (hf i hi)⟩

theorem Own.other {w : World} {a : Option Addr} {n C : Nat} {zs : List Int} (h : Own w C a n zs) {q : Addr} (ha : ∀ k, At a n k → k ≠ q.block) (v : Value) : Own (w.setCell q v) C a n zs :=
  ((But.refl (fun k => k = q.block) w).setCell rfl v).own h (fun k hk hk' => ha k hk' hk)

/-- An append to a slice of the call's own leaves all blocks below its base. -/
theorem below_append {w w1 : World} {base n : Nat} {v : Value} {xs : List Value} (o : Obj) (hown : w.ownsRow base 3 1 v n xs) (hb : base ≤ w.heap.size) (hg : (w.alloc o).grownBy w1 v.ownBlock) : Below base w w1 :=
  ((Below.refl _ _).alloc hb _).grown hg (by simp; omega) (by
    intro k hk
    rcases hown.2 with ⟨rfl, _⟩ | ⟨g, cap, cur, rfl, hbg, _⟩
    · cases hk
    · cases hk; exact hbg)

theorem owns_slice {w : World} {base e size n : Nat} {v : Value} {xs : List Value} (h : w.ownsRow base e size v n xs) : ∃ a cap, v = .slice a n cap := by
  rcases h.2 with ⟨rfl, h0⟩ | ⟨g, cap, cur, rfl, _⟩
  · exact ⟨none, 0, by rw [h0]⟩
  · exact ⟨_, _, rfl⟩

theorem take_map_snoc (f : Int → Int) (xs : List Int) (k : Nat) (h : k < xs.length) : ((xs.take (k + 1)).map f).map (Value.int .i64) = ((xs.take k).map f).map (Value.int .i64) ++ [.int .i64 (f (xs.getD k 0))] := by
  rw [take_snoc xs k h]; simp

theorem row_nil (w : World) (a : Option Addr) : Row w a 0 [] := ⟨rfl, by omega, .inl rfl⟩

theorem cells_new (w : World) (x : Int) : ∀ (j : Nat) u, ([.int .i64 x] : List Value)[j]? = some u → (w.alloc (.cells #[.int .i64 x] 3)).cell? ((⟨w.heap.size, 0, none⟩ : Addr).add j) = some u := by
  intro j u hj
  match j, hj with
  | 0, hj => simp at hj; subst hj; simp [Addr.add]

theorem one_one (x : Int) : ∀ u ∈ ([.int .i64 x] : List Value), u.oneCell' = true := by intro u hu; simp at hu; subst hu; rfl

theorem owns_below {w w' : World} {base e size n B : Nat} {v : Value} {xs : List Value} (h : w.ownsRow base e size v n xs) (hB : w.heap.size ≤ B) (hb : Below B w w') : w'.ownsRow base e size v n xs := by
  obtain ⟨h1, h2⟩ := h
  refine ⟨h1, ?_⟩
  rcases h2 with h2 | ⟨g, cap, cur, hv, hg, hh, r⟩
  · exact Or.inl h2
  · exact Or.inr ⟨g, cap, cur, hv, hg, (hb.block g (Nat.lt_of_lt_of_le (lt_of_block hh) hB)).trans hh, r⟩

theorem owns_low_set {w : World} {base n p o : Nat} {v : Value} {xs : List Value} (h : w.ownsRow base 3 1 v n xs) (hp : p < base) (u : Value) : (w.setCell ⟨p, o, none⟩ u).ownsRow base 3 1 v n xs := by
  obtain ⟨h1, h2⟩ := h
  refine ⟨h1, ?_⟩
  rcases h2 with h2 | ⟨g, cap, cur, hv, hg, hh, r⟩
  · exact Or.inl h2
  · refine Or.inr ⟨g, cap, cur, hv, hg, ?_, r⟩
    rw [Below.heap_setCell _ _ _ _ (by
      intro e
      have e' : g = p := e
      omega)]
    exact hh

theorem owns_lt {w : World} {base e size n g : Nat} {v : Value} {xs : List Value} (h : w.ownsRow base e size v n xs) (hg : v.ownBlock = some g) : g < w.heap.size := by
  rcases h.2 with ⟨rfl, _⟩ | ⟨g', cap, cur, rfl, _, hh, _⟩
  · cases hg
  · cases hg; exact lt_of_block hh

theorem Own.grownO {w w1 : World} {B n : Nat} {a : Option Addr} {zs : List Int} (h : Own w B a n zs) (o : Obj) {ob : Option Nat} (hg : (w.alloc o).grownBy w1 ob) (hne : ∀ x, At a n x → ob ≠ some x) : Own w1 B a n zs := by
  refine ⟨h.len, h.small, ?_⟩
  rcases h.at_ with h0 | ⟨b, off, rfl, hb, hlt, hc, hf⟩
  · exact .inl h0
  · by_cases hn : n = 0
    · exact .inl hn
    have hk : w1.heap[b]? = w.heap[b]? := (hg.block b (by simp; omega) (fun e => hne b (at_self hn) e.symm)).trans (Below.heap_alloc w o b hlt)
    refine .inr ⟨b, off, rfl, hb, ?_, fun i hi => (World.cell?_of_block (w := w) (a := ⟨b, off + i, none⟩) hk).trans (hc i hi), fun i hi => (World.frozen?_of_block (w := w) (a := ⟨b, off + i, none⟩) hk).trans (hf i hi)⟩
    rcases Nat.lt_or_ge b w1.heap.size with h1 | h1
    · exact h1
    · rw [Array.getElem?_eq_none h1, Array.getElem?_eq_getElem hlt] at hk; cases hk

theorem owns_mono {w : World} {base base' e size n : Nat} {v : Value} {xs : List Value} (h : w.ownsRow base e size v n xs) (hb : base' ≤ base) : w.ownsRow base' e size v n xs := by
  obtain ⟨h1, h2⟩ := h
  refine ⟨h1, ?_⟩
  rcases h2 with h2 | ⟨g, cap, cur, hv, hg, hh, r⟩
  · exact Or.inl h2
  · exact Or.inr ⟨g, cap, cur, hv, by omega, hh, r⟩

theorem owns_grown {w w1 : World} {base base' n g g2 cap : Nat} {xs : List Value} (h : w.ownsRow base 3 1 (.slice (some ⟨g, 0, none⟩) n cap) n xs) (o : Obj) (hg : (w.alloc o).grownBy w1 (some g2)) (hne : g ≠ g2) (hb : base' ≤ base) : w1.ownsRow base' 3 1 (.slice (some ⟨g, 0, none⟩) n cap) n xs := by
  obtain ⟨h1, h2⟩ := h
  refine ⟨h1, ?_⟩
  rcases h2 with ⟨h2, _⟩ | ⟨g', cap', cur, hv, hg', hh, r⟩
  · simp at h2
  · have e : g = g' := by simp at hv; exact hv.1
    subst e
    refine Or.inr ⟨g, cap', cur, hv, by omega, ?_, r⟩
    have hlt := lt_of_block hh
    exact (hg.block g (by simp; omega) (fun e => hne (by simpa using e))).trans ((Below.heap_alloc w o g hlt).trans hh)

theorem Own.set {w : World} {B g off n k : Nat} {zs : List Int} (h : Own w B (some ⟨g, off, none⟩) n zs) (hk : k < n) (x : Int) : Own (w.setCell ⟨g, off + k, none⟩ (.int .i64 x)) B (some ⟨g, off, none⟩) n (zs.set k x) := by
  refine ⟨by rw [List.length_set]; exact h.len, h.small, ?_⟩
  rcases h.at_ with h0 | ⟨g', off', e, hg, hlt, hc, hf⟩
  · omega
  · cases e
    refine .inr ⟨g, off, rfl, hg, by simpa using hlt, fun i hi => ?_, fun i hi => ?_⟩
    · by_cases e : i = k
      · subst e
        rw [World.cell?_setCell_same _ _ _ (hc i hi)]
        have hl := h.len
        simp [List.getD, hl, hk]
      · rw [World.cell?_setCell_other _ _ _ _ (by simp <;> omega), hc i hi]
        simp [List.getD, List.getElem?_set_ne (Ne.symm e)]
    · simpa using hf i hi

theorem But.drew {S : Nat → Prop} {w w' : World} (h : But S w w') : But S w w'.drew := ⟨h.os, h.tape, h.output, h.size, h.block⟩

theorem But.cellAt {S : Nat → Prop} {w w' : World} (h : But S w w') {b o : Nat} (hb : b < w.heap.size) (hn : ¬ S b) : w'.cell? ⟨b, o, none⟩ = w.cell? ⟨b, o, none⟩ := World.cell?_of_block (w := w) (a := ⟨b, o, none⟩) (h.block b hb hn)

end Go.Proofs.YtkgcmpmgaghdhaaGreatDoor
namespace Go.Proofs.YtkgcmpmgaghdhaaGreatDoor
open Go.RowKit

set_option maxHeartbeats 400000 in
theorem szArray_big (c : Bool) (a1 a2 : Option Addr) (n1 n2 c1 c2 : Nat) (left : Int) (w : World) (h1 : n1 ≤ 9223372036854775807) (h2 : n2 ≤ 9223372036854775807) (hl : 0 ≤ left) (hl2 : left ≤ 1048576) (hA : left < n1 + n2) :
    Calls Tryz.prog 26 #[.agg #[.bool c, .slice a1 n1 c1, .slice a2 n2 c2], .int .i64 left] w fun e w' => e = .returned (.int .i64 (-1)) ∧ Below w.heap.size w w' := by
  by_cases hB : left < n1
  · go_enter Tryz.func26, Tryz.ntmps26
    go_wp2_with fail
    refine (szIntS_big _ _ _ _ _ h1 hl hl2 hB).mono ?_
    rintro e w' ⟨rfl, rfl⟩
    go_wp2
    go_ret
    exact ⟨rfl, (Below.refl _ _).alloc (Nat.le_refl _) _⟩
  · go_enter Tryz.func26, Tryz.ntmps26
    go_wp2_with fail
    refine (szIntS_ok _ _ _ _ _ hl2 (by omega)).mono ?_
    rintro e w' ⟨rfl, rfl⟩
    go_wp2_with fail
    refine (szIntS_big _ _ _ _ _ h2 (by omega) (by omega) (by omega)).mono ?_
    rintro e w' ⟨rfl, rfl⟩
    go_wp2
    go_ret
    exact ⟨rfl, (Below.refl _ _).alloc (Nat.le_refl _) _⟩

set_option maxHeartbeats 400000 in
theorem szArray_ok (c : Bool) (a1 a2 : Option Addr) (n1 n2 c1 c2 : Nat) (left : Int) (w : World) (hl2 : left ≤ 1048576) (hA : n1 + n2 ≤ left) :
    Calls Tryz.prog 26 #[.agg #[.bool c, .slice a1 n1 c1, .slice a2 n2 c2], .int .i64 left] w fun e w' => e = .returned (.int .i64 (left - n1 - n2)) ∧ Below w.heap.size w w' := by
  go_enter Tryz.func26, Tryz.ntmps26
  go_wp2_with fail
  refine (szIntS_ok _ _ _ _ _ hl2 (by omega)).mono ?_
  rintro e w' ⟨rfl, rfl⟩
  go_wp2_with fail
  refine (szIntS_ok _ _ _ _ _ (by omega) (by omega)).mono ?_
  rintro e w' ⟨rfl, rfl⟩
  go_wp2
  go_ret
  exact ⟨rfl, (Below.refl _ _).alloc (Nat.le_refl _) _⟩

set_option maxHeartbeats 400000 in
theorem toArray_any (c : Bool) (a1 a2 : Option Addr) (n1 n2 c1 c2 : Nat) (sh dt : List Int) (w : World) (h1 : Row w a1 n1 sh) (h2 : Row w a2 n2 dt) :
    Calls Tryz.prog 28 #[.agg #[.bool c, .slice a1 n1 c1, .slice a2 n2 c2]] w fun e w' => ∃ g1 g2, e = .returned (.agg #[.bool c, .slice (some ⟨g1, 0, none⟩) n1 n1, .slice (some ⟨g2, 0, none⟩) n2 n2]) ∧ w.heap.size ≤ g1 ∧ g1 < g2 ∧ Blk w' g1 sh ∧ Blk w' g2 dt ∧ Below w.heap.size w w' := by
  go_enter Tryz.func28, Tryz.ntmps28
  go_wp2_with fail
  refine (toIntS_any _ _ _ sh _ (by exact h1.below (Nat.le_refl _) (by repeat (first | exact Below.refl _ _ | refine Below.alloc ?_ (by simp <;> omega) _)))).mono ?_
  rintro e w1 ⟨g1, rfl, hg1, hb1, hbe1⟩
  obtain ⟨hc, hf⟩ := bcell hbe1
  have hz := hbe1.size
  have hbW : Below w.heap.size w w1 := Below.trans (by repeat (first | exact Below.refl _ _ | refine Below.alloc ?_ (by simp <;> omega) _)) (hbe1.mono (by simp <;> omega))
  simp at hc hf hz hg1
  have hz0 : w.heap.size < w1.heap.size := by omega
  have hz1 : w.heap.size + 1 < w1.heap.size := by omega
  have hz3 : w.heap.size + 1 + 1 < w1.heap.size := by omega
  clear hbe1
  go_wp2_with fail
  refine (toIntS_any _ _ _ dt _ (by exact h2.below (Nat.le_refl _) (hbW.setCell (by simp <;> omega) _))).mono ?_
  rintro e w2 ⟨g2, rfl, hg2, hb2, hbe2⟩
  obtain ⟨hc2, hf2⟩ := bcell hbe2
  have hz2 := hbe2.size
  have hbW2 : Below w.heap.size w w2 := (hbW.setCell (p := ⟨w.heap.size + 1 + 1, 1, none⟩) (by simp <;> omega) _).trans (hbe2.mono (by simp <;> omega))
  have hb1' : Blk w2 g1 sh := (hb1.other (p := ⟨w.heap.size + 1 + 1, 1, none⟩) (by simp; omega) _).below (Nat.le_refl _) hbe2
  simp at hc2 hf2 hz2 hg2
  clear hbe2
  go_wp2
  refine bodyPost_ret (v := .agg #[.bool c, .slice (some ⟨g1, 0, none⟩) n1 n1, .slice (some ⟨g2, 0, none⟩) n2 n2]) (by simp [results, Tryz.results28, go_sem, hc2, hc, hz1]) rfl ⟨g1, g2, rfl, by omega, ?_, ?_, ?_, ?_⟩
  · have := hb1.lt; omega
  · exact (((hb1'.other (by simp; omega) _).other (by simp; omega) _).other (by simp; omega) _).other (by simp; omega) _
  · exact (((hb2.other (by simp; omega) _).other (by simp; omega) _).other (by simp; omega) _).other (by simp; omega) _
  · exact (((hbW2.setCell (by simp <;> omega) _).setCell (by simp) _).setCell (by simp) _).setCell (by simp) _

set_option maxHeartbeats 400000 in
theorem eqArray_any (c d : Bool) (a1 a2 b1 b2 : Option Addr) (n1 n2 m1 m2 c1 c2 d1 d2 : Nat) (sh dt sh' dt' : List Int) (w : World) (h1 : Row w a1 n1 sh) (h2 : Row w a2 n2 dt) (k1 : Row w b1 m1 sh') (k2 : Row w b2 m2 dt') :
    Calls Tryz.prog 17 #[.agg #[.bool c, .slice a1 n1 c1, .slice a2 n2 c2], .agg #[.bool d, .slice b1 m1 d1, .slice b2 m2 d2]] w fun e w' => e = .returned (.bool (decide (c = d ∧ sh = sh' ∧ dt = dt'))) ∧ Below w.heap.size w w' := by
  have hW : ∀ o1 o2, Below w.heap.size w ((w.alloc o1).alloc o2) := fun o1 o2 => ((Below.refl _ _).alloc (Nat.le_refl _) _).alloc (by simp) _
  by_cases hcd : c = d
  · subst hcd
    have hb : (c == c) = true := by simp
    by_cases hs : sh = sh'
    · have HS := hs
      have hd1 : decide (sh = sh') = true := by simp [hs]
      clear hs
      by_cases ht : dt = dt'
      · have hd2 : decide (dt = dt') = true := by simp [ht]
        have HE : Hid (decide (c = c ∧ sh = sh' ∧ dt = dt') = true) := decide_eq_true ⟨rfl, HS, ht⟩
        clear ht HS
        go_enter Tryz.func17, Tryz.ntmps17
        go_wp2_with fail
        refine (eqIntS_any _ _ _ _ _ _ sh sh' _ ((h1.alloc _).alloc _) ((k1.alloc _).alloc _)).mono ?_
        rintro e w1 ⟨rfl, q, rfl⟩
        rw [hd1]
        go_wp2_with fail
        refine (eqIntS_any _ _ _ _ _ _ dt dt' _ (((h2.alloc _).alloc _).drewN _) (((k2.alloc _).alloc _).drewN _)).mono ?_
        rintro e w1 ⟨rfl, q, rfl⟩
        rw [hd2]
        go_wp2
        go_ret
        exact ⟨ret_bool HE.out.symm, Below.drewN (hW _ _) _⟩
      · have hd2 : decide (dt = dt') = false := by simp [ht]
        have HE : Hid (decide (c = c ∧ sh = sh' ∧ dt = dt') = false) := decide_eq_false (fun h => ht h.2.2)
        clear ht HS
        go_enter Tryz.func17, Tryz.ntmps17
        go_wp2_with fail
        refine (eqIntS_any _ _ _ _ _ _ sh sh' _ ((h1.alloc _).alloc _) ((k1.alloc _).alloc _)).mono ?_
        rintro e w1 ⟨rfl, q, rfl⟩
        rw [hd1]
        go_wp2_with fail
        refine (eqIntS_any _ _ _ _ _ _ dt dt' _ (((h2.alloc _).alloc _).drewN _) (((k2.alloc _).alloc _).drewN _)).mono ?_
        rintro e w1 ⟨rfl, q, rfl⟩
        rw [hd2]
        go_wp2
        go_ret
        exact ⟨ret_bool HE.out.symm, Below.drewN (hW _ _) _⟩
    · have hd1 : decide (sh = sh') = false := by simp [hs]
      have HE : Hid (decide (c = c ∧ sh = sh' ∧ dt = dt') = false) := decide_eq_false (fun h => hs h.2.1)
      clear hs
      go_enter Tryz.func17, Tryz.ntmps17
      go_wp2_with fail
      refine (eqIntS_any _ _ _ _ _ _ sh sh' _ ((h1.alloc _).alloc _) ((k1.alloc _).alloc _)).mono ?_
      rintro e w1 ⟨rfl, q, rfl⟩
      rw [hd1]
      go_wp2
      go_ret
      exact ⟨ret_bool HE.out.symm, Below.drewN (hW _ _) _⟩
  · have hb : (c == d) = false := by simp [hcd]
    have HE : Hid (decide (c = d ∧ sh = sh' ∧ dt = dt') = false) := decide_eq_false (fun h => hcd h.1)
    clear hcd
    go_enter Tryz.func17, Tryz.ntmps17
    go_wp2
    go_ret
    exact ⟨ret_bool HE.out.symm, hW _ _⟩

end Go.Proofs.YtkgcmpmgaghdhaaGreatDoor
namespace Go.Proofs.YtkgcmpmgaghdhaaGreatDoor
open Go.RowKit

set_option maxHeartbeats 400000 in
theorem l1RuneOk_any (v : Int) (w : World) : Calls Tryz.prog 42 #[.int .i64 v] w fun e w' => e = .returned (.bool (runeOk v)) ∧ w' = w := by
  by_cases h1 : 0 ≤ v
  · by_cases h2 : v ≤ 1114111
    · by_cases h3 : v < 55296
      · have HE : Hid (runeOk v = true) := decide_eq_true ⟨h1, h2, .inl h3⟩
        go_enter Tryz.func42, Tryz.ntmps42
        go_wp2
        go_ret
        exact ⟨ret_bool HE.out.symm, rfl⟩
      · by_cases h4 : 57343 < v
        · have HE : Hid (runeOk v = true) := decide_eq_true ⟨h1, h2, .inr h4⟩
          go_enter Tryz.func42, Tryz.ntmps42
          go_wp2
          go_ret
          exact ⟨ret_bool HE.out.symm, rfl⟩
        · have HE : Hid (runeOk v = false) := decide_eq_false (fun h => by omega)
          go_enter Tryz.func42, Tryz.ntmps42
          go_wp2
          go_ret
          exact ⟨ret_bool HE.out.symm, rfl⟩
    · have HE : Hid (runeOk v = false) := decide_eq_false (fun h => by omega)
      go_enter Tryz.func42, Tryz.ntmps42
      go_wp2
      go_ret
      exact ⟨ret_bool HE.out.symm, rfl⟩
  · have HE : Hid (runeOk v = false) := decide_eq_false (fun h => by omega)
    go_enter Tryz.func42, Tryz.ntmps42
    go_wp2
    go_ret
    exact ⟨ret_bool HE.out.symm, rfl⟩

theorem l1RuneOk_eq (v : Int) (w : World) (b : Bool) (h : Hid (runeOk v = b)) : Calls Tryz.prog 42 #[.int .i64 v] w fun e w' => e = .returned (.bool b) ∧ w' = w := by
  rw [← h.out]; exact l1RuneOk_any v w

end Go.Proofs.YtkgcmpmgaghdhaaGreatDoor
namespace Go.Proofs.YtkgcmpmgaghdhaaGreatDoor
open Go.RowKit

theorem arr_long {c : Bool} {sh dt : List Int} {n1 : Nat} (hl : sh.length = n1) (h : 5 < n1) : arrOk c sh dt = false := by
  unfold arrOk; rw [decide_eq_false (by omega)]; rfl
theorem arr_count {c : Bool} {sh dt : List Int} {n2 : Nat} (hl : dt.length = n2) (h : countOf sh ≠ n2) : arrOk c sh dt = false := by
  unfold arrOk; rw [decide_eq_false (p := countOf sh = _) (by rw [hl]; exact h)]; simp
theorem arr_data {c : Bool} {sh dt : List Int} (h : dt.all (dataOk c) = false) : arrOk c sh dt = false := by
  unfold arrOk; rw [h]; simp
theorem arr_good {c : Bool} {sh dt : List Int} {n1 n2 : Nat} (hl1 : sh.length = n1) (hl2 : dt.length = n2) (h5 : n1 ≤ 5) (hc : countOf sh = n2) (h : dt.all (dataOk c) = true) : arrOk c sh dt = true := by
  unfold arrOk; rw [h, decide_eq_true (by omega), decide_eq_true (by rw [hl2]; exact hc)]; rfl

set_option maxHeartbeats 1000000 in
theorem ArrayOk_any (c : Bool) (a1 a2 : Option Addr) (n1 n2 c1 c2 : Nat) (sh dt : List Int) (w : World) (h1 : Row w a1 n1 sh) (h2 : Row w a2 n2 dt) :
    Calls Tryz.prog 9 #[.agg #[.bool c, .slice a1 n1 c1, .slice a2 n2 c2]] w fun e w' => e = .returned (.bool (arrOk c sh dt)) ∧ Below w.heap.size w w' := by
  have hl1 := hide h1.len
  have hl2 := hide h2.len
  have hs1 := h1.small
  have hs2 := h2.small
  have H1 := hide h1
  have H2 := hide h2
  clear h1 h2
  have hW : ∀ o, Below w.heap.size w (w.alloc o) := fun o => (Below.refl _ _).alloc (Nat.le_refl _) _
  have hcb := count_bd sh
  obtain ⟨hcb1, hcb2⟩ := hcb
  by_cases h5 : 5 < n1
  · have hd : decide ((5 : Int) < (n1 : Int)) = true := by simp; omega
    have HE := hide (arr_long (c := c) (dt := dt) (unhide hl1) h5)
    go_enter Tryz.func9, Tryz.ntmps9
    go_wp2
    go_quiet (fail)
    go_wp2
    go_ret
    exact ⟨ret_bool HE.out.symm, Below.drewN (hW _) _⟩
  · have hd : decide ((5 : Int) < (n1 : Int)) = false := by simp; omega
    obtain ⟨cn, hcn⟩ : ∃ cn, countOf sh = cn := ⟨_, rfl⟩
    rw [hcn] at hcb1 hcb2
    have HC := hide hcn
    clear hcn
    by_cases hcn : cn = n2
    · have hb : (cn != (n2 : Int)) = false := by simp [hcn]
      have HCN := hide hcn
      clear hcn
      go_enter Tryz.func9, Tryz.ntmps9
      go_wp2
      go_quiet ((go_at_call 41; exact Calls.quiet_of_same (l3Count_eq _ _ _ sh _ (((unhide H1).alloc _).drewN _) cn HC)))
      go_wp2
      go_loopw [3, 4] (fun i v wr => ∃ k : Nat, k ≤ n2 ∧ i = .int .i64 k ∧ Hid ((dt.take k).all (dataOk c) = true) ∧ wr = (w.alloc (.cells #[.bool c, .slice a1 n1 c1, .slice a2 n2 c2] 25)).drewN nq) (fun i _ _ => n2 - (intOf i).toNat)
      case atStart => exact ⟨0, Nat.zero_le _, rfl, rfl, rfl⟩
      case round =>
        obtain ⟨k, hk, rfl, hall, rfl⟩ := hrel
        by_cases hlt : k < n2
        · obtain ⟨b, off, rfl, hblt, hc⟩ := (unhide H2).get hlt
          have hks : Hid (k < dt.length) := by show k < dt.length; rw [unhide hl2]; exact hlt
          obtain ⟨x, hx⟩ : ∃ x, x = dt.getD k 0 := ⟨_, rfl⟩
          rw [← hx] at hc
          have HX := hide hx
          clear hx
          have hN : ∀ {r : Bool}, dataOk c x = r → r = false → Hid (arrOk c sh dt = false) := fun h1 h2 => arr_data (all_not dt (dataOk c) k (unhide hks) (by rw [← unhide HX, h1, h2]))
          have hY : ∀ {r : Bool}, dataOk c x = r → r = true → Hid ((dt.take (k + 1)).all (dataOk c) = true) := fun h1 h2 => all_step dt (dataOk c) k (unhide hks) (unhide hall) (by rw [← unhide HX, h1, h2])
          cases c with
          | true =>
            cases hr : runeOk x with
            | true =>
              have hxb := of_decide_eq_true hr
              have HR := hide hr
              have HA := hY (show dataOk true x = true by unfold dataOk; rw [hr, decide_eq_true (by omega)]; rfl) rfl
              have hx1 : x ≤ 1000000000000000 := by omega
              have hx2 : -1000000000000000 ≤ x := by omega
              clear hr hxb hN hY
              go_wp2_with (go_at_call 42; refine (l1RuneOk_eq _ _ true HR).mono ?_; rintro e w' ⟨rfl, rfl⟩)
              go_roundw
              case rel => exact ⟨k + 1, by omega, by go_num, HA, by first | exact trivial | rfl⟩
              case measure => simp [intOf]; omega
            | false =>
              have HR := hide hr
              have HE := hN (show dataOk true x = false by unfold dataOk; rw [hr]; rfl) rfl
              clear hr hN hY
              go_wp2_with (go_at_call 42; refine (l1RuneOk_eq _ _ false HR).mono ?_; rintro e w' ⟨rfl, rfl⟩)
              go_ret
              exact ⟨ret_bool HE.out.symm, Below.drewN (hW _) _⟩
          | false =>
            by_cases hx1 : 1000000000000000 < x
            · have HE := hN (show dataOk false x = false by unfold dataOk; rw [decide_eq_false (by omega)]; rfl) rfl
              clear hN hY
              go_wp2
              go_ret
              exact ⟨ret_bool HE.out.symm, Below.drewN (hW _) _⟩
            · by_cases hx2 : x < -1000000000000000
              · have HE := hN (show dataOk false x = false by unfold dataOk; rw [decide_eq_false (by omega)]; rfl) rfl
                clear hN hY
                go_wp2
                go_ret
                exact ⟨ret_bool HE.out.symm, Below.drewN (hW _) _⟩
              · have HA := hY (show dataOk false x = true by unfold dataOk; rw [decide_eq_true (by omega)]; rfl) rfl
                clear hN hY
                go_wp2
                go_roundw
                case rel => exact ⟨k + 1, by omega, by go_num, HA, by first | exact trivial | rfl⟩
                case measure => simp [intOf]; omega
        · have HA : Hid (dt.all (dataOk c) = true) := by
            have := unhide hall
            rwa [List.take_of_length_le (by rw [unhide hl2]; omega)] at this
          have HE := hide (arr_good (unhide hl1) (unhide hl2) (by omega) ((unhide HC).trans (unhide HCN)) (unhide HA))
          go_wp2
          go_ret
          exact ⟨ret_bool HE.out.symm, Below.drewN (hW _) _⟩
    · have hb : (cn != (n2 : Int)) = true := by simp [hcn]
      have HE := hide (arr_count (c := c) (sh := sh) (unhide hl2) (by rw [unhide HC]; exact hcn))
      clear hcn
      go_enter Tryz.func9, Tryz.ntmps9
      go_wp2
      go_quiet ((go_at_call 41; exact Calls.quiet_of_same (l3Count_eq _ _ _ sh _ (((unhide H1).alloc _).drewN _) cn HC)))
      go_wp2
      go_ret
      exact ⟨ret_bool HE.out.symm, Below.drewN (hW _) _⟩

theorem ArrayOk_eq (c : Bool) (a1 a2 : Option Addr) (n1 n2 c1 c2 : Nat) (sh dt : List Int) (w : World) (h1 : Row w a1 n1 sh) (h2 : Row w a2 n2 dt) (r : Bool) (hr : Hid (arrOk c sh dt = r)) :
    Calls Tryz.prog 9 #[.agg #[.bool c, .slice a1 n1 c1, .slice a2 n2 c2]] w fun e w' => e = .returned (.bool r) ∧ Below w.heap.size w w' := by
  rw [← hr.out]; exact ArrayOk_any c a1 a2 n1 n2 c1 c2 sh dt w h1 h2

end Go.Proofs.YtkgcmpmgaghdhaaGreatDoor
namespace Go.Proofs.YtkgcmpmgaghdhaaGreatDoor
open Go.RowKit

set_option maxHeartbeats 1000000 in
theorem Mul64_one (n : Nat) (hn : n ≤ 10000) (w : World) : Calls Tryz.prog 178 #[.int .u64 1, .int .u64 (n : Nat)] w fun e w' => e = .returned (.tuple #[.int .u64 0, .int .u64 (n : Nat)]) ∧ w' = w := by
  have hA : bits .and .u64 (n : Int) 4294967295 = (n : Int) := by
    have h := bits_and_u64_nat n 4294967295 (by omega) (by omega)
    rw [show n &&& 4294967295 = n % 4294967296 from Nat.and_two_pow_sub_one_eq_mod n 32, Nat.mod_eq_of_lt (by omega)] at h
    exact h
  have h1 : bits .and .u64 1 4294967295 = 1 := by decide
  have h0 : bits .and .u64 0 4294967295 = 0 := by decide
  have hD : (n : Int) / 4294967296 = 0 := by omega
  go_enter Tryz.func178, Tryz.ntmps178
  go_wp2
  go_ret2
  exact ⟨by simp, rfl⟩

theorem Mul_one (n : Nat) (hn : n ≤ 10000) (w : World) : Calls Tryz.prog 162 #[.int .u64 1, .int .u64 (n : Nat)] w fun e w' => e = .returned (.tuple #[.int .u64 0, .int .u64 (n : Nat)]) ∧ w' = w := by
  go_enter Tryz.func162, Tryz.ntmps162
  go_wp2_with (go_at_call 178; refine (Mul64_one n hn _).mono ?_; rintro e w1 ⟨rfl, rfl⟩)
  go_ret2
  exact ⟨rfl, rfl⟩

theorem splice_rep (v : Int) (k m n : Nat) (h : k + m ≤ n) : splice ((List.replicate k v ++ List.replicate (n - k) 0).map (Value.int .i64)) k (List.replicate m (Value.int .i64 v)) = (List.replicate (k + m) v ++ List.replicate (n - (k + m)) 0).map (Value.int .i64) := by
  unfold splice
  simp only [List.map_append, List.map_replicate, List.length_replicate]
  rw [List.take_append_of_le_length (by simp), List.take_of_length_le (by simp), List.drop_append, List.drop_eq_nil_of_le (by simp), List.nil_append, List.length_replicate, List.drop_replicate, ← List.append_assoc, List.replicate_append_replicate]
  rw [show n - k - (k + m - k) = n - (k + m) by omega]

set_option maxRecDepth 20000 in
set_option maxHeartbeats 4000000 in
theorem Repeat_any (a : Addr) (ca n : Nat) (v : Int) (w : World) (h : Row w (some a) 1 [v]) (hn : n ≤ 10000) :
    Calls Tryz.prog 124 #[.slice (some a) 1 ca, .int .i64 (n : Nat)] w fun e w' => e = .returned (.slice (some ⟨w.heap.size, 0, none⟩) n n) ∧ Blk w' w.heap.size (List.replicate n v) ∧ Below w.heap.size w w' := by
  obtain ⟨i0, hi, hz0, hz1, hz2⟩ := info_parts info_int
  have hsz : (Tryz.prog.info? 3).map (·.size) = some 1 := by rw [hi]; simp [hz1]
  obtain ⟨ba, oa, hab, hblt, hc⟩ := h.get (show 0 < 1 by omega)
  cases hab
  have HC : Hid (∀ w1, Below w.heap.size w w1 → w1.cell? ⟨ba, oa, none⟩ = some (.int .i64 v)) := fun w1 hb => (hb.cell (p := ⟨ba, oa, none⟩) hblt).trans (by simpa using hc)
  clear h hc hblt
  obtain ⟨m, hm⟩ : ∃ m, m = Nat.min 1 n := ⟨_, rfl⟩
  have hm1 : m ≤ n := by rw [hm]; exact Nat.min_le_right _ _
  have hm2 : m = 0 → n = 0 := by intro e; rw [hm] at e; exact (Nat.eq_zero_or_pos n).elim id fun h0 => by rw [show Nat.min 1 n = 1 from Nat.min_eq_left h0] at e; cases e
  obtain ⟨cs, hcs⟩ : ∃ cs, cs = List.replicate m (Value.int .i64 v) := ⟨_, rfl⟩
  have hcl : cs.length = m := by rw [hcs]; simp
  have HM := hide hm
  have HCS := hide hcs
  have HM2 := hide hm2
  have HPOS : Hid (∀ w1, Below w.heap.size w w1 → ∀ j x, cs[j]? = some x → w1.cell? ((⟨ba, oa, none⟩ : Addr).add j) = some x) := by
    intro w1 hb j x hx
    have hj : j = 0 ∧ x = .int .i64 v := by
      rw [unhide HCS] at hx
      have hm' : m ≤ 1 := by rw [unhide HM]; exact Nat.min_le_left _ _
      rw [List.getElem?_replicate] at hx
      split at hx
      · exact ⟨by omega, by simpa using hx.symm⟩
      · cases hx
    obtain ⟨rfl, rfl⟩ := hj
    exact unhide HC _ hb
  clear hm hcs hm2
  go_enter Tryz.func124, Tryz.ntmps124
  go_wp2_with (first | (go_at_call 162; go_loud (refine (Mul_one n hn _).mono ?_); rintro e w1 ⟨rfl, hw⟩; obtain rfl := hw.symm) | (at_make; go_loud (refine wpList_make_full _ rfl _ _ 23 rfl w.heap.size 3 i0 (.int .i64 0) 1 Tryz.underlying23 hi hz0 hz1 _ _ _ _ n rfl rfl rfl rfl (by rw [hz2]; omega) (by unfold maxLen; omega) (Nat.le_refl _) ?_); intro w1 hown hgrow; have HBK : Hid (Blk w1 w.heap.size (List.replicate 0 v ++ List.replicate (n - 0) 0)) := Blk.of_owns (n := n) (base := w.heap.size) (by simpa [toList_madeCells_one, Value.cells] using hown); have HBL : Hid (Below w.heap.size w w1) := (Below.refl _ _).grown hgrow (Nat.le_refl _) (by simp); clear hown hgrow) | (refine wpList_copy_splice rfl (.tmp 31) (.tmp 32) 23 23 rfl 3 Tryz.underlying23 hsz _ _ _ _ _ _ rfl rfl w.heap.size 0 _ 3 (unhide HBK) cs (hcl.trans (unhide HM)) (fun _ => ⟨rfl, _, rfl, unhide HPOS _ (unhide HBL)⟩) (by rw [hcl]; simp; omega) (by rw [unhide HCS]; intro x hx; rw [List.eq_of_mem_replicate hx]; rfl) w.heap.size w (unhide HBL) (Nat.le_refl _) ?_; intro w2 hg2 hb2; have HG2 := hide hg2.out; have HL2 := hide hb2; clear hg2 hb2))
  · have HB2 : Hid (Blk w2 w.heap.size (List.replicate m v ++ List.replicate (n - m) 0)) := by
      have e := unhide HG2
      rw [unhide HCS, splice_rep v 0 m n (by omega)] at e
      show Blk _ _ _
      rw [Nat.zero_add] at e
      exact e
    clear HG2 HBK HBL w1 HC HCS HM HPOS hcl cs
    go_loopw [8] (fun i wr => ∃ k : Nat, k ≤ n ∧ (k = 0 → n = 0) ∧ i = .int .i64 k ∧ Hid (Blk wr w.heap.size (List.replicate k v ++ List.replicate (n - k) 0)) ∧ Hid (Below w.heap.size w wr)) (fun i _ => n - (intOf i).toNat)
    case atStart => exact ⟨m, hm1, unhide HM2, rfl, HB2, HL2⟩
    case round =>
      obtain ⟨k, hk, hk0, rfl, hb, hbl⟩ := hrel
      clear HB2 HL2 w2 HM2 hm1
      by_cases hlt : k < n
      · have hk1 : 1 ≤ k := by omega
        obtain ⟨q, hq⟩ : ∃ q, q = Nat.min k (n - k) := ⟨_, rfl⟩
        have hq1 : q ≤ n - k := by rw [hq]; exact Nat.min_le_right _ _
        have hq2 : q ≤ k := by rw [hq]; exact Nat.min_le_left _ _
        have hq3 : 1 ≤ q := by rw [hq]; exact Nat.le_min.mpr ⟨hk1, by omega⟩
        obtain ⟨cs, hcs⟩ : ∃ cs, cs = List.replicate q (Value.int .i64 v) := ⟨_, rfl⟩
        have hcl : cs.length = q := by rw [hcs]; simp
        have HCS := hide hcs
        have HQ := hide hq
        have HPOS : Hid (∀ j x, cs[j]? = some x → wr.drew.cell? ((⟨w.heap.size, 0, none⟩ : Addr).add j) = some x) := by
          intro j x hx
          rw [hcs, List.getElem?_replicate] at hx
          split at hx
          · rename_i hjq
            have hc := (unhide hb).cell (i := j) (by simp; omega)
            have hjk : j < k := by omega
            have hg : (List.replicate k v ++ List.replicate (n - k) 0).getD j 0 = v := by simp [List.getD, List.getElem?_append, hjk]
            rw [hg] at hc
            cases hx
            have ha : (⟨w.heap.size, 0, none⟩ : Addr).add j = ⟨w.heap.size, j, none⟩ := by cases j <;> simp [Addr.add]
            rw [ha]
            simpa using hc
          · cases hx
        clear hcs hq hk0
        go_upto_region 9 with fail
        go_region_held3 (fun _ => True) (first | exact trivial) (first | (refine step_copy_splice rfl (.tmp 41) (.tmp 44) 23 23 rfl 3 Tryz.underlying23 hsz _ _ _ _ _ _ rfl rfl w.heap.size k _ 3 (unhide hb).drew cs (hcl.trans (unhide HQ)) (fun _ => ⟨by first | rfl | rw [if_neg (by omega)], _, rfl, unhide HPOS⟩) (by rw [hcl]; simp; omega) (by rw [unhide HCS]; intro x hx; rw [List.eq_of_mem_replicate hx]; rfl) w.heap.size w (unhide hbl).drew (Nat.le_refl _) ?_; intro w4 hg4 hb4; have HG4 := hide hg4.out; have HL4 := hide hb4; clear hg4 hb4))
        have HB4 : Hid (Blk w4 w.heap.size (List.replicate (k + q) v ++ List.replicate (n - (k + q)) 0)) := by
          have e := unhide HG4
          rw [unhide HCS, splice_rep v k q n (by omega)] at e
          exact e
        clear HG4
        have hkw : IntKind.i64.wrap ((k : Int) + (q : Int)) = ((k + q : Nat) : Int) := by rw [IntKind.wrap_i64]; omega
        go_wp2_with fail
        go_roundw
        case rel => exact ⟨(k + q : Nat), by omega, by omega, by first | rfl | rw [hkw], HB4, HL4⟩
        case measure => (first | rw [hkw] | skip); simp [intOf]; omega
      · have hkn : k = n := by omega
        subst hkn
        go_wp2
        go_ret
        exact ⟨rfl, by simpa using unhide hb, unhide hbl⟩

theorem Repeat_ex (a : Addr) (ca n : Nat) (v : Int) (w : World) (h : Row w (some a) 1 [v]) (hn : n ≤ 10000) :
    Calls Tryz.prog 124 #[.slice (some a) 1 ca, .int .i64 (n : Nat)] w fun e w' => ∃ g, e = .returned (.slice (some ⟨g, 0, none⟩) n n) ∧ Row w' (some ⟨g, 0, none⟩) n (List.replicate n v) ∧ Below w.heap.size w w' := by
  refine (Repeat_any a ca n v w h hn).mono ?_
  rintro e w' ⟨rfl, hb, hl⟩
  exact ⟨_, rfl, hb.row (by simp) (by omega), hl⟩

end Go.Proofs.YtkgcmpmgaghdhaaGreatDoor
namespace Go.Proofs.YtkgcmpmgaghdhaaGreatDoor
open Go.RowKit

set_option maxHeartbeats 1000000 in
theorem markArray_any (c : Bool) (a1 a2 : Option Addr) (n1 n2 c1 c2 B : Nat) (sh dt : List Int) (k : Int) (w : World) (h1 : Own w B a1 n1 sh) (h2 : Own w B a2 n2 dt) (hap : Apart a1 n1 a2 n2) (hk0 : 0 ≤ k) (hk : k ≤ 2305843009213693952) :
    Calls Tryz.prog 30 #[.agg #[.bool c, .slice a1 n1 c1, .slice a2 n2 c2], .int .i64 k] w fun e w' => e = .returned (.int .i64 (k + n1 + n2)) ∧ Own w' B a1 n1 (marks k n1) ∧ Own w' B a2 n2 (marks (k + n1) n2) ∧ But (fun x => At a1 n1 x ∨ At a2 n2 x) w w' := by
  have hs1 := h1.small
  have hs2 := h2.small
  have hi1 : Hid (∀ x, At a1 n1 x → x < w.heap.size) := fun x hx => h1.row.hi hx
  have H1 := hide h1
  have H2 := hide h2
  have HA := hide hap
  clear h1 h2 hap
  go_enter Tryz.func30, Tryz.ntmps30
  go_wp2_with fail
  refine (markIntS_any _ _ _ B sh _ _ (by exact (unhide H1).below (Nat.le_refl _) ((Below.refl _ _).alloc (Nat.le_refl _) _)) (by omega) (by omega)).mono ?_
  rintro e w1 ⟨rfl, ho1, hb1⟩
  have hz1 := hb1.size
  have hcell : w1.heap[w.heap.size]? = _ := hb1.block w.heap.size (by simp) (fun hx => by have := unhide hi1 _ hx; omega)
  have hc0 := World.cell?_of_block (a := ⟨w.heap.size, 0, none⟩) hcell
  have hc1 := World.cell?_of_block (a := ⟨w.heap.size, 1, none⟩) hcell
  have hc2 := World.cell?_of_block (a := ⟨w.heap.size, 2, none⟩) hcell
  have hf := fun o => World.frozen?_of_block (a := ⟨w.heap.size, o, none⟩) hcell
  simp at hc0 hc1 hc2 hz1
  have ho2 : Own w1 B a2 n2 dt := hb1.own ((unhide H2).below (Nat.le_refl _) ((Below.refl _ _).alloc (Nat.le_refl _) _)) (unhide HA)
  have HO1 := hide ho1
  have HB1 := hide hb1
  clear hcell hf ho1 hb1
  go_wp2_with fail
  refine (markIntS_any _ _ _ B dt _ _ ho2 (by omega) (by omega)).mono ?_
  rintro e w2 ⟨rfl, ho3, hb2⟩
  have HO3 := hide ho3
  have HB2 := hide hb2
  have ho4 : Hid (Own w2 B a1 n1 (marks k n1)) := hb2.own (unhide HO1) (unhide HA).symm
  clear ho3 hb2
  go_wp2
  go_ret
  exact ⟨rfl, unhide ho4, unhide HO3, (((But.refl _ _).alloc _).trans ((unhide HB1).trans (unhide HB2))).mono (fun x hx => by rcases hx with hx | hx; exact absurd hx id; exact hx)⟩

end Go.Proofs.YtkgcmpmgaghdhaaGreatDoor
namespace Go.Proofs.YtkgcmpmgaghdhaaGreatDoor
open Go.RowKit

set_option maxHeartbeats 1000000 in
theorem heldArray_marks (c : Bool) (a1 a2 : Option Addr) (n1 n2 c1 c2 : Nat) (k : Int) (w : World) (h1 : Row w a1 n1 (marks k n1)) (h2 : Row w a2 n2 (marks (k + n1) n2)) (hk0 : 0 ≤ k) (hk : k ≤ 2305843009213693952) :
    Calls Tryz.prog 31 #[.agg #[.bool c, .slice a1 n1 c1, .slice a2 n2 c2], .int .i64 k] w fun e w' => e = .returned (.int .i64 (k + n1 + n2)) ∧ Below w.heap.size w w' := by
  have hs1 := h1.small
  have hs2 := h2.small
  have H1 := hide h1
  have H2 := hide h2
  clear h1 h2
  go_enter Tryz.func31, Tryz.ntmps31
  go_wp2_with fail
  refine (heldIntS_marks _ _ _ _ _ (by exact (unhide H1).below (Nat.le_refl _) ((Below.refl _ _).alloc (Nat.le_refl _) _)) (by omega) (by omega)).mono ?_
  rintro e w1 ⟨rfl, rfl⟩
  go_wp2_with fail
  refine (heldIntS_marks _ _ _ _ _ (by exact (unhide H2).below (Nat.le_refl _) ((Below.refl _ _).alloc (Nat.le_refl _) _)) (by omega) (by omega)).mono ?_
  rintro e w1 ⟨rfl, rfl⟩
  go_wp2
  go_ret
  exact ⟨rfl, (Below.refl _ _).alloc (Nat.le_refl _) _⟩

end Go.Proofs.YtkgcmpmgaghdhaaGreatDoor
namespace Go.Proofs.YtkgcmpmgaghdhaaGreatDoor
open Go.RowKit

theorem box1 {w wr : World} {o1 : Obj} (hK : Below (w.heap.size + 1) (w.alloc o1) wr) :
    Below w.heap.size w wr ∧ w.heap.size + 1 ≤ wr.heap.size ∧ (∀ b o, b < w.heap.size + 1 → wr.cell? ⟨b, o, none⟩ = (w.alloc o1).cell? ⟨b, o, none⟩) :=
  ⟨((Below.refl _ _).alloc (Nat.le_refl _) _).trans (hK.mono (by omega)), by have := hK.size; simp at this; omega, fun b o hb => hK.cell (p := ⟨b, o, none⟩) hb⟩

theorem box2 {w wr : World} {o1 o2 : Obj} (hK : Below (w.heap.size + 2) ((w.alloc o1).alloc o2) wr) :
    Below w.heap.size w wr ∧ w.heap.size + 2 ≤ wr.heap.size ∧ (∀ b o, b < w.heap.size + 2 → wr.cell? ⟨b, o, none⟩ = ((w.alloc o1).alloc o2).cell? ⟨b, o, none⟩) :=
  ⟨(((Below.refl _ _).alloc (Nat.le_refl _) _).alloc (by simp) _).trans (hK.mono (by omega)), by have := hK.size; simp at this; omega, fun b o hb => hK.cell (p := ⟨b, o, none⟩) hb⟩

/-- What a slice argument is known to be: its cells, and that its length is an int. -/
structure Raw (w : World) (a : Option Addr) (n : Nat) (zs : List Int) : Prop where
  len : zs.length = n
  max : n ≤ 9223372036854775807
  at_ : n = 0 ∨ ∃ b off, a = some ⟨b, off, none⟩ ∧ b < w.heap.size ∧ ∀ i, i < n → w.cell? ⟨b, off + i, none⟩ = some (.int .i64 (zs.getD i 0))

theorem Raw.row {w : World} {a : Option Addr} {n : Nat} {zs : List Int} (h : Raw w a n zs) (hn : n ≤ 17592186044416) : Row w a n zs := ⟨h.len, hn, h.at_⟩

end Go.Proofs.YtkgcmpmgaghdhaaGreatDoor
namespace Go.Proofs.YtkgcmpmgaghdhaaGreatDoor
open Go.RowKit

theorem eqArray_refl (c : Bool) (a1 a2 b1 b2 : Option Addr) (n1 n2 m1 m2 c1 c2 d1 d2 : Nat) (sh dt : List Int) (w : World) (h1 : Row w a1 n1 sh) (h2 : Row w a2 n2 dt) (k1 : Row w b1 m1 sh) (k2 : Row w b2 m2 dt) :
    Calls Tryz.prog 17 #[.agg #[.bool c, .slice a1 n1 c1, .slice a2 n2 c2], .agg #[.bool c, .slice b1 m1 d1, .slice b2 m2 d2]] w fun e w' => e = .returned (.bool true) ∧ Below w.heap.size w w' := by
  have := eqArray_any c c a1 a2 b1 b2 n1 n2 m1 m2 c1 c2 d1 d2 sh dt sh dt w h1 h2 k1 k2
  rwa [decide_eq_true ⟨rfl, rfl, rfl⟩] at this

end Go.Proofs.YtkgcmpmgaghdhaaGreatDoor
namespace Go.Proofs.YtkgcmpmgaghdhaaGreatDoor

/-- An array and a code, as a function of the document answers them. -/
structure Ans where
  c : Bool
  sh : List Int
  dt : List Int
  code : Int

end Go.Proofs.YtkgcmpmgaghdhaaGreatDoor
namespace Go.Proofs.YtkgcmpmgaghdhaaGreatDoor
open Go.RowKit

/-- Block p holds a struct of an array. -/
def Box (w : World) (p : Nat) (c : Bool) (v1 v2 : Value) : Prop := w.heap[p]? = some (.cells #[.bool c, v1, v2] 25 (0, 0))

theorem Box.lt {w : World} {p : Nat} {c : Bool} {v1 v2 : Value} (h : Box w p c v1 v2) : p < w.heap.size := lt_of_block h

theorem Box.cells {w : World} {p : Nat} {c : Bool} {v1 v2 : Value} (h : Box w p c v1 v2) : w.cell? ⟨p, 0, none⟩ = some (.bool c) ∧ w.cell? ⟨p, 1, none⟩ = some v1 ∧ w.cell? ⟨p, 2, none⟩ = some v2 := by
  unfold Box at h
  simp [World.cell?, h]

theorem Box.below {w w' : World} {p B : Nat} {c : Bool} {v1 v2 : Value} (h : Box w p c v1 v2) (hB : w.heap.size ≤ B) (hb : Below B w w') : Box w' p c v1 v2 := (hb.block p (Nat.lt_of_lt_of_le h.lt hB)).trans h

theorem Box.but {S : Nat → Prop} {w w' : World} {p : Nat} {c : Bool} {v1 v2 : Value} (h : Box w p c v1 v2) (hb : But S w w') (hn : ¬ S p) : Box w' p c v1 v2 := (hb.block p h.lt hn).trans h

theorem Box.alloc {w : World} {p : Nat} {c : Bool} {v1 v2 : Value} (h : Box w p c v1 v2) (o : Obj) : Box (w.alloc o) p c v1 v2 := (Below.heap_alloc w o p h.lt).trans h

theorem Box.drew {w : World} {p : Nat} {c : Bool} {v1 v2 : Value} (h : Box w p c v1 v2) : Box w.drew p c v1 v2 := h

theorem Box.new (w : World) (c : Bool) (v1 v2 : Value) : Box (w.alloc (.cells #[.bool c, v1, v2] 25 (0, 0))) w.heap.size c v1 v2 := by
  show (w.heap.push _)[w.heap.size]? = _
  simp

end Go.Proofs.YtkgcmpmgaghdhaaGreatDoor

namespace Go.Proofs.YtkgcmpmgaghdhaaGreatDoor
open Go.RowKit

theorem Box.free {w : World} {p : Nat} {c : Bool} {v1 v2 : Value} (h : Box w p c v1 v2) (o : Nat) : w.frozen? ⟨p, o, none⟩ = false := frozen_of_row w p o _ _ h

theorem Box.all {w : World} {p : Nat} {c : Bool} {v1 v2 : Value} (h : Box w p c v1 v2) : w.cell? ⟨p, 0, none⟩ = some (.bool c) ∧ w.cell? ⟨p, 1, none⟩ = some v1 ∧ w.cell? ⟨p, 2, none⟩ = some v2 ∧ w.frozen? ⟨p, 0, none⟩ = false ∧ w.frozen? ⟨p, 1, none⟩ = false ∧ w.frozen? ⟨p, 2, none⟩ = false ∧ p < w.heap.size :=
  ⟨h.cells.1, h.cells.2.1, h.cells.2.2, h.free _, h.free _, h.free _, h.lt⟩

theorem Box.set2 {w : World} {p : Nat} {c : Bool} {v1 v2 : Value} (h : Box w p c v1 v2) (v : Value) : Box (w.setCell ⟨p, 2, none⟩ v) p c v1 v := by
  unfold Box at h ⊢
  rw [heap_setCell_same w p 2 _ _ _ h]
  simp

theorem Box.other {w : World} {p : Nat} {c : Bool} {v1 v2 : Value} (h : Box w p c v1 v2) {q : Addr} (hq : p ≠ q.block) (v : Value) : Box (w.setCell q v) p c v1 v2 := (heap_setCell_other w q p v hq).trans h

theorem Box.low {w w' : World} {p B : Nat} {c : Bool} {v1 v2 : Value} (h : Box w p c v1 v2) (hp : p < B) (hb : Below B w w') : Box w' p c v1 v2 := (hb.block p hp).trans h

theorem Box.grown {w w1 : World} {p base n : Nat} {c : Bool} {v1 v2 v : Value} {xs : List Value} (h : Box w p c v1 v2) (hown : w.ownsRow base 3 1 v n xs) (o : Obj) (hg : (w.alloc o).grownBy w1 v.ownBlock) : Box w1 p c v1 v2 := by
  refine (hg.block p (by have := h.lt; simp; omega) ?_).trans (h.alloc o)
  rcases hown.2 with ⟨rfl, _⟩ | ⟨g, cap, cur, rfl, _, hh, _⟩
  · exact fun e => by cases e
  · intro e
    have e' : p = g := by simpa [Value.ownBlock] using e
    subst e'
    unfold Box at h
    rw [hh] at h
    simp at h

theorem owns_box_set {w : World} {base n p : Nat} {v : Value} {xs : List Value} {c : Bool} {v1 v2 : Value} (h : w.ownsRow base 3 1 v n xs) (hb : Box w p c v1 v2) (o : Nat) (u : Value) : (w.setCell ⟨p, o, none⟩ u).ownsRow base 3 1 v n xs := by
  obtain ⟨h1, h2⟩ := h
  refine ⟨h1, ?_⟩
  rcases h2 with h2 | ⟨g, cap, cur, hv, hg, hh, r⟩
  · exact Or.inl h2
  · refine Or.inr ⟨g, cap, cur, hv, hg, ?_, r⟩
    rw [Below.heap_setCell _ _ _ _ (by
      intro e
      have e' : g = p := e
      subst e'
      unfold Box at hb
      rw [hh] at hb
      simp at hb)]
    exact hh

end Go.Proofs.YtkgcmpmgaghdhaaGreatDoor
namespace Go.Proofs.YtkgcmpmgaghdhaaGreatDoor

def inM (v : Int) : Bool := decide (-1000000000000000 ≤ v ∧ v ≤ 1000000000000000)

def truth (b : Bool) : Int := if b then 1 else 0
theorem truth_bd (b : Bool) : 0 ≤ truth b ∧ truth b ≤ 1 := by cases b <;> simp [truth]

def timesOf (a b : Int) : Int × Bool := if inM (a * b) = true then (a * b, true) else (0, false)
def powOf (a b : Int) : Int × Bool := if inM (a ^ b.toNat) = true then (a ^ b.toNat, true) else (0, false)
def modOf (a b : Int) : Int := if a = 0 then b else if b.tmod a ≠ 0 ∧ decide (b.tmod a < 0) ≠ decide (a < 0) then b.tmod a + a else b.tmod a
def orderOf (op a b : Int) : Int :=
  if op = 5 then (if a < b then a else b) else if op = 6 then (if a < b then b else a)
  else if op = 9 then truth (decide (a = b)) else if op = 10 then truth (decide (a ≠ b))
  else if op = 11 then truth (decide (a < b)) else if op = 13 then truth (decide (b ≤ a)) else if op = 12 then truth (decide (a ≤ b)) else truth (decide (b < a))

def limited (r : Int × Bool) : Int × Int := if r.2 = true ∧ inM r.1 = true then (r.1, 0) else (0, 7)

/-- A scalar function on two numbers: what it gives and its code. -/
def twoOf (op a b : Int) : Int × Int :=
  if op = 1 then limited (a + b, true) else if op = 2 then limited (a - b, true) else if op = 3 then limited (timesOf a b)
  else if op = 4 then (if a = 0 ∧ b = 0 then (1, 0) else if b = 0 ∨ a.tmod b ≠ 0 then (0, 3) else limited (a.tdiv b, true))
  else if op = 7 then limited (modOf a b, true)
  else if op = 8 then (if b < 0 then (0, 3) else limited (powOf a b))
  else if op = 15 ∨ op = 16 then (if (a ≠ 0 ∧ a ≠ 1) ∨ (b ≠ 0 ∧ b ≠ 1) then (0, 3) else limited (truth (decide (truth (decide (op = 15)) < a + b)), true))
  else limited (orderOf op a b, true)

theorem tdiv_lt {x y : Int} (hy : 0 < y) : (1000000000000000 : Int).tdiv y < x ↔ 1000000000000000 < x * y := by
  rw [Int.tdiv_eq_ediv_of_nonneg (by omega)]
  constructor
  · intro h
    by_cases h' : 1000000000000000 < x * y
    · exact h'
    · exact absurd (Int.le_ediv_of_mul_le hy (by omega : x * y ≤ 1000000000000000)) (by omega)
  · intro h
    by_cases h' : (1000000000000000 : Int) / y < x
    · exact h'
    · have := Int.mul_le_of_le_ediv hy (by omega : x ≤ (1000000000000000 : Int) / y)
      omega

theorem times_big {a b : Int} (h : inM (a * b) = false) : timesOf a b = (0, false) := by simp [timesOf, h]
theorem times_ok {a b : Int} (h : inM (a * b) = true) : timesOf a b = (a * b, true) := by simp [timesOf, h]
theorem inM_of {v : Int} (h1 : -1000000000000000 ≤ v) (h2 : v ≤ 1000000000000000) : inM v = true := decide_eq_true ⟨h1, h2⟩
theorem inM_not {v : Int} (h : v < -1000000000000000 ∨ 1000000000000000 < v) : inM v = false := decide_eq_false (by omega)
theorem inM_bd {v : Int} (h : inM v = true) : -1000000000000000 ≤ v ∧ v ≤ 1000000000000000 := of_decide_eq_true h

theorem abs_ge_two {a : Int} (h0 : a ≠ 0) (h1 : a ≠ 1) (hm : a ≠ -1) : 2 ≤ a.natAbs := by omega

/-- Beyond the bound a power of a number of two or more stays there. -/
theorem pow_step_big {a : Int} (ha : 2 ≤ a.natAbs) (k n : Nat) (hk : k ≤ n) (h : inM (a ^ k) = false) : inM (a ^ n) = false := by
  have hb : ∀ v : Int, inM v = false ↔ 1000000000000000 < v.natAbs := by
    intro v; simp only [inM, decide_eq_false_iff_not]; omega
  rw [hb] at h ⊢
  rw [Int.natAbs_pow] at h ⊢
  exact Nat.lt_of_lt_of_le h (Nat.pow_le_pow_right (by omega) hk)

theorem pow_bound {a : Int} (ha : 2 ≤ a.natAbs) (k : Nat) (h : inM (a ^ k) = true) : k < 50 := by
  have hb := inM_bd h
  have h1 : (a ^ k).natAbs ≤ 1000000000000000 := by omega
  rw [Int.natAbs_pow] at h1
  rcases Nat.lt_or_ge k 50 with h' | h'
  · exact h'
  · have : 2 ^ 50 ≤ a.natAbs ^ k := Nat.le_trans (Nat.pow_le_pow_right (by omega) h') (Nat.pow_le_pow_left ha k)
    have e : (2 : Nat) ^ 50 = 1125899906842624 := by decide
    omega

end Go.Proofs.YtkgcmpmgaghdhaaGreatDoor
namespace Go.Proofs.YtkgcmpmgaghdhaaGreatDoor

/-- The first code other than 0 among the first n; 0 if there is none. -/
def firstCode (f : Nat → Int × Int) : Nat → Int
  | 0 => 0
  | n + 1 => if firstCode f n = 0 then (f n).2 else firstCode f n

def vals (f : Nat → Int × Int) (n : Nat) : List Int := (List.range n).map fun i => (f i).1

theorem vals_len (f : Nat → Int × Int) (n : Nat) : (vals f n).length = n := by simp [vals]

theorem vals_snoc (f : Nat → Int × Int) (n : Nat) : (vals f (n + 1)).map (Value.int .i64) = (vals f n).map (Value.int .i64) ++ [.int .i64 (f n).1] := by
  simp [vals, List.range_succ]

theorem code_step {f : Nat → Int × Int} {n : Nat} (h : firstCode f n = 0) (h2 : (f n).2 = 0) : firstCode f (n + 1) = 0 := by
  simp [firstCode, h, h2]

theorem code_stays {f : Nat → Int × Int} {n m : Nat} (h : firstCode f n ≠ 0) (hm : n ≤ m) : firstCode f m = firstCode f n := by
  induction m with
  | zero => have : n = 0 := by omega
            subst this; rfl
  | succ m ih =>
    rcases Nat.lt_or_ge n (m + 1) with h' | h'
    · have := ih (by omega)
      simp only [firstCode]
      rw [this, if_neg h]
    · have : n = m + 1 := by omega
      subst this; rfl

theorem code_found {f : Nat → Int × Int} {k n : Nat} (h : firstCode f k = 0) (hk : k < n) (h2 : (f k).2 ≠ 0) : firstCode f n = (f k).2 := by
  have e : firstCode f (k + 1) = (f k).2 := by simp [firstCode, h]
  rw [code_stays (n := k + 1) (by rw [e]; exact h2) (by omega), e]

def noAns (code : Int) : Ans := ⟨false, [], [], code⟩

/-- n elements, or the first code. -/
def gatherAns (c : Bool) (sh : List Int) (f : Nat → Int × Int) (n : Nat) : Ans := if firstCode f n = 0 then ⟨c, sh, vals f n, 0⟩ else noAns (firstCode f n)

theorem gather_good {c : Bool} {sh : List Int} {f : Nat → Int × Int} {n : Nat} (h : firstCode f n = 0) : gatherAns c sh f n = ⟨c, sh, vals f n, 0⟩ := by simp [gatherAns, h]
theorem gather_bad {c : Bool} {sh : List Int} {f : Nat → Int × Int} {k n : Nat} (h : firstCode f k = 0) (hk : k < n) (h2 : (f k).2 ≠ 0) : gatherAns c sh f n = noAns (f k).2 := by
  have e := code_found h hk h2
  unfold gatherAns; rw [if_neg (by rw [e]; exact h2), e]

/-- A scalar function on elements of arrays that may be Char. -/
def elemOf (op : Int) (c : Bool) (dt : List Int) (i : Nat) (d : Bool) (dt' : List Int) (j : Nat) : Int × Int :=
  if c ≠ d then (truth (decide (op = 10)), 0) else twoOf op (dt.getD i 0) (dt'.getD j 0)

def opIn (op : Int) : Bool := decide (1 ≤ op ∧ op ≤ 16)
def opEq (op : Int) : Bool := decide (op = 9 ∨ op = 10)

def wideB (n1 n2 m1 m2 : Nat) : Bool := decide (n2 = 1) && (decide (m2 ≠ 1) || decide (n1 < m1))

def scalar2 (op : Int) (c d : Bool) (sh dt sh' dt' : List Int) : Ans :=
  if arrOk c sh dt = true ∧ arrOk d sh' dt' = true ∧ opIn op = true then
    let wide := wideB sh.length dt.length sh'.length dt'.length
    let tall := decide (dt'.length = 1) && !wide
    if (!wide && !tall) = true ∧ sh.length ≠ sh'.length then noAns 4
    else if (!wide && !tall) = true ∧ sh ≠ sh' then noAns 5
    else if (c || d) = true ∧ opEq op = false then noAns 3
    else gatherAns false (if wide then sh' else sh) (fun i => elemOf op c dt (i % dt.length) d dt' (i % dt'.length)) (countOf (if wide then sh' else sh)).toNat
  else noAns 3

end Go.Proofs.YtkgcmpmgaghdhaaGreatDoor
namespace Go.Proofs.YtkgcmpmgaghdhaaGreatDoor
open Go.RowKit

/-- What a spec function's answer of an array and a code is. -/
def GivesRow (w : World) (r : Ans) (e : Ending) (w' : World) : Prop :=
  ∃ b1 m1 d1 b2 m2 d2, e = .returned (.tuple #[.agg #[.bool r.c, .slice b1 m1 d1, .slice b2 m2 d2], .int .i64 r.code]) ∧ Row w' b1 m1 r.sh ∧ Row w' b2 m2 r.dt ∧ Below w.heap.size w w'

theorem dataOk_bd {c : Bool} {sh dt : List Int} (h : arrOk c sh dt = true) {k : Nat} (hk : k < dt.length) : -1000000000000000 ≤ dt.getD k 0 ∧ dt.getD k 0 ≤ 1000000000000000 := by
  have h1 : dt.all (dataOk c) = true := by simp [arrOk] at h; simpa using h.2.2
  have h2 := List.all_eq_true.mp h1 (dt.getD k 0) (by simp [hk])
  simp [dataOk] at h2
  simpa using h2.2

theorem boxes2 {w w1 : World} {c : Bool} {v1 v2 : Value} (hb : Below ((w.alloc (.cells #[.bool c, v1, v2] 25)).alloc (.cells #[.bool false, .slice none 0 0, .slice none 0 0] 25)).heap.size ((w.alloc (.cells #[.bool c, v1, v2] 25)).alloc (.cells #[.bool false, .slice none 0 0, .slice none 0 0] 25)) w1) :
    Box w1 w.heap.size c v1 v2 ∧ Box w1 (w.heap.size + 1) false (.slice none 0 0) (.slice none 0 0) ∧ Below w.heap.size w w1 := by
  have e : (w.alloc (.cells #[.bool c, v1, v2] 25)).heap.size = w.heap.size + 1 := by simp
  refine ⟨((Box.new w c v1 v2).alloc _).below (Nat.le_refl _) hb, ?_, (((Below.refl _ _).alloc (Nat.le_refl _) _).alloc (by simp) _).trans (hb.mono (by simp; omega))⟩
  have := (Box.new (w.alloc (.cells #[.bool c, v1, v2] 25)) false (.slice none 0 0) (.slice none 0 0)).below (Nat.le_refl _) hb
  rwa [e] at this

theorem boxes3 {w w1 : World} {c d : Bool} {v1 v2 u1 u2 : Value} (hb : Below (((w.alloc (.cells #[.bool c, v1, v2] 25)).alloc (.cells #[.bool d, u1, u2] 25)).alloc (.cells #[.bool false, .slice none 0 0, .slice none 0 0] 25)).heap.size (((w.alloc (.cells #[.bool c, v1, v2] 25)).alloc (.cells #[.bool d, u1, u2] 25)).alloc (.cells #[.bool false, .slice none 0 0, .slice none 0 0] 25)) w1) :
    Box w1 w.heap.size c v1 v2 ∧ Box w1 (w.heap.size + 1) d u1 u2 ∧ Box w1 (w.heap.size + 2) false (.slice none 0 0) (.slice none 0 0) ∧ Below w.heap.size w w1 := by
  have e1 : (w.alloc (.cells #[.bool c, v1, v2] 25)).heap.size = w.heap.size + 1 := by simp
  have e2 : ((w.alloc (.cells #[.bool c, v1, v2] 25)).alloc (.cells #[.bool d, u1, u2] 25)).heap.size = w.heap.size + 2 := by simp
  refine ⟨(((Box.new w c v1 v2).alloc _).alloc _).below (Nat.le_refl _) hb, ?_, ?_, ((((Below.refl _ _).alloc (Nat.le_refl _) _).alloc (by simp) _).alloc (by simp <;> omega) _).trans (hb.mono (by simp; omega))⟩
  · have := ((Box.new (w.alloc (.cells #[.bool c, v1, v2] 25)) d u1 u2).alloc _).below (Nat.le_refl _) hb
    rwa [e1] at this
  · have := (Box.new ((w.alloc (.cells #[.bool c, v1, v2] 25)).alloc (.cells #[.bool d, u1, u2] 25)) false (.slice none 0 0) (.slice none 0 0)).below (Nat.le_refl _) hb
    rwa [e2] at this

end Go.Proofs.YtkgcmpmgaghdhaaGreatDoor
namespace Go.Proofs.YtkgcmpmgaghdhaaGreatDoor
open Go.RowKit

theorem Box.free' {w : World} {p : Nat} {c : Bool} {v1 v2 : Value} (h : Box w p c v1 v2) : w.cell? ⟨p, 0, none⟩ = some (.bool c) ∧ w.cell? ⟨p, 1, none⟩ = some v1 ∧ w.cell? ⟨p, 2, none⟩ = some v2 ∧ w.frozen? ⟨p, 0, none⟩ = false ∧ w.frozen? ⟨p, 1, none⟩ = false ∧ w.frozen? ⟨p, 2, none⟩ = false ∧ p < w.heap.size :=
  ⟨h.cells.1, h.cells.2.1, h.cells.2.2, frozen_of_row w p _ _ _ h, frozen_of_row w p _ _ _ h, frozen_of_row w p _ _ _ h, h.lt⟩

theorem Box.sets {w : World} {p : Nat} {c c' : Bool} {v1 v2 u1 u2 : Value} (h : Box w p c v1 v2) : Box (((w.setCell ⟨p, 0, none⟩ (.bool c')).setCell ⟨p, 1, none⟩ u1).setCell ⟨p, 2, none⟩ u2) p c' u1 u2 := by
  unfold Box at h ⊢
  have h1 := heap_setCell_same w p 0 _ _ (.bool c') h
  have h2 := heap_setCell_same _ p 1 _ _ u1 h1
  have h3 := heap_setCell_same _ p 2 _ _ u2 h2
  simpa using h3

theorem Row.notBox {w : World} {a : Option Addr} {n p : Nat} {zs : List Int} {c : Bool} {a1 a2 : Option Addr} {l1 l2 c1 c2 : Nat} (h : Row w a n zs) (hb : Box w p c (.slice a1 l1 c1) (.slice a2 l2 c2)) {k : Nat} (hk : At a n k) : k ≠ p := by
  rcases h.at_ with h0 | ⟨g, off, rfl, hg, hc⟩
  · exact absurd h0 hk.1
  · have e := at_eq hk
    subst e
    rintro rfl
    have h1 := hc 0 (by have := hk.1; omega)
    unfold Box at hb
    simp only [World.cell?, hb] at h1
    simp at h1
    match off, h1 with
    | 0, h1 => simp at h1
    | 1, h1 => simp at h1
    | 2, h1 => simp at h1

theorem Row.otherB {w : World} {a : Option Addr} {n : Nat} {zs : List Int} (h : Row w a n zs) {q : Addr} (ha : ∀ k, At a n k → k ≠ q.block) (v : Value) : Row (w.setCell q v) a n zs :=
  ((But.refl (fun k => k = q.block) w).setCell rfl v).row h (fun k hk hk' => ha k hk' hk)

theorem Row.sets {w : World} {a : Option Addr} {n p : Nat} {zs : List Int} {c : Bool} {a1 a2 : Option Addr} {l1 l2 c1 c2 : Nat} (h : Row w a n zs) (hb : Box w p c (.slice a1 l1 c1) (.slice a2 l2 c2)) (u0 u1 u2 : Value) : Row (((w.setCell ⟨p, 0, none⟩ u0).setCell ⟨p, 1, none⟩ u1).setCell ⟨p, 2, none⟩ u2) a n zs :=
  ((h.otherB (fun _ hk => h.notBox hb hk) _).otherB (fun _ hk => h.notBox hb hk) _).otherB (fun _ hk => h.notBox hb hk) _

end Go.Proofs.YtkgcmpmgaghdhaaGreatDoor
namespace Go.Proofs.YtkgcmpmgaghdhaaGreatDoor
open Go.RowKit

theorem Blk.new (w : World) : Blk (w.alloc (.cells #[] 3)) w.heap.size [] := by
  show (w.heap.push _)[w.heap.size]? = _
  simp

theorem Blk.owns {w : World} {g base : Nat} (h : Blk w g []) (hb : base ≤ g) : w.ownsRow base 3 1 (.slice (some ⟨g, 0, none⟩) 0 0) 0 [] :=
  ⟨by simp, .inr ⟨g, 0, #[], rfl, hb, h, by simp, by unfold maxLen; omega, by simp, by simp⟩⟩

theorem Own.grown {w w1 : World} {B g n : Nat} {a : Option Addr} {zs : List Int} (h : Own w B a n zs) (o : Obj) (hg : (w.alloc o).grownBy w1 (some g)) (hne : ∀ x, At a n x → x ≠ g) : Own w1 B a n zs := by
  refine ⟨h.len, h.small, ?_⟩
  rcases h.at_ with h0 | ⟨b, off, rfl, hb, hlt, hc, hf⟩
  · exact .inl h0
  · by_cases hn : n = 0
    · exact .inl hn
    have hk : w1.heap[b]? = w.heap[b]? := (hg.block b (by simp; omega) (fun e => hne b (at_self hn) (by simpa using e))).trans (Below.heap_alloc w o b hlt)
    refine .inr ⟨b, off, rfl, hb, ?_, fun i hi => (World.cell?_of_block (w := w) (a := ⟨b, off + i, none⟩) hk).trans (hc i hi), fun i hi => (World.frozen?_of_block (w := w) (a := ⟨b, off + i, none⟩) hk).trans (hf i hi)⟩
    rcases Nat.lt_or_ge b w1.heap.size with h1 | h1
    · exact h1
    · rw [Array.getElem?_eq_none h1, Array.getElem?_eq_getElem hlt] at hk; cases hk

/-- A struct of an array is laid whose shape reads as zs and whose numbers are none yet; all of it is new. -/
def Laid (w2 : World) (c : Bool) (m : Nat) (zs : List Int) (r : Value) (wx : World) : Prop :=
  ∃ p g ash csh, r = .pointer (some ⟨p, 0, none⟩) ∧ Box wx p c (.slice ash m csh) (.slice (some ⟨g, 0, none⟩) 0 0) ∧ Blk wx g [] ∧ Own wx w2.heap.size ash m zs ∧ Below w2.heap.size w2 wx ∧ w2.heap.size ≤ p ∧ w2.heap.size ≤ g ∧ ∀ x, At ash m x → x ≠ g

theorem laid_cbz {w2 wA : World} {c : Bool} {m csh : Nat} {zs : List Int} {ash : Option Addr} (hO : Own wA w2.heap.size ash m zs) (hK : Below w2.heap.size w2 wA) : Laid w2 c m zs (.pointer (some ⟨wA.heap.size + 1, 0, none⟩)) ((wA.alloc (.cells #[] 3)).alloc (.cells #[.bool c, .slice ash m csh, .slice (some ⟨wA.heap.size, 0, none⟩) 0 0] 25)) := by
  have hs := hK.size
  refine ⟨wA.heap.size + 1, wA.heap.size, ash, csh, rfl, ?_, (Blk.new wA).alloc _, (hO.alloc _).alloc _, (hK.alloc hs _).alloc (by simp; omega) _, by omega, by omega, fun x hx => by have := hO.row.hi hx; omega⟩
  have := Box.new (wA.alloc (.cells #[] 3)) c (.slice ash m csh) (.slice (some ⟨wA.heap.size, 0, none⟩) 0 0)
  simpa using this

theorem laid_czb {w2 wA : World} {c : Bool} {m csh : Nat} {zs : List Int} {ash : Option Addr} (hO : Own wA w2.heap.size ash m zs) (hK : Below w2.heap.size w2 wA) : Laid w2 c m zs (.pointer (some ⟨wA.heap.size, 0, none⟩)) ((wA.alloc (.cells #[.bool c, .slice ash m csh, .slice (some ⟨wA.heap.size + 1, 0, none⟩) 0 0] 25)).alloc (.cells #[] 3)) := by
  have hs := hK.size
  refine ⟨wA.heap.size, wA.heap.size + 1, ash, csh, rfl, (Box.new _ _ _ _).alloc _, ?_, (hO.alloc _).alloc _, (hK.alloc hs _).alloc (by simp; omega) _, by omega, by omega, fun x hx => by have := hO.row.hi hx; omega⟩
  have := Blk.new (wA.alloc (.cells #[.bool c, .slice ash m csh, .slice (some ⟨wA.heap.size + 1, 0, none⟩) 0 0] 25))
  simpa using this

theorem laid_bcz {w2 wA : World} {c : Bool} {m csh : Nat} {zs : List Int} {ash : Option Addr} {g : Nat} (hO : Own wA w2.heap.size ash m zs) (hK : Below w2.heap.size w2 wA) (hQ : Blk wA g []) (hg : w2.heap.size ≤ g) (hne : ∀ x, At ash m x → x ≠ g) : Laid w2 c m zs (.pointer (some ⟨wA.heap.size, 0, none⟩)) (wA.alloc (.cells #[.bool c, .slice ash m csh, .slice (some ⟨g, 0, none⟩) 0 0] 25)) :=
  ⟨wA.heap.size, g, ash, csh, rfl, Box.new _ _ _ _, hQ.alloc _, hO.alloc _, hK.alloc hK.size _, hK.size, hg, hne⟩

theorem Blk.notBox {w : World} {g p : Nat} {c : Bool} {v1 v2 : Value} (h : Blk w g []) (hb : Box w p c v1 v2) : g ≠ p := by
  rintro rfl
  unfold Blk at h
  unfold Box at hb
  rw [h] at hb
  simp at hb

theorem laid_zc {w2 wA : World} {c : Bool} {m csh : Nat} {zs : List Int} {ash : Option Addr} {g p : Nat} {c' : Bool} {a1 a2 : Option Addr} {l1 l2 k1 k2 : Nat} (hO : Own wA w2.heap.size ash m zs) (hK : Below w2.heap.size w2 wA) (hP : Box wA p c' (.slice a1 l1 k1) (.slice a2 l2 k2)) (hp : w2.heap.size ≤ p) (hQ : Blk wA g []) (hg : w2.heap.size ≤ g) (hne : ∀ x, At ash m x → x ≠ g) :
    Laid w2 c m zs (.pointer (some ⟨p, 0, none⟩)) (((wA.setCell ⟨p, 0, none⟩ (.bool c)).setCell ⟨p, 1, none⟩ (.slice ash m csh)).setCell ⟨p, 2, none⟩ (.slice (some ⟨g, 0, none⟩) 0 0)) := by
  have hn : ∀ x, At ash m x → x ≠ p := fun x hx => hO.row.notBox hP hx
  have hgp := hQ.notBox hP
  exact ⟨p, g, ash, csh, rfl, hP.sets, ((hQ.other hgp _).other hgp _).other hgp _, ((hO.other hn _).other hn _).other hn _, ((hK.setCell hp _).setCell hp _).setCell hp _, hp, hg, hne⟩

theorem laid_zcb {w2 wA : World} {c : Bool} {m csh : Nat} {zs : List Int} {ash : Option Addr} {p : Nat} {c' : Bool} {a1 a2 : Option Addr} {l1 l2 k1 k2 : Nat} (hO : Own wA w2.heap.size ash m zs) (hK : Below w2.heap.size w2 wA) (hP : Box wA p c' (.slice a1 l1 k1) (.slice a2 l2 k2)) (hp : w2.heap.size ≤ p) :
    Laid w2 c m zs (.pointer (some ⟨p, 0, none⟩)) ((((wA.setCell ⟨p, 0, none⟩ (.bool c)).setCell ⟨p, 1, none⟩ (.slice ash m csh)).setCell ⟨p, 2, none⟩ (.slice (some ⟨wA.heap.size, 0, none⟩) 0 0)).alloc (.cells #[] 3)) := by
  have hn : ∀ x, At ash m x → x ≠ p := fun x hx => hO.row.notBox hP hx
  refine ⟨p, wA.heap.size, ash, csh, rfl, hP.sets.alloc _, ?_, (((hO.other hn _).other hn _).other hn _).alloc _, (((hK.setCell hp _).setCell hp _).setCell hp _).alloc (by simpa using hK.size) _, hp, hK.size, fun x hx => by have := hO.row.hi hx; omega⟩
  have := Blk.new (((wA.setCell ⟨p, 0, none⟩ (.bool c)).setCell ⟨p, 1, none⟩ (.slice ash m csh)).setCell ⟨p, 2, none⟩ (.slice (some ⟨wA.heap.size, 0, none⟩) 0 0))
  simpa using this

end Go.Proofs.YtkgcmpmgaghdhaaGreatDoor
namespace Go.Proofs.YtkgcmpmgaghdhaaGreatDoor
open Go.RowKit

/-- A line laid as a vector. -/
def LaidX (wr : World) (c : Bool) (n : Nat) (l : List Int) (r : Value) (wx : World) : Prop :=
  ∃ p s g cap, r = .pointer (some ⟨p, 0, none⟩) ∧ Box wx p c (.slice (some ⟨s, 0, none⟩) 1 1) (.slice (some ⟨g, 0, none⟩) n cap) ∧ Row wx (some ⟨s, 0, none⟩) 1 [(n : Int)] ∧ Row wx (some ⟨g, 0, none⟩) n l ∧ Below wr.heap.size wr wx

theorem Blk.one (w : World) (n : Int) : Blk (w.alloc (.cells #[.int .i64 n] 3)) w.heap.size [n] := heap_alloc_last w _
theorem Blk.row1 {w : World} {s : Nat} {n : Int} (h : Blk w s [n]) : Row w (some ⟨s, 0, none⟩) 1 [n] := h.row rfl (by omega)

theorem lx_cbz {wr wA : World} {c : Bool} {n g cap : Nat} {l : List Int} (hR : Row wA (some ⟨g, 0, none⟩) n l) (hK : Below wr.heap.size wr wA) : LaidX wr c n l (.pointer (some ⟨wA.heap.size + 1, 0, none⟩)) ((wA.alloc (.cells #[.int .i64 (n : Nat)] 3)).alloc (.cells #[.bool c, .slice (some ⟨wA.heap.size, 0, none⟩) 1 1, .slice (some ⟨g, 0, none⟩) n cap] 25)) := by
  have hs := hK.size
  refine ⟨wA.heap.size + 1, wA.heap.size, g, cap, rfl, ?_, (Blk.one wA n).row1.alloc _, (hR.alloc _).alloc _, (hK.alloc hs _).alloc (by simp; omega) _⟩
  have := Box.new (wA.alloc (.cells #[.int .i64 (n : Nat)] 3)) c (.slice (some ⟨wA.heap.size, 0, none⟩) 1 1) (.slice (some ⟨g, 0, none⟩) n cap)
  simpa using this

theorem lx_czb {wr wA : World} {c : Bool} {n g cap : Nat} {l : List Int} (hR : Row wA (some ⟨g, 0, none⟩) n l) (hK : Below wr.heap.size wr wA) : LaidX wr c n l (.pointer (some ⟨wA.heap.size, 0, none⟩)) ((wA.alloc (.cells #[.bool c, .slice (some ⟨wA.heap.size + 1, 0, none⟩) 1 1, .slice (some ⟨g, 0, none⟩) n cap] 25)).alloc (.cells #[.int .i64 (n : Nat)] 3)) := by
  have hs := hK.size
  refine ⟨wA.heap.size, wA.heap.size + 1, g, cap, rfl, (Box.new _ _ _ _).alloc _, ?_, (hR.alloc _).alloc _, (hK.alloc hs _).alloc (by simp; omega) _⟩
  have := (Blk.one (wA.alloc (.cells #[.bool c, .slice (some ⟨wA.heap.size + 1, 0, none⟩) 1 1, .slice (some ⟨g, 0, none⟩) n cap] 25)) n).row1
  simpa using this

theorem lx_bcz {wr wA : World} {c : Bool} {n g s cap : Nat} {l : List Int} (hR : Row wA (some ⟨g, 0, none⟩) n l) (hK : Below wr.heap.size wr wA) (hQ : Blk wA s [(n : Int)]) : LaidX wr c n l (.pointer (some ⟨wA.heap.size, 0, none⟩)) (wA.alloc (.cells #[.bool c, .slice (some ⟨s, 0, none⟩) 1 1, .slice (some ⟨g, 0, none⟩) n cap] 25)) :=
  ⟨wA.heap.size, s, g, cap, rfl, Box.new _ _ _ _, hQ.row1.alloc _, hR.alloc _, hK.alloc hK.size _⟩

theorem lx_zc {wr wA : World} {c c' : Bool} {n g s p cap : Nat} {l : List Int} {a1 a2 : Option Addr} {l1 l2 k1 k2 : Nat} (hR : Row wA (some ⟨g, 0, none⟩) n l) (hK : Below wr.heap.size wr wA) (hP : Box wA p c' (.slice a1 l1 k1) (.slice a2 l2 k2)) (hp : wr.heap.size ≤ p) (hQ : Blk wA s [(n : Int)]) :
    LaidX wr c n l (.pointer (some ⟨p, 0, none⟩)) (((wA.setCell ⟨p, 0, none⟩ (.bool c)).setCell ⟨p, 1, none⟩ (.slice (some ⟨s, 0, none⟩) 1 1)).setCell ⟨p, 2, none⟩ (.slice (some ⟨g, 0, none⟩) n cap)) :=
  ⟨p, s, g, cap, rfl, hP.sets, hQ.row1.sets hP _ _ _, hR.sets hP _ _ _, ((hK.setCell hp _).setCell hp _).setCell hp _⟩

theorem lx_zcb {wr wA : World} {c c' : Bool} {n g p cap : Nat} {l : List Int} {a1 a2 : Option Addr} {l1 l2 k1 k2 : Nat} (hR : Row wA (some ⟨g, 0, none⟩) n l) (hK : Below wr.heap.size wr wA) (hP : Box wA p c' (.slice a1 l1 k1) (.slice a2 l2 k2)) (hp : wr.heap.size ≤ p) :
    LaidX wr c n l (.pointer (some ⟨p, 0, none⟩)) ((((wA.setCell ⟨p, 0, none⟩ (.bool c)).setCell ⟨p, 1, none⟩ (.slice (some ⟨wA.heap.size, 0, none⟩) 1 1)).setCell ⟨p, 2, none⟩ (.slice (some ⟨g, 0, none⟩) n cap)).alloc (.cells #[.int .i64 (n : Nat)] 3)) := by
  refine ⟨p, wA.heap.size, g, cap, rfl, hP.sets.alloc _, ?_, (hR.sets hP _ _ _).alloc _, (((hK.setCell hp _).setCell hp _).setCell hp _).alloc (by simpa using hK.size) _⟩
  have := (Blk.one (((wA.setCell ⟨p, 0, none⟩ (.bool c)).setCell ⟨p, 1, none⟩ (.slice (some ⟨wA.heap.size, 0, none⟩) 1 1)).setCell ⟨p, 2, none⟩ (.slice (some ⟨g, 0, none⟩) n cap)) n).row1
  simpa using this

end Go.Proofs.YtkgcmpmgaghdhaaGreatDoor
namespace Go.Proofs.YtkgcmpmgaghdhaaGreatDoor

def shapeB (sh : List Int) : Bool := decide (sh.length ≤ 5) && decide (0 ≤ countOf sh)

theorem shape_long {sh : List Int} {n : Nat} (hl : sh.length = n) (h : 5 < n) : shapeB sh = false := by unfold shapeB; rw [decide_eq_false (by omega)]; rfl
theorem shape_bad {sh : List Int} (h : countOf sh = -1) : shapeB sh = false := by unfold shapeB; rw [h]; simp
theorem shape_good {sh : List Int} {n : Nat} (hl : sh.length = n) (h : n ≤ 5) (m : Int) (ha : sh.all inCells = true) (hp : prodFrom sh 1 = some m) : shapeB sh = true := by
  have hb := prodFrom_bd sh 1 m ha (by omega) (by omega) hp
  unfold shapeB; rw [decide_eq_true (by omega)]
  by_cases h0 : decide (0 ∈ sh) = true
  · rw [count_zero sh m ha hp h0]; rfl
  · rw [count_n sh m ha hp (by simpa using h0), decide_eq_true (by omega)]; rfl

/-- The product of all numbers of a shape. -/
def prodAll (sh : List Int) : Int := sh.foldl (· * ·) 1

theorem prodAll_snoc (sh : List Int) (k : Nat) (h : k < sh.length) : prodAll (sh.take (k + 1)) = prodAll (sh.take k) * sh.getD k 0 := by
  rw [take_snoc sh k h]; simp [prodAll]

theorem prodAll_of (sh : List Int) (n m : Int) (h : prodFrom sh n = some m) : sh.foldl (· * ·) n = if 0 ∈ sh then 0 else m := by
  induction sh generalizing n with
  | nil => simp [prodFrom] at h; simp [h]
  | cons x r ih =>
    simp only [prodFrom] at h
    by_cases h0 : x = 0
    · subst h0
      have hz : ∀ (l : List Int), l.foldl (· * ·) 0 = 0 := by intro l; induction l with
        | nil => rfl
        | cons y s ih => simpa using ih
      simp [hz]
    · rw [if_neg h0] at h
      split at h
      · simp at h
      · rw [List.foldl_cons, ih _ h]
        have : (0 ∈ x :: r) ↔ 0 ∈ r := by simp; intro e; exact absurd e.symm h0
        simp only [this]

theorem prodAll_count (sh : List Int) (h : shapeB sh = true) : prodAll sh = countOf sh := by
  unfold shapeB at h
  simp only [Bool.and_eq_true, decide_eq_true_eq] at h
  have h2 := h.2
  unfold countOf at h2 ⊢
  split at h2
  · rename_i ha
    rw [if_pos ha]
    split at h2
    · omega
    · rename_i m hm
      exact prodAll_of sh 1 m hm
  · omega

theorem prodAll_bd (sh : List Int) (h : shapeB sh = true) (k : Nat) : 0 ≤ prodAll (sh.take k) ∧ prodAll (sh.take k) ≤ 10000 := by
  unfold shapeB at h
  simp only [Bool.and_eq_true, decide_eq_true_eq] at h
  have h2 := h.2
  unfold countOf at h2
  split at h2
  · rename_i ha
    split at h2
    · omega
    · rename_i m hm
      have hat : (sh.take k).all inCells = true := by rw [List.all_eq_true]; exact fun x hx => List.all_eq_true.1 ha x (List.mem_of_mem_take hx)
      cases hpt : prodFrom (sh.take k) 1 with
      | none =>
        have := prodFrom_none_append (sh.take k) (sh.drop k) 1 hpt
        rw [List.take_append_drop] at this
        rw [this] at hm; simp at hm
      | some m' =>
        have hb := prodFrom_bd _ 1 m' hat (by omega) (by omega) hpt
        unfold prodAll
        rw [prodAll_of _ 1 m' hpt]
        split <;> omega
  · omega

/-- Numbers that a valid array may have in its shape, but for how many they are. -/
def ShapeIn (sh : List Int) : Prop := sh.all inCells = true ∧ ∃ m, prodFrom sh 1 = some m

theorem prodFrom_less (ys : List Int) (n m k : Int) (hy : ys.all inCells = true) (hk : 1 ≤ k) (hkn : k ≤ n) (h : prodFrom ys n = some m) : ∃ m', prodFrom ys k = some m' := by
  induction ys generalizing n k with
  | nil => exact ⟨k, rfl⟩
  | cons y r ih =>
    simp only [List.all_cons, Bool.and_eq_true] at hy
    have hyb : 0 ≤ y ∧ y ≤ 10000 := by simpa [inCells] using hy.1
    simp only [prodFrom] at h ⊢
    by_cases h0 : y = 0
    · rw [if_pos h0] at h ⊢; exact ih n k hy.2 hk hkn h
    · rw [if_neg h0] at h ⊢
      split at h
      · simp at h
      · rename_i hle
        have h1 : k * y ≤ n * y := Int.mul_le_mul_of_nonneg_right hkn (by omega)
        have h2 : 1 * 1 ≤ k * y := Int.mul_le_mul hk (by omega) (by omega) (by omega)
        rw [if_neg (by omega)]
        exact ih (n * y) (k * y) hy.2 (by omega) h1 h

theorem ShapeIn.take {sh : List Int} (h : ShapeIn sh) (k : Nat) : ShapeIn (sh.take k) := by
  obtain ⟨ha, m, hm⟩ := h
  refine ⟨by rw [List.all_eq_true]; exact fun x hx => List.all_eq_true.1 ha x (List.mem_of_mem_take hx), ?_⟩
  cases hpt : prodFrom (sh.take k) 1 with
  | none =>
    have := prodFrom_none_append (sh.take k) (sh.drop k) 1 hpt
    rw [List.take_append_drop] at this
    rw [this] at hm; simp at hm
  | some m' => exact ⟨m', rfl⟩

theorem prodFrom_append (xs ys : List Int) (n : Int) : prodFrom (xs ++ ys) n = (prodFrom xs n).bind (prodFrom ys) := by
  induction xs generalizing n with
  | nil => simp [prodFrom]
  | cons y r ih =>
    simp only [List.cons_append, prodFrom]
    split
    · exact ih n
    · split
      · simp
      · exact ih _

theorem ShapeIn.drop {sh : List Int} (h : ShapeIn sh) (k : Nat) : ShapeIn (sh.drop k) := by
  have ht := h.take k
  obtain ⟨ha, m, hm⟩ := h
  have hd : (sh.drop k).all inCells = true := by rw [List.all_eq_true]; exact fun x hx => List.all_eq_true.1 ha x (List.mem_of_mem_drop hx)
  refine ⟨hd, ?_⟩
  obtain ⟨hta, p, hp⟩ := ht
  have hb := prodFrom_bd _ 1 p hta (by omega) (by omega) hp
  rw [← List.take_append_drop k sh, prodFrom_append, hp, Option.bind_some] at hm
  exact prodFrom_less _ p m 1 hd (by omega) hb.1 hm

theorem ShapeIn.bd {sh : List Int} (h : ShapeIn sh) : 0 ≤ prodAll sh ∧ prodAll sh ≤ 10000 := by
  obtain ⟨ha, m, hm⟩ := h
  have hb := prodFrom_bd sh 1 m ha (by omega) (by omega) hm
  unfold prodAll
  rw [prodAll_of sh 1 m hm]
  split <;> omega

theorem ShapeIn.cell {sh : List Int} (h : ShapeIn sh) (k : Nat) : 0 ≤ sh.getD k 0 ∧ sh.getD k 0 ≤ 10000 := by
  by_cases hk : k < sh.length
  · have := List.all_eq_true.1 h.1 (sh.getD k 0) (by simp [hk])
    simpa [inCells] using this
  · have e : sh.getD k 0 = 0 := by simp [List.getD, List.getElem?_eq_none (by omega : sh.length ≤ k)]
    rw [e]; omega

theorem shapeIn_of {c : Bool} {sh dt : List Int} (h : arrOk c sh dt = true) : ShapeIn sh ∧ prodAll sh = dt.length ∧ sh.length ≤ 5 := by
  unfold arrOk at h
  simp only [Bool.and_eq_true, decide_eq_true_eq] at h
  obtain ⟨h5, hc, _⟩ := h
  have hs : shapeB sh = true := by unfold shapeB; rw [decide_eq_true h5, decide_eq_true (by omega)]; rfl
  refine ⟨?_, by rw [prodAll_count sh hs, hc], h5⟩
  unfold countOf at hc
  split at hc
  · rename_i ha
    split at hc
    · omega
    · rename_i m hm; exact ⟨ha, m, hm⟩
  · omega

theorem prodAll_append (xs ys : List Int) : prodAll (xs ++ ys) = prodAll xs * prodAll ys := by
  have key : ∀ (ys : List Int) (n : Int), ys.foldl (· * ·) n = n * ys.foldl (· * ·) 1 := by
    intro ys
    induction ys with
    | nil => intro n; simp
    | cons y r ih => intro n; rw [List.foldl_cons, List.foldl_cons, ih (n * y), ih (1 * y), Int.one_mul, Int.mul_assoc]
  unfold prodAll
  rw [List.foldl_append, key]

end Go.Proofs.YtkgcmpmgaghdhaaGreatDoor
namespace Go.Proofs.YtkgcmpmgaghdhaaGreatDoor

/-- The place of the last axis, or of the first. -/
def axisAt (sh : List Int) (first : Bool) : Nat := if first then 0 else sh.length - 1
def axisB (sh : List Int) (first : Bool) : Int := prodAll (sh.take (axisAt sh first))
def axisN (sh : List Int) (first : Bool) : Int := sh.getD (axisAt sh first) 0
def axisA (sh : List Int) (first : Bool) : Int := prodAll (sh.drop (axisAt sh first + 1))
def without (sh : List Int) (first : Bool) : List Int := if first then sh.drop 1 else sh.take (sh.length - 1)

theorem axis_all (sh : List Int) (first : Bool) (h : sh ≠ []) : axisB sh first * axisN sh first * axisA sh first = prodAll sh := by
  have hl : 0 < sh.length := List.length_pos_iff.mpr h
  have hat : axisAt sh first < sh.length := by unfold axisAt; split <;> omega
  have e : sh = sh.take (axisAt sh first) ++ ([sh.getD (axisAt sh first) 0] ++ sh.drop (axisAt sh first + 1)) := by
    have h1 := List.take_append_drop (axisAt sh first + 1) sh
    rw [take_snoc sh _ hat, List.append_assoc] at h1
    exact h1.symm
  have e1 : prodAll [sh.getD (axisAt sh first) 0] = sh.getD (axisAt sh first) 0 := by simp [prodAll]
  have e2 := congrArg prodAll e
  rw [prodAll_append, prodAll_append, e1, ← Int.mul_assoc] at e2
  exact e2.symm

/-- What folding nothing gives. -/
def emptyOf (op : Int) : Int := [0, 0, 0, 1, 1, 1000000000000000, -1000000000000000, 0, 1, 1, 0, 0, 1, 1, 0, 1, 0].getD op.toNat 0

/-- Numbers folded from the right, and the code. -/
def foldR (op : Int) : List Int → Int × Int
  | [] => (emptyOf op, 0)
  | [x] => (x, 0)
  | x :: y :: r => if (foldR op (y :: r)).2 ≠ 0 then (0, (foldR op (y :: r)).2) else twoOf op x (foldR op (y :: r)).1

theorem foldR_cons {op x : Int} {r : List Int} (h : r ≠ []) : foldR op (x :: r) = if (foldR op r).2 ≠ 0 then (0, (foldR op r).2) else twoOf op x (foldR op r).1 := by
  cases r with
  | nil => exact absurd rfl h
  | cons y s => rfl

theorem foldR_code {op : Int} (xs : List Int) {r : List Int} {c : Int} (hr : r ≠ []) (h : foldR op r = (0, c)) (hc : c ≠ 0) : foldR op (xs ++ r) = (0, c) := by
  induction xs with
  | nil => exact h
  | cons x s ih =>
    rw [List.cons_append, foldR_cons (by simp [hr]), ih]
    simp [hc]

theorem two_code {op a b : Int} (h : (twoOf op a b).2 ≠ 0) : (twoOf op a b).1 = 0 := by
  unfold twoOf limited at h ⊢
  repeat' split
  all_goals simp_all

theorem two_bd (op a b : Int) : -1000000000000000 ≤ (twoOf op a b).1 ∧ (twoOf op a b).1 ≤ 1000000000000000 := by
  have hl : ∀ r : Int × Bool, -1000000000000000 ≤ (limited r).1 ∧ (limited r).1 ≤ 1000000000000000 := by
    intro r; unfold limited; split
    · rename_i h; exact inM_bd h.2
    · simp
  unfold twoOf
  repeat' split
  all_goals first | exact hl _ | simp

/-- The numbers along an axis. -/
def lineOf (dt : List Int) (p n after q : Nat) : List Int := (List.range n).map fun i => dt.getD ((p * n + i) * after + q) 0

theorem line_len (dt : List Int) (p n after q : Nat) : (lineOf dt p n after q).length = n := by simp [lineOf]
theorem line_get (dt : List Int) (p n after q i : Nat) (h : i < n) : (lineOf dt p n after q).getD i 0 = dt.getD ((p * n + i) * after + q) 0 := by simp [lineOf, h]
theorem line_snoc (dt : List Int) (p n after q k : Nat) (h : k < n) : ((lineOf dt p n after q).take (k + 1)).map (Value.int .i64) = ((lineOf dt p n after q).take k).map (Value.int .i64) ++ [.int .i64 (dt.getD ((p * n + k) * after + q) 0)] := by
  rw [take_snoc _ _ (by rw [line_len]; exact h), line_get _ _ _ _ _ _ h]; simp

theorem line_in {B n A p q i L : Nat} (hL : B * n * A = L) (hp : p < B) (hq : q < A) (hi : i < n) : (p * n + i) * A + q < L := by
  have h1 : p * n + i < B * n := by
    have : (p + 1) * n ≤ B * n := Nat.mul_le_mul_right n hp
    rw [Nat.add_mul] at this; omega
  have h2 : (p * n + i + 1) * A ≤ B * n * A := Nat.mul_le_mul_right A h1
  rw [Nat.add_mul] at h2; omega

def fold (op : Int) (c : Bool) (sh dt : List Int) (first : Bool) : Ans :=
  if arrOk c sh dt = true ∧ opIn op = true then
    if sh = [] then ⟨c, [], dt, 0⟩
    else if c = true ∧ axisN sh first ≠ 1 then noAns 3
    else gatherAns c (without sh first) (fun k => foldR op (lineOf dt (k / (axisA sh first).toNat) (axisN sh first).toNat (axisA sh first).toNat (k % (axisA sh first).toNat))) ((axisB sh first).toNat * (axisA sh first).toNat)
  else noAns 3

def scan (op : Int) (c : Bool) (sh dt : List Int) (first : Bool) : Ans :=
  if arrOk c sh dt = true ∧ opIn op = true then
    if sh = [] then ⟨c, [], dt, 0⟩
    else if c = true ∧ 1 < axisN sh first then noAns 3
    else gatherAns c sh (fun k => foldR op ((lineOf dt (k / (axisA sh first).toNat / (axisN sh first).toNat) (axisN sh first).toNat (axisA sh first).toNat (k % (axisA sh first).toNat)).take (k / (axisA sh first).toNat % (axisN sh first).toNat + 1))) ((axisB sh first).toNat * (axisN sh first).toNat * (axisA sh first).toNat)
  else noAns 3

end Go.Proofs.YtkgcmpmgaghdhaaGreatDoor
namespace Go.Proofs.YtkgcmpmgaghdhaaGreatDoor

/-- The axis' numbers as axisOf gives them: before, along, behind. -/
structure AxisIs (sh : List Int) (fl : Bool) (B L A : Nat) : Prop where
  b : axisB sh fl = B
  l : axisN sh fl = L
  a : axisA sh fl = A

theorem axis_is {c : Bool} {sh dt : List Int} (fl : Bool) (hok : arrOk c sh dt = true) (hne : sh ≠ []) : ∃ B L A : Nat, AxisIs sh fl B L A ∧ B * L * A = dt.length ∧ B ≤ 10000 ∧ L ≤ 10000 ∧ A ≤ 10000 := by
  obtain ⟨hin, hp, _⟩ := shapeIn_of hok
  have h1 := (hin.take (axisAt sh fl)).bd
  have h2 := hin.cell (axisAt sh fl)
  have h3 := (hin.drop (axisAt sh fl + 1)).bd
  have e := axis_all sh fl hne
  rw [hp] at e
  obtain ⟨B, hB⟩ : ∃ B : Nat, axisB sh fl = B := ⟨(axisB sh fl).toNat, by unfold axisB; omega⟩
  obtain ⟨L, hL⟩ : ∃ L : Nat, axisN sh fl = L := ⟨(axisN sh fl).toNat, by unfold axisN; omega⟩
  obtain ⟨A, hA⟩ : ∃ A : Nat, axisA sh fl = A := ⟨(axisA sh fl).toNat, by unfold axisA; omega⟩
  refine ⟨B, L, A, ⟨hB, hL, hA⟩, ?_, ?_, ?_, ?_⟩
  · rw [hB, hL, hA] at e
    exact_mod_cast e
  · unfold axisB at hB; omega
  · unfold axisN at hL; omega
  · unfold axisA at hA; omega

end Go.Proofs.YtkgcmpmgaghdhaaGreatDoor
namespace Go.Proofs.YtkgcmpmgaghdhaaGreatDoor

theorem vals_set (f : Nat → Int × Int) (m k : Nat) : (vals f k ++ List.replicate (m + 1) (0 : Int)).set k (f k).1 = vals f (k + 1) ++ List.replicate m 0 := by
  have hk : (vals f k).length = k := vals_len f k
  rw [List.replicate_succ, List.set_append_right _ _ (by omega), hk, Nat.sub_self, List.set_cons_zero]
  simp [vals, List.range_succ]

theorem vals_pre_len (f : Nat → Int × Int) (n k : Nat) (h : k ≤ n) : (vals f k ++ List.replicate (n - k) (0 : Int)).length = n := by
  simp [vals_len]; omega

end Go.Proofs.YtkgcmpmgaghdhaaGreatDoor
namespace Go.Proofs.YtkgcmpmgaghdhaaGreatDoor
open Go.RowKit

/-- The two sentinels lie as their initialisers lay them: errNoResult points to a, errTooGreat to b. -/
structure Gl (w : World) (a b : Addr) : Prop where
  no : w.cell? ⟨2, 0, none⟩ = some (.iface 175 (.pointer (some a)))
  big : w.cell? ⟨1, 0, none⟩ = some (.iface 175 (.pointer (some b)))
  ne : a ≠ b
  rowA : ∃ ca ta, w.heap[a.block]? = some (.cells ca ta (0, 0))
  rowB : ∃ cb tb, w.heap[b.block]? = some (.cells cb tb (0, 0))

theorem Gl.below {w w' : World} {a b : Addr} (h : Gl w a b) (hb : Below w.heap.size w w') : Gl w' a b := by
  obtain ⟨h1, h2, h3, ⟨ca, ta, h4⟩, ⟨cb, tb, h5⟩⟩ := h
  exact ⟨(hb.cell (p := ⟨2, 0, none⟩) (World.block_lt_of_cell? _ _ h1)).trans h1, (hb.cell (p := ⟨1, 0, none⟩) (World.block_lt_of_cell? _ _ h2)).trans h2, h3,
    ⟨ca, ta, (hb.block _ (lt_of_block h4)).trans h4⟩, ⟨cb, tb, (hb.block _ (lt_of_block h5)).trans h5⟩⟩

theorem Gl.alloc {w : World} {a b : Addr} (h : Gl w a b) (o : Obj) : Gl (w.alloc o) a b := h.below ((Below.refl _ _).alloc (Nat.le_refl _) _)
theorem Gl.drewN {w : World} {a b : Addr} (h : Gl w a b) (q : Nat) : Gl (w.drewN q) a b := h.below (Below.drewN (Below.refl _ _) _)

/-- What an axis of no elements gives for the ops 1 to 16. -/
def emptyTab : List Int := [0, 0, 1, 1, 1000000000000000, -1000000000000000, 0, 1, 1, 0, 0, 1, 1, 0, 1, 0]

/-- The sentinels and the table emptyFolds lie as laid. -/
structure GlF (w : World) (a b : Addr) : Prop where
  gl : Gl w a b
  tab : ∀ i, i < 16 → w.cell? ⟨0, i, none⟩ = some (.int .i64 (emptyTab.getD i 0))

theorem GlF.below {w w' : World} {a b : Addr} (h : GlF w a b) (hb : Below w.heap.size w w') : GlF w' a b :=
  ⟨h.gl.below hb, fun i hi => (hb.cell (p := ⟨0, i, none⟩) (World.block_lt_of_cell? _ _ (h.tab i hi))).trans (h.tab i hi)⟩
theorem GlF.alloc {w : World} {a b : Addr} (h : GlF w a b) (o : Obj) : GlF (w.alloc o) a b := h.below ((Below.refl _ _).alloc (Nat.le_refl _) _)

/-- What an element's function gives for a code: nil, errTooGreat or errNoResult. -/
def errV (a b : Addr) (code : Int) : Value := if code = 0 then .nilIface else if code = 7 then .iface 175 (.pointer (some b)) else .iface 175 (.pointer (some a))

theorem errV_0 (a b : Addr) : errV a b 0 = .nilIface := rfl
theorem errV_7 (a b : Addr) : errV a b 7 = .iface 175 (.pointer (some b)) := rfl
theorem errV_3 (a b : Addr) : errV a b 3 = .iface 175 (.pointer (some a)) := rfl

/-- The codes that elements can have. -/
def codeIn (code : Int) : Prop := code = 0 ∨ code = 3 ∨ code = 7

end Go.Proofs.YtkgcmpmgaghdhaaGreatDoor
namespace Go.Proofs.YtkgcmpmgaghdhaaGreatDoor
open Go.RowKit Go.Extern.Stop Go.Stop Go.Extern

theorem is_typeOf (v : Value) (w : World) : (Extern.ReflectliteType.typeOf #[.iface 175 v]).run Tryz.prog w = .ok (.iface 165 (.agg #[.pointer (some ⟨3, 175, none⟩)])) w := by kernel_rfl
/-- The model's entry for (rtype).Comparable, under a name of its own. -/
def cmpEntry : Array Value → Sem Value := Extern.ReflectliteType.method fun t => do Extern.Rtype.noPackHeld "Comparable" t; pure (.bool (← typeInfo t).comparable)
theorem is_comparable (w : World) : (cmpEntry #[.agg #[.pointer (some ⟨3, 175, none⟩)]]).run Tryz.prog w = .ok (.bool true) w := by kernel_rfl
theorem is_methodComparable (v : Value) (w : World) : (Go.method 311 165 v "Comparable").run Tryz.prog w = .ok (198, v) w := by kernel_rfl
theorem is_comp : (Tryz.prog.info? 175).map (·.comparable) = some true := by kernel_rfl
theorem is_size : (Tryz.prog.info? 199).map (·.size) = some 1 := by kernel_rfl
theorem is_noIs (v : Value) (xT : TypeId) (w : World) : (Instr.typeAssert (.iface 175 v) xT 167 true).run Tryz.prog w = .ok (.tuple #[.nilIface, .bool false]) w := run_typeAssert_lacksB Tryz.underlying167 (by kernel_rfl) (by kernel_rfl) v xT w
theorem is_noUnwrap (v : Value) (xT : TypeId) (w : World) : (Instr.typeAssert (.iface 175 v) xT 170 true).run Tryz.prog w = .ok (.tuple #[.nilIface, .bool false]) w := run_typeAssert_lacksB Tryz.underlying170 (by kernel_rfl) (by kernel_rfl) v xT w
theorem is_noUnwraps (v : Value) (xT : TypeId) (w : World) : (Instr.typeAssert (.iface 175 v) xT 172 true).run Tryz.prog w = .ok (.tuple #[.nilIface, .bool false]) w := run_typeAssert_lacksB Tryz.underlying172 (by kernel_rfl) (by kernel_rfl) v xT w

/-- errors.Is(x, x), x a pointer to an errors.errorString. -/
theorem is_same (a : Addr) (w : World) :
    Calls Tryz.prog 160 #[.iface 175 (.pointer (some a)), .iface 175 (.pointer (some a))] w fun e w' => e = .returned (.bool true) ∧ w' = w := by
  obtain ⟨i, hi, hcmp⟩ := Option.map_eq_some_iff.1 is_comp
  obtain ⟨j, hj, hjs⟩ := Option.map_eq_some_iff.1 is_size
  have h8 := @run_callFunc_extern Tryz.prog 175 _ Extern.ReflectliteType.typeOf Tryz.func175 (by kernel_rfl) (by kernel_rfl) (by kernel_rfl) (by kernel_rfl)
  have h32 := @run_callFunc_extern Tryz.prog 198 _ cmpEntry Tryz.func198 (by kernel_rfl) (by kernel_rfl) (by kernel_rfl) (by kernel_rfl)
  have tT := is_typeOf
  have cT := is_comparable
  have mR := is_methodComparable
  have heq := run_eql_iface_ptr_same (P := Tryz.prog) w a Tryz.underlying92 Tryz.underlying175 hi hcmp hj
  go_enter Tryz.func160, Tryz.ntmps160
  go_wp2
  refine wp_loop_rounds 1 ?_
  rw [rounds_succ]
  go_wp2
  go_ret
  exact ⟨rfl, rfl⟩

/-- errors.Is(x, y), two different pointers to errors.errorString. -/
theorem is_other (a b : Addr) (ca cb : Array Value) (ta tb : TypeId) (w : World) (hne : a ≠ b) (ha : w.heap[a.block]? = some (.cells ca ta (0, 0))) (hb : w.heap[b.block]? = some (.cells cb tb (0, 0))) :
    Calls Tryz.prog 160 #[.iface 175 (.pointer (some a)), .iface 175 (.pointer (some b))] w fun e w' => e = .returned (.bool false) ∧ w' = w := by
  obtain ⟨i, hi, hcmp⟩ := Option.map_eq_some_iff.1 is_comp
  obtain ⟨j, hj, hjs⟩ := Option.map_eq_some_iff.1 is_size
  have h8 := @run_callFunc_extern Tryz.prog 175 _ Extern.ReflectliteType.typeOf Tryz.func175 (by kernel_rfl) (by kernel_rfl) (by kernel_rfl) (by kernel_rfl)
  have h32 := @run_callFunc_extern Tryz.prog 198 _ cmpEntry Tryz.func198 (by kernel_rfl) (by kernel_rfl) (by kernel_rfl) (by kernel_rfl)
  have tT := is_typeOf
  have cT := is_comparable
  have mR := is_methodComparable
  have nE := is_noIs
  have uE := is_noUnwrap
  have vE := is_noUnwraps
  have heq := run_eql_iface_ptr_other (P := Tryz.prog) w Tryz.underlying92 Tryz.underlying175 hi hcmp hj (by rw [hjs]; decide) hne ha hb
  go_enter Tryz.func160, Tryz.ntmps160
  go_wp2
  refine wp_loop_rounds 1 ?_
  rw [rounds_succ]
  go_wp2
  go_ret
  exact ⟨rfl, rfl⟩

set_option maxHeartbeats 400000 in
theorem codeOf_big (a b : Addr) (w : World) (hG : Gl w a b) : Calls Tryz.prog 119 #[errV a b 7] w fun e w' => e = .returned (.int .i64 7) ∧ w' = w := by
  have hc := hG.big
  rw [errV_7]
  go_enter Tryz.func119, Tryz.ntmps119
  go_wp2_with (go_at_call 160; refine (is_same b _).mono ?_; rintro e w' ⟨rfl, rfl⟩)
  go_ret
  exact ⟨rfl, rfl⟩

set_option maxHeartbeats 400000 in
theorem codeOf_no (a b : Addr) (w : World) (hG : Gl w a b) : Calls Tryz.prog 119 #[errV a b 3] w fun e w' => e = .returned (.int .i64 3) ∧ w' = w := by
  have hc := hG.big
  obtain ⟨ca, ta, h4⟩ := hG.rowA
  obtain ⟨cb, tb, h5⟩ := hG.rowB
  have HN := hide hG.ne
  have H4 := hide h4
  have H5 := hide h5
  clear h4 h5 hG
  rw [errV_3]
  go_enter Tryz.func119, Tryz.ntmps119
  go_wp2_with (go_at_call 160; refine (is_other a b _ _ _ _ _ (unhide HN) (unhide H4) (unhide H5)).mono ?_; rintro e w' ⟨rfl, rfl⟩)
  go_ret
  exact ⟨rfl, rfl⟩

theorem codeOf_any (a b : Addr) (code : Int) (w : World) (hG : Gl w a b) (hc : codeIn code) (h0 : code ≠ 0) : Calls Tryz.prog 119 #[errV a b code] w fun e w' => e = .returned (.int .i64 code) ∧ w' = w := by
  rcases hc with h | rfl | rfl
  · exact absurd h h0
  · exact codeOf_no a b w hG
  · exact codeOf_big a b w hG

end Go.Proofs.YtkgcmpmgaghdhaaGreatDoor
namespace Go.Proofs.YtkgcmpmgaghdhaaGreatDoor
open Go.RowKit Go.Shelf

/-- The function value (g, lb) gives at each place below n what f says, in whatever world holds what lay in w. -/
def ElemOk (a b : Addr) (g : Nat) (lb : Array Value) (f : Nat → Int × Int) (n : Nat) (w : World) : Prop :=
  ∀ k, k < n → ∀ W, Below w.heap.size w W → Calls Tryz.prog g (#[.int .i64 (k : Nat)] ++ lb) W fun e w' => e = .returned (.tuple #[.int .i64 (f k).1, errV a b (f k).2]) ∧ Below W.heap.size W w'

theorem ElemOk.low {a b : Addr} {g : Nat} {lb : Array Value} {f : Nat → Int × Int} {n : Nat} {w w1 : World} (h : ElemOk a b g lb f n w) (hb : Below w.heap.size w w1) : ElemOk a b g lb f n w1 :=
  fun k hk W hW => h k hk W (hb.trans (hW.mono hb.size))

theorem neq_nil_nil (w : World) : (binOp .neq 92 .nilIface .nilIface).run Tryz.prog w = .ok (.bool false) w := by kernel_rfl

set_option maxHeartbeats 2000000 in
theorem listOf_any (a b : Addr) (g : Nat) (lb : Array Value) (eg : ∀ args w, (callFunc g args).run Tryz.prog w = .ok (.enter g args) w) (f : Nat → Int × Int) (n : Nat) (w : World) (hn : n ≤ 17592186044416) (hf : ∀ k, k < n → codeIn (f k).2) (hE : ElemOk a b g lb f n w) :
    Calls Tryz.prog 98 #[.int .i64 (n : Nat), .func (.func g) #[] lb] w fun e w' =>
      ((firstCode f n = 0 ∧ e = .returned (.tuple #[.slice (some ⟨w.heap.size, 0, none⟩) n n, .nilIface]) ∧ Blk w' w.heap.size (vals f n)) ∨ (firstCode f n ≠ 0 ∧ codeIn (firstCode f n) ∧ e = .returned (.tuple #[.slice none 0 0, errV a b (firstCode f n)]))) ∧ Below w.heap.size w w' := by
  have HE := hide hE
  have HF := hide hf
  clear hE hf
  obtain ⟨i0, hi, hz0, hz1, hz2⟩ := info_parts info_int
  go_enter Tryz.func98, Tryz.ntmps98
  go_wp2_with (at_make; refine wpList_make_full _ rfl _ _ 23 rfl w.heap.size 3 i0 (.int .i64 0) 1 Tryz.underlying23 hi hz0 hz1 _ _ _ _ n rfl rfl rfl rfl (by rw [hz2]; omega) (by unfold maxLen; omega) (Nat.le_refl _) ?_; intro w1 hown hgrow)
  have hblk : Blk w1 w.heap.size (vals f 0 ++ List.replicate (n - 0) 0) := Blk.of_owns (n := n) (base := w.heap.size) (by simpa [toList_madeCells_one, Value.cells, vals] using hown)
  have hbel : Below w.heap.size w w1 := (Below.refl _ _).grown hgrow (Nat.le_refl _) (by simp)
  clear hown hgrow hi hz0 hz1 hz2
  have HBK := hide hblk
  have HBL := hide hbel
  clear hblk hbel
  go_wp2
  go_loopw [7, 8, 9, 14] (fun _ _ _ i wr => ∃ k : Nat, k ≤ n ∧ i = .int .i64 k ∧ Hid (Blk wr w.heap.size (vals f k ++ List.replicate (n - k) 0)) ∧ Hid (Below w.heap.size w wr) ∧ Hid (firstCode f k = 0)) (fun _ _ _ i _ => n - (intOf i).toNat)
  case atStart => exact ⟨0, Nat.zero_le _, rfl, HBK, HBL, rfl⟩
  case round =>
    obtain ⟨k, hk, rfl, hb, hbl, hfc⟩ := hrel
    clear HBK HBL w1
    by_cases hlt : k < n
    · obtain ⟨r, hr⟩ : ∃ r, r = f k := ⟨_, rfl⟩
      obtain ⟨r1, r2⟩ := r
      have hcall := unhide HE k hlt wr (unhide hbl)
      rw [← hr] at hcall
      have hcode := unhide HF k hlt
      rw [← hr] at hcode
      have HR := hide hr
      clear hr
      by_cases h0 : r2 = 0
      · subst h0
        clear hcode
        rw [errV_0] at hcall
        have hnn := neq_nil_nil
        go_wp2_with (go_at_fn g; refine hcall.mono ?_; rintro e w2 ⟨rfl, hb2⟩; have HB := hide ((unhide hb).below (Nat.le_refl _) hb2); have HL := hide ((unhide hbl).trans (hb2.mono (unhide hbl).size)); have hc2 := (unhide HB).cell (i := k) (by simp [vals_len]; omega); have hf2 := (unhide HB).free k; clear hb2)
        have HS : Hid (Blk (w2.setCell ⟨w.heap.size, k, none⟩ (.int .i64 r1)) w.heap.size (vals f (k + 1) ++ List.replicate (n - (k + 1)) 0)) := by
          have hs := (unhide HB).set k r1
          have e : n - k = n - (k + 1) + 1 := by omega
          have e1 : r1 = (f k).1 := by rw [← unhide HR]
          rw [e] at hs
          rw [e1] at hs ⊢
          rw [vals_set] at hs
          exact hs
        go_roundw
        case rel => exact ⟨k + 1, by omega, by go_num, HS, (unhide HL).setCell (Nat.le_refl _) _, code_step (unhide hfc) (by rw [← unhide HR])⟩
        case measure => simp [intOf]; omega
      · have HC : Hid (firstCode f n = r2) := by
          show _ = _
          have e2 : (f k).2 = r2 := by rw [← unhide HR]
          rw [code_found (unhide hfc) hlt (by rw [e2]; exact h0), e2]
        have HI := hide hcode
        have HZ := hide h0
        have hrv : ∃ p, errV a b r2 = .iface 175 (.pointer (some p)) := by
          rcases hcode with h | rfl | rfl
          · exact absurd h h0
          · exact ⟨a, rfl⟩
          · exact ⟨b, rfl⟩
        obtain ⟨p, hp⟩ := hrv
        rw [hp] at hcall
        have HP := hide hp
        clear hcode h0 hp
        go_wp2_with (go_at_fn g; refine hcall.mono ?_; rintro e w2 ⟨rfl, hb2⟩; have HL := hide ((unhide hbl).trans (hb2.mono (unhide hbl).size)); clear hb2)
        go_ret2
        refine ⟨.inr ⟨by rw [unhide HC]; exact unhide HZ, by rw [unhide HC]; exact unhide HI, ?_⟩, unhide HL⟩
        rw [unhide HC, unhide HP]
        rfl
    · have hkn : k = n := by omega
      subst hkn
      go_wp2
      go_ret2
      exact ⟨.inl ⟨unhide hfc, rfl, by simpa using unhide hb⟩, unhide hbl⟩

end Go.Proofs.YtkgcmpmgaghdhaaGreatDoor
namespace Go.Proofs.YtkgcmpmgaghdhaaGreatDoor
open Go.RowKit

def withinB (v lo hi : Int) : Bool := decide (lo ≤ v ∧ v ≤ hi)

set_option maxHeartbeats 400000 in
theorem isWithin_any (v lo hi : Int) (w : World) : Calls Tryz.prog 115 #[.int .i64 v, .int .i64 lo, .int .i64 hi] w fun e w' => e = .returned (.bool (withinB v lo hi)) ∧ w' = w := by
  by_cases h1 : lo ≤ v
  · by_cases h2 : v ≤ hi
    · have HE : Hid (withinB v lo hi = true) := decide_eq_true ⟨h1, h2⟩
      go_enter Tryz.func115, Tryz.ntmps115
      go_wp2
      go_ret
      exact ⟨ret_bool HE.out.symm, rfl⟩
    · have HE : Hid (withinB v lo hi = false) := decide_eq_false (fun h => by omega)
      go_enter Tryz.func115, Tryz.ntmps115
      go_wp2
      go_ret
      exact ⟨ret_bool HE.out.symm, rfl⟩
  · have HE : Hid (withinB v lo hi = false) := decide_eq_false (fun h => by omega)
    go_enter Tryz.func115, Tryz.ntmps115
    go_wp2
    go_ret
    exact ⟨ret_bool HE.out.symm, rfl⟩

theorem isWithin_eq (v lo hi : Int) (w : World) (b : Bool) (h : Hid (withinB v lo hi = b)) : Calls Tryz.prog 115 #[.int .i64 v, .int .i64 lo, .int .i64 hi] w fun e w' => e = .returned (.bool b) ∧ w' = w := by
  rw [← h.out]; exact isWithin_any v lo hi w

set_option maxHeartbeats 1000000 in
theorem shapeOk_any (a : Option Addr) (n cap : Nat) (sh : List Int) (w : World) (h : Row w a n sh) : Calls Tryz.prog 67 #[.slice a n cap] w fun e w' => e = .returned (.bool (shapeB sh)) ∧ w' = w := by
  have hlen := hide h.len
  have hsm := h.small
  have H := hide h
  clear h
  by_cases h5 : 5 < n
  · have HE := hide (shape_long (unhide hlen) h5)
    go_enter Tryz.func67, Tryz.ntmps67
    go_wp2
    go_ret
    exact ⟨ret_bool HE.out.symm, rfl⟩
  · go_enter Tryz.func67, Tryz.ntmps67
    go_wp2
    go_loop [3, 5, 11] (fun p _ i => ∃ (k : Nat) (m : Int), k ≤ n ∧ i = .int .i64 k ∧ p = .int .i64 m ∧ Hid ((sh.take k).all inCells = true) ∧ Hid (prodFrom (sh.take k) 1 = some m)) (fun _ _ i => n - (intOf i).toNat)
    case atStart => exact ⟨0, 1, Nat.zero_le _, rfl, rfl, rfl, rfl⟩
    case round =>
      obtain ⟨k, m, hk, rfl, rfl, hall, hp⟩ := hrel
      have hmb := prodFrom_bd (sh.take k) 1 m (unhide hall) (by omega) (by omega) (unhide hp)
      obtain ⟨hm1, hm2⟩ := hmb
      by_cases hlt : k < n
      · obtain ⟨b, off, rfl, hblt, hc⟩ := (unhide H).get hlt
        have hks : Hid (k < sh.length) := by show k < sh.length; rw [unhide hlen]; exact hlt
        obtain ⟨x, hx⟩ : ∃ x, x = sh.getD k 0 := ⟨_, rfl⟩
        rw [← hx] at hc
        have HX := hide hx
        clear hx
        by_cases hin : 0 ≤ x ∧ x ≤ 10000
        · have HW : Hid (withinB x 0 10000 = true) := decide_eq_true hin
          have HA : Hid ((sh.take (k + 1)).all inCells = true) := all_step sh inCells k (unhide hks) (unhide hall) (by rw [← unhide HX]; exact decide_eq_true hin)
          obtain ⟨hx0, hx1⟩ := hin
          by_cases h0 : x = 0
          · have HP := hide (prod_step0 sh k (unhide hks) m (unhide hp) (by rw [← unhide HX]; exact h0))
            subst h0
            have hw : wrap64 (m * (if (0 : Int) < 1 then 1 else 0)) = m := by rw [if_pos (by omega), Int.mul_one]; exact (by unfold wrap64; omega)
            go_wp2_with (go_at_call 115; refine (isWithin_eq _ _ _ _ true HW).mono ?_; rintro e w' ⟨rfl, rfl⟩)
            go_round
            case rel => exact ⟨k + 1, m, by omega, by go_num, rfl, HA, HP⟩
            case measure => simp [intOf]; omega
          · have hx2 : ¬ x < 1 := by omega
            have hmx : m * x ≤ 10000 * 10000 := Int.mul_le_mul hm2 hx1 hx0 (by omega)
            have hmx0 : 0 ≤ m * x := Int.mul_nonneg (by omega) hx0
            have hw : wrap64 (m * x) = m * x := (by unfold wrap64; omega)
            by_cases hbig : 10000 < m * x
            · have HE : Hid (shapeB sh = false) := shape_bad (count_big sh (prod_none sh k (unhide hks) m (unhide hp) (by rw [← unhide HX]; exact h0) (by rw [← unhide HX]; exact hbig)))
              clear h0
              go_wp2_with (go_at_call 115; refine (isWithin_eq _ _ _ _ true HW).mono ?_; rintro e w' ⟨rfl, rfl⟩)
              go_ret
              exact ⟨ret_bool HE.out.symm, rfl⟩
            · have HP := hide (prod_step sh k (unhide hks) m (unhide hp) (by rw [← unhide HX]; exact h0) (by rw [← unhide HX]; omega))
              rw [← unhide HX] at HP
              clear h0
              go_wp2_with (go_at_call 115; refine (isWithin_eq _ _ _ _ true HW).mono ?_; rintro e w' ⟨rfl, rfl⟩)
              go_round
              case rel => exact ⟨k + 1, m * x, by omega, by go_num, rfl, HA, HP⟩
              case measure => simp [intOf]; omega
        · have HW : Hid (withinB x 0 10000 = false) := decide_eq_false hin
          have HE : Hid (shapeB sh = false) := shape_bad (count_bad sh (all_not sh inCells k (unhide hks) (by rw [← unhide HX]; exact decide_eq_false hin)))
          clear hin
          go_wp2_with (go_at_call 115; refine (isWithin_eq _ _ _ _ false HW).mono ?_; rintro e w' ⟨rfl, rfl⟩)
          go_ret
          exact ⟨ret_bool HE.out.symm, rfl⟩
      · have htk : sh.take k = sh := List.take_of_length_le (by rw [unhide hlen]; omega)
        have HE := hide (shape_good (unhide hlen) (by omega) m (by have := unhide hall; rwa [htk] at this) (by have := unhide hp; rwa [htk] at this))
        clear htk
        go_wp2
        go_ret
        exact ⟨ret_bool HE.out.symm, rfl⟩

theorem shapeOk_eq (a : Option Addr) (n cap : Nat) (sh : List Int) (w : World) (h : Row w a n sh) (r : Bool) (hr : Hid (shapeB sh = r)) : Calls Tryz.prog 67 #[.slice a n cap] w fun e w' => e = .returned (.bool r) ∧ w' = w := by
  rw [← hr.out]; exact shapeOk_any a n cap sh w h

set_option maxHeartbeats 400000 in
theorem cellsOf_any (a : Option Addr) (n cap : Nat) (sh : List Int) (w : World) (h : Row w a n sh) (hb : ∀ k, 0 ≤ prodAll (sh.take k) ∧ prodAll (sh.take k) ≤ 10000) : Calls Tryz.prog 51 #[.slice a n cap] w fun e w' => e = .returned (.int .i64 (prodAll sh)) ∧ w' = w := by
  have hlen := hide h.len
  have hsm := h.small
  have H := hide h
  have HB := hide hb
  clear h hb
  go_enter Tryz.func51, Tryz.ntmps51
  go_wp2
  go_loop [3, 5, 8] (fun p _ i => ∃ (k : Nat) (m : Int), k ≤ n ∧ i = .int .i64 k ∧ p = .int .i64 m ∧ Hid (prodAll (sh.take k) = m)) (fun _ _ i => n - (intOf i).toNat)
  case atStart => exact ⟨0, 1, Nat.zero_le _, rfl, rfl, rfl⟩
  case round =>
    obtain ⟨k, m, hk, rfl, rfl, hp⟩ := hrel
    by_cases hlt : k < n
    · obtain ⟨b, off, rfl, hblt, hc⟩ := (unhide H).get hlt
      have hks : Hid (k < sh.length) := by show k < sh.length; rw [unhide hlen]; exact hlt
      obtain ⟨x, hx⟩ : ∃ x, x = sh.getD k 0 := ⟨_, rfl⟩
      have HP : Hid (prodAll (sh.take (k + 1)) = m * x) := by show _ = _; rw [prodAll_snoc sh k (unhide hks), unhide hp, hx]
      have hpb := unhide HB (k + 1)
      rw [unhide HP] at hpb
      obtain ⟨hb0, hb1⟩ := hpb
      rw [← hx] at hc
      clear hx
      go_wp2
      go_round
      case rel => exact ⟨k + 1, m * x, by omega, by go_num, rfl, HP⟩
      case measure => simp [intOf]; omega
    · have HE : Hid (prodAll sh = m) := by have := unhide hp; rwa [List.take_of_length_le (by rw [unhide hlen]; omega)] at this
      go_wp2
      go_ret
      exact ⟨ret_int HE.out.symm, rfl⟩

theorem cellsOf_count (a : Option Addr) (n cap : Nat) (sh : List Int) (w : World) (h : Row w a n sh) (hs : shapeB sh = true) (cn : Int) (hc : Hid (countOf sh = cn)) : Calls Tryz.prog 51 #[.slice a n cap] w fun e w' => e = .returned (.int .i64 cn) ∧ w' = w := by
  rw [← hc.out, ← prodAll_count sh hs]; exact cellsOf_any a n cap sh w h (prodAll_bd sh hs)

end Go.Proofs.YtkgcmpmgaghdhaaGreatDoor
namespace Go.Proofs.YtkgcmpmgaghdhaaGreatDoor
open Go.RowKit

set_option maxHeartbeats 400000 in
theorem isNumber_any (v : Int) (w : World) : Calls Tryz.prog 142 #[.int .i64 v] w fun e w' => e = .returned (.bool (dataOk false v)) ∧ w' = w := by
  have HE : Hid (dataOk false v = withinB v (-1000000000000000) 1000000000000000) := by show _ = _; unfold dataOk withinB; simp
  go_enter Tryz.func142, Tryz.ntmps142
  go_wp2_with (go_at_call 115; refine (isWithin_any _ _ _ _).mono ?_; rintro e w' ⟨rfl, rfl⟩)
  go_ret
  exact ⟨ret_bool HE.out.symm, rfl⟩

set_option maxHeartbeats 400000 in
theorem ValidRune_any (v : Int) (w : World) (h0 : 0 ≤ v) (h1 : v ≤ 1114111) : Calls Tryz.prog 172 #[.int .i32 v] w fun e w' => e = .returned (.bool (runeOk v)) ∧ w' = w := by
  by_cases h3 : v < 55296
  · have HE : Hid (runeOk v = true) := decide_eq_true ⟨h0, h1, .inl h3⟩
    go_enter Tryz.func172, Tryz.ntmps172
    go_wp2
    go_ret
    exact ⟨ret_bool HE.out.symm, rfl⟩
  · by_cases h4 : 57343 < v
    · have HE : Hid (runeOk v = true) := decide_eq_true ⟨h0, h1, .inr h4⟩
      go_enter Tryz.func172, Tryz.ntmps172
      go_wp2
      go_ret
      exact ⟨ret_bool HE.out.symm, rfl⟩
    · have HE : Hid (runeOk v = false) := decide_eq_false (fun h => by omega)
      go_enter Tryz.func172, Tryz.ntmps172
      go_wp2
      go_ret
      exact ⟨ret_bool HE.out.symm, rfl⟩

theorem wrap32 (v : Int) (h0 : 0 ≤ v) (h1 : v ≤ 1114111) : IntKind.i32.wrap v = v := by
  unfold IntKind.wrap; simp [IntKind.bits, IntKind.signed]; omega

set_option maxHeartbeats 400000 in
theorem isCharacter_any (v : Int) (w : World) : Calls Tryz.prog 143 #[.int .i64 v] w fun e w' => e = .returned (.bool (dataOk true v)) ∧ w' = w := by
  by_cases h : 0 ≤ v ∧ v ≤ 1114111
  · obtain ⟨h0, h1⟩ := h
    have HE : Hid (dataOk true v = runeOk v) := by show _ = _; unfold dataOk; rw [decide_eq_true (by omega)]; simp
    have HW : Hid (withinB v 0 1114111 = true) := decide_eq_true ⟨h0, h1⟩
    have hw := wrap32 v h0 h1
    go_enter Tryz.func143, Tryz.ntmps143
    go_wp2_with (first | (go_at_call 115; refine (isWithin_eq _ _ _ _ true HW).mono ?_; rintro e w' ⟨rfl, rfl⟩) | (go_at_call 172; refine (ValidRune_any _ _ h0 h1).mono ?_; rintro e w' ⟨rfl, rfl⟩))
    go_ret
    exact ⟨ret_bool HE.out.symm, rfl⟩
  · have HE : Hid (dataOk true v = false) := by show _ = _; unfold dataOk runeOk; rw [decide_eq_false (p := 0 ≤ v ∧ _ ∧ _) (by omega)]; simp
    have HW : Hid (withinB v 0 1114111 = false) := decide_eq_false h
    clear h
    go_enter Tryz.func143, Tryz.ntmps143
    go_wp2_with (go_at_call 115; refine (isWithin_eq _ _ _ _ false HW).mono ?_; rintro e w' ⟨rfl, rfl⟩)
    go_ret
    exact ⟨ret_bool HE.out.symm, rfl⟩

end Go.Proofs.YtkgcmpmgaghdhaaGreatDoor
namespace Go.Proofs.YtkgcmpmgaghdhaaGreatDoor
open Go.RowKit Go.Shelf

/-- What reckoned answers: the shape that it was given and new elements, or nothing and the first code. -/
def Reck (w : World) (f : Nat → Int × Int) (n : Nat) (a1 : Option Addr) (n1 c1 : Nat) (e : Ending) (w' : World) : Prop :=
  ((firstCode f n = 0 ∧ ∃ p, w.heap.size ≤ p ∧ e = .returned (.tuple #[.agg #[.bool false, .slice a1 n1 c1, .slice (some ⟨p, 0, none⟩) n n], .int .i64 0]) ∧ Blk w' p (vals f n))
    ∨ (firstCode f n ≠ 0 ∧ e = .returned (.tuple #[.agg #[.bool false, .slice none 0 0, .slice none 0 0], .int .i64 (firstCode f n)]))) ∧ Below w.heap.size w w'

set_option maxHeartbeats 1000000 in
theorem reckoned_any (a b : Addr) (g : Nat) (lb : Array Value) (eg : ∀ args w, (callFunc g args).run Tryz.prog w = .ok (.enter g args) w) (f : Nat → Int × Int) (n : Nat) (a1 : Option Addr) (n1 c1 : Nat) (sh : List Int) (w : World) (h1 : Row w a1 n1 sh) (hsh : shapeB sh = true) (hc : countOf sh = (n : Int))
    (hG : Gl w a b) (hf : ∀ k, k < n → codeIn (f k).2) (hE : ElemOk a b g lb f n w) :
    Calls Tryz.prog 52 #[.slice a1 n1 c1, .func (.func g) #[] lb] w (Reck w f n a1 n1 c1) := by
  have hn : n ≤ 17592186044416 := by
    have := (prodAll_bd sh hsh sh.length).2
    rw [List.take_length, prodAll_count sh hsh, hc] at this
    omega
  have HE : Hid (∀ o, ElemOk a b g lb f n (w.alloc o)) := fun o => hE.low ((Below.refl _ _).alloc (Nat.le_refl _) _)
  have HF := hide hf
  have H1 := hide h1
  have HS := hide hsh
  have HC := hide hc
  have HG := hide hG
  clear hE hf h1 hsh hc hG
  have HW : Hid (∀ o, Below w.heap.size w (w.alloc o)) := fun o => (Below.refl _ _).alloc (Nat.le_refl _) _
  by_cases h0 : firstCode f n = 0
  · have HZ := hide h0
    clear h0
    go_enter Tryz.func52, Tryz.ntmps52
    go_wp2_with (first
      | (go_at_call 51; refine (cellsOf_count _ _ _ sh _ ((unhide H1).alloc _) (unhide HS) _ HC).mono ?_; rintro e w1 ⟨rfl, rfl⟩)
      | (go_at_call 98; refine (listOf_any a b g lb eg f n _ hn (unhide HF) (unhide HE _)).mono ?_; rintro e w2 ⟨hr, hb2⟩; obtain ⟨_, rfl, hblk⟩ | ⟨hne, _⟩ := hr; rotate_left; exact absurd (unhide HZ) hne; have hB := Box.below (Box.new w false (.slice none 0 0) (.slice none 0 0)) (Nat.le_refl _) hb2; obtain ⟨q0, q1, q2, q3, q4, q5, q6⟩ := hB.all; have HK := hide hblk; have HL := hide ((unhide HW _).trans (hb2.mono (by simp))); clear hblk hb2 hB))
    refine bodyPost_ret (v := .tuple #[.agg #[.bool false, .slice a1 n1 c1, .slice (some ⟨w.heap.size + 1, 0, none⟩) n n], .int .i64 0]) (by simp [results, Tryz.results52, go_sem, q0, q1, q2]) rfl ?_
    refine ⟨.inl ⟨unhide HZ, w.heap.size + 1, by omega, rfl, ?_⟩, (((unhide HL).setCell (Nat.le_refl _) _).setCell (Nat.le_refl _) _).setCell (Nat.le_refl _) _⟩
    have hk : Blk w2 (w.heap.size + 1) (vals f n) := by simpa using unhide HK
    exact ((hk.other (by simp) _).other (by simp) _).other (by simp) _
  · have HZ := hide h0
    clear h0
    go_enter Tryz.func52, Tryz.ntmps52
    go_wp2_with (first
      | (go_at_call 51; refine (cellsOf_count _ _ _ sh _ ((unhide H1).alloc _) (unhide HS) _ HC).mono ?_; rintro e w1 ⟨rfl, rfl⟩)
      | (go_at_call 98; refine (listOf_any a b g lb eg f n _ hn (unhide HF) (unhide HE _)).mono ?_; rintro e w2 ⟨hr, hb2⟩; obtain ⟨hne, _⟩ | ⟨_, hci, rfl⟩ := hr; exact absurd hne (unhide HZ); have hB := Box.below (Box.new w false (.slice none 0 0) (.slice none 0 0)) (Nat.le_refl _) hb2; obtain ⟨q0, q1, q2, q3, q4, q5, q6⟩ := hB.all; have HI := hide hci; have HL := hide ((unhide HW _).trans (hb2.mono (by simp))); clear hb2 hB hci; obtain ⟨c, hcc⟩ : ∃ c, c = firstCode f n := ⟨_, rfl⟩; rw [← hcc]; have HCC := hide hcc; clear hcc; obtain ⟨ev, hev⟩ : ∃ ev, ev = errV a b c := ⟨_, rfl⟩; rw [← hev]; have hev2 : ∃ p, ev = .iface 175 (.pointer (some p)) := (by rw [hev, unhide HCC]; rcases unhide HI with h | h | h; exact absurd h (unhide HZ); exact ⟨a, by rw [h]; rfl⟩; exact ⟨b, by rw [h]; rfl⟩); have HEV := hide hev; clear hev; obtain ⟨p, rfl⟩ := hev2)
      | (go_at_call 119; rw [unhide HEV]; refine (codeOf_any a b c _ ((unhide HG).below (unhide HL)) (by rw [unhide HCC]; exact unhide HI) (by rw [unhide HCC]; exact unhide HZ)).mono ?_; rintro e w3 ⟨rfl, rfl⟩))
    refine bodyPost_ret (v := .tuple #[.agg #[.bool false, .slice none 0 0, .slice none 0 0], .int .i64 c]) (by simp [results, Tryz.results52, go_sem, q0, q1, q2]) rfl ?_
    exact ⟨.inr ⟨unhide HZ, by rw [← unhide HCC]⟩, (((unhide HL).setCell (Nat.le_refl _) _).setCell (Nat.le_refl _) _).setCell (Nat.le_refl _) _⟩

end Go.Proofs.YtkgcmpmgaghdhaaGreatDoor
namespace Go.Proofs.YtkgcmpmgaghdhaaGreatDoor
open Go.RowKit Go.Shelf

set_option maxHeartbeats 400000 in
theorem isTruth_eq (v : Int) (w : World) (r : Bool) (h : Hid (withinB v 0 1 = r)) : Calls Tryz.prog 174 #[.int .i64 v] w fun e w' => e = .returned (.bool r) ∧ w' = w := by
  go_enter Tryz.func174, Tryz.ntmps174
  go_wp2_with (go_at_call 115; refine (isWithin_eq _ _ _ _ r h).mono ?_; rintro e w' ⟨rfl, rfl⟩)
  go_ret
  exact ⟨rfl, rfl⟩

set_option maxHeartbeats 400000 in
theorem magnitude_any (v : Int) (w : World) (hv : -1000000000000000 ≤ v ∧ v ≤ 1000000000000000) : Calls Tryz.prog 171 #[.int .i64 v] w fun e w' => e = .returned (.int .i64 (if v < 0 then -v else v)) ∧ w' = w := by
  obtain ⟨h1, h2⟩ := hv
  by_cases h : v < 0
  · rw [if_pos h]
    go_enter Tryz.func171, Tryz.ntmps171
    go_wp2
    go_ret
    exact ⟨by first | rfl | (simp; omega), rfl⟩
  · rw [if_neg h]
    go_enter Tryz.func171, Tryz.ntmps171
    go_wp2
    go_ret
    exact ⟨by first | rfl | (simp; omega), rfl⟩

theorem ret_el {a b : Addr} {r : Int × Int} {x c : Int} (h : r = (x, c)) : Ending.returned (.tuple #[.int .i64 x, errV a b c]) = Ending.returned (.tuple #[.int .i64 r.1, errV a b r.2]) := by rw [h]

end Go.Proofs.YtkgcmpmgaghdhaaGreatDoor
namespace Go.Proofs.YtkgcmpmgaghdhaaGreatDoor
open Go.RowKit

set_option maxHeartbeats 1000000 in
theorem l4Mod_any (a b : Int) (w : World) (ha : -1000000000000000 ≤ a ∧ a ≤ 1000000000000000) (hb : -1000000000000000 ≤ b ∧ b ≤ 1000000000000000) : Calls Tryz.prog 166 #[.int .i64 a, .int .i64 b] w fun e w' => e = .returned (.int .i64 (modOf a b)) ∧ w' = w := by
  obtain ⟨ha1, ha2⟩ := ha
  obtain ⟨hb1, hb2⟩ := hb
  by_cases h0 : a = 0
  · subst h0
    have HE : Hid (modOf 0 b = b) := rfl
    go_enter Tryz.func166, Tryz.ntmps166
    go_wp2
    go_ret
    exact ⟨ret_int HE.out.symm, rfl⟩
  have q0 : (a == 0) = false := by simp [h0]
  have hm : -1000000000000000 ≤ b.tmod a ∧ b.tmod a ≤ 1000000000000000 := by
    have := Int.natAbs_tmod b a
    have h3 : b.natAbs % a.natAbs ≤ b.natAbs := Nat.mod_le _ _
    omega
  obtain ⟨m, hm0⟩ : ∃ m, b.tmod a = m := ⟨_, rfl⟩
  rw [hm0] at hm
  obtain ⟨hm1, hm2⟩ := hm
  by_cases hz : m = 0
  · subst hz
    have HE : Hid (modOf a b = 0) := by show _ = _; unfold modOf; rw [if_neg h0, hm0]; simp
    go_enter Tryz.func166, Tryz.ntmps166
    go_wp2
    go_ret
    exact ⟨ret_int HE.out.symm, rfl⟩
  have q1 : (m != 0) = true := by simp [hz]
  by_cases hs : m < 0
  · by_cases ht : a < 0
    · have HE : Hid (modOf a b = m) := by show _ = _; unfold modOf; rw [if_neg h0, hm0]; simp [hs, ht]
      clear hz
      go_enter Tryz.func166, Tryz.ntmps166
      go_wp2
      go_ret
      exact ⟨ret_int HE.out.symm, rfl⟩
    · have HE : Hid (modOf a b = m + a) := by show _ = _; unfold modOf; rw [if_neg h0, hm0]; simp [hs, ht, hz]
      clear hz
      go_enter Tryz.func166, Tryz.ntmps166
      go_wp2
      go_ret
      exact ⟨ret_int HE.out.symm, rfl⟩
  · by_cases ht : a < 0
    · have HE : Hid (modOf a b = m + a) := by show _ = _; unfold modOf; rw [if_neg h0, hm0]; simp [hs, ht, hz]
      clear hz
      go_enter Tryz.func166, Tryz.ntmps166
      go_wp2
      go_ret
      exact ⟨ret_int HE.out.symm, rfl⟩
    · have HE : Hid (modOf a b = m) := by show _ = _; unfold modOf; rw [if_neg h0, hm0]; simp [hs, ht]
      clear hz
      go_enter Tryz.func166, Tryz.ntmps166
      go_wp2
      go_ret
      exact ⟨ret_int HE.out.symm, rfl⟩

end Go.Proofs.YtkgcmpmgaghdhaaGreatDoor
namespace Go.Proofs.YtkgcmpmgaghdhaaGreatDoor
open Go.RowKit

set_option maxHeartbeats 400000 in
theorem truth_call (b : Bool) (w : World) : Calls Tryz.prog 57 #[.bool b] w fun e w' => e = .returned (.int .i64 (truth b)) ∧ w' = w := by
  cases b
  all_goals
    go_enter Tryz.func57, Tryz.ntmps57
    go_wp2
    go_ret
    exact ⟨rfl, rfl⟩

set_option maxHeartbeats 400000 in
theorem l4In_any (v : Int) (w : World) : Calls Tryz.prog 169 #[.int .i64 v] w fun e w' => e = .returned (.bool (inM v)) ∧ w' = w := by
  by_cases h1 : v ≤ 1000000000000000
  · by_cases h2 : -1000000000000000 ≤ v
    · have HE : Hid (inM v = true) := inM_of h2 h1
      go_enter Tryz.func169, Tryz.ntmps169
      go_wp2
      go_ret
      exact ⟨ret_bool HE.out.symm, rfl⟩
    · have HE : Hid (inM v = false) := inM_not (by omega)
      go_enter Tryz.func169, Tryz.ntmps169
      go_wp2
      go_ret
      exact ⟨ret_bool HE.out.symm, rfl⟩
  · have HE : Hid (inM v = false) := inM_not (by omega)
    go_enter Tryz.func169, Tryz.ntmps169
    go_wp2
    go_ret
    exact ⟨ret_bool HE.out.symm, rfl⟩

theorem prod_sign {a b x y : Int} (hx : x = a ∨ x = -a) (hy : y = b ∨ y = -b) : x * y = a * b ∨ x * y = -(a * b) := by
  rcases hx with rfl | rfl <;> rcases hy with rfl | rfl <;> simp [Int.neg_mul, Int.mul_neg]

set_option maxHeartbeats 2000000 in
theorem l4Times_any (a b : Int) (w : World) (ha : -1000000000000000 ≤ a ∧ a ≤ 1000000000000000) (hb : -1000000000000000 ≤ b ∧ b ≤ 1000000000000000) : Calls Tryz.prog 165 #[.int .i64 a, .int .i64 b] w fun e w' => e = .returned (.tuple #[.int .i64 (timesOf a b).1, .bool (timesOf a b).2]) ∧ w' = w := by
  obtain ⟨ha1, ha2⟩ := ha
  obtain ⟨hb1, hb2⟩ := hb
  by_cases h0 : a = 0
  · subst h0
    have HE : Hid (timesOf 0 b = (0, true)) := by show _ = _; simp [timesOf, inM]
    go_enter Tryz.func165, Tryz.ntmps165
    go_wp2
    go_ret2
    exact ⟨ret_ib (by rw [unhide HE]) (by rw [unhide HE]), rfl⟩
  by_cases h1 : b = 0
  · subst h1
    have HE : Hid (timesOf a 0 = (0, true)) := by show _ = _; simp [timesOf, inM]
    have q0 : (a == 0) = false := by simp [h0]
    clear h0
    go_enter Tryz.func165, Tryz.ntmps165
    go_wp2
    go_ret2
    exact ⟨ret_ib (by rw [unhide HE]) (by rw [unhide HE]), rfl⟩
  have q0 : (a == 0) = false := by simp [h0]
  have q1 : (b == 0) = false := by simp [h1]
  obtain ⟨x, hx⟩ : ∃ x, (if a < 0 then -a else a) = x := ⟨_, rfl⟩
  obtain ⟨y, hy⟩ : ∃ y, (if b < 0 then -b else b) = y := ⟨_, rfl⟩
  have hy0 : 0 < y := by rw [← hy]; split <;> omega
  have hyn : ¬ y = 0 := by omega
  have hxy : x * y = a * b ∨ x * y = -(a * b) := prod_sign (by rw [← hx]; split <;> simp) (by rw [← hy]; split <;> simp)
  have hp0 : 0 ≤ x * y := Int.mul_nonneg (by rw [← hx]; split <;> omega) (by omega)
  have hq : (1000000000000000 : Int).tdiv y < x ↔ 1000000000000000 < x * y := tdiv_lt hy0
  obtain ⟨t, ht⟩ : ∃ t, (1000000000000000 : Int).tdiv y = t := ⟨_, rfl⟩
  have htb : 0 ≤ t ∧ t ≤ 1000000000000000 := by
    rw [← ht, Int.tdiv_eq_ediv_of_nonneg (by omega)]
    exact ⟨Int.ediv_nonneg (by omega) (by omega), Int.ediv_le_self _ (by omega)⟩
  obtain ⟨ht1, ht2⟩ := htb
  rw [ht] at hq
  obtain ⟨pr, hpr⟩ : ∃ pr, a * b = pr := ⟨_, rfl⟩
  rw [hpr] at hxy
  by_cases hbig : t < x
  · have HE : Hid (timesOf a b = (0, false)) := times_big (by rw [hpr]; exact inM_not (by have := hq.mp hbig; omega))
    clear hq hxy hp0 h0 h1
    by_cases hs : a < 0
    all_goals by_cases hu : b < 0
    all_goals
      simp only [hs, hu, if_true, if_false] at hx hy
      subst hx hy
      go_enter Tryz.func165, Tryz.ntmps165
      go_wp2
      go_ret2
      exact ⟨ret_ib (by rw [unhide HE]) (by rw [unhide HE]), rfl⟩
  · have hle : x * y ≤ 1000000000000000 := by
      by_cases h' : 1000000000000000 < x * y
      · exact absurd (hq.mpr h') hbig
      · omega
    have hpb1 : -1000000000000000 ≤ pr := by omega
    have hpb2 : pr ≤ 1000000000000000 := by omega
    have HE : Hid (timesOf a b = (pr, true)) := by show _ = _; rw [times_ok (by rw [hpr]; exact inM_of hpb1 hpb2), hpr]
    clear hq hxy hp0 hle h0 h1
    by_cases hs : a < 0
    all_goals by_cases hu : b < 0
    all_goals
      simp only [hs, hu, if_true, if_false] at hx hy
      subst hx hy
      go_enter Tryz.func165, Tryz.ntmps165
      go_wp2
      go_ret2
      exact ⟨ret_ib (by rw [unhide HE]) (by rw [unhide HE]), rfl⟩

theorem l4Times_eq (a b : Int) (w : World) (ha : -1000000000000000 ≤ a ∧ a ≤ 1000000000000000) (hb : -1000000000000000 ≤ b ∧ b ≤ 1000000000000000) (r1 : Int) (r2 : Bool) (hr : Hid (timesOf a b = (r1, r2))) : Calls Tryz.prog 165 #[.int .i64 a, .int .i64 b] w fun e w' => e = .returned (.tuple #[.int .i64 r1, .bool r2]) ∧ w' = w := by
  have := l4Times_any a b w ha hb
  rw [unhide hr] at this
  exact this

end Go.Proofs.YtkgcmpmgaghdhaaGreatDoor
namespace Go.Proofs.YtkgcmpmgaghdhaaGreatDoor
open Go.RowKit

theorem pow_ok {a b : Int} (h : inM (a ^ b.toNat) = true) : powOf a b = (a ^ b.toNat, true) := by simp [powOf, h]
theorem pow_big {a b : Int} (h : inM (a ^ b.toNat) = false) : powOf a b = (0, false) := by simp [powOf, h]

theorem pow_zero_base {b : Int} (h : 0 < b) : powOf 0 b = (0, true) := by
  have : (0 : Int) ^ b.toNat = 0 := Int.zero_pow (by omega)
  rw [pow_ok (by rw [this]; rfl), this]
theorem pow_zero_zero : powOf 0 0 = (1, true) := by simp [powOf, inM]
theorem pow_one_base {b : Int} : powOf 1 b = (1, true) := by
  have : (1 : Int) ^ b.toNat = 1 := Int.one_pow
  rw [pow_ok (by rw [this]; rfl), this]
theorem neg_one_pow (n : Nat) : ((-1 : Int)) ^ n = 1 - (n % 2 : Nat) * 2 := by
  induction n with
  | zero => rfl
  | succ n ih => rw [Int.pow_succ, ih]; omega
theorem pow_neg_one {b : Int} (h : 0 ≤ b) : powOf (-1) b = (1 - b.tmod 2 * 2, true) := by
  have e : b.tmod 2 = ((b.toNat % 2 : Nat) : Int) := by rw [Int.tmod_eq_emod_of_nonneg h]; omega
  have : (-1 : Int) ^ b.toNat = 1 - b.tmod 2 * 2 := by rw [neg_one_pow, e]
  rw [pow_ok (by rw [this]; have : 0 ≤ b.tmod 2 ∧ b.tmod 2 ≤ 1 := by rw [e]; omega
                 exact inM_of (by omega) (by omega)), this]

set_option maxHeartbeats 2000000 in
theorem l4Power_any (a b : Int) (w : World) (ha : -1000000000000000 ≤ a ∧ a ≤ 1000000000000000) (hb0 : 0 ≤ b) (hb : b ≤ 1000000000000000) : Calls Tryz.prog 167 #[.int .i64 a, .int .i64 b] w fun e w' => e = .returned (.tuple #[.int .i64 (powOf a b).1, .bool (powOf a b).2]) ∧ w' = w := by
  by_cases h0 : a = 0
  · subst h0
    by_cases hz : b = 0
    · subst hz
      have HE : Hid (powOf 0 0 = (truth true, true)) := pow_zero_zero
      go_enter Tryz.func167, Tryz.ntmps167
      go_wp2_with (go_at_call 57; refine (truth_call _ _).mono ?_; rintro e w1 ⟨rfl, rfl⟩)
      go_ret2
      exact ⟨ret_ib (by rw [unhide HE]) (by rw [unhide HE]), rfl⟩
    · have HE : Hid (powOf 0 b = (truth false, true)) := pow_zero_base (by omega)
      have qz : (b == 0) = false := by simp [hz]
      go_enter Tryz.func167, Tryz.ntmps167
      go_wp2_with (go_at_call 57; refine (truth_call _ _).mono ?_; rintro e w1 ⟨rfl, rfl⟩)
      go_ret2
      exact ⟨ret_ib (by rw [unhide HE]) (by rw [unhide HE]), rfl⟩
  by_cases h1 : a = 1
  · subst h1
    have HE : Hid (powOf 1 b = (truth true, true)) := pow_one_base
    go_enter Tryz.func167, Tryz.ntmps167
    go_wp2_with (go_at_call 57; refine (truth_call _ _).mono ?_; rintro e w1 ⟨rfl, rfl⟩)
    go_ret2
    exact ⟨ret_ib (by rw [unhide HE]) (by rw [unhide HE]), rfl⟩
  have q0 : (a == 0) = false := by simp [h0]
  have q1 : (a == 1) = false := by simp [h1]
  by_cases h2 : a = -1
  · subst h2
    have HE := hide (pow_neg_one hb0)
    have hm : 0 ≤ b.tmod 2 ∧ b.tmod 2 ≤ 1 := by rw [Int.tmod_eq_emod_of_nonneg hb0]; omega
    obtain ⟨m, hm0⟩ : ∃ m, b.tmod 2 = m := ⟨_, rfl⟩
    rw [hm0] at hm HE
    obtain ⟨hm1, hm2⟩ := hm
    go_enter Tryz.func167, Tryz.ntmps167
    go_wp2
    go_ret2
    exact ⟨ret_ib (by rw [unhide HE]) (by rw [unhide HE]), rfl⟩
  have q2 : (a == -1) = false := by simp [h2]
  have h3 := hide (abs_ge_two h0 h1 h2)
  clear h0 h1 h2
  obtain ⟨n, hn⟩ : ∃ n : Nat, b = n := ⟨b.toNat, by omega⟩
  subst hn
  go_enter Tryz.func167, Tryz.ntmps167
  go_wp2
  go_loop [6, 7] (fun v i => ∃ (k : Nat) (x : Int), k ≤ n ∧ i = .int .i64 k ∧ v = .int .i64 x ∧ Hid (a ^ k = x) ∧ Hid (inM (a ^ k) = true)) (fun _ i => n - (intOf i).toNat)
  case atStart => exact ⟨0, 1, Nat.zero_le _, rfl, rfl, hide (by simp), hide (by simp [inM])⟩
  case round =>
    obtain ⟨k, x, hk, rfl, rfl, hx, hin⟩ := hrel
    have hxb : -1000000000000000 ≤ x ∧ x ≤ 1000000000000000 := by rw [← unhide hx]; exact inM_bd (unhide hin)
    by_cases hlt : k < n
    · have hps : a ^ (k + 1) = x * a := by rw [Int.pow_succ, unhide hx]
      by_cases hbig : inM (x * a) = true
      · have HT : Hid (timesOf x a = (x * a, true)) := times_ok hbig
        have hyb := inM_bd hbig
        obtain ⟨y, hy⟩ : ∃ y, x * a = y := ⟨_, rfl⟩
        rw [hy] at HT hbig hyb hps
        have HP := hide hps
        have HIN : Hid (inM (a ^ (k + 1)) = true) := by show _ = _; rw [hps]; exact hbig
        clear hy hbig hps
        go_wp2_with (go_at_call 165; refine (l4Times_eq _ _ _ hxb ha _ _ HT).mono ?_; rintro e w1 ⟨rfl, rfl⟩)
        go_round
        case rel => exact ⟨k + 1, y, by omega, by go_num, rfl, HP, HIN⟩
        case measure => simp [intOf]; omega
      · have hb' : inM (x * a) = false := by simpa using hbig
        have HT : Hid (timesOf x a = (0, false)) := times_big hb'
        have HE : Hid (powOf a n = (0, false)) := pow_big (pow_step_big (unhide h3) (k + 1) _ (by simp; omega) (by rw [hps]; exact hb'))
        clear hbig hb' hps
        go_wp2_with (go_at_call 165; refine (l4Times_eq _ _ _ hxb ha _ _ HT).mono ?_; rintro e w1 ⟨rfl, rfl⟩)
        go_ret2
        exact ⟨ret_ib (by rw [unhide HE]) (by rw [unhide HE]), rfl⟩
    · have hkn : k = n := by omega
      subst hkn
      have HE : Hid (powOf a k = (x, true)) := by show _ = _; rw [pow_ok (by simpa using unhide hin)]; simpa using unhide hx
      go_wp2
      go_ret2
      exact ⟨ret_ib (by rw [unhide HE]) (by rw [unhide HE]), rfl⟩

end Go.Proofs.YtkgcmpmgaghdhaaGreatDoor
namespace Go.Proofs.YtkgcmpmgaghdhaaGreatDoor
open Go.RowKit

theorem truth_eq (b : Bool) (w : World) (r : Int) (hr : Hid (truth b = r)) : Calls Tryz.prog 57 #[.bool b] w fun e w' => e = .returned (.int .i64 r) ∧ w' = w := by
  rw [← unhide hr]; exact truth_call b w

set_option maxHeartbeats 2000000 in
theorem l4Order_any (op a b : Int) (w : World) (hop : op = 5 ∨ op = 6 ∨ op = 9 ∨ op = 10 ∨ op = 11 ∨ op = 12 ∨ op = 13 ∨ op = 14) : Calls Tryz.prog 168 #[.int .i64 op, .int .i64 a, .int .i64 b] w fun e w' => e = .returned (.int .i64 (orderOf op a b)) ∧ w' = w := by
  have hcmp : a < b ∨ a = b ∨ b < a := by omega
  rcases hcmp with h | h | h
  · have k1 : (a == b) = false := by simp; omega
    have k2 : ¬ b < a := by omega
    have k3 : a ≤ b := by omega
    rcases hop with rfl | rfl | rfl | rfl | rfl | rfl | rfl | rfl
    all_goals
      go_enter Tryz.func168, Tryz.ntmps168
      go_wp2_with (go_at_call 57; refine (truth_call _ _).mono ?_; rintro e w1 ⟨rfl, rfl⟩)
      go_ret
      exact ⟨ret_int (by simp [orderOf, truth] <;> omega), rfl⟩
  · subst h
    rcases hop with rfl | rfl | rfl | rfl | rfl | rfl | rfl | rfl
    all_goals
      go_enter Tryz.func168, Tryz.ntmps168
      go_wp2_with (go_at_call 57; refine (truth_call _ _).mono ?_; rintro e w1 ⟨rfl, rfl⟩)
      go_ret
      exact ⟨ret_int (by simp [orderOf, truth]), rfl⟩
  · have k1 : (a == b) = false := by simp; omega
    have k2 : ¬ a < b := by omega
    have k3 : b ≤ a := by omega
    have k5 : ¬ a ≤ b := by omega
    rcases hop with rfl | rfl | rfl | rfl | rfl | rfl | rfl | rfl
    all_goals
      go_enter Tryz.func168, Tryz.ntmps168
      go_wp2_with (go_at_call 57; refine (truth_call _ _).mono ?_; rintro e w1 ⟨rfl, rfl⟩)
      go_ret
      exact ⟨ret_int (by simp [orderOf, truth] <;> omega), rfl⟩

end Go.Proofs.YtkgcmpmgaghdhaaGreatDoor
namespace Go.Proofs.YtkgcmpmgaghdhaaGreatDoor
open Go.RowKit

theorem l4In_eq (v : Int) (w : World) (r : Bool) (hr : Hid (inM v = r)) : Calls Tryz.prog 169 #[.int .i64 v] w fun e w' => e = .returned (.bool r) ∧ w' = w := by
  rw [← unhide hr]; exact l4In_any v w
theorem l4Mod_eq (a b : Int) (w : World) (ha : -1000000000000000 ≤ a ∧ a ≤ 1000000000000000) (hb : -1000000000000000 ≤ b ∧ b ≤ 1000000000000000) (r : Int) (hr : Hid (modOf a b = r)) : Calls Tryz.prog 166 #[.int .i64 a, .int .i64 b] w fun e w' => e = .returned (.int .i64 r) ∧ w' = w := by
  rw [← unhide hr]; exact l4Mod_any a b w ha hb
theorem l4Power_eq (a b : Int) (w : World) (ha : -1000000000000000 ≤ a ∧ a ≤ 1000000000000000) (hb0 : 0 ≤ b) (hb : b ≤ 1000000000000000) (r1 : Int) (r2 : Bool) (hr : Hid (powOf a b = (r1, r2))) : Calls Tryz.prog 167 #[.int .i64 a, .int .i64 b] w fun e w' => e = .returned (.tuple #[.int .i64 r1, .bool r2]) ∧ w' = w := by
  have := l4Power_any a b w ha hb0 hb
  rw [unhide hr] at this
  exact this
theorem l4Order_eq (op a b : Int) (w : World) (hop : op = 5 ∨ op = 6 ∨ op = 9 ∨ op = 10 ∨ op = 11 ∨ op = 12 ∨ op = 13 ∨ op = 14) (r : Int) (hr : Hid (orderOf op a b = r)) : Calls Tryz.prog 168 #[.int .i64 op, .int .i64 a, .int .i64 b] w fun e w' => e = .returned (.int .i64 r) ∧ w' = w := by
  rw [← unhide hr]; exact l4Order_any op a b w hop

theorem lim_ok {v : Int} (h : inM v = true) : limited (v, true) = (v, 0) := by simp [limited, h]
theorem lim_no {v : Int} (h : inM v = false) : limited (v, true) = (0, 7) := by simp [limited, h]
theorem lim_bad {v : Int} : limited (v, false) = (0, 7) := by simp [limited]

def TwoC (op a b : Int) : Prop := ∀ w : World, Calls Tryz.prog 129 #[.int .i64 op, .int .i64 a, .int .i64 b] w fun e w' => e = .returned (.tuple #[.int .i64 (twoOf op a b).1, .int .i64 (twoOf op a b).2]) ∧ w' = w

set_option maxHeartbeats 1000000 in
theorem two1 {a b : Int} (ha : -1000000000000000 ≤ a ∧ a ≤ 1000000000000000) (hb : -1000000000000000 ≤ b ∧ b ≤ 1000000000000000) : TwoC 1 a b := by
  intro w
  obtain ⟨ha1, ha2⟩ := ha
  obtain ⟨hb1, hb2⟩ := hb
  obtain ⟨r, hr⟩ : ∃ r, inM (a + b) = r := ⟨_, rfl⟩
  have HR := hide hr
  cases r with
  | true =>
    have HE : Hid (twoOf 1 a b = (a + b, 0)) := lim_ok hr
    clear hr
    go_enter Tryz.func129, Tryz.ntmps129
    go_wp2_with (go_at_call 169; refine (l4In_eq _ _ _ HR).mono ?_; rintro e w1 ⟨rfl, rfl⟩)
    go_ret2
    exact ⟨ret_two (by rw [unhide HE]) (by rw [unhide HE]), rfl⟩
  | false =>
    have HE : Hid (twoOf 1 a b = (0, 7)) := lim_no hr
    clear hr
    go_enter Tryz.func129, Tryz.ntmps129
    go_wp2_with (go_at_call 169; refine (l4In_eq _ _ _ HR).mono ?_; rintro e w1 ⟨rfl, rfl⟩)
    go_ret2
    exact ⟨ret_two (by rw [unhide HE]) (by rw [unhide HE]), rfl⟩

set_option maxHeartbeats 1000000 in
theorem two2 {a b : Int} (ha : -1000000000000000 ≤ a ∧ a ≤ 1000000000000000) (hb : -1000000000000000 ≤ b ∧ b ≤ 1000000000000000) : TwoC 2 a b := by
  intro w
  obtain ⟨ha1, ha2⟩ := ha
  obtain ⟨hb1, hb2⟩ := hb
  obtain ⟨r, hr⟩ : ∃ r, inM (a - b) = r := ⟨_, rfl⟩
  have HR := hide hr
  cases r with
  | true =>
    have HE : Hid (twoOf 2 a b = (a - b, 0)) := lim_ok hr
    clear hr
    go_enter Tryz.func129, Tryz.ntmps129
    go_wp2_with (go_at_call 169; refine (l4In_eq _ _ _ HR).mono ?_; rintro e w1 ⟨rfl, rfl⟩)
    go_ret2
    exact ⟨ret_two (by rw [unhide HE]) (by rw [unhide HE]), rfl⟩
  | false =>
    have HE : Hid (twoOf 2 a b = (0, 7)) := lim_no hr
    clear hr
    go_enter Tryz.func129, Tryz.ntmps129
    go_wp2_with (go_at_call 169; refine (l4In_eq _ _ _ HR).mono ?_; rintro e w1 ⟨rfl, rfl⟩)
    go_ret2
    exact ⟨ret_two (by rw [unhide HE]) (by rw [unhide HE]), rfl⟩

set_option maxHeartbeats 1000000 in
theorem two3 {a b : Int} (ha : -1000000000000000 ≤ a ∧ a ≤ 1000000000000000) (hb : -1000000000000000 ≤ b ∧ b ≤ 1000000000000000) : TwoC 3 a b := by
  intro w
  have HE : Hid (twoOf 3 a b = limited (timesOf a b)) := rfl
  obtain ⟨q, hq⟩ : ∃ q, timesOf a b = q := ⟨_, rfl⟩
  obtain ⟨v, ok⟩ := q
  have HQ := hide hq
  rw [hq] at HE
  clear hq
  cases ok with
  | false =>
    rw [lim_bad] at HE
    go_enter Tryz.func129, Tryz.ntmps129
    go_wp2_with (go_at_call 165; refine (l4Times_eq _ _ _ ha hb _ _ HQ).mono ?_; rintro e w1 ⟨rfl, rfl⟩)
    go_ret2
    exact ⟨ret_two (by rw [unhide HE]) (by rw [unhide HE]), rfl⟩
  | true =>
    obtain ⟨r, hr⟩ : ∃ r, inM v = r := ⟨_, rfl⟩
    have HR := hide hr
    cases r with
    | true =>
      rw [lim_ok hr] at HE
      clear hr
      go_enter Tryz.func129, Tryz.ntmps129
      go_wp2_with (first | (go_at_call 165; refine (l4Times_eq _ _ _ ha hb _ _ HQ).mono ?_; rintro e w1 ⟨rfl, rfl⟩) | (go_at_call 169; refine (l4In_eq _ _ _ HR).mono ?_; rintro e w1 ⟨rfl, rfl⟩))
      go_ret2
      exact ⟨ret_two (by rw [unhide HE]) (by rw [unhide HE]), rfl⟩
    | false =>
      rw [lim_no hr] at HE
      clear hr
      go_enter Tryz.func129, Tryz.ntmps129
      go_wp2_with (first | (go_at_call 165; refine (l4Times_eq _ _ _ ha hb _ _ HQ).mono ?_; rintro e w1 ⟨rfl, rfl⟩) | (go_at_call 169; refine (l4In_eq _ _ _ HR).mono ?_; rintro e w1 ⟨rfl, rfl⟩))
      go_ret2
      exact ⟨ret_two (by rw [unhide HE]) (by rw [unhide HE]), rfl⟩

set_option maxHeartbeats 1000000 in
theorem two4 {a b : Int} (ha : -1000000000000000 ≤ a ∧ a ≤ 1000000000000000) (hb : -1000000000000000 ≤ b ∧ b ≤ 1000000000000000) : TwoC 4 a b := by
  intro w
  obtain ⟨ha1, ha2⟩ := ha
  obtain ⟨hb1, hb2⟩ := hb
  have HE : Hid (twoOf 4 a b = (if a = 0 ∧ b = 0 then (1, 0) else if b = 0 ∨ a.tmod b ≠ 0 then (0, 3) else limited (a.tdiv b, true))) := rfl
  by_cases hz : b = 0
  · subst hz
    by_cases h0 : a = 0
    · subst h0
      rw [if_pos ⟨rfl, rfl⟩] at HE
      go_enter Tryz.func129, Tryz.ntmps129
      go_wp2
      go_ret2
      exact ⟨ret_two (by rw [unhide HE]) (by rw [unhide HE]), rfl⟩
    · rw [if_neg (fun h => h0 h.1), if_pos (.inl rfl)] at HE
      have q0 : (a == 0) = false := by simp [h0]
      go_enter Tryz.func129, Tryz.ntmps129
      go_wp2
      go_ret2
      exact ⟨ret_two (by rw [unhide HE]) (by rw [unhide HE]), rfl⟩
  have qz : (b == 0) = false := by simp [hz]
  rw [if_neg (fun h => hz h.2)] at HE
  obtain ⟨m, hm⟩ : ∃ m, a.tmod b = m := ⟨_, rfl⟩
  rw [hm] at HE
  by_cases hm0 : m = 0
  · subst hm0
    rw [if_neg (by simp [hz])] at HE
    have hd : -1000000000000000 ≤ a.tdiv b ∧ a.tdiv b ≤ 1000000000000000 := by
      have h1 := Int.natAbs_tdiv_le_natAbs a b
      omega
    obtain ⟨v, hv⟩ : ∃ v, a.tdiv b = v := ⟨_, rfl⟩
    rw [hv] at HE hd
    rw [lim_ok (inM_of hd.1 hd.2)] at HE
    obtain ⟨hd1, hd2⟩ := hd
    have HR : Hid (inM v = true) := inM_of hd1 hd2
    by_cases h0 : a = 0
    · subst h0
      have hv0 : v = 0 := by rw [← hv]; simp
      subst hv0
      clear hv hm
      go_enter Tryz.func129, Tryz.ntmps129
      go_wp2_with (go_at_call 169; refine (l4In_eq _ _ _ HR).mono ?_; rintro e w1 ⟨rfl, rfl⟩)
      go_ret2
      exact ⟨ret_two (by rw [unhide HE]) (by rw [unhide HE]), rfl⟩
    · have q0 : (a == 0) = false := by simp [h0]
      go_enter Tryz.func129, Tryz.ntmps129
      go_wp2_with (go_at_call 169; refine (l4In_eq _ _ _ HR).mono ?_; rintro e w1 ⟨rfl, rfl⟩)
      go_ret2
      exact ⟨ret_two (by rw [unhide HE]) (by rw [unhide HE]), rfl⟩
  · rw [if_pos (.inr hm0)] at HE
    have qm : (m != 0) = true := by simp [hm0]
    have h0 : ¬ a = 0 := by rintro rfl; simp at hm; exact hm0 hm.symm
    have q0 : (a == 0) = false := by simp [h0]
    go_enter Tryz.func129, Tryz.ntmps129
    go_wp2
    go_ret2
    exact ⟨ret_two (by rw [unhide HE]) (by rw [unhide HE]), rfl⟩

set_option maxHeartbeats 1000000 in
theorem two7 {a b : Int} (ha : -1000000000000000 ≤ a ∧ a ≤ 1000000000000000) (hb : -1000000000000000 ≤ b ∧ b ≤ 1000000000000000) : TwoC 7 a b := by
  intro w
  have HE : Hid (twoOf 7 a b = limited (modOf a b, true)) := rfl
  obtain ⟨v, hv⟩ : ∃ v, modOf a b = v := ⟨_, rfl⟩
  have HV := hide hv
  rw [hv] at HE
  clear hv
  obtain ⟨r, hr⟩ : ∃ r, inM v = r := ⟨_, rfl⟩
  have HR := hide hr
  cases r with
  | true =>
    rw [lim_ok hr] at HE
    clear hr
    go_enter Tryz.func129, Tryz.ntmps129
    go_wp2_with (first | (go_at_call 166; refine (l4Mod_eq _ _ _ ha hb _ HV).mono ?_; rintro e w1 ⟨rfl, rfl⟩) | (go_at_call 169; refine (l4In_eq _ _ _ HR).mono ?_; rintro e w1 ⟨rfl, rfl⟩))
    go_ret2
    exact ⟨ret_two (by rw [unhide HE]) (by rw [unhide HE]), rfl⟩
  | false =>
    rw [lim_no hr] at HE
    clear hr
    go_enter Tryz.func129, Tryz.ntmps129
    go_wp2_with (first | (go_at_call 166; refine (l4Mod_eq _ _ _ ha hb _ HV).mono ?_; rintro e w1 ⟨rfl, rfl⟩) | (go_at_call 169; refine (l4In_eq _ _ _ HR).mono ?_; rintro e w1 ⟨rfl, rfl⟩))
    go_ret2
    exact ⟨ret_two (by rw [unhide HE]) (by rw [unhide HE]), rfl⟩

set_option maxHeartbeats 1000000 in
theorem two8 {a b : Int} (ha : -1000000000000000 ≤ a ∧ a ≤ 1000000000000000) (hb : -1000000000000000 ≤ b ∧ b ≤ 1000000000000000) : TwoC 8 a b := by
  intro w
  have HE : Hid (twoOf 8 a b = (if b < 0 then (0, 3) else limited (powOf a b))) := rfl
  by_cases hn : b < 0
  · rw [if_pos hn] at HE
    go_enter Tryz.func129, Tryz.ntmps129
    go_wp2
    go_ret2
    exact ⟨ret_two (by rw [unhide HE]) (by rw [unhide HE]), rfl⟩
  rw [if_neg hn] at HE
  obtain ⟨q, hq⟩ : ∃ q, powOf a b = q := ⟨_, rfl⟩
  obtain ⟨v, ok⟩ := q
  have HQ := hide hq
  rw [hq] at HE
  clear hq
  cases ok with
  | false =>
    rw [lim_bad] at HE
    go_enter Tryz.func129, Tryz.ntmps129
    go_wp2_with (go_at_call 167; refine (l4Power_eq _ _ _ ha (by omega) hb.2 _ _ HQ).mono ?_; rintro e w1 ⟨rfl, rfl⟩)
    go_ret2
    exact ⟨ret_two (by rw [unhide HE]) (by rw [unhide HE]), rfl⟩
  | true =>
    obtain ⟨r, hr⟩ : ∃ r, inM v = r := ⟨_, rfl⟩
    have HR := hide hr
    cases r with
    | true =>
      rw [lim_ok hr] at HE
      clear hr
      go_enter Tryz.func129, Tryz.ntmps129
      go_wp2_with (first | (go_at_call 167; refine (l4Power_eq _ _ _ ha (by omega) hb.2 _ _ HQ).mono ?_; rintro e w1 ⟨rfl, rfl⟩) | (go_at_call 169; refine (l4In_eq _ _ _ HR).mono ?_; rintro e w1 ⟨rfl, rfl⟩))
      go_ret2
      exact ⟨ret_two (by rw [unhide HE]) (by rw [unhide HE]), rfl⟩
    | false =>
      rw [lim_no hr] at HE
      clear hr
      go_enter Tryz.func129, Tryz.ntmps129
      go_wp2_with (first | (go_at_call 167; refine (l4Power_eq _ _ _ ha (by omega) hb.2 _ _ HQ).mono ?_; rintro e w1 ⟨rfl, rfl⟩) | (go_at_call 169; refine (l4In_eq _ _ _ HR).mono ?_; rintro e w1 ⟨rfl, rfl⟩))
      go_ret2
      exact ⟨ret_two (by rw [unhide HE]) (by rw [unhide HE]), rfl⟩

end Go.Proofs.YtkgcmpmgaghdhaaGreatDoor
namespace Go.Proofs.YtkgcmpmgaghdhaaGreatDoor
open Go.RowKit

theorem inM_truth (x : Bool) : inM (truth x) = true := by cases x <;> rfl
theorem order_in {op a b : Int} (ha : -1000000000000000 ≤ a ∧ a ≤ 1000000000000000) (hb : -1000000000000000 ≤ b ∧ b ≤ 1000000000000000) : inM (orderOf op a b) = true := by
  unfold orderOf
  repeat' split
  all_goals first | exact inM_truth _ | exact inM_of (by omega) (by omega)

theorem two_order_eq {a b : Int} (ha : -1000000000000000 ≤ a ∧ a ≤ 1000000000000000) (hb : -1000000000000000 ≤ b ∧ b ≤ 1000000000000000) (op : Int) (hop : op = 5 ∨ op = 6 ∨ op = 9 ∨ op = 10 ∨ op = 11 ∨ op = 12 ∨ op = 13 ∨ op = 14) : twoOf op a b = (orderOf op a b, 0) := by
  have h : twoOf op a b = limited (orderOf op a b, true) := by rcases hop with rfl | rfl | rfl | rfl | rfl | rfl | rfl | rfl <;> rfl
  rw [h, lim_ok (order_in ha hb)]

set_option maxHeartbeats 4000000 in
theorem two_order {a b : Int} (ha : -1000000000000000 ≤ a ∧ a ≤ 1000000000000000) (hb : -1000000000000000 ≤ b ∧ b ≤ 1000000000000000) (op : Int) (hop : op = 5 ∨ op = 6 ∨ op = 9 ∨ op = 10 ∨ op = 11 ∨ op = 12 ∨ op = 13 ∨ op = 14) : TwoC op a b := by
  intro w
  have HE := hide (two_order_eq ha hb op hop)
  have HR := hide (order_in (op := op) ha hb)
  obtain ⟨v, hv⟩ : ∃ v, orderOf op a b = v := ⟨_, rfl⟩
  have HV := hide hv
  rw [hv] at HE HR
  clear hv
  have hop' := hop
  rcases hop with rfl | rfl | rfl | rfl | rfl | rfl | rfl | rfl
  all_goals
    go_enter Tryz.func129, Tryz.ntmps129
    go_wp2_with (first | (go_at_call 168; refine (l4Order_eq _ _ _ _ hop' _ HV).mono ?_; rintro e w1 ⟨rfl, rfl⟩) | (go_at_call 169; refine (l4In_eq _ _ _ HR).mono ?_; rintro e w1 ⟨rfl, rfl⟩))
    go_ret2
    exact ⟨ret_two (by rw [unhide HE]) (by rw [unhide HE]), rfl⟩

set_option maxHeartbeats 4000000 in
theorem two_logic {a b : Int} (ha : -1000000000000000 ≤ a ∧ a ≤ 1000000000000000) (hb : -1000000000000000 ≤ b ∧ b ≤ 1000000000000000) (op : Int) (hop : op = 15 ∨ op = 16) : TwoC op a b := by
  intro w
  obtain ⟨ha1, ha2⟩ := ha
  obtain ⟨hb1, hb2⟩ := hb
  by_cases hA : a = 0 ∨ a = 1
  · by_cases hB : b = 0 ∨ b = 1
    · rcases hA with rfl | rfl <;> rcases hB with rfl | rfl <;> rcases hop with rfl | rfl
      all_goals
        go_enter Tryz.func129, Tryz.ntmps129
        go_wp2_with (first | (go_at_call 57; refine (truth_call _ _).mono ?_; rintro e w1 ⟨rfl, rfl⟩; simp only [truth, if_true, if_false, Bool.false_eq_true]) | (go_at_call 169; refine (l4In_any _ _).mono ?_; rintro e w1 ⟨rfl, rfl⟩; simp only [inM]))
        go_ret2
        exact ⟨ret_two (by decide) (by decide), rfl⟩
    · have u0 : (b != 0) = true := by simp; omega
      have u1 : (b != 1) = true := by simp; omega
      have HE : Hid (twoOf op a b = (0, 3)) := by
        show _ = _
        rcases hop with rfl | rfl <;> simp [twoOf] <;> omega
      rcases hA with rfl | rfl <;> rcases hop with rfl | rfl
      all_goals
        go_enter Tryz.func129, Tryz.ntmps129
        go_wp2
        go_ret2
        exact ⟨ret_two (by rw [unhide HE]) (by rw [unhide HE]), rfl⟩
  · have u0 : (a != 0) = true := by simp; omega
    have u1 : (a != 1) = true := by simp; omega
    have HE : Hid (twoOf op a b = (0, 3)) := by
      show _ = _
      rcases hop with rfl | rfl <;> simp [twoOf] <;> omega
    rcases hop with rfl | rfl
    all_goals
      go_enter Tryz.func129, Tryz.ntmps129
      go_wp2
      go_ret2
      exact ⟨ret_two (by rw [unhide HE]) (by rw [unhide HE]), rfl⟩

theorem l4Two_any {a b : Int} (ha : -1000000000000000 ≤ a ∧ a ≤ 1000000000000000) (hb : -1000000000000000 ≤ b ∧ b ≤ 1000000000000000) (op : Int) (hop : 1 ≤ op ∧ op ≤ 16) : TwoC op a b := by
  have h : op = 1 ∨ op = 2 ∨ op = 3 ∨ op = 4 ∨ (op = 5 ∨ op = 6 ∨ op = 9 ∨ op = 10 ∨ op = 11 ∨ op = 12 ∨ op = 13 ∨ op = 14) ∨ op = 7 ∨ op = 8 ∨ (op = 15 ∨ op = 16) := by omega
  rcases h with rfl | rfl | rfl | rfl | h | rfl | rfl | h
  · exact two1 ha hb
  · exact two2 ha hb
  · exact two3 ha hb
  · exact two4 ha hb
  · exact two_order ha hb op h
  · exact two7 ha hb
  · exact two8 ha hb
  · exact two_logic ha hb op h

end Go.Proofs.YtkgcmpmgaghdhaaGreatDoor
namespace Go.Proofs.YtkgcmpmgaghdhaaGreatDoor
open Go.RowKit Go.Shelf

/-- A number and an error as an element's function gives them; only draws. -/
def GivesEl (ga gb : Addr) (r : Int × Int) (w : World) (e : Ending) (w' : World) : Prop := e = .returned (.tuple #[.int .i64 r.1, errV ga gb r.2]) ∧ ∃ q, w' = w.drewN q

theorem gives_el {ga gb : Addr} {r : Int × Int} {x c : Int} {w w' : World} {q : Nat} (h : r = (x, c)) (hw : w' = w.drewN q) : GivesEl ga gb r w (.returned (.tuple #[.int .i64 x, errV ga gb c])) w' := ⟨ret_el h, q, hw⟩

theorem isNumber_eq (v : Int) (w : World) (r : Bool) (h : Hid (inM v = r)) : Calls Tryz.prog 142 #[.int .i64 v] w fun e w' => e = .returned (.bool r) ∧ w' = w := by
  have e : dataOk false v = r := by rw [← unhide h]; simp [dataOk, inM]
  rw [← e]; exact isNumber_any v w

set_option maxHeartbeats 400000 in
theorem limited_any (v : Int) (ga gb : Addr) (w : World) (hG : Gl w ga gb) : Calls Tryz.prog 135 #[.int .i64 v] w (GivesEl ga gb (limited (v, true)) w) := by
  have hc := hG.big
  clear hG
  by_cases h : inM v = true
  · have HE := hide (lim_ok h)
    have HT := hide h
    clear h
    go_enter Tryz.func135, Tryz.ntmps135
    go_wp2_with (go_at_call 142; refine (isNumber_eq _ _ _ HT).mono ?_; rintro e w' ⟨rfl, rfl⟩)
    go_ret2
    exact gives_el (c := 0) (q := 0) HE.out rfl
  · have h' : inM v = false := by simpa using h
    have HE := hide (lim_no h')
    have HT := hide h'
    clear h h'
    go_enter Tryz.func135, Tryz.ntmps135
    go_wp2_with (go_at_call 142; refine (isNumber_eq _ _ _ HT).mono ?_; rintro e w' ⟨rfl, rfl⟩)
    go_quiet (fail)
    go_wp2
    go_ret2
    exact gives_el (c := 7) HE.out rfl

set_option maxHeartbeats 400000 in
theorem opAdd (a b : Int) (ga gb : Addr) (w : World) (hG : Gl w ga gb) (ha : -1000000000000000 ≤ a ∧ a ≤ 1000000000000000) (hb : -1000000000000000 ≤ b ∧ b ≤ 1000000000000000) : Calls Tryz.prog 144 #[.int .i64 a, .int .i64 b] w (GivesEl ga gb (twoOf 1 a b) w) := by
  obtain ⟨ha1, ha2⟩ := ha
  obtain ⟨hb1, hb2⟩ := hb
  have hl := limited_any (a + b) ga gb w hG
  clear hG
  have HE : Hid (twoOf 1 a b = limited (a + b, true)) := rfl
  obtain ⟨r, hr⟩ : ∃ r, limited (a + b, true) = r := ⟨_, rfl⟩
  rw [hr] at hl HE
  obtain ⟨r1, r2⟩ := r
  clear hr
  have HL := hide hl
  clear hl
  obtain ⟨s, hs⟩ : ∃ s, a + b = s := ⟨_, rfl⟩
  rw [hs] at HL
  obtain ⟨ev, hev⟩ : ∃ ev, ev = errV ga gb r2 := ⟨_, rfl⟩
  go_enter Tryz.func144, Tryz.ntmps144
  go_wp2_with (go_at_call 135; refine (unhide HL).mono ?_; rintro e w1 ⟨rfl, q, rfl⟩; simp only [← hev])
  go_ret2
  rw [hev]
  exact gives_el HE.out rfl

set_option maxHeartbeats 400000 in
theorem opSub (a b : Int) (ga gb : Addr) (w : World) (hG : Gl w ga gb) (ha : -1000000000000000 ≤ a ∧ a ≤ 1000000000000000) (hb : -1000000000000000 ≤ b ∧ b ≤ 1000000000000000) : Calls Tryz.prog 145 #[.int .i64 a, .int .i64 b] w (GivesEl ga gb (twoOf 2 a b) w) := by
  obtain ⟨ha1, ha2⟩ := ha
  obtain ⟨hb1, hb2⟩ := hb
  have hl := limited_any (a - b) ga gb w hG
  clear hG
  have HE : Hid (twoOf 2 a b = limited (a - b, true)) := rfl
  obtain ⟨r, hr⟩ : ∃ r, limited (a - b, true) = r := ⟨_, rfl⟩
  rw [hr] at hl HE
  obtain ⟨r1, r2⟩ := r
  clear hr
  have HL := hide hl
  clear hl
  obtain ⟨s, hs⟩ : ∃ s, a - b = s := ⟨_, rfl⟩
  rw [hs] at HL
  obtain ⟨ev, hev⟩ : ∃ ev, ev = errV ga gb r2 := ⟨_, rfl⟩
  go_enter Tryz.func145, Tryz.ntmps145
  go_wp2_with (go_at_call 135; refine (unhide HL).mono ?_; rintro e w1 ⟨rfl, q, rfl⟩; simp only [← hev])
  go_ret2
  rw [hev]
  exact gives_el HE.out rfl


theorem magnitude_eq (v : Int) (w : World) (hv : -1000000000000000 ≤ v ∧ v ≤ 1000000000000000) (m : Int) (h : Hid ((if v < 0 then -v else v) = m)) : Calls Tryz.prog 171 #[.int .i64 v] w fun e w' => e = .returned (.int .i64 m) ∧ w' = w := by
  rw [← unhide h]; exact magnitude_any v w hv

set_option maxHeartbeats 1000000 in
theorem opMul (a b : Int) (ga gb : Addr) (w : World) (hG : Gl w ga gb) (ha : -1000000000000000 ≤ a ∧ a ≤ 1000000000000000) (hb : -1000000000000000 ≤ b ∧ b ≤ 1000000000000000) : Calls Tryz.prog 134 #[.int .i64 a, .int .i64 b] w (GivesEl ga gb (twoOf 3 a b) w) := by
  have hc := hG.big
  clear hG
  have HA := hide ha
  have HB := hide hb
  obtain ⟨ha1, ha2⟩ := ha
  obtain ⟨hb1, hb2⟩ := hb
  by_cases h0 : a = 0
  · subst h0
    have HE : Hid (twoOf 3 0 b = (0, 0)) := by show _ = _; simp [twoOf, timesOf, inM, limited]
    go_enter Tryz.func134, Tryz.ntmps134
    go_wp2
    go_ret2
    exact gives_el (c := 0) (q := 0) HE.out rfl
  have q0 : (a != 0) = true := by simp [h0]
  obtain ⟨x, hx⟩ : ∃ x, (if b < 0 then -b else b) = x := ⟨_, rfl⟩
  obtain ⟨y, hy⟩ : ∃ y, (if a < 0 then -a else a) = y := ⟨_, rfl⟩
  have HX := hide hx
  have HY := hide hy
  have hy0 : 0 < y := by rw [← hy]; split <;> omega
  have hyn : ¬ y = 0 := by omega
  have hyb : y ≤ 1000000000000000 := by rw [← hy]; split <;> omega
  have hx0 : 0 ≤ x := by rw [← hx]; split <;> omega
  have hxb : x ≤ 1000000000000000 := by rw [← hx]; split <;> omega
  have hxy : x * y = b * a ∨ x * y = -(b * a) := prod_sign (by rw [← hx]; split <;> simp) (by rw [← hy]; split <;> simp)
  rw [Int.mul_comm b a] at hxy
  have hp0 : 0 ≤ x * y := Int.mul_nonneg (by omega) (by omega)
  have hq : (1000000000000000 : Int).tdiv y < x ↔ 1000000000000000 < x * y := tdiv_lt hy0
  obtain ⟨t, ht⟩ : ∃ t, (1000000000000000 : Int).tdiv y = t := ⟨_, rfl⟩
  have htb : 0 ≤ t ∧ t ≤ 1000000000000000 := by
    rw [← ht, Int.tdiv_eq_ediv_of_nonneg (by omega)]
    exact ⟨Int.ediv_nonneg (by omega) (by omega), Int.ediv_le_self _ (by omega)⟩
  obtain ⟨ht1, ht2⟩ := htb
  rw [ht] at hq
  obtain ⟨pr, hpr⟩ : ∃ pr, a * b = pr := ⟨_, rfl⟩
  rw [hpr] at hxy
  have HT : Hid (twoOf 3 a b = limited (timesOf a b)) := rfl
  by_cases hbig : t < x
  · rw [times_big (by rw [hpr]; exact inM_not (by have := hq.mp hbig; omega)), lim_bad] at HT
    clear hq hxy hp0 h0 hx hy hpr
    go_enter Tryz.func134, Tryz.ntmps134
    go_wp2_with (first
      | (go_at_call_of 171 (Value.int .i64 b); refine (magnitude_eq _ _ (unhide HB) _ HX).mono ?_; rintro e w1 ⟨rfl, rfl⟩)
      | (go_at_call_of 171 (Value.int .i64 a); refine (magnitude_eq _ _ (unhide HA) _ HY).mono ?_; rintro e w1 ⟨rfl, rfl⟩))
    go_quiet (fail)
    go_wp2
    go_ret2
    exact gives_el (c := 7) HT.out rfl
  · have hle : x * y ≤ 1000000000000000 := by
      by_cases h' : 1000000000000000 < x * y
      · exact absurd (hq.mpr h') hbig
      · omega
    have hpb1 : -1000000000000000 ≤ pr := by omega
    have hpb2 : pr ≤ 1000000000000000 := by omega
    rw [times_ok (by rw [hpr]; exact inM_of hpb1 hpb2), hpr, lim_ok (inM_of hpb1 hpb2)] at HT
    clear hq hxy hp0 hle h0 hx hy
    go_enter Tryz.func134, Tryz.ntmps134
    go_wp2_with (first
      | (go_at_call_of 171 (Value.int .i64 b); refine (magnitude_eq _ _ (unhide HB) _ HX).mono ?_; rintro e w1 ⟨rfl, rfl⟩)
      | (go_at_call_of 171 (Value.int .i64 a); refine (magnitude_eq _ _ (unhide HA) _ HY).mono ?_; rintro e w1 ⟨rfl, rfl⟩))
    go_ret2
    exact gives_el (c := 0) (q := 0) HT.out rfl

set_option maxHeartbeats 1000000 in
theorem opDiv (a b : Int) (ga gb : Addr) (w : World) (hG : Gl w ga gb) (ha : -1000000000000000 ≤ a ∧ a ≤ 1000000000000000) (hb : -1000000000000000 ≤ b ∧ b ≤ 1000000000000000) : Calls Tryz.prog 146 #[.int .i64 a, .int .i64 b] w (GivesEl ga gb (twoOf 4 a b) w) := by
  have hc := hG.no
  clear hG
  obtain ⟨ha1, ha2⟩ := ha
  obtain ⟨hb1, hb2⟩ := hb
  have HE : Hid (twoOf 4 a b = (if a = 0 ∧ b = 0 then (1, 0) else if b = 0 ∨ a.tmod b ≠ 0 then (0, 3) else limited (a.tdiv b, true))) := rfl
  by_cases hz : b = 0
  · subst hz
    by_cases h0 : a = 0
    · subst h0
      rw [if_pos ⟨rfl, rfl⟩] at HE
      go_enter Tryz.func146, Tryz.ntmps146
      go_wp2
      go_ret2
      exact gives_el (c := 0) (q := 0) HE.out rfl
    · rw [if_neg (fun h => h0 h.1), if_pos (.inl rfl)] at HE
      have q0 : (a == 0) = false := by simp [h0]
      go_enter Tryz.func146, Tryz.ntmps146
      go_wp2
      go_quiet (fail)
      go_wp2
      go_ret2
      exact gives_el (c := 3) HE.out rfl
  have qz : (b == 0) = false := by simp [hz]
  rw [if_neg (fun h => hz h.2)] at HE
  obtain ⟨m, hm⟩ : ∃ m, a.tmod b = m := ⟨_, rfl⟩
  rw [hm] at HE
  by_cases hm0 : m = 0
  · subst hm0
    rw [if_neg (by simp [hz])] at HE
    have hd : -1000000000000000 ≤ a.tdiv b ∧ a.tdiv b ≤ 1000000000000000 := by
      have h1 := Int.natAbs_tdiv_le_natAbs a b
      omega
    obtain ⟨v, hv⟩ : ∃ v, a.tdiv b = v := ⟨_, rfl⟩
    rw [hv] at HE hd
    rw [lim_ok (inM_of hd.1 hd.2)] at HE
    obtain ⟨hd1, hd2⟩ := hd
    by_cases h0 : a = 0
    · subst h0
      have hv0 : v = 0 := by rw [← hv]; simp
      subst hv0
      clear hv hm
      go_enter Tryz.func146, Tryz.ntmps146
      go_wp2
      go_ret2
      exact gives_el (c := 0) (q := 0) HE.out rfl
    · have q0 : (a == 0) = false := by simp [h0]
      go_enter Tryz.func146, Tryz.ntmps146
      go_wp2
      go_ret2
      exact gives_el (c := 0) (q := 0) HE.out rfl
  · rw [if_pos (.inr hm0)] at HE
    have qm : (m != 0) = true := by simp [hm0]
    have h0 : ¬ a = 0 := by rintro rfl; simp at hm; exact hm0 hm.symm
    have q0 : (a == 0) = false := by simp [h0]
    go_enter Tryz.func146, Tryz.ntmps146
    go_wp2
    go_quiet (fail)
    go_wp2
    go_ret2
    exact gives_el (c := 3) HE.out rfl

end Go.Proofs.YtkgcmpmgaghdhaaGreatDoor
namespace Go.Proofs.YtkgcmpmgaghdhaaGreatDoor
open Go.RowKit Go.Shelf

set_option maxHeartbeats 400000 in
theorem implTruth_any (b : Bool) (w : World) (r : Int) (hr : Hid (truth b = r)) : Calls Tryz.prog 46 #[.bool b] w fun e w' => e = .returned (.int .i64 r) ∧ w' = w := by
  rw [← unhide hr]
  cases b
  all_goals
    go_enter Tryz.func46, Tryz.ntmps46
    go_wp2
    go_ret
    exact ⟨rfl, rfl⟩

set_option maxHeartbeats 400000 in
theorem opMin (a b : Int) (ga gb : Addr) (w : World) (ha : -1000000000000000 ≤ a ∧ a ≤ 1000000000000000) (hb : -1000000000000000 ≤ b ∧ b ≤ 1000000000000000) : Calls Tryz.prog 147 #[.int .i64 a, .int .i64 b] w (GivesEl ga gb (twoOf 5 a b) w) := by
  have HE := hide (two_order_eq ha hb 5 (by omega))
  clear ha hb
  by_cases h : a < b
  · have HO : Hid (orderOf 5 a b = a) := by show _ = _; simp [orderOf, h]
    rw [unhide HO] at HE
    go_enter Tryz.func147, Tryz.ntmps147
    go_wp2
    go_ret2
    first | exact gives_el (c := 0) (q := 0) HE.out rfl | (rw [show min a b = a by omega]; exact gives_el (c := 0) (q := 0) HE.out rfl)
  · have HO : Hid (orderOf 5 a b = b) := by show _ = _; simp [orderOf, h]
    rw [unhide HO] at HE
    by_cases h2 : a = b
    · subst h2
      go_enter Tryz.func147, Tryz.ntmps147
      go_wp2
      go_ret2
      first | exact gives_el (c := 0) (q := 0) HE.out rfl | (rw [show min a a = a by omega]; exact gives_el (c := 0) (q := 0) HE.out rfl)
    · have h3 : b < a := by omega
      clear h2
      go_enter Tryz.func147, Tryz.ntmps147
      go_wp2
      go_ret2
      first | exact gives_el (c := 0) (q := 0) HE.out rfl | (rw [show min a b = b by omega]; exact gives_el (c := 0) (q := 0) HE.out rfl)

set_option maxHeartbeats 400000 in
theorem opMax (a b : Int) (ga gb : Addr) (w : World) (ha : -1000000000000000 ≤ a ∧ a ≤ 1000000000000000) (hb : -1000000000000000 ≤ b ∧ b ≤ 1000000000000000) : Calls Tryz.prog 148 #[.int .i64 a, .int .i64 b] w (GivesEl ga gb (twoOf 6 a b) w) := by
  have HE := hide (two_order_eq ha hb 6 (by omega))
  clear ha hb
  by_cases h : a < b
  · have HO : Hid (orderOf 6 a b = b) := by show _ = _; simp [orderOf, h]
    rw [unhide HO] at HE
    go_enter Tryz.func148, Tryz.ntmps148
    go_wp2
    go_ret2
    first | exact gives_el (c := 0) (q := 0) HE.out rfl | (rw [show max a b = b by omega]; exact gives_el (c := 0) (q := 0) HE.out rfl)
  · have HO : Hid (orderOf 6 a b = a) := by show _ = _; simp [orderOf, h]
    rw [unhide HO] at HE
    by_cases h2 : a = b
    · subst h2
      go_enter Tryz.func148, Tryz.ntmps148
      go_wp2
      go_ret2
      first | exact gives_el (c := 0) (q := 0) HE.out rfl | (rw [show max a a = a by omega]; exact gives_el (c := 0) (q := 0) HE.out rfl)
    · have h3 : b < a := by omega
      clear h2
      go_enter Tryz.func148, Tryz.ntmps148
      go_wp2
      go_ret2
      first | exact gives_el (c := 0) (q := 0) HE.out rfl | (rw [show max a b = a by omega]; exact gives_el (c := 0) (q := 0) HE.out rfl)

set_option maxHeartbeats 400000 in
theorem opEqual (a b : Int) (ga gb : Addr) (w : World) (ha : -1000000000000000 ≤ a ∧ a ≤ 1000000000000000) (hb : -1000000000000000 ≤ b ∧ b ≤ 1000000000000000) : Calls Tryz.prog 151 #[.int .i64 a, .int .i64 b] w (GivesEl ga gb (twoOf 9 a b) w) := by
  have HE := hide (two_order_eq ha hb 9 (by omega))
  have HO : Hid (orderOf 9 a b = truth (decide (a = b))) := rfl
  rw [unhide HO] at HE
  clear ha hb
  by_cases h : a = b
  · have HD : Hid (truth true = 1) := rfl
    rw [decide_eq_true h] at HE
    have qe : (a == b) = true := by simp [h]
    clear h
    go_enter Tryz.func151, Tryz.ntmps151
    go_wp2_with (go_at_call 46; refine (implTruth_any _ _ _ HD).mono ?_; rintro e w1 ⟨rfl, rfl⟩)
    go_ret2
    exact gives_el (c := 0) (q := 0) HE.out rfl
  · have HD : Hid (truth false = 0) := rfl
    rw [decide_eq_false h] at HE
    have qe : (a == b) = false := by simp [h]
    clear h
    go_enter Tryz.func151, Tryz.ntmps151
    go_wp2_with (go_at_call 46; refine (implTruth_any _ _ _ HD).mono ?_; rintro e w1 ⟨rfl, rfl⟩)
    go_ret2
    exact gives_el (c := 0) (q := 0) HE.out rfl

set_option maxHeartbeats 400000 in
theorem opNe (a b : Int) (ga gb : Addr) (w : World) (ha : -1000000000000000 ≤ a ∧ a ≤ 1000000000000000) (hb : -1000000000000000 ≤ b ∧ b ≤ 1000000000000000) : Calls Tryz.prog 152 #[.int .i64 a, .int .i64 b] w (GivesEl ga gb (twoOf 10 a b) w) := by
  have HE := hide (two_order_eq ha hb 10 (by omega))
  have HO : Hid (orderOf 10 a b = truth (decide (a ≠ b))) := rfl
  rw [unhide HO] at HE
  clear ha hb
  by_cases h : a ≠ b
  · have HD : Hid (truth true = 1) := rfl
    rw [decide_eq_true h] at HE
    have qe : (a != b) = true := by simpa using h
    clear h
    go_enter Tryz.func152, Tryz.ntmps152
    go_wp2_with (go_at_call 46; refine (implTruth_any _ _ _ HD).mono ?_; rintro e w1 ⟨rfl, rfl⟩)
    go_ret2
    exact gives_el (c := 0) (q := 0) HE.out rfl
  · have HD : Hid (truth false = 0) := rfl
    rw [decide_eq_false h] at HE
    have qe : (a != b) = false := by simpa using h
    clear h
    go_enter Tryz.func152, Tryz.ntmps152
    go_wp2_with (go_at_call 46; refine (implTruth_any _ _ _ HD).mono ?_; rintro e w1 ⟨rfl, rfl⟩)
    go_ret2
    exact gives_el (c := 0) (q := 0) HE.out rfl

set_option maxHeartbeats 400000 in
theorem opLt (a b : Int) (ga gb : Addr) (w : World) (ha : -1000000000000000 ≤ a ∧ a ≤ 1000000000000000) (hb : -1000000000000000 ≤ b ∧ b ≤ 1000000000000000) : Calls Tryz.prog 153 #[.int .i64 a, .int .i64 b] w (GivesEl ga gb (twoOf 11 a b) w) := by
  have HE := hide (two_order_eq ha hb 11 (by omega))
  have HO : Hid (orderOf 11 a b = truth (decide (a < b))) := rfl
  rw [unhide HO] at HE
  clear ha hb
  by_cases h : a < b
  · have HD : Hid (truth true = 1) := rfl
    rw [decide_eq_true h] at HE
    go_enter Tryz.func153, Tryz.ntmps153
    go_wp2_with (go_at_call 46; refine (implTruth_any _ _ _ HD).mono ?_; rintro e w1 ⟨rfl, rfl⟩)
    go_ret2
    exact gives_el (c := 0) (q := 0) HE.out rfl
  · have HD : Hid (truth false = 0) := rfl
    rw [decide_eq_false h] at HE
    go_enter Tryz.func153, Tryz.ntmps153
    go_wp2_with (go_at_call 46; refine (implTruth_any _ _ _ HD).mono ?_; rintro e w1 ⟨rfl, rfl⟩)
    go_ret2
    exact gives_el (c := 0) (q := 0) HE.out rfl

set_option maxHeartbeats 400000 in
theorem opLe (a b : Int) (ga gb : Addr) (w : World) (ha : -1000000000000000 ≤ a ∧ a ≤ 1000000000000000) (hb : -1000000000000000 ≤ b ∧ b ≤ 1000000000000000) : Calls Tryz.prog 154 #[.int .i64 a, .int .i64 b] w (GivesEl ga gb (twoOf 12 a b) w) := by
  have HE := hide (two_order_eq ha hb 12 (by omega))
  have HO : Hid (orderOf 12 a b = truth (decide (a ≤ b))) := rfl
  rw [unhide HO] at HE
  clear ha hb
  by_cases h : a ≤ b
  · have HD : Hid (truth true = 1) := rfl
    rw [decide_eq_true h] at HE
    go_enter Tryz.func154, Tryz.ntmps154
    go_wp2_with (go_at_call 46; refine (implTruth_any _ _ _ HD).mono ?_; rintro e w1 ⟨rfl, rfl⟩)
    go_ret2
    exact gives_el (c := 0) (q := 0) HE.out rfl
  · have HD : Hid (truth false = 0) := rfl
    rw [decide_eq_false h] at HE
    go_enter Tryz.func154, Tryz.ntmps154
    go_wp2_with (go_at_call 46; refine (implTruth_any _ _ _ HD).mono ?_; rintro e w1 ⟨rfl, rfl⟩)
    go_ret2
    exact gives_el (c := 0) (q := 0) HE.out rfl

set_option maxHeartbeats 400000 in
theorem opGe (a b : Int) (ga gb : Addr) (w : World) (ha : -1000000000000000 ≤ a ∧ a ≤ 1000000000000000) (hb : -1000000000000000 ≤ b ∧ b ≤ 1000000000000000) : Calls Tryz.prog 155 #[.int .i64 a, .int .i64 b] w (GivesEl ga gb (twoOf 13 a b) w) := by
  have HE := hide (two_order_eq ha hb 13 (by omega))
  have HO : Hid (orderOf 13 a b = truth (decide (b ≤ a))) := rfl
  rw [unhide HO] at HE
  clear ha hb
  by_cases h : b ≤ a
  · have HD : Hid (truth true = 1) := rfl
    rw [decide_eq_true h] at HE
    go_enter Tryz.func155, Tryz.ntmps155
    go_wp2_with (go_at_call 46; refine (implTruth_any _ _ _ HD).mono ?_; rintro e w1 ⟨rfl, rfl⟩)
    go_ret2
    exact gives_el (c := 0) (q := 0) HE.out rfl
  · have HD : Hid (truth false = 0) := rfl
    rw [decide_eq_false h] at HE
    go_enter Tryz.func155, Tryz.ntmps155
    go_wp2_with (go_at_call 46; refine (implTruth_any _ _ _ HD).mono ?_; rintro e w1 ⟨rfl, rfl⟩)
    go_ret2
    exact gives_el (c := 0) (q := 0) HE.out rfl

set_option maxHeartbeats 400000 in
theorem opGt (a b : Int) (ga gb : Addr) (w : World) (ha : -1000000000000000 ≤ a ∧ a ≤ 1000000000000000) (hb : -1000000000000000 ≤ b ∧ b ≤ 1000000000000000) : Calls Tryz.prog 156 #[.int .i64 a, .int .i64 b] w (GivesEl ga gb (twoOf 14 a b) w) := by
  have HE := hide (two_order_eq ha hb 14 (by omega))
  have HO : Hid (orderOf 14 a b = truth (decide (b < a))) := rfl
  rw [unhide HO] at HE
  clear ha hb
  by_cases h : b < a
  · have HD : Hid (truth true = 1) := rfl
    rw [decide_eq_true h] at HE
    go_enter Tryz.func156, Tryz.ntmps156
    go_wp2_with (go_at_call 46; refine (implTruth_any _ _ _ HD).mono ?_; rintro e w1 ⟨rfl, rfl⟩)
    go_ret2
    exact gives_el (c := 0) (q := 0) HE.out rfl
  · have HD : Hid (truth false = 0) := rfl
    rw [decide_eq_false h] at HE
    go_enter Tryz.func156, Tryz.ntmps156
    go_wp2_with (go_at_call 46; refine (implTruth_any _ _ _ HD).mono ?_; rintro e w1 ⟨rfl, rfl⟩)
    go_ret2
    exact gives_el (c := 0) (q := 0) HE.out rfl

end Go.Proofs.YtkgcmpmgaghdhaaGreatDoor
namespace Go.Proofs.YtkgcmpmgaghdhaaGreatDoor
open Go.RowKit

set_option maxHeartbeats 1000000 in
theorem residue_any (a b : Int) (w : World) (ha : -1000000000000000 ≤ a ∧ a ≤ 1000000000000000) (hb : -1000000000000000 ≤ b ∧ b ≤ 1000000000000000) : Calls Tryz.prog 133 #[.int .i64 a, .int .i64 b] w fun e w' => e = .returned (.int .i64 (modOf a b)) ∧ w' = w := by
  obtain ⟨ha1, ha2⟩ := ha
  obtain ⟨hb1, hb2⟩ := hb
  by_cases h0 : a = 0
  · subst h0
    have HE : Hid (modOf 0 b = b) := rfl
    go_enter Tryz.func133, Tryz.ntmps133
    go_wp2
    go_ret
    exact ⟨ret_int HE.out.symm, rfl⟩
  have q0 : (a == 0) = false := by simp [h0]
  have hm : -1000000000000000 ≤ b.tmod a ∧ b.tmod a ≤ 1000000000000000 := by
    have := Int.natAbs_tmod b a
    have h3 : b.natAbs % a.natAbs ≤ b.natAbs := Nat.mod_le _ _
    omega
  obtain ⟨m, hm0⟩ : ∃ m, b.tmod a = m := ⟨_, rfl⟩
  rw [hm0] at hm
  obtain ⟨hm1, hm2⟩ := hm
  by_cases hz : m = 0
  · subst hz
    have HE : Hid (modOf a b = 0) := by show _ = _; unfold modOf; rw [if_neg h0, hm0]; simp
    go_enter Tryz.func133, Tryz.ntmps133
    go_wp2
    go_ret
    exact ⟨ret_int HE.out.symm, rfl⟩
  have q1 : (m != 0) = true := by simp [hz]
  by_cases hs : m < 0
  · by_cases ht : a < 0
    · have HE : Hid (modOf a b = m) := by show _ = _; unfold modOf; rw [if_neg h0, hm0]; simp [hs, ht]
      clear hz
      go_enter Tryz.func133, Tryz.ntmps133
      go_wp2
      go_ret
      exact ⟨ret_int HE.out.symm, rfl⟩
    · have HE : Hid (modOf a b = m + a) := by show _ = _; unfold modOf; rw [if_neg h0, hm0]; simp [hs, ht, hz]
      clear hz
      go_enter Tryz.func133, Tryz.ntmps133
      go_wp2
      go_ret
      exact ⟨ret_int HE.out.symm, rfl⟩
  · by_cases ht : a < 0
    · have HE : Hid (modOf a b = m + a) := by show _ = _; unfold modOf; rw [if_neg h0, hm0]; simp [hs, ht, hz]
      clear hz
      go_enter Tryz.func133, Tryz.ntmps133
      go_wp2
      go_ret
      exact ⟨ret_int HE.out.symm, rfl⟩
    · have HE : Hid (modOf a b = m) := by show _ = _; unfold modOf; rw [if_neg h0, hm0]; simp [hs, ht]
      clear hz
      go_enter Tryz.func133, Tryz.ntmps133
      go_wp2
      go_ret
      exact ⟨ret_int HE.out.symm, rfl⟩

end Go.Proofs.YtkgcmpmgaghdhaaGreatDoor
namespace Go.Proofs.YtkgcmpmgaghdhaaGreatDoor
open Go.RowKit Go.Shelf

theorem mod_lim {a b : Int} (ha : -1000000000000000 ≤ a ∧ a ≤ 1000000000000000) (hb : -1000000000000000 ≤ b ∧ b ≤ 1000000000000000) : twoOf 7 a b = (modOf a b, 0) := by
  have h : twoOf 7 a b = limited (modOf a b, true) := rfl
  have hm : -1000000000000000 ≤ b.tmod a ∧ b.tmod a ≤ 1000000000000000 := by
    have := Int.natAbs_tmod b a
    have h3 : b.natAbs % a.natAbs ≤ b.natAbs := Nat.mod_le _ _
    omega
  rw [h, lim_ok]
  unfold modOf
  by_cases h0 : a = 0
  · rw [if_pos h0]; exact inM_of hb.1 hb.2
  · rw [if_neg h0]
    split
    · rename_i hs
      obtain ⟨hs1, hs2⟩ := hs
      by_cases h1 : b.tmod a < 0 <;> by_cases h2 : a < 0
      all_goals simp only [h1, h2, decide_true, decide_false, ne_eq, not_true_eq_false] at hs2
      all_goals exact inM_of (by omega) (by omega)
    · exact inM_of hm.1 hm.2

set_option maxHeartbeats 1000000 in
theorem opMod (a b : Int) (ga gb : Addr) (w : World) (ha : -1000000000000000 ≤ a ∧ a ≤ 1000000000000000) (hb : -1000000000000000 ≤ b ∧ b ≤ 1000000000000000) : Calls Tryz.prog 149 #[.int .i64 a, .int .i64 b] w (GivesEl ga gb (twoOf 7 a b) w) := by
  have HT := hide (mod_lim ha hb)
  have HR := hide (fun W => residue_any a b W ha hb)
  obtain ⟨r, hr⟩ : ∃ r, modOf a b = r := ⟨_, rfl⟩
  rw [hr] at HT HR
  clear ha hb hr
  go_enter Tryz.func149, Tryz.ntmps149
  go_wp2_with (go_at_call 133; refine (unhide HR _).mono ?_; rintro e w1 ⟨rfl, hw1⟩; obtain rfl := hw1.symm)
  go_ret2
  exact gives_el (c := 0) (q := 0) HT.out rfl

theorem opMul_eq (a b : Int) (ga gb : Addr) (w : World) (hG : Gl w ga gb) (ha : -1000000000000000 ≤ a ∧ a ≤ 1000000000000000) (hb : -1000000000000000 ≤ b ∧ b ≤ 1000000000000000) (r1 r2 : Int) (hr : Hid (twoOf 3 a b = (r1, r2))) : Calls Tryz.prog 134 #[.int .i64 a, .int .i64 b] w fun e w' => e = .returned (.tuple #[.int .i64 r1, errV ga gb r2]) ∧ ∃ q, w' = w.drewN q := by
  have := opMul a b ga gb w hG ha hb
  rw [unhide hr] at this
  exact this

theorem times3_ok {x a y : Int} (h : x * a = y) (hy : inM y = true) : twoOf 3 x a = (y, 0) := by
  have e : twoOf 3 x a = limited (timesOf x a) := rfl
  rw [e, times_ok (by rw [h]; exact hy), h, lim_ok hy]
theorem times3_big {x a : Int} (hy : inM (x * a) = false) : twoOf 3 x a = (0, 7) := by
  have e : twoOf 3 x a = limited (timesOf x a) := rfl
  rw [e, times_big hy, lim_bad]

/-- The powers up to n reckoned by a loop are those of b. -/
structure PowLoop (a b : Int) (n : Nat) : Prop where
  same : a ^ n = a ^ b.toNat
  big : 2 ≤ a.natAbs ∨ (a = 0 ∨ a = 1 ∨ a = -1)

theorem pow_small {a : Int} (h : a = 0 ∨ a = 1 ∨ a = -1) (k : Nat) : a ^ k = 0 ∨ a ^ k = 1 ∨ a ^ k = -1 := by
  induction k with
  | zero => simp
  | succ k ih =>
    rw [Int.pow_succ]
    rcases ih with e | e | e <;> rw [e] <;> rcases h with rfl | rfl | rfl <;> simp

theorem small_in {x : Int} (h : x = 0 ∨ x = 1 ∨ x = -1) : inM x = true := by rcases h with rfl | rfl | rfl <;> rfl

theorem pow_stays {a b : Int} {n k : Nat} (h : PowLoop a b n) (hk : k ≤ n) (hb : inM (a ^ k) = false) : powOf a b = (0, false) := by
  rcases h.big with h2 | h2
  · exact pow_big (by rw [← h.same]; exact pow_step_big h2 k n hk hb)
  · rw [small_in (pow_small h2 k)] at hb; cases hb

theorem pow8_big {a b : Int} (hb : 0 ≤ b) (h : powOf a b = (0, false)) : twoOf 8 a b = (0, 7) := by
  have e : twoOf 8 a b = (if b < 0 then (0, 3) else limited (powOf a b)) := rfl
  rw [e, if_neg (by omega), h, lim_bad]
theorem pow8_ok {a b x : Int} {n : Nat} (hb : 0 ≤ b) (h : PowLoop a b n) (hx : a ^ n = x) (hi : inM x = true) : twoOf 8 a b = (x, 0) := by
  have e : twoOf 8 a b = (if b < 0 then (0, 3) else limited (powOf a b)) := rfl
  have hx' : a ^ b.toNat = x := by rw [← h.same]; exact hx
  rw [e, if_neg (by omega), pow_ok (by rw [hx']; exact hi), hx', lim_ok hi]

theorem abs_cases (a : Int) : 2 ≤ a.natAbs ∨ (a = 0 ∨ a = 1 ∨ a = -1) := by omega

theorem powLoop_plain {a b : Int} {n : Nat} (hn : b = n) : PowLoop a b n := ⟨by rw [hn]; rfl, abs_cases a⟩

theorem powLoop_small {a b : Int} (ha : a = 0 ∨ a = 1 ∨ a = -1) (hb : 2 < b) {n : Nat} (hn : 2 - b.tmod 2 = (n : Int)) : PowLoop a b n := by
  refine ⟨?_, .inr ha⟩
  have e : b.tmod 2 = ((b.toNat % 2 : Nat) : Int) := by rw [Int.tmod_eq_emod_of_nonneg (by omega)]; omega
  rcases ha with rfl | rfl | rfl
  · rw [Int.zero_pow (by omega), Int.zero_pow (by omega)]
  · rw [Int.one_pow, Int.one_pow]
  · rw [neg_one_pow, neg_one_pow]
    have : n % 2 = b.toNat % 2 := by omega
    rw [this]

end Go.Proofs.YtkgcmpmgaghdhaaGreatDoor
