import Derived.Test.YtgjpchnkodnieaaGreatDoorZv07
import Derived.Test.YtgjpchnkodnieaaGreatDoorZv01
import Derived.Test.YtgjpchnkodnieaaGreatDoorZv03
import Derived.Test.YtgjpchnkodnieaaGreatDoorZv09
import Derived.Test.YtgjpchnkodnieaaGreatDoorZv00
import Derived.Test.YtgjpchnkodnieaaGreatDoorZv04
import Derived.Test.YtgjpchnkodnieaaGreatDoorZv02
import Derived.Test.YtgjpchnkodnieaaGreatDoorZv10
import Derived.Laws.CopyOwn
import Derived.BigQuiet
namespace Go.Proofs.YtgjpchnkodnieaaGreatDoor
open Go.RowKit
theorem Box.free {w : World} {p : Nat} {c : Bool} {v1 v2 : Value} (h : Box w p c v1 v2) (o : Nat) : w.frozen? ⟨p, o, none⟩ = false := frozen_of_row w p o _ _ h
theorem Box.all {w : World} {p : Nat} {c : Bool} {v1 v2 : Value} (h : Box w p c v1 v2) : w.cell? ⟨p, 0, none⟩ = some (.bool c) ∧ w.cell? ⟨p, 1, none⟩ = some v1 ∧ w.cell? ⟨p, 2, none⟩ = some v2 ∧ w.frozen? ⟨p, 0, none⟩ = false ∧ w.frozen? ⟨p, 1, none⟩ = false ∧ w.frozen? ⟨p, 2, none⟩ = false ∧ p < w.heap.size :=
  ⟨h.cells.1, h.cells.2.1, h.cells.2.2, h.free _, h.free _, h.free _, h.lt⟩
theorem Box.set2 {w : World} {p : Nat} {c : Bool} {v1 v2 : Value} (h : Box w p c v1 v2) (v : Value) : Box (w.setCell ⟨p, 2, none⟩ v) p c v1 v := by
  unfold Box at h ⊢
  rw [heap_setCell_same w p 2 _ _ _ h]
  simp
theorem Box.other {w : World} {p : Nat} {c : Bool} {v1 v2 : Value} (h : Box w p c v1 v2) {q : Addr} (hq : p ≠ q.block) (v : Value) : Box (w.setCell q v) p c v1 v2 := (heap_setCell_other w q p v hq).trans h
theorem Box.low {w w' : World} {p B : Nat} {c : Bool} {v1 v2 : Value} (h : Box w p c v1 v2) (hp : p < B) (hb : Below B w w') : Box w' p c v1 v2 := (hb.block p hp).trans h
theorem Box.grown {w w1 : World} {p base n : Nat} {c : Bool} {v1 v2 v : Value} {xs : List Value} (h : Box w p c v1 v2) (hown : w.ownsRow base 3 1 v n xs) (o : Obj) (hg : (w.alloc o).grownBy w1 v.ownBlock) : Box w1 p c v1 v2 := by
  refine (hg.block p (by have := h.lt; simp; omega) ?_).trans (h.alloc o)
  rcases hown.2 with ⟨rfl, _⟩ | ⟨g, cap, cur, rfl, _, hh, _⟩
  · exact fun e => by cases e
  · intro e
    have e' : p = g := by simpa [Value.ownBlock] using e
    subst e'
    unfold Box at h
    rw [hh] at h
    simp at h
theorem owns_box_set {w : World} {base n p : Nat} {v : Value} {xs : List Value} {c : Bool} {v1 v2 : Value} (h : w.ownsRow base 3 1 v n xs) (hb : Box w p c v1 v2) (o : Nat) (u : Value) : (w.setCell ⟨p, o, none⟩ u).ownsRow base 3 1 v n xs := by
  obtain ⟨h1, h2⟩ := h
  refine ⟨h1, ?_⟩
  rcases h2 with h2 | ⟨g, cap, cur, hv, hg, hh, r⟩
  · exact Or.inl h2
  · refine Or.inr ⟨g, cap, cur, hv, hg, ?_, r⟩
    rw [Below.heap_setCell _ _ _ _ (by
      intro e
      have e' : g = p := e
      subst e'
      unfold Box at hb
      rw [hh] at hb
      simp at hb)]
    exact hh
end Go.Proofs.YtgjpchnkodnieaaGreatDoor
namespace Go.Proofs.YtgjpchnkodnieaaGreatDoor
open Go.RowKit
abbrev lay (f : Nat → Int) : Value := .agg #[.int .i64 (f 0), .int .i64 (f 1), .int .i64 (f 2), .int .i64 (f 3), .int .i64 (f 4), .int .i64 (f 5), .int .i64 (f 6), .int .i64 (f 7), .int .i64 (f 8), .int .i64 (f 9), .int .i64 (f 10), .int .i64 (f 11)]
def fl (c : Int) (sh st : List Int) : Nat → Int := fun i => if i = 0 then c else if i = 1 then (sh.length : Int) else if i < 7 then sh.getD (i - 2) 0 else st.getD (i - 7) 0
def upd (f : Nat → Int) (j : Nat) (x : Int) : Nat → Int := fun i => if i = j then x else f i
theorem fl_0 (c : Int) (sh st : List Int) : fl c sh st 0 = c := rfl
theorem fl_1 (c : Int) (sh st : List Int) : fl c sh st 1 = (sh.length : Int) := rfl
theorem fl_len (c : Int) (sh st : List Int) {k : Nat} (hk : k < 5) : fl c sh st (2 + k) = sh.getD k 0 := by
  unfold fl; rw [if_neg (by omega), if_neg (by omega), if_pos (by omega)]; congr 1; omega
theorem fl_str (c : Int) (sh st : List Int) (k : Nat) : fl c sh st (7 + k) = st.getD k 0 := by
  unfold fl; rw [if_neg (by omega), if_neg (by omega), if_neg (by omega)]; congr 1; omega
theorem fl_off (c x : Int) (sh st : List Int) : upd (fl c sh st) 0 x = fl x sh st := by
  funext i; unfold upd fl; by_cases h : i = 0 <;> simp [h]
theorem fl_set (c x : Int) (sh st : List Int) {k : Nat} (hk : k < st.length) : upd (fl c sh st) (7 + k) x = fl c sh (st.set k x) := by
  funext i; unfold upd
  by_cases h : i = 7 + k
  · subst h; rw [if_pos rfl, fl_str]; simp [hk]
  · rw [if_neg h]; unfold fl
    by_cases h0 : i = 0
    · simp [h0]
    · by_cases h1 : i = 1
      · simp [h1]
      · by_cases h2 : i < 7
        · simp [h0, h1, h2]
        · rw [if_neg h0, if_neg h1, if_neg h2, if_neg h0, if_neg h1, if_neg h2]
          simp [List.getD, show k ≠ i - 7 by omega]
theorem fl_setl (c x : Int) (sh st : List Int) {k : Nat} (hk : k < sh.length) (h5 : k < 5) : upd (fl c sh st) (2 + k) x = fl c (sh.set k x) st := by
  funext i; unfold upd
  by_cases h : i = 2 + k
  · subst h; rw [if_pos rfl, fl_len _ _ _ h5]; simp [hk]
  · rw [if_neg h]; unfold fl
    by_cases h0 : i = 0
    · simp [h0]
    · by_cases h1 : i = 1
      · simp [h1]
      · by_cases h2 : i < 7
        · rw [if_neg h0, if_neg h1, if_pos h2, if_neg h0, if_neg h1, if_pos h2]
          simp [List.getD, show k ≠ i - 2 by omega]
        · simp [h0, h1, h2]
def LBox (w : World) (p : Nat) (f : Nat → Int) : Prop := w.heap[p]? = some (.cells #[.int .i64 (f 0), .int .i64 (f 1), .int .i64 (f 2), .int .i64 (f 3), .int .i64 (f 4), .int .i64 (f 5), .int .i64 (f 6), .int .i64 (f 7), .int .i64 (f 8), .int .i64 (f 9), .int .i64 (f 10), .int .i64 (f 11)] 101 (0, 0))
theorem LBox.lt {w : World} {p : Nat} {f : Nat → Int} (h : LBox w p f) : p < w.heap.size := lt_of_block h
theorem LBox.at {w : World} {p : Nat} {f : Nat → Int} (h : LBox w p f) {i : Nat} (hi : i < 12) : w.cell? ⟨p, i, none⟩ = some (.int .i64 (f i)) := by
  unfold LBox at h
  rcases i with _ | _ | _ | _ | _ | _ | _ | _ | _ | _ | _ | _ | i <;> first | (exact absurd hi (by omega)) | (simp [World.cell?, h])
theorem LBox.free {w : World} {p : Nat} {f : Nat → Int} (h : LBox w p f) (o : Nat) : w.frozen? ⟨p, o, none⟩ = false := frozen_of_row w p o _ _ h
theorem LBox.below {w w' : World} {p B : Nat} {f : Nat → Int} (h : LBox w p f) (hB : w.heap.size ≤ B) (hb : Below B w w') : LBox w' p f := (hb.block p (Nat.lt_of_lt_of_le h.lt hB)).trans h
theorem LBox.low {w w' : World} {p B : Nat} {f : Nat → Int} (h : LBox w p f) (hp : p < B) (hb : Below B w w') : LBox w' p f := (hb.block p hp).trans h
theorem LBox.but {S : Nat → Prop} {w w' : World} {p : Nat} {f : Nat → Int} (h : LBox w p f) (hb : But S w w') (hn : ¬ S p) : LBox w' p f := (hb.block p h.lt hn).trans h
theorem LBox.alloc {w : World} {p : Nat} {f : Nat → Int} (h : LBox w p f) (o : Obj) : LBox (w.alloc o) p f := (Below.heap_alloc w o p h.lt).trans h
theorem LBox.drew {w : World} {p : Nat} {f : Nat → Int} (h : LBox w p f) : LBox w.drew p f := h
theorem LBox.new (w : World) (f : Nat → Int) : LBox (w.alloc (.cells #[.int .i64 (f 0), .int .i64 (f 1), .int .i64 (f 2), .int .i64 (f 3), .int .i64 (f 4), .int .i64 (f 5), .int .i64 (f 6), .int .i64 (f 7), .int .i64 (f 8), .int .i64 (f 9), .int .i64 (f 10), .int .i64 (f 11)] 101 (0, 0))) w.heap.size f := by
  show (w.heap.push _)[w.heap.size]? = _
  simp
theorem LBox.other {w : World} {p : Nat} {f : Nat → Int} (h : LBox w p f) {q : Addr} (hq : p ≠ q.block) (v : Value) : LBox (w.setCell q v) p f := (heap_setCell_other w q p v hq).trans h
theorem LBox.congr {w : World} {p : Nat} {f g : Nat → Int} (h : LBox w p f) (hg : ∀ i, i < 12 → f i = g i) : LBox w p g := by
  unfold LBox at h ⊢
  rw [h]
  simp only [hg 0 (by omega), hg 1 (by omega), hg 2 (by omega), hg 3 (by omega), hg 4 (by omega), hg 5 (by omega), hg 6 (by omega), hg 7 (by omega), hg 8 (by omega), hg 9 (by omega), hg 10 (by omega), hg 11 (by omega)]
theorem LBox.set {w : World} {p : Nat} {f : Nat → Int} (h : LBox w p f) {i : Nat} (hi : i < 12) (x : Int) : LBox (w.setCell ⟨p, i, none⟩ (.int .i64 x)) p (upd f i x) := by
  unfold LBox at h ⊢
  rw [heap_setCell_same w p i _ _ _ h]
  rcases i with _ | _ | _ | _ | _ | _ | _ | _ | _ | _ | _ | _ | i <;> first | (exact absurd hi (by omega)) | (simp [upd])
theorem LBox.row {w : World} {p n : Nat} {f : Nat → Int} (h : LBox w p f) (zs : List Int) (hl : zs.length = n) (o : Nat) (ho : o + n ≤ 12) (hf : ∀ i, i < n → f (o + i) = zs.getD i 0) : Row w (some ⟨p, o, none⟩) n zs :=
  ⟨hl, by omega, .inr ⟨p, o, rfl, h.lt, fun i hi => by rw [h.at (by omega), hf i hi]⟩⟩
theorem LBox.all {w : World} {p : Nat} {f : Nat → Int} (h : LBox w p f) : w.cell? ⟨p, 0, none⟩ = some (.int .i64 (f 0)) ∧ w.cell? ⟨p, 1, none⟩ = some (.int .i64 (f 1)) ∧ w.cell? ⟨p, 2, none⟩ = some (.int .i64 (f 2)) ∧ w.cell? ⟨p, 3, none⟩ = some (.int .i64 (f 3)) ∧ w.cell? ⟨p, 4, none⟩ = some (.int .i64 (f 4)) ∧ w.cell? ⟨p, 5, none⟩ = some (.int .i64 (f 5)) ∧ w.cell? ⟨p, 6, none⟩ = some (.int .i64 (f 6)) ∧ w.cell? ⟨p, 7, none⟩ = some (.int .i64 (f 7)) ∧ w.cell? ⟨p, 8, none⟩ = some (.int .i64 (f 8)) ∧ w.cell? ⟨p, 9, none⟩ = some (.int .i64 (f 9)) ∧ w.cell? ⟨p, 10, none⟩ = some (.int .i64 (f 10)) ∧ w.cell? ⟨p, 11, none⟩ = some (.int .i64 (f 11)) ∧ w.frozen? ⟨p, 0, none⟩ = false ∧ w.frozen? ⟨p, 1, none⟩ = false ∧ w.frozen? ⟨p, 2, none⟩ = false ∧ w.frozen? ⟨p, 3, none⟩ = false ∧ w.frozen? ⟨p, 4, none⟩ = false ∧ w.frozen? ⟨p, 5, none⟩ = false ∧ w.frozen? ⟨p, 6, none⟩ = false ∧ w.frozen? ⟨p, 7, none⟩ = false ∧ w.frozen? ⟨p, 8, none⟩ = false ∧ w.frozen? ⟨p, 9, none⟩ = false ∧ w.frozen? ⟨p, 10, none⟩ = false ∧ w.frozen? ⟨p, 11, none⟩ = false ∧ p < w.heap.size :=
  ⟨h.at (by omega), h.at (by omega), h.at (by omega), h.at (by omega), h.at (by omega), h.at (by omega), h.at (by omega), h.at (by omega), h.at (by omega), h.at (by omega), h.at (by omega), h.at (by omega), h.free _, h.free _, h.free _, h.free _, h.free _, h.free _, h.free _, h.free _, h.free _, h.free _, h.free _, h.free _, h.lt⟩
theorem LBox.cells {w : World} {p : Nat} {f : Nat → Int} (h : LBox w p f) : w.cell? ⟨p, 0, none⟩ = some (.int .i64 (f 0)) ∧ w.cell? ⟨p, 1, none⟩ = some (.int .i64 (f 1)) ∧ w.cell? ⟨p, 2, none⟩ = some (.int .i64 (f 2)) ∧ w.cell? ⟨p, 3, none⟩ = some (.int .i64 (f 3)) ∧ w.cell? ⟨p, 4, none⟩ = some (.int .i64 (f 4)) ∧ w.cell? ⟨p, 5, none⟩ = some (.int .i64 (f 5)) ∧ w.cell? ⟨p, 6, none⟩ = some (.int .i64 (f 6)) ∧ w.cell? ⟨p, 7, none⟩ = some (.int .i64 (f 7)) ∧ w.cell? ⟨p, 8, none⟩ = some (.int .i64 (f 8)) ∧ w.cell? ⟨p, 9, none⟩ = some (.int .i64 (f 9)) ∧ w.cell? ⟨p, 10, none⟩ = some (.int .i64 (f 10)) ∧ w.cell? ⟨p, 11, none⟩ = some (.int .i64 (f 11)) :=
  ⟨h.at (by omega), h.at (by omega), h.at (by omega), h.at (by omega), h.at (by omega), h.at (by omega), h.at (by omega), h.at (by omega), h.at (by omega), h.at (by omega), h.at (by omega), h.at (by omega)⟩
def sets12 (w : World) (p : Nat) (g : Nat → Int) : World := ((((((((((((w.setCell ⟨p, 0, none⟩ (.int .i64 (g 0))).setCell ⟨p, 1, none⟩ (.int .i64 (g 1))).setCell ⟨p, 2, none⟩ (.int .i64 (g 2))).setCell ⟨p, 3, none⟩ (.int .i64 (g 3))).setCell ⟨p, 4, none⟩ (.int .i64 (g 4))).setCell ⟨p, 5, none⟩ (.int .i64 (g 5))).setCell ⟨p, 6, none⟩ (.int .i64 (g 6))).setCell ⟨p, 7, none⟩ (.int .i64 (g 7))).setCell ⟨p, 8, none⟩ (.int .i64 (g 8))).setCell ⟨p, 9, none⟩ (.int .i64 (g 9))).setCell ⟨p, 10, none⟩ (.int .i64 (g 10))).setCell ⟨p, 11, none⟩ (.int .i64 (g 11)))
theorem LBox.sets {w : World} {p : Nat} {f : Nat → Int} (h : LBox w p f) (g : Nat → Int) : LBox (sets12 w p g) p g := by
  have h0 := h
  have h1 := h0.set (i := 0) (by omega) (g 0)
  have h2 := h1.set (i := 1) (by omega) (g 1)
  have h3 := h2.set (i := 2) (by omega) (g 2)
  have h4 := h3.set (i := 3) (by omega) (g 3)
  have h5 := h4.set (i := 4) (by omega) (g 4)
  have h6 := h5.set (i := 5) (by omega) (g 5)
  have h7 := h6.set (i := 6) (by omega) (g 6)
  have h8 := h7.set (i := 7) (by omega) (g 7)
  have h9 := h8.set (i := 8) (by omega) (g 8)
  have h10 := h9.set (i := 9) (by omega) (g 9)
  have h11 := h10.set (i := 10) (by omega) (g 10)
  have h12 := h11.set (i := 11) (by omega) (g 11)
  exact h12.congr (fun i hi => by rcases i with _ | _ | _ | _ | _ | _ | _ | _ | _ | _ | _ | _ | i <;> first | (exact absurd hi (by omega)) | (simp [upd]))
theorem Below.sets12 {B : Nat} {w w' : World} (h : Below B w w') {p : Nat} (hp : B ≤ p) (g : Nat → Int) : Below B w (sets12 w' p g) :=
  ((((((((((((h.setCell (p := ⟨p, 0, none⟩) hp _).setCell (p := ⟨p, 1, none⟩) hp _).setCell (p := ⟨p, 2, none⟩) hp _).setCell (p := ⟨p, 3, none⟩) hp _).setCell (p := ⟨p, 4, none⟩) hp _).setCell (p := ⟨p, 5, none⟩) hp _).setCell (p := ⟨p, 6, none⟩) hp _).setCell (p := ⟨p, 7, none⟩) hp _).setCell (p := ⟨p, 8, none⟩) hp _).setCell (p := ⟨p, 9, none⟩) hp _).setCell (p := ⟨p, 10, none⟩) hp _).setCell (p := ⟨p, 11, none⟩) hp _)
theorem LBox.splice2 {w : World} {p : Nat} {f : Nat → Int} {zs : List Int} (h : w.heap[p]? = some (.cells (splice [.int .i64 (f 0), .int .i64 (f 1), .int .i64 (f 2), .int .i64 (f 3), .int .i64 (f 4), .int .i64 (f 5), .int .i64 (f 6), .int .i64 (f 7), .int .i64 (f 8), .int .i64 (f 9), .int .i64 (f 10), .int .i64 (f 11)] 2 (zs.map (Value.int .i64))).toArray 101 (0, 0))) (hl : zs.length ≤ 5) :
    LBox w p (fun i => if 2 ≤ i ∧ i < 2 + zs.length then zs.getD (i - 2) 0 else f i) := by
  unfold LBox
  rw [h]
  rcases zs with _ | ⟨a, _ | ⟨b, _ | ⟨c, _ | ⟨d, _ | ⟨e, _ | ⟨x, zs⟩⟩⟩⟩⟩⟩
  all_goals first | (exfalso; simp only [List.length_cons, List.length_nil] at hl; omega) | (simp [splice])
theorem LBox.splice7 {w : World} {p : Nat} {f : Nat → Int} {zs : List Int} (h : w.heap[p]? = some (.cells (splice [.int .i64 (f 0), .int .i64 (f 1), .int .i64 (f 2), .int .i64 (f 3), .int .i64 (f 4), .int .i64 (f 5), .int .i64 (f 6), .int .i64 (f 7), .int .i64 (f 8), .int .i64 (f 9), .int .i64 (f 10), .int .i64 (f 11)] 7 (zs.map (Value.int .i64))).toArray 101 (0, 0))) (hl : zs.length ≤ 5) :
    LBox w p (fun i => if 7 ≤ i ∧ i < 7 + zs.length then zs.getD (i - 7) 0 else f i) := by
  unfold LBox
  rw [h]
  rcases zs with _ | ⟨a, _ | ⟨b, _ | ⟨c, _ | ⟨d, _ | ⟨e, _ | ⟨x, zs⟩⟩⟩⟩⟩⟩
  all_goals first | (exfalso; simp only [List.length_cons, List.length_nil] at hl; omega) | (simp [splice])
theorem mul_bd {x y : Int} (hx0 : -10000 ≤ x) (hx1 : x ≤ 10000) (hy0 : -10000 ≤ y) (hy1 : y ≤ 10000) : -100000000 ≤ x * y ∧ x * y ≤ 100000000 := by
  by_cases h : 0 ≤ x
  · have q1 := Int.mul_le_mul_of_nonneg_left hy1 h
    have q2 := Int.mul_le_mul_of_nonneg_left hy0 h
    have q3 : x * -10000 = -(x * 10000) := by rw [Int.mul_neg]
    omega
  · have q1 := Int.mul_le_mul_of_nonneg_left hy1 (show 0 ≤ -x by omega)
    have q2 := Int.mul_le_mul_of_nonneg_left hy0 (show 0 ≤ -x by omega)
    have q3 : -x * -10000 = x * 10000 := by rw [Int.neg_mul_neg]
    have q4 : -x * y = -(x * y) := by rw [Int.neg_mul]
    have q5 : -x * 10000 = -(x * 10000) := by rw [Int.neg_mul]
    omega
theorem getD_long {zs : List Int} {k : Nat} (h : zs.length ≤ k) : zs.getD k 0 = 0 := by simp [List.getD, List.getElem?_eq_none h]
theorem fl_copyl (c : Int) (sh st zs : List Int) (hl : zs.length = sh.length) (h5 : zs.length ≤ 5) (i : Nat) : (if 2 ≤ i ∧ i < 2 + zs.length then zs.getD (i - 2) 0 else fl c sh st i) = fl c zs st i := by
  unfold fl
  by_cases h0 : i = 0
  · subst h0; simp
  · by_cases h1 : i = 1
    · subst h1; simp [hl]
    · rw [if_neg h0, if_neg h1, if_neg h0, if_neg h1]
      by_cases h2 : i < 2 + zs.length
      · rw [if_pos ⟨by omega, h2⟩, if_pos (by omega)]
      · rw [if_neg (by omega)]
        by_cases h7 : i < 7
        · rw [if_pos h7, if_pos h7, getD_long (by omega), getD_long (by omega)]
        · rw [if_neg h7, if_neg h7]
theorem fl_copys (c : Int) (sh st zs : List Int) (hl : st.length ≤ zs.length) (i : Nat) : (if 7 ≤ i ∧ i < 7 + zs.length then zs.getD (i - 7) 0 else fl c sh st i) = fl c sh zs i := by
  unfold fl
  by_cases h0 : i = 0
  · subst h0; simp
  · by_cases h1 : i = 1
    · subst h1; simp
    · rw [if_neg h0, if_neg h1, if_neg h0, if_neg h1]
      by_cases h7 : i < 7
      · rw [if_neg (by omega), if_pos h7, if_pos h7]
      · rw [if_neg h7, if_neg h7]
        by_cases h2 : i < 7 + zs.length
        · rw [if_pos ⟨by omega, h2⟩]
        · rw [if_neg (by omega), getD_long (by omega), getD_long (by omega)]
end Go.Proofs.YtgjpchnkodnieaaGreatDoor
namespace Go.Proofs.YtgjpchnkodnieaaGreatDoor
open Go.RowKit
theorem ret_line {x y : Int} {p q : Bool} {r : Int × Bool} (h : r = (y, q)) (hx : x = y) (hp : p = q) : Ending.returned (.tuple #[.int .i64 x, .bool p]) = .returned (.tuple #[.int .i64 r.1, .bool r.2]) := by rw [h, hx, hp]
set_option maxRecDepth 20000 in
set_option maxHeartbeats 2000000 in
theorem l7Line_any (a : Option Addr) (n cap : Nat) (zs : List Int) (w : World) (h : Row w a n zs) (hb : ∀ k, k < n → -1000000000000 ≤ zs.getD k 0 ∧ zs.getD k 0 ≤ 1000000000000) :
    Calls Tryz.prog 167 #[.slice a n cap] w fun e w' => e = .returned (.tuple #[.int .i64 (lineL zs).1, .bool (lineL zs).2]) ∧ Below w.heap.size w w' := by
  have hlen := hide h.len
  have hsm := h.small
  have H := hide h
  have HB := hide hb
  clear h hb
  by_cases hn : n < 2
  · have HE := hide (lineL_short (ps := zs) (by rw [hlen.out]; exact hn))
    have hni : (n : Int) < 2 := by omega
    go_enter Tryz.func167, Tryz.ntmps167
    go_wp2
    go_ret2
    exact ⟨ret_line HE.out rfl rfl, Below.refl _ _⟩
  · have hni : ¬ (n : Int) < 2 := by omega
    obtain ⟨b, off, rfl, hblt, hc0⟩ := H.out.get (k := 0) (by omega)
    obtain ⟨b', off', e, _, hc1⟩ := H.out.get (k := 1) (by omega)
    cases e
    have hb0 := HB.out 0 (by omega)
    have hb1 := HB.out 1 (by omega)
    obtain ⟨y, hy⟩ : ∃ y, y = zs.getD 0 0 := ⟨_, rfl⟩
    obtain ⟨z, hz⟩ : ∃ z, z = zs.getD 1 0 := ⟨_, rfl⟩
    obtain ⟨d, hd⟩ : ∃ d, d = z - y := ⟨_, rfl⟩
    rw [← hy] at hc0 hb0
    rw [← hz] at hc1 hb1
    have hw : IntKind.i64.wrap (z - y) = d := by rw [IntKind.wrap_i64, hd]; omega
    have HD : Hid (zs.getD 1 0 - zs.getD 0 0 = d) := by show _ = _; rw [← hy, ← hz, hd]
    have hzy : z - y = d := hd.symm
    rw [Nat.add_zero] at hc0
    have h1n : (1 : Int) < (n : Int) := by omega
    have h0n : (0 : Int) < (n : Int) := by omega
    clear hy hz hd
    go_enter Tryz.func167, Tryz.ntmps167
    go_wp2_with fail
    go_quiet (fail)
    go_wp2_with fail
    clear hc0 hc1
    go_loopw [5] (fun i wr => ∃ k : Nat, 1 ≤ k ∧ k ≤ n ∧ i = .int .i64 (k : Nat) ∧ Hid (∀ j, j ≠ 0 → j < k → zs.getD j 0 - zs.getD (j - 1) 0 = d) ∧ Hid (Below w.heap.size w wr)) (fun i _ => n - (intOf i).toNat)
    case atStart => exact ⟨1, Nat.le_refl _, by omega, rfl, fun j h0 hj => absurd hj (by omega), Below.drewN (Below.refl _ _) _⟩
    case round =>
      obtain ⟨k, hk1, hk, rfl, hall, hlow⟩ := hrel
      by_cases hlt : k < n
      · obtain ⟨b1, o1, e, hl1, ck⟩ := (H.out.below (Nat.le_refl _) hlow.out).get hlt
        cases e
        obtain ⟨j, hj⟩ : ∃ j : Nat, j = k - 1 := ⟨_, rfl⟩
        obtain ⟨b2, o2, e, _, cj⟩ := (H.out.below (Nat.le_refl _) hlow.out).get (k := j) (by omega)
        cases e
        have hbk := HB.out k hlt
        have hbj := HB.out j (by omega)
        obtain ⟨u, hu⟩ : ∃ u, u = zs.getD k 0 := ⟨_, rfl⟩
        obtain ⟨v, hv⟩ : ∃ v, v = zs.getD j 0 := ⟨_, rfl⟩
        rw [← hu] at ck hbk
        rw [← hv] at cj hbj
        have hkj : (k : Int) - 1 = (j : Nat) := by omega
        have hjn : (j : Int) < (n : Int) := by omega
        have hkn : (k : Int) < (n : Int) := by omega
        obtain ⟨q, hq⟩ : ∃ q, q = u - v := ⟨_, rfl⟩
        have hwq : IntKind.i64.wrap (u - v) = q := by rw [IntKind.wrap_i64, hq]; omega
        have huv : u - v = q := hq.symm
        have hwk : IntKind.i64.wrap ((k : Int) - 1) = (j : Nat) := by rw [IntKind.wrap_i64]; omega
        have HUV : Hid (zs.getD k 0 - zs.getD (k - 1) 0 = q) := by show _ = _; rw [← hj, ← hu, ← hv, hq]
        by_cases hqd : q = d
        · have hne : (q != d) = false := by simp [hqd]
          have HQD := hide hqd
          clear hu hv hj hq hqd
          go_wp2_with fail
          go_quiet (fail)
          go_wp2_with fail
          go_roundw
          case rel =>
            refine ⟨k + 1, by omega, by omega, by go_num, fun i h0 hi => ?_, Below.drewN hlow.out _⟩
            by_cases e : i = k
            · rw [e, HUV.out, HQD.out]
            · exact hall.out i h0 (by omega)
          case measure => simp [intOf]; omega
        · have hne : (q != d) = true := by simp [hqd]
          have HE : Hid (lineL zs = (0, false)) := lineL_no (by rw [hlen.out]; exact hn) (i := k) (by rw [hlen.out]; exact hlt) (by omega) (by rw [HUV.out, HD.out]; exact hqd)
          clear hu hv hj hq hqd
          go_wp2_with fail
          go_quiet (fail)
          go_wp2_with fail
          go_ret2
          exact ⟨ret_line HE.out rfl rfl, Below.drewN hlow.out _⟩
      · have hke : k = n := by omega
        subst hke
        have HE : Hid (lineL zs = (d, true)) := by
          have := lineL_yes (ps := zs) (by rw [hlen.out]; exact hn) (fun i h0 hi => by rw [HD.out]; exact hall.out i h0 (by rw [← hlen.out]; exact hi))
          rw [HD.out] at this
          exact this
        go_wp2_with fail
        go_ret2
        exact ⟨ret_line HE.out rfl rfl, hlow.out⟩
theorem placeOf_bd {off : Int} {sh st : List Int} (h : formed off sh st = true) (N : Nat) (hN : countOf sh = (N : Int)) (k : Nat) (hk : k < N) : -1000000000000 ≤ placeOf off sh st k ∧ placeOf off sh st k ≤ 1000000000000 := by
  obtain ⟨hsb, _, ho, hst⟩ := formed_parts h
  have hF : Full sh := full_of (shapeB_in hsb).1 (by rw [prodAll_count sh hsb, hN]; omega)
  have hb := farN_bd (digits_in hF k) (fun k => ((shapeB_in hsb).1.cell k).2) hst sh.length (Nat.le_refl _)
  have h5 := (shapeB_in hsb).2
  unfold placeOf
  omega
end Go.Proofs.YtgjpchnkodnieaaGreatDoor
namespace Go.Proofs.YtgjpchnkodnieaaGreatDoor
open Go.RowKit
theorem viewOk_no1 {off cells : Int} {sh st : List Int} (h : formed off sh st = false) : viewOk off sh st cells = false := by unfold viewOk; rw [h]; rfl
theorem viewOk_no2 {off cells : Int} {sh st : List Int} (h : ¬ (0 ≤ cells ∧ cells ≤ 10000)) : viewOk off sh st cells = false := by unfold viewOk; rw [decide_eq_false h]; simp
theorem viewOk_all {off cells : Int} {sh st : List Int} (h1 : formed off sh st = true) (h2 : 0 ≤ cells ∧ cells ≤ 10000) : viewOk off sh st cells = (placesOf off sh st).all fun p => decide (0 ≤ p ∧ p < cells) := by unfold viewOk; rw [h1, decide_eq_true h2]; rfl
set_option maxHeartbeats 2000000 in
theorem ViewOk_eq (off : Int) (a1 a2 : Option Addr) (n1 n2 c1 c2 : Nat) (sh st : List Int) (cells : Int) (w : World) (h1 : Row w a1 n1 sh) (h2 : Row w a2 n2 st) (r : Bool) (hr : Hid (viewOk off sh st cells = r)) :
    Calls Tryz.prog 25 #[.agg #[.int .i64 off, .slice a1 n1 c1, .slice a2 n2 c2], .int .i64 cells] w fun e w' => e = .returned (.bool r) ∧ Below w.heap.size w w' := by
  have hl1 := hide h1.len
  have hl2 := hide h2.len
  have H1 := hide h1
  have H2 := hide h2
  clear h1 h2
  have hW : ∀ o, Below w.heap.size w (w.alloc o) := fun o => (Below.refl _ _).alloc (Nat.le_refl _) _
  obtain ⟨r1, hr1⟩ : ∃ r, formed off sh st = r := ⟨_, rfl⟩
  have HR1 := hide hr1
  clear hr1
  have HCF := hide (l7Formed_eq off a1 a2 n1 n2 c1 c2 sh st (w.alloc (.cells #[.int .i64 off, .slice a1 n1 c1, .slice a2 n2 c2] 46)) ((unhide H1).alloc _) ((unhide H2).alloc _) r1 HR1)
  cases r1 with
  | false =>
    have HE : Hid (r = false) := by rw [← unhide hr]; exact viewOk_no1 (unhide HR1)
    go_enter Tryz.func25, Tryz.ntmps25
    go_wp2_with (go_at_call 80; refine (unhide HCF).mono ?_; rintro e w1 ⟨rfl, hb1⟩; have HB1 := hide hb1; clear hb1)
    go_ret
    exact ⟨ret_bool (by rw [unhide HE]), (hW _).trans ((unhide HB1).mono (by simp))⟩
  | true =>
    by_cases hc0 : 0 ≤ cells
    · by_cases hc1 : cells ≤ 10000
      · obtain ⟨hsb, hl, _, _⟩ := formed_parts (unhide HR1)
        rw [unhide hl1, unhide hl2] at hl
        subst hl
        have hcb := shapeB_count hsb
        obtain ⟨N, hN⟩ : ∃ N : Nat, countOf sh = (N : Int) := ⟨(countOf sh).toNat, by omega⟩
        have hN4 : N ≤ 10000 := by omega
        have HEQ := hide (viewOk_all (unhide HR1) ⟨hc0, hc1⟩)
        have HN := hide hN
        clear hsb hcb hN
        obtain ⟨ps, hps⟩ : ∃ ps, ps = placesOf off sh st := ⟨_, rfl⟩
        rw [← hps] at HEQ
        have HPS := hide hps
        clear hps
        go_enter Tryz.func25, Tryz.ntmps25
        go_upto_region 4 with (first | (go_at_call 80; refine (unhide HCF).mono ?_; rintro e w1 ⟨rfl, hb1⟩; have HB1 := hide hb1; obtain ⟨x0, x1, x2, x3, x4, x5, x6⟩ := ((VBox.new w off (.slice a1 n2 c1) (.slice a2 n2 c2)).below (Nat.le_refl _) hb1).all; clear hb1) | (go_at_call 81; refine (l7Places_any off a1 a2 n2 c1 c2 sh st _ (by exact ((unhide H1).alloc _).below (Nat.le_refl _) (unhide HB1)) (by exact ((unhide H2).alloc _).below (Nat.le_refl _) (unhide HB1)) (unhide HR1) N (unhide HN)).mono ?_; rintro e w2 ⟨g, k, rfl, ho2, hb2⟩; have HO := hide ho2; have HB2 := hide hb2; clear ho2 hb2))
        rw [← unhide HPS] at HO
        have HW2 : Hid (Below w.heap.size w w2) := ((hW _).trans ((unhide HB1).mono (by simp))).trans ((unhide HB2).mono (by have := (unhide HB1).size; simp at this; omega))
        clear x0 x1 x2 x3 x4 x5 x6 HB1 HB2 HCF
        go_wp2_with fail
        go_loop [6] (fun i => ∃ j : Nat, j ≤ N ∧ i = .int .i64 j ∧ Hid ((ps.take j).all (fun p => decide (0 ≤ p ∧ p < cells)) = true)) (fun i => N - (intOf i).toNat)
        case atStart => exact ⟨0, Nat.zero_le _, rfl, rfl⟩
        case round =>
          obtain ⟨j, hj, rfl, hall⟩ := hrel
          by_cases hlt : j < N
          · obtain ⟨b, o, hab, hb, hc⟩ := (unhide HO).row.get hlt
            cases hab
            rw [Nat.zero_add] at hc
            have hks : Hid (j < ps.length) := by show j < ps.length; rw [(unhide HO).len]; exact hlt
            obtain ⟨x, hx⟩ : ∃ x, x = ps.getD j 0 := ⟨_, rfl⟩
            rw [← hx] at hc
            have HX := hide hx
            clear hx
            by_cases hx0 : x < 0
            · have HE : Hid (r = false) := by rw [← unhide hr, unhide HEQ]; exact all_not ps _ j (unhide hks) (by rw [← unhide HX]; exact decide_eq_false (by omega))
              go_wp2
              go_ret
              exact ⟨ret_bool (by rw [unhide HE]), unhide HW2⟩
            · by_cases hx1 : x < cells
              · have HA := hide (all_step ps (fun p => decide (0 ≤ p ∧ p < cells)) j (unhide hks) (unhide hall) (by rw [← unhide HX]; exact decide_eq_true ⟨by omega, hx1⟩))
                go_wp2
                go_round
                case rel => exact ⟨j + 1, by omega, by go_num, HA⟩
                case measure => simp [intOf]; omega
              · have HE : Hid (r = false) := by rw [← unhide hr, unhide HEQ]; exact all_not ps _ j (unhide hks) (by rw [← unhide HX]; exact decide_eq_false (by omega))
                go_wp2
                go_ret
                exact ⟨ret_bool (by rw [unhide HE]), unhide HW2⟩
          · have HE : Hid (r = true) := by
              rw [← unhide hr, unhide HEQ]
              have := unhide hall
              rwa [List.take_of_length_le (by rw [(unhide HO).len]; omega)] at this
            go_wp2
            go_ret
            exact ⟨ret_bool (by rw [unhide HE]), unhide HW2⟩
      · have HE : Hid (r = false) := by rw [← unhide hr]; exact viewOk_no2 (by omega)
        go_enter Tryz.func25, Tryz.ntmps25
        go_wp2_with (go_at_call 80; refine (unhide HCF).mono ?_; rintro e w1 ⟨rfl, hb1⟩; have HB1 := hide hb1; clear hb1)
        go_ret
        exact ⟨ret_bool (by rw [unhide HE]), (hW _).trans ((unhide HB1).mono (by simp))⟩
    · have HE : Hid (r = false) := by rw [← unhide hr]; exact viewOk_no2 (by omega)
      go_enter Tryz.func25, Tryz.ntmps25
      go_wp2_with (go_at_call 80; refine (unhide HCF).mono ?_; rintro e w1 ⟨rfl, hb1⟩; have HB1 := hide hb1; clear hb1)
      go_ret
      exact ⟨ret_bool (by rw [unhide HE]), (hW _).trans ((unhide HB1).mono (by simp))⟩
end Go.Proofs.YtgjpchnkodnieaaGreatDoor
