import Derived.Test.YtadbhidpmihghaaSpecView
import Derived.Test.YtadbhidpmihghaaImplShape
import Derived.Laws.CopyOwn
namespace Go.Proofs.Ytadbhidpmihghaa
open Go.RowKit

/-- A layout as a value: what f says of its twelve cells. -/
abbrev lay (f : Nat → Int) : Value := .agg #[.int .i64 (f 0), .int .i64 (f 1), .int .i64 (f 2), .int .i64 (f 3), .int .i64 (f 4), .int .i64 (f 5), .int .i64 (f 6), .int .i64 (f 7), .int .i64 (f 8), .int .i64 (f 9), .int .i64 (f 10), .int .i64 (f 11)]

/-- Off, rank, the lengths (0 behind the rank), the strides. -/
def fl (c : Int) (sh st : List Int) : Nat → Int := fun i => if i = 0 then c else if i = 1 then (sh.length : Int) else if i < 7 then sh.getD (i - 2) 0 else st.getD (i - 7) 0

def upd (f : Nat → Int) (j : Nat) (x : Int) : Nat → Int := fun i => if i = j then x else f i

theorem fl_0 (c : Int) (sh st : List Int) : fl c sh st 0 = c := rfl
theorem fl_1 (c : Int) (sh st : List Int) : fl c sh st 1 = (sh.length : Int) := rfl
theorem fl_len (c : Int) (sh st : List Int) {k : Nat} (hk : k < 5) : fl c sh st (2 + k) = sh.getD k 0 := by
  unfold fl; rw [if_neg (by omega), if_neg (by omega), if_pos (by omega)]; congr 1; omega
theorem fl_str (c : Int) (sh st : List Int) (k : Nat) : fl c sh st (7 + k) = st.getD k 0 := by
  unfold fl; rw [if_neg (by omega), if_neg (by omega), if_neg (by omega)]; congr 1; omega
theorem fl_off (c x : Int) (sh st : List Int) : upd (fl c sh st) 0 x = fl x sh st := by
  funext i; unfold upd fl; by_cases h : i = 0 <;> simp [h]
theorem fl_set (c x : Int) (sh st : List Int) {k : Nat} (hk : k < st.length) : upd (fl c sh st) (7 + k) x = fl c sh (st.set k x) := by
  funext i; unfold upd
  by_cases h : i = 7 + k
  · subst h; rw [if_pos rfl, fl_str]; simp [hk]
  · rw [if_neg h]; unfold fl
    by_cases h0 : i = 0
    · simp [h0]
    · by_cases h1 : i = 1
      · simp [h1]
      · by_cases h2 : i < 7
        · simp [h0, h1, h2]
        · rw [if_neg h0, if_neg h1, if_neg h2, if_neg h0, if_neg h1, if_neg h2]
          simp [List.getD, show k ≠ i - 7 by omega]
theorem fl_setl (c x : Int) (sh st : List Int) {k : Nat} (hk : k < sh.length) (h5 : k < 5) : upd (fl c sh st) (2 + k) x = fl c (sh.set k x) st := by
  funext i; unfold upd
  by_cases h : i = 2 + k
  · subst h; rw [if_pos rfl, fl_len _ _ _ h5]; simp [hk]
  · rw [if_neg h]; unfold fl
    by_cases h0 : i = 0
    · simp [h0]
    · by_cases h1 : i = 1
      · simp [h1]
      · by_cases h2 : i < 7
        · rw [if_neg h0, if_neg h1, if_pos h2, if_neg h0, if_neg h1, if_pos h2]
          simp [List.getD, show k ≠ i - 2 by omega]
        · simp [h0, h1, h2]

/-- Block p holds a layout. -/
def LBox (w : World) (p : Nat) (f : Nat → Int) : Prop := w.heap[p]? = some (.cells #[.int .i64 (f 0), .int .i64 (f 1), .int .i64 (f 2), .int .i64 (f 3), .int .i64 (f 4), .int .i64 (f 5), .int .i64 (f 6), .int .i64 (f 7), .int .i64 (f 8), .int .i64 (f 9), .int .i64 (f 10), .int .i64 (f 11)] 47 (0, 0))

theorem LBox.lt {w : World} {p : Nat} {f : Nat → Int} (h : LBox w p f) : p < w.heap.size := lt_of_block h
theorem LBox.at {w : World} {p : Nat} {f : Nat → Int} (h : LBox w p f) {i : Nat} (hi : i < 12) : w.cell? ⟨p, i, none⟩ = some (.int .i64 (f i)) := by
  unfold LBox at h
  rcases i with _ | _ | _ | _ | _ | _ | _ | _ | _ | _ | _ | _ | i <;> first | (exact absurd hi (by omega)) | (simp [World.cell?, h])
theorem LBox.free {w : World} {p : Nat} {f : Nat → Int} (h : LBox w p f) (o : Nat) : w.frozen? ⟨p, o, none⟩ = false := frozen_of_row w p o _ _ h
theorem LBox.below {w w' : World} {p B : Nat} {f : Nat → Int} (h : LBox w p f) (hB : w.heap.size ≤ B) (hb : Below B w w') : LBox w' p f := (hb.block p (Nat.lt_of_lt_of_le h.lt hB)).trans h
theorem LBox.low {w w' : World} {p B : Nat} {f : Nat → Int} (h : LBox w p f) (hp : p < B) (hb : Below B w w') : LBox w' p f := (hb.block p hp).trans h
theorem LBox.but {S : Nat → Prop} {w w' : World} {p : Nat} {f : Nat → Int} (h : LBox w p f) (hb : But S w w') (hn : ¬ S p) : LBox w' p f := (hb.block p h.lt hn).trans h
theorem LBox.alloc {w : World} {p : Nat} {f : Nat → Int} (h : LBox w p f) (o : Obj) : LBox (w.alloc o) p f := (Below.heap_alloc w o p h.lt).trans h
theorem LBox.drew {w : World} {p : Nat} {f : Nat → Int} (h : LBox w p f) : LBox w.drew p f := h
theorem LBox.new (w : World) (f : Nat → Int) : LBox (w.alloc (.cells #[.int .i64 (f 0), .int .i64 (f 1), .int .i64 (f 2), .int .i64 (f 3), .int .i64 (f 4), .int .i64 (f 5), .int .i64 (f 6), .int .i64 (f 7), .int .i64 (f 8), .int .i64 (f 9), .int .i64 (f 10), .int .i64 (f 11)] 47 (0, 0))) w.heap.size f := by
  show (w.heap.push _)[w.heap.size]? = _
  simp
theorem LBox.other {w : World} {p : Nat} {f : Nat → Int} (h : LBox w p f) {q : Addr} (hq : p ≠ q.block) (v : Value) : LBox (w.setCell q v) p f := (heap_setCell_other w q p v hq).trans h
theorem LBox.congr {w : World} {p : Nat} {f g : Nat → Int} (h : LBox w p f) (hg : ∀ i, i < 12 → f i = g i) : LBox w p g := by
  unfold LBox at h ⊢
  rw [h]
  simp only [hg 0 (by omega), hg 1 (by omega), hg 2 (by omega), hg 3 (by omega), hg 4 (by omega), hg 5 (by omega), hg 6 (by omega), hg 7 (by omega), hg 8 (by omega), hg 9 (by omega), hg 10 (by omega), hg 11 (by omega)]
theorem LBox.set {w : World} {p : Nat} {f : Nat → Int} (h : LBox w p f) {i : Nat} (hi : i < 12) (x : Int) : LBox (w.setCell ⟨p, i, none⟩ (.int .i64 x)) p (upd f i x) := by
  unfold LBox at h ⊢
  rw [heap_setCell_same w p i _ _ _ h]
  rcases i with _ | _ | _ | _ | _ | _ | _ | _ | _ | _ | _ | _ | i <;> first | (exact absurd hi (by omega)) | (simp [upd])
theorem LBox.row {w : World} {p n : Nat} {f : Nat → Int} (h : LBox w p f) (zs : List Int) (hl : zs.length = n) (o : Nat) (ho : o + n ≤ 12) (hf : ∀ i, i < n → f (o + i) = zs.getD i 0) : Row w (some ⟨p, o, none⟩) n zs :=
  ⟨hl, by omega, .inr ⟨p, o, rfl, h.lt, fun i hi => by rw [h.at (by omega), hf i hi]⟩⟩
theorem LBox.all {w : World} {p : Nat} {f : Nat → Int} (h : LBox w p f) : w.cell? ⟨p, 0, none⟩ = some (.int .i64 (f 0)) ∧ w.cell? ⟨p, 1, none⟩ = some (.int .i64 (f 1)) ∧ w.cell? ⟨p, 2, none⟩ = some (.int .i64 (f 2)) ∧ w.cell? ⟨p, 3, none⟩ = some (.int .i64 (f 3)) ∧ w.cell? ⟨p, 4, none⟩ = some (.int .i64 (f 4)) ∧ w.cell? ⟨p, 5, none⟩ = some (.int .i64 (f 5)) ∧ w.cell? ⟨p, 6, none⟩ = some (.int .i64 (f 6)) ∧ w.cell? ⟨p, 7, none⟩ = some (.int .i64 (f 7)) ∧ w.cell? ⟨p, 8, none⟩ = some (.int .i64 (f 8)) ∧ w.cell? ⟨p, 9, none⟩ = some (.int .i64 (f 9)) ∧ w.cell? ⟨p, 10, none⟩ = some (.int .i64 (f 10)) ∧ w.cell? ⟨p, 11, none⟩ = some (.int .i64 (f 11)) ∧ w.frozen? ⟨p, 0, none⟩ = false ∧ w.frozen? ⟨p, 1, none⟩ = false ∧ w.frozen? ⟨p, 2, none⟩ = false ∧ w.frozen? ⟨p, 3, none⟩ = false ∧ w.frozen? ⟨p, 4, none⟩ = false ∧ w.frozen? ⟨p, 5, none⟩ = false ∧ w.frozen? ⟨p, 6, none⟩ = false ∧ w.frozen? ⟨p, 7, none⟩ = false ∧ w.frozen? ⟨p, 8, none⟩ = false ∧ w.frozen? ⟨p, 9, none⟩ = false ∧ w.frozen? ⟨p, 10, none⟩ = false ∧ w.frozen? ⟨p, 11, none⟩ = false ∧ p < w.heap.size :=
  ⟨h.at (by omega), h.at (by omega), h.at (by omega), h.at (by omega), h.at (by omega), h.at (by omega), h.at (by omega), h.at (by omega), h.at (by omega), h.at (by omega), h.at (by omega), h.at (by omega), h.free _, h.free _, h.free _, h.free _, h.free _, h.free _, h.free _, h.free _, h.free _, h.free _, h.free _, h.free _, h.lt⟩
theorem LBox.cells {w : World} {p : Nat} {f : Nat → Int} (h : LBox w p f) : w.cell? ⟨p, 0, none⟩ = some (.int .i64 (f 0)) ∧ w.cell? ⟨p, 1, none⟩ = some (.int .i64 (f 1)) ∧ w.cell? ⟨p, 2, none⟩ = some (.int .i64 (f 2)) ∧ w.cell? ⟨p, 3, none⟩ = some (.int .i64 (f 3)) ∧ w.cell? ⟨p, 4, none⟩ = some (.int .i64 (f 4)) ∧ w.cell? ⟨p, 5, none⟩ = some (.int .i64 (f 5)) ∧ w.cell? ⟨p, 6, none⟩ = some (.int .i64 (f 6)) ∧ w.cell? ⟨p, 7, none⟩ = some (.int .i64 (f 7)) ∧ w.cell? ⟨p, 8, none⟩ = some (.int .i64 (f 8)) ∧ w.cell? ⟨p, 9, none⟩ = some (.int .i64 (f 9)) ∧ w.cell? ⟨p, 10, none⟩ = some (.int .i64 (f 10)) ∧ w.cell? ⟨p, 11, none⟩ = some (.int .i64 (f 11)) :=
  ⟨h.at (by omega), h.at (by omega), h.at (by omega), h.at (by omega), h.at (by omega), h.at (by omega), h.at (by omega), h.at (by omega), h.at (by omega), h.at (by omega), h.at (by omega), h.at (by omega)⟩
/-- All twelve cells of a block written anew. -/
def sets12 (w : World) (p : Nat) (g : Nat → Int) : World := ((((((((((((w.setCell ⟨p, 0, none⟩ (.int .i64 (g 0))).setCell ⟨p, 1, none⟩ (.int .i64 (g 1))).setCell ⟨p, 2, none⟩ (.int .i64 (g 2))).setCell ⟨p, 3, none⟩ (.int .i64 (g 3))).setCell ⟨p, 4, none⟩ (.int .i64 (g 4))).setCell ⟨p, 5, none⟩ (.int .i64 (g 5))).setCell ⟨p, 6, none⟩ (.int .i64 (g 6))).setCell ⟨p, 7, none⟩ (.int .i64 (g 7))).setCell ⟨p, 8, none⟩ (.int .i64 (g 8))).setCell ⟨p, 9, none⟩ (.int .i64 (g 9))).setCell ⟨p, 10, none⟩ (.int .i64 (g 10))).setCell ⟨p, 11, none⟩ (.int .i64 (g 11)))
theorem LBox.sets {w : World} {p : Nat} {f : Nat → Int} (h : LBox w p f) (g : Nat → Int) : LBox (sets12 w p g) p g := by
  have h0 := h
  have h1 := h0.set (i := 0) (by omega) (g 0)
  have h2 := h1.set (i := 1) (by omega) (g 1)
  have h3 := h2.set (i := 2) (by omega) (g 2)
  have h4 := h3.set (i := 3) (by omega) (g 3)
  have h5 := h4.set (i := 4) (by omega) (g 4)
  have h6 := h5.set (i := 5) (by omega) (g 5)
  have h7 := h6.set (i := 6) (by omega) (g 6)
  have h8 := h7.set (i := 7) (by omega) (g 7)
  have h9 := h8.set (i := 8) (by omega) (g 8)
  have h10 := h9.set (i := 9) (by omega) (g 9)
  have h11 := h10.set (i := 10) (by omega) (g 10)
  have h12 := h11.set (i := 11) (by omega) (g 11)
  exact h12.congr (fun i hi => by rcases i with _ | _ | _ | _ | _ | _ | _ | _ | _ | _ | _ | _ | i <;> first | (exact absurd hi (by omega)) | (simp [upd]))
theorem But.sets12 {S : Nat → Prop} {w w' : World} (h : But S w w') {p : Nat} (hp : S p) (g : Nat → Int) : But S w (sets12 w' p g) :=
  ((((((((((((h.setCell (p := ⟨p, 0, none⟩) hp _).setCell (p := ⟨p, 1, none⟩) hp _).setCell (p := ⟨p, 2, none⟩) hp _).setCell (p := ⟨p, 3, none⟩) hp _).setCell (p := ⟨p, 4, none⟩) hp _).setCell (p := ⟨p, 5, none⟩) hp _).setCell (p := ⟨p, 6, none⟩) hp _).setCell (p := ⟨p, 7, none⟩) hp _).setCell (p := ⟨p, 8, none⟩) hp _).setCell (p := ⟨p, 9, none⟩) hp _).setCell (p := ⟨p, 10, none⟩) hp _).setCell (p := ⟨p, 11, none⟩) hp _)
theorem Below.sets12 {B : Nat} {w w' : World} (h : Below B w w') {p : Nat} (hp : B ≤ p) (g : Nat → Int) : Below B w (sets12 w' p g) :=
  ((((((((((((h.setCell (p := ⟨p, 0, none⟩) hp _).setCell (p := ⟨p, 1, none⟩) hp _).setCell (p := ⟨p, 2, none⟩) hp _).setCell (p := ⟨p, 3, none⟩) hp _).setCell (p := ⟨p, 4, none⟩) hp _).setCell (p := ⟨p, 5, none⟩) hp _).setCell (p := ⟨p, 6, none⟩) hp _).setCell (p := ⟨p, 7, none⟩) hp _).setCell (p := ⟨p, 8, none⟩) hp _).setCell (p := ⟨p, 9, none⟩) hp _).setCell (p := ⟨p, 10, none⟩) hp _).setCell (p := ⟨p, 11, none⟩) hp _)

theorem LBox.splice2 {w : World} {p : Nat} {f : Nat → Int} {zs : List Int} (h : w.heap[p]? = some (.cells (splice [.int .i64 (f 0), .int .i64 (f 1), .int .i64 (f 2), .int .i64 (f 3), .int .i64 (f 4), .int .i64 (f 5), .int .i64 (f 6), .int .i64 (f 7), .int .i64 (f 8), .int .i64 (f 9), .int .i64 (f 10), .int .i64 (f 11)] 2 (zs.map (Value.int .i64))).toArray 47 (0, 0))) (hl : zs.length ≤ 5) :
    LBox w p (fun i => if 2 ≤ i ∧ i < 2 + zs.length then zs.getD (i - 2) 0 else f i) := by
  unfold LBox
  rw [h]
  rcases zs with _ | ⟨a, _ | ⟨b, _ | ⟨c, _ | ⟨d, _ | ⟨e, _ | ⟨x, zs⟩⟩⟩⟩⟩⟩
  all_goals first | (exfalso; simp only [List.length_cons, List.length_nil] at hl; omega) | (simp [splice])

theorem LBox.splice7 {w : World} {p : Nat} {f : Nat → Int} {zs : List Int} (h : w.heap[p]? = some (.cells (splice [.int .i64 (f 0), .int .i64 (f 1), .int .i64 (f 2), .int .i64 (f 3), .int .i64 (f 4), .int .i64 (f 5), .int .i64 (f 6), .int .i64 (f 7), .int .i64 (f 8), .int .i64 (f 9), .int .i64 (f 10), .int .i64 (f 11)] 7 (zs.map (Value.int .i64))).toArray 47 (0, 0))) (hl : zs.length ≤ 5) :
    LBox w p (fun i => if 7 ≤ i ∧ i < 7 + zs.length then zs.getD (i - 7) 0 else f i) := by
  unfold LBox
  rw [h]
  rcases zs with _ | ⟨a, _ | ⟨b, _ | ⟨c, _ | ⟨d, _ | ⟨e, _ | ⟨x, zs⟩⟩⟩⟩⟩⟩
  all_goals first | (exfalso; simp only [List.length_cons, List.length_nil] at hl; omega) | (simp [splice])

theorem mul_bd {x y : Int} (hx0 : -10000 ≤ x) (hx1 : x ≤ 10000) (hy0 : -10000 ≤ y) (hy1 : y ≤ 10000) : -100000000 ≤ x * y ∧ x * y ≤ 100000000 := by
  by_cases h : 0 ≤ x
  · have q1 := Int.mul_le_mul_of_nonneg_left hy1 h
    have q2 := Int.mul_le_mul_of_nonneg_left hy0 h
    have q3 : x * -10000 = -(x * 10000) := by rw [Int.mul_neg]
    omega
  · have q1 := Int.mul_le_mul_of_nonneg_left hy1 (show 0 ≤ -x by omega)
    have q2 := Int.mul_le_mul_of_nonneg_left hy0 (show 0 ≤ -x by omega)
    have q3 : -x * -10000 = x * 10000 := by rw [Int.neg_mul_neg]
    have q4 : -x * y = -(x * y) := by rw [Int.neg_mul]
    have q5 : -x * 10000 = -(x * 10000) := by rw [Int.neg_mul]
    omega

theorem getD_long {zs : List Int} {k : Nat} (h : zs.length ≤ k) : zs.getD k 0 = 0 := by simp [List.getD, List.getElem?_eq_none h]

theorem fl_copyl (c : Int) (sh st zs : List Int) (hl : zs.length = sh.length) (h5 : zs.length ≤ 5) (i : Nat) : (if 2 ≤ i ∧ i < 2 + zs.length then zs.getD (i - 2) 0 else fl c sh st i) = fl c zs st i := by
  unfold fl
  by_cases h0 : i = 0
  · subst h0; simp
  · by_cases h1 : i = 1
    · subst h1; simp [hl]
    · rw [if_neg h0, if_neg h1, if_neg h0, if_neg h1]
      by_cases h2 : i < 2 + zs.length
      · rw [if_pos ⟨by omega, h2⟩, if_pos (by omega)]
      · rw [if_neg (by omega)]
        by_cases h7 : i < 7
        · rw [if_pos h7, if_pos h7, getD_long (by omega), getD_long (by omega)]
        · rw [if_neg h7, if_neg h7]
theorem fl_copys (c : Int) (sh st zs : List Int) (hl : st.length ≤ zs.length) (i : Nat) : (if 7 ≤ i ∧ i < 7 + zs.length then zs.getD (i - 7) 0 else fl c sh st i) = fl c sh zs i := by
  unfold fl
  by_cases h0 : i = 0
  · subst h0; simp
  · by_cases h1 : i = 1
    · subst h1; simp
    · rw [if_neg h0, if_neg h1, if_neg h0, if_neg h1]
      by_cases h7 : i < 7
      · rw [if_neg (by omega), if_pos h7, if_pos h7]
      · rw [if_neg h7, if_neg h7]
        by_cases h2 : i < 7 + zs.length
        · rw [if_pos ⟨by omega, h2⟩]
        · rw [if_neg (by omega), getD_long (by omega), getD_long (by omega)]

end Go.Proofs.Ytadbhidpmihghaa
