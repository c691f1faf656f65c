import Derived.WalkKit
import Derived.WalkSpells
import Derived.Test.YtkgcmpmgaghdhaaDoorChecked
import Derived.Deep.QuietTactic
import Derived.BigQuiet
import Derived.Deep.Draws
import Derived.LaidEql
import Derived.Stop.Asserts
import Derived.RowKitTokens
import Derived.Shelf.Abstract
namespace Go.Proofs.YtkgcmpmgaghdhaaDoor

def runeOk (v : Int) : Bool := decide (0 ≤ v ∧ v ≤ 1114111 ∧ (v < 55296 ∨ 57343 < v))

def inCells (v : Int) : Bool := decide (0 ≤ v ∧ v ≤ 10000)

/-- The product of the numbers of a shape that are not 0, going from the front; none when it passes 10000. -/
def prodFrom : List Int → Int → Option Int
  | [], n => some n
  | x :: r, n => if x = 0 then prodFrom r n else if 10000 < n * x then none else prodFrom r (n * x)

def countOf (sh : List Int) : Int :=
  if sh.all inCells then
    match prodFrom sh 1 with
    | none => -1
    | some n => if 0 ∈ sh then 0 else n
  else -1

def dataOk (c : Bool) (v : Int) : Bool := (!c || runeOk v) && decide (-1000000000000000 ≤ v ∧ v ≤ 1000000000000000)

def arrOk (c : Bool) (sh dt : List Int) : Bool := decide (sh.length ≤ 5) && (decide (countOf sh = dt.length) && dt.all (dataOk c))

theorem prodFrom_snoc (xs : List Int) (x n : Int) : prodFrom (xs ++ [x]) n = (prodFrom xs n).bind (fun m => prodFrom [x] m) := by
  induction xs generalizing n with
  | nil => simp [prodFrom]
  | cons y r ih =>
    simp only [List.cons_append, prodFrom]
    split
    · exact ih n
    · split
      · simp
      · exact ih _

theorem prodFrom_bd (xs : List Int) (n m : Int) (hx : xs.all inCells = true) (h1 : 1 ≤ n) (h2 : n ≤ 10000) (h : prodFrom xs n = some m) : 1 ≤ m ∧ m ≤ 10000 := by
  induction xs generalizing n with
  | nil => simp [prodFrom] at h; omega
  | cons y r ih =>
    simp only [List.all_cons, Bool.and_eq_true] at hx
    have hy : 0 ≤ y ∧ y ≤ 10000 := by simpa [inCells] using hx.1
    simp only [prodFrom] at h
    split at h
    · exact ih n hx.2 h1 h2 h
    · split at h
      · simp at h
      · rename_i h0 hle
        refine ih (n * y) hx.2 ?_ (by omega) h
        have : 1 * 1 ≤ n * y := Int.mul_le_mul h1 (by omega) (by omega) (by omega)
        omega

theorem prodFrom_none_append (xs ys : List Int) (n : Int) (h : prodFrom xs n = none) : prodFrom (xs ++ ys) n = none := by
  induction xs generalizing n with
  | nil => simp [prodFrom] at h
  | cons y r ih =>
    simp only [List.cons_append, prodFrom] at h ⊢
    split at h
    · rename_i h0; rw [if_pos h0]; exact ih n h
    · rename_i h0; rw [if_neg h0]
      split at h
      · rename_i h1; rw [if_pos h1]
      · rename_i h1; rw [if_neg h1]; exact ih _ h

theorem take_snoc (xs : List Int) (k : Nat) (h : k < xs.length) : xs.take (k + 1) = xs.take k ++ [xs.getD k 0] := by
  rw [List.take_succ_eq_append_getElem h]; simp [h]

theorem all_step (xs : List Int) (p : Int → Bool) (k : Nat) (h : k < xs.length) (ha : (xs.take k).all p = true) (hp : p (xs.getD k 0) = true) : (xs.take (k + 1)).all p = true := by
  rw [take_snoc xs k h, List.all_append, ha]; simpa using hp

theorem all_not (xs : List Int) (p : Int → Bool) (k : Nat) (h : k < xs.length) (hp : p (xs.getD k 0) = false) : xs.all p = false := by
  rw [← Bool.not_eq_true, List.all_eq_true]
  intro hh
  have := hh (xs.getD k 0) (by simp [h])
  rw [hp] at this
  exact absurd this (by simp)

theorem zero_step (xs : List Int) (k : Nat) (h : k < xs.length) : decide (0 ∈ xs.take (k + 1)) = (decide (0 ∈ xs.take k) || decide (xs.getD k 0 = 0)) := by
  rw [take_snoc xs k h]
  generalize xs.take k = t
  generalize xs.getD k 0 = y
  by_cases h1 : 0 ∈ t <;> by_cases h2 : y = 0 <;> simp [h1, h2]
  exact fun e => h2 e.symm

theorem prod_step0 (xs : List Int) (k : Nat) (h : k < xs.length) (n : Int) (hp : prodFrom (xs.take k) 1 = some n) (h0 : xs.getD k 0 = 0) : prodFrom (xs.take (k + 1)) 1 = some n := by
  rw [take_snoc xs k h, prodFrom_snoc, hp, h0]; simp [prodFrom]

theorem prod_step (xs : List Int) (k : Nat) (h : k < xs.length) (n : Int) (hp : prodFrom (xs.take k) 1 = some n) (h0 : xs.getD k 0 ≠ 0) (hl : n * xs.getD k 0 ≤ 10000) : prodFrom (xs.take (k + 1)) 1 = some (n * xs.getD k 0) := by
  rw [take_snoc xs k h, prodFrom_snoc, hp]; simp only [Option.bind_some, prodFrom, if_neg h0]; rw [if_neg (by omega)]

theorem prod_none (xs : List Int) (k : Nat) (h : k < xs.length) (n : Int) (hp : prodFrom (xs.take k) 1 = some n) (h0 : xs.getD k 0 ≠ 0) (hl : 10000 < n * xs.getD k 0) : prodFrom xs 1 = none := by
  have : prodFrom (xs.take (k + 1)) 1 = none := by
    rw [take_snoc xs k h, prodFrom_snoc, hp]; simp only [Option.bind_some, prodFrom, if_neg h0]; rw [if_pos hl]
  rw [← List.take_append_drop (k + 1) xs]
  exact prodFrom_none_append _ _ _ this

theorem count_bad (sh : List Int) (h : sh.all inCells = false) : countOf sh = -1 := by simp [countOf, h]
theorem count_big (sh : List Int) (h : prodFrom sh 1 = none) : countOf sh = -1 := by unfold countOf; rw [h]; split <;> rfl
theorem count_zero (sh : List Int) (n : Int) (ha : sh.all inCells = true) (h : prodFrom sh 1 = some n) (h0 : decide (0 ∈ sh) = true) : countOf sh = 0 := by
  unfold countOf; rw [h, if_pos ha]; simp only []; rw [if_pos (of_decide_eq_true h0)]
theorem count_n (sh : List Int) (n : Int) (ha : sh.all inCells = true) (h : prodFrom sh 1 = some n) (h0 : decide (0 ∈ sh) = false) : countOf sh = n := by
  unfold countOf; rw [h, if_pos ha]; simp only []; rw [if_neg (of_decide_eq_false h0)]

theorem count_bd (sh : List Int) : -1 ≤ countOf sh ∧ countOf sh ≤ 10000 := by
  unfold countOf
  split
  · rename_i ha
    split
    · omega
    · rename_i n hn
      have := prodFrom_bd sh 1 n ha (by omega) (by omega) hn
      split <;> omega
  · omega

end Go.Proofs.YtkgcmpmgaghdhaaDoor
namespace Go.Proofs.YtkgcmpmgaghdhaaDoor

def inM (v : Int) : Bool := decide (-1000000000000000 ≤ v ∧ v ≤ 1000000000000000)

def truth (b : Bool) : Int := if b then 1 else 0
theorem truth_bd (b : Bool) : 0 ≤ truth b ∧ truth b ≤ 1 := by cases b <;> simp [truth]

def timesOf (a b : Int) : Int × Bool := if inM (a * b) = true then (a * b, true) else (0, false)
def powOf (a b : Int) : Int × Bool := if inM (a ^ b.toNat) = true then (a ^ b.toNat, true) else (0, false)
def modOf (a b : Int) : Int := if a = 0 then b else if b.tmod a ≠ 0 ∧ decide (b.tmod a < 0) ≠ decide (a < 0) then b.tmod a + a else b.tmod a
def orderOf (op a b : Int) : Int :=
  if op = 5 then (if a < b then a else b) else if op = 6 then (if a < b then b else a)
  else if op = 9 then truth (decide (a = b)) else if op = 10 then truth (decide (a ≠ b))
  else if op = 11 then truth (decide (a < b)) else if op = 13 then truth (decide (b ≤ a)) else if op = 12 then truth (decide (a ≤ b)) else truth (decide (b < a))

def limited (r : Int × Bool) : Int × Int := if r.2 = true ∧ inM r.1 = true then (r.1, 0) else (0, 7)

/-- A scalar function on two numbers: what it gives and its code. -/
def twoOf (op a b : Int) : Int × Int :=
  if op = 1 then limited (a + b, true) else if op = 2 then limited (a - b, true) else if op = 3 then limited (timesOf a b)
  else if op = 4 then (if a = 0 ∧ b = 0 then (1, 0) else if b = 0 ∨ a.tmod b ≠ 0 then (0, 3) else limited (a.tdiv b, true))
  else if op = 7 then limited (modOf a b, true)
  else if op = 8 then (if b < 0 then (0, 3) else limited (powOf a b))
  else if op = 15 ∨ op = 16 then (if (a ≠ 0 ∧ a ≠ 1) ∨ (b ≠ 0 ∧ b ≠ 1) then (0, 3) else limited (truth (decide (truth (decide (op = 15)) < a + b)), true))
  else limited (orderOf op a b, true)

theorem tdiv_lt {x y : Int} (hy : 0 < y) : (1000000000000000 : Int).tdiv y < x ↔ 1000000000000000 < x * y := by
  rw [Int.tdiv_eq_ediv_of_nonneg (by omega)]
  constructor
  · intro h
    by_cases h' : 1000000000000000 < x * y
    · exact h'
    · exact absurd (Int.le_ediv_of_mul_le hy (by omega : x * y ≤ 1000000000000000)) (by omega)
  · intro h
    by_cases h' : (1000000000000000 : Int) / y < x
    · exact h'
    · have := Int.mul_le_of_le_ediv hy (by omega : x ≤ (1000000000000000 : Int) / y)
      omega

theorem times_big {a b : Int} (h : inM (a * b) = false) : timesOf a b = (0, false) := by simp [timesOf, h]
theorem times_ok {a b : Int} (h : inM (a * b) = true) : timesOf a b = (a * b, true) := by simp [timesOf, h]
theorem inM_of {v : Int} (h1 : -1000000000000000 ≤ v) (h2 : v ≤ 1000000000000000) : inM v = true := decide_eq_true ⟨h1, h2⟩
theorem inM_not {v : Int} (h : v < -1000000000000000 ∨ 1000000000000000 < v) : inM v = false := decide_eq_false (by omega)
theorem inM_bd {v : Int} (h : inM v = true) : -1000000000000000 ≤ v ∧ v ≤ 1000000000000000 := of_decide_eq_true h

theorem abs_ge_two {a : Int} (h0 : a ≠ 0) (h1 : a ≠ 1) (hm : a ≠ -1) : 2 ≤ a.natAbs := by omega

/-- Beyond the bound a power of a number of two or more stays there. -/
theorem pow_step_big {a : Int} (ha : 2 ≤ a.natAbs) (k n : Nat) (hk : k ≤ n) (h : inM (a ^ k) = false) : inM (a ^ n) = false := by
  have hb : ∀ v : Int, inM v = false ↔ 1000000000000000 < v.natAbs := by
    intro v; simp only [inM, decide_eq_false_iff_not]; omega
  rw [hb] at h ⊢
  rw [Int.natAbs_pow] at h ⊢
  exact Nat.lt_of_lt_of_le h (Nat.pow_le_pow_right (by omega) hk)

theorem pow_bound {a : Int} (ha : 2 ≤ a.natAbs) (k : Nat) (h : inM (a ^ k) = true) : k < 50 := by
  have hb := inM_bd h
  have h1 : (a ^ k).natAbs ≤ 1000000000000000 := by omega
  rw [Int.natAbs_pow] at h1
  rcases Nat.lt_or_ge k 50 with h' | h'
  · exact h'
  · have : 2 ^ 50 ≤ a.natAbs ^ k := Nat.le_trans (Nat.pow_le_pow_right (by omega) h') (Nat.pow_le_pow_left ha k)
    have e : (2 : Nat) ^ 50 = 1125899906842624 := by decide
    omega

end Go.Proofs.YtkgcmpmgaghdhaaDoor
namespace Go.Proofs.YtkgcmpmgaghdhaaDoor

/-- An array and a code, as a function of the document answers them. -/
structure Ans where
  c : Bool
  sh : List Int
  dt : List Int
  code : Int

end Go.Proofs.YtkgcmpmgaghdhaaDoor
namespace Go.Proofs.YtkgcmpmgaghdhaaDoor

/-- The first code other than 0 among the first n; 0 if there is none. -/
def firstCode (f : Nat → Int × Int) : Nat → Int
  | 0 => 0
  | n + 1 => if firstCode f n = 0 then (f n).2 else firstCode f n

def vals (f : Nat → Int × Int) (n : Nat) : List Int := (List.range n).map fun i => (f i).1

theorem vals_len (f : Nat → Int × Int) (n : Nat) : (vals f n).length = n := by simp [vals]

theorem vals_snoc (f : Nat → Int × Int) (n : Nat) : (vals f (n + 1)).map (Value.int .i64) = (vals f n).map (Value.int .i64) ++ [.int .i64 (f n).1] := by
  simp [vals, List.range_succ]

theorem code_step {f : Nat → Int × Int} {n : Nat} (h : firstCode f n = 0) (h2 : (f n).2 = 0) : firstCode f (n + 1) = 0 := by
  simp [firstCode, h, h2]

theorem code_stays {f : Nat → Int × Int} {n m : Nat} (h : firstCode f n ≠ 0) (hm : n ≤ m) : firstCode f m = firstCode f n := by
  induction m with
  | zero => have : n = 0 := by omega
            subst this; rfl
  | succ m ih =>
    rcases Nat.lt_or_ge n (m + 1) with h' | h'
    · have := ih (by omega)
      simp only [firstCode]
      rw [this, if_neg h]
    · have : n = m + 1 := by omega
      subst this; rfl

theorem code_found {f : Nat → Int × Int} {k n : Nat} (h : firstCode f k = 0) (hk : k < n) (h2 : (f k).2 ≠ 0) : firstCode f n = (f k).2 := by
  have e : firstCode f (k + 1) = (f k).2 := by simp [firstCode, h]
  rw [code_stays (n := k + 1) (by rw [e]; exact h2) (by omega), e]

def noAns (code : Int) : Ans := ⟨false, [], [], code⟩

/-- n elements, or the first code. -/
def gatherAns (c : Bool) (sh : List Int) (f : Nat → Int × Int) (n : Nat) : Ans := if firstCode f n = 0 then ⟨c, sh, vals f n, 0⟩ else noAns (firstCode f n)

theorem gather_good {c : Bool} {sh : List Int} {f : Nat → Int × Int} {n : Nat} (h : firstCode f n = 0) : gatherAns c sh f n = ⟨c, sh, vals f n, 0⟩ := by simp [gatherAns, h]
theorem gather_bad {c : Bool} {sh : List Int} {f : Nat → Int × Int} {k n : Nat} (h : firstCode f k = 0) (hk : k < n) (h2 : (f k).2 ≠ 0) : gatherAns c sh f n = noAns (f k).2 := by
  have e := code_found h hk h2
  unfold gatherAns; rw [if_neg (by rw [e]; exact h2), e]

/-- A scalar function on elements of arrays that may be Char. -/
def elemOf (op : Int) (c : Bool) (dt : List Int) (i : Nat) (d : Bool) (dt' : List Int) (j : Nat) : Int × Int :=
  if c ≠ d then (truth (decide (op = 10)), 0) else twoOf op (dt.getD i 0) (dt'.getD j 0)

def opIn (op : Int) : Bool := decide (1 ≤ op ∧ op ≤ 16)
def opEq (op : Int) : Bool := decide (op = 9 ∨ op = 10)

def wideB (n1 n2 m1 m2 : Nat) : Bool := decide (n2 = 1) && (decide (m2 ≠ 1) || decide (n1 < m1))

def scalar2 (op : Int) (c d : Bool) (sh dt sh' dt' : List Int) : Ans :=
  if arrOk c sh dt = true ∧ arrOk d sh' dt' = true ∧ opIn op = true then
    let wide := wideB sh.length dt.length sh'.length dt'.length
    let tall := decide (dt'.length = 1) && !wide
    if (!wide && !tall) = true ∧ sh.length ≠ sh'.length then noAns 4
    else if (!wide && !tall) = true ∧ sh ≠ sh' then noAns 5
    else if (c || d) = true ∧ opEq op = false then noAns 3
    else gatherAns false (if wide then sh' else sh) (fun i => elemOf op c dt (i % dt.length) d dt' (i % dt'.length)) (countOf (if wide then sh' else sh)).toNat
  else noAns 3

end Go.Proofs.YtkgcmpmgaghdhaaDoor
namespace Go.Proofs.YtkgcmpmgaghdhaaDoor

theorem vals_set (f : Nat → Int × Int) (m k : Nat) : (vals f k ++ List.replicate (m + 1) (0 : Int)).set k (f k).1 = vals f (k + 1) ++ List.replicate m 0 := by
  have hk : (vals f k).length = k := vals_len f k
  rw [List.replicate_succ, List.set_append_right _ _ (by omega), hk, Nat.sub_self, List.set_cons_zero]
  simp [vals, List.range_succ]

theorem vals_pre_len (f : Nat → Int × Int) (n k : Nat) (h : k ≤ n) : (vals f k ++ List.replicate (n - k) (0 : Int)).length = n := by
  simp [vals_len]; omega

end Go.Proofs.YtkgcmpmgaghdhaaDoor
namespace Go.Proofs.YtkgcmpmgaghdhaaDoor
open Go.RowKit

/-- The slice (a, n, _) reads as the numbers zs. -/
structure Row (w : World) (a : Option Addr) (n : Nat) (zs : List Int) : Prop where
  len : zs.length = n
  small : n ≤ 17592186044416
  at_ : n = 0 ∨ ∃ b off, a = some ⟨b, off, none⟩ ∧ b < w.heap.size ∧ ∀ i, i < n → w.cell? ⟨b, off + i, none⟩ = some (.int .i64 (zs.getD i 0))

theorem Row.below {w w' : World} {a : Option Addr} {n : Nat} {zs : List Int} {B : Nat} (h : Row w a n zs) (hB : w.heap.size ≤ B) (hb : Below B w w') : Row w' a n zs := by
  refine ⟨h.len, h.small, ?_⟩
  rcases h.at_ with h0 | ⟨b, off, rfl, hlt, hc⟩
  · exact .inl h0
  · exact .inr ⟨b, off, rfl, Nat.lt_of_lt_of_le hlt hb.size, fun i hi => (hb.cell (p := ⟨b, off + i, none⟩) (Nat.lt_of_lt_of_le hlt hB)).trans (hc i hi)⟩

/-- Block g holds just the numbers zs. -/
def Blk (w : World) (g : Nat) (zs : List Int) : Prop := w.heap[g]? = some (.cells (zs.map (Value.int .i64)).toArray 3 (0, 0))

theorem Blk.lt {w : World} {g : Nat} {zs : List Int} (h : Blk w g zs) : g < w.heap.size := lt_of_block h

theorem Blk.cell {w : World} {g : Nat} {zs : List Int} (h : Blk w g zs) {i : Nat} (hi : i < zs.length) : w.cell? ⟨g, i, none⟩ = some (.int .i64 (zs.getD i 0)) := by
  unfold Blk at h
  simp [World.cell?, h, hi]

theorem Blk.free {w : World} {g : Nat} {zs : List Int} (h : Blk w g zs) (i : Nat) : w.frozen? ⟨g, i, none⟩ = false := frozen_of_row w g i _ _ h

theorem Blk.row {w : World} {g n : Nat} {zs : List Int} (h : Blk w g zs) (hn : zs.length = n) (hs : n ≤ 17592186044416) : Row w (some ⟨g, 0, none⟩) n zs :=
  ⟨hn, hs, .inr ⟨g, 0, rfl, h.lt, fun i hi => by simpa using h.cell (i := i) (by omega)⟩⟩

theorem Blk.below {w w' : World} {g : Nat} {zs : List Int} {B : Nat} (h : Blk w g zs) (hB : w.heap.size ≤ B) (hb : Below B w w') : Blk w' g zs := (hb.block g (Nat.lt_of_lt_of_le h.lt hB)).trans h

theorem Blk.set {w : World} {g : Nat} {zs : List Int} (h : Blk w g zs) (i : Nat) (x : Int) : Blk (w.setCell ⟨g, i, none⟩ (.int .i64 x)) g (zs.set i x) := by
  unfold Blk at h ⊢
  rw [heap_setCell_same w g i _ _ _ h]
  simp [List.map_set]

theorem Blk.of_owns {w : World} {base g n : Nat} {zs : List Int} (h : w.ownsRow base 3 1 (.slice (some ⟨g, 0, none⟩) n n) n (zs.map (Value.int .i64))) : Blk w g zs := by
  rcases h.2 with ⟨h', _⟩ | ⟨g', cap', cur, h', _, hg, _, _, hs, ht⟩
  · simp at h'
  · simp only [Value.slice.injEq, Option.some.injEq, Addr.mk.injEq, and_true, true_and] at h'
    obtain ⟨rfl, rfl⟩ := h'
    unfold Blk
    rw [hg, ← ht, List.take_of_length_le (by simp; omega)]

theorem Blk.other {w : World} {g : Nat} {zs : List Int} (h : Blk w g zs) {p : Addr} (hp : g ≠ p.block) (v : Value) : Blk (w.setCell p v) g zs := (heap_setCell_other w p g v hp).trans h
theorem Blk.drew {w : World} {g : Nat} {zs : List Int} (h : Blk w g zs) : Blk w.drew g zs := h
theorem Blk.alloc {w : World} {g : Nat} {zs : List Int} (h : Blk w g zs) (o : Obj) : Blk (w.alloc o) g zs := (Below.heap_alloc w o g h.lt).trans h

theorem bcell {W w1 : World} (hb : Below W.heap.size W w1) : (∀ b o, b < W.heap.size → w1.cell? ⟨b, o, none⟩ = W.cell? ⟨b, o, none⟩) ∧ (∀ b o, b < W.heap.size → w1.frozen? ⟨b, o, none⟩ = W.frozen? ⟨b, o, none⟩) :=
  ⟨fun b o h => hb.cell (p := ⟨b, o, none⟩) h, fun b o h => hb.frozen (p := ⟨b, o, none⟩) h⟩

theorem hide {p : Prop} (h : p) : Hid p := h
theorem unhide {p : Prop} (h : Hid p) : p := h
theorem ret_bool {a b : Bool} (h : a = b) : Ending.returned (.bool a) = .returned (.bool b) := by rw [h]
theorem ret_int {k : IntKind} {a b : Int} (h : a = b) : Ending.returned (.int k a) = .returned (.int k b) := by rw [h]
theorem ret_ib {a a' : Int} {b b' : Bool} (ha : a = a') (hb : b = b') : Ending.returned (.tuple #[.int .i64 a, .bool b]) = .returned (.tuple #[.int .i64 a', .bool b']) := by rw [ha, hb]
theorem ret_two {a b a' b' : Int} (ha : a = a') (hb : b = b') : Ending.returned (.tuple #[.int .i64 a, .int .i64 b]) = .returned (.tuple #[.int .i64 a', .int .i64 b']) := by rw [ha, hb]

end Go.Proofs.YtkgcmpmgaghdhaaDoor
namespace Go.Proofs.YtkgcmpmgaghdhaaDoor
open Go.RowKit

theorem info_int : (Tryd.prog.info? 3).map (fun i => (i.zero, i.size, i.bytes)) = some (some (.int .i64 0), 1, 8) := by kernel_rfl

theorem take_set (zs : List Int) (m k : Nat) (h : k < zs.length) : (zs.take k ++ List.replicate (m + 1) (0 : Int)).set k (zs.getD k 0) = zs.take (k + 1) ++ List.replicate m 0 := by
  have hk : (zs.take k).length = k := by simp; omega
  have hx : zs.getD k 0 = zs[k] := by simp [h]
  rw [List.replicate_succ, List.set_append_right _ _ (by omega), hk, Nat.sub_self, List.set_cons_zero, hx, List.take_succ_eq_append_getElem h, List.append_assoc]
  rfl

end Go.Proofs.YtkgcmpmgaghdhaaDoor
namespace Go.Proofs.YtkgcmpmgaghdhaaDoor
open Go.RowKit

theorem szIntS_big (a : Option Addr) (n cap : Nat) (left : Int) (w : World) (hn : n ≤ 9223372036854775807) (hl : 0 ≤ left) (hl2 : left ≤ 1048576) (h : left < n) :
    Calls Tryd.prog 11 #[.slice a n cap, .int .i64 left] w fun e w' => e = .returned (.int .i64 (-1)) ∧ w' = w := by
  go_enter Tryd.func11, Tryd.ntmps11
  go_wp2
  go_ret
  exact ⟨rfl, rfl⟩

theorem szIntS_ok (a : Option Addr) (n cap : Nat) (left : Int) (w : World) (hl2 : left ≤ 1048576) (h : n ≤ left) :
    Calls Tryd.prog 11 #[.slice a n cap, .int .i64 left] w fun e w' => e = .returned (.int .i64 (left - n)) ∧ w' = w := by
  go_enter Tryd.func11, Tryd.ntmps11
  go_wp2
  go_ret
  exact ⟨rfl, rfl⟩

set_option maxHeartbeats 400000 in
theorem toIntS_any (a : Option Addr) (n cap : Nat) (zs : List Int) (w : World) (h : Row w a n zs) :
    Calls Tryd.prog 17 #[.slice a n cap] w fun e w' => ∃ g, e = .returned (.slice (some ⟨g, 0, none⟩) n n) ∧ w.heap.size ≤ g ∧ Blk w' g zs ∧ Below w.heap.size w w' := by
  obtain ⟨hlen, hsm, hat⟩ := h
  obtain ⟨i0, hi, hz0, hz1, hz2⟩ := info_parts info_int
  go_enter Tryd.func17, Tryd.ntmps17
  go_wp2_with (at_make; refine wpList_make_full _ rfl _ _ 22 rfl w.heap.size 3 i0 (.int .i64 0) 1 Tryd.underlying22 hi hz0 hz1 _ _ _ _ n rfl rfl rfl rfl (by rw [hz2]; omega) (by unfold maxLen; omega) (Nat.le_refl _) ?_; intro w1 hown hgrow)
  have hblk : Blk w1 w.heap.size (zs.take 0 ++ List.replicate (n - 0) 0) := Blk.of_owns (n := n) (base := w.heap.size) (by simpa [toList_madeCells_one, Value.cells] using hown)
  have hbel : Below w.heap.size w w1 := (Below.refl _ _).grown hgrow (Nat.le_refl _) (by simp)
  clear hown hgrow hi hz0 hz1 hz2
  go_wp2
  go_loopw [4] (fun i wr => ∃ k : Nat, k ≤ n ∧ i = .int .i64 k ∧ Blk wr w.heap.size (zs.take k ++ List.replicate (n - k) 0) ∧ Below w.heap.size w wr) (fun i _ => n - (intOf i).toNat)
  case atStart => exact ⟨0, Nat.zero_le _, rfl, hblk, hbel⟩
  case round =>
    obtain ⟨k, hk, rfl, hb, hbl⟩ := hrel
    clear hblk hbel
    by_cases hlt : k < n
    · have hat' : ∃ b off, a = some ⟨b, off, none⟩ ∧ wr.cell? ⟨b, off + k, none⟩ = some (.int .i64 (zs.getD k 0)) := by
        rcases hat with h0 | ⟨b, off, rfl, hlt', hc⟩
        · omega
        · exact ⟨b, off, rfl, (hbl.cell (p := ⟨b, off + k, none⟩) hlt').trans (hc k hlt)⟩
      obtain ⟨b, off, rfl, hc⟩ := hat'
      clear hat
      obtain ⟨x, hx⟩ : ∃ x, x = zs.getD k 0 := ⟨_, rfl⟩
      rw [← hx] at hc
      have hc2 := hb.cell (i := k) (by simp; omega)
      have hf2 := hb.free k
      have hs := hb.set k x
      have HR : Hid (Blk (wr.setCell ⟨w.heap.size, k, none⟩ (.int .i64 x)) w.heap.size (zs.take (k + 1) ++ List.replicate (n - (k + 1)) 0)) := by
        have e : n - k = n - (k + 1) + 1 := by omega
        rw [e, hx, take_set zs _ k (by omega)] at hs
        rw [hx]
        exact hs
      clear hs hb hx
      go_wp2
      go_roundw
      case rel => exact ⟨k + 1, by omega, by go_num, HR.out, hbl.setCell (Nat.le_refl _) _⟩
      case measure => simp [intOf]; omega
    · have hkn : k = n := by omega
      subst hkn
      go_wp2
      go_ret
      exact ⟨_, rfl, Nat.le_refl _, by simpa [List.take_of_length_le (Nat.le_of_eq hlen)] using hb, hbl⟩

theorem take_step {xs ys : List Int} {n k : Nat} (hx : xs.length = n) (hy : ys.length = n) (hk : k < n) (h : xs.take k = ys.take k) (he : xs.getD k 0 = ys.getD k 0) : xs.take (k + 1) = ys.take (k + 1) := by
  have e1 : xs.getD k 0 = xs[k] := by simp [hx, hk]
  have e2 : ys.getD k 0 = ys[k] := by simp [hy, hk]
  rw [List.take_succ_eq_append_getElem (by omega), List.take_succ_eq_append_getElem (by omega), h, ← e1, ← e2, he]

set_option maxHeartbeats 400000 in
theorem eqIntS_any (a b : Option Addr) (n m ca cb : Nat) (xs ys : List Int) (w : World) (hx : Row w a n xs) (hy : Row w b m ys) :
    Calls Tryd.prog 25 #[.slice a n ca, .slice b m cb] w fun e w' => e = .returned (.bool (decide (xs = ys))) ∧ ∃ q, w' = w.drewN q := by
  obtain ⟨hxl, hxs, hxa⟩ := hx
  obtain ⟨hyl, hys, hya⟩ := hy
  by_cases hne : n = m
  · subst hne
    have hn : ((n : Int) != (n : Int)) = false := by simp
    go_enter Tryd.func25, Tryd.ntmps25
    go_wp2
    go_loopw [5] (fun i wr => ∃ k : Nat, k ≤ n ∧ i = .int .i64 k ∧ xs.take k = ys.take k ∧ ∃ q, wr = w.drewN q) (fun i _ => n - (intOf i).toNat)
    case atStart => exact ⟨0, Nat.zero_le _, rfl, rfl, 0, rfl⟩
    case round =>
      obtain ⟨k, hk, rfl, htk, q, rfl⟩ := hrel
      by_cases hlt : k < n
      · have ha : ∃ b off, a = some ⟨b, off, none⟩ ∧ w.cell? ⟨b, off + k, none⟩ = some (.int .i64 (xs.getD k 0)) := by
          rcases hxa with h0 | ⟨b, off, rfl, hlt', hc⟩
          · omega
          · exact ⟨b, off, rfl, hc k hlt⟩
        have hb : ∃ b' off, b = some ⟨b', off, none⟩ ∧ w.cell? ⟨b', off + k, none⟩ = some (.int .i64 (ys.getD k 0)) := by
          rcases hya with h0 | ⟨b, off, rfl, hlt', hc⟩
          · omega
          · exact ⟨b, off, rfl, hc k hlt⟩
        obtain ⟨b1, o1, rfl, hc1⟩ := ha
        obtain ⟨b2, o2, rfl, hc2⟩ := hb
        clear hxa hya
        obtain ⟨x, hx⟩ : ∃ x, x = xs.getD k 0 := ⟨_, rfl⟩
        obtain ⟨y, hy⟩ : ∃ y, y = ys.getD k 0 := ⟨_, rfl⟩
        rw [← hx] at hc1
        rw [← hy] at hc2
        have HX : Hid (x = xs.getD k 0) := hx
        have HY : Hid (y = ys.getD k 0) := hy
        have HT : Hid (xs.take k = ys.take k) := htk
        have HL : Hid (xs.length = n ∧ ys.length = n) := ⟨hxl, hyl⟩
        clear hx hy htk hxl hyl
        by_cases hxy : x = y
        · have hb : (x != y) = false := by simp [hxy]
          have HXY : Hid (x = y) := hxy
          clear hxy
          go_wp2
          go_quiet (fail)
          go_wp2
          go_roundw
          case rel => exact ⟨k + 1, by omega, by go_num, take_step HL.out.1 HL.out.2 hlt HT.out (HX.out.symm.trans (HXY.out.trans HY.out)), _, by first | rfl | exact World.drewN_drewN _ _ _⟩
          case measure => simp [intOf]; omega
        · have hb : (x != y) = true := by simp [hxy]
          have HN : Hid (¬ xs = ys) := fun e => hxy (by rw [HX.out, HY.out, e])
          clear hxy
          go_wp2
          go_quiet (fail)
          go_wp2
          go_ret
          exact ⟨ret_bool (decide_eq_false HN.out).symm, _, World.drewN_drewN _ _ _⟩
      · have hkn : k = n := by omega
        have HE : Hid (xs = ys) := by
          show xs = ys
          rwa [List.take_of_length_le (by omega), List.take_of_length_le (by omega)] at htk
        clear htk
        subst hkn
        go_wp2
        go_ret
        exact ⟨ret_bool (decide_eq_true HE.out).symm, _, rfl⟩
  · have hn : ((n : Int) != (m : Int)) = true := by simp; omega
    have HN : Hid (¬ xs = ys) := fun e => hne (by rw [← hxl, ← hyl, e])
    clear hne
    go_enter Tryd.func25, Tryd.ntmps25
    go_wp2
    go_ret
    exact ⟨ret_bool (decide_eq_false HN.out).symm, 0, rfl⟩

end Go.Proofs.YtkgcmpmgaghdhaaDoor
namespace Go.Proofs.YtkgcmpmgaghdhaaDoor
open Go.RowKit

theorem Row.alloc {w : World} {a : Option Addr} {n : Nat} {zs : List Int} (h : Row w a n zs) (o : Obj) : Row (w.alloc o) a n zs := h.below (Nat.le_refl _) ((Below.refl _ _).alloc (Nat.le_refl _) _)
theorem Row.drewN {w : World} {a : Option Addr} {n : Nat} {zs : List Int} (h : Row w a n zs) (q : Nat) : Row (w.drewN q) a n zs := ⟨h.len, h.small, h.at_⟩
theorem Below.drewN {B : Nat} {a w : World} (h : Below B a w) (q : Nat) : Below B a (w.drewN q) := h.trans ⟨rfl, rfl, rfl, Nat.le_refl _, fun _ _ => rfl⟩

theorem Row.get {w : World} {a : Option Addr} {n : Nat} {zs : List Int} (h : Row w a n zs) {k : Nat} (hk : k < n) : ∃ b off, a = some ⟨b, off, none⟩ ∧ b < w.heap.size ∧ w.cell? ⟨b, off + k, none⟩ = some (.int .i64 (zs.getD k 0)) := by
  rcases h.at_ with h0 | ⟨b, off, rfl, hlt, hc⟩
  · omega
  · exact ⟨b, off, rfl, hlt, hc k hk⟩

end Go.Proofs.YtkgcmpmgaghdhaaDoor

namespace Go.Proofs.YtkgcmpmgaghdhaaDoor
open Go.RowKit

set_option maxHeartbeats 400000 in
theorem szArray_big (c : Bool) (a1 a2 : Option Addr) (n1 n2 c1 c2 : Nat) (left : Int) (w : World) (h1 : n1 ≤ 9223372036854775807) (h2 : n2 ≤ 9223372036854775807) (hl : 0 ≤ left) (hl2 : left ≤ 1048576) (hA : left < n1 + n2) :
    Calls Tryd.prog 4 #[.agg #[.bool c, .slice a1 n1 c1, .slice a2 n2 c2], .int .i64 left] w fun e w' => e = .returned (.int .i64 (-1)) ∧ Below w.heap.size w w' := by
  by_cases hB : left < n1
  · go_enter Tryd.func4, Tryd.ntmps4
    go_wp2_with fail
    refine (szIntS_big _ _ _ _ _ h1 hl hl2 hB).mono ?_
    rintro e w' ⟨rfl, rfl⟩
    go_wp2
    go_ret
    exact ⟨rfl, (Below.refl _ _).alloc (Nat.le_refl _) _⟩
  · go_enter Tryd.func4, Tryd.ntmps4
    go_wp2_with fail
    refine (szIntS_ok _ _ _ _ _ hl2 (by omega)).mono ?_
    rintro e w' ⟨rfl, rfl⟩
    go_wp2_with fail
    refine (szIntS_big _ _ _ _ _ h2 (by omega) (by omega) (by omega)).mono ?_
    rintro e w' ⟨rfl, rfl⟩
    go_wp2
    go_ret
    exact ⟨rfl, (Below.refl _ _).alloc (Nat.le_refl _) _⟩

set_option maxHeartbeats 400000 in
theorem szArray_ok (c : Bool) (a1 a2 : Option Addr) (n1 n2 c1 c2 : Nat) (left : Int) (w : World) (hl2 : left ≤ 1048576) (hA : n1 + n2 ≤ left) :
    Calls Tryd.prog 4 #[.agg #[.bool c, .slice a1 n1 c1, .slice a2 n2 c2], .int .i64 left] w fun e w' => e = .returned (.int .i64 (left - n1 - n2)) ∧ Below w.heap.size w w' := by
  go_enter Tryd.func4, Tryd.ntmps4
  go_wp2_with fail
  refine (szIntS_ok _ _ _ _ _ hl2 (by omega)).mono ?_
  rintro e w' ⟨rfl, rfl⟩
  go_wp2_with fail
  refine (szIntS_ok _ _ _ _ _ (by omega) (by omega)).mono ?_
  rintro e w' ⟨rfl, rfl⟩
  go_wp2
  go_ret
  exact ⟨rfl, (Below.refl _ _).alloc (Nat.le_refl _) _⟩

set_option maxHeartbeats 400000 in
theorem toArray_any (c : Bool) (a1 a2 : Option Addr) (n1 n2 c1 c2 : Nat) (sh dt : List Int) (w : World) (h1 : Row w a1 n1 sh) (h2 : Row w a2 n2 dt) :
    Calls Tryd.prog 6 #[.agg #[.bool c, .slice a1 n1 c1, .slice a2 n2 c2]] w fun e w' => ∃ g1 g2, e = .returned (.agg #[.bool c, .slice (some ⟨g1, 0, none⟩) n1 n1, .slice (some ⟨g2, 0, none⟩) n2 n2]) ∧ w.heap.size ≤ g1 ∧ g1 < g2 ∧ Blk w' g1 sh ∧ Blk w' g2 dt ∧ Below w.heap.size w w' := by
  go_enter Tryd.func6, Tryd.ntmps6
  go_wp2_with fail
  refine (toIntS_any _ _ _ sh _ (by exact h1.below (Nat.le_refl _) (by repeat (first | exact Below.refl _ _ | refine Below.alloc ?_ (by simp <;> omega) _)))).mono ?_
  rintro e w1 ⟨g1, rfl, hg1, hb1, hbe1⟩
  obtain ⟨hc, hf⟩ := bcell hbe1
  have hz := hbe1.size
  have hbW : Below w.heap.size w w1 := Below.trans (by repeat (first | exact Below.refl _ _ | refine Below.alloc ?_ (by simp <;> omega) _)) (hbe1.mono (by simp <;> omega))
  simp at hc hf hz hg1
  have hz0 : w.heap.size < w1.heap.size := by omega
  have hz1 : w.heap.size + 1 < w1.heap.size := by omega
  have hz3 : w.heap.size + 1 + 1 < w1.heap.size := by omega
  clear hbe1
  go_wp2_with fail
  refine (toIntS_any _ _ _ dt _ (by exact h2.below (Nat.le_refl _) (hbW.setCell (by simp <;> omega) _))).mono ?_
  rintro e w2 ⟨g2, rfl, hg2, hb2, hbe2⟩
  obtain ⟨hc2, hf2⟩ := bcell hbe2
  have hz2 := hbe2.size
  have hbW2 : Below w.heap.size w w2 := (hbW.setCell (p := ⟨w.heap.size + 1 + 1, 1, none⟩) (by simp <;> omega) _).trans (hbe2.mono (by simp <;> omega))
  have hb1' : Blk w2 g1 sh := (hb1.other (p := ⟨w.heap.size + 1 + 1, 1, none⟩) (by simp; omega) _).below (Nat.le_refl _) hbe2
  simp at hc2 hf2 hz2 hg2
  clear hbe2
  go_wp2
  refine bodyPost_ret (v := .agg #[.bool c, .slice (some ⟨g1, 0, none⟩) n1 n1, .slice (some ⟨g2, 0, none⟩) n2 n2]) (by simp [results, Tryd.results6, go_sem, hc2, hc, hz1]) rfl ⟨g1, g2, rfl, by omega, ?_, ?_, ?_, ?_⟩
  · have := hb1.lt; omega
  · exact (((hb1'.other (by simp; omega) _).other (by simp; omega) _).other (by simp; omega) _).other (by simp; omega) _
  · exact (((hb2.other (by simp; omega) _).other (by simp; omega) _).other (by simp; omega) _).other (by simp; omega) _
  · exact (((hbW2.setCell (by simp <;> omega) _).setCell (by simp) _).setCell (by simp) _).setCell (by simp) _

set_option maxHeartbeats 400000 in
theorem eqArray_any (c d : Bool) (a1 a2 b1 b2 : Option Addr) (n1 n2 m1 m2 c1 c2 d1 d2 : Nat) (sh dt sh' dt' : List Int) (w : World) (h1 : Row w a1 n1 sh) (h2 : Row w a2 n2 dt) (k1 : Row w b1 m1 sh') (k2 : Row w b2 m2 dt') :
    Calls Tryd.prog 8 #[.agg #[.bool c, .slice a1 n1 c1, .slice a2 n2 c2], .agg #[.bool d, .slice b1 m1 d1, .slice b2 m2 d2]] w fun e w' => e = .returned (.bool (decide (c = d ∧ sh = sh' ∧ dt = dt'))) ∧ Below w.heap.size w w' := by
  have hW : ∀ o1 o2, Below w.heap.size w ((w.alloc o1).alloc o2) := fun o1 o2 => ((Below.refl _ _).alloc (Nat.le_refl _) _).alloc (by simp) _
  by_cases hcd : c = d
  · subst hcd
    have hb : (c == c) = true := by simp
    by_cases hs : sh = sh'
    · have HS := hs
      have hd1 : decide (sh = sh') = true := by simp [hs]
      clear hs
      by_cases ht : dt = dt'
      · have hd2 : decide (dt = dt') = true := by simp [ht]
        have HE : Hid (decide (c = c ∧ sh = sh' ∧ dt = dt') = true) := decide_eq_true ⟨rfl, HS, ht⟩
        clear ht HS
        go_enter Tryd.func8, Tryd.ntmps8
        go_wp2_with fail
        refine (eqIntS_any _ _ _ _ _ _ sh sh' _ ((h1.alloc _).alloc _) ((k1.alloc _).alloc _)).mono ?_
        rintro e w1 ⟨rfl, q, rfl⟩
        rw [hd1]
        go_wp2_with fail
        refine (eqIntS_any _ _ _ _ _ _ dt dt' _ (((h2.alloc _).alloc _).drewN _) (((k2.alloc _).alloc _).drewN _)).mono ?_
        rintro e w1 ⟨rfl, q, rfl⟩
        rw [hd2]
        go_wp2
        go_ret
        exact ⟨ret_bool HE.out.symm, Below.drewN (hW _ _) _⟩
      · have hd2 : decide (dt = dt') = false := by simp [ht]
        have HE : Hid (decide (c = c ∧ sh = sh' ∧ dt = dt') = false) := decide_eq_false (fun h => ht h.2.2)
        clear ht HS
        go_enter Tryd.func8, Tryd.ntmps8
        go_wp2_with fail
        refine (eqIntS_any _ _ _ _ _ _ sh sh' _ ((h1.alloc _).alloc _) ((k1.alloc _).alloc _)).mono ?_
        rintro e w1 ⟨rfl, q, rfl⟩
        rw [hd1]
        go_wp2_with fail
        refine (eqIntS_any _ _ _ _ _ _ dt dt' _ (((h2.alloc _).alloc _).drewN _) (((k2.alloc _).alloc _).drewN _)).mono ?_
        rintro e w1 ⟨rfl, q, rfl⟩
        rw [hd2]
        go_wp2
        go_ret
        exact ⟨ret_bool HE.out.symm, Below.drewN (hW _ _) _⟩
    · have hd1 : decide (sh = sh') = false := by simp [hs]
      have HE : Hid (decide (c = c ∧ sh = sh' ∧ dt = dt') = false) := decide_eq_false (fun h => hs h.2.1)
      clear hs
      go_enter Tryd.func8, Tryd.ntmps8
      go_wp2_with fail
      refine (eqIntS_any _ _ _ _ _ _ sh sh' _ ((h1.alloc _).alloc _) ((k1.alloc _).alloc _)).mono ?_
      rintro e w1 ⟨rfl, q, rfl⟩
      rw [hd1]
      go_wp2
      go_ret
      exact ⟨ret_bool HE.out.symm, Below.drewN (hW _ _) _⟩
  · have hb : (c == d) = false := by simp [hcd]
    have HE : Hid (decide (c = d ∧ sh = sh' ∧ dt = dt') = false) := decide_eq_false (fun h => hcd h.1)
    clear hcd
    go_enter Tryd.func8, Tryd.ntmps8
    go_wp2
    go_ret
    exact ⟨ret_bool HE.out.symm, hW _ _⟩

end Go.Proofs.YtkgcmpmgaghdhaaDoor
namespace Go.Proofs.YtkgcmpmgaghdhaaDoor
open Go.RowKit

/-- The sentinel errTooGreat lies as its initialiser lays it (a road that does not come to errNoResult). -/
structure Gl (w : World) (a b : Addr) : Prop where
  big : w.cell? ⟨0, 0, none⟩ = some (.iface 83 (.pointer (some b)))

theorem Gl.below {w w' : World} {a b : Addr} (h : Gl w a b) (hb : Below w.heap.size w w') : Gl w' a b :=
  ⟨(hb.cell (p := ⟨0, 0, none⟩) (World.block_lt_of_cell? _ _ h.big)).trans h.big⟩

theorem Gl.alloc {w : World} {a b : Addr} (h : Gl w a b) (o : Obj) : Gl (w.alloc o) a b := h.below ((Below.refl _ _).alloc (Nat.le_refl _) _)
theorem Gl.drewN {w : World} {a b : Addr} (h : Gl w a b) (q : Nat) : Gl (w.drewN q) a b := h.below (Below.drewN (Below.refl _ _) _)

/-- What an element's function gives for a code: nil, errTooGreat or errNoResult. -/
def errV (a b : Addr) (code : Int) : Value := if code = 0 then .nilIface else if code = 7 then .iface 83 (.pointer (some b)) else .iface 83 (.pointer (some a))

theorem errV_0 (a b : Addr) : errV a b 0 = .nilIface := rfl
theorem errV_7 (a b : Addr) : errV a b 7 = .iface 83 (.pointer (some b)) := rfl
theorem errV_3 (a b : Addr) : errV a b 3 = .iface 83 (.pointer (some a)) := rfl

/-- The codes that elements can have. -/
def codeIn (code : Int) : Prop := code = 0 ∨ code = 7 ∨ code = 7

end Go.Proofs.YtkgcmpmgaghdhaaDoor
namespace Go.Proofs.YtkgcmpmgaghdhaaDoor
open Go.RowKit Go.Extern.Stop Go.Stop Go.Extern

theorem is_typeOf (v : Value) (w : World) : (Extern.ReflectliteType.typeOf #[.iface 83 v]).run Tryd.prog w = .ok (.iface 73 (.agg #[.pointer (some ⟨1, 83, none⟩)])) w := by kernel_rfl
/-- The model's entry for (rtype).Comparable, under a name of its own. -/
def cmpEntry : Array Value → Sem Value := Extern.ReflectliteType.method fun t => do Extern.Rtype.noPackHeld "Comparable" t; pure (.bool (← typeInfo t).comparable)
theorem is_comparable (w : World) : (cmpEntry #[.agg #[.pointer (some ⟨1, 83, none⟩)]]).run Tryd.prog w = .ok (.bool true) w := by kernel_rfl
theorem is_methodComparable (v : Value) (w : World) : (Go.method 221 73 v "Comparable").run Tryd.prog w = .ok (68, v) w := by kernel_rfl
theorem is_comp : (Tryd.prog.info? 83).map (·.comparable) = some true := by kernel_rfl
theorem is_size : (Tryd.prog.info? 109).map (·.size) = some 1 := by kernel_rfl

/-- errors.Is(x, x), x a pointer to an errors.errorString. -/
theorem is_same (a : Addr) (w : World) :
    Calls Tryd.prog 42 #[.iface 83 (.pointer (some a)), .iface 83 (.pointer (some a))] w fun e w' => e = .returned (.bool true) ∧ w' = w := by
  obtain ⟨i, hi, hcmp⟩ := Option.map_eq_some_iff.1 is_comp
  obtain ⟨j, hj, hjs⟩ := Option.map_eq_some_iff.1 is_size
  have h8 := @run_callFunc_extern Tryd.prog 47 _ Extern.ReflectliteType.typeOf Tryd.func47 (by kernel_rfl) (by kernel_rfl) (by kernel_rfl) (by kernel_rfl)
  have h32 := @run_callFunc_extern Tryd.prog 68 _ cmpEntry Tryd.func68 (by kernel_rfl) (by kernel_rfl) (by kernel_rfl) (by kernel_rfl)
  have tT := is_typeOf
  have cT := is_comparable
  have mR := is_methodComparable
  have heq := run_eql_iface_ptr_same (P := Tryd.prog) w a Tryd.underlying47 Tryd.underlying83 hi hcmp hj
  go_enter Tryd.func42, Tryd.ntmps42
  go_wp2
  refine wp_loop_rounds 1 ?_
  rw [rounds_succ]
  go_wp2
  go_ret
  exact ⟨rfl, rfl⟩

set_option maxHeartbeats 400000 in
theorem codeOf_big (a b : Addr) (w : World) (hG : Gl w a b) : Calls Tryd.prog 34 #[errV a b 7] w fun e w' => e = .returned (.int .i64 7) ∧ w' = w := by
  have hc := hG.big
  rw [errV_7]
  go_enter Tryd.func34, Tryd.ntmps34
  go_wp2_with (go_at_call 42; refine (is_same b _).mono ?_; rintro e w' ⟨rfl, rfl⟩)
  go_ret
  exact ⟨rfl, rfl⟩

theorem codeOf_any (a b : Addr) (code : Int) (w : World) (hG : Gl w a b) (hc : codeIn code) (h0 : code ≠ 0) : Calls Tryd.prog 34 #[errV a b code] w fun e w' => e = .returned (.int .i64 code) ∧ w' = w := by
  rcases hc with h | rfl | rfl
  · exact absurd h h0
  · exact codeOf_big a b w hG
  · exact codeOf_big a b w hG

end Go.Proofs.YtkgcmpmgaghdhaaDoor
namespace Go.Proofs.YtkgcmpmgaghdhaaDoor
open Go.RowKit

/-- The slice (a, n, _) reads as the numbers zs, lies in a block from B on, and may be written. -/
structure Own (w : World) (B : Nat) (a : Option Addr) (n : Nat) (zs : List Int) : Prop where
  len : zs.length = n
  small : n ≤ 17592186044416
  at_ : n = 0 ∨ ∃ g off, a = some ⟨g, off, none⟩ ∧ B ≤ g ∧ g < w.heap.size ∧ (∀ i, i < n → w.cell? ⟨g, off + i, none⟩ = some (.int .i64 (zs.getD i 0))) ∧ (∀ i, i < n → w.frozen? ⟨g, off + i, none⟩ = false)

theorem Own.row {w : World} {B : Nat} {a : Option Addr} {n : Nat} {zs : List Int} (h : Own w B a n zs) : Row w a n zs := by
  refine ⟨h.len, h.small, ?_⟩
  rcases h.at_ with h0 | ⟨g, off, rfl, _, hlt, hc, _⟩
  · exact .inl h0
  · exact .inr ⟨g, off, rfl, hlt, hc⟩

theorem Own.mono {w : World} {B B' : Nat} {a : Option Addr} {n : Nat} {zs : List Int} (h : Own w B a n zs) (hB : B' ≤ B) : Own w B' a n zs := by
  refine ⟨h.len, h.small, ?_⟩
  rcases h.at_ with h0 | ⟨g, off, rfl, hg, r⟩
  · exact .inl h0
  · exact .inr ⟨g, off, rfl, by omega, r⟩

theorem Own.below {w w' : World} {a : Option Addr} {n : Nat} {zs : List Int} {B C : Nat} (h : Own w C a n zs) (hB : w.heap.size ≤ B) (hb : Below B w w') : Own w' C a n zs := by
  refine ⟨h.len, h.small, ?_⟩
  rcases h.at_ with h0 | ⟨g, off, rfl, hg, hlt, hc, hf⟩
  · exact .inl h0
  · exact .inr ⟨g, off, rfl, hg, Nat.lt_of_lt_of_le hlt hb.size, fun i hi => (hb.cell (p := ⟨g, off + i, none⟩) (Nat.lt_of_lt_of_le hlt hB)).trans (hc i hi), fun i hi => (hb.frozen (p := ⟨g, off + i, none⟩) (Nat.lt_of_lt_of_le hlt hB)).trans (hf i hi)⟩

theorem Blk.own {w : World} {B g n : Nat} {zs : List Int} (h : Blk w g zs) (hn : zs.length = n) (hs : n ≤ 17592186044416) (hg : B ≤ g) : Own w B (some ⟨g, 0, none⟩) n zs :=
  ⟨hn, hs, .inr ⟨g, 0, rfl, hg, h.lt, fun i hi => by simpa using h.cell (i := i) (by omega), fun i hi => h.free _⟩⟩

/-- Block k holds cells of the slice (a, n, _). -/
def At (a : Option Addr) (n k : Nat) : Prop := n ≠ 0 ∧ ∃ p, a = some p ∧ p.block = k

theorem at_self {g off n : Nat} (h : n ≠ 0) : At (some ⟨g, off, none⟩) n g := ⟨h, _, rfl, rfl⟩
theorem at_eq {g off n k : Nat} (h : At (some ⟨g, off, none⟩) n k) : g = k := by obtain ⟨_, p, hp, hk⟩ := h; cases hp; exact hk

/-- w' is w but for the blocks in S, and for new ones. -/
structure But (S : Nat → Prop) (w w' : World) : Prop where
  os : w'.os = w.os
  tape : w'.tape = w.tape
  output : w'.output = w.output
  size : w.heap.size ≤ w'.heap.size
  block : ∀ k, k < w.heap.size → ¬ S k → w'.heap[k]? = w.heap[k]?

theorem But.refl (S : Nat → Prop) (w : World) : But S w w := ⟨rfl, rfl, rfl, Nat.le_refl _, fun _ _ _ => rfl⟩

theorem But.trans {S T : Nat → Prop} {w w1 w2 : World} (h : But S w w1) (k : But T w1 w2) : But (fun x => S x ∨ T x) w w2 :=
  ⟨k.os.trans h.os, k.tape.trans h.tape, k.output.trans h.output, Nat.le_trans h.size k.size, fun i hi hn => (k.block i (Nat.lt_of_lt_of_le hi h.size) (fun e => hn (.inr e))).trans (h.block i hi (fun e => hn (.inl e)))⟩

theorem But.mono {S T : Nat → Prop} {w w1 : World} (h : But S w w1) (hs : ∀ k, S k → T k) : But T w w1 := ⟨h.os, h.tape, h.output, h.size, fun k hk hn => h.block k hk (fun e => hn (hs k e))⟩

theorem But.of_below {S : Nat → Prop} {w w' : World} (h : Below w.heap.size w w') : But S w w' := ⟨h.os, h.tape, h.output, h.size, fun k hk _ => h.block k hk⟩

theorem But.setCell {S : Nat → Prop} {w w' : World} (h : But S w w') {p : Addr} (hp : S p.block) (v : Value) : But S w (w'.setCell p v) :=
  ⟨h.os, h.tape, h.output, by simpa using h.size, fun k hk hn => by
    rw [heap_setCell_other w' p k v (fun e => hn (by rw [e]; exact hp))]
    exact h.block k hk hn⟩

theorem But.alloc {S : Nat → Prop} {w w' : World} (h : But S w w') (o : Obj) : But S w (w'.alloc o) :=
  ⟨h.os, h.tape, h.output, by have := h.size; simp; omega, fun k hk hn => (Below.heap_alloc w' o k (Nat.lt_of_lt_of_le hk h.size)).trans (h.block k hk hn)⟩

theorem But.below {S : Nat → Prop} {B : Nat} {w w' : World} (h : But S w w') (hB : B ≤ w.heap.size) (hs : ∀ k, S k → B ≤ k) : Below B w w' :=
  ⟨h.os, h.tape, h.output, h.size, fun k hk => h.block k (Nat.lt_of_lt_of_le hk hB) (fun e => by have := hs k e; omega)⟩

/-- Two slices with cells lie in different blocks. -/
def Apart (a : Option Addr) (n : Nat) (b : Option Addr) (m : Nat) : Prop := ∀ k, At a n k → ¬ At b m k

theorem Apart.symm {a b : Option Addr} {n m : Nat} (h : Apart a n b m) : Apart b m a n := fun k h1 h2 => h k h2 h1

theorem But.own {S : Nat → Prop} {b : Option Addr} {m B : Nat} {w w' : World} {ys : List Int} (h : But S w w') (ho : Own w B b m ys) (hap : ∀ k, S k → ¬ At b m k) : Own w' B b m ys := by
  refine ⟨ho.len, ho.small, ?_⟩
  rcases ho.at_ with h0 | ⟨g, off, rfl, hg, hlt, hc, hf⟩
  · exact .inl h0
  · by_cases hm : m = 0
    · exact .inl hm
    have hb := h.block g hlt (fun e => hap g e ⟨hm, _, rfl, rfl⟩)
    exact .inr ⟨g, off, rfl, hg, Nat.lt_of_lt_of_le hlt h.size, fun i hi => (World.cell?_of_block (w := w) (a := ⟨g, off + i, none⟩) hb).trans (hc i hi), fun i hi => (World.frozen?_of_block (w := w) (a := ⟨g, off + i, none⟩) hb).trans (hf i hi)⟩

theorem But.row {S : Nat → Prop} {b : Option Addr} {m : Nat} {w w' : World} {ys : List Int} (h : But S w w') (ho : Row w b m ys) (hap : ∀ k, S k → ¬ At b m k) : Row w' b m ys := by
  refine ⟨ho.len, ho.small, ?_⟩
  rcases ho.at_ with h0 | ⟨g, off, rfl, hlt, hc⟩
  · exact .inl h0
  · by_cases hm : m = 0
    · exact .inl hm
    have hb := h.block g hlt (fun e => hap g e ⟨hm, _, rfl, rfl⟩)
    exact .inr ⟨g, off, rfl, Nat.lt_of_lt_of_le hlt h.size, fun i hi => (World.cell?_of_block (w := w) (a := ⟨g, off + i, none⟩) hb).trans (hc i hi)⟩

theorem Own.low {w : World} {B : Nat} {a : Option Addr} {n : Nat} {zs : List Int} (h : Own w B a n zs) {k : Nat} (hk : At a n k) : B ≤ k := by
  rcases h.at_ with h0 | ⟨g, off, rfl, hg, _⟩
  · exact absurd h0 hk.1
  · have := at_eq hk; omega

theorem Row.hi {w : World} {a : Option Addr} {n : Nat} {zs : List Int} (h : Row w a n zs) {k : Nat} (hk : At a n k) : k < w.heap.size := by
  rcases h.at_ with h0 | ⟨g, off, rfl, hg, _⟩
  · exact absurd h0 hk.1
  · have := at_eq hk; omega

/-- n marks from k on. -/
def marks (k : Int) (n : Nat) : List Int := (List.range n).map fun (i : Nat) => k + (i : Int)

theorem marks_len (k : Int) (n : Nat) : (marks k n).length = n := by simp [marks]
theorem marks_get (k : Int) (n i : Nat) (h : i < n) : (marks k n).getD i 0 = k + i := by simp [marks, h]

end Go.Proofs.YtkgcmpmgaghdhaaDoor
namespace Go.Proofs.YtkgcmpmgaghdhaaDoor
open Go.RowKit

set_option maxHeartbeats 400000 in
theorem markIntS_any (a : Option Addr) (n cap B : Nat) (zs : List Int) (k : Int) (w : World) (h : Own w B a n zs) (hk0 : 0 ≤ k) (hk : k ≤ 4611686018427387904) :
    Calls Tryd.prog 26 #[.slice a n cap, .int .i64 k] w fun e w' => e = .returned (.int .i64 (k + n)) ∧ Own w' B a n (marks k n) ∧ But (At a n) w w' := by
  obtain ⟨hlen, hsm, hat⟩ := h
  go_enter Tryd.func26, Tryd.ntmps26
  go_wp2
  go_loopw [1, 5] (fun c i wr => ∃ j : Nat, j ≤ n ∧ i = .int .i64 j ∧ c = .int .i64 (k + j) ∧ But (At a n) w wr ∧
    (n = 0 ∨ ∃ g off, a = some ⟨g, off, none⟩ ∧ B ≤ g ∧ g < wr.heap.size ∧ (∀ i, i < j → wr.cell? ⟨g, off + i, none⟩ = some (.int .i64 (k + i))) ∧ (∀ i, i < n → (wr.cell? ⟨g, off + i, none⟩).isSome = true) ∧ (∀ i, i < n → wr.frozen? ⟨g, off + i, none⟩ = false))) (fun _ i _ => n - (intOf i).toNat)
  case atStart =>
    refine ⟨0, Nat.zero_le _, rfl, by simp, But.refl _ _, ?_⟩
    rcases hat with h0 | ⟨g, off, rfl, hg, hlt, hc, hf⟩
    · exact .inl h0
    · exact .inr ⟨g, off, rfl, hg, hlt, fun i hi => absurd hi (Nat.not_lt_zero _), fun i hi => by rw [hc i hi]; rfl, hf⟩
  case round =>
    obtain ⟨j, hj, rfl, rfl, hbut, hst⟩ := hrel
    by_cases hlt : j < n
    · rcases hst with h0 | ⟨g, off, rfl, hg, hgl, hc, hs, hf⟩
      · omega
      · clear hat
        have hs1 := hs j hlt
        have hf1 := hf j hlt
        obtain ⟨u, hu⟩ := Option.isSome_iff_exists.mp hs1
        have HB := hide hbut
        have HS := hide hs
        have HF := hide hf
        have HC := hide hc
        clear hbut hs hf hc
        go_wp2
        go_roundw
        case rel =>
          refine ⟨j + 1, by omega, by go_num, by go_num, (unhide HB).setCell (at_self (by omega)) _, .inr ⟨g, off, rfl, hg, by simpa using hgl, fun i hi => ?_, fun i hi => ?_, fun i hi => ?_⟩⟩
          · by_cases hij : i = j
            · subst hij
              exact World.cell?_setCell_same _ _ _ hu
            · rw [World.cell?_setCell_other _ _ _ _ (by simp <;> omega)]
              exact unhide HC i (by omega)
          · by_cases hij : i = j
            · subst hij
              rw [World.cell?_setCell_same _ _ _ hu]; rfl
            · rw [World.cell?_setCell_other _ _ _ _ (by simp <;> omega)]
              exact unhide HS i hi
          · simpa using unhide HF i hi
        case measure => simp [intOf]; omega
    · have hjn : j = n := by omega
      subst hjn
      have HB := hide hbut
      have HT := hide hst
      clear hbut hst hat
      go_wp2
      go_ret
      refine ⟨rfl, ⟨marks_len _ _, hsm, ?_⟩, unhide HB⟩
      rcases unhide HT with h0 | ⟨g, off, rfl, hg, hgl, hc, hs, hf⟩
      · exact .inl h0
      · exact .inr ⟨g, off, rfl, hg, hgl, fun i hi => by rw [marks_get _ _ _ hi]; exact hc i hi, hf⟩

end Go.Proofs.YtkgcmpmgaghdhaaDoor
namespace Go.Proofs.YtkgcmpmgaghdhaaDoor
open Go.RowKit

set_option maxHeartbeats 400000 in
theorem heldIntS_marks (a : Option Addr) (n cap : Nat) (k : Int) (w : World) (h : Row w a n (marks k n)) (hk0 : 0 ≤ k) (hk : k ≤ 4611686018427387904) :
    Calls Tryd.prog 27 #[.slice a n cap, .int .i64 k] w fun e w' => e = .returned (.int .i64 (k + n)) ∧ w' = w := by
  obtain ⟨hlen, hsm, hat⟩ := h
  clear hlen
  go_enter Tryd.func27, Tryd.ntmps27
  go_wp2
  go_loop [1, 5] (fun c i => ∃ j : Nat, j ≤ n ∧ i = .int .i64 j ∧ c = .int .i64 (k + j)) (fun _ i => n - (intOf i).toNat)
  case atStart => exact ⟨0, Nat.zero_le _, rfl, by simp⟩
  case round =>
    obtain ⟨j, hj, rfl, rfl⟩ := hrel
    by_cases hlt : j < n
    · have ha : ∃ b off, a = some ⟨b, off, none⟩ ∧ w.cell? ⟨b, off + j, none⟩ = some (.int .i64 (k + j)) := by
        rcases hat with h0 | ⟨b, off, rfl, hlt', hc⟩
        · omega
        · exact ⟨b, off, rfl, by rw [← marks_get k n j hlt]; exact hc j hlt⟩
      obtain ⟨b, off, rfl, hc⟩ := ha
      clear hat
      go_wp2
      go_round
      case rel => exact ⟨j + 1, by omega, by go_num, by go_num⟩
      case measure => simp [intOf]; omega
    · have hjn : j = n := by omega
      subst hjn
      clear hat
      go_wp2
      go_ret
      exact ⟨rfl, rfl⟩

end Go.Proofs.YtkgcmpmgaghdhaaDoor
namespace Go.Proofs.YtkgcmpmgaghdhaaDoor
open Go.RowKit Go.Shelf

/-- The function value (g, lb) gives at each place below n what f says, in whatever world holds what lay in w. -/
def ElemOk (a b : Addr) (g : Nat) (lb : Array Value) (f : Nat → Int × Int) (n : Nat) (w : World) : Prop :=
  ∀ k, k < n → ∀ W, Below w.heap.size w W → Calls Tryd.prog g (#[.int .i64 (k : Nat)] ++ lb) W fun e w' => e = .returned (.tuple #[.int .i64 (f k).1, errV a b (f k).2]) ∧ Below W.heap.size W w'

theorem ElemOk.low {a b : Addr} {g : Nat} {lb : Array Value} {f : Nat → Int × Int} {n : Nat} {w w1 : World} (h : ElemOk a b g lb f n w) (hb : Below w.heap.size w w1) : ElemOk a b g lb f n w1 :=
  fun k hk W hW => h k hk W (hb.trans (hW.mono hb.size))

theorem neq_nil_nil (w : World) : (binOp .neq 47 .nilIface .nilIface).run Tryd.prog w = .ok (.bool false) w := by kernel_rfl

set_option maxHeartbeats 2000000 in
theorem listOf_any (a b : Addr) (g : Nat) (lb : Array Value) (eg : ∀ args w, (callFunc g args).run Tryd.prog w = .ok (.enter g args) w) (f : Nat → Int × Int) (n : Nat) (w : World) (hn : n ≤ 17592186044416) (hf : ∀ k, k < n → codeIn (f k).2) (hE : ElemOk a b g lb f n w) :
    Calls Tryd.prog 33 #[.int .i64 (n : Nat), .func (.func g) #[] lb] w fun e w' =>
      ((firstCode f n = 0 ∧ e = .returned (.tuple #[.slice (some ⟨w.heap.size, 0, none⟩) n n, .nilIface]) ∧ Blk w' w.heap.size (vals f n)) ∨ (firstCode f n ≠ 0 ∧ codeIn (firstCode f n) ∧ e = .returned (.tuple #[.slice none 0 0, errV a b (firstCode f n)]))) ∧ Below w.heap.size w w' := by
  have HE := hide hE
  have HF := hide hf
  clear hE hf
  obtain ⟨i0, hi, hz0, hz1, hz2⟩ := info_parts info_int
  go_enter Tryd.func33, Tryd.ntmps33
  go_wp2_with (at_make; refine wpList_make_full _ rfl _ _ 22 rfl w.heap.size 3 i0 (.int .i64 0) 1 Tryd.underlying22 hi hz0 hz1 _ _ _ _ n rfl rfl rfl rfl (by rw [hz2]; omega) (by unfold maxLen; omega) (Nat.le_refl _) ?_; intro w1 hown hgrow)
  have hblk : Blk w1 w.heap.size (vals f 0 ++ List.replicate (n - 0) 0) := Blk.of_owns (n := n) (base := w.heap.size) (by simpa [toList_madeCells_one, Value.cells, vals] using hown)
  have hbel : Below w.heap.size w w1 := (Below.refl _ _).grown hgrow (Nat.le_refl _) (by simp)
  clear hown hgrow hi hz0 hz1 hz2
  have HBK := hide hblk
  have HBL := hide hbel
  clear hblk hbel
  go_wp2
  go_loopw [7, 8, 9, 14] (fun _ _ _ i wr => ∃ k : Nat, k ≤ n ∧ i = .int .i64 k ∧ Hid (Blk wr w.heap.size (vals f k ++ List.replicate (n - k) 0)) ∧ Hid (Below w.heap.size w wr) ∧ Hid (firstCode f k = 0)) (fun _ _ _ i _ => n - (intOf i).toNat)
  case atStart => exact ⟨0, Nat.zero_le _, rfl, HBK, HBL, rfl⟩
  case round =>
    obtain ⟨k, hk, rfl, hb, hbl, hfc⟩ := hrel
    clear HBK HBL w1
    by_cases hlt : k < n
    · obtain ⟨r, hr⟩ : ∃ r, r = f k := ⟨_, rfl⟩
      obtain ⟨r1, r2⟩ := r
      have hcall := unhide HE k hlt wr (unhide hbl)
      rw [← hr] at hcall
      have hcode := unhide HF k hlt
      rw [← hr] at hcode
      have HR := hide hr
      clear hr
      by_cases h0 : r2 = 0
      · subst h0
        clear hcode
        rw [errV_0] at hcall
        have hnn := neq_nil_nil
        go_wp2_with (go_at_fn g; refine hcall.mono ?_; rintro e w2 ⟨rfl, hb2⟩; have HB := hide ((unhide hb).below (Nat.le_refl _) hb2); have HL := hide ((unhide hbl).trans (hb2.mono (unhide hbl).size)); have hc2 := (unhide HB).cell (i := k) (by simp [vals_len]; omega); have hf2 := (unhide HB).free k; clear hb2)
        have HS : Hid (Blk (w2.setCell ⟨w.heap.size, k, none⟩ (.int .i64 r1)) w.heap.size (vals f (k + 1) ++ List.replicate (n - (k + 1)) 0)) := by
          have hs := (unhide HB).set k r1
          have e : n - k = n - (k + 1) + 1 := by omega
          have e1 : r1 = (f k).1 := by rw [← unhide HR]
          rw [e] at hs
          rw [e1] at hs ⊢
          rw [vals_set] at hs
          exact hs
        go_roundw
        case rel => exact ⟨k + 1, by omega, by go_num, HS, (unhide HL).setCell (Nat.le_refl _) _, code_step (unhide hfc) (by rw [← unhide HR])⟩
        case measure => simp [intOf]; omega
      · have HC : Hid (firstCode f n = r2) := by
          show _ = _
          have e2 : (f k).2 = r2 := by rw [← unhide HR]
          rw [code_found (unhide hfc) hlt (by rw [e2]; exact h0), e2]
        have HI := hide hcode
        have HZ := hide h0
        have hrv : ∃ p, errV a b r2 = .iface 83 (.pointer (some p)) := by
          rcases hcode with h | rfl | rfl
          · exact absurd h h0
          · exact ⟨b, rfl⟩
          · exact ⟨b, rfl⟩
        obtain ⟨p, hp⟩ := hrv
        rw [hp] at hcall
        have HP := hide hp
        clear hcode h0 hp
        go_wp2_with (go_at_fn g; refine hcall.mono ?_; rintro e w2 ⟨rfl, hb2⟩; have HL := hide ((unhide hbl).trans (hb2.mono (unhide hbl).size)); clear hb2)
        go_ret2
        refine ⟨.inr ⟨by rw [unhide HC]; exact unhide HZ, by rw [unhide HC]; exact unhide HI, ?_⟩, unhide HL⟩
        rw [unhide HC, unhide HP]
        rfl
    · have hkn : k = n := by omega
      subst hkn
      go_wp2
      go_ret2
      exact ⟨.inl ⟨unhide hfc, rfl, by simpa using unhide hb⟩, unhide hbl⟩

end Go.Proofs.YtkgcmpmgaghdhaaDoor
