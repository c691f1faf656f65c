import Derived.WalkKit
import Derived.WalkSpells
import Derived.OrdersHeld
import Derived.RegionTactic
import Derived.Shelf.Sort.Plain
import Derived.Ground.NamesProg
import Derived.Test.YtgjpchnkodnieaaGreatDoorProg
namespace Go.Proofs.YtgjpchnkodnieaaGreatDoor
structure Ans where
  c : Bool
  sh : List Int
  dt : List Int
  code : Int
end Go.Proofs.YtgjpchnkodnieaaGreatDoor
namespace Go.Proofs.YtgjpchnkodnieaaGreatDoor
def runeOk (v : Int) : Bool := decide (0 ≤ v ∧ v ≤ 1114111 ∧ (v < 55296 ∨ 57343 < v))
def inCells (v : Int) : Bool := decide (0 ≤ v ∧ v ≤ 10000)
def prodFrom : List Int → Int → Option Int
  | [], n => some n
  | x :: r, n => if x = 0 then prodFrom r n else if 10000 < n * x then none else prodFrom r (n * x)
def countOf (sh : List Int) : Int :=
  if sh.all inCells then
    match prodFrom sh 1 with
    | none => -1
    | some n => if 0 ∈ sh then 0 else n
  else -1
def dataOk (c : Bool) (v : Int) : Bool := (!c || runeOk v) && decide (-1000000000000000 ≤ v ∧ v ≤ 1000000000000000)
def arrOk (c : Bool) (sh dt : List Int) : Bool := decide (sh.length ≤ 5) && (decide (countOf sh = dt.length) && dt.all (dataOk c))
theorem prodFrom_snoc (xs : List Int) (x n : Int) : prodFrom (xs ++ [x]) n = (prodFrom xs n).bind (fun m => prodFrom [x] m) := by
  induction xs generalizing n with
  | nil => simp [prodFrom]
  | cons y r ih =>
    simp only [List.cons_append, prodFrom]
    split
    · exact ih n
    · split
      · simp
      · exact ih _
theorem prodFrom_bd (xs : List Int) (n m : Int) (hx : xs.all inCells = true) (h1 : 1 ≤ n) (h2 : n ≤ 10000) (h : prodFrom xs n = some m) : 1 ≤ m ∧ m ≤ 10000 := by
  induction xs generalizing n with
  | nil => simp [prodFrom] at h; omega
  | cons y r ih =>
    simp only [List.all_cons, Bool.and_eq_true] at hx
    have hy : 0 ≤ y ∧ y ≤ 10000 := by simpa [inCells] using hx.1
    simp only [prodFrom] at h
    split at h
    · exact ih n hx.2 h1 h2 h
    · split at h
      · simp at h
      · rename_i h0 hle
        refine ih (n * y) hx.2 ?_ (by omega) h
        have : 1 * 1 ≤ n * y := Int.mul_le_mul h1 (by omega) (by omega) (by omega)
        omega
theorem prodFrom_none_append (xs ys : List Int) (n : Int) (h : prodFrom xs n = none) : prodFrom (xs ++ ys) n = none := by
  induction xs generalizing n with
  | nil => simp [prodFrom] at h
  | cons y r ih =>
    simp only [List.cons_append, prodFrom] at h ⊢
    split at h
    · rename_i h0; rw [if_pos h0]; exact ih n h
    · rename_i h0; rw [if_neg h0]
      split at h
      · rename_i h1; rw [if_pos h1]
      · rename_i h1; rw [if_neg h1]; exact ih _ h
theorem take_snoc (xs : List Int) (k : Nat) (h : k < xs.length) : xs.take (k + 1) = xs.take k ++ [xs.getD k 0] := by
  rw [List.take_succ_eq_append_getElem h]; simp [h]
theorem all_step (xs : List Int) (p : Int → Bool) (k : Nat) (h : k < xs.length) (ha : (xs.take k).all p = true) (hp : p (xs.getD k 0) = true) : (xs.take (k + 1)).all p = true := by
  rw [take_snoc xs k h, List.all_append, ha]; simpa using hp
theorem all_not (xs : List Int) (p : Int → Bool) (k : Nat) (h : k < xs.length) (hp : p (xs.getD k 0) = false) : xs.all p = false := by
  rw [← Bool.not_eq_true, List.all_eq_true]
  intro hh
  have := hh (xs.getD k 0) (by simp [h])
  rw [hp] at this
  exact absurd this (by simp)
theorem zero_step (xs : List Int) (k : Nat) (h : k < xs.length) : decide (0 ∈ xs.take (k + 1)) = (decide (0 ∈ xs.take k) || decide (xs.getD k 0 = 0)) := by
  rw [take_snoc xs k h]
  generalize xs.take k = t
  generalize xs.getD k 0 = y
  by_cases h1 : 0 ∈ t <;> by_cases h2 : y = 0 <;> simp [h1, h2]
  exact fun e => h2 e.symm
theorem prod_step0 (xs : List Int) (k : Nat) (h : k < xs.length) (n : Int) (hp : prodFrom (xs.take k) 1 = some n) (h0 : xs.getD k 0 = 0) : prodFrom (xs.take (k + 1)) 1 = some n := by
  rw [take_snoc xs k h, prodFrom_snoc, hp, h0]; simp [prodFrom]
theorem prod_step (xs : List Int) (k : Nat) (h : k < xs.length) (n : Int) (hp : prodFrom (xs.take k) 1 = some n) (h0 : xs.getD k 0 ≠ 0) (hl : n * xs.getD k 0 ≤ 10000) : prodFrom (xs.take (k + 1)) 1 = some (n * xs.getD k 0) := by
  rw [take_snoc xs k h, prodFrom_snoc, hp]; simp only [Option.bind_some, prodFrom, if_neg h0]; rw [if_neg (by omega)]
theorem prod_none (xs : List Int) (k : Nat) (h : k < xs.length) (n : Int) (hp : prodFrom (xs.take k) 1 = some n) (h0 : xs.getD k 0 ≠ 0) (hl : 10000 < n * xs.getD k 0) : prodFrom xs 1 = none := by
  have : prodFrom (xs.take (k + 1)) 1 = none := by
    rw [take_snoc xs k h, prodFrom_snoc, hp]; simp only [Option.bind_some, prodFrom, if_neg h0]; rw [if_pos hl]
  rw [← List.take_append_drop (k + 1) xs]
  exact prodFrom_none_append _ _ _ this
theorem count_bad (sh : List Int) (h : sh.all inCells = false) : countOf sh = -1 := by simp [countOf, h]
theorem count_big (sh : List Int) (h : prodFrom sh 1 = none) : countOf sh = -1 := by unfold countOf; rw [h]; split <;> rfl
theorem count_zero (sh : List Int) (n : Int) (ha : sh.all inCells = true) (h : prodFrom sh 1 = some n) (h0 : decide (0 ∈ sh) = true) : countOf sh = 0 := by
  unfold countOf; rw [h, if_pos ha]; simp only []; rw [if_pos (of_decide_eq_true h0)]
theorem count_n (sh : List Int) (n : Int) (ha : sh.all inCells = true) (h : prodFrom sh 1 = some n) (h0 : decide (0 ∈ sh) = false) : countOf sh = n := by
  unfold countOf; rw [h, if_pos ha]; simp only []; rw [if_neg (of_decide_eq_false h0)]
theorem count_bd (sh : List Int) : -1 ≤ countOf sh ∧ countOf sh ≤ 10000 := by
  unfold countOf
  split
  · rename_i ha
    split
    · omega
    · rename_i n hn
      have := prodFrom_bd sh 1 n ha (by omega) (by omega) hn
      split <;> omega
  · omega
end Go.Proofs.YtgjpchnkodnieaaGreatDoor
namespace Go.Proofs.YtgjpchnkodnieaaGreatDoor
open Go.RowKit
structure Row (w : World) (a : Option Addr) (n : Nat) (zs : List Int) : Prop where
  len : zs.length = n
  small : n ≤ 17592186044416
  at_ : n = 0 ∨ ∃ b off, a = some ⟨b, off, none⟩ ∧ b < w.heap.size ∧ ∀ i, i < n → w.cell? ⟨b, off + i, none⟩ = some (.int .i64 (zs.getD i 0))
theorem Row.below {w w' : World} {a : Option Addr} {n : Nat} {zs : List Int} {B : Nat} (h : Row w a n zs) (hB : w.heap.size ≤ B) (hb : Below B w w') : Row w' a n zs := by
  refine ⟨h.len, h.small, ?_⟩
  rcases h.at_ with h0 | ⟨b, off, rfl, hlt, hc⟩
  · exact .inl h0
  · exact .inr ⟨b, off, rfl, Nat.lt_of_lt_of_le hlt hb.size, fun i hi => (hb.cell (p := ⟨b, off + i, none⟩) (Nat.lt_of_lt_of_le hlt hB)).trans (hc i hi)⟩
def Blk (w : World) (g : Nat) (zs : List Int) : Prop := w.heap[g]? = some (.cells (zs.map (Value.int .i64)).toArray 3 (0, 0))
theorem Blk.lt {w : World} {g : Nat} {zs : List Int} (h : Blk w g zs) : g < w.heap.size := lt_of_block h
theorem Blk.cell {w : World} {g : Nat} {zs : List Int} (h : Blk w g zs) {i : Nat} (hi : i < zs.length) : w.cell? ⟨g, i, none⟩ = some (.int .i64 (zs.getD i 0)) := by
  unfold Blk at h
  simp [World.cell?, h, hi]
theorem Blk.free {w : World} {g : Nat} {zs : List Int} (h : Blk w g zs) (i : Nat) : w.frozen? ⟨g, i, none⟩ = false := frozen_of_row w g i _ _ h
theorem Blk.row {w : World} {g n : Nat} {zs : List Int} (h : Blk w g zs) (hn : zs.length = n) (hs : n ≤ 17592186044416) : Row w (some ⟨g, 0, none⟩) n zs :=
  ⟨hn, hs, .inr ⟨g, 0, rfl, h.lt, fun i hi => by simpa using h.cell (i := i) (by omega)⟩⟩
theorem Blk.below {w w' : World} {g : Nat} {zs : List Int} {B : Nat} (h : Blk w g zs) (hB : w.heap.size ≤ B) (hb : Below B w w') : Blk w' g zs := (hb.block g (Nat.lt_of_lt_of_le h.lt hB)).trans h
theorem Blk.set {w : World} {g : Nat} {zs : List Int} (h : Blk w g zs) (i : Nat) (x : Int) : Blk (w.setCell ⟨g, i, none⟩ (.int .i64 x)) g (zs.set i x) := by
  unfold Blk at h ⊢
  rw [heap_setCell_same w g i _ _ _ h]
  simp [List.map_set]
theorem Blk.of_owns {w : World} {base g n : Nat} {zs : List Int} (h : w.ownsRow base 3 1 (.slice (some ⟨g, 0, none⟩) n n) n (zs.map (Value.int .i64))) : Blk w g zs := by
  rcases h.2 with ⟨h', _⟩ | ⟨g', cap', cur, h', _, hg, _, _, hs, ht⟩
  · simp at h'
  · simp only [Value.slice.injEq, Option.some.injEq, Addr.mk.injEq, and_true, true_and] at h'
    obtain ⟨rfl, rfl⟩ := h'
    unfold Blk
    rw [hg, ← ht, List.take_of_length_le (by simp; omega)]
theorem Blk.other {w : World} {g : Nat} {zs : List Int} (h : Blk w g zs) {p : Addr} (hp : g ≠ p.block) (v : Value) : Blk (w.setCell p v) g zs := (heap_setCell_other w p g v hp).trans h
theorem Blk.drew {w : World} {g : Nat} {zs : List Int} (h : Blk w g zs) : Blk w.drew g zs := h
theorem Blk.alloc {w : World} {g : Nat} {zs : List Int} (h : Blk w g zs) (o : Obj) : Blk (w.alloc o) g zs := (Below.heap_alloc w o g h.lt).trans h
theorem hide {p : Prop} (h : p) : Hid p := h
theorem unhide {p : Prop} (h : Hid p) : p := h
theorem ret_bool {a b : Bool} (h : a = b) : Ending.returned (.bool a) = .returned (.bool b) := by rw [h]
theorem ret_int {k : IntKind} {a b : Int} (h : a = b) : Ending.returned (.int k a) = .returned (.int k b) := by rw [h]
theorem ret_two {a b a' b' : Int} (ha : a = a') (hb : b = b') : Ending.returned (.tuple #[.int .i64 a, .int .i64 b]) = .returned (.tuple #[.int .i64 a', .int .i64 b']) := by rw [ha, hb]
end Go.Proofs.YtgjpchnkodnieaaGreatDoor
namespace Go.Proofs.YtgjpchnkodnieaaGreatDoor
open Go
section
variable {P : Program} {ops : Array Oper} {Q : Exit → Act → World → Prop} {md : Region.Mode} {S : World → Prop} {st : Nat}
def wpAnyL (P : Program) (md : Region.Mode) (ops : Array Oper) (Q : Exit → Act → World → Prop) (S : World → Prop) (st : Nat) : Nat → Array Bool → Act → World → Prop
  | 0, listed, a, w => Region.ready md ops listed = [] ∧ Q .normal a w
  | fuel + 1, listed, a, w =>
    (Region.ready md ops listed = [] → Q .normal a w) ∧
    ∀ i ∈ Region.ready md ops listed, wpOp P ops Q i (fun a' w' => (i ≠ st → S w') ∧ wpAnyL P md ops Q S st fuel (listed.setIfInBounds i true) a' w') a w
theorem wpAny_of_L : ∀ (fuel : Nat) (listed : Array Bool) (a : Act) (w : World), wpAnyL P md ops Q S st fuel listed a w → wpAny P md ops Q fuel listed a w
  | 0, _, _, _, h => h
  | fuel + 1, _, _, _, h => ⟨h.1, fun i hi => wpOp_mono (fun a' w' h' => wpAny_of_L fuel _ a' w' h'.2) (h.2 i hi)⟩
def waitsFor (md : Region.Mode) (ops : Array Oper) (st i : Nat) : Bool := ((ops[st]?).map (·.after.any fun e => Region.binds md e && e.on == i)).getD false
theorem waits_not {i : Nat} {listed : Array Bool} (hw : waitsFor md ops st i = true) (hi : listed.getD i true = false) : st ∉ Region.ready md ops listed := by
  intro hst
  obtain ⟨_, o, ho, hall⟩ := mem_ready.1 hst
  unfold waitsFor at hw
  rw [ho] at hw
  simp only [Option.map_some, Option.getD_some, Array.any_eq_true'] at hw
  obtain ⟨e, he, hb⟩ := hw
  simp only [Bool.and_eq_true, beq_iff_eq] at hb
  have h1 := hall e he hb.1
  rw [hb.2] at h1
  rcases Nat.lt_or_ge i listed.size with h' | h'
  · simp [h'] at hi h1; rw [hi] at h1; cases h1
  · simp [Array.getElem?_eq_none h'] at h1
theorem wpAnyL_first {i : Nat} {oi : Oper} {v : Value} (hi : ops[i]? = some oi) (hsel : ∀ (j : Nat) (o : Oper) cs b, ops[j]? = some o → o.op ≠ .select cs b)
    (hQ : ∀ c a w, Q (.panic c) (a.put oi.dst v) w → Q (.panic c) a w) (hw : waitsFor md ops st i = true) :
    ∀ (fuel : Nat) (listed : Array Bool) (a : Act) (w : World),
      (∀ j oj, ops[j]? = some oj → j ≠ i → listed.getD j true = false → (∀ e ∈ oj.after, Region.binds md e = true → e.on ≠ i) → oi.apart ops oj = true) →
      i ∈ Region.ready md ops listed → YieldsIf P ops S oi v a → S w →
      wpAnyL P md ops Q S st fuel (listed.setIfInBounds i true) (a.put oi.dst v) w → wpAnyL P md ops Q S st (fuel + 1) listed a w := by
  intro fuel
  induction fuel with
  | zero =>
    intro listed a w _ hr hy hS H
    refine ⟨fun h => (by rw [h] at hr; cases hr), fun j hj => ?_⟩
    by_cases hji : j = i
    · subst hji; exact hy.wpOp hi hS ⟨fun _ => hS, H⟩
    · have := ready_mono hj hji
      rw [H.1] at this
      cases this
  | succ fuel ih =>
    intro listed a w hfree hr hy hS H
    refine ⟨fun h => (by rw [h] at hr; cases hr), fun j hj => ?_⟩
    by_cases hji : j = i
    · subst hji; exact hy.wpOp hi hS ⟨fun _ => hS, H⟩
    · have h1 := H.2 j (ready_mono hj hji)
      have hjst : j ≠ st := fun e => waits_not hw (mem_ready.1 hr).1 (e ▸ hj)
      obtain ⟨hjun, oj, hoj, hall⟩ := mem_ready.1 hj
      have hnot : ∀ e ∈ oj.after, Region.binds md e = true → e.on ≠ i := fun e he hb heq => by
        have h1 := hall e he hb
        have h0 := (mem_ready.1 hr).1
        rw [heq] at h1
        rcases Nat.lt_or_ge i listed.size with h' | h'
        · simp [h'] at h0 h1; rw [h0] at h1; cases h1
        · simp [Array.getElem?_eq_none h'] at h1
      have h2 := wpOp_putIf hoj (hfree j oj hoj hji hjun hnot) (fun cs b => hsel i oi cs b hi) (fun cs b => hsel j oj cs b hoj) hQ hy h1
      have hfree' : ∀ k ok, ops[k]? = some ok → k ≠ i → (listed.setIfInBounds j true).getD k true = false →
          (∀ e ∈ ok.after, Region.binds md e = true → e.on ≠ i) → oi.apart ops ok = true := fun k ok hk hki hun hno => by
        refine hfree k ok hk hki ?_ hno
        by_cases hjk : j = k
        · subst hjk; exact hjun
        · rw [getD_set_ne true hjk] at hun; exact hun
      refine wpOp_mono (fun a' w' h3 => ⟨h3.2.1, ih (listed.setIfInBounds j true) a' w' hfree' (ready_mono hr (Ne.symm hji)) h3.1 (h3.2.1 hjst) ?_⟩) h2
      rw [Array.setIfInBounds_comm _ _ hji]
      exact h3.2.2
theorem wpAnyL_take {i : Nat} {oi : Oper} {v : Value} {fuel : Nat} {listed : Array Bool} {a : Act} {w : World} (hi : ops[i]? = some oi)
    (hs : Region.noSelect ops = true) (hf : Region.free md ops listed i = true) (hr : (Region.ready md ops listed).contains i = true) (hw : waitsFor md ops st i = true)
    (hQ : ∀ c a w, Q (.panic c) (a.put oi.dst v) w → Q (.panic c) a w) (hy : YieldsIf P ops S oi v a) (hS : S w)
    (h : wpAnyL P md ops Q S st fuel (listed.setIfInBounds i true) (a.put oi.dst v) w) : wpAnyL P md ops Q S st (fuel + 1) listed a w :=
  wpAnyL_first hi (Region.noSelect_spec hs) hQ hw fuel listed a w (Region.free_spec hi hf) (by simpa using hr) hy hS h
theorem wpAnyL_put (i d : Nat) (v : Value) {oi : Oper} {fuel : Nat} {listed : Array Bool} {a : Act} {w : World} (hi : ops[i]? = some oi) (hd : oi.dst = some d)
    (hs : Region.noSelect ops = true) (hf : Region.free md ops listed i = true) (hr : (Region.ready md ops listed).contains i = true) (hw : waitsFor md ops st i = true)
    (hQ : ∀ c a (d : Nat) v w, Q (.panic c) (a.put (some d) v) w → Q (.panic c) a w) (hg : Region.wanted oi (yielded ops a.tmps) = true) (hy : ∀ w, S w → (execOp a.eval oi).run P w = .ok (.value v) w) (hS : S w)
    (h : wpAnyL P md ops Q S st fuel (listed.setIfInBounds i true) (a.put (some d) v) w) : wpAnyL P md ops Q S st (fuel + 1) listed a w :=
  wpAnyL_take hi hs hf hr hw (fun c a w h => by rw [hd] at h; exact hQ c a d v w h) (Or.inl ⟨hg, hy⟩) hS (by rw [hd]; exact h)
theorem wpAnyL_one {i : Nat} {fuel : Nat} {listed : Array Bool} {a : Act} {w : World} (hr : Region.ready md ops listed = [i])
    (h : wpOp P ops Q i (fun a' w' => (i ≠ st → S w') ∧ wpAnyL P md ops Q S st fuel (listed.setIfInBounds i true) a' w') a w) : wpAnyL P md ops Q S st (fuel + 1) listed a w :=
  ⟨fun h0 => (by rw [hr] at h0; cases h0), fun j hj => (by rw [hr] at hj; simp at hj; subst hj; exact h)⟩
theorem wpAnyL_done {listed : Array Bool} {a : Act} {w : World} (hr : Region.ready md ops listed = []) (h : Q .normal a w) : ∀ fuel, wpAnyL P md ops Q S st fuel listed a w
  | 0 => ⟨hr, h⟩
  | _ + 1 => ⟨fun _ => h, by rw [hr]; simp⟩
theorem wp_region_L {id : Nat} {a : Act} {w : World} (S : World → Prop) (st : Nat) (hm : P.follows .mixedOrders = true)
    (h : wpAnyL P .any ops Q S st ops.size (Array.replicate ops.size false) a { w with drawn := w.drawn + 1 }) : (Code.region id ops true).wp P Q a w :=
  wp_region_any hm (wpAny_of_L _ _ _ _ h)
theorem op_wp {K : Act → World → Prop} {a : Act} {w : World} {i : Nat} {o : Oper} (hi : ops[i]? = some o) (hg : Region.wanted o (yielded ops a.tmps) = true) (h : o.wp P a w K Q) : wpOp P ops Q i K a w := by
  unfold wpOp
  rw [hi]
  show if Region.wanted o (yielded ops a.tmps) = true then _ else _
  rw [if_pos hg]
  exact .inl h
theorem eval_ne {a : Act} {d e : Nat} {v : Value} (h : d ≠ e) : (a.put (some d) v).eval (.tmp e) = a.eval (.tmp e) :=
  Act.eval_put (dst := some d) (x := .tmp e) (by simp; exact fun hy => h hy.symm)
theorem eval_eq {a : Act} {d : Nat} {v : Value} (h : d < a.tmps.size) : (a.put (some d) v).eval (.tmp d) = v := by
  simp [Act.eval, Act.put, h]
theorem put_size {a : Act} {d : Nat} {v : Value} : (a.put (some d) v).tmps.size = a.tmps.size := by simp [Act.put]
end
end Go.Proofs.YtgjpchnkodnieaaGreatDoor
namespace Go.Proofs
open Go.Shelf
def Tryz.sortI_ren : Go.Shelf.Ren := ⟨fun | 189 => 225 | 125 => 274 | 257 => 273 | 128 => 321 | 129 => 322 | 294 => 312 | 295 => 313 | 296 => 314 | 297 => 315 | 298 => 316 | 299 => 317 | 216 => 318 | 300 => 319 | 301 => 320 | 328 => 328 | 329 => 329 | 330 => 330 | 331 => 331 | 332 => 332 | 215 => 311 | 343 => 335 | n => n, fun | 28 => 23 | 3 => 3 | 46 => 196 | 0 => 0 | 51 => 216 | 53 => 219 | 4 => 4 | 183 => 244 | 182 => 243 | 131 => 166 | 5 => 5 | 9 => 9 | 218 => 270 | 222 => 274 | 228 => 276 | 229 => 104 | n => n, fun | n => n⟩
theorem Tryz.sortI : Go.Proofs.Lays.n189 Tryz.prog Tryz.sortI_ren := {
  mixed := by kernel_rfl
  f125 := Tryz.func274.trans (congrArg some (by kernel_rfl))
  f128 := Tryz.func321.trans (congrArg some (by kernel_rfl))
  f129 := Tryz.func322.trans (congrArg some (by kernel_rfl))
  f189 := Tryz.func225.trans (congrArg some (by kernel_rfl))
  f215 := Tryz.func311.trans (congrArg some (by kernel_rfl))
  f216 := Tryz.func318.trans (congrArg some (by kernel_rfl))
  f257 := Tryz.func273.trans (congrArg some (by kernel_rfl))
  f294 := Tryz.func312.trans (congrArg some (by kernel_rfl))
  f295 := Tryz.func313.trans (congrArg some (by kernel_rfl))
  f296 := Tryz.func314.trans (congrArg some (by kernel_rfl))
  f297 := Tryz.func315.trans (congrArg some (by kernel_rfl))
  f298 := Tryz.func316.trans (congrArg some (by kernel_rfl))
  f299 := Tryz.func317.trans (congrArg some (by kernel_rfl))
  f300 := Tryz.func319.trans (congrArg some (by kernel_rfl))
  f301 := Tryz.func320.trans (congrArg some (by kernel_rfl))
  f328 := Tryz.func328.trans (congrArg some (by kernel_rfl))
  f329 := Tryz.func329.trans (congrArg some (by kernel_rfl))
  f330 := Tryz.func330.trans (congrArg some (by kernel_rfl))
  f331 := Tryz.func331.trans (congrArg some (by kernel_rfl))
  f332 := Tryz.func332.trans (congrArg some (by kernel_rfl))
  f343 := Tryz.func335.trans (congrArg some (by kernel_rfl))
  t0 := Tryz.underlying0
  a0 := Tryz.isAgg0
  z0 := Tryz.sizeOf0
  v0 := Tryz.zeroValue0
  t3 := Tryz.underlying3
  a3 := Tryz.isAgg3
  z3 := Tryz.sizeOf3
  v3 := Tryz.zeroValue3
  t4 := Tryz.underlying4
  a4 := Tryz.isAgg4
  z4 := Tryz.sizeOf4
  v4 := Tryz.zeroValue4
  t5 := Tryz.underlying5
  a5 := Tryz.isAgg5
  z5 := Tryz.sizeOf5
  v5 := Tryz.zeroValue5
  t9 := Tryz.underlying9
  a9 := Tryz.isAgg9
  z9 := Tryz.sizeOf9
  v9 := Tryz.zeroValue9
  t28 := Tryz.underlying23
  a28 := Tryz.isAgg23
  z28 := Tryz.sizeOf23
  v28 := Tryz.zeroValue23
  t46 := Tryz.underlying196
  a46 := Tryz.isAgg196
  z46 := Tryz.sizeOf196
  v46 := Tryz.zeroValue196
  t51 := Tryz.underlying216
  a51 := Tryz.isAgg216
  z51 := Tryz.sizeOf216
  v51 := Tryz.zeroValue216
  t53 := Tryz.underlying219
  a53 := Tryz.isAgg219
  z53 := Tryz.sizeOf219
  v53 := Tryz.zeroValue219
  t131 := Tryz.underlying166
  a131 := Tryz.isAgg166
  z131 := Tryz.sizeOf166
  v131 := Tryz.zeroValue166
  t182 := Tryz.underlying243
  a182 := Tryz.isAgg243
  z182 := Tryz.sizeOf243
  v182 := Tryz.zeroValue243
  t183 := Tryz.underlying244
  a183 := Tryz.isAgg244
  z183 := Tryz.sizeOf244
  v183 := Tryz.zeroValue244
  t218 := Tryz.underlying270
  a218 := Tryz.isAgg270
  z218 := Tryz.sizeOf270
  v218 := Tryz.zeroValue270
  t222 := Tryz.underlying274
  a222 := Tryz.isAgg274
  z222 := Tryz.sizeOf274
  v222 := Tryz.zeroValue274
  t228 := Tryz.underlying276
  a228 := Tryz.isAgg276
  z228 := Tryz.sizeOf276
  v228 := Tryz.zeroValue276
  t229 := Tryz.underlying104
  a229 := Tryz.isAgg104
  z229 := Tryz.sizeOf104
  v229 := Tryz.zeroValue104 }
end Go.Proofs
namespace Go.Proofs.YtgjpchnkodnieaaGreatDoor
def bef (K : Int → Int) (p q : Int) : Prop := K p < K q ∨ (K p = K q ∧ p < q)
def seg (D : Nat → Int) (a b : Nat) : List Int := (List.range' a (b - a)).map D
section
variable {K : Int → Int} {D E : Nat → Int} {a m b : Nat}
theorem seg_mem {x : Int} : x ∈ seg D a b ↔ ∃ i, a ≤ i ∧ i < b ∧ D i = x := by
  unfold seg
  rw [List.mem_map]
  constructor
  · rintro ⟨i, hi, e⟩
    have := List.mem_range'.1 hi
    obtain ⟨j, hj, rfl⟩ := this
    exact ⟨_, by omega, by omega, e⟩
  · rintro ⟨i, h1, h2, e⟩
    refine ⟨i, ?_, e⟩
    rw [List.mem_range']
    exact ⟨i - a, by omega, by omega⟩
theorem seg_congr (h : ∀ i, a ≤ i → i < b → D i = E i) : seg D a b = seg E a b := by
  unfold seg
  refine List.map_congr_left fun i hi => ?_
  obtain ⟨j, hj, rfl⟩ := List.mem_range'.1 hi
  exact h _ (by omega) (by omega)
def Rise (K : Int → Int) (D : Nat → Int) (a b : Nat) : Prop := ∀ i j, a ≤ i → i < j → j < b → bef K (D i) (D j)
def rot (D : Nat → Int) (a m b : Nat) : Nat → Int := fun x => if a ≤ x ∧ x < b then (if x < a + (b - m) then D (x + (m - a)) else D (x - (b - m))) else D x
theorem rot_out (x : Nat) (h : x < a ∨ b ≤ x) : rot D a m b x = D x := by unfold rot; rw [if_neg (by omega)]
theorem rot_low {x : Nat} (h1 : a ≤ x) (h2 : x < a + (b - m)) (hm : a ≤ m) (hb : m ≤ b) : rot D a m b x = D (x + (m - a)) := by unfold rot; rw [if_pos (by omega), if_pos h2]
theorem rot_high {x : Nat} (h1 : a + (b - m) ≤ x) (h2 : x < b) : rot D a m b x = D (x - (b - m)) := by unfold rot; rw [if_pos (by omega), if_neg (by omega)]
structure Merged (K : Int → Int) (D D' : Nat → Int) (a b : Nat) : Prop where
  perm : (seg D' a b).Perm (seg D a b)
  rise : Rise K D' a b
  out : ∀ i, (i < a ∨ b ≤ i) → D' i = D i
theorem perm_all {P : Int → Prop} (h : (seg E a b).Perm (seg D a b)) (hp : ∀ i, a ≤ i → i < b → P (D i)) : ∀ i, a ≤ i → i < b → P (E i) := fun i h1 h2 => by
  have : E i ∈ seg D a b := h.subset (seg_mem.2 ⟨i, h1, h2, rfl⟩)
  obtain ⟨j, h3, h4, e⟩ := seg_mem.1 this
  rw [← e]
  exact hp j h3 h4
theorem Merged.refl (h : Rise K D a b) : Merged K D D a b := ⟨List.Perm.refl _, h, fun _ _ => rfl⟩
def Low (D : Nat → Int) (a m b : Nat) : Prop := ∀ i j, a ≤ i → i < m → m ≤ j → j < b → D i < D j
structure Cut (K : Int → Int) (D : Nat → Int) (a s m e b : Nat) : Prop where
  as_ : a ≤ s
  sm : s ≤ m
  me : m ≤ e
  eb : e ≤ b
  l : Rise K D a m
  r : Rise K D m b
  low : Low D a m b
  c1 : s = a ∨ e = b ∨ K (D (s - 1)) ≤ K (D e)
  c2 : e = m ∨ s = m ∨ K (D (e - 1)) < K (D s)
theorem Cut.e1 {s e i : Nat} (_h : Cut K D a s m e b) (_h1 : a ≤ i) (h2 : i < s) : rot D s m e i = D i := rot_out _ (by omega)
theorem Cut.e3 {s e i : Nat} (_h : Cut K D a s m e b) (h1 : s + (e - m) ≤ i) (h2 : i < e) : rot D s m e i = D (i - (e - m)) := rot_high h1 h2
theorem Cut.e4 {s e i : Nat} (_h : Cut K D a s m e b) (h1 : e ≤ i) : rot D s m e i = D i := rot_out _ (by omega)
theorem Cut.e2 {s e i : Nat} (h : Cut K D a s m e b) (h1 : s ≤ i) (h2 : i < s + (e - m)) : rot D s m e i = D (i + (m - s)) := rot_low h1 h2 h.sm h.me
theorem Merged.all {P : Int → Prop} {n : Nat} (h : Merged K D E a b) (hp : ∀ i, i < n → P (D i)) (hb : b ≤ n) : ∀ i, i < n → P (E i) := fun i hi => by
  by_cases hx : a ≤ i ∧ i < b
  · exact perm_all h.perm (fun j _ h2 => hp j (by omega)) i hx.1 hx.2
  · rw [h.out i (by omega)]; exact hp i hi
end
end Go.Proofs.YtgjpchnkodnieaaGreatDoor
namespace Go.Proofs.YtgjpchnkodnieaaGreatDoor
def inM (v : Int) : Bool := decide (-1000000000000000 ≤ v ∧ v ≤ 1000000000000000)
def truth (b : Bool) : Int := if b then 1 else 0
def timesOf (a b : Int) : Int × Bool := if inM (a * b) = true then (a * b, true) else (0, false)
def powOf (a b : Int) : Int × Bool := if inM (a ^ b.toNat) = true then (a ^ b.toNat, true) else (0, false)
def modOf (a b : Int) : Int := if a = 0 then b else if b.tmod a ≠ 0 ∧ decide (b.tmod a < 0) ≠ decide (a < 0) then b.tmod a + a else b.tmod a
def orderOf (op a b : Int) : Int :=
  if op = 5 then (if a < b then a else b) else if op = 6 then (if a < b then b else a)
  else if op = 9 then truth (decide (a = b)) else if op = 10 then truth (decide (a ≠ b))
  else if op = 11 then truth (decide (a < b)) else if op = 13 then truth (decide (b ≤ a)) else if op = 12 then truth (decide (a ≤ b)) else truth (decide (b < a))
def limited (r : Int × Bool) : Int × Int := if r.2 = true ∧ inM r.1 = true then (r.1, 0) else (0, 7)
def twoOf (op a b : Int) : Int × Int :=
  if op = 1 then limited (a + b, true) else if op = 2 then limited (a - b, true) else if op = 3 then limited (timesOf a b)
  else if op = 4 then (if a = 0 ∧ b = 0 then (1, 0) else if b = 0 ∨ a.tmod b ≠ 0 then (0, 3) else limited (a.tdiv b, true))
  else if op = 7 then limited (modOf a b, true)
  else if op = 8 then (if b < 0 then (0, 3) else limited (powOf a b))
  else if op = 15 ∨ op = 16 then (if (a ≠ 0 ∧ a ≠ 1) ∨ (b ≠ 0 ∧ b ≠ 1) then (0, 3) else limited (truth (decide (truth (decide (op = 15)) < a + b)), true))
  else limited (orderOf op a b, true)
end Go.Proofs.YtgjpchnkodnieaaGreatDoor
namespace Go.Proofs.YtgjpchnkodnieaaGreatDoor
structure VAns where
  c : Int
  sh : List Int
  dt : List Int
  code : Bool
end Go.Proofs.YtgjpchnkodnieaaGreatDoor
namespace Go.Proofs.YtgjpchnkodnieaaGreatDoor
def firstCode (f : Nat → Int × Int) : Nat → Int
  | 0 => 0
  | n + 1 => if firstCode f n = 0 then (f n).2 else firstCode f n
def vals (f : Nat → Int × Int) (n : Nat) : List Int := (List.range n).map fun i => (f i).1
theorem vals_len (f : Nat → Int × Int) (n : Nat) : (vals f n).length = n := by simp [vals]
theorem vals_snoc (f : Nat → Int × Int) (n : Nat) : (vals f (n + 1)).map (Value.int .i64) = (vals f n).map (Value.int .i64) ++ [.int .i64 (f n).1] := by
  simp [vals, List.range_succ]
theorem code_step {f : Nat → Int × Int} {n : Nat} (h : firstCode f n = 0) (h2 : (f n).2 = 0) : firstCode f (n + 1) = 0 := by
  simp [firstCode, h, h2]
theorem code_stays {f : Nat → Int × Int} {n m : Nat} (h : firstCode f n ≠ 0) (hm : n ≤ m) : firstCode f m = firstCode f n := by
  induction m with
  | zero => have : n = 0 := by omega
            subst this; rfl
  | succ m ih =>
    rcases Nat.lt_or_ge n (m + 1) with h' | h'
    · have := ih (by omega)
      simp only [firstCode]
      rw [this, if_neg h]
    · have : n = m + 1 := by omega
      subst this; rfl
theorem code_found {f : Nat → Int × Int} {k n : Nat} (h : firstCode f k = 0) (hk : k < n) (h2 : (f k).2 ≠ 0) : firstCode f n = (f k).2 := by
  have e : firstCode f (k + 1) = (f k).2 := by simp [firstCode, h]
  rw [code_stays (n := k + 1) (by rw [e]; exact h2) (by omega), e]
def noAns (code : Int) : Ans := ⟨false, [], [], code⟩
def gatherAns (c : Bool) (sh : List Int) (f : Nat → Int × Int) (n : Nat) : Ans := if firstCode f n = 0 then ⟨c, sh, vals f n, 0⟩ else noAns (firstCode f n)
theorem gather_good {c : Bool} {sh : List Int} {f : Nat → Int × Int} {n : Nat} (h : firstCode f n = 0) : gatherAns c sh f n = ⟨c, sh, vals f n, 0⟩ := by simp [gatherAns, h]
end Go.Proofs.YtgjpchnkodnieaaGreatDoor
