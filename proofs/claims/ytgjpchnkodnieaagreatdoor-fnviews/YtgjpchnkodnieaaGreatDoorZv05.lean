import Derived.Test.YtgjpchnkodnieaaGreatDoorZv02
import Derived.Test.YtgjpchnkodnieaaGreatDoorZv03
import Derived.Test.YtgjpchnkodnieaaGreatDoorZv01
import Derived.Test.YtgjpchnkodnieaaGreatDoorZv00
import Derived.Deep.DeepCutAuto
import Derived.Shelf.Abstract
import Derived.BigQuiet
namespace Go.Proofs.YtgjpchnkodnieaaGreatDoor
def absI (x : Int) : Int := if x < 0 then -x else x
def takeZ (dt : List Int) : List Int := dt.map absI
def takeSt (bs dt : List Int) : List Int := (List.range dt.length).map fun i => if dt.getD i 0 < 0 then bs.getD i 0 + dt.getD i 0 else 0
def dropZ (bs dt : List Int) : List Int := (List.range dt.length).map fun i => if bs.getD i 0 - absI (dt.getD i 0) < 0 then 0 else bs.getD i 0 - absI (dt.getD i 0)
def dropSt (dt : List Int) : List Int := dt.map fun x => if 0 < x then x else 0
theorem takeZ_len (dt : List Int) : (takeZ dt).length = dt.length := by simp [takeZ]
theorem dropZ_len (bs dt : List Int) : (dropZ bs dt).length = dt.length := by simp [dropZ]
theorem dropSt_len (dt : List Int) : (dropSt dt).length = dt.length := by simp [dropSt]
theorem takeZ_get (dt : List Int) (k : Nat) (hk : k < dt.length) : (takeZ dt).getD k 0 = absI (dt.getD k 0) := by simp [takeZ, hk]
theorem takeSt_get (bs dt : List Int) (k : Nat) (hk : k < dt.length) : (takeSt bs dt).getD k 0 = if dt.getD k 0 < 0 then bs.getD k 0 + dt.getD k 0 else 0 := by simp [takeSt, hk]
theorem dropZ_get (bs dt : List Int) (k : Nat) (hk : k < dt.length) : (dropZ bs dt).getD k 0 = if bs.getD k 0 - absI (dt.getD k 0) < 0 then 0 else bs.getD k 0 - absI (dt.getD k 0) := by simp [dropZ, hk]
theorem dropSt_get (dt : List Int) (k : Nat) (hk : k < dt.length) : (dropSt dt).getD k 0 = if 0 < dt.getD k 0 then dt.getD k 0 else 0 := by simp [dropSt, hk]
def window (lim : Bool) (Z S : List Int → List Int → List Int) (c d : Bool) (sh dt sh' dt' : List Int) : Ans :=
  if arrOk c sh dt = true ∧ arrOk d sh' dt' = true then
    if countedCode c sh.length dt.length sh'.length ≠ 0 then noAns (countedCode c sh.length dt.length sh'.length)
    else
      let bs := countedSh dt.length sh'
      if lim = true ∧ shapeB (Z bs dt) = false then noAns 7
      else ⟨d, Z bs dt, vals (windowAt d bs dt' (S bs dt) (Z bs dt)) (countOf (Z bs dt)).toNat, 0⟩
  else noAns 3
def take (c d : Bool) (sh dt sh' dt' : List Int) : Ans := window true (fun _ => takeZ) takeSt c d sh dt sh' dt'
def drop (c d : Bool) (sh dt sh' dt' : List Int) : Ans := window false dropZ (fun _ => dropSt) c d sh dt sh' dt'
section
variable {lim : Bool} {Z S : List Int → List Int → List Int} {c d : Bool} {sh dt sh' dt' : List Int}
theorem window_bad1 (h : arrOk c sh dt = false) : window lim Z S c d sh dt sh' dt' = noAns 3 := by unfold window; rw [if_neg (by simp [h])]
theorem window_bad2 (h : arrOk d sh' dt' = false) : window lim Z S c d sh dt sh' dt' = noAns 3 := by unfold window; rw [if_neg (by simp [h])]
theorem window_code' (h1 : arrOk c sh dt = true) (h2 : arrOk d sh' dt' = true) (r : Int) (h : countedCode c sh.length dt.length sh'.length = r) (hr : r ≠ 0) : window lim Z S c d sh dt sh' dt' = noAns r := by
  unfold window; rw [if_pos ⟨h1, h2⟩, h, if_pos hr]
theorem window_big (h1 : arrOk c sh dt = true) (h2 : arrOk d sh' dt' = true) (h : countedCode c sh.length dt.length sh'.length = 0) (hl : lim = true) (hz : shapeB (Z (countedSh dt.length sh') dt) = false) : window lim Z S c d sh dt sh' dt' = noAns 7 := by
  unfold window; rw [if_pos ⟨h1, h2⟩, if_neg (by simp [h])]; exact if_pos ⟨hl, hz⟩
theorem window_go (h1 : arrOk c sh dt = true) (h2 : arrOk d sh' dt' = true) (h : countedCode c sh.length dt.length sh'.length = 0) (hz : lim = true → shapeB (Z (countedSh dt.length sh') dt) = true) (N : Nat) (hN : countOf (Z (countedSh dt.length sh') dt) = (N : Int)) :
    window lim Z S c d sh dt sh' dt' = ⟨d, Z (countedSh dt.length sh') dt, vals (windowAt d (countedSh dt.length sh') dt' (S (countedSh dt.length sh') dt) (Z (countedSh dt.length sh') dt)) N, 0⟩ := by
  unfold window
  rw [if_pos ⟨h1, h2⟩, if_neg (by simp [h])]
  show (if lim = true ∧ shapeB (Z (countedSh dt.length sh') dt) = false then noAns 7 else _) = _
  rw [if_neg (by rintro ⟨a, b⟩; rw [hz a] at b; cases b)]
  simp [hN]
end
theorem shape_less {xs ys : List Int} (hy : ShapeIn ys) (hl : xs.length = ys.length) (h : ∀ k, k < ys.length → 0 ≤ xs.getD k 0 ∧ xs.getD k 0 ≤ ys.getD k 0) : ShapeIn xs := by
  have key : ∀ (xs ys : List Int) (n k m : Int), ys.all inCells = true → xs.length = ys.length → (∀ i, i < ys.length → 0 ≤ xs.getD i 0 ∧ xs.getD i 0 ≤ ys.getD i 0) → 1 ≤ k → k ≤ n → prodFrom ys n = some m → xs.all inCells = true ∧ ∃ m', prodFrom xs k = some m' := by
    intro xs
    induction xs with
    | nil => intro ys n k m _ _ _ _ _ _; exact ⟨rfl, k, rfl⟩
    | cons x r ih =>
      intro ys n k m hy hl h hk hkn hp
      cases ys with
      | nil => simp at hl
      | cons y s =>
        simp only [List.all_cons, Bool.and_eq_true] at hy
        have hyb : 0 ≤ y ∧ y ≤ 10000 := by simpa [inCells] using hy.1
        have hx : 0 ≤ x ∧ x ≤ y := by simpa using h 0 (by simp)
        have hr : ∀ i, i < s.length → 0 ≤ r.getD i 0 ∧ r.getD i 0 ≤ s.getD i 0 := fun i hi => by simpa using h (i + 1) (by simpa using hi)
        have hl' : r.length = s.length := by simpa using hl
        have hxc : inCells x = true := by simp [inCells]; omega
        simp only [prodFrom] at hp
        by_cases y0 : y = 0
        · rw [if_pos y0] at hp
          have x0 : x = 0 := by omega
          obtain ⟨a, m', b⟩ := ih s n k m hy.2 hl' hr hk hkn hp
          exact ⟨by rw [List.all_cons, hxc, a]; rfl, m', by simp only [prodFrom]; rw [if_pos x0]; exact b⟩
        · rw [if_neg y0] at hp
          split at hp
          · simp at hp
          · rename_i hle
            by_cases x0 : x = 0
            · have h1 : n ≤ n * y := by have := Int.mul_le_mul_of_nonneg_left (by omega : (1 : Int) ≤ y) (by omega : 0 ≤ n); omega
              obtain ⟨a, m', b⟩ := ih s (n * y) k m hy.2 hl' hr hk (by omega) hp
              exact ⟨by rw [List.all_cons, hxc, a]; rfl, m', by simp only [prodFrom]; rw [if_pos x0]; exact b⟩
            · have h1 : k * x ≤ n * y := Int.mul_le_mul hkn hx.2 hx.1 (by omega)
              have h2 : 1 * 1 ≤ k * x := Int.mul_le_mul hk (by omega) (by omega) (by omega)
              obtain ⟨a, m', b⟩ := ih s (n * y) (k * x) m hy.2 hl' hr (by omega) h1 hp
              exact ⟨by rw [List.all_cons, hxc, a]; rfl, m', by simp only [prodFrom]; rw [if_neg x0, if_neg (by omega)]; exact b⟩
  obtain ⟨ha, m, hm⟩ := hy
  exact key xs ys 1 1 m ha hl h (by omega) (by omega) hm
theorem shapeB_of {xs : List Int} (h : ShapeIn xs) (h5 : xs.length ≤ 5) : shapeB xs = true := by
  obtain ⟨ha, m, hm⟩ := h
  exact shape_good (n := xs.length) rfl h5 m ha hm
end Go.Proofs.YtgjpchnkodnieaaGreatDoor
namespace Go.Proofs.YtgjpchnkodnieaaGreatDoor
def tailProd : List Int → Int
  | [] => 1
  | x :: r => if 0 < x then tailProd r * x else tailProd r
def wholeSt (sh : List Int) : List Int := (List.range sh.length).map fun i => tailProd (sh.drop (i + 1))
def wholeN (sh : List Int) (t : Nat) : List Int := (List.range sh.length).map fun i => if sh.length - t ≤ i then tailProd (sh.drop (i + 1)) else 0
theorem range_eq {n : Nat} {f g : Nat → Int} (h : ∀ q, q < n → f q = g q) : (List.range n).map f = (List.range n).map g := List.map_congr_left fun q hq => h q (by simpa using hq)
theorem range_set (n k : Nat) (f : Nat → Int) (x : Int) : ((List.range n).map f).set k x = (List.range n).map fun i => if i = k then x else f i := by
  apply List.ext_getElem
  · simp
  · intro i h1 h2
    simp only [List.getElem_set, List.getElem_map, List.getElem_range]
    by_cases e : k = i
    · subst e; simp
    · rw [if_neg e, if_neg (fun h => e h.symm)]
theorem wholeN_len (sh : List Int) (t : Nat) : (wholeN sh t).length = sh.length := by simp [wholeN]
theorem wholeN_zero (sh : List Int) : wholeN sh 0 = List.replicate sh.length 0 := by
  have e : List.replicate sh.length (0 : Int) = (List.range sh.length).map fun _ => 0 := by rw [List.map_const']; simp
  rw [e]
  exact range_eq fun q hq => by rw [if_neg (by omega)]
theorem wholeN_step (sh : List Int) {t : Nat} (ht : t < sh.length) : (wholeN sh t).set (sh.length - 1 - t) (tailProd (sh.drop (sh.length - t))) = wholeN sh (t + 1) := by
  unfold wholeN
  rw [range_set]
  refine range_eq fun q hq => ?_
  by_cases e : q = sh.length - 1 - t
  · rw [if_pos e, if_pos (by omega), e, show sh.length - 1 - t + 1 = sh.length - t by omega]
  · rw [if_neg e]
    by_cases h : sh.length - t ≤ q
    · rw [if_pos h, if_pos (by omega)]
    · rw [if_neg h, if_neg (by omega)]
theorem wholeN_all (sh : List Int) : wholeN sh sh.length = wholeSt sh := range_eq fun q _ => by rw [if_pos (by omega)]
theorem tailProd_step (sh : List Int) {i : Nat} (hi : i < sh.length) : tailProd (sh.drop i) = if 0 < sh.getD i 0 then tailProd (sh.drop (i + 1)) * sh.getD i 0 else tailProd (sh.drop (i + 1)) := by
  rw [List.drop_eq_getElem_cons hi, tailProd]
  simp [List.getD, hi]
theorem tailProd_pos : ∀ sh : List Int, 1 ≤ tailProd sh
  | [] => by simp [tailProd]
  | x :: r => by
    have ih := tailProd_pos r
    unfold tailProd
    split
    · rename_i h
      have := Int.mul_le_mul ih (show (1 : Int) ≤ x by omega) (by omega) (by omega)
      omega
    · exact ih
theorem tail_prodFrom : ∀ (sh : List Int) (n m : Int), 0 < n → (∀ x ∈ sh, 0 ≤ x) → prodFrom sh n = some m → m = n * tailProd sh
  | [], n, m, _, _, h => by simp [prodFrom] at h; simp [tailProd, h]
  | x :: r, n, m, hn, hx, h => by
    unfold prodFrom at h
    unfold tailProd
    by_cases h0 : x = 0
    · rw [if_pos h0] at h
      rw [if_neg (by omega)]
      exact tail_prodFrom r n m hn (fun y hy => hx y (by simp [hy])) h
    · rw [if_neg h0] at h
      have hx0 : 0 < x := by have := hx x (by simp); omega
      split at h
      · cases h
      · rw [if_pos hx0, tail_prodFrom r (n * x) m (Int.mul_pos hn hx0) (fun y hy => hx y (by simp [hy])) h, Int.mul_assoc, Int.mul_comm x]
theorem tailProd_drop (sh : List Int) (k : Nat) : tailProd (sh.drop k) ≤ tailProd sh := by
  induction k generalizing sh with
  | zero => simp
  | succ k ih =>
    cases sh with
    | nil => simp
    | cons x r =>
      refine Int.le_trans (ih r) ?_
      rw [tailProd]
      split
      · rename_i h
        have h1 := tailProd_pos r
        have := Int.mul_le_mul_of_nonneg_left (show (1 : Int) ≤ x by omega) (show 0 ≤ tailProd r by omega)
        omega
      · exact Int.le_refl _
theorem tailProd_bd {sh : List Int} (h : ShapeIn sh) (k : Nat) : 1 ≤ tailProd (sh.drop k) ∧ tailProd (sh.drop k) ≤ 10000 := by
  obtain ⟨ha, m, hm⟩ := h
  have hb := prodFrom_bd sh 1 m ha (by omega) (by omega) hm
  have e := tail_prodFrom sh 1 m (by omega) (fun x hx => by have := List.all_eq_true.1 ha x hx; simp [inCells] at this; omega) hm
  have hd := tailProd_drop sh k
  have hp := tailProd_pos (sh.drop k)
  rw [Int.one_mul] at e
  omega
end Go.Proofs.YtgjpchnkodnieaaGreatDoor
namespace Go.Proofs.YtgjpchnkodnieaaGreatDoor
structure Srt (K : Int → Int) (D E : Nat → Int) (a b : Nat) : Prop where
  perm : (seg E a b).Perm (seg D a b)
  rise : Rise K E a b
def Up (D : Nat → Int) (n : Nat) : Prop := ∀ i j, i < j → j < n → D i < D j
def Blocks (K : Int → Int) (D E : Nat → Int) (n bs lo hi : Nat) : Prop := ∀ k, lo ≤ k * bs → k * bs < hi → Srt K D E (k * bs) (min (k * bs + bs) n)
section
variable {K : Int → Int} {D E E' : Nat → Int} {a m b n bs k : Nat}
theorem Srt.low (h0 : Up D n) (h1 : Srt K D E a m) (h2 : Srt K D E m b) (hb : b ≤ n) : Low E a m b := fun i j h3 h4 h5 h6 => by
  refine perm_all (P := fun y => E i < y) h2.perm (fun t ht1 ht2 => ?_) j h5 h6
  exact perm_all (P := fun x => x < D t) h1.perm (fun u hu1 hu2 => h0 u t (by omega) (by omega)) i h3 h4
theorem Srt.none (h : b ≤ a + 1) (he : ∀ i, a ≤ i → i < b → E i = D i) : Srt K D E a b := ⟨by rw [seg_congr he], fun i j h1 h2 h3 => by omega⟩
theorem mul_near {x y : Nat} (h : x * bs < y * bs + bs) : x < y ∨ x = y := by
  have : x * bs < (y + 1) * bs := by rw [Nat.add_mul, Nat.one_mul]; exact h
  have := Nat.lt_of_mul_lt_mul_right this
  omega
theorem mul_step {x y : Nat} (h : x < y) : x * bs + bs ≤ y * bs := by
  have : (x + 1) * bs ≤ y * bs := Nat.mul_le_mul_right bs h
  rwa [Nat.add_mul, Nat.one_mul] at this
theorem Blocks.start : Blocks K D D n bs 0 0 := fun k _ h => absurd h (by omega)
theorem Blocks.rest (h1 : Blocks K D E n (2 * bs) 0 (k * (2 * bs))) (h2 : Blocks K D E n bs (k * (2 * bs)) n) (hb : 0 < bs) (hn : n ≤ k * (2 * bs) + bs) : Blocks K D E n (2 * bs) 0 n := fun x _ hx => by
  rcases mul_near (bs := 2 * bs) (x := x) (y := k) (by omega) with h3 | h3
  · have h4 := mul_step (bs := 2 * bs) h3
    exact h1 x (by omega) (by omega)
  · subst h3
    have e1 : (2 * x) * bs = x * (2 * bs) := by rw [Nat.mul_comm 2 x, Nat.mul_assoc]
    have h4 := h2 (2 * x) (by omega) (by omega)
    rw [e1, show min (x * (2 * bs) + bs) n = n by omega] at h4
    rw [show min (x * (2 * bs) + 2 * bs) n = n by omega]
    exact h4
structure St1 (K : Int → Int) (D : Nat → Int) (P : Int → Prop) (n : Nat) (E : Nat → Int) (x : Nat) : Prop where
  at_ : ∃ k, x = k * 20 ∧ Blocks K D E n 20 0 (k * 20)
  out : ∀ i, x ≤ i → E i = D i
  all : ∀ i, i < n → P (E i)
structure St2 (K : Int → Int) (D : Nat → Int) (P : Int → Prop) (n : Nat) (E : Nat → Int) (bs : Nat) : Prop where
  blk : Blocks K D E n bs 0 n
  out : ∀ i, n ≤ i → E i = D i
  all : ∀ i, i < n → P (E i)
structure St3 (K : Int → Int) (D : Nat → Int) (P : Int → Prop) (n : Nat) (E : Nat → Int) (bs x : Nat) : Prop where
  at_ : ∃ k, x = k * (2 * bs) ∧ Blocks K D E n (2 * bs) 0 (k * (2 * bs)) ∧ Blocks K D E n bs (k * (2 * bs)) n
  out : ∀ i, n ≤ i → E i = D i
  all : ∀ i, i < n → P (E i)
section
variable {P : Int → Prop} {x : Nat}
theorem St1.start (hp : ∀ i, i < n → P (D i)) : St1 K D P n D 0 := ⟨⟨0, rfl, fun k _ h => absurd h (by omega)⟩, fun _ _ => rfl, hp⟩
theorem St2.start (h : St2 K D P n E bs) : St3 K D P n E bs 0 := ⟨⟨0, by omega, fun k _ h => absurd h (by omega), by rw [Nat.zero_mul]; exact h.blk⟩, h.out, h.all⟩
theorem St3.rest (h : St3 K D P n E bs x) (hb : 0 < bs) (hx1 : n ≤ x + bs) : St2 K D P n E (2 * bs) := by
  obtain ⟨k, e, h1, h2⟩ := h.at_
  exact ⟨h1.rest h2 hb (by omega), h.out, h.all⟩
end
end
end Go.Proofs.YtgjpchnkodnieaaGreatDoor
namespace Go.Proofs.YtgjpchnkodnieaaGreatDoor
open Go.RowKit
def tab (n : Nat) (D : Nat → Int) : List Int := (List.range n).map D
theorem tab_len (n : Nat) (D : Nat → Int) : (tab n D).length = n := by simp [tab]
theorem tab_get {n : Nat} (D : Nat → Int) {i : Nat} (h : i < n) : (tab n D).getD i 0 = D i := by simp [tab, h]
structure TabS (W : World) (g n : Nat) (D : Nat → Int) (wr : World) : Prop where
  blk : Blk wr g (tab n D)
  but : But (fun x => x = g) W wr
section
variable {W wr w' : World} {g n : Nat} {D : Nat → Int}
theorem TabS.refl (h : Blk W g (tab n D)) : TabS W g n D W := ⟨h, But.refl _ _⟩
theorem TabS.cell (h : TabS W g n D wr) {i : Nat} (hi : i < n) : wr.cell? ⟨g, i, none⟩ = some (.int .i64 (D i)) := by
  have := h.blk.cell (i := i) (by rw [tab_len]; exact hi)
  rwa [tab_get D hi] at this
theorem TabS.below (h : TabS W g n D wr) (hb : Below wr.heap.size wr w') : TabS W g n D w' := ⟨h.blk.below (Nat.le_refl _) hb, (h.but.trans (T := fun _ => False) (But.of_below hb)).mono (fun _ hk => hk.elim id False.elim)⟩
theorem TabS.drew (h : TabS W g n D wr) : TabS W g n D wr.drew := h.below (Below.refl _ _).drew
end
end Go.Proofs.YtgjpchnkodnieaaGreatDoor
namespace Go.Proofs.YtgjpchnkodnieaaGreatDoor
def sortedI (zs : List Int) : List Int := zs.mergeSort fun x y => decide (x ≤ y)
theorem sortedI_perm (zs : List Int) : (sortedI zs).Perm zs := List.mergeSort_perm zs _
theorem sortedI_len (zs : List Int) : (sortedI zs).length = zs.length := (sortedI_perm zs).length_eq
theorem sortedI_up (zs : List Int) : (sortedI zs).Pairwise (fun x y => x ≤ y) := by
  have h := List.pairwise_mergeSort (le := fun x y : Int => decide (x ≤ y)) (fun a b c h1 h2 => by simp at *; omega) (fun a b => by simp; omega) zs
  exact h.imp fun h => by simpa using h
def inTurn (zs : List Int) : Nat → Bool
  | 0 => true
  | k + 1 => inTurn zs k && decide (zs.getD k 0 = (k : Int) + 1)
theorem inTurn_at {zs : List Int} {n : Nat} (h : inTurn zs n = true) : ∀ k, k < n → zs.getD k 0 = (k : Int) + 1 := by
  induction n with
  | zero => intro k hk; omega
  | succ n ih =>
    simp only [inTurn, Bool.and_eq_true, decide_eq_true_eq] at h
    intro k hk
    by_cases e : k = n
    · subst e; exact h.2
    · exact ih h.1 k (by omega)
theorem inTurn_of {zs : List Int} {n : Nat} (h : ∀ k, k < n → zs.getD k 0 = (k : Int) + 1) : inTurn zs n = true := by
  induction n with
  | zero => rfl
  | succ n ih =>
    simp only [inTurn, Bool.and_eq_true, decide_eq_true_eq]
    exact ⟨ih fun k hk => h k (by omega), h n (by omega)⟩
theorem inTurn_not {zs : List Int} {n k : Nat} (hk : k < n) (h : zs.getD k 0 ≠ (k : Int) + 1) : inTurn zs n = false := by
  cases e : inTurn zs n with
  | false => rfl
  | true => exact absurd (inTurn_at e k hk) h
theorem getD_eq (zs : List Int) (k : Nat) (h : k < zs.length) : zs.getD k 0 = zs[k] := by simp [List.getD, h]
theorem order_range {dt : List Int} {r : Nat} (h : orderOk dt r r = true) (i : Nat) (hi : i < r) : 1 ≤ dt.getD i 0 ∧ dt.getD i 0 ≤ r := by
  have := order_step h hi
  unfold stepOk at this
  simp only [Bool.and_eq_true, decide_eq_true_eq] at this
  exact this.1
theorem order_nodup {dt : List Int} {r : Nat} (h : orderOk dt r r = true) (hl : dt.length = r) : dt.Nodup := by
  refine List.pairwise_iff_getElem.2 fun i j hi hj hij he => ?_
  have hs := order_step h (show j < r by omega)
  have hn := stepOk_new hs
  have ht := (turned (sh := []) (orderOk_le h (show j ≤ r by omega)) i hij).2
  have : axNo dt i = axNo dt j := by unfold axNo; rw [getD_eq dt i hi, getD_eq dt j hj, he]
  rw [this, hn] at ht
  cases ht
theorem up_strict {s : List Int} (h1 : s.Pairwise (fun x y => x ≤ y)) (h2 : s.Nodup) (k : Nat) (hk : k + 1 < s.length) : s.getD k 0 < s.getD (k + 1) 0 := by
  rw [getD_eq s k (by omega), getD_eq s (k + 1) hk]
  have a := List.pairwise_iff_getElem.1 h1 k (k + 1) (by omega) hk (by omega)
  have b := List.pairwise_iff_getElem.1 h2 k (k + 1) (by omega) hk (by omega)
  omega
theorem order_sorted {dt : List Int} {r : Nat} (h : orderOk dt r r = true) (hl : dt.length = r) : inTurn (sortedI dt) r = true := by
  have hsl : (sortedI dt).length = r := by rw [sortedI_len, hl]
  have hnd : (sortedI dt).Nodup := (sortedI_perm dt).nodup_iff.2 (order_nodup h hl)
  have hst := up_strict (sortedI_up dt) hnd
  have hmem : ∀ k, k < r → 1 ≤ (sortedI dt).getD k 0 ∧ (sortedI dt).getD k 0 ≤ r := fun k hk => by
    rw [getD_eq _ k (by omega)]
    have hm : (sortedI dt)[k]'(by omega) ∈ dt := (sortedI_perm dt).mem_iff.1 (List.getElem_mem _)
    obtain ⟨i, hi, he⟩ := List.getElem_of_mem hm
    have := order_range h i (by omega)
    rw [getD_eq dt i hi, he] at this
    exact this
  have hlow : ∀ k, k < r → (k : Int) + 1 ≤ (sortedI dt).getD k 0 := by
    intro k
    induction k with
    | zero => intro hk; have := hmem 0 hk; omega
    | succ k ih => intro hk; have := ih (by omega); have := hst k (by omega); omega
  have hup : ∀ d k, k + d + 1 = r → (sortedI dt).getD k 0 ≤ (k : Int) + 1 := by
    intro d
    induction d with
    | zero => intro k hk; have := hmem k (by omega); omega
    | succ d ih => intro k hk; have := ih (k + 1) (by omega); have := hst k (by omega); omega
  refine inTurn_of fun k hk => ?_
  have a := hlow k hk
  have b := hup (r - 1 - k) k (by omega)
  omega
theorem sorted_order {dt : List Int} {r : Nat} (h : inTurn (sortedI dt) r = true) (hl : dt.length = r) : orderOk dt r r = true := by
  have hsl : (sortedI dt).length = r := by rw [sortedI_len, hl]
  have hat := inTurn_at h
  have hnd : dt.Nodup := by
    refine (sortedI_perm dt).nodup_iff.1 (List.pairwise_iff_getElem.2 fun i j hi hj hij he => ?_)
    have a := hat i (by omega)
    have b := hat j (by omega)
    rw [getD_eq _ i hi] at a
    rw [getD_eq _ j hj] at b
    omega
  have hrng : ∀ i, i < r → 1 ≤ dt.getD i 0 ∧ dt.getD i 0 ≤ r := fun i hi => by
    rw [getD_eq dt i (by omega)]
    have hm : dt[i]'(by omega) ∈ sortedI dt := (sortedI_perm dt).mem_iff.2 (List.getElem_mem _)
    obtain ⟨k, hk, he⟩ := List.getElem_of_mem hm
    have := hat k (by omega)
    rw [getD_eq _ k hk, he] at this
    omega
  have key : ∀ m, m ≤ r → orderOk dt r m = true := by
    intro m
    induction m with
    | zero => intro _; rfl
    | succ m ih =>
      intro hm
      simp only [orderOk, Bool.and_eq_true]
      refine ⟨ih (by omega), ?_⟩
      unfold stepOk
      simp only [Bool.and_eq_true, decide_eq_true_eq, Bool.not_eq_true']
      refine ⟨hrng m (by omega), ?_⟩
      cases e : (seenN dt r m).getD (axNo dt m) false with
      | false => rfl
      | true =>
        obtain ⟨i, hi, he⟩ := seen_from e
        have a := hrng i (by omega)
        have b := hrng m (by omega)
        have heq : dt.getD i 0 = dt.getD m 0 := by unfold axNo at he; omega
        rw [getD_eq dt i (by omega), getD_eq dt m (by omega)] at heq
        exact absurd heq (List.pairwise_iff_getElem.1 hnd i m (by omega) (by omega) hi)
  exact key r (Nat.le_refl _)
theorem order_is {dt : List Int} {r : Nat} (hl : dt.length = r) : orderOk dt r r = inTurn (sortedI dt) r := by
  cases e : inTurn (sortedI dt) r with
  | true => exact sorted_order e hl
  | false =>
    cases e2 : orderOk dt r r with
    | false => rfl
    | true => rw [order_sorted e2 hl] at e; cases e
end Go.Proofs.YtgjpchnkodnieaaGreatDoor
namespace Go.Proofs.YtgjpchnkodnieaaGreatDoor
def turnV (p l : List Int) : Nat → List Int
  | 0 => l
  | i + 1 => (turnV p l i).set (axNo p i) (l.getD i 0)
theorem turnV_len (p l : List Int) (i : Nat) : (turnV p l i).length = l.length := by
  induction i with
  | zero => rfl
  | succ i ih => simp [turnV, ih]
def turnVw (c : Int) (sh st p : List Int) : VAns := if formed c sh st = true ∧ p.length = sh.length ∧ orderOk p sh.length sh.length = true then ⟨c, turnV p sh sh.length, turnV p st sh.length, true⟩ else ⟨0, [], [], false⟩
end Go.Proofs.YtgjpchnkodnieaaGreatDoor
namespace Go.Proofs.YtgjpchnkodnieaaGreatDoor
def upTo (L : Nat) : List Int := (List.range L).map fun (i : Nat) => (i : Int) + 1
theorem upTo_len (L : Nat) : (upTo L).length = L := by simp [upTo]
theorem upTo_get {L i : Nat} (h : i < L) : (upTo L).getD i 0 = (i : Int) + 1 := by simp [upTo, h]
end Go.Proofs.YtgjpchnkodnieaaGreatDoor
namespace Go.Proofs.YtgjpchnkodnieaaGreatDoor
def cutF (st D : List Int) (i : Nat) : Int := st.getD i 0 + D.getD i 0
theorem cut_meant {sh st D : List Int} (h : D.length = sh.length) : meant sh (cutF st) D = addIx D st := by
  unfold meant addIx
  rw [h]
  exact map_range_eq fun i _ => by unfold cutF; omega
theorem cut_gather {c : Bool} {sh dt st zs : List Int} (h : zs.length = sh.length) (k : Nat) : gatherAt c sh dt (cutF st) zs k = windowAt c sh dt st zs k := by
  unfold gatherAt windowAt
  rw [cut_meant (by rw [digits_len, h])]
theorem cut_vals {c : Bool} {sh dt st zs : List Int} (h : zs.length = sh.length) (N : Nat) : vals (gatherAt c sh dt (cutF st) zs) N = vals (windowAt c sh dt st zs) N := map_range_eq fun k _ => by rw [cut_gather h]
def takeS1 (k len : Int) : Int := if k < 0 then len + k else 0
def takeZ1 (k _len : Int) : Int := absI k
def dropS1 (k _len : Int) : Int := if 0 < k then k else 0
def dropZ1 (k len : Int) : Int := if len - absI k < 0 then 0 else len - absI k
def partly (F : Int → Int → Int) (ks bs : List Int) (n k : Nat) : List Int := (List.range n).map fun i => if i < k then F (ks.getD i 0) (bs.getD i 0) else 0
theorem partly_len (F : Int → Int → Int) (ks bs : List Int) (n k : Nat) : (partly F ks bs n k).length = n := by simp [partly]
theorem partly_zero (F : Int → Int → Int) (ks bs : List Int) (n : Nat) : partly F ks bs n 0 = List.replicate n 0 := by
  have e : List.replicate n (0 : Int) = (List.range n).map fun _ => 0 := by rw [List.map_const']; simp
  rw [e]
  exact map_range_eq fun i _ => by rw [if_neg (by omega)]
theorem partly_set (F : Int → Int → Int) (ks bs : List Int) (n k : Nat) (x : Int) (hx : F (ks.getD k 0) (bs.getD k 0) = x) : (partly F ks bs n k).set k x = partly F ks bs n (k + 1) := by
  unfold partly
  rw [map_range_set]
  refine map_range_eq fun i _ => ?_
  by_cases e : i = k
  · subst e; rw [if_pos rfl, if_pos (by omega), hx]
  · rw [if_neg e]
    by_cases h : i < k
    · rw [if_pos h, if_pos (by omega)]
    · rw [if_neg h, if_neg (by omega)]
def made (F : Int → Int → Int) (ks bs : List Int) (n : Nat) : List Int := (List.range n).map fun i => F (ks.getD i 0) (bs.getD i 0)
theorem partly_all (F : Int → Int → Int) (ks bs : List Int) (n : Nat) : partly F ks bs n n = made F ks bs n := map_range_eq fun i hi => by rw [if_pos hi]
theorem made_len (F : Int → Int → Int) (ks bs : List Int) (n : Nat) : (made F ks bs n).length = n := by simp [made]
theorem made_get (F : Int → Int → Int) (ks bs : List Int) (n i : Nat) (hi : i < n) : (made F ks bs n).getD i 0 = F (ks.getD i 0) (bs.getD i 0) := map_range_get _ _ _ hi
theorem take_st (dt bs : List Int) : takeSt bs dt = made takeS1 dt bs dt.length := rfl
theorem take_z (dt bs : List Int) : takeZ dt = made takeZ1 dt bs dt.length := by
  apply List.ext_getElem
  · simp [takeZ, made]
  · intro i h1 h2
    have hi : i < dt.length := by simpa [takeZ] using h1
    simp [takeZ, made, takeZ1, hi]
theorem drop_z (dt bs : List Int) : dropZ bs dt = made dropZ1 dt bs dt.length := rfl
theorem drop_st (dt bs : List Int) : dropSt dt = made dropS1 dt bs dt.length := by
  apply List.ext_getElem
  · simp [dropSt, made]
  · intro i h1 h2
    have hi : i < dt.length := by simpa [dropSt] using h1
    simp [dropSt, made, dropS1, hi]
end Go.Proofs.YtgjpchnkodnieaaGreatDoor
namespace Go.Proofs.YtgjpchnkodnieaaGreatDoor
open Go.RowKit
theorem TabS.drewN {W wr : World} {g n : Nat} {D : Nat → Int} (h : TabS W g n D wr) (m : Nat) : TabS W g n D (wr.drewN m) := h.below ⟨rfl, rfl, rfl, Nat.le_refl _, fun _ _ => rfl⟩
end Go.Proofs.YtgjpchnkodnieaaGreatDoor
