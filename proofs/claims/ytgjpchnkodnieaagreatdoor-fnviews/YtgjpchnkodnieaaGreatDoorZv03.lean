import Derived.Test.YtgjpchnkodnieaaGreatDoorZv02
import Derived.Test.YtgjpchnkodnieaaGreatDoorZv01
import Derived.WalkKit
namespace Go.Proofs.YtgjpchnkodnieaaGreatDoor
def axNo (dt : List Int) (i : Nat) : Nat := (dt.getD i 0 - 1).toNat
def seenN (dt : List Int) (r : Nat) : Nat → List Bool
  | 0 => List.replicate r false
  | i + 1 => (seenN dt r i).set (axNo dt i) true
def turnN (dt sh : List Int) (r : Nat) : Nat → List Int
  | 0 => List.replicate r 0
  | i + 1 => (turnN dt sh r i).set (axNo dt i) (sh.getD i 0)
def stepOk (dt : List Int) (r i : Nat) : Bool := decide (1 ≤ dt.getD i 0 ∧ dt.getD i 0 ≤ r) && !(seenN dt r i).getD (axNo dt i) false
def orderOk (dt : List Int) (r : Nat) : Nat → Bool
  | 0 => true
  | i + 1 => orderOk dt r i && stepOk dt r i
theorem seenN_len (dt : List Int) (r i : Nat) : (seenN dt r i).length = r := by
  induction i with
  | zero => simp [seenN]
  | succ i ih => simp [seenN, ih]
theorem turnN_len (dt sh : List Int) (r i : Nat) : (turnN dt sh r i).length = r := by
  induction i with
  | zero => simp [turnN]
  | succ i ih => simp [turnN, ih]
theorem orderOk_le {dt : List Int} {r m i : Nat} (h : orderOk dt r m = true) (hi : i ≤ m) : orderOk dt r i = true := by
  induction m with
  | zero => have : i = 0 := by omega
            subst this; exact h
  | succ m ih =>
    simp only [orderOk, Bool.and_eq_true] at h
    by_cases e : i = m + 1
    · subst e; simp only [orderOk, Bool.and_eq_true]; exact h
    · exact ih h.1 (by omega)
theorem order_step {dt : List Int} {r m i : Nat} (h : orderOk dt r m = true) (hi : i < m) : stepOk dt r i = true := by
  have := orderOk_le h (by omega : i + 1 ≤ m)
  simp only [orderOk, Bool.and_eq_true] at this
  exact this.2
theorem stepOk_lt {dt : List Int} {r i : Nat} (h : stepOk dt r i = true) : axNo dt i < r := by
  unfold stepOk at h
  simp only [Bool.and_eq_true, decide_eq_true_eq] at h
  unfold axNo
  omega
theorem stepOk_new {dt : List Int} {r i : Nat} (h : stepOk dt r i = true) : (seenN dt r i).getD (axNo dt i) false = false := by
  unfold stepOk at h
  simp only [Bool.and_eq_true, Bool.not_eq_true'] at h
  exact h.2
theorem getD_set {α : Type} (l : List α) (k j : Nat) (x d : α) (hk : k < l.length) : (l.set k x).getD j d = if j = k then x else l.getD j d := by
  by_cases e : j = k
  · subst e; simp [List.getD, hk]
  · rw [if_neg e]; simp [List.getD, List.getElem?_set_ne (Ne.symm e)]
theorem turned {dt sh : List Int} {r m : Nat} (h : orderOk dt r m = true) : ∀ i, i < m → (turnN dt sh r m).getD (axNo dt i) 0 = sh.getD i 0 ∧ (seenN dt r m).getD (axNo dt i) false = true := by
  induction m with
  | zero => intro i hi; omega
  | succ m ih =>
    intro i hi
    have h1 := orderOk_le h (by omega : m ≤ m + 1)
    have h2 := order_step h (by omega : m < m + 1)
    have hl := stepOk_lt h2
    simp only [turnN, seenN]
    rw [getD_set _ _ _ _ _ (by rw [turnN_len]; exact hl), getD_set _ _ _ _ _ (by rw [seenN_len]; exact hl)]
    by_cases e : i = m
    · subst e; simp
    · obtain ⟨a, b⟩ := ih h1 i (by omega)
      have hne : axNo dt i ≠ axNo dt m := fun e => by rw [e, stepOk_new h2] at b; cases b
      rw [if_neg hne, if_neg hne]
      exact ⟨a, b⟩
theorem count_set (l : List Bool) (k : Nat) (hk : k < l.length) (h : l.getD k false = false) : (l.set k true).count true = l.count true + 1 := by
  induction l generalizing k with
  | nil => simp at hk
  | cons x r ih =>
    cases k with
    | zero =>
      have : x = false := by simpa using h
      subst this
      simp
    | succ k =>
      have := ih k (by simpa using hk) (by simpa using h)
      simp only [List.set_cons_succ, List.count_cons, this]
      omega
theorem seen_count {dt : List Int} {r m : Nat} (h : orderOk dt r m = true) : (seenN dt r m).count true = m := by
  induction m with
  | zero => simp [seenN, List.count_replicate]
  | succ m ih =>
    have h1 := orderOk_le h (by omega : m ≤ m + 1)
    have h2 := order_step h (by omega : m < m + 1)
    simp only [seenN]
    rw [count_set _ _ (by rw [seenN_len]; exact stepOk_lt h2) (stepOk_new h2), ih h1]
theorem seen_from {dt : List Int} {r m k : Nat} (h : (seenN dt r m).getD k false = true) : ∃ i, i < m ∧ axNo dt i = k := by
  induction m with
  | zero => simp [seenN, List.getD, List.getElem?_replicate] at h; split at h <;> simp at h
  | succ m ih =>
    simp only [seenN] at h
    by_cases e : axNo dt m = k
    · exact ⟨m, by omega, e⟩
    · have : ((seenN dt r m).set (axNo dt m) true).getD k false = (seenN dt r m).getD k false := by simp [List.getD, List.getElem?_set_ne e]
      rw [this] at h
      obtain ⟨i, hi, he⟩ := ih h
      exact ⟨i, by omega, he⟩
theorem all_named {dt : List Int} {r k : Nat} (h : orderOk dt r r = true) (hk : k < r) : ∃ i, i < r ∧ axNo dt i = k := by
  apply seen_from (r := r)
  have hc := seen_count h
  have hl := seenN_len dt r r
  have hall := List.count_eq_length.mp (hc.trans hl.symm)
  have hm : (seenN dt r r).getD k false ∈ seenN dt r r := by simp [List.getD, hl, hk]
  exact (hall _ hm).symm
def backIx (dt D : List Int) (r : Nat) : List Int := (List.range r).map fun i => D.getD (axNo dt i) 0
theorem backIx_get (dt D : List Int) (r i : Nat) (hi : i < r) : (backIx dt D r).getD i 0 = D.getD (axNo dt i) 0 := by simp [backIx, hi]
theorem back_in {dt sh D : List Int} {r : Nat} (h : orderOk dt r r = true) (hl : sh.length = r) (hD : IxIn (turnN dt sh r r) D) : IxIn sh (backIx dt D r) := by
  intro i hi
  rw [hl] at hi
  rw [backIx_get _ _ _ _ hi]
  have := hD (axNo dt i) (by rw [turnN_len]; exact stepOk_lt (order_step h hi))
  rw [(turned h i hi).1] at this
  exact this
theorem turn_cell {dt sh : List Int} {r : Nat} (h : orderOk dt r r = true) {k : Nat} (hk : k < r) : ∃ i, i < r ∧ (turnN dt sh r r).getD k 0 = sh.getD i 0 := by
  obtain ⟨i, hi, he⟩ := all_named h hk
  exact ⟨i, hi, by rw [← he]; exact (turned h i hi).1⟩
theorem turn_full {dt sh : List Int} {r : Nat} (h : orderOk dt r r = true) (hl : sh.length = r) (hf : Full sh) : Full (turnN dt sh r r) := by
  intro k hk
  rw [turnN_len] at hk
  obtain ⟨i, hi, he⟩ := turn_cell (sh := sh) h hk
  rw [he]
  exact hf i (by rw [hl]; exact hi)
def transAt (dt sh' dt' : List Int) (k : Nat) : Int × Int := (dt'.getD (place sh' (backIx dt (digits (turnN dt sh' sh'.length sh'.length) k) sh'.length)).toNat 0, 0)
def transpose (c d : Bool) (sh dt sh' dt' : List Int) : Ans :=
  if arrOk c sh dt = true ∧ arrOk d sh' dt' = true then
    if listCode c sh.length ≠ 0 then noAns (listCode c sh.length)
    else if dt.length ≠ sh'.length then noAns 5
    else if orderOk dt sh'.length sh'.length = false then noAns 3
    else ⟨d, turnN dt sh' sh'.length sh'.length, vals (transAt dt sh' dt') dt'.length, 0⟩
  else noAns 3
section
variable {c d : Bool} {sh dt sh' dt' : List Int}
theorem transpose_bad1 (h : arrOk c sh dt = false) : transpose c d sh dt sh' dt' = noAns 3 := by unfold transpose; rw [if_neg (by simp [h])]
theorem transpose_bad2 (h : arrOk d sh' dt' = false) : transpose c d sh dt sh' dt' = noAns 3 := by unfold transpose; rw [if_neg (by simp [h])]
theorem transpose_list (h1 : arrOk c sh dt = true) (h2 : arrOk d sh' dt' = true) (r : Int) (h : listCode c sh.length = r) (hr : r ≠ 0) : transpose c d sh dt sh' dt' = noAns r := by
  unfold transpose; rw [if_pos ⟨h1, h2⟩, h, if_pos hr]
theorem transpose_len (h1 : arrOk c sh dt = true) (h2 : arrOk d sh' dt' = true) (h : listCode c sh.length = 0) (hl : dt.length ≠ sh'.length) : transpose c d sh dt sh' dt' = noAns 5 := by
  unfold transpose; rw [if_pos ⟨h1, h2⟩, if_neg (by simp [h]), if_pos hl]
theorem transpose_dom (h1 : arrOk c sh dt = true) (h2 : arrOk d sh' dt' = true) (h : listCode c sh.length = 0) (hl : dt.length = sh'.length) (ho : orderOk dt sh'.length sh'.length = false) : transpose c d sh dt sh' dt' = noAns 3 := by
  unfold transpose; rw [if_pos ⟨h1, h2⟩, if_neg (by simp [h]), if_neg (by simp [hl]), if_pos ho]
theorem transpose_go (h1 : arrOk c sh dt = true) (h2 : arrOk d sh' dt' = true) (h : listCode c sh.length = 0) (hl : dt.length = sh'.length) (ho : orderOk dt sh'.length sh'.length = true) : transpose c d sh dt sh' dt' = ⟨d, turnN dt sh' sh'.length sh'.length, vals (transAt dt sh' dt') dt'.length, 0⟩ := by
  unfold transpose; rw [if_pos ⟨h1, h2⟩, if_neg (by simp [h]), if_neg (by simp [hl]), if_neg (by simp [ho])]
end
end Go.Proofs.YtgjpchnkodnieaaGreatDoor
namespace Go.Proofs.YtgjpchnkodnieaaGreatDoor
def viewIn (n : Int) : Bool := decide (-10000 ≤ n ∧ n ≤ 10000)
def formed (off : Int) (sh st : List Int) : Bool := shapeB sh && (decide (st.length = sh.length) && (viewIn off && st.all viewIn))
def farN (ix st : List Int) : Nat → Int
  | 0 => 0
  | k + 1 => farN ix st k + ix.getD k 0 * st.getD k 0
def placeOf (off : Int) (sh st : List Int) (k : Nat) : Int := off + farN (digits sh k) st sh.length
def placesOf (off : Int) (sh st : List Int) : List Int := (List.range (countOf sh).toNat).map (placeOf off sh st)
def viewOk (off : Int) (sh st : List Int) (cells : Int) : Bool :=
  formed off sh st && (decide (0 ≤ cells ∧ cells ≤ 10000) && (placesOf off sh st).all fun p => decide (0 ≤ p ∧ p < cells))
theorem formed_parts {off : Int} {sh st : List Int} (h : formed off sh st = true) : shapeB sh = true ∧ st.length = sh.length ∧ (-10000 ≤ off ∧ off ≤ 10000) ∧ ∀ k, -10000 ≤ st.getD k 0 ∧ st.getD k 0 ≤ 10000 := by
  unfold formed at h
  simp only [Bool.and_eq_true, decide_eq_true_eq] at h
  obtain ⟨h1, h2, h3, h4⟩ := h
  refine ⟨h1, h2, by simpa [viewIn] using h3, fun k => ?_⟩
  by_cases hk : k < st.length
  · have := List.all_eq_true.mp h4 (st.getD k 0) (by simp [hk])
    simpa [viewIn] using this
  · have e : st.getD k 0 = 0 := by simp [List.getD, List.getElem?_eq_none (by omega : st.length ≤ k)]
    rw [e]; omega
theorem farN_bd {ix st : List Int} {sh : List Int} (hi : IxIn sh ix) (hs : ∀ k, sh.getD k 0 ≤ 10000) (ht : ∀ k, -10000 ≤ st.getD k 0 ∧ st.getD k 0 ≤ 10000) (k : Nat) (hk : k ≤ sh.length) : -(100000000 * (k : Int)) ≤ farN ix st k ∧ farN ix st k ≤ 100000000 * (k : Int) := by
  induction k with
  | zero => simp [farN]
  | succ k ih =>
    obtain ⟨h1, h2⟩ := ih (by omega)
    obtain ⟨h3, h4⟩ := hi k (by omega)
    have h5 := hs k
    obtain ⟨h6, h7⟩ := ht k
    have a1 : ix.getD k 0 * st.getD k 0 ≤ 10000 * 10000 := by
      have := Int.mul_le_mul_of_nonneg_left h7 h3
      have := Int.mul_le_mul_of_nonneg_right (by omega : ix.getD k 0 ≤ 10000) (by omega : (0 : Int) ≤ 10000)
      omega
    have a2 : -(10000 * 10000) ≤ ix.getD k 0 * st.getD k 0 := by
      have b1 := Int.mul_le_mul_of_nonneg_left h6 h3
      have b2 := Int.mul_le_mul_of_nonneg_right (by omega : ix.getD k 0 ≤ 10000) (by omega : (0 : Int) ≤ 10000)
      have b3 : ix.getD k 0 * -10000 = -(ix.getD k 0 * 10000) := by rw [Int.mul_neg]
      omega
    show -(100000000 * ((k + 1 : Nat) : Int)) ≤ farN ix st k + ix.getD k 0 * st.getD k 0 ∧ farN ix st k + ix.getD k 0 * st.getD k 0 ≤ 100000000 * ((k + 1 : Nat) : Int)
    push_cast
    omega
end Go.Proofs.YtgjpchnkodnieaaGreatDoor
namespace Go.Proofs.YtgjpchnkodnieaaGreatDoor
open Go.RowKit
set_option maxHeartbeats 400000 in
theorem eqArray_any (c d : Bool) (a1 a2 b1 b2 : Option Addr) (n1 n2 m1 m2 c1 c2 d1 d2 : Nat) (sh dt sh' dt' : List Int) (w : World) (h1 : Row w a1 n1 sh) (h2 : Row w a2 n2 dt) (k1 : Row w b1 m1 sh') (k2 : Row w b2 m2 dt') :
    Calls Tryz.prog 13 #[.agg #[.bool c, .slice a1 n1 c1, .slice a2 n2 c2], .agg #[.bool d, .slice b1 m1 d1, .slice b2 m2 d2]] w fun e w' => e = .returned (.bool (decide (c = d ∧ sh = sh' ∧ dt = dt'))) ∧ Below w.heap.size w w' := by
  have hW : ∀ o1 o2, Below w.heap.size w ((w.alloc o1).alloc o2) := fun o1 o2 => ((Below.refl _ _).alloc (Nat.le_refl _) _).alloc (by simp) _
  by_cases hcd : c = d
  · subst hcd
    have hb : (c == c) = true := by simp
    by_cases hs : sh = sh'
    · have HS := hs
      have hd1 : decide (sh = sh') = true := by simp [hs]
      clear hs
      by_cases ht : dt = dt'
      · have hd2 : decide (dt = dt') = true := by simp [ht]
        have HE : Hid (decide (c = c ∧ sh = sh' ∧ dt = dt') = true) := decide_eq_true ⟨rfl, HS, ht⟩
        clear ht HS
        go_enter Tryz.func13, Tryz.ntmps13
        go_wp2_with fail
        refine (eqIntS_any _ _ _ _ _ _ sh sh' _ ((h1.alloc _).alloc _) ((k1.alloc _).alloc _)).mono ?_
        rintro e w1 ⟨rfl, q, rfl⟩
        rw [hd1]
        go_wp2_with fail
        refine (eqIntS_any _ _ _ _ _ _ dt dt' _ (((h2.alloc _).alloc _).drewN _) (((k2.alloc _).alloc _).drewN _)).mono ?_
        rintro e w1 ⟨rfl, q, rfl⟩
        rw [hd2]
        go_wp2
        go_ret
        exact ⟨ret_bool HE.out.symm, Below.drewN (hW _ _) _⟩
      · have hd2 : decide (dt = dt') = false := by simp [ht]
        have HE : Hid (decide (c = c ∧ sh = sh' ∧ dt = dt') = false) := decide_eq_false (fun h => ht h.2.2)
        clear ht HS
        go_enter Tryz.func13, Tryz.ntmps13
        go_wp2_with fail
        refine (eqIntS_any _ _ _ _ _ _ sh sh' _ ((h1.alloc _).alloc _) ((k1.alloc _).alloc _)).mono ?_
        rintro e w1 ⟨rfl, q, rfl⟩
        rw [hd1]
        go_wp2_with fail
        refine (eqIntS_any _ _ _ _ _ _ dt dt' _ (((h2.alloc _).alloc _).drewN _) (((k2.alloc _).alloc _).drewN _)).mono ?_
        rintro e w1 ⟨rfl, q, rfl⟩
        rw [hd2]
        go_wp2
        go_ret
        exact ⟨ret_bool HE.out.symm, Below.drewN (hW _ _) _⟩
    · have hd1 : decide (sh = sh') = false := by simp [hs]
      have HE : Hid (decide (c = c ∧ sh = sh' ∧ dt = dt') = false) := decide_eq_false (fun h => hs h.2.1)
      clear hs
      go_enter Tryz.func13, Tryz.ntmps13
      go_wp2_with fail
      refine (eqIntS_any _ _ _ _ _ _ sh sh' _ ((h1.alloc _).alloc _) ((k1.alloc _).alloc _)).mono ?_
      rintro e w1 ⟨rfl, q, rfl⟩
      rw [hd1]
      go_wp2
      go_ret
      exact ⟨ret_bool HE.out.symm, Below.drewN (hW _ _) _⟩
  · have hb : (c == d) = false := by simp [hcd]
    have HE : Hid (decide (c = d ∧ sh = sh' ∧ dt = dt') = false) := decide_eq_false (fun h => hcd h.1)
    clear hcd
    go_enter Tryz.func13, Tryz.ntmps13
    go_wp2
    go_ret
    exact ⟨ret_bool HE.out.symm, hW _ _⟩
end Go.Proofs.YtgjpchnkodnieaaGreatDoor
namespace Go.Proofs.YtgjpchnkodnieaaGreatDoor
open Go.RowKit
section
variable {o : Oper} {a : Act}
theorem rL (x : Operand) (p : Addr) {s : Option Addr} {l c : Nat} (ho : o.op = .load 23 x) (hx : a.eval x = .pointer (some p)) (w : World) (hc : w.cell? p = some (.slice s l c)) : (execOp a.eval o).run Tryz.prog w = .ok (.value (.slice s l c)) w := by
  unfold execOp
  simp only [ho, hx]
  go_simp
theorem rI (x : Operand) (p : Addr) {z : Int} (ho : o.op = .load 3 x) (hx : a.eval x = .pointer (some p)) (w : World) (hc : w.cell? p = some (.int .i64 z)) : (execOp a.eval o).run Tryz.prog w = .ok (.value (.int .i64 z)) w := by
  unfold execOp
  simp only [ho, hx]
  go_simp
theorem rM (x : Operand) {v : Value} (ho : o.op = .move x) (hx : a.eval x = v) (w : World) : (execOp a.eval o).run Tryz.prog w = .ok (.value v) w := by
  unfold execOp
  simp only [ho, hx]
  go_simp
theorem rF (x : Operand) {b : Nat} (ho : o.op = .fieldAddr 101 x 3) (hx : a.eval x = .pointer (some ⟨b, 0, none⟩)) (w : World) : (execOp a.eval o).run Tryz.prog w = .ok (.value (.pointer (some ⟨b, 7, none⟩))) w := by
  unfold execOp
  simp only [ho, hx]
  go_simp
theorem rX (x y : Operand) {b off m c J : Nat} (ho : o.op = .indexAddr 23 x y) (hx : a.eval x = .slice (some ⟨b, off, none⟩) m c) (hy : a.eval y = .int .i64 (J : Nat)) (hJ : J < m) (w : World) : (execOp a.eval o).run Tryz.prog w = .ok (.value (.pointer (some ⟨b, off + J, none⟩))) w := by
  have h1 : (J : Int) < (m : Int) := by omega
  unfold execOp
  simp only [ho, hx, hy]
  go_simp
theorem rA (x y : Operand) {b off J : Nat} (ho : o.op = .indexAddr 99 x y) (hx : a.eval x = .pointer (some ⟨b, off, none⟩)) (hy : a.eval y = .int .i64 (J : Nat)) (hJ : J < 5) (w : World) : (execOp a.eval o).run Tryz.prog w = .ok (.value (.pointer (some ⟨b, off + J, none⟩))) w := by
  have h1 : (J : Int) < 5 := by omega
  have h0 : (0 : Int) ≤ J := by omega
  unfold execOp
  simp only [ho, hx, hy]
  go_simp
theorem rMul (x y : Operand) {u v r : Int} (ho : o.op = .binOp .mul 3 x y 3) (hx : a.eval x = .int .i64 u) (hy : a.eval y = .int .i64 v) (hr : IntKind.i64.wrap (u * v) = r) (w : World) : (execOp a.eval o).run Tryz.prog w = .ok (.value (.int .i64 r)) w := by
  unfold execOp
  simp only [ho, hx, hy]
  go_simp
theorem rAdd (x y : Operand) {u v r : Int} (ho : o.op = .binOp .add 3 x y 3) (hx : a.eval x = .int .i64 u) (hy : a.eval y = .int .i64 v) (hr : IntKind.i64.wrap (u + v) = r) (w : World) : (execOp a.eval o).run Tryz.prog w = .ok (.value (.int .i64 r)) w := by
  unfold execOp
  simp only [ho, hx, hy]
  go_simp
theorem rS (x y : Operand) (p : Addr) {v1 : Value} {z : Int} (ho : o.op = .store 3 x y) (hx : a.eval x = .pointer (some p)) (hy : a.eval y = .int .i64 z) (w : World) (hc : w.cell? p = some v1) (hf : w.frozen? p = false) : (execOp a.eval o).run Tryz.prog w = .ok .skip (w.setCell p (.int .i64 z)) := by
  unfold execOp
  simp only [ho, hx, hy]
  go_simp
end
def opsLP : Array Oper :=
  #[
    { dst := some 30, op := Op.load 23 (Operand.tmp 3), type := 23, pos := "l7_view.go:178", after := #[], guard := none },
    { dst := some 31, op := Op.move (Operand.tmp 4), type := 3, pos := "l7_view.go:178", after := #[], guard := none },
    { dst := some 32, op := Op.indexAddr 23 (Operand.tmp 30) (Operand.tmp 31), type := 0, pos := "l7_view.go:178", after := #[{ on := 0, ground := Ground.data }, { on := 1, ground := Ground.data }], guard := none },
    { dst := some 33, op := Op.load 3 (Operand.tmp 32), type := 3, pos := "l7_view.go:178", after := #[{ on := 2, ground := Ground.data }], guard := none },
    { dst := some 34, op := Op.move (Operand.tmp 7), type := 3, pos := "l7_view.go:178", after := #[], guard := none },
    { dst := some 35, op := Op.move (Operand.tmp 6), type := 3, pos := "l7_view.go:178", after := #[], guard := none },
    { dst := some 36, op := Op.fieldAddr 101 (Operand.tmp 1) 3, type := 0, pos := "l7_view.go:178", after := #[], guard := none },
    { dst := some 37, op := Op.indexAddr 99 (Operand.tmp 36) (Operand.tmp 35), type := 0, pos := "l7_view.go:178", after := #[{ on := 6, ground := Ground.data }, { on := 5, ground := Ground.data }], guard := none },
    { dst := some 38, op := Op.load 3 (Operand.tmp 37), type := 3, pos := "l7_view.go:178", after := #[{ on := 7, ground := Ground.data }], guard := none },
    { dst := some 39, op := Op.binOp BinOp.mul 3 (Operand.tmp 34) (Operand.tmp 38) 3, type := 3, pos := "l7_view.go:178", after := #[{ on := 4, ground := Ground.data }, { on := 8, ground := Ground.data }], guard := none },
    { dst := some 40, op := Op.binOp BinOp.add 3 (Operand.tmp 33) (Operand.tmp 39) 3, type := 3, pos := "l7_view.go:178", after := #[{ on := 3, ground := Ground.data }, { on := 9, ground := Ground.data }], guard := none },
    { dst := some 41, op := Op.indexAddr 23 (Operand.tmp 30) (Operand.tmp 31), type := 0, pos := "l7_view.go:178", after := #[{ on := 0, ground := Ground.data }, { on := 1, ground := Ground.data }, { on := 0, ground := Ground.phase }, { on := 1, ground := Ground.phase }, { on := 2, ground := Ground.phase }, { on := 3, ground := Ground.phase }, { on := 4, ground := Ground.phase }, { on := 5, ground := Ground.phase }, { on := 6, ground := Ground.phase }, { on := 7, ground := Ground.phase }, { on := 8, ground := Ground.phase }, { on := 9, ground := Ground.phase }, { on := 10, ground := Ground.phase }], guard := none },
    { dst := none, op := Op.store 3 (Operand.tmp 41) (Operand.tmp 40), type := 0, pos := "l7_view.go:178", after := #[{ on := 11, ground := Ground.data }, { on := 10, ground := Ground.data }, { on := 0, ground := Ground.phase }, { on := 1, ground := Ground.phase }, { on := 2, ground := Ground.phase }, { on := 3, ground := Ground.phase }, { on := 4, ground := Ground.phase }, { on := 5, ground := Ground.phase }, { on := 6, ground := Ground.phase }, { on := 7, ground := Ground.phase }, { on := 8, ground := Ground.phase }, { on := 9, ground := Ground.phase }, { on := 10, ground := Ground.phase }], guard := none }]
def outLP (a : Act) (gd k N pv j : Nat) (x dg y z s : Int) : Act :=
  ((((((((((((a.put (some 30) (.slice (some ⟨gd, 0, none⟩) N N)).put (some 31) (.int .i64 (k : Nat))).put (some 32) (.pointer (some ⟨gd, 0 + k, none⟩))).put (some 33) (.int .i64 x)).put (some 34) (.int .i64 dg)).put (some 35) (.int .i64 (j : Nat))).put (some 36) (.pointer (some ⟨pv, 7, none⟩))).put (some 37) (.pointer (some ⟨pv, 7 + j, none⟩))).put (some 38) (.int .i64 y)).put (some 39) (.int .i64 z)).put (some 40) (.int .i64 s)).put (some 41) (.pointer (some ⟨gd, 0 + k, none⟩))).put none undef
set_option maxHeartbeats 4000000 in
set_option maxRecDepth 20000 in
theorem regionLP {Q : Exit → Act → World → Prop} {l m : Nat} (a : Act) (W : World) (hsz : 43 ≤ a.tmps.size) (gd k N pv pd j : Nat) (x dg y z s : Int) (h1 : a.eval (.tmp 1) = .pointer (some ⟨pv, 0, none⟩)) (h3 : a.eval (.tmp 3) = .pointer (some ⟨pd, 0, none⟩)) (h4 : a.eval (.tmp 4) = .int .i64 (k : Nat)) (h6 : a.eval (.tmp 6) = .int .i64 (j : Nat)) (h7 : a.eval (.tmp 7) = .int .i64 dg) (hk : k < N) (hj : j < 5)
    (hz : IntKind.i64.wrap (dg * y) = z) (hs : IntKind.i64.wrap (x + z) = s)
    (hS : W.cell? ⟨gd, k, none⟩ = some (.int .i64 x) ∧ W.frozen? ⟨gd, k, none⟩ = false ∧ W.cell? ⟨pd, 0, none⟩ = some (.slice (some ⟨gd, 0, none⟩) N N) ∧ W.cell? ⟨pv, 7 + j, none⟩ = some (.int .i64 y))
    (hQ : ∀ c a (d : Nat) v w, Q (.panic c) (a.put (some d) v) w → Q (.panic c) a w) (hno : ¬ LetsOut Q)
    (hend : Q .normal (outLP a gd k N pv j x dg y z s) (W.drew.setCell ⟨gd, 0 + k, none⟩ (.int .i64 s))) :
    (Code.region 9 opsLP true).wpIn (Fence.wide.inRound l) m Tryz.prog Q a W := by
  refine wpIn_region_L (fun wx => wx.cell? ⟨gd, k, none⟩ = some (.int .i64 x) ∧ wx.frozen? ⟨gd, k, none⟩ = false ∧ wx.cell? ⟨pd, 0, none⟩ = some (.slice (some ⟨gd, 0, none⟩) N N) ∧ wx.cell? ⟨pv, 7 + j, none⟩ = some (.int .i64 y)) 12 (by kernel_rfl) (by kernel_rfl) hno ?_
  have hS0 : W.drew.cell? ⟨gd, k, none⟩ = some (.int .i64 x) ∧ W.drew.frozen? ⟨gd, k, none⟩ = false ∧ W.drew.cell? ⟨pd, 0, none⟩ = some (.slice (some ⟨gd, 0, none⟩) N N) ∧ W.drew.cell? ⟨pv, 7 + j, none⟩ = some (.int .i64 y) := hS
  show wpAnyL _ _ _ _ _ _ (12 + 1) _ _ _
  refine wpAnyL_put 0 30 (.slice (some ⟨gd, 0, none⟩) N N) rfl rfl (by kernel_rfl) (by kernel_rfl) (by kernel_rfl) (by kernel_rfl) hQ rfl (fun w hw => rL (.tmp 3) _ rfl h3 w hw.2.2.1) hS0 ?_
  refine wpAnyL_put 1 31 (.int .i64 (k : Nat)) rfl rfl (by kernel_rfl) (by kernel_rfl) (by kernel_rfl) (by kernel_rfl) hQ rfl (fun w hw => rM (.tmp 4) rfl (by rw [eval_ne (by decide)]; exact h4) w) hS0 ?_
  refine wpAnyL_put 2 32 (.pointer (some ⟨gd, 0 + k, none⟩)) rfl rfl (by kernel_rfl) (by kernel_rfl) (by kernel_rfl) (by kernel_rfl) hQ rfl (fun w hw => rX (.tmp 30) (.tmp 31) rfl (by rw [eval_ne (by decide)]; exact eval_eq (by omega)) (eval_eq (by rw [put_size]; omega)) hk w) hS0 ?_
  refine wpAnyL_put 3 33 (.int .i64 x) rfl rfl (by kernel_rfl) (by kernel_rfl) (by kernel_rfl) (by kernel_rfl) hQ rfl (fun w hw => rI (.tmp 32) _ rfl (eval_eq (by rw [put_size, put_size]; omega)) w (by rw [Nat.zero_add]; exact hw.1)) hS0 ?_
  refine wpAnyL_put 4 34 (.int .i64 dg) rfl rfl (by kernel_rfl) (by kernel_rfl) (by kernel_rfl) (by kernel_rfl) hQ rfl (fun w hw => rM (.tmp 7) rfl (by rw [eval_ne (by decide), eval_ne (by decide), eval_ne (by decide), eval_ne (by decide)]; exact h7) w) hS0 ?_
  refine wpAnyL_put 5 35 (.int .i64 (j : Nat)) rfl rfl (by kernel_rfl) (by kernel_rfl) (by kernel_rfl) (by kernel_rfl) hQ rfl (fun w hw => rM (.tmp 6) rfl (by rw [eval_ne (by decide), eval_ne (by decide), eval_ne (by decide), eval_ne (by decide), eval_ne (by decide)]; exact h6) w) hS0 ?_
  refine wpAnyL_put 6 36 (.pointer (some ⟨pv, 7, none⟩)) rfl rfl (by kernel_rfl) (by kernel_rfl) (by kernel_rfl) (by kernel_rfl) hQ rfl (fun w hw => rF (.tmp 1) rfl (by rw [eval_ne (by decide), eval_ne (by decide), eval_ne (by decide), eval_ne (by decide), eval_ne (by decide), eval_ne (by decide)]; exact h1) w) hS0 ?_
  refine wpAnyL_put 7 37 (.pointer (some ⟨pv, 7 + j, none⟩)) rfl rfl (by kernel_rfl) (by kernel_rfl) (by kernel_rfl) (by kernel_rfl) hQ rfl (fun w hw => rA (.tmp 36) (.tmp 35) rfl (eval_eq (by rw [put_size, put_size, put_size, put_size, put_size, put_size]; omega)) (by rw [eval_ne (by decide)]; exact eval_eq (by rw [put_size, put_size, put_size, put_size, put_size]; omega)) hj w) hS0 ?_
  refine wpAnyL_put 8 38 (.int .i64 y) rfl rfl (by kernel_rfl) (by kernel_rfl) (by kernel_rfl) (by kernel_rfl) hQ rfl (fun w hw => rI (.tmp 37) _ rfl (eval_eq (by rw [put_size, put_size, put_size, put_size, put_size, put_size, put_size]; omega)) w hw.2.2.2) hS0 ?_
  refine wpAnyL_put 9 39 (.int .i64 z) rfl rfl (by kernel_rfl) (by kernel_rfl) (by kernel_rfl) (by kernel_rfl) hQ rfl (fun w hw => rMul (.tmp 34) (.tmp 38) rfl (by rw [eval_ne (by decide), eval_ne (by decide), eval_ne (by decide), eval_ne (by decide)]; exact eval_eq (by rw [put_size, put_size, put_size, put_size]; omega)) (eval_eq (by rw [put_size, put_size, put_size, put_size, put_size, put_size, put_size, put_size]; omega)) hz w) hS0 ?_
  refine wpAnyL_put 10 40 (.int .i64 s) rfl rfl (by kernel_rfl) (by kernel_rfl) (by kernel_rfl) (by kernel_rfl) hQ rfl (fun w hw => rAdd (.tmp 33) (.tmp 39) rfl (by rw [eval_ne (by decide), eval_ne (by decide), eval_ne (by decide), eval_ne (by decide), eval_ne (by decide), eval_ne (by decide)]; exact eval_eq (by rw [put_size, put_size, put_size]; omega)) (eval_eq (by rw [put_size, put_size, put_size, put_size, put_size, put_size, put_size, put_size, put_size]; omega)) hs w) hS0 ?_
  refine wpAnyL_put 11 41 (.pointer (some ⟨gd, 0 + k, none⟩)) rfl rfl (by kernel_rfl) (by kernel_rfl) (by kernel_rfl) (by kernel_rfl) hQ rfl (fun w hw => rX (.tmp 30) (.tmp 31) rfl (by rw [eval_ne (by decide), eval_ne (by decide), eval_ne (by decide), eval_ne (by decide), eval_ne (by decide), eval_ne (by decide), eval_ne (by decide), eval_ne (by decide), eval_ne (by decide), eval_ne (by decide)]; exact eval_eq (by omega)) (by rw [eval_ne (by decide), eval_ne (by decide), eval_ne (by decide), eval_ne (by decide), eval_ne (by decide), eval_ne (by decide), eval_ne (by decide), eval_ne (by decide), eval_ne (by decide)]; exact eval_eq (by rw [put_size]; omega)) hk w) hS0 ?_
  refine wpAnyL_one (i := 12) (by kernel_rfl) ?_
  refine op_wp rfl rfl ?_
  unfold Oper.wp
  rw [rS (.tmp 41) (.tmp 40) ⟨gd, 0 + k, none⟩ rfl (eval_eq (by rw [put_size, put_size, put_size, put_size, put_size, put_size, put_size, put_size, put_size, put_size, put_size]; omega)) (by rw [eval_ne (by decide)]; exact eval_eq (by rw [put_size, put_size, put_size, put_size, put_size, put_size, put_size, put_size, put_size, put_size]; omega)) W.drew (by rw [Nat.zero_add]; exact hS0.1) (by rw [Nat.zero_add]; exact hS0.2.1)]
  refine ⟨fun h => absurd rfl h, ?_⟩
  refine wpAnyL_done (by kernel_rfl) ?_ _
  exact hend
end Go.Proofs.YtgjpchnkodnieaaGreatDoor
