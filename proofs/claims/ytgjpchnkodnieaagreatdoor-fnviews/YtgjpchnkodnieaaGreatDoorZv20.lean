import Derived.Test.YtgjpchnkodnieaaGreatDoorZv18
import Derived.Test.YtgjpchnkodnieaaGreatDoorZv06
import Derived.Test.YtgjpchnkodnieaaGreatDoorZv19
import Derived.Test.YtgjpchnkodnieaaGreatDoorZv07
import Derived.Test.YtgjpchnkodnieaaGreatDoorZv08
import Derived.Test.YtgjpchnkodnieaaGreatDoorZv16
import Derived.Test.YtgjpchnkodnieaaGreatDoorZv14
import Derived.Laws.OwnMore
namespace Go.Proofs.YtgjpchnkodnieaaGreatDoor
def partsV (n : Nat) (list : List Int) (m : Nat) : List PartD := ⟨false, false, [(n : Int)], list⟩ :: List.replicate m ⟨true, false, [], []⟩
theorem partsV_len (n : Nat) (list : List Int) (m : Nat) : (partsV n list m).length = m + 1 := by simp [partsV]
theorem partsV_0 (n : Nat) (list : List Int) (m : Nat) : part (partsV n list m) 0 = ⟨false, false, [(n : Int)], list⟩ := rfl
theorem partsV_s {n m i : Nat} {list : List Int} (hi : i < m) : part (partsV n list m) (i + 1) = ⟨true, false, [], []⟩ := by
  unfold part partsV
  simp [List.getD, hi]
section
variable {sh list : List Int} {m n : Nat}
theorem pickedSh (hl : sh.length = m + 1) : pSh sh (partsV n list m) = sh.set 0 (n : Int) := by
  have key : ∀ k, k ≤ m → pShN sh (partsV n list m) (k + 1) = (sh.set 0 (n : Int)).take (k + 1) := by
    intro k
    induction k with
    | zero =>
      intro _
      rw [pShN_succ, partsV_0, pickSh_not rfl]
      cases sh with
      | nil => simp at hl
      | cons x r => simp [pShN]
    | succ k ih =>
      intro hk
      rw [pShN_succ, ih (by omega), partsV_s (by omega), pickSh_all rfl, take_snoc _ (k + 1) (by simp; omega), getD_setV _ _ _ _ (by omega), if_neg (by omega)]
  unfold pSh
  rw [partsV_len, key m (Nat.le_refl _), List.take_of_length_le (by simp; omega)]
theorem pickedCn (hl : sh.length = m + 1) (hlen : list.length = n) (hnn : ∀ k, 0 ≤ sh.getD k 0) : pCn sh (partsV n list m) = sh.set 0 (n : Int) := by
  have key : ∀ k, k ≤ m → pCnN sh (partsV n list m) (k + 1) = (sh.set 0 (n : Int)).take (k + 1) := by
    intro k
    induction k with
    | zero =>
      intro _
      rw [pCnN_succ]
      unfold pDt
      rw [partsV_0, pickDt_not rfl]
      cases sh with
      | nil => simp at hl
      | cons x r => simp [pCnN, hlen]
    | succ k ih =>
      intro hk
      rw [pCnN_succ, ih (by omega)]
      unfold pDt
      rw [partsV_s (by omega), pickDt_all rfl, upTo_len, take_snoc _ (k + 1) (by simp; omega), getD_setV _ _ _ _ (by omega), if_neg (by omega), Int.toNat_of_nonneg (hnn _)]
  unfold pCn
  rw [partsV_len, key m (Nat.le_refl _), List.take_of_length_le (by simp; omega)]
theorem pickedCode (hl : sh.length = m + 1) (hv : arrOk false [(n : Int)] list = true) (hw : list.all (within (sh.getD 0 0)) = true) : picksCode sh (partsV n list m) = 0 := by
  unfold picksCode
  rw [if_pos (by rw [partsV_len, hl])]
  have key : ∀ k, k ≤ m + 1 → firstCode (pcAt sh (partsV n list m)) k = 0 := by
    intro k
    induction k with
    | zero => intro _; rfl
    | succ k ih =>
      intro hk
      refine code_step (ih (by omega)) ?_
      unfold pcAt
      cases k with
      | zero => rw [partsV_0]; exact pick_in (p := ⟨false, false, [(n : Int)], list⟩) rfl hv rfl hw
      | succ k => rw [partsV_s (by omega)]; exact pick_all0 (p := ⟨true, false, [], []⟩) (L := sh.getD (k + 1) 0) rfl ⟨rfl, rfl, rfl⟩
  rw [partsV_len]
  exact key _ (Nat.le_refl _)
end
theorem far_pick {D M st : List Int} {x s : Int} (h0 : M.getD 0 0 = x + D.getD 0 0 * s) (hst : 0 < st.length) : ∀ k, (∀ i, i < k → M.getD (i + 1) 0 = D.getD (i + 1) 0) → farN M st (k + 1) = x * st.getD 0 0 + farN D (st.set 0 (st.getD 0 0 * s)) (k + 1) := by
  intro k
  induction k with
  | zero =>
    intro _
    simp only [farN]
    rw [h0, getD_setV _ _ _ _ hst, if_pos rfl, Int.add_mul, Int.mul_assoc, Int.mul_comm s]
    omega
  | succ k ih =>
    intro h
    have e := ih (fun i hi => h i (by omega))
    have e1 : farN M st (k + 1 + 1) = farN M st (k + 1) + M.getD (k + 1) 0 * st.getD (k + 1) 0 := rfl
    have e2 : farN D (st.set 0 (st.getD 0 0 * s)) (k + 1 + 1) = farN D (st.set 0 (st.getD 0 0 * s)) (k + 1) + D.getD (k + 1) 0 * (st.set 0 (st.getD 0 0 * s)).getD (k + 1) 0 := rfl
    rw [e1, e2, e, h k (by omega), getD_setV _ _ _ _ hst, if_neg (by omega)]
    omega
theorem pick_places {off cells : Int} {sh st : List Int} {m n : Nat} {fr step : Int} {list : List Int} (h : viewOk off sh st cells = true) (hl : sh.length = m + 1) (hlen : list.length = n) (hget : ∀ i : Nat, i < n → list.getD i 0 = fr + i * step + 1)
    (hin : ∀ i : Nat, i < n → 0 ≤ fr + i * step ∧ fr + i * step < sh.getD 0 0) (hv : arrOk false [(n : Int)] list = true) {o2 : Int} (ho : (0 < n ∧ o2 = off + fr * st.getD 0 0) ∨ (n = 0 ∧ o2 = off)) (hff : formed o2 (sh.set 0 (n : Int)) (st.set 0 (st.getD 0 0 * step)) = true) :
    indexA false sh (placesOf off sh st) (partsV n list m) = ⟨false, sh.set 0 (n : Int), placesOf o2 (sh.set 0 (n : Int)) (st.set 0 (st.getD 0 0 * step)), 0⟩ ∧ viewOk o2 (sh.set 0 (n : Int)) (st.set 0 (st.getD 0 0 * step)) cells = true := by
  obtain ⟨hf, hcl, hp⟩ := viewOk_parts h
  obtain ⟨hs, hst, _, _⟩ := formed_parts hf
  obtain ⟨hsT, _, _, _⟩ := formed_parts hff
  obtain ⟨hsin, _⟩ := shapeB_in hs
  have hok := view_arr h
  have hnn : ∀ k, 0 ≤ sh.getD k 0 := fun k => (hsin.cell k).1
  have hTb := shapeB_count hsT
  have hTc := prodAll_count _ hsT
  have eS := pickedSh (sh := sh) (list := list) (n := n) hl
  have eC := pickedCn (sh := sh) (list := list) (n := n) hl hlen hnn
  have hw : list.all (within (sh.getD 0 0)) = true := by
    rw [List.all_eq_true]
    intro x hx
    obtain ⟨i, hi, rfl⟩ := List.getElem_of_mem hx
    have h1 := hget i (by omega)
    have h2 := hin i (by omega)
    rw [getD_eq _ _ hi] at h1
    simp only [within, decide_eq_true_eq]
    omega
  have hcode : partsCode sh (partsV n list m) = 0 := by
    unfold partsCode
    rw [pickedCode hl hv hw, if_neg (by simp), eS, if_pos hsT]
  obtain ⟨T, hT⟩ : ∃ T, sh.set 0 (n : Int) = T := ⟨_, rfl⟩
  rw [hT] at eS eC hff hsT hTb hTc ⊢
  have hTl : T.length = m + 1 := by rw [← hT]; simp [hl]
  have hTg : ∀ i, i < m → T.getD (i + 1) 0 = sh.getD (i + 1) 0 := fun i _ => by rw [← hT, getD_setV _ _ _ _ (by omega), if_neg (by omega)]
  have hT0 : T.getD 0 0 = (n : Int) := by rw [← hT, getD_setV _ _ _ _ (by omega), if_pos rfl]
  obtain ⟨N, hN⟩ : ∃ N : Nat, prodAll T = (N : Int) := ⟨(prodAll T).toNat, by omega⟩
  have key : ∀ t : Nat, t < N → (pickedAt (placesOf off sh st) sh (partsV n list m) t).1 = placeOf o2 T (st.set 0 (st.getD 0 0 * step)) t ∧ placeOf o2 T (st.set 0 (st.getD 0 0 * step)) t ∈ placesOf off sh st := by
    intro t ht
    have hfT := full_count hsT (by omega)
    have hD := digits_in hfT (t : Int)
    have hDl := digits_len T (t : Int)
    have hD0 := hD 0 (by omega)
    rw [hT0] at hD0
    obtain ⟨d0, hd0⟩ : ∃ d : Nat, (digits T t).getD 0 0 = (d : Int) := ⟨((digits T t).getD 0 0).toNat, by omega⟩
    have hd0n : d0 < n := by omega
    have hn0 : 0 < n := by omega
    have ho2 : o2 = off + fr * st.getD 0 0 := by rcases ho with ⟨_, e⟩ | ⟨e, _⟩; · exact e
                                                 · omega
    have hM0 : (meant sh (pNum sh (partsV n list m)) (digits T t)).getD 0 0 = fr + (digits T t).getD 0 0 * step := by
      rw [meant_get _ _ _ _ (by omega)]
      unfold pNum pDt
      rw [partsV_0, pickDt_not rfl, hd0, Int.toNat_natCast]
      show list.getD d0 0 - 1 = _
      rw [hget d0 hd0n]
      omega
    have hMs : ∀ i, i < m → (meant sh (pNum sh (partsV n list m)) (digits T t)).getD (i + 1) 0 = (digits T t).getD (i + 1) 0 := by
      intro i hi
      have hDi := hD (i + 1) (by omega)
      rw [hTg i hi] at hDi
      rw [meant_get _ _ _ _ (by omega)]
      unfold pNum pDt
      rw [partsV_s hi, pickDt_all rfl, upTo_get (by omega)]
      omega
    have hM : IxIn sh (meant sh (pNum sh (partsV n list m)) (digits T t)) := by
      intro i hi
      cases i with
      | zero =>
        rw [hM0, hd0]
        exact hin d0 hd0n
      | succ i =>
        rw [hMs i (by omega)]
        have hDi := hD (i + 1) (by omega)
        rw [hTg i (by omega)] at hDi
        exact hDi
    have hfs : Full sh := fun i hi => by have := hM i hi; omega
    have hat := places_at (off := off) (st := st) hs hfs hM
    have hfar := far_pick (st := st) hM0 (by omega) m hMs
    have hpl : placeOf o2 T (st.set 0 (st.getD 0 0 * step)) t = off + farN (meant sh (pNum sh (partsV n list m)) (digits T t)) st sh.length := by
      unfold placeOf
      rw [hTl, hl, hfar, ho2]
      omega
    refine ⟨?_, ?_⟩
    · unfold pickedAt whereAt
      rw [eC, hpl]
      exact hat
    · rw [hpl, ← hat]
      have hb2 := place_bd hM
      have hpc := prodAll_count sh hs
      rw [getD_eq _ _ (by rw [places_len]; omega)]
      exact List.getElem_mem _
  refine ⟨?_, ?_⟩
  · rw [index_go hok hcode N (by rw [eS]; exact hN), eS]
    congr 1
    unfold vals placesOf
    rw [← hTc, hN, Int.toNat_natCast]
    apply List.map_congr_left
    intro t ht
    exact (key t (List.mem_range.1 ht)).1
  · refine view_of hff hcl (fun p hp' => ?_)
    unfold placesOf at hp'
    obtain ⟨t, ht, rfl⟩ := List.mem_map.1 hp'
    have ht' := List.mem_range.1 ht
    exact hp _ (key t (by omega)).2
end Go.Proofs.YtgjpchnkodnieaaGreatDoor
namespace Go.Proofs.YtgjpchnkodnieaaGreatDoor
open Go.RowKit
structure Ch (W V : World) (g cap n : Nat) (zs : List Int) : Prop where
  own : V.ownsRow W.heap.size 3 1 (.slice (some ⟨g, 0, none⟩) n cap) n (zs.map (Value.int .i64))
  low : Below W.heap.size W V
section
variable {W V : World} {g cap n : Nat} {zs : List Int}
theorem Ch.start (hB : Below W.heap.size W V) (hg : g = V.heap.size) : Ch W (V.alloc (.cells #[] 3)) g 0 0 [] := by
  subst hg
  exact ⟨owns_mono (owns_empty V) hB.size, hB.alloc hB.size _⟩
theorem Ch.alloc (h : Ch W V g cap n zs) (o : Obj) : Ch W (V.alloc o) g cap n zs := ⟨owns_below h.own (Nat.le_refl _) ((Below.refl _ _).alloc (Nat.le_refl _) _), h.low.alloc h.low.size _⟩
theorem Ch.drew (h : Ch W V g cap n zs) : Ch W V.drew g cap n zs := ⟨owns_below h.own (Nat.le_refl _) (Below.refl _ _).drew, h.low.drew⟩
theorem Ch.row (h : Ch W V g cap n zs) (hs : n ≤ 17592186044416) : Row V (some ⟨g, 0, none⟩) n zs := by
  obtain ⟨a, c, e, ho⟩ := Own.of_owns h.own hs
  cases e
  exact ho.row
end
end Go.Proofs.YtgjpchnkodnieaaGreatDoor
namespace Go.Proofs.YtgjpchnkodnieaaGreatDoor
open Go.RowKit
def Src (w : World) (s : Option Addr) (n _c : Nat) (zs : List Int) : Prop := Row w s n zs ∧ ((∃ ad, s = some ad) ∨ (s = none ∧ n = 0))
theorem Src.below {w w' : World} {s : Option Addr} {n c B : Nat} {zs : List Int} (h : Src w s n c zs) (hB : w.heap.size ≤ B) (hb : Below B w w') : Src w' s n c zs := ⟨h.1.below hB hb, h.2⟩
theorem Src.some {w : World} {s : Addr} {n c : Nat} {zs : List Int} (h : Row w (some s) n zs) : Src w (some s) n c zs := ⟨h, .inl ⟨s, rfl⟩⟩
theorem Src.none (w : World) : Src w none 0 0 [] := ⟨row_nil _ _, .inr ⟨rfl, rfl⟩⟩
theorem Src.of {w : World} {s : Option Addr} {n c : Nat} {zs : List Int} (h : Row w s n zs) : Src w s n c zs := by
  cases s with
  | some a => exact Src.some h
  | none => exact ⟨h, .inr ⟨rfl, (row_none h).1⟩⟩
def oLw_0 : Oper := { dst := some 3, op := Op.fieldAddr 25 (Operand.tmp 1) 0, type := 0, pos := "laws.go:46", after := #[], guard := none }
def oLw_1 : Oper := { dst := some 4, op := Op.load 4 (Operand.tmp 3), type := 4, pos := "laws.go:46", after := #[{ on := 0, ground := Ground.data }], guard := none }
def oLw_2 : Oper := { dst := some 5, op := Op.buildSlice 23 0 #[], type := 23, pos := "laws.go:46", after := #[], guard := none }
def oLw_3 : Oper := { dst := some 6, op := Op.fieldAddr 25 (Operand.tmp 1) 1, type := 0, pos := "laws.go:46", after := #[], guard := none }
def oLw_4 : Oper := { dst := some 7, op := Op.load 23 (Operand.tmp 6), type := 23, pos := "laws.go:46", after := #[{ on := 3, ground := Ground.data }], guard := none }
def oLw_5 : Oper := { dst := some 8, op := Op.call { callee := Callee.builtin Builtin.append, args := #[Operand.tmp 5, Operand.tmp 7], argTypes := #[23, 23] }, type := 23, pos := "laws.go:46", after := #[{ on := 2, ground := Ground.data }, { on := 4, ground := Ground.data }], guard := none }
def oLw_6 : Oper := { dst := some 9, op := Op.buildSlice 23 0 #[], type := 23, pos := "laws.go:46", after := #[], guard := none }
def oLw_7 : Oper := { dst := some 10, op := Op.fieldAddr 25 (Operand.tmp 1) 2, type := 0, pos := "laws.go:46", after := #[], guard := none }
def oLw_8 : Oper := { dst := some 11, op := Op.load 23 (Operand.tmp 10), type := 23, pos := "laws.go:46", after := #[{ on := 7, ground := Ground.data }], guard := none }
def oLw_9 : Oper := { dst := some 12, op := Op.call { callee := Callee.builtin Builtin.append, args := #[Operand.tmp 9, Operand.tmp 11], argTypes := #[23, 23] }, type := 23, pos := "laws.go:46", after := #[{ on := 6, ground := Ground.data }, { on := 8, ground := Ground.data }, { on := 5, ground := Ground.chain }], guard := none }
def oLw_10 : Oper := { dst := some 13, op := Op.build 25 #[(0, Operand.tmp 4), (1, Operand.tmp 8), (2, Operand.tmp 12)], type := 25, pos := "laws.go:46", after := #[{ on := 1, ground := Ground.data }, { on := 5, ground := Ground.data }, { on := 9, ground := Ground.data }], guard := none }
def oLw_11 : Oper := { dst := none, op := Op.store 25 (Operand.tmp 2) (Operand.tmp 13), type := 0, pos := "laws.go:46", after := #[{ on := 10, ground := Ground.data }, { on := 9, ground := Ground.chain }, { on := 0, ground := Ground.phase }, { on := 1, ground := Ground.phase }, { on := 2, ground := Ground.phase }, { on := 3, ground := Ground.phase }, { on := 4, ground := Ground.phase }, { on := 5, ground := Ground.phase }, { on := 6, ground := Ground.phase }, { on := 7, ground := Ground.phase }, { on := 8, ground := Ground.phase }, { on := 9, ground := Ground.phase }, { on := 10, ground := Ground.phase }], guard := none }
def opsLw : Array Oper := #[oLw_0, oLw_1, oLw_2, oLw_3, oLw_4, oLw_5, oLw_6, oLw_7, oLw_8, oLw_9, oLw_10, oLw_11]
section
variable {P : Program} {ops : Array Oper} {Q : Exit → Act → World → Prop} {md : Region.Mode} {S : World → Prop} {st : Nat}
theorem wpAnyL_two {i j : Nat} {fuel : Nat} {listed : Array Bool} {a : Act} {w : World} (hr : Region.ready md ops listed = [i, j])
    (h : wpOp P ops Q i (fun a' w' => (i ≠ st → S w') ∧ wpAnyL P md ops Q S st fuel (listed.setIfInBounds i true) a' w') a w)
    (h' : wpOp P ops Q j (fun a' w' => (j ≠ st → S w') ∧ wpAnyL P md ops Q S st fuel (listed.setIfInBounds j true) a' w') a w) : wpAnyL P md ops Q S st (fuel + 1) listed a w :=
  ⟨fun h0 => (by rw [hr] at h0; cases h0), fun k hk => (by rw [hr] at hk; simp at hk; rcases hk with rfl | rfl <;> assumption)⟩
end
section
variable {o : Oper} {a : Act}
theorem rgS0 (ho : o.op = .buildSlice 23 0 #[]) (w : World) : (execOp a.eval o).run Tryz.prog w = .ok (.value (.slice (some ⟨w.heap.size, 0, none⟩) 0 0)) (w.alloc (.cells #[] 3)) := by
  unfold execOp
  simp only [ho]
  go_simp
theorem rgBool (x : Operand) (p : Addr) {z : Bool} (ho : o.op = .load 4 x) (hx : a.eval x = .pointer (some p)) (w : World) (hc : w.cell? p = some (.bool z)) : (execOp a.eval o).run Tryz.prog w = .ok (.value (.bool z)) w := by
  unfold execOp
  simp only [ho, hx]
  go_simp
theorem rgStruct (i j k : Nat) {z : Bool} {s1 s2 : Option Addr} {m1 d1 m2 d2 : Nat} (ho : o.op = .build 25 #[(0, .tmp i), (1, .tmp j), (2, .tmp k)]) (h0 : a.eval (.tmp i) = .bool z) (h1 : a.eval (.tmp j) = .slice s1 m1 d1) (h2 : a.eval (.tmp k) = .slice s2 m2 d2) (w : World) : (execOp a.eval o).run Tryz.prog w = .ok (.value (.agg #[.bool z, .slice s1 m1 d1, .slice s2 m2 d2])) w := by
  have h0' : a.tmps[i]?.getD undef = .bool z := by simpa [Act.eval] using h0
  have h1' : a.tmps[j]?.getD undef = .slice s1 m1 d1 := by simpa [Act.eval] using h1
  have h2' : a.tmps[k]?.getD undef = .slice s2 m2 d2 := by simpa [Act.eval] using h2
  unfold execOp
  simp only [ho]
  go_simp
theorem rgStoreA (x y : Operand) (p : Nat) {c c' : Bool} {u1 u2 : Value} {s1 s2 : Option Addr} {m1 d1 m2 d2 : Nat} (ho : o.op = .store 25 x y) (hx : a.eval x = .pointer (some ⟨p, 0, none⟩)) (hy : a.eval y = .agg #[.bool c', .slice s1 m1 d1, .slice s2 m2 d2]) (w : World) (hb : Box w p c u1 u2) : (execOp a.eval o).run Tryz.prog w = .ok .skip (((w.setCell ⟨p, 0, none⟩ (.bool c')).setCell ⟨p, 1, none⟩ (.slice s1 m1 d1)).setCell ⟨p, 2, none⟩ (.slice s2 m2 d2)) := by
  obtain ⟨y0, y1, y2, y3, y4, y5, y6⟩ := hb.all
  unfold execOp
  simp only [ho, hx, hy]
  go_simp
end
theorem row_news {w : World} {s : Addr} {n : Nat} {zs : List Int} (h : Row w (some s) n zs) : ∀ (j : Nat) u, (zs.map (Value.int .i64))[j]? = some u → w.cell? (s.add j) = some u := by
  intro j u hj
  have hl := h.len
  have hjn : j < n := by
    rcases Nat.lt_or_ge j n with h' | h'
    · exact h'
    · rw [List.getElem?_eq_none (by rw [List.length_map]; omega)] at hj
      cases hj
  obtain ⟨b, o, hab, _, hc⟩ := h.get hjn
  cases hab
  have hadd : (⟨b, o, none⟩ : Addr).add j = ⟨b, o + j, none⟩ := by unfold Addr.add; split <;> simp_all
  rw [hadd, hc]
  have hjz : j < zs.length := by omega
  simp [List.getElem?_eq_getElem hjz] at hj
  simp [List.getD, List.getElem?_eq_getElem hjz, hj]
theorem ints_one (zs : List Int) : ∀ u ∈ zs.map (Value.int .i64), u.oneCell' = true := by
  intro u hu
  obtain ⟨x, _, rfl⟩ := List.mem_map.1 hu
  rfl
theorem put_defers {a : Act} {d : Nat} {v : Value} : (a.put (some d) v).defers = a.defers := rfl
theorem wp_append_src {P : Program} (w : World) {o : Oper} {a : Act} {K : Act → World → Prop} {Q : Exit → Act → World → Prop} (s x : Operand) (t : TypeId)
    (ho : o.op = .call { callee := .builtin .append, args := #[s, x], argTypes := #[t, t] })
    (base : Nat) (e : TypeId) (i : TypeInfo) (ht : P.underlying t = some (.slice e)) (hi : P.info? e = some i) (hz : i.zero = some (.int .i64 0))
    (hsize : i.size = 1) (hby : i.bytes = 8)
    (g0 : Nat) (hs : a.eval s = .slice (some ⟨g0, 0, none⟩) 0 0) (hown : w.ownsRow base e 1 (.slice (some ⟨g0, 0, none⟩) 0 0) 0 [])
    (ad : Option Addr) (m c : Nat) (zs : List Int) (hx : a.eval x = .slice ad m c) (hsrc : Src w ad m c zs) (hm : m ≤ 20000) (hbase : base ≤ w.heap.size)
    (h : ∀ g cap w', w'.ownsRow base e 1 (.slice (some ⟨g, 0, none⟩) m cap) m (zs.map (Value.int .i64)) → w.grownBy w' (some g0) → (g = g0 ∨ g = w.heap.size) → K (a.put o.dst (.slice (some ⟨g, 0, none⟩) m cap)) w') : o.wp P a w K Q := by
  obtain ⟨hrow, hk⟩ := hsrc
  have hlen := hrow.len
  rcases hk with ⟨ad, rfl⟩ | ⟨rfl, rfl⟩
  · refine wp_append_some w s x t ho base e i (.int .i64 0) 1 8 ht hi hz hsize hby rfl (by decide) g0 0 0 [] hs hown ad m c (zs.map (Value.int .i64)) hx (by simp [hlen]) (row_news hrow) (ints_one _) (by unfold maxLen; omega) (by omega) hbase ?_
    intro g d w' ho' hg hat
    rw [Nat.zero_add] at ho' ⊢
    exact h g d w' (by simpa using ho') hg hat
  · have hrun := run_append_nocap (P := P) (w := w) base t o.type e i 1 ht hi _ 0 [] hown c
    obtain rfl : zs = [] := List.length_eq_zero_iff.1 hlen
    unfold Oper.wp execOp
    simp only [ho, resolve, invoke, builtin, Sem.run_bind, Sem.run_pure, Result.andThen_ok, List.map_toArray, List.map_cons, List.map_nil, hs, hx, hrun]
    exact h g0 0 w hown ⟨rfl, rfl, rfl, Nat.le_refl _, fun _ _ _ => rfl⟩ (.inl rfl)
structure LwS (W : World) (p q : Nat) (c : Bool) (s1 s2 : Option Addr) (n1 n2 c1 c2 : Nat) (sh dt : List Int) (A B gA gB dA dB : Nat) (a : Act) (wx : World) : Prop where
  low : Below W.heap.size W wx
  size : 14 ≤ a.tmps.size
  df : a.defers = []
  e2 : a.eval (.tmp 2) = .pointer (some ⟨q, 0, none⟩)
  e4 : a.eval (.tmp 4) = .bool c
  e7 : a.eval (.tmp 7) = .slice s1 n1 c1
  e11 : a.eval (.tmp 11) = .slice s2 n2 c2
  a1 : A = 1 → a.eval (.tmp 5) = .slice (some ⟨gA, 0, none⟩) 0 0 ∧ wx.ownsRow W.heap.size 3 1 (.slice (some ⟨gA, 0, none⟩) 0 0) 0 []
  a2 : A = 2 → a.eval (.tmp 8) = .slice (some ⟨gA, 0, none⟩) n1 dA ∧ wx.ownsRow W.heap.size 3 1 (.slice (some ⟨gA, 0, none⟩) n1 dA) n1 (sh.map (Value.int .i64))
  b1 : B = 1 → a.eval (.tmp 9) = .slice (some ⟨gB, 0, none⟩) 0 0 ∧ wx.ownsRow W.heap.size 3 1 (.slice (some ⟨gB, 0, none⟩) 0 0) 0 []
  b2 : B = 2 → a.eval (.tmp 12) = .slice (some ⟨gB, 0, none⟩) n2 dB ∧ wx.ownsRow W.heap.size 3 1 (.slice (some ⟨gB, 0, none⟩) n2 dB) n2 (dt.map (Value.int .i64))
  la : A ≠ 0 → gA < wx.heap.size
  lb : B ≠ 0 → gB < wx.heap.size
  ne : A ≠ 0 → B ≠ 0 → gA ≠ gB
section
variable {W wx w' : World} {p q n1 n2 c1 c2 A B gA gB dA dB g d : Nat} {c : Bool} {s1 s2 : Option Addr} {sh dt : List Int} {a : Act}
theorem lw_owns {v : Value} {n : Nat} {xs : List Value} (h : wx.ownsRow W.heap.size 3 1 v n xs) : (wx.alloc (.cells #[] 3)).ownsRow W.heap.size 3 1 v n xs := h.alloc _
theorem lw_grown {n cap k : Nat} {xs : List Value} (h : wx.ownsRow W.heap.size 3 1 (.slice (some ⟨k, 0, none⟩) n cap) n xs) (hg : wx.grownBy w' (some g)) (hk : k ≠ g) : w'.ownsRow W.heap.size 3 1 (.slice (some ⟨k, 0, none⟩) n cap) n xs := by
  refine ⟨h.1, ?_⟩
  rcases h.2 with ⟨e, _⟩ | ⟨g', cap', cur, e, hge, hh, hr⟩
  · cases e
  · cases e
    exact .inr ⟨_, _, cur, rfl, hge, (hg.block _ (lt_of_block hh) (fun e => hk (by simpa using e))).trans hh, hr⟩
theorem lw_low (h : Below W.heap.size W wx) (hg : wx.grownBy w' (some g)) (hge : W.heap.size ≤ g) : Below W.heap.size W w' :=
  ⟨hg.os.trans h.os, hg.tape.trans h.tape, hg.output.trans h.output, Nat.le_trans h.size hg.size, fun k hk => (hg.block k (by have := h.size; omega) (fun e => by have := (Option.some.inj e : k = g); omega)).trans (h.block k hk)⟩
theorem lw_from {n cap k : Nat} {xs : List Value} (h : wx.ownsRow W.heap.size 3 1 (.slice (some ⟨k, 0, none⟩) n cap) n xs) : W.heap.size ≤ k := by
  rcases h.2 with ⟨e, _⟩ | ⟨g', cap', cur, e, hge, hh, hr⟩
  · cases e
  · cases e; exact hge
theorem lw_lt {n cap k : Nat} {xs : List Value} (h : wx.ownsRow W.heap.size 3 1 (.slice (some ⟨k, 0, none⟩) n cap) n xs) : k < wx.heap.size := by
  rcases h.2 with ⟨e, _⟩ | ⟨g', cap', cur, e, hge, hh, hr⟩
  · cases e
  · cases e; exact lt_of_block hh
theorem LwS.buildA (h : LwS W p q c s1 s2 n1 n2 c1 c2 sh dt 0 B gA gB dA dB a wx) : LwS W p q c s1 s2 n1 n2 c1 c2 sh dt 1 B wx.heap.size gB dA dB (a.put (some 5) (.slice (some ⟨wx.heap.size, 0, none⟩) 0 0)) (wx.alloc (.cells #[] 3)) :=
  ⟨h.low.alloc h.low.size _, by rw [put_size]; exact h.size, by rw [put_defers]; exact h.df, by rw [eval_ne (by decide)]; exact h.e2, by rw [eval_ne (by decide)]; exact h.e4, by rw [eval_ne (by decide)]; exact h.e7, by rw [eval_ne (by decide)]; exact h.e11,
    fun _ => ⟨eval_eq (by have := h.size; omega), (Blk.new wx).owns h.low.size⟩, fun e => by omega,
    fun e => ⟨by rw [eval_ne (by decide)]; exact (h.b1 e).1, lw_owns (h.b1 e).2⟩, fun e => ⟨by rw [eval_ne (by decide)]; exact (h.b2 e).1, lw_owns (h.b2 e).2⟩,
    fun _ => by simp, fun e => by have := h.lb e; simp; omega, fun _ e => by have := h.lb e; omega⟩
theorem LwS.buildB (h : LwS W p q c s1 s2 n1 n2 c1 c2 sh dt A 0 gA gB dA dB a wx) : LwS W p q c s1 s2 n1 n2 c1 c2 sh dt A 1 gA wx.heap.size dA dB (a.put (some 9) (.slice (some ⟨wx.heap.size, 0, none⟩) 0 0)) (wx.alloc (.cells #[] 3)) :=
  ⟨h.low.alloc h.low.size _, by rw [put_size]; exact h.size, by rw [put_defers]; exact h.df, by rw [eval_ne (by decide)]; exact h.e2, by rw [eval_ne (by decide)]; exact h.e4, by rw [eval_ne (by decide)]; exact h.e7, by rw [eval_ne (by decide)]; exact h.e11,
    fun e => ⟨by rw [eval_ne (by decide)]; exact (h.a1 e).1, lw_owns (h.a1 e).2⟩, fun e => ⟨by rw [eval_ne (by decide)]; exact (h.a2 e).1, lw_owns (h.a2 e).2⟩,
    fun _ => ⟨eval_eq (by have := h.size; omega), (Blk.new wx).owns h.low.size⟩, fun e => by omega,
    fun e => by have := h.la e; simp; omega, fun _ => by simp, fun e _ => by have := h.la e; omega⟩
theorem LwS.appA (h : LwS W p q c s1 s2 n1 n2 c1 c2 sh dt 1 B gA gB dA dB a wx) (ho : w'.ownsRow W.heap.size 3 1 (.slice (some ⟨g, 0, none⟩) n1 d) n1 (sh.map (Value.int .i64))) (hg : wx.grownBy w' (some gA)) (hat : g = gA ∨ g = wx.heap.size) : LwS W p q c s1 s2 n1 n2 c1 c2 sh dt 2 B g gB d dB (a.put (some 8) (.slice (some ⟨g, 0, none⟩) n1 d)) w' :=
  ⟨lw_low h.low hg (lw_from (h.a1 rfl).2), by rw [put_size]; exact h.size, by rw [put_defers]; exact h.df, by rw [eval_ne (by decide)]; exact h.e2, by rw [eval_ne (by decide)]; exact h.e4, by rw [eval_ne (by decide)]; exact h.e7, by rw [eval_ne (by decide)]; exact h.e11,
    fun e => by omega, fun _ => ⟨eval_eq (by have := h.size; omega), ho⟩,
    fun e => ⟨by rw [eval_ne (by decide)]; exact (h.b1 e).1, lw_grown (h.b1 e).2 hg (h.ne (by omega) (by omega)).symm⟩, fun e => ⟨by rw [eval_ne (by decide)]; exact (h.b2 e).1, lw_grown (h.b2 e).2 hg (h.ne (by omega) (by omega)).symm⟩,
    fun _ => lw_lt ho, fun e => Nat.lt_of_lt_of_le (h.lb e) hg.size, fun _ e => by have h1 := h.lb e; have h2 := h.ne (by omega) e; rcases hat with rfl | rfl <;> omega⟩
theorem LwS.appB (h : LwS W p q c s1 s2 n1 n2 c1 c2 sh dt A 1 gA gB dA dB a wx) (ho : w'.ownsRow W.heap.size 3 1 (.slice (some ⟨g, 0, none⟩) n2 d) n2 (dt.map (Value.int .i64))) (hg : wx.grownBy w' (some gB)) (hat : g = gB ∨ g = wx.heap.size) : LwS W p q c s1 s2 n1 n2 c1 c2 sh dt A 2 gA g dA d (a.put (some 12) (.slice (some ⟨g, 0, none⟩) n2 d)) w' :=
  ⟨lw_low h.low hg (lw_from (h.b1 rfl).2), by rw [put_size]; exact h.size, by rw [put_defers]; exact h.df, by rw [eval_ne (by decide)]; exact h.e2, by rw [eval_ne (by decide)]; exact h.e4, by rw [eval_ne (by decide)]; exact h.e7, by rw [eval_ne (by decide)]; exact h.e11,
    fun e => ⟨by rw [eval_ne (by decide)]; exact (h.a1 e).1, lw_grown (h.a1 e).2 hg (h.ne (by omega) (by omega))⟩, fun e => ⟨by rw [eval_ne (by decide)]; exact (h.a2 e).1, lw_grown (h.a2 e).2 hg (h.ne (by omega) (by omega))⟩,
    fun e => by omega, fun _ => ⟨eval_eq (by have := h.size; omega), ho⟩,
    fun e => Nat.lt_of_lt_of_le (h.la e) hg.size, fun _ => lw_lt ho, fun e _ => by have h1 := h.la e; have h2 := h.ne e (by omega); rcases hat with rfl | rfl <;> omega⟩
end
section
variable {Q : Exit → Act → World → Prop} (W : World) (p q : Nat) (c : Bool) (s1 s2 : Option Addr) (n1 n2 c1 c2 : Nat) (sh dt : List Int)
theorem lw_22 (u1 u2 : Value) (hq : Box W q false u1 u2) (hend : ∀ a g1 g2 d1 d2 wx, LwS W p q c s1 s2 n1 n2 c1 c2 sh dt 2 2 g1 g2 d1 d2 a wx → Q .normal (a.put (some 13) (.agg #[.bool c, .slice (some ⟨g1, 0, none⟩) n1 d1, .slice (some ⟨g2, 0, none⟩) n2 d2])) (((wx.setCell ⟨q, 0, none⟩ (.bool c)).setCell ⟨q, 1, none⟩ (.slice (some ⟨g1, 0, none⟩) n1 d1)).setCell ⟨q, 2, none⟩ (.slice (some ⟨g2, 0, none⟩) n2 d2))) (a : Act) (gA gB dA dB : Nat) (wx : World) (h : LwS W p q c s1 s2 n1 n2 c1 c2 sh dt 2 2 gA gB dA dB a wx) : wpAnyL Tryz.prog .any opsLw Q (fun wx => Below W.heap.size W wx) 11 2 #[true, true, true, true, true, true, true, true, true, true, false, false] a wx := by
  refine wpAnyL_one (i := 10) (by kernel_rfl) ?_
  refine op_wp (o := oLw_10) rfl (wanted_free rfl) ?_
  unfold Oper.wp
  rw [rgStruct (o := oLw_10) 4 8 12 rfl h.e4 (h.a2 rfl).1 (h.b2 rfl).1 wx]
  refine ⟨fun _ => h.low, ?_⟩
  show wpAnyL _ _ _ _ _ _ (0 + 1) _ (Act.put _ (some 13) _) _
  refine wpAnyL_one (i := 11) (by kernel_rfl) ?_
  refine op_wp (o := oLw_11) rfl (wanted_free rfl) ?_
  unfold Oper.wp
  rw [rgStoreA (o := oLw_11) (.tmp 2) (.tmp 13) q (c' := c) (s1 := some ⟨gA, 0, none⟩) (s2 := some ⟨gB, 0, none⟩) (m1 := n1) (d1 := dA) (m2 := n2) (d2 := dB) rfl (by rw [eval_ne (by decide)]; exact h.e2) (eval_eq (by have := h.size; omega)) wx (hq.below (Nat.le_refl _) h.low)]
  refine ⟨fun h => absurd rfl h, ?_⟩
  refine wpAnyL_done (by kernel_rfl) ?_ _
  rw [show oLw_11.dst = none from rfl, put_nothing]
  exact hend a gA gB dA dB wx h
theorem lw_21 (r2 : Src W s2 n2 c2 dt) (h2 : n2 ≤ 20000) (u1 u2 : Value) (hq : Box W q false u1 u2) (hend : ∀ a g1 g2 d1 d2 wx, LwS W p q c s1 s2 n1 n2 c1 c2 sh dt 2 2 g1 g2 d1 d2 a wx → Q .normal (a.put (some 13) (.agg #[.bool c, .slice (some ⟨g1, 0, none⟩) n1 d1, .slice (some ⟨g2, 0, none⟩) n2 d2])) (((wx.setCell ⟨q, 0, none⟩ (.bool c)).setCell ⟨q, 1, none⟩ (.slice (some ⟨g1, 0, none⟩) n1 d1)).setCell ⟨q, 2, none⟩ (.slice (some ⟨g2, 0, none⟩) n2 d2))) (a : Act) (gA gB dA dB : Nat) (wx : World) (h : LwS W p q c s1 s2 n1 n2 c1 c2 sh dt 2 1 gA gB dA dB a wx) : wpAnyL Tryz.prog .any opsLw Q (fun wx => Below W.heap.size W wx) 11 3 #[true, true, true, true, true, true, true, true, true, false, false, false] a wx := by
  obtain ⟨i0, hi, hz0, hz1, hz2⟩ := info_parts info_int
  refine wpAnyL_one (i := 9) (by kernel_rfl) ?_
  ·
    have hL : (#[true, true, true, true, true, true, true, true, true, false, false, false] : Array Bool).setIfInBounds 9 true = #[true, true, true, true, true, true, true, true, true, true, false, false] := by kernel_rfl
    refine op_wp (o := oLw_9) rfl (wanted_free rfl) ?_
    have hrow := r2.below (Nat.le_refl _) h.low
    refine wp_append_src wx (.tmp 9) (.tmp 11) 23 rfl W.heap.size 3 i0 Tryz.underlying23 hi hz0 hz1 hz2 gB (h.b1 rfl).1 (h.b1 rfl).2 s2 n2 c2 dt h.e11 hrow (by omega) h.low.size ?_
    intro g d w' ho hg hat
    have h' := h.appB ho hg hat
    refine ⟨fun _ => h'.low, ?_⟩
    rw [hL]
    exact lw_22 W p q c s1 s2 n1 n2 c1 c2 sh dt u1 u2 hq hend _ _ _ _ _ _ h'
theorem lw_20 (r2 : Src W s2 n2 c2 dt) (h2 : n2 ≤ 20000) (u1 u2 : Value) (hq : Box W q false u1 u2) (hend : ∀ a g1 g2 d1 d2 wx, LwS W p q c s1 s2 n1 n2 c1 c2 sh dt 2 2 g1 g2 d1 d2 a wx → Q .normal (a.put (some 13) (.agg #[.bool c, .slice (some ⟨g1, 0, none⟩) n1 d1, .slice (some ⟨g2, 0, none⟩) n2 d2])) (((wx.setCell ⟨q, 0, none⟩ (.bool c)).setCell ⟨q, 1, none⟩ (.slice (some ⟨g1, 0, none⟩) n1 d1)).setCell ⟨q, 2, none⟩ (.slice (some ⟨g2, 0, none⟩) n2 d2))) (a : Act) (gA gB dA dB : Nat) (wx : World) (h : LwS W p q c s1 s2 n1 n2 c1 c2 sh dt 2 0 gA gB dA dB a wx) : wpAnyL Tryz.prog .any opsLw Q (fun wx => Below W.heap.size W wx) 11 4 #[true, true, true, true, true, true, false, true, true, false, false, false] a wx := by
  obtain ⟨i0, hi, hz0, hz1, hz2⟩ := info_parts info_int
  refine wpAnyL_one (i := 6) (by kernel_rfl) ?_
  ·
    have hL : (#[true, true, true, true, true, true, false, true, true, false, false, false] : Array Bool).setIfInBounds 6 true = #[true, true, true, true, true, true, true, true, true, false, false, false] := by kernel_rfl
    refine op_wp (o := oLw_6) rfl (wanted_free rfl) ?_
    unfold Oper.wp
    rw [rgS0 (o := oLw_6) rfl wx]
    refine ⟨fun _ => h.buildB.low, ?_⟩
    rw [hL]
    exact lw_21 W p q c s1 s2 n1 n2 c1 c2 sh dt r2 h2 u1 u2 hq hend _ _ _ _ _ _ h.buildB
theorem lw_11 (r1 : Src W s1 n1 c1 sh) (r2 : Src W s2 n2 c2 dt) (h1 : n1 ≤ 20000) (h2 : n2 ≤ 20000) (u1 u2 : Value) (hq : Box W q false u1 u2) (hend : ∀ a g1 g2 d1 d2 wx, LwS W p q c s1 s2 n1 n2 c1 c2 sh dt 2 2 g1 g2 d1 d2 a wx → Q .normal (a.put (some 13) (.agg #[.bool c, .slice (some ⟨g1, 0, none⟩) n1 d1, .slice (some ⟨g2, 0, none⟩) n2 d2])) (((wx.setCell ⟨q, 0, none⟩ (.bool c)).setCell ⟨q, 1, none⟩ (.slice (some ⟨g1, 0, none⟩) n1 d1)).setCell ⟨q, 2, none⟩ (.slice (some ⟨g2, 0, none⟩) n2 d2))) (a : Act) (gA gB dA dB : Nat) (wx : World) (h : LwS W p q c s1 s2 n1 n2 c1 c2 sh dt 1 1 gA gB dA dB a wx) : wpAnyL Tryz.prog .any opsLw Q (fun wx => Below W.heap.size W wx) 11 4 #[true, true, true, true, true, false, true, true, true, false, false, false] a wx := by
  obtain ⟨i0, hi, hz0, hz1, hz2⟩ := info_parts info_int
  refine wpAnyL_one (i := 5) (by kernel_rfl) ?_
  ·
    have hL : (#[true, true, true, true, true, false, true, true, true, false, false, false] : Array Bool).setIfInBounds 5 true = #[true, true, true, true, true, true, true, true, true, false, false, false] := by kernel_rfl
    refine op_wp (o := oLw_5) rfl (wanted_free rfl) ?_
    have hrow := r1.below (Nat.le_refl _) h.low
    refine wp_append_src wx (.tmp 5) (.tmp 7) 23 rfl W.heap.size 3 i0 Tryz.underlying23 hi hz0 hz1 hz2 gA (h.a1 rfl).1 (h.a1 rfl).2 s1 n1 c1 sh h.e7 hrow (by omega) h.low.size ?_
    intro g d w' ho hg hat
    have h' := h.appA ho hg hat
    refine ⟨fun _ => h'.low, ?_⟩
    rw [hL]
    exact lw_21 W p q c s1 s2 n1 n2 c1 c2 sh dt r2 h2 u1 u2 hq hend _ _ _ _ _ _ h'
theorem lw_10 (r1 : Src W s1 n1 c1 sh) (r2 : Src W s2 n2 c2 dt) (h1 : n1 ≤ 20000) (h2 : n2 ≤ 20000) (u1 u2 : Value) (hq : Box W q false u1 u2) (hend : ∀ a g1 g2 d1 d2 wx, LwS W p q c s1 s2 n1 n2 c1 c2 sh dt 2 2 g1 g2 d1 d2 a wx → Q .normal (a.put (some 13) (.agg #[.bool c, .slice (some ⟨g1, 0, none⟩) n1 d1, .slice (some ⟨g2, 0, none⟩) n2 d2])) (((wx.setCell ⟨q, 0, none⟩ (.bool c)).setCell ⟨q, 1, none⟩ (.slice (some ⟨g1, 0, none⟩) n1 d1)).setCell ⟨q, 2, none⟩ (.slice (some ⟨g2, 0, none⟩) n2 d2))) (a : Act) (gA gB dA dB : Nat) (wx : World) (h : LwS W p q c s1 s2 n1 n2 c1 c2 sh dt 1 0 gA gB dA dB a wx) : wpAnyL Tryz.prog .any opsLw Q (fun wx => Below W.heap.size W wx) 11 5 #[true, true, true, true, true, false, false, true, true, false, false, false] a wx := by
  obtain ⟨i0, hi, hz0, hz1, hz2⟩ := info_parts info_int
  refine wpAnyL_two (i := 5) (j := 6) (by kernel_rfl) ?_ ?_
  ·
    have hL : (#[true, true, true, true, true, false, false, true, true, false, false, false] : Array Bool).setIfInBounds 5 true = #[true, true, true, true, true, true, false, true, true, false, false, false] := by kernel_rfl
    refine op_wp (o := oLw_5) rfl (wanted_free rfl) ?_
    have hrow := r1.below (Nat.le_refl _) h.low
    refine wp_append_src wx (.tmp 5) (.tmp 7) 23 rfl W.heap.size 3 i0 Tryz.underlying23 hi hz0 hz1 hz2 gA (h.a1 rfl).1 (h.a1 rfl).2 s1 n1 c1 sh h.e7 hrow (by omega) h.low.size ?_
    intro g d w' ho hg hat
    have h' := h.appA ho hg hat
    refine ⟨fun _ => h'.low, ?_⟩
    rw [hL]
    exact lw_20 W p q c s1 s2 n1 n2 c1 c2 sh dt r2 h2 u1 u2 hq hend _ _ _ _ _ _ h'
  ·
    have hL : (#[true, true, true, true, true, false, false, true, true, false, false, false] : Array Bool).setIfInBounds 6 true = #[true, true, true, true, true, false, true, true, true, false, false, false] := by kernel_rfl
    refine op_wp (o := oLw_6) rfl (wanted_free rfl) ?_
    unfold Oper.wp
    rw [rgS0 (o := oLw_6) rfl wx]
    refine ⟨fun _ => h.buildB.low, ?_⟩
    rw [hL]
    exact lw_11 W p q c s1 s2 n1 n2 c1 c2 sh dt r1 r2 h1 h2 u1 u2 hq hend _ _ _ _ _ _ h.buildB
theorem lw_01 (r1 : Src W s1 n1 c1 sh) (r2 : Src W s2 n2 c2 dt) (h1 : n1 ≤ 20000) (h2 : n2 ≤ 20000) (u1 u2 : Value) (hq : Box W q false u1 u2) (hend : ∀ a g1 g2 d1 d2 wx, LwS W p q c s1 s2 n1 n2 c1 c2 sh dt 2 2 g1 g2 d1 d2 a wx → Q .normal (a.put (some 13) (.agg #[.bool c, .slice (some ⟨g1, 0, none⟩) n1 d1, .slice (some ⟨g2, 0, none⟩) n2 d2])) (((wx.setCell ⟨q, 0, none⟩ (.bool c)).setCell ⟨q, 1, none⟩ (.slice (some ⟨g1, 0, none⟩) n1 d1)).setCell ⟨q, 2, none⟩ (.slice (some ⟨g2, 0, none⟩) n2 d2))) (a : Act) (gA gB dA dB : Nat) (wx : World) (h : LwS W p q c s1 s2 n1 n2 c1 c2 sh dt 0 1 gA gB dA dB a wx) : wpAnyL Tryz.prog .any opsLw Q (fun wx => Below W.heap.size W wx) 11 5 #[true, true, false, true, true, false, true, true, true, false, false, false] a wx := by
  obtain ⟨i0, hi, hz0, hz1, hz2⟩ := info_parts info_int
  refine wpAnyL_one (i := 2) (by kernel_rfl) ?_
  ·
    have hL : (#[true, true, false, true, true, false, true, true, true, false, false, false] : Array Bool).setIfInBounds 2 true = #[true, true, true, true, true, false, true, true, true, false, false, false] := by kernel_rfl
    refine op_wp (o := oLw_2) rfl (wanted_free rfl) ?_
    unfold Oper.wp
    rw [rgS0 (o := oLw_2) rfl wx]
    refine ⟨fun _ => h.buildA.low, ?_⟩
    rw [hL]
    exact lw_11 W p q c s1 s2 n1 n2 c1 c2 sh dt r1 r2 h1 h2 u1 u2 hq hend _ _ _ _ _ _ h.buildA
theorem lw_00 (r1 : Src W s1 n1 c1 sh) (r2 : Src W s2 n2 c2 dt) (h1 : n1 ≤ 20000) (h2 : n2 ≤ 20000) (u1 u2 : Value) (hq : Box W q false u1 u2) (hend : ∀ a g1 g2 d1 d2 wx, LwS W p q c s1 s2 n1 n2 c1 c2 sh dt 2 2 g1 g2 d1 d2 a wx → Q .normal (a.put (some 13) (.agg #[.bool c, .slice (some ⟨g1, 0, none⟩) n1 d1, .slice (some ⟨g2, 0, none⟩) n2 d2])) (((wx.setCell ⟨q, 0, none⟩ (.bool c)).setCell ⟨q, 1, none⟩ (.slice (some ⟨g1, 0, none⟩) n1 d1)).setCell ⟨q, 2, none⟩ (.slice (some ⟨g2, 0, none⟩) n2 d2))) (a : Act) (gA gB dA dB : Nat) (wx : World) (h : LwS W p q c s1 s2 n1 n2 c1 c2 sh dt 0 0 gA gB dA dB a wx) : wpAnyL Tryz.prog .any opsLw Q (fun wx => Below W.heap.size W wx) 11 6 #[true, true, false, true, true, false, false, true, true, false, false, false] a wx := by
  obtain ⟨i0, hi, hz0, hz1, hz2⟩ := info_parts info_int
  refine wpAnyL_two (i := 2) (j := 6) (by kernel_rfl) ?_ ?_
  ·
    have hL : (#[true, true, false, true, true, false, false, true, true, false, false, false] : Array Bool).setIfInBounds 2 true = #[true, true, true, true, true, false, false, true, true, false, false, false] := by kernel_rfl
    refine op_wp (o := oLw_2) rfl (wanted_free rfl) ?_
    unfold Oper.wp
    rw [rgS0 (o := oLw_2) rfl wx]
    refine ⟨fun _ => h.buildA.low, ?_⟩
    rw [hL]
    exact lw_10 W p q c s1 s2 n1 n2 c1 c2 sh dt r1 r2 h1 h2 u1 u2 hq hend _ _ _ _ _ _ h.buildA
  ·
    have hL : (#[true, true, false, true, true, false, false, true, true, false, false, false] : Array Bool).setIfInBounds 6 true = #[true, true, false, true, true, false, true, true, true, false, false, false] := by kernel_rfl
    refine op_wp (o := oLw_6) rfl (wanted_free rfl) ?_
    unfold Oper.wp
    rw [rgS0 (o := oLw_6) rfl wx]
    refine ⟨fun _ => h.buildB.low, ?_⟩
    rw [hL]
    exact lw_01 W p q c s1 s2 n1 n2 c1 c2 sh dt r1 r2 h1 h2 u1 u2 hq hend _ _ _ _ _ _ h.buildB
theorem regionLw (r1 : Src W s1 n1 c1 sh) (r2 : Src W s2 n2 c2 dt) (h1 : n1 ≤ 20000) (h2 : n2 ≤ 20000) (u1 u2 : Value) (hq : Box W q false u1 u2) (hend : ∀ a g1 g2 d1 d2 wx, LwS W p q c s1 s2 n1 n2 c1 c2 sh dt 2 2 g1 g2 d1 d2 a wx → Q .normal (a.put (some 13) (.agg #[.bool c, .slice (some ⟨g1, 0, none⟩) n1 d1, .slice (some ⟨g2, 0, none⟩) n2 d2])) (((wx.setCell ⟨q, 0, none⟩ (.bool c)).setCell ⟨q, 1, none⟩ (.slice (some ⟨g1, 0, none⟩) n1 d1)).setCell ⟨q, 2, none⟩ (.slice (some ⟨g2, 0, none⟩) n2 d2))) (a : Act) (hsz : 14 ≤ a.tmps.size) (hdf : a.defers = []) (h1p : a.eval (.tmp 1) = .pointer (some ⟨p, 0, none⟩)) (h2q : a.eval (.tmp 2) = .pointer (some ⟨q, 0, none⟩)) (hp : Box W p c (.slice s1 n1 c1) (.slice s2 n2 c2)) (hQ : ∀ c a (d : Nat) v w, Q (.panic c) (a.put (some d) v) w → Q (.panic c) a w) :
    (Code.region 1 opsLw true).wp Tryz.prog Q a W := by
  have hb0 : Below W.heap.size W W.drew := (Below.refl _ _).drew
  have hS0 : (fun wx => Below W.heap.size W wx) W.drew := hb0
  have hS : ∀ w, Below W.heap.size W w → _ := fun w hw => (hp.below (Nat.le_refl _) hw).cells
  refine wp_region_L (fun wx => Below W.heap.size W wx) 11 (by kernel_rfl) ?_
  show wpAnyL _ _ _ _ _ _ (11 + 1) _ _ W.drew
  refine wpAnyL_put 0 3 (.pointer (some ⟨p, 0, none⟩)) (oi := oLw_0) rfl rfl (by kernel_rfl) (by kernel_rfl) (by kernel_rfl) (by kernel_rfl) hQ (wanted_free rfl) (fun w hw => rgF0 (.tmp 1) p rfl h1p w) hS0 ?_
  refine wpAnyL_put 1 4 (.bool c) (oi := oLw_1) rfl rfl (by kernel_rfl) (by kernel_rfl) (by kernel_rfl) (by kernel_rfl) hQ (wanted_free rfl) (fun w hw => rgBool (.tmp 3) _ rfl (eval_eq (by omega)) w (hS w hw).1) hS0 ?_
  refine wpAnyL_put 3 6 (.pointer (some ⟨p, 1, none⟩)) (oi := oLw_3) rfl rfl (by kernel_rfl) (by kernel_rfl) (by kernel_rfl) (by kernel_rfl) hQ (wanted_free rfl) (fun w hw => rgF1 (.tmp 1) p rfl (by rw [eval_ne (by decide), eval_ne (by decide)]; exact h1p) w) hS0 ?_
  refine wpAnyL_put 4 7 (.slice s1 n1 c1) (oi := oLw_4) rfl rfl (by kernel_rfl) (by kernel_rfl) (by kernel_rfl) (by kernel_rfl) hQ (wanted_free rfl) (fun w hw => rgL (.tmp 6) _ rfl (eval_eq (by rw [put_size, put_size]; omega)) w (hS w hw).2.1) hS0 ?_
  refine wpAnyL_put 7 10 (.pointer (some ⟨p, 2, none⟩)) (oi := oLw_7) rfl rfl (by kernel_rfl) (by kernel_rfl) (by kernel_rfl) (by kernel_rfl) hQ (wanted_free rfl) (fun w hw => rgF2 (.tmp 1) p rfl (by rw [eval_ne (by decide), eval_ne (by decide), eval_ne (by decide), eval_ne (by decide)]; exact h1p) w) hS0 ?_
  refine wpAnyL_put 8 11 (.slice s2 n2 c2) (oi := oLw_8) rfl rfl (by kernel_rfl) (by kernel_rfl) (by kernel_rfl) (by kernel_rfl) hQ (wanted_free rfl) (fun w hw => rgL (.tmp 10) _ rfl (eval_eq (by rw [put_size, put_size, put_size, put_size]; omega)) w (hS w hw).2.2) hS0 ?_
  have hL : ((((((Array.replicate opsLw.size false).setIfInBounds 0 true).setIfInBounds 1 true).setIfInBounds 3 true).setIfInBounds 4 true).setIfInBounds 7 true).setIfInBounds 8 true = #[true, true, false, true, true, false, false, true, true, false, false, false] := by kernel_rfl
  rw [hL]
  refine lw_00 W p q c s1 s2 n1 n2 c1 c2 sh dt r1 r2 h1 h2 u1 u2 hq hend _ 0 0 0 0 _ ⟨hb0, by rw [put_size, put_size, put_size, put_size, put_size, put_size]; exact hsz, by rw [put_defers, put_defers, put_defers, put_defers, put_defers, put_defers]; exact hdf, (by rw [eval_ne (by decide), eval_ne (by decide), eval_ne (by decide), eval_ne (by decide), eval_ne (by decide), eval_ne (by decide)]; exact h2q), (by rw [eval_ne (by decide), eval_ne (by decide), eval_ne (by decide), eval_ne (by decide)]; exact eval_eq (by rw [put_size]; omega)), (by rw [eval_ne (by decide), eval_ne (by decide)]; exact eval_eq (by rw [put_size, put_size, put_size]; omega)), (eval_eq (by rw [put_size, put_size, put_size, put_size, put_size]; omega)), fun e => by omega, fun e => by omega, fun e => by omega, fun e => by omega, fun e => absurd rfl e, fun e => absurd rfl e, fun e => absurd rfl e⟩
end
end Go.Proofs.YtgjpchnkodnieaaGreatDoor
