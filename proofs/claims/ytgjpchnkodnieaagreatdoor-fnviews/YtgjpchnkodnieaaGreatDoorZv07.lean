import Derived.Test.YtgjpchnkodnieaaGreatDoorZv06
import Derived.Test.YtgjpchnkodnieaaGreatDoorZv01
import Derived.Test.YtgjpchnkodnieaaGreatDoorZv02
import Derived.Test.YtgjpchnkodnieaaGreatDoorZv05
import Derived.Test.YtgjpchnkodnieaaGreatDoorZv04
import Derived.WalkSpells
import Derived.Lib.SliceRun
import Derived.Laws.OwnMore
import Derived.Laws.AppendOwnNone
namespace Go.Proofs.YtgjpchnkodnieaaGreatDoor
theorem pick_five {p : PartD} {L : Int} (h : pickCode p L = 0) : (pickSh p L).length ≤ 5 := by
  rcases pick_ok h with ha | ⟨ha, h2, _, _⟩
  · rw [pickSh_all ha]; simp
  · rw [pickSh_not ha]; exact (shapeIn_of h2).2.2
theorem parts_code {sh : List Int} {ps : List PartD} {r : Int} (h : picksCode sh ps = r) (h0 : r ≠ 0) : partsCode sh ps = r := by unfold partsCode; rw [h, if_pos h0]
theorem parts_seven {sh : List Int} {ps : List PartD} (h : picksCode sh ps = 0) (h0 : shapeB (pSh sh ps) = false) : partsCode sh ps = 7 := by unfold partsCode; rw [h, if_neg (by simp), if_neg (by simp [h0])]
theorem parts_zero {sh : List Int} {ps : List PartD} (h : picksCode sh ps = 0) (h0 : shapeB (pSh sh ps) = true) : partsCode sh ps = 0 := by unfold partsCode; rw [h, if_neg (by simp), if_pos h0]
end Go.Proofs.YtgjpchnkodnieaaGreatDoor
namespace Go.Proofs.YtgjpchnkodnieaaGreatDoor
structure AxisIs (sh : List Int) (fl : Bool) (B L A : Nat) : Prop where
  b : axisB sh fl = B
  l : axisN sh fl = L
  a : axisA sh fl = A
end Go.Proofs.YtgjpchnkodnieaaGreatDoor
namespace Go.Proofs.YtgjpchnkodnieaaGreatDoor
theorem inside_of {sh ix : List Int} (h : IxIn sh ix) (k : Nat) (hk : k ≤ sh.length) : insideN sh ix k = true := by
  induction k with
  | zero => rfl
  | succ k ih => exact inside_step (ih (by omega)) (h k (by omega)).1 (h k (by omega)).2
theorem getD_drop (l : List Int) (b m : Nat) : (l.drop b).getD m 0 = l.getD (b + m) 0 := by simp [List.getD]
theorem placeN_add (sh ix : List Int) (b m : Nat) (hm : b + m ≤ sh.length) : placeN sh ix (b + m) = placeN sh ix b * prodAll ((sh.drop b).take m) + placeN (sh.drop b) (ix.drop b) m := by
  induction m with
  | zero => simp [placeN, prodAll]
  | succ m ih =>
    show placeN sh ix (b + m) * sh.getD (b + m) 0 + ix.getD (b + m) 0 = _
    rw [ih (by omega), prodAll_snoc _ _ (by simp; omega)]
    show _ = placeN sh ix b * (prodAll ((sh.drop b).take m) * (sh.drop b).getD m 0) + (placeN (sh.drop b) (ix.drop b) m * (sh.drop b).getD m 0 + (ix.drop b).getD m 0)
    rw [getD_drop, getD_drop, Int.add_mul, Int.mul_assoc, Int.add_assoc]
theorem place_split (sh ix : List Int) (a : Nat) (ha : a < sh.length) : place sh ix = (placeN sh ix a * sh.getD a 0 + ix.getD a 0) * prodAll (sh.drop (a + 1)) + place (sh.drop (a + 1)) (ix.drop (a + 1)) := by
  have h := placeN_add sh ix (a + 1) (sh.length - (a + 1)) (by omega)
  rw [show a + 1 + (sh.length - (a + 1)) = sh.length by omega, List.take_of_length_le (by simp)] at h
  unfold place
  rw [h]
  simp [placeN]
theorem placeN_same {sh x y : List Int} (k : Nat) (h : ∀ i, i < k → x.getD i 0 = y.getD i 0) : placeN sh x k = placeN sh y k := by
  induction k with
  | zero => rfl
  | succ k ih => show placeN sh x k * _ + _ = placeN sh y k * _ + _; rw [ih (fun i hi => h i (by omega)), h k (by omega)]
theorem vals_same {f g : Nat → Int × Int} {n : Nat} (h : ∀ i, i < n → (f i).1 = (g i).1) : vals f n = vals g n := map_range_eq h
end Go.Proofs.YtgjpchnkodnieaaGreatDoor
namespace Go.Proofs.YtgjpchnkodnieaaGreatDoor
theorem count1 {n : Nat} (h : n ≤ 10000) : countOf [(n : Int)] = (n : Int) := by
  have hi : inCells (n : Int) = true := by unfold inCells; simp; omega
  by_cases h0 : n = 0
  · subst h0; decide
  · have hz : ¬ (n : Int) = 0 := by omega
    have hb : ¬ (10000 : Int) < 1 * (n : Int) := by omega
    have hp : prodFrom [(n : Int)] 1 = some (1 * (n : Int)) := by
      unfold prodFrom
      rw [if_neg hz, if_neg hb]
      rfl
    have hm : ¬ (0 : Int) ∈ [(n : Int)] := by simp; omega
    unfold countOf
    rw [if_pos (by simp [hi]), hp]
    simp only [if_neg hm, Int.one_mul]
theorem ok_vec {d : Bool} {dt : List Int} {n : Nat} (hl : dt.length = n) (hn : n ≤ 10000) (h : dt.all (dataOk d) = true) : arrOk d [(n : Int)] dt = true := by
  unfold arrOk
  rw [count1 hn, hl, h]
  simp
end Go.Proofs.YtgjpchnkodnieaaGreatDoor
namespace Go.Proofs.YtgjpchnkodnieaaGreatDoor
open Go.RowKit
theorem Own.of_owns {w : World} {base n : Nat} {v : Value} {zs : List Int} (h : w.ownsRow base 3 1 v n (zs.map (Value.int .i64))) (hs : n ≤ 17592186044416) : ∃ a cap, v = .slice a n cap ∧ Own w base a n zs := by
  have hl : zs.length = n := by simpa using h.1
  rcases h.2 with ⟨rfl, h0⟩ | ⟨g, cap, cur, rfl, hb, hg, _, _, hcs, ht⟩
  · exact ⟨none, 0, by rw [h0], hl, hs, .inl h0⟩
  · refine ⟨some ⟨g, 0, none⟩, cap, rfl, hl, hs, .inr ⟨g, 0, rfl, hb, lt_of_block hg, fun i hi => ?_, fun i hi => frozen_of_row w g _ _ _ hg⟩⟩
    have e : cur.toList[i]? = some (.int .i64 (zs.getD i 0)) := by
      have : (cur.toList.take (n * 1))[i]? = (zs.map (Value.int .i64))[i]? := by rw [ht]
      rw [List.getElem?_take, if_pos (by omega)] at this
      rw [this]
      simp [hl, hi]
    simpa [World.cell?, hg] using e
theorem cells_ints {w : World} {ad : Addr} {n : Nat} {zs : List Int} (h : Row w (some ad) n zs) : ∀ (j : Nat) u, (zs.map (Value.int .i64))[j]? = some u → w.cell? (ad.add j) = some u := by
  intro j u hj
  have hl := h.len
  have hj' : j < n := by
    rcases Nat.lt_or_ge j n with h' | h'
    · exact h'
    · rw [List.getElem?_eq_none (by simp; omega)] at hj; cases hj
  obtain ⟨b, off, hab, hblt, hc⟩ := h.get hj'
  cases hab
  have hadd : (⟨b, off, none⟩ : Addr).add j = ⟨b, off + j, none⟩ := by by_cases h : j = 0 <;> simp [Addr.add, h]
  rw [hadd, hc]
  simpa [hl, hj'] using hj
theorem one_ints (zs : List Int) : ∀ u ∈ zs.map (Value.int .i64), u.oneCell' = true := by
  intro u hu
  obtain ⟨x, _, rfl⟩ := List.mem_map.mp hu
  rfl
theorem owns_empty (w : World) : (w.alloc (.cells #[] 3)).ownsRow w.heap.size 3 1 (.slice (some ⟨w.heap.size, 0, none⟩) 0 0) 0 [] := by
  refine ⟨by simp, .inr ⟨w.heap.size, 0, #[], rfl, Nat.le_refl _, ?_, by simp, by unfold maxLen; omega, by simp, by simp⟩⟩
  show (w.heap.push _)[w.heap.size]? = _
  simp
end Go.Proofs.YtgjpchnkodnieaaGreatDoor
namespace Go.Proofs.YtgjpchnkodnieaaGreatDoor
open Go.RowKit
set_option maxHeartbeats 400000 in
theorem l3ShapeOk_any (a : Option Addr) (n cap : Nat) (sh : List Int) (w : World) (h : Row w a n sh) : Calls Tryz.prog 158 #[.slice a n cap] w fun e w' => e = .returned (.bool (shapeB sh)) ∧ w' = w := by
  have hlen := hide h.len
  have hsm := h.small
  have H := hide h
  clear h
  by_cases h5 : 5 < n
  · have HE := hide (shape_long (unhide hlen) h5)
    go_enter Tryz.func158, Tryz.ntmps158
    go_wp2
    go_ret
    exact ⟨ret_bool HE.out.symm, rfl⟩
  · obtain ⟨cn, hcn⟩ : ∃ cn, countOf sh = cn := ⟨_, rfl⟩
    have HC := hide hcn
    have HE : Hid (shapeB sh = decide (0 ≤ cn)) := by show _ = _; unfold shapeB; rw [decide_eq_true (by rw [unhide hlen]; omega), hcn]; rfl
    clear hcn
    go_enter Tryz.func158, Tryz.ntmps158
    go_wp2_with (go_at_call 48; refine (l3Count_eq _ _ _ sh _ (unhide H) cn HC).mono ?_; rintro e w1 ⟨rfl, rfl⟩)
    go_ret
    exact ⟨ret_bool HE.out.symm, rfl⟩
theorem l3ShapeOk_eq (a : Option Addr) (n cap : Nat) (sh : List Int) (w : World) (h : Row w a n sh) (r : Bool) (hr : Hid (shapeB sh = r)) : Calls Tryz.prog 158 #[.slice a n cap] w fun e w' => e = .returned (.bool r) ∧ w' = w := by
  rw [← hr.out]; exact l3ShapeOk_any a n cap sh w h
end Go.Proofs.YtgjpchnkodnieaaGreatDoor
namespace Go.Proofs.YtgjpchnkodnieaaGreatDoor
def revFrom (n A t : Nat) : Nat := (t / A / n * n + (n - 1 - t / A % n)) * A + t % A
def revAt (n A : Nat) (dt : List Int) (t : Nat) : Int × Int := (dt.getD (revFrom n A t) 0, 0)
theorem revFrom_at {n A p i q : Nat} (hi : i < n) (hq : q < A) : revFrom n A ((p * n + i) * A + q) = (p * n + (n - 1 - i)) * A + q := by
  have hA : 0 < A := by omega
  have hn : 0 < n := by omega
  have e1 : ((p * n + i) * A + q) / A = p * n + i := by rw [Nat.add_comm, Nat.add_mul_div_right _ _ hA, Nat.div_eq_of_lt hq, Nat.zero_add]
  have e2 : ((p * n + i) * A + q) % A = q := by rw [Nat.add_comm, Nat.add_mul_mod_self_right, Nat.mod_eq_of_lt hq]
  have e3 : (p * n + i) / n = p := by rw [Nat.add_comm, Nat.add_mul_div_right _ _ hn, Nat.div_eq_of_lt hi, Nat.zero_add]
  have e4 : (p * n + i) % n = i := by rw [Nat.add_comm, Nat.add_mul_mod_self_right, Nat.mod_eq_of_lt hi]
  unfold revFrom
  rw [e1, e2, e3, e4]
def revF (a n : Nat) (D : List Int) (k : Nat) : Int := if k = a then (n : Int) - 1 - D.getD k 0 else D.getD k 0
theorem rev_gather {d : Bool} {sh dt : List Int} {a : Nat} (hf : Full sh) (ha : a < sh.length) (t : Nat) (ht : (t : Int) < prodAll sh) (n A : Nat) (hn : sh.getD a 0 = n) (hA : prodAll (sh.drop (a + 1)) = A) :
    gatherAt d sh dt (revF a n) sh t = revAt n A dt t := by
  have hn0 : (0 : Int) < n := by rw [← hn]; exact hf a ha
  have hD := digits_in hf (t : Int)
  have hpl := place_digits hf (p := (t : Int)) (by omega) ht
  have hDl := digits_len sh (t : Int)
  obtain ⟨D, hDD⟩ : ∃ D, digits sh (t : Int) = D := ⟨_, rfl⟩
  rw [hDD] at hD hpl hDl
  have hMg := meant_get sh (revF a n) D
  have hMl := meant_len sh (revF a n) D
  obtain ⟨M, hM⟩ : ∃ M, meant sh (revF a n) D = M := ⟨_, rfl⟩
  rw [hM] at hMg hMl
  have hoth : ∀ i, i < sh.length → i ≠ a → M.getD i 0 = D.getD i 0 := fun i hi hne => by rw [hMg i hi]; unfold revF; rw [if_neg hne]
  have hat : M.getD a 0 = (n : Int) - 1 - D.getD a 0 := by rw [hMg a ha]; unfold revF; rw [if_pos rfl]
  have hMin : IxIn sh M := fun i hi => by
    by_cases e : i = a
    · subst e; rw [hat, hn]; have := hD i ha; rw [hn] at this; omega
    · rw [hoth i hi e]; exact hD i hi
  have hdrop : M.drop (a + 1) = D.drop (a + 1) := by
    apply List.ext_getElem
    · simp; omega
    · intro i h1 h2
      have hi : a + 1 + i < sh.length := by simp at h1; omega
      have := hoth (a + 1 + i) hi (by omega)
      simp only [List.getElem_drop]
      simpa [List.getD, show a + 1 + i < M.length by omega, show a + 1 + i < D.length by omega] using this
  have hsp := place_split sh M a ha
  have hsd := place_split sh D a ha
  rw [placeN_same a (fun i hi => hoth i (by omega) (by omega)), hat, hdrop, hn, hA] at hsp
  rw [hpl, hn, hA] at hsd
  have hrest : IxIn (sh.drop (a + 1)) (D.drop (a + 1)) := fun i hi => by
    rw [getD_drop, getD_drop]; exact hD _ (by simp at hi; omega)
  have hq := place_bd hrest
  rw [hA] at hq
  have hP := (placeN_bd hD a (by omega)).1
  have hi := hD a ha
  rw [hn] at hi
  obtain ⟨p, hp⟩ : ∃ p : Nat, placeN sh D a = p := ⟨(placeN sh D a).toNat, by omega⟩
  obtain ⟨i, hi'⟩ : ∃ i : Nat, D.getD a 0 = i := ⟨(D.getD a 0).toNat, by omega⟩
  obtain ⟨q, hq'⟩ : ∃ q : Nat, place (sh.drop (a + 1)) (D.drop (a + 1)) = q := ⟨(place (sh.drop (a + 1)) (D.drop (a + 1))).toNat, by omega⟩
  rw [hp, hi', hq'] at hsd hsp
  rw [hi'] at hi
  rw [hq'] at hq
  have he2 : (n : Int) - 1 - (i : Int) = ((n - 1 - i : Nat) : Int) := by omega
  rw [he2] at hsp
  have hts : t = (p * n + i) * A + q := by exact_mod_cast hsd
  have hfrom := revFrom_at (n := n) (A := A) (p := p) (i := i) (q := q) (by omega) (by omega)
  have hpm : place sh M = ((revFrom n A t : Nat) : Int) := by rw [hts, hfrom, hsp]; push_cast; rfl
  unfold gatherAt revAt
  rw [hDD, hM, if_pos (inside_of hMin _ (Nat.le_refl _)), hpm]
  simp
def revA (c : Bool) (sh dt : List Int) (fl : Bool) : Ans :=
  if sh = [] ∨ dt = [] then ⟨c, sh, dt, 0⟩ else ⟨c, sh, vals (revAt (axisN sh fl).toNat (axisA sh fl).toNat dt) dt.length, 0⟩
theorem revA_none {c fl : Bool} {sh dt : List Int} (h : sh = [] ∨ dt = []) : revA c sh dt fl = ⟨c, sh, dt, 0⟩ := by unfold revA; rw [if_pos h]
theorem revA_go {c fl : Bool} {sh dt : List Int} (h1 : sh ≠ []) (h2 : dt ≠ []) (n A : Nat) (hn : axisN sh fl = n) (hA : axisA sh fl = A) : revA c sh dt fl = ⟨c, sh, vals (revAt n A dt) dt.length, 0⟩ := by
  unfold revA; rw [if_neg (by rintro (h | h); exact h1 h; exact h2 h), hn, hA]; rfl
end Go.Proofs.YtgjpchnkodnieaaGreatDoor
namespace Go.Proofs.YtgjpchnkodnieaaGreatDoor
theorem trans_gather {d : Bool} {dt sh dt' : List Int} (h : orderOk dt sh.length sh.length = true) (hf : Full sh) (k : Nat) : gatherAt d sh dt' (transF dt) (turnN dt sh sh.length sh.length) k = transAt dt sh dt' k := by
  have hD := digits_in (turn_full h rfl hf) (k : Int)
  have hb := back_in h rfl hD
  have e : meant sh (transF dt) (digits (turnN dt sh sh.length sh.length) k) = backIx dt (digits (turnN dt sh sh.length sh.length) k) sh.length := rfl
  unfold gatherAt transAt
  rw [e, if_pos (inside_of hb _ (Nat.le_refl _))]
theorem trans_vals {d : Bool} {dt sh dt' : List Int} (h2 : arrOk d sh dt' = true) (h : orderOk dt sh.length sh.length = true) : vals (gatherAt d sh dt' (transF dt) (turnN dt sh sh.length sh.length)) dt'.length = vals (transAt dt sh dt') dt'.length := by
  obtain ⟨hin, hp, _⟩ := shapeIn_of h2
  by_cases h0 : dt'.length = 0
  · rw [h0]; rfl
  · exact map_range_eq fun k _ => by rw [trans_gather h (full_of hin (by rw [hp]; omega))]
end Go.Proofs.YtgjpchnkodnieaaGreatDoor
namespace Go.Proofs.YtgjpchnkodnieaaGreatDoor
open Go.RowKit
theorem Own.other {w : World} {a : Option Addr} {n C : Nat} {zs : List Int} (h : Own w C a n zs) {q : Addr} (ha : ∀ k, At a n k → k ≠ q.block) (v : Value) : Own (w.setCell q v) C a n zs :=
  ((But.refl (fun k => k = q.block) w).setCell rfl v).own h (fun k hk hk' => ha k hk' hk)
theorem below_append {w w1 : World} {base n : Nat} {v : Value} {xs : List Value} (o : Obj) (hown : w.ownsRow base 3 1 v n xs) (hb : base ≤ w.heap.size) (hg : (w.alloc o).grownBy w1 v.ownBlock) : Below base w w1 :=
  ((Below.refl _ _).alloc hb _).grown hg (by simp; omega) (by
    intro k hk
    rcases hown.2 with ⟨rfl, _⟩ | ⟨g, cap, cur, rfl, hbg, _⟩
    · cases hk
    · cases hk; exact hbg)
theorem owns_slice {w : World} {base e size n : Nat} {v : Value} {xs : List Value} (h : w.ownsRow base e size v n xs) : ∃ a cap, v = .slice a n cap := by
  rcases h.2 with ⟨rfl, h0⟩ | ⟨g, cap, cur, rfl, _⟩
  · exact ⟨none, 0, by rw [h0]⟩
  · exact ⟨_, _, rfl⟩
theorem row_nil (w : World) (a : Option Addr) : Row w a 0 [] := ⟨rfl, by omega, .inl rfl⟩
theorem cells_new (w : World) (x : Int) : ∀ (j : Nat) u, ([.int .i64 x] : List Value)[j]? = some u → (w.alloc (.cells #[.int .i64 x] 3)).cell? ((⟨w.heap.size, 0, none⟩ : Addr).add j) = some u := by
  intro j u hj
  match j, hj with
  | 0, hj => simp at hj; subst hj; simp [Addr.add]
theorem one_one (x : Int) : ∀ u ∈ ([.int .i64 x] : List Value), u.oneCell' = true := by intro u hu; simp at hu; subst hu; rfl
theorem owns_below {w w' : World} {base e size n B : Nat} {v : Value} {xs : List Value} (h : w.ownsRow base e size v n xs) (hB : w.heap.size ≤ B) (hb : Below B w w') : w'.ownsRow base e size v n xs := by
  obtain ⟨h1, h2⟩ := h
  refine ⟨h1, ?_⟩
  rcases h2 with h2 | ⟨g, cap, cur, hv, hg, hh, r⟩
  · exact Or.inl h2
  · exact Or.inr ⟨g, cap, cur, hv, hg, (hb.block g (Nat.lt_of_lt_of_le (lt_of_block hh) hB)).trans hh, r⟩
theorem owns_low_set {w : World} {base n p o : Nat} {v : Value} {xs : List Value} (h : w.ownsRow base 3 1 v n xs) (hp : p < base) (u : Value) : (w.setCell ⟨p, o, none⟩ u).ownsRow base 3 1 v n xs := by
  obtain ⟨h1, h2⟩ := h
  refine ⟨h1, ?_⟩
  rcases h2 with h2 | ⟨g, cap, cur, hv, hg, hh, r⟩
  · exact Or.inl h2
  · refine Or.inr ⟨g, cap, cur, hv, hg, ?_, r⟩
    rw [Below.heap_setCell _ _ _ _ (by
      intro e
      have e' : g = p := e
      omega)]
    exact hh
theorem owns_lt {w : World} {base e size n g : Nat} {v : Value} {xs : List Value} (h : w.ownsRow base e size v n xs) (hg : v.ownBlock = some g) : g < w.heap.size := by
  rcases h.2 with ⟨rfl, _⟩ | ⟨g', cap, cur, rfl, _, hh, _⟩
  · cases hg
  · cases hg; exact lt_of_block hh
theorem owns_mono {w : World} {base base' e size n : Nat} {v : Value} {xs : List Value} (h : w.ownsRow base e size v n xs) (hb : base' ≤ base) : w.ownsRow base' e size v n xs := by
  obtain ⟨h1, h2⟩ := h
  refine ⟨h1, ?_⟩
  rcases h2 with h2 | ⟨g, cap, cur, hv, hg, hh, r⟩
  · exact Or.inl h2
  · exact Or.inr ⟨g, cap, cur, hv, by omega, hh, r⟩
theorem Own.set {w : World} {B g off n k : Nat} {zs : List Int} (h : Own w B (some ⟨g, off, none⟩) n zs) (hk : k < n) (x : Int) : Own (w.setCell ⟨g, off + k, none⟩ (.int .i64 x)) B (some ⟨g, off, none⟩) n (zs.set k x) := by
  refine ⟨by rw [List.length_set]; exact h.len, h.small, ?_⟩
  rcases h.at_ with h0 | ⟨g', off', e, hg, hlt, hc, hf⟩
  · omega
  · cases e
    refine .inr ⟨g, off, rfl, hg, by simpa using hlt, fun i hi => ?_, fun i hi => ?_⟩
    · by_cases e : i = k
      · subst e
        rw [World.cell?_setCell_same _ _ _ (hc i hi)]
        have hl := h.len
        simp [List.getD, hl, hk]
      · rw [World.cell?_setCell_other _ _ _ _ (by simp <;> omega), hc i hi]
        simp [List.getD, List.getElem?_set_ne (Ne.symm e)]
    · rw [World.frozen?_setCell]; exact hf i hi
theorem But.drew {S : Nat → Prop} {w w' : World} (h : But S w w') : But S w w'.drew := ⟨h.os, h.tape, h.output, h.size, h.block⟩
theorem But.cellAt {S : Nat → Prop} {w w' : World} (h : But S w w') {b o : Nat} (hb : b < w.heap.size) (hn : ¬ S b) : w'.cell? ⟨b, o, none⟩ = w.cell? ⟨b, o, none⟩ := World.cell?_of_block (w := w) (a := ⟨b, o, none⟩) (h.block b hb hn)
end Go.Proofs.YtgjpchnkodnieaaGreatDoor
namespace Go.Proofs.YtgjpchnkodnieaaGreatDoor
open Go.RowKit
set_option maxHeartbeats 400000 in
theorem Clone_any (ad : Addr) (n cap : Nat) (zs : List Int) (w : World) (h : Row w (some ad) n zs) :
    Calls Tryz.prog 63 #[.slice (some ad) n cap] w fun e w' => ∃ a' cap', e = .returned (.slice a' n cap') ∧ n ≤ cap' ∧ Own w' w.heap.size a' n zs ∧ Below w.heap.size w w' := by
  have hl := h.len
  have hs := h.small
  have H := hide h
  clear h
  obtain ⟨i0, hi, hz0, hz1, hz2⟩ := info_parts info_int
  have qT : ∀ (w : World) (a : Option Addr) (n c n' c' : Nat), (binOp .eql 23 (.slice a n c) (.slice none n' c')).run Tryz.prog w = .ok (.bool a.isNone) w := fun w a n c n' c' => Lib.run_eql_slice_nil w _ _ a n c n' c' Tryz.underlying23
  go_enter Tryz.func63, Tryz.ntmps63
  go_wp2_with (at_builtin; refine wpList_append_own _ rfl _ _ 23 rfl w.heap.size 3 i0 (.int .i64 0) 1 8 Tryz.underlying23 hi hz0 hz1 hz2 rfl (by decide) _ _ _ rfl (owns_empty w) ad n cap (zs.map (Value.int .i64)) rfl (by simpa using hl) (cells_ints ((unhide H).alloc _)) (one_ints zs) (by unfold maxLen; omega) (by omega) (by simp) ?_; intro v1 w1 hown hgrow hnil)
  clear hnil
  have hown' : w1.ownsRow w.heap.size 3 1 v1 n (zs.map (Value.int .i64)) := by simpa using hown
  obtain ⟨a', cap', rfl, ho⟩ := Own.of_owns hown' hs
  have hbel : Below w.heap.size w w1 := ((Below.refl _ _).alloc (Nat.le_refl _) _).grown hgrow (by simp) (by intro k hk; cases hk; exact Nat.le_refl _)
  have hcap : n ≤ cap' := by
    rcases hown'.2 with ⟨h', h0⟩ | ⟨g', c', cur, h', _, _, hle, _⟩
    · simp at h'; omega
    · cases h'; omega
  clear hown hgrow hown'
  go_wp2
  go_ret
  exact ⟨_, _, rfl, hcap, ho, hbel⟩
set_option maxHeartbeats 400000 in
theorem Clone_nil (cap : Nat) (w : World) :
    Calls Tryz.prog 63 #[.slice none 0 cap] w fun e w' => e = .returned (.slice none 0 0) ∧ w' = w := by
  have qT : ∀ (w : World) (a : Option Addr) (n c n' c' : Nat), (binOp .eql 23 (.slice a n c) (.slice none n' c')).run Tryz.prog w = .ok (.bool a.isNone) w := fun w a n c n' c' => Lib.run_eql_slice_nil w _ _ a n c n' c' Tryz.underlying23
  go_enter Tryz.func63, Tryz.ntmps63
  go_wp2
  go_ret
  exact ⟨rfl, rfl⟩
theorem Clone_opt (ad : Option Addr) (n cap : Nat) (zs : List Int) (w : World) (h : Row w ad n zs) :
    Calls Tryz.prog 63 #[.slice ad n cap] w fun e w' => ∃ a' cap', e = .returned (.slice a' n cap') ∧ n ≤ cap' ∧ Own w' w.heap.size a' n zs ∧ Below w.heap.size w w' := by
  cases ad with
  | some a => exact Clone_any a n cap zs w h
  | none =>
    have h0 : n = 0 := by
      rcases Nat.eq_zero_or_pos n with h0 | h0
      · exact h0
      · obtain ⟨b, o, e, _⟩ := h.get h0
        cases e
    have hl := h.len
    subst h0
    obtain rfl : zs = [] := List.length_eq_zero_iff.1 hl
    refine (Clone_nil cap w).mono ?_
    rintro e w' ⟨rfl, rfl⟩
    exact ⟨none, 0, rfl, Nat.le_refl _, ⟨rfl, by omega, .inl rfl⟩, Below.refl _ _⟩
end Go.Proofs.YtgjpchnkodnieaaGreatDoor
namespace Go.Proofs.YtgjpchnkodnieaaGreatDoor
open Go.RowKit
theorem row_none {w : World} {n : Nat} {zs : List Int} (h : Row w none n zs) : n = 0 ∧ zs = [] := by
  obtain ⟨hl, _, h0 | ⟨b, off, hb, _⟩⟩ := h
  · subst h0; exact ⟨rfl, List.length_eq_zero_iff.mp hl⟩
  · cases hb
theorem run_append_nocap {P : Program} {w : World} (base : Nat) (t ty e : TypeId) (i : TypeInfo) (size : Nat) (ht : P.underlying t = some (.slice e)) (hi : P.info? e = some i)
    (v : Value) (n : Nat) (xs : List Value) (hown : w.ownsRow base e size v n xs) (c : Nat) : (Builtin.append_ #[t, t] ty #[v, .slice none 0 c]).run P w = .ok v w := by
  rcases hown.2 with ⟨rfl, rfl⟩ | ⟨g, cap, cur, rfl, _, _, hnc, _⟩
  · simp [Builtin.append_, run_underlying ht, sizeOf, typeInfo, hi, Builtin.lenOf, Builtin.firstCells]
  · simp [Builtin.append_, run_underlying ht, sizeOf, typeInfo, hi, Builtin.lenOf, Builtin.firstCells, hnc, storeCells]
end Go.Proofs.YtgjpchnkodnieaaGreatDoor
namespace Go.Proofs.YtgjpchnkodnieaaGreatDoor
open Go.RowKit
set_option maxHeartbeats 1000000 in
theorem l5Index_any (a1 : Option Addr) (n c1 : Nat) (sh : List Int) (p : Int) (w : World) (h1 : Row w a1 n sh) (hn : n ≤ 10000) (hs : ∀ k, sh.getD k 0 ≤ 10000) (hf : Full sh) (hp : 0 ≤ p) (hp2 : p ≤ 10000) :
    Calls Tryz.prog 55 #[.slice a1 n c1, .int .i64 p] w fun e w' => e = .returned (.slice (some ⟨w.heap.size, 0, none⟩) n n) ∧ Blk w' w.heap.size (digits sh p) ∧ Below w.heap.size w w' := by
  have hl := hide h1.len
  have H1 := hide h1
  have HS := hide hs
  have HF := hide hf
  have hdl : (digits sh p).length = n := by rw [digits_len]; exact h1.len
  clear h1 hs hf
  obtain ⟨i0, hi, hz0, hz1, hz2⟩ := info_parts info_int
  go_enter Tryz.func55, Tryz.ntmps55
  go_wp2_with (at_make; refine wpList_make_full _ rfl _ _ 23 rfl w.heap.size 3 i0 (.int .i64 0) 1 Tryz.underlying23 hi hz0 hz1 _ _ _ _ n rfl rfl rfl rfl (by rw [hz2]; omega) (by unfold maxLen; omega) (Nat.le_refl _) ?_; intro w1 hown hgrow)
  have hblk : Blk w1 w.heap.size (List.replicate n 0 ++ (digits sh p).drop n) := Blk.of_owns (n := n) (base := w.heap.size) (by simpa [toList_madeCells_one, Value.cells, List.drop_of_length_le (Nat.le_of_eq hdl)] using hown)
  have hbel : Below w.heap.size w w1 := (Below.refl _ _).grown hgrow (Nat.le_refl _) (by simp)
  clear hown hgrow hi hz0 hz1 hz2
  have HBK := hide hblk
  have HBL := hide hbel
  have HDL := hide hdl
  clear hblk hbel hdl
  go_wp2
  go_loopw [1, 6] (fun q i wr => ∃ m : Nat, m ≤ n ∧ i = .int .i64 ((m : Int) - 1) ∧ q = .int .i64 (restN sh p (n - m)) ∧ Hid (Blk wr w.heap.size (List.replicate m 0 ++ (digits sh p).drop m)) ∧ Hid (Below w.heap.size w wr)) (fun _ i _ => (intOf i + 1).toNat)
  case atStart => exact ⟨n, Nat.le_refl _, by go_num, by simp [restN], HBK, HBL⟩
  case round =>
    obtain ⟨m, hm, rfl, rfl, hb, hbl⟩ := hrel
    clear HBK HBL w1
    rcases Nat.eq_zero_or_pos m with h0 | h0
    · subst h0
      go_wp2
      go_ret
      exact ⟨rfl, by simpa using unhide hb, unhide hbl⟩
    · obtain ⟨k, hk⟩ : ∃ k, m = k + 1 := ⟨m - 1, by omega⟩
      subst hk
      have hlt : k < n := by omega
      obtain ⟨b, off, rfl, hblt, hc⟩ := (unhide H1).get hlt
      have hcx := ((unhide hbl).cell (p := ⟨b, off + k, none⟩) hblt).trans hc
      have hsc := unhide HS k
      have hsp := unhide HF k (by rw [unhide hl]; exact hlt)
      have hr := restN_nn (unhide HF) hp (n - (k + 1)) (by rw [unhide hl]; omega)
      have e1 : sh.length - 1 - (n - (k + 1)) = k := by have := unhide hl; omega
      have HR : Hid (restN sh p (n - k) = restN sh p (n - (k + 1)) / sh.getD k 0) := by
        show _ = _
        have e : n - k = n - (k + 1) + 1 := by omega
        rw [e]
        show restN sh p (n - (k + 1)) / sh.getD (sh.length - 1 - (n - (k + 1))) 0 = _
        rw [e1]
      have HD : Hid ((digits sh p).getD k 0 = restN sh p (n - (k + 1)) % sh.getD k 0) := by
        show _ = _
        rw [digits_get sh p k (by rw [unhide hl]; exact hlt)]
        unfold digit
        have e3 : sh.length - 1 - k = n - (k + 1) := by have := unhide hl; omega
        rw [e3]
      obtain ⟨s, hse⟩ : ∃ s, s = sh.getD k 0 := ⟨_, rfl⟩
      obtain ⟨r, hre⟩ : ∃ r, r = restN sh p (n - (k + 1)) := ⟨_, rfl⟩
      rw [← hse] at hcx hsc hsp HR HD
      rw [← hre] at hr HR HD ⊢
      have hbc := (unhide hb).cell (i := k) (by simp; omega)
      have hbf := (unhide hb).free k
      clear hse hre hc e1
      go_wp2
      go_roundw
      case rel => exact ⟨k, by omega, by go_num, by rw [unhide HR], by rw [← drop_set (by rw [unhide HDL]; exact hlt), unhide HD]; exact (unhide hb).set k _, (unhide hbl).setCell (Nat.le_refl _) _⟩
      case measure => simp [intOf]
end Go.Proofs.YtgjpchnkodnieaaGreatDoor
