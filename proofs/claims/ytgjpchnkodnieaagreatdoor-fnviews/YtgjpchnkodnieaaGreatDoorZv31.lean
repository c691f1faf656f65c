import Derived.Test.YtgjpchnkodnieaaGreatDoorZv18
import Derived.Test.YtgjpchnkodnieaaGreatDoorZv19
import Derived.Test.YtgjpchnkodnieaaGreatDoorZv20
import Derived.Test.YtgjpchnkodnieaaGreatDoorZv07
import Derived.Test.YtgjpchnkodnieaaGreatDoorZv16
import Derived.Test.YtgjpchnkodnieaaGreatDoorZv28
import Derived.Test.YtgjpchnkodnieaaGreatDoorZv23
import Derived.Test.YtgjpchnkodnieaaGreatDoorZv30
import Derived.Test.YtgjpchnkodnieaaGreatDoorZv02
import Derived.Test.YtgjpchnkodnieaaGreatDoorZv13
import Derived.Deep.DeepCutAuto
namespace Go.Proofs.YtgjpchnkodnieaaGreatDoor
def listN (f : Nat → Nat) (k : Nat) : List Int := (List.range k).map fun i => ((f i : Nat) : Int)
theorem listN_len (f : Nat → Nat) (k : Nat) : (listN f k).length = k := by simp [listN]
theorem listN_get (f : Nat → Nat) {k i : Nat} (h : i < k) : (listN f k).getD i 0 = (f i : Int) := by simp [listN, h]
theorem listN_snoc (f : Nat → Nat) (k : Nat) : listN f (k + 1) = listN f k ++ [((f k : Nat) : Int)] := by simp [listN, List.range_succ]
theorem listN_ok {f : Nat → Nat} {k : Nat} (hk : k ≤ 10000) (h : ∀ i, i < k → f i ≤ 10001) : arrOk false [(k : Int)] (listN f k) = true := by
  refine ok_vec (listN_len f k) hk ?_
  rw [List.all_eq_true]
  intro x hx
  obtain ⟨i, hi, rfl⟩ := List.mem_map.1 hx
  have := h i (List.mem_range.1 hi)
  simp [dataOk]
  omega
def sN (sh : List Int) (i : Nat) : Nat := (sh.getD i 0).toNat
def frN (L : Nat) (sh : List Int) (i : Nat) : Nat := L * (i + 3) % (sN sh i + 1)
def nsN (L : Nat) (sh : List Int) (i : Nat) : Nat := L * (i + 3) / 7 % (sN sh i - frN L sh i + 1)
def orN (L r : Nat) (i : Nat) : Nat := (i + L) % r + 1
theorem frN_le (L : Nat) (sh : List Int) (i : Nat) : frN L sh i ≤ sN sh i := by
  have := Nat.mod_lt (L * (i + 3)) (show 0 < sN sh i + 1 by omega)
  unfold frN; omega
theorem nsN_le (L : Nat) (sh : List Int) (i : Nat) : nsN L sh i ≤ sN sh i - frN L sh i := by
  have := Nat.mod_lt (L * (i + 3) / 7) (show 0 < sN sh i - frN L sh i + 1 by omega)
  unfold nsN; omega
theorem orN_bd (L : Nat) {r : Nat} (hr : 0 < r) (i : Nat) : 1 ≤ orN L r i ∧ orN L r i ≤ r := by
  have := Nat.mod_lt (i + L) hr
  unfold orN; omega
theorem sN_le {sh : List Int} (h : shapeB sh = true) (i : Nat) : ((sN sh i : Nat) : Int) = sh.getD i 0 ∧ sN sh i ≤ 10000 := by
  have := (shapeB_in h).1.cell i
  unfold sN; omega
theorem cut_in (L : Nat) {sh : List Int} (h : shapeB sh = true) : CutIn sh (listN (frN L sh) sh.length) (listN (nsN L sh) sh.length) := by
  refine ⟨listN_len _ _, listN_len _ _, fun i hi => ?_⟩
  rw [listN_get _ hi, listN_get _ hi]
  have h1 := frN_le L sh i
  have h2 := nsN_le L sh i
  have h3 := (sN_le h i).1
  omega
theorem order_ok (L r : Nat) : orderOk (listN (orN L r) r) r r = true := by
  refine order_of ?_ ?_ r (Nat.le_refl _)
  · intro i hi
    rw [listN_get _ hi]
    have := orN_bd L (show 0 < r by omega) i
    omega
  · intro i j hi hj e
    unfold axNo at e
    rw [listN_get _ hi, listN_get _ hj] at e
    have h1 : (i + L) % r = (j + L) % r := by unfold orN at e; omega
    have h2 := Nat.sub_mod_eq_zero_of_mod_eq h1
    have h3 := Nat.sub_mod_eq_zero_of_mod_eq h1.symm
    rw [Nat.mod_eq_of_lt (by omega)] at h2 h3
    omega
theorem places_ok {o cells : Int} {sh st : List Int} (h : viewOk o sh st cells = true) : places o sh st cells = placesOf o sh st := by unfold places; rw [if_pos h]
theorem view_len {o cells : Int} {sh st : List Int} (h : viewOk o sh st cells = true) : sh.length ≤ 5 := (shapeB_in (formed_parts (viewOk_parts h).1).1).2
section
variable {c cells : Int} {sh st : List Int}
theorem turn_all (h : viewOk c sh st cells = true) (L : Nat) : ∃ tsh tst, turnVw c sh st (listN (orN L sh.length) sh.length) = ⟨c, tsh, tst, true⟩ ∧ transpose false false [(sh.length : Int)] (listN (orN L sh.length) sh.length) sh (placesOf c sh st) = ⟨false, tsh, placesOf c tsh tst, 0⟩ ∧ places c tsh tst cells = placesOf c tsh tst ∧ tsh.length ≤ 5 := by
  have hf := (viewOk_parts h).1
  have h5 := (shapeB_in (formed_parts hf).1).2
  have ho := order_ok L sh.length
  have hv : arrOk false [(sh.length : Int)] (listN (orN L sh.length) sh.length) = true := listN_ok (by omega) (fun i hi => by have := orN_bd L (show 0 < sh.length by omega) i; omega)
  obtain ⟨e1, e2⟩ := turn_places h ho (listN_len _ _) hv
  exact ⟨_, _, by unfold turnVw; rw [if_pos ⟨hf, listN_len _ _, ho⟩], e1, places_ok e2, view_len e2⟩
theorem cut_all (h : viewOk c sh st cells = true) (L : Nat) : ∃ (ok : Bool) (o2 : Int) (s1 s2 Z Y Z2 Y2 : List Int) (cc dd : Bool) (e1 e2 : Int),
    cutV c sh st (listN (frN L sh) sh.length) (listN (nsN L sh) sh.length) = ⟨o2, s1, s2, ok⟩ ∧ drop false false [(sh.length : Int)] (listN (frN L sh) sh.length) sh (placesOf c sh st) = ⟨cc, Z, Y, e1⟩ ∧ take false cc [(sh.length : Int)] (listN (nsN L sh) sh.length) Z Y = ⟨dd, Z2, Y2, e2⟩ ∧
    (ok = true → e1 = 0 ∧ e2 = 0 ∧ dd = false ∧ Z2 = s1 ∧ Y2 = places o2 s1 s2 cells ∧ viewOk o2 s1 s2 cells = true ∧ s1.length ≤ 5) := by
  have hf := (viewOk_parts h).1
  obtain ⟨hs, _, _, _⟩ := formed_parts hf
  have h5 := (shapeB_in hs).2
  have hc := cut_in L hs
  have hv1 : arrOk false [(sh.length : Int)] (listN (frN L sh) sh.length) = true := listN_ok (by omega) (fun i _ => by have := frN_le L sh i; have := (sN_le hs i).2; omega)
  have hv2 : arrOk false [(sh.length : Int)] (listN (nsN L sh) sh.length) = true := listN_ok (by omega) (fun i _ => by have := nsN_le L sh i; have := (sN_le hs i).2; omega)
  have hcut : formed c sh st = true ∧ (listN (frN L sh) sh.length).length = sh.length ∧ (listN (nsN L sh) sh.length).length = sh.length ∧ cutB sh (listN (frN L sh) sh.length) (listN (nsN L sh) sh.length) sh.length = true := ⟨hf, listN_len _ _, listN_len _ _, cut_yes hc⟩
  by_cases hff : formed (offN c (listN (frN L sh) sh.length) st sh.length) (listN (nsN L sh) sh.length) st = true
  · obtain ⟨Z, Y, e1, e2, e3⟩ := cut_places h hc hv1 hv2 hff
    exact ⟨true, _, _, _, Z, Y, _, _, false, false, 0, 0, by unfold cutV; rw [if_pos hcut, if_pos hff], e1, e2, fun _ => ⟨rfl, rfl, rfl, rfl, (places_ok e3).symm, e3, view_len e3⟩⟩
  · exact ⟨false, 0, [], [], _, _, _, _, _, _, _, _, by unfold cutV; rw [if_pos hcut, if_neg hff], rfl, rfl, fun e => by cases e⟩
theorem flip_all (h : viewOk c sh st cells = true) {m : Nat} (hl : sh.length = m + 1) : ∃ (ok : Bool) (o2 : Int) (s1 s2 Z Y : List Int) (cc : Bool) (e : Int),
    flip c sh st (m : Int) = ⟨o2, s1, s2, ok⟩ ∧ revA false sh (placesOf c sh st) false = ⟨cc, Z, Y, e⟩ ∧ (ok = true → e = 0 ∧ cc = false ∧ Z = s1 ∧ Y = places o2 s1 s2 cells ∧ s1.length ≤ 5) := by
  have hf := (viewOk_parts h).1
  have hm : m < sh.length := by omega
  have key : ∀ (o2 : Int) (s2 : List Int), ((1 < sh.getD m 0 ∧ o2 = c + (sh.getD m 0 - 1) * st.getD m 0 ∧ s2 = st.set m (-st.getD m 0)) ∨ (¬ 1 < sh.getD m 0 ∧ o2 = c ∧ s2 = st)) → flip c sh st (m : Int) = answerOf o2 sh s2 →
      ∃ (ok : Bool) (o2 : Int) (s1 s2 Z Y : List Int) (cc : Bool) (e : Int), flip c sh st (m : Int) = ⟨o2, s1, s2, ok⟩ ∧ revA false sh (placesOf c sh st) false = ⟨cc, Z, Y, e⟩ ∧ (ok = true → e = 0 ∧ cc = false ∧ Z = s1 ∧ Y = places o2 s1 s2 cells ∧ s1.length ≤ 5) := by
    intro o2 s2 hcase hfl
    by_cases hff : formed o2 sh s2 = true
    · obtain ⟨e1, e2⟩ := flip_places h hl hcase hff
      exact ⟨true, o2, sh, s2, sh, _, false, 0, by rw [hfl]; unfold answerOf; rw [if_pos hff], e1, fun _ => ⟨rfl, rfl, rfl, (places_ok e2).symm, view_len e2⟩⟩
    · exact ⟨false, 0, [], [], _, _, _, _, by rw [hfl]; unfold answerOf; rw [if_neg hff]; rfl, rfl, fun e => by cases e⟩
  by_cases h1 : 1 < sh.getD m 0
  · exact key _ _ (.inl ⟨h1, rfl, rfl⟩) (flip_two hf hm h1)
  · exact key _ _ (.inr ⟨h1, rfl, rfl⟩) (flip_one hf hm h1)
theorem fold_all (h : viewOk c sh st cells = true) (a b : Nat) (ha : a ≤ 3) (hb : b ≤ 3) : ∃ (ok : Bool) (o2 : Int) (s1 s2 Z Y : List Int) (cc : Bool) (e : Int),
    foldV c sh st [(a : Int), (b : Int)] = ⟨o2, s1, s2, ok⟩ ∧ reshape false false [2] [(a : Int), (b : Int)] sh (placesOf c sh st) = ⟨cc, Z, Y, e⟩ ∧ (ok = true → e = 0 ∧ cc = false ∧ Z = s1 ∧ Y = places o2 s1 s2 cells ∧ s1.length ≤ 5) := by
  have hf := (viewOk_parts h).1
  obtain ⟨zs, hzs⟩ : ∃ zs, zs = [(a : Int), (b : Int)] := ⟨_, rfl⟩
  have hv : arrOk false [(zs.length : Int)] zs = true := by
    refine ok_vec rfl (by rw [hzs]; simp) ?_
    rw [hzs]
    simp [dataOk]
    omega
  have key : ∀ s2, FoldOk c sh st zs s2 → foldV c sh st zs = ⟨c, zs, s2, true⟩ → ∃ (ok : Bool) (o2 : Int) (s1 s2 Z Y : List Int) (cc : Bool) (e : Int),
      foldV c sh st zs = ⟨o2, s1, s2, ok⟩ ∧ reshape false false [(zs.length : Int)] zs sh (placesOf c sh st) = ⟨cc, Z, Y, e⟩ ∧ (ok = true → e = 0 ∧ cc = false ∧ Z = s1 ∧ Y = places o2 s1 s2 cells ∧ s1.length ≤ 5) := by
    intro s2 hk hfv
    obtain ⟨e1, e2⟩ := fold_places h hk hv
    exact ⟨true, c, zs, s2, zs, _, false, 0, hfv, e1, fun _ => ⟨rfl, rfl, rfl, (places_ok e2).symm, view_len e2⟩⟩
  have no : foldV c sh st zs = noView → ∃ (ok : Bool) (o2 : Int) (s1 s2 Z Y : List Int) (cc : Bool) (e : Int),
      foldV c sh st zs = ⟨o2, s1, s2, ok⟩ ∧ reshape false false [(zs.length : Int)] zs sh (placesOf c sh st) = ⟨cc, Z, Y, e⟩ ∧ (ok = true → e = 0 ∧ cc = false ∧ Z = s1 ∧ Y = places o2 s1 s2 cells ∧ s1.length ≤ 5) := fun e => ⟨false, 0, [], [], _, _, _, _, e, rfl, fun e => by cases e⟩
  have hl2 : (zs.length : Int) = 2 := by rw [hzs]; rfl
  rw [← hzs, ← hl2]
  by_cases hz : shapeB zs = true
  · by_cases h1 : countOf sh = 1
    · refine key _ ⟨hz, .inl ⟨h1, rfl⟩, ?_⟩ (fold_one ⟨hf, hz⟩ h1)
      obtain ⟨_, _, hc, _⟩ := formed_parts hf
      unfold formed
      rw [hz]
      simp [viewIn]
      omega
    · by_cases h2 : (lineL (placesOf c sh st)).2 = true ∧ countOf zs ≤ countOf sh
      · have hfv := fold_go ⟨hf, hz⟩ h1 h2
        by_cases hff : formed c zs ((wholeSt zs).map fun x => x * (lineL (placesOf c sh st)).1) = true
        · exact key _ ⟨hz, .inr ⟨h1, (lineL (placesOf c sh st)).1, by rw [← h2.1], h2.2, rfl⟩, hff⟩ (by rw [hfv]; unfold answerOf; rw [if_pos hff])
        · exact no (by rw [hfv]; unfold answerOf; rw [if_neg hff])
      · exact no (fold_off ⟨hf, hz⟩ h1 h2)
  · exact no (fold_no (fun h => hz h.2))
def pickL (fr step : Int) (n : Nat) : List Int := (List.range n).map fun (i : Nat) => fr + (i : Int) * step + 1
theorem pickL_len (fr step : Int) (n : Nat) : (pickL fr step n).length = n := by simp [pickL]
theorem pickL_get (fr step : Int) {n i : Nat} (h : i < n) : (pickL fr step n).getD i 0 = fr + i * step + 1 := by simp [pickL, h]
theorem pickL_snoc (fr step : Int) (n : Nat) : pickL fr step (n + 1) = pickL fr step n ++ [fr + (n : Int) * step + 1] := by simp [pickL, List.range_succ]
theorem pick_all (h : viewOk c sh st cells = true) {m n : Nat} (hl : sh.length = m + 1) (fr step : Int) (hn : n ≤ 3) : ∃ (ok : Bool) (o2 : Int) (s1 s2 : List Int),
    pick c sh st 0 fr step (n : Int) = ⟨o2, s1, s2, ok⟩ ∧ (ok = true → indexA false sh (placesOf c sh st) (partsV n (pickL fr step n) m) = ⟨false, s1, places o2 s1 s2 cells, 0⟩ ∧ s1.length ≤ 5) := by
  have hf := (viewOk_parts h).1
  obtain ⟨hs, _, _, _⟩ := formed_parts hf
  have hx := (shapeB_in hs).1.cell 0
  by_cases hin : pickIn c sh st ((0 : Nat) : Int) step (n : Int)
  · have key : ∀ o2, ((0 < n ∧ o2 = c + fr * st.getD 0 0) ∨ (n = 0 ∧ o2 = c)) → (∀ i : Nat, i < n → 0 ≤ fr + i * step ∧ fr + i * step < sh.getD 0 0) → pick c sh st 0 fr step (n : Int) = answerOf o2 (sh.set 0 (n : Int)) (st.set 0 (st.getD 0 0 * step)) →
        ∃ (ok : Bool) (o2 : Int) (s1 s2 : List Int), pick c sh st 0 fr step (n : Int) = ⟨o2, s1, s2, ok⟩ ∧ (ok = true → indexA false sh (placesOf c sh st) (partsV n (pickL fr step n) m) = ⟨false, s1, places o2 s1 s2 cells, 0⟩ ∧ s1.length ≤ 5) := by
      intro o2 ho hall hp
      by_cases hff : formed o2 (sh.set 0 (n : Int)) (st.set 0 (st.getD 0 0 * step)) = true
      · have hv : arrOk false [(n : Int)] (pickL fr step n) = true := by
          refine ok_vec (pickL_len _ _ _) (by omega) ?_
          rw [List.all_eq_true]
          intro x hx'
          obtain ⟨i, hi, rfl⟩ := List.mem_map.1 hx'
          have := hall i (List.mem_range.1 hi)
          generalize (i : Int) * step = q at *
          simp [dataOk]
          omega
        obtain ⟨e1, e2⟩ := pick_places h hl (pickL_len fr step n) (fun i hi => pickL_get fr step hi) hall hv ho hff
        exact ⟨true, _, _, _, by rw [hp]; unfold answerOf; rw [if_pos hff], fun _ => ⟨by rw [e1, places_ok e2], view_len e2⟩⟩
      · exact ⟨false, 0, [], [], by rw [hp]; unfold answerOf; rw [if_neg hff]; rfl, fun e => by cases e⟩
    by_cases hn0 : 0 < (n : Int)
    · by_cases ha : pickAt (sh.getD 0 0) fr step (n : Int)
      · refine key _ (.inl ⟨by omega, rfl⟩) (fun i hi => ?_) (pick_some (k := 0) hin hn0 ha)
        obtain ⟨a1, a2, a3, a4⟩ := ha
        rcases Int.le_total 0 step with hs0 | hs0
        · have q1 := Int.mul_le_mul_of_nonneg_right (show (i : Int) ≤ (n : Int) - 1 by omega) hs0
          have q2 := Int.mul_nonneg (show (0 : Int) ≤ i by omega) hs0
          omega
        · have q1 := Int.mul_le_mul_of_nonpos_right (show (i : Int) ≤ (n : Int) - 1 by omega) hs0
          have q2 := Int.mul_nonpos_of_nonneg_of_nonpos (show (0 : Int) ≤ i by omega) hs0
          omega
      · exact ⟨false, 0, [], [], pick_off (k := 0) hin hn0 ha, fun e => by cases e⟩
    · exact key _ (.inr ⟨by omega, rfl⟩) (fun i hi => by omega) (pick_none (k := 0) hin hn0)
  · exact ⟨false, 0, [], [], pick_no hin, fun e => by cases e⟩
end
end Go.Proofs.YtgjpchnkodnieaaGreatDoor
namespace Go.Proofs.YtgjpchnkodnieaaGreatDoor
open Go.RowKit
set_option maxRecDepth 20000 in
set_option maxHeartbeats 4000000 in
theorem listCode_bad1 (c d : Bool) (a1 a2 b1 b2 : Option Addr) (n1 n2 m1 m2 c1 c2 d1 d2 : Nat) (sh dt sh' dt' : List Int) (w : World) (h1 : Row w a1 n1 sh) (h2 : Row w a2 n2 dt) (k1 : Row w b1 m1 sh') (k2 : Row w b2 m2 dt') (hok : arrOk c sh dt = false) :
    Calls Tryz.prog 57 #[.agg #[.bool c, .slice a1 n1 c1, .slice a2 n2 c2], .agg #[.bool d, .slice b1 m1 d1, .slice b2 m2 d2]] w fun e w' => e = .returned (.int .i64 3) ∧ Below w.heap.size w w' := by
  obtain ⟨W0, hW0⟩ : ∃ W0, W0 = (w.alloc (.cells #[.bool c, .slice a1 n1 c1, .slice a2 n2 c2] 25)).alloc (.cells #[.bool d, .slice b1 m1 d1, .slice b2 m2 d2] 25) := ⟨_, rfl⟩
  have hz0 : W0.heap.size = w.heap.size + 2 := by rw [hW0]; simp
  have HB0 : Hid (Below w.heap.size w W0) := by rw [hW0]; exact ((Below.refl _ w).alloc (Nat.le_refl _) _).alloc (by simp) _
  have HX0 : Hid (Box W0 w.heap.size c (.slice a1 n1 c1) (.slice a2 n2 c2)) := by rw [hW0]; exact (Box.new w _ _ _).alloc _
  have HX1 : Hid (Box W0 (w.heap.size + 1) d (.slice b1 m1 d1) (.slice b2 m2 d2)) := by
    rw [hW0]
    show Box _ _ _ _ _
    have := Box.new (w.alloc (.cells #[.bool c, .slice a1 n1 c1, .slice a2 n2 c2] 25)) d (.slice b1 m1 d1) (.slice b2 m2 d2)
    simpa using this
  have H1 := hide (h1.below (Nat.le_refl _) HB0.out)
  have H2 := hide (h2.below (Nat.le_refl _) HB0.out)
  have K1 := hide (k1.below (Nat.le_refl _) HB0.out)
  have K2 := hide (k2.below (Nat.le_refl _) HB0.out)
  have hs1 := h1.small
  have HW0 := hide hW0
  have HR := hide hok
  clear h1 h2 k1 k2 hok hW0
  go_enter Tryz.func57, Tryz.ntmps57
  go_wp2_with (first | (go_at_call_of 51 (Value.slice a1 n1 c1); rw [← HW0.out]; refine (implArrayOk_eq _ _ _ _ _ _ _ sh dt _ H1.out H2.out _ HR).mono ?_; rintro e w1 ⟨rfl, hb1⟩; have HE1 := hide hb1; clear hb1; obtain ⟨x0, x1, x2, _, _, _⟩ := (HX0.out.below (Nat.le_refl _) HE1.out).all; obtain ⟨y0, y1, y2, _, _, _⟩ := (HX1.out.below (Nat.le_refl _) HE1.out).all; have hp1 : w.heap.size + 1 < w1.heap.size := (by have := HE1.out.size; omega)))
  go_ret
  exact ⟨rfl, HB0.out.trans (HE1.out.mono (by omega))⟩
set_option maxRecDepth 20000 in
set_option maxHeartbeats 4000000 in
theorem listCode_bad2 (c d : Bool) (a1 a2 b1 b2 : Option Addr) (n1 n2 m1 m2 c1 c2 d1 d2 : Nat) (sh dt sh' dt' : List Int) (w : World) (h1 : Row w a1 n1 sh) (h2 : Row w a2 n2 dt) (k1 : Row w b1 m1 sh') (k2 : Row w b2 m2 dt') (hok : arrOk c sh dt = true) (hok' : arrOk d sh' dt' = false) :
    Calls Tryz.prog 57 #[.agg #[.bool c, .slice a1 n1 c1, .slice a2 n2 c2], .agg #[.bool d, .slice b1 m1 d1, .slice b2 m2 d2]] w fun e w' => e = .returned (.int .i64 3) ∧ Below w.heap.size w w' := by
  obtain ⟨W0, hW0⟩ : ∃ W0, W0 = (w.alloc (.cells #[.bool c, .slice a1 n1 c1, .slice a2 n2 c2] 25)).alloc (.cells #[.bool d, .slice b1 m1 d1, .slice b2 m2 d2] 25) := ⟨_, rfl⟩
  have hz0 : W0.heap.size = w.heap.size + 2 := by rw [hW0]; simp
  have HB0 : Hid (Below w.heap.size w W0) := by rw [hW0]; exact ((Below.refl _ w).alloc (Nat.le_refl _) _).alloc (by simp) _
  have HX0 : Hid (Box W0 w.heap.size c (.slice a1 n1 c1) (.slice a2 n2 c2)) := by rw [hW0]; exact (Box.new w _ _ _).alloc _
  have HX1 : Hid (Box W0 (w.heap.size + 1) d (.slice b1 m1 d1) (.slice b2 m2 d2)) := by
    rw [hW0]
    show Box _ _ _ _ _
    have := Box.new (w.alloc (.cells #[.bool c, .slice a1 n1 c1, .slice a2 n2 c2] 25)) d (.slice b1 m1 d1) (.slice b2 m2 d2)
    simpa using this
  have H1 := hide (h1.below (Nat.le_refl _) HB0.out)
  have H2 := hide (h2.below (Nat.le_refl _) HB0.out)
  have K1 := hide (k1.below (Nat.le_refl _) HB0.out)
  have K2 := hide (k2.below (Nat.le_refl _) HB0.out)
  have hs1 := h1.small
  have HW0 := hide hW0
  have HR := hide hok
  have HR' := hide hok'
  clear hok'
  clear h1 h2 k1 k2 hok hW0
  go_enter Tryz.func57, Tryz.ntmps57
  go_wp2_with (first | (go_at_call_of 51 (Value.slice a1 n1 c1); rw [← HW0.out]; refine (implArrayOk_eq _ _ _ _ _ _ _ sh dt _ H1.out H2.out _ HR).mono ?_; rintro e w1 ⟨rfl, hb1⟩; have HE1 := hide hb1; clear hb1; obtain ⟨x0, x1, x2, _, _, _⟩ := (HX0.out.below (Nat.le_refl _) HE1.out).all; obtain ⟨y0, y1, y2, _, _, _⟩ := (HX1.out.below (Nat.le_refl _) HE1.out).all; have hp1 : w.heap.size + 1 < w1.heap.size := (by have := HE1.out.size; omega)) | (go_at_call 51; refine (implArrayOk_eq _ _ _ _ _ _ _ sh' dt' _ (K1.out.below (Nat.le_refl _) HE1.out) (K2.out.below (Nat.le_refl _) HE1.out) _ HR').mono ?_; rintro e w2 ⟨rfl, hb2⟩; have HE2 := hide (HE1.out.trans (hb2.mono HE1.out.size)); clear hb2 x0 x1 x2 y0 y1 y2; obtain ⟨x0, x1, x2, _, _, _⟩ := (HX0.out.below (Nat.le_refl _) HE2.out).all; have hp2 : w.heap.size + 1 < w2.heap.size := (by have := HE2.out.size; omega)))
  go_ret
  exact ⟨rfl, HB0.out.trans (HE2.out.mono (by omega))⟩
set_option maxRecDepth 20000 in
set_option maxHeartbeats 4000000 in
theorem listCode_long (c d : Bool) (a1 a2 b1 b2 : Option Addr) (n1 n2 m1 m2 c1 c2 d1 d2 : Nat) (sh dt sh' dt' : List Int) (w : World) (h1 : Row w a1 n1 sh) (h2 : Row w a2 n2 dt) (k1 : Row w b1 m1 sh') (k2 : Row w b2 m2 dt') (hok : arrOk c sh dt = true) (hok' : arrOk d sh' dt' = true) (hn : 1 < n1) :
    Calls Tryz.prog 57 #[.agg #[.bool c, .slice a1 n1 c1, .slice a2 n2 c2], .agg #[.bool d, .slice b1 m1 d1, .slice b2 m2 d2]] w fun e w' => e = .returned (.int .i64 4) ∧ Below w.heap.size w w' := by
  obtain ⟨W0, hW0⟩ : ∃ W0, W0 = (w.alloc (.cells #[.bool c, .slice a1 n1 c1, .slice a2 n2 c2] 25)).alloc (.cells #[.bool d, .slice b1 m1 d1, .slice b2 m2 d2] 25) := ⟨_, rfl⟩
  have hz0 : W0.heap.size = w.heap.size + 2 := by rw [hW0]; simp
  have HB0 : Hid (Below w.heap.size w W0) := by rw [hW0]; exact ((Below.refl _ w).alloc (Nat.le_refl _) _).alloc (by simp) _
  have HX0 : Hid (Box W0 w.heap.size c (.slice a1 n1 c1) (.slice a2 n2 c2)) := by rw [hW0]; exact (Box.new w _ _ _).alloc _
  have HX1 : Hid (Box W0 (w.heap.size + 1) d (.slice b1 m1 d1) (.slice b2 m2 d2)) := by
    rw [hW0]
    show Box _ _ _ _ _
    have := Box.new (w.alloc (.cells #[.bool c, .slice a1 n1 c1, .slice a2 n2 c2] 25)) d (.slice b1 m1 d1) (.slice b2 m2 d2)
    simpa using this
  have H1 := hide (h1.below (Nat.le_refl _) HB0.out)
  have H2 := hide (h2.below (Nat.le_refl _) HB0.out)
  have K1 := hide (k1.below (Nat.le_refl _) HB0.out)
  have K2 := hide (k2.below (Nat.le_refl _) HB0.out)
  have hs1 := h1.small
  have HW0 := hide hW0
  have HR := hide hok
  have HR' := hide hok'
  clear hok'
  clear h1 h2 k1 k2 hok hW0
  go_enter Tryz.func57, Tryz.ntmps57
  go_wp2_with (first | (go_at_call_of 51 (Value.slice a1 n1 c1); rw [← HW0.out]; refine (implArrayOk_eq _ _ _ _ _ _ _ sh dt _ H1.out H2.out _ HR).mono ?_; rintro e w1 ⟨rfl, hb1⟩; have HE1 := hide hb1; clear hb1; obtain ⟨x0, x1, x2, _, _, _⟩ := (HX0.out.below (Nat.le_refl _) HE1.out).all; obtain ⟨y0, y1, y2, _, _, _⟩ := (HX1.out.below (Nat.le_refl _) HE1.out).all; have hp1 : w.heap.size + 1 < w1.heap.size := (by have := HE1.out.size; omega)) | (go_at_call 51; refine (implArrayOk_eq _ _ _ _ _ _ _ sh' dt' _ (K1.out.below (Nat.le_refl _) HE1.out) (K2.out.below (Nat.le_refl _) HE1.out) _ HR').mono ?_; rintro e w2 ⟨rfl, hb2⟩; have HE2 := hide (HE1.out.trans (hb2.mono HE1.out.size)); clear hb2 x0 x1 x2 y0 y1 y2; obtain ⟨x0, x1, x2, _, _, _⟩ := (HX0.out.below (Nat.le_refl _) HE2.out).all; have hp2 : w.heap.size + 1 < w2.heap.size := (by have := HE2.out.size; omega)))
  go_ret
  exact ⟨rfl, HB0.out.trans (HE2.out.mono (by omega))⟩
set_option maxRecDepth 20000 in
set_option maxHeartbeats 4000000 in
theorem listCode_rest (c d : Bool) (a1 a2 b1 b2 : Option Addr) (n1 n2 m1 m2 c1 c2 d1 d2 : Nat) (sh dt sh' dt' : List Int) (w : World) (h1 : Row w a1 n1 sh) (h2 : Row w a2 n2 dt) (k1 : Row w b1 m1 sh') (k2 : Row w b2 m2 dt') (hok : arrOk c sh dt = true) (hok' : arrOk d sh' dt' = true) (hn : ¬ 1 < n1) :
    Calls Tryz.prog 57 #[.agg #[.bool c, .slice a1 n1 c1, .slice a2 n2 c2], .agg #[.bool d, .slice b1 m1 d1, .slice b2 m2 d2]] w fun e w' => e = .returned (.int .i64 (if c then 3 else 0)) ∧ Below w.heap.size w w' := by
  cases c with
  | false =>
    obtain ⟨W0, hW0⟩ : ∃ W0, W0 = (w.alloc (.cells #[.bool false, .slice a1 n1 c1, .slice a2 n2 c2] 25)).alloc (.cells #[.bool d, .slice b1 m1 d1, .slice b2 m2 d2] 25) := ⟨_, rfl⟩
    have hz0 : W0.heap.size = w.heap.size + 2 := by rw [hW0]; simp
    have HB0 : Hid (Below w.heap.size w W0) := by rw [hW0]; exact ((Below.refl _ w).alloc (Nat.le_refl _) _).alloc (by simp) _
    have HX0 : Hid (Box W0 w.heap.size false (.slice a1 n1 c1) (.slice a2 n2 c2)) := by rw [hW0]; exact (Box.new w _ _ _).alloc _
    have HX1 : Hid (Box W0 (w.heap.size + 1) d (.slice b1 m1 d1) (.slice b2 m2 d2)) := by
      rw [hW0]
      show Box _ _ _ _ _
      have := Box.new (w.alloc (.cells #[.bool false, .slice a1 n1 c1, .slice a2 n2 c2] 25)) d (.slice b1 m1 d1) (.slice b2 m2 d2)
      simpa using this
    have H1 := hide (h1.below (Nat.le_refl _) HB0.out)
    have H2 := hide (h2.below (Nat.le_refl _) HB0.out)
    have K1 := hide (k1.below (Nat.le_refl _) HB0.out)
    have K2 := hide (k2.below (Nat.le_refl _) HB0.out)
    have hs1 := h1.small
    have HW0 := hide hW0
    have HR := hide hok
    have HR' := hide hok'
    clear hok'
    clear h1 h2 k1 k2 hok hW0
    go_enter Tryz.func57, Tryz.ntmps57
    go_wp2_with (first | (go_at_call_of 51 (Value.slice a1 n1 c1); rw [← HW0.out]; refine (implArrayOk_eq _ _ _ _ _ _ _ sh dt _ H1.out H2.out _ HR).mono ?_; rintro e w1 ⟨rfl, hb1⟩; have HE1 := hide hb1; clear hb1; obtain ⟨x0, x1, x2, _, _, _⟩ := (HX0.out.below (Nat.le_refl _) HE1.out).all; obtain ⟨y0, y1, y2, _, _, _⟩ := (HX1.out.below (Nat.le_refl _) HE1.out).all; have hp1 : w.heap.size + 1 < w1.heap.size := (by have := HE1.out.size; omega)) | (go_at_call 51; refine (implArrayOk_eq _ _ _ _ _ _ _ sh' dt' _ (K1.out.below (Nat.le_refl _) HE1.out) (K2.out.below (Nat.le_refl _) HE1.out) _ HR').mono ?_; rintro e w2 ⟨rfl, hb2⟩; have HE2 := hide (HE1.out.trans (hb2.mono HE1.out.size)); clear hb2 x0 x1 x2 y0 y1 y2; obtain ⟨x0, x1, x2, _, _, _⟩ := (HX0.out.below (Nat.le_refl _) HE2.out).all; have hp2 : w.heap.size + 1 < w2.heap.size := (by have := HE2.out.size; omega)))
    go_ret
    exact ⟨rfl, HB0.out.trans (HE2.out.mono (by omega))⟩
  | true =>
    obtain ⟨W0, hW0⟩ : ∃ W0, W0 = (w.alloc (.cells #[.bool true, .slice a1 n1 c1, .slice a2 n2 c2] 25)).alloc (.cells #[.bool d, .slice b1 m1 d1, .slice b2 m2 d2] 25) := ⟨_, rfl⟩
    have hz0 : W0.heap.size = w.heap.size + 2 := by rw [hW0]; simp
    have HB0 : Hid (Below w.heap.size w W0) := by rw [hW0]; exact ((Below.refl _ w).alloc (Nat.le_refl _) _).alloc (by simp) _
    have HX0 : Hid (Box W0 w.heap.size true (.slice a1 n1 c1) (.slice a2 n2 c2)) := by rw [hW0]; exact (Box.new w _ _ _).alloc _
    have HX1 : Hid (Box W0 (w.heap.size + 1) d (.slice b1 m1 d1) (.slice b2 m2 d2)) := by
      rw [hW0]
      show Box _ _ _ _ _
      have := Box.new (w.alloc (.cells #[.bool true, .slice a1 n1 c1, .slice a2 n2 c2] 25)) d (.slice b1 m1 d1) (.slice b2 m2 d2)
      simpa using this
    have H1 := hide (h1.below (Nat.le_refl _) HB0.out)
    have H2 := hide (h2.below (Nat.le_refl _) HB0.out)
    have K1 := hide (k1.below (Nat.le_refl _) HB0.out)
    have K2 := hide (k2.below (Nat.le_refl _) HB0.out)
    have hs1 := h1.small
    have HW0 := hide hW0
    have HR := hide hok
    have HR' := hide hok'
    clear hok'
    clear h1 h2 k1 k2 hok hW0
    go_enter Tryz.func57, Tryz.ntmps57
    go_wp2_with (first | (go_at_call_of 51 (Value.slice a1 n1 c1); rw [← HW0.out]; refine (implArrayOk_eq _ _ _ _ _ _ _ sh dt _ H1.out H2.out _ HR).mono ?_; rintro e w1 ⟨rfl, hb1⟩; have HE1 := hide hb1; clear hb1; obtain ⟨x0, x1, x2, _, _, _⟩ := (HX0.out.below (Nat.le_refl _) HE1.out).all; obtain ⟨y0, y1, y2, _, _, _⟩ := (HX1.out.below (Nat.le_refl _) HE1.out).all; have hp1 : w.heap.size + 1 < w1.heap.size := (by have := HE1.out.size; omega)) | (go_at_call 51; refine (implArrayOk_eq _ _ _ _ _ _ _ sh' dt' _ (K1.out.below (Nat.le_refl _) HE1.out) (K2.out.below (Nat.le_refl _) HE1.out) _ HR').mono ?_; rintro e w2 ⟨rfl, hb2⟩; have HE2 := hide (HE1.out.trans (hb2.mono HE1.out.size)); clear hb2 x0 x1 x2 y0 y1 y2; obtain ⟨x0, x1, x2, _, _, _⟩ := (HX0.out.below (Nat.le_refl _) HE2.out).all; have hp2 : w.heap.size + 1 < w2.heap.size := (by have := HE2.out.size; omega)))
    go_ret
    exact ⟨rfl, HB0.out.trans (HE2.out.mono (by omega))⟩
def codeList (c d : Bool) (sh dt sh' dt' : List Int) : Int := if arrOk c sh dt = true ∧ arrOk d sh' dt' = true then listCode c sh.length else 3
theorem implListCode_any (c d : Bool) (a1 a2 b1 b2 : Option Addr) (n1 n2 m1 m2 c1 c2 d1 d2 : Nat) (sh dt sh' dt' : List Int) (w : World) (h1 : Row w a1 n1 sh) (h2 : Row w a2 n2 dt) (k1 : Row w b1 m1 sh') (k2 : Row w b2 m2 dt') (r : Int) (hr : Hid (codeList c d sh dt sh' dt' = r)) :
    Calls Tryz.prog 57 #[.agg #[.bool c, .slice a1 n1 c1, .slice a2 n2 c2], .agg #[.bool d, .slice b1 m1 d1, .slice b2 m2 d2]] w fun e w' => e = .returned (.int .i64 r) ∧ Below w.heap.size w w' := by
  have hr' := hr.out
  clear hr
  subst hr'
  unfold codeList
  cases hok : arrOk c sh dt with
  | false => rw [if_neg (by simp)]; exact listCode_bad1 c d a1 a2 b1 b2 n1 n2 m1 m2 c1 c2 d1 d2 sh dt sh' dt' w h1 h2 k1 k2 hok
  | true =>
    cases hok' : arrOk d sh' dt' with
    | false => rw [if_neg (by simp)]; exact listCode_bad2 c d a1 a2 b1 b2 n1 n2 m1 m2 c1 c2 d1 d2 sh dt sh' dt' w h1 h2 k1 k2 hok hok'
    | true =>
      rw [if_pos ⟨rfl, rfl⟩, h1.len]
      unfold listCode
      by_cases hn : 1 < n1
      · rw [if_pos hn]; exact listCode_long c d a1 a2 b1 b2 n1 n2 m1 m2 c1 c2 d1 d2 sh dt sh' dt' w h1 h2 k1 k2 hok hok' hn
      · rw [if_neg hn]; exact listCode_rest c d a1 a2 b1 b2 n1 n2 m1 m2 c1 c2 d1 d2 sh dt sh' dt' w h1 h2 k1 k2 hok hok' hn
end Go.Proofs.YtgjpchnkodnieaaGreatDoor
