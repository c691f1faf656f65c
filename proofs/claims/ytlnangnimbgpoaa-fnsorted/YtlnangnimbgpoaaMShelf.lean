import Derived.Test.YtlnangnimbgpoaaMMath
import Derived.Test.YtlnangnimbgpoaaMBase
import Derived.Test.YtlnangnimbgpoaaMMath
import Derived.Deep.DeepCutAuto
import Derived.Shelf.Abstract
import Derived.BigQuiet
namespace Go.Proofs.Ytlnangnimbgpoaa
open Go.RowKit

/-- The first n numbers of D. -/
def tab (n : Nat) (D : Nat → Int) : List Int := (List.range n).map D

theorem tab_len (n : Nat) (D : Nat → Int) : (tab n D).length = n := by simp [tab]
theorem tab_get {n : Nat} (D : Nat → Int) {i : Nat} (h : i < n) : (tab n D).getD i 0 = D i := by simp [tab, h]

theorem tab_swap (n : Nat) (D : Nat → Int) {x y : Nat} (h : x ≠ y) : ((tab n D).set x (D y)).set y (D x) = tab n (swap2 D x y) := by
  refine List.ext_getElem? fun i => ?_
  rw [List.getElem?_set, List.getElem?_set]
  by_cases hi : i < n
  · by_cases h1 : y = i
    · subst h1
      rw [if_pos rfl, if_pos (by rw [List.length_set, tab_len]; exact hi)]
      unfold tab swap2
      simp [hi, Ne.symm h]
    · rw [if_neg h1]
      by_cases h2 : x = i
      · subst h2
        rw [if_pos rfl, if_pos (by rw [tab_len]; exact hi)]
        unfold tab swap2
        simp [hi]
      · rw [if_neg h2]
        unfold tab swap2
        simp [hi, Ne.symm h1, Ne.symm h2]
  · have e1 : (tab n D)[i]? = none := by rw [List.getElem?_eq_none]; rw [tab_len]; omega
    have e2 : (tab n (swap2 D x y))[i]? = none := by rw [List.getElem?_eq_none]; rw [tab_len]; omega
    rw [e1, e2]
    split
    · rw [if_neg (by rw [List.length_set, tab_len]; omega)]
    · split
      · rw [if_neg (by rw [tab_len]; omega)]
      · rfl

/-- Block g holds D's first n numbers; all else is as in W. -/
structure TabS (W : World) (g n : Nat) (D : Nat → Int) (wr : World) : Prop where
  blk : Blk wr g (tab n D)
  but : But (fun x => x = g) W wr

section
variable {W wr w' : World} {g n : Nat} {D : Nat → Int}
theorem TabS.refl (h : Blk W g (tab n D)) : TabS W g n D W := ⟨h, But.refl _ _⟩
theorem TabS.cell (h : TabS W g n D wr) {i : Nat} (hi : i < n) : wr.cell? ⟨g, i, none⟩ = some (.int .i64 (D i)) := by
  have := h.blk.cell (i := i) (by rw [tab_len]; exact hi)
  rwa [tab_get D hi] at this
theorem TabS.free (h : TabS W g n D wr) (i : Nat) : wr.frozen? ⟨g, i, none⟩ = false := h.blk.free i
theorem TabS.swap (h : TabS W g n D wr) {x y : Nat} (hxy : x ≠ y) : TabS W g n (swap2 D x y) ((wr.setCell ⟨g, x, none⟩ (.int .i64 (D y))).setCell ⟨g, y, none⟩ (.int .i64 (D x))) := by
  refine ⟨?_, (h.but.setCell (p := ⟨g, x, none⟩) rfl _).setCell (p := ⟨g, y, none⟩) rfl _⟩
  rw [← tab_swap n D hxy]
  exact (h.blk.set x _).set y _
theorem TabS.next {D' : Nat → Int} (h : TabS W g n D wr) (k : TabS wr g n D' w') : TabS W g n D' w' := ⟨k.blk, (h.but.trans k.but).mono (by rintro x (h | h) <;> exact h)⟩
theorem TabS.below (h : TabS W g n D wr) (hb : Below wr.heap.size wr w') : TabS W g n D w' := ⟨h.blk.below (Nat.le_refl _) hb, (h.but.trans (T := fun _ => False) (But.of_below hb)).mono (fun _ hk => hk.elim id False.elim)⟩
theorem TabS.drew (h : TabS W g n D wr) : TabS W g n D wr.drew := h.below (Below.refl _ _).drew
end

end Go.Proofs.Ytlnangnimbgpoaa
namespace Go.Proofs.Ytlnangnimbgpoaa
open Go.RowKit

/-- The comparing function cf, with its captured variables lb, gives C of two numbers of the row; it only reads. -/
def CmpOk (cf : Nat) (lb : Array Value) (C : Int → Int → Int) (P : Int → Prop) (W : World) (g : Nat) : Prop :=
  ∀ (p q : Int), P p → P q → ∀ wx, But (fun x => x = g) W wx → Calls Try.prog cf (#[.int .i64 p, .int .i64 q] ++ lb) wx fun e w' => e = .returned (.int .i64 (C p q)) ∧ ∃ m, w' = wx.drewN m

/-- C says by its sign whose key is less. -/
def CmpKey (C : Int → Int → Int) (K : Int → Int) : Prop := ∀ p q, C p q < 0 ↔ K p < K q

theorem CmpOk.next {cf : Nat} {lb : Array Value} {C : Int → Int → Int} {P : Int → Prop} {W W' : World} {g : Nat} (h : CmpOk cf lb C P W g) (hb : But (fun x => x = g) W W') : CmpOk cf lb C P W' g :=
  fun p q hp hq wx hwx => h p q hp hq wx ((hb.trans hwx).mono (by rintro x (h | h) <;> exact h))

theorem TabS.drewN {W wr : World} {g n : Nat} {D : Nat → Int} (h : TabS W g n D wr) (m : Nat) : TabS W g n D (wr.drewN m) := h.below ⟨rfl, rfl, rfl, Nat.le_refl _, fun _ _ => rfl⟩

set_option maxRecDepth 20000 in
set_option maxHeartbeats 8000000 in
theorem insertion_any (cf : Nat) (lb : Array Value) (eg : ∀ args w, (callFunc cf args).run Try.prog w = .ok (.enter cf args) w) (C : Int → Int → Int) (K : Int → Int) (hK : CmpKey C K) (P : Int → Prop) (g n cap a b : Nat) (D : Nat → Int) (w : World) (h : Blk w g (tab n D)) (hcmp : CmpOk cf lb C P w g) (hP : ∀ i, i < n → P (D i)) (hab : a ≤ b) (hbn : b ≤ n) (hn : n ≤ 1000000) (hup : ∀ i j, a ≤ i → i < j → j < b → D i < D j) :
    Calls Try.prog 100 #[.slice (some ⟨g, 0, none⟩) n cap, .int .i64 (a : Nat), .int .i64 (b : Nat), .func (.func cf) #[] lb] w fun e w' => (∃ v, e = .returned v) ∧ ∃ E, Merged K D E a b ∧ TabS w g n E w' := by
  have H := hide (TabS.refl h)
  have HC := hide hcmp
  have HP := hide hP
  have HU := hide hup
  clear h hcmp hP hup
  go_enter Try.func100, Try.ntmps100
  go_wp2_with fail
  go_loopw [8] (fun u wr => ∃ (i : Nat) (E : Nat → Int), u = .int .i64 i ∧ a + 1 ≤ i ∧ (i ≤ b ∨ i = a + 1) ∧ Hid (Merged K D E a i ∧ TabS w g n E wr)) (fun u _ => b - (intOf u).toNat)
  case atStart => exact ⟨a + 1, D, by go_num, Nat.le_refl _, .inr rfl, Merged.refl (fun i j h1 h2 h3 => by omega), unhide H⟩
  case round =>
    obtain ⟨i, E, rfl, hia, hib, HT⟩ := hrel
    clear H
    by_cases hlt : i < b
    case neg =>
      have hlti : ¬ (i : Int) < (b : Int) := by omega
      have HE : Hid (Merged K D E a b ∧ TabS w g n E wr) := by
        obtain ⟨h1, h2⟩ := unhide HT
        refine ⟨?_, h2⟩
        by_cases hb : b = i
        · subst hb; exact h1
        · have e : b = a := by omega
          have hi : i = a + 1 := by omega
          subst e hi
          refine ⟨by rw [seg_none (Nat.le_refl _), seg_none (Nat.le_refl _)], fun i j h3 h4 h5 => by omega, fun t ht => ?_⟩
          by_cases ht2 : t = b
          · subst ht2
            have hp := h1.perm
            rw [seg_one, seg_one] at hp
            simpa using hp
          · exact h1.out t (by omega)
      go_wp2_with fail
      go_end0
      exact ⟨⟨_, rfl⟩, E, unhide HE⟩
    have hlti : (i : Int) < (b : Int) := by omega
    have hin : i < n := by omega
    have HLO : Hid (Low E a i (i + 1)) := fun t u h1 h2 h3 h4 => by
      have eu : u = i := by omega
      rw [eu, (unhide HT).1.out i (by omega)]
      exact perm_all (P := fun x => x < D i) (unhide HT).1.perm (fun t h1 h2 => unhide HU t i h1 h2 hlt) t h1 h2
    have HPE : Hid (∀ t, t < n → P (E t)) := (unhide HT).1.all (unhide HP) (by omega)
    have HJ0 : Hid (TabS w g n (rot E i i (i + 1)) wr) := by show TabS _ _ _ _ _; rw [rot_self]; exact (unhide HT).2
    clear hib
    go_wp2_with fail
    go_loopw [9] (fun u wr => ∃ (j : Nat), u = .int .i64 j ∧ a ≤ j ∧ j ≤ i ∧ Hid ((j = i ∨ K (E i) < K (E j)) ∧ TabS w g n (rot E j i (i + 1)) wr)) (fun u _ => (intOf u).toNat)
    case atStart => exact ⟨i, rfl, by omega, Nat.le_refl _, .inl rfl, unhide HJ0⟩
    case round =>
      obtain ⟨j, rfl, haj, hji, HR⟩ := hrel
      clear HJ0
      have HPR : Hid (∀ t, t < n → P (rot E j i (i + 1) t)) := by
        have hm : ∀ t, t < n → (t < j ∨ i + 1 ≤ t) ∨ (j ≤ t ∧ t < i + 1) := fun t _ => by omega
        intro t ht
        rcases hm t ht with h1 | h1
        · rw [rot_out _ h1]; exact unhide HPE t ht
        · exact perm_all (rot_perm (D := E) hji (by omega)) (fun u h2 h3 => unhide HPE u (by omega)) t h1.1 h1.2
      by_cases hja : a < j
      case neg =>
        have hjai : ¬ (a : Int) < (j : Int) := by omega
        have HN : Hid (Merged K D (rot E j i (i + 1)) a (i + 1) ∧ TabS w g n (rot E j i (i + 1)) wr) := by
          refine ⟨(unhide HT).1.grow (ins_right haj hji (unhide HT).1.rise (unhide HLO) ?_ (.inl (by omega))) (by omega), (unhide HR).2⟩
          exact (unhide HR).1.imp (fun h => h) (fun h => h)
        clear hjai
        have hja' : j = a := by omega
        subst hja'
        clear hja
        go_wp2_with fail
        go_quiet (fail)
        go_wp2_with fail
        go_roundw
        case rel => exact ⟨i + 1, _, by go_num, by omega, .inl (by omega), (unhide HN).1, (unhide HN).2.drewN _⟩
        case measure => simp [intOf]; omega
      have hjai : (a : Int) < (j : Int) := by omega
      obtain ⟨y, hy⟩ : ∃ y, j = y + 1 := ⟨j - 1, by omega⟩
      have HY := hide hy
      have ey : (j : Int) - 1 = (y : Int) := by omega
      have hyn : (y : Int) < (n : Int) := by omega
      have hjn : (j : Int) < (n : Int) := by omega
      have HRJ : Hid (rot E j i (i + 1) j = E i) := by show _ = _; rw [rot_low (Nat.le_refl _) (by omega) hji (by omega)]; congr 1; omega
      have HRY : Hid (rot E j i (i + 1) y = E y) := rot_out _ (.inl (by omega))
      obtain ⟨R, hR⟩ : ∃ R, rot E j i (i + 1) = R := ⟨_, rfl⟩
      have HRR := hide hR
      rw [hR] at HR HRJ HRY HPR
      clear hR
      obtain ⟨u, hu⟩ : ∃ u, R j = u := ⟨_, rfl⟩
      obtain ⟨v, hv⟩ : ∃ v, R y = v := ⟨_, rfl⟩
      have c1 := (unhide HR).2.cell (i := j) (by omega)
      have c2 := (unhide HR).2.cell (i := y) (by omega)
      have pu := unhide HPR j (by omega)
      have pv := unhide HPR y (by omega)
      rw [hu] at c1 pu HRJ
      rw [hv] at c2 pv HRY
      have HU1 := hide hu
      have HV1 := hide hv
      have HCV : Hid (∀ k, Calls Try.prog cf (#[.int .i64 u, .int .i64 v] ++ lb) (wr.drewN k) fun e w' => e = .returned (.int .i64 (C u v)) ∧ ∃ m, w' = (wr.drewN k).drewN m) := fun k => unhide HC u v pu pv _ ((unhide HR).2.drewN k).but
      have HKC := hide (hK u v)
      obtain ⟨cv, hcv⟩ : ∃ cv, C u v = cv := ⟨_, rfl⟩
      rw [hcv] at HCV HKC
      clear hu hv hcv pu pv HPR
      by_cases hcc : cv < 0
      case neg =>
        have HN : Hid (Merged K D R a (i + 1) ∧ TabS w g n R wr) := by
          refine ⟨?_, (unhide HR).2⟩
          rw [← unhide HRR]
          refine (unhide HT).1.grow (ins_right haj hji (unhide HT).1.rise (unhide HLO) (unhide HR).1 (.inr ?_)) (by omega)
          have h1 := mt (unhide HKC).2 hcc
          rw [unhide HRJ, unhide HRY] at *
          rw [show j - 1 = y by omega]
          omega
        clear hy
        go_wp2_with fail
        have hd1 : decide (a < j) = true := by simp; omega
        have hd2 : decide (cv < 0) = false := by simp; omega
        clear hcc hjai hja
        go_quiet (first | (go_at_fn cf; exact Calls.quiet_of (unhide HCV _)))
        go_wp2_with fail
        go_roundw
        case rel => exact ⟨i + 1, _, by go_num, by omega, .inl (by omega), (unhide HN).1, (unhide HN).2.drewN _⟩
        case measure => simp [intOf]; omega
      have HKL : Hid (K (E i) < K (E y)) := by
        have h1 := (unhide HKC).1 hcc
        rw [← unhide HRJ, ← unhide HRY] at *
        exact h1
      have HNX : Hid (∀ nq, TabS w g n (rot E y i (i + 1)) (((wr.drewN nq).setCell ⟨g, j, none⟩ (.int .i64 v)).setCell ⟨g, y, none⟩ (.int .i64 u))) := fun nq => by
        have h1 := ((unhide HR).2.drewN nq).swap (x := j) (y := y) (by omega)
        rw [unhide HU1, unhide HV1] at h1
        have h2 : swap2 R j y = rot E y i (i + 1) := by
          rw [← unhide HRR, unhide HY]
          exact swap_back E (by omega)
        rw [h2] at h1
        exact h1
      have f1 := (unhide HR).2.free j
      have f2 := (unhide HR).2.free y
      have hjy : j ≠ y := by omega
      have hyj : ¬ y = j := by omega
      have hya : a ≤ y := by omega
      have hyi : y ≤ i := by omega
      clear hy
      go_wp2_with fail
      have hd1 : decide (a < j) = true := by simp; omega
      have hd2 : decide (cv < 0) = true := by simp; omega
      clear hcc hjai hja
      go_quiet (first | (go_at_fn cf; exact Calls.quiet_of (unhide HCV _)))
      clear hd1 hd2
      go_wp2_with fail
      go_region
      all_goals go_wp2_with fail
      all_goals (go_roundw; (case rel => exact ⟨y, by go_num, hya, hyi, .inr (unhide HKL), unhide HNX _⟩); (case measure => simp [intOf]; have := unhide HY; omega))

end Go.Proofs.Ytlnangnimbgpoaa
namespace Go.Proofs.Ytlnangnimbgpoaa
open Go.RowKit

set_option maxRecDepth 20000 in
set_option maxHeartbeats 4000000 in
theorem swapRange_any (g n cap a b cnt : Nat) (D : Nat → Int) (fv : Value) (w : World) (h : Blk w g (tab n D)) (h1 : a + cnt ≤ b) (h2 : b + cnt ≤ n) (hn : n ≤ 1000000) :
    Calls Try.prog 120 #[.slice (some ⟨g, 0, none⟩) n cap, .int .i64 (a : Nat), .int .i64 (b : Nat), .int .i64 (cnt : Nat), fv] w fun e w' => (∃ v, e = .returned v) ∧ TabS w g n (swapR D a b cnt) w' := by
  have H := hide h
  clear h
  go_enter Try.func120, Try.ntmps120
  go_wp2_with fail
  go_loopw [10] (fun i wr => ∃ k : Nat, k ≤ cnt ∧ i = .int .i64 k ∧ Hid (TabS w g n (swapR D a b k) wr)) (fun i _ => cnt - (intOf i).toNat)
  case atStart => exact ⟨0, Nat.zero_le _, rfl, by show TabS _ _ _ _ _; rw [swapR_zero]; exact TabS.refl (unhide H)⟩
  case round =>
    obtain ⟨k, hk, rfl, HT⟩ := hrel
    by_cases hlt : k < cnt
    · have hlti : (k : Int) < (cnt : Int) := by omega
      obtain ⟨E, hE⟩ : ∃ E, swapR D a b k = E := ⟨_, rfl⟩
      obtain ⟨x, hx⟩ : ∃ x, a + k = x := ⟨_, rfl⟩
      obtain ⟨y, hy⟩ : ∃ y, b + k = y := ⟨_, rfl⟩
      have HS : Hid (swap2 E x y = swapR D a b (k + 1)) := by show _ = _; rw [← hE, ← hx, ← hy]; exact swapR_step D (by omega)
      rw [hE] at HT
      have c1 := (unhide HT).cell (i := x) (by omega)
      have c2 := (unhide HT).cell (i := y) (by omega)
      have f1 := (unhide HT).free x
      have f2 := (unhide HT).free y
      have hne : x ≠ y := by omega
      obtain ⟨u, hu⟩ : ∃ u, E x = u := ⟨_, rfl⟩
      obtain ⟨v, hv⟩ : ∃ v, E y = v := ⟨_, rfl⟩
      have HN : Hid (TabS w g n (swapR D a b (k + 1)) ((wr.setCell ⟨g, x, none⟩ (.int .i64 v)).setCell ⟨g, y, none⟩ (.int .i64 u))) := by show TabS _ _ _ _ _; rw [← unhide HS, ← hu, ← hv]; exact (unhide HT).swap hne
      rw [hu] at c1
      rw [hv] at c2
      have i1 : (x : Int) < (n : Int) := by omega
      have i2 : (y : Int) < (n : Int) := by omega
      have e1 : (a : Int) + (k : Int) = (x : Int) := by omega
      have e2 : (b : Int) + (k : Int) = (y : Int) := by omega
      clear hE hx hy hu hv HS
      go_wp2_with fail
      go_region
      all_goals go_wp2_with fail
      all_goals (go_roundw; (case rel => exact ⟨k + 1, by omega, by go_num, (unhide HN).drew⟩); (case measure => simp [intOf]; omega))
    · obtain rfl : k = cnt := by omega
      have hlti : ¬ (k : Int) < (k : Int) := by omega
      have HE := HT
      go_wp2_with fail
      go_end0
      exact ⟨⟨_, rfl⟩, unhide HE⟩

end Go.Proofs.Ytlnangnimbgpoaa
namespace Go.Proofs.Ytlnangnimbgpoaa
open Go.RowKit

set_option maxRecDepth 20000 in
set_option maxHeartbeats 4000000 in
theorem rotate_any (g n cap a m b : Nat) (D : Nat → Int) (fv : Value) (w : World) (h : Blk w g (tab n D)) (h1 : a < m) (h2 : m < b) (h3 : b ≤ n) (hn : n ≤ 1000000) :
    Calls Try.prog 113 #[.slice (some ⟨g, 0, none⟩) n cap, .int .i64 (a : Nat), .int .i64 (m : Nat), .int .i64 (b : Nat), fv] w fun e w' => (∃ v, e = .returned v) ∧ TabS w g n (rot D a m b) w' := by
  have H := hide (TabS.refl h)
  clear h
  obtain ⟨i0, hi0⟩ : ∃ i, m - a = i := ⟨_, rfl⟩
  obtain ⟨j0, hj0⟩ : ∃ j, b - m = j := ⟨_, rfl⟩
  have e1 : (m : Int) - (a : Int) = (i0 : Int) := by omega
  have e2 : (b : Int) - (m : Int) = (j0 : Int) := by omega
  have HI0 := hide hi0
  have HJ0 := hide hj0
  have hi1 : 0 < i0 := by omega
  have hj1 : 0 < j0 := by omega
  have him0 : i0 ≤ m := by omega
  have hjm0 : m + j0 ≤ n := by omega
  clear hi0 hj0
  go_enter Try.func113, Try.ntmps113
  go_wp2_with fail
  go_loopw [10, 11] (fun u v wr => ∃ (i j : Nat) (E : Nat → Int), u = .int .i64 i ∧ v = .int .i64 j ∧ 0 < i ∧ 0 < j ∧ i ≤ m ∧ m + j ≤ n ∧ Hid (TabS w g n E wr ∧ rot E (m - i) m (m + j) = rot D a m b)) (fun u v _ => (intOf u).toNat + (intOf v).toNat)
  case atStart => exact ⟨i0, j0, D, rfl, rfl, hi1, hj1, him0, hjm0, unhide H, by rw [← unhide HI0, ← unhide HJ0]; congr 1 <;> omega⟩
  case round =>
    obtain ⟨i, j, E, rfl, rfl, hi, hj, him, hjm, HT⟩ := hrel
    clear H HI0 HJ0
    by_cases hij : i = j
    · subst hij
      have hq : ((i : Int) != (i : Int)) = false := by simp
      have hx : (m : Int) - (i : Int) = ((m - i : Nat) : Int) := by omega
      obtain ⟨x, hx2⟩ : ∃ x, m - i = x := ⟨_, rfl⟩
      rw [hx2] at hx
      have HEV : Hid (swapR E x m i = rot D a m b) := by show _ = _; rw [← hx2, rot_even E him]; exact (unhide HT).2
      have hxi : x + i ≤ m := by omega
      clear hx2
      go_wp2_with fail
      refine (swapRange_any g n cap x m i E _ _ (unhide HT).1.blk hxi hjm hn).mono ?_
      rintro e w' ⟨⟨rv, rfl⟩, hT⟩
      have HE : Hid (TabS w g n (rot D a m b) w') := by show TabS _ _ _ _ _; rw [← unhide HEV]; exact (unhide HT).1.next hT
      clear hT
      go_wp2_with fail
      go_end0
      exact ⟨⟨_, rfl⟩, unhide HE⟩
    · have hq : ((i : Int) != (j : Int)) = true := by simp; omega
      have hx : (m : Int) - (i : Int) = ((m - i : Nat) : Int) := by omega
      obtain ⟨x, hx2⟩ : ∃ x, m - i = x := ⟨_, rfl⟩
      rw [hx2] at hx
      by_cases hgt : j < i
      · have hgi : (j : Int) < (i : Int) := by omega
        obtain ⟨y, hy⟩ : ∃ y, i - j = y := ⟨_, rfl⟩
        have hyi : (i : Int) - (j : Int) = (y : Int) := by omega
        have HEV : Hid (rot (swapR E x m j) (m - y) m (m + j) = rot D a m b) := by show _ = _; rw [← hx2, ← hy, rot_more E hgt him]; exact (unhide HT).2
        have hxi : x + j ≤ m := by omega
        clear hx2 hij
        go_wp2_with fail
        refine (swapRange_any g n cap x m j E _ _ (unhide HT).1.blk hxi hjm hn).mono ?_
        rintro e w' ⟨⟨rv, rfl⟩, hT⟩
        have HE := hide ((unhide HT).1.next hT)
        clear hT
        go_wp2_with fail
        go_roundw
        case rel => exact ⟨y, j, swapR E x m j, rfl, rfl, by omega, hj, by omega, hjm, unhide HE, unhide HEV⟩
        case measure => simp [intOf]; omega
      · have hgi : ¬ (j : Int) < (i : Int) := by omega
        obtain ⟨y, hy⟩ : ∃ y, j - i = y := ⟨_, rfl⟩
        have hyi : (j : Int) - (i : Int) = (y : Int) := by omega
        obtain ⟨z, hz⟩ : ∃ z, m + j - i = z := ⟨_, rfl⟩
        have hzi : (m : Int) + (j : Int) - (i : Int) = (z : Int) := by omega
        have HEV : Hid (rot (swapR E x z i) (m - i) m (m + y) = rot D a m b) := by show _ = _; rw [← hx2, ← hy, ← hz, rot_less E (by omega) him]; exact (unhide HT).2
        have hxi : x + i ≤ z := by omega
        have hzn : z + i ≤ n := by omega
        have hy0 : 0 < y := by omega
        clear hx2 hij hz
        go_wp2_with fail
        refine (swapRange_any g n cap x z i E _ _ (unhide HT).1.blk hxi hzn hn).mono ?_
        rintro e w' ⟨⟨rv, rfl⟩, hT⟩
        have HE := hide ((unhide HT).1.next hT)
        clear hT
        go_wp2_with fail
        go_roundw
        case rel => exact ⟨i, y, swapR E x z i, rfl, rfl, hi, hy0, him, by omega, unhide HE, unhide HEV⟩
        case measure => simp [intOf]; omega

end Go.Proofs.Ytlnangnimbgpoaa
