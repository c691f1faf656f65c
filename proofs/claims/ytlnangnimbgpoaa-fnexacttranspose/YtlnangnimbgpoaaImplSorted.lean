import Derived.Test.YtlnangnimbgpoaaImplValues
import Derived.Test.YtlnangnimbgpoaaShelfSort
import Derived.Test.YtlnangnimbgpoaaOrdMath
import Derived.Test.YtlnangnimbgpoaaMFirst
import Derived.Shelf.Slices.In.SortNone
import Derived.Sort.OwnSortedInts
namespace Go.Proofs.Ytlnangnimbgpoaa
open Go.RowKit Go.Shelf

theorem Sort_own (base n : Nat) (v : Value) (zs : List Int) (w : World) (hrow : w.ownsRow base 3 1 v n (zs.map (Value.int .i64))) (hnil : v = .slice none 0 0 ↔ n = 0) (hl : zs.length = n) (hn : n ≤ 10000) (hb : base ≤ w.heap.size) :
    Calls Try.prog 103 #[v] w fun e w' => e = .returned (.tuple #[]) ∧ w'.ownsRow base 3 1 v n ((sortedI zs).map (Value.int .i64)) ∧ Below base w w' := by
  by_cases h0 : n = 0
  · obtain rfl := hnil.2 h0
    subst h0
    have hz : zs = [] := List.length_eq_zero_iff.1 hl
    subst hz
    refine (Any.slices_Sort_int_none Try.sortI none 0 w).mono ?_
    rintro e w' ⟨rfl, rfl⟩
    exact ⟨rfl, by simpa [sortedI] using hrow, Below.refl _ _⟩
  · obtain ⟨h1, h2⟩ := hrow
    rcases h2 with ⟨h, _⟩ | ⟨g, cap, cur, rfl, hg, hgb, hc1, hc2, hc3, hc4⟩
    · exact absurd (hnil.1 h) h0
    · have hH := holds_of_blockI (ss := zs) hgb (by rw [hl]; simpa using hc4)
      have hgl : g < w.heap.size := (Array.getElem?_eq_some_iff.1 hgb).1
      subst hl
      refine (Any.slices_Sort_int Try.sortI g 0 cap zs w hH hgl (by omega)).mono ?_
      rintro e w' ⟨rfl, q, os, rfl⟩
      refine ⟨rfl, ownsRow_sortedI (sortedI_len zs) hg hgb hc1 hc2 hc3, ?_⟩
      exact (Below.refl base w).grown (grownBy_sortedI _) hb (fun k e => by cases e; exact hg)

set_option maxHeartbeats 1000000 in
theorem Collect_any (Bn : Nat) (sa : Option Addr) (n cap : Nat) (zs : List Int) (w : World) (hBox : w.cell? ⟨Bn, 0, none⟩ = some (.slice sa n cap)) (hBn : Bn < w.heap.size) (hr : Row w sa n zs) (hn : n ≤ 10000) :
    Calls Try.prog 102 #[.func (.func 104) #[] #[.pointer (some ⟨Bn, 0, none⟩)]] w fun e w' => ∃ v, e = .returned v ∧ w'.ownsRow w.heap.size 3 1 v n (zs.map (Value.int .i64)) ∧ (v = .slice none 0 0 ↔ n = 0) ∧ Below w.heap.size w w' := by
  have HC := hide (appendSeq_any Bn sa n cap zs w hBox hBn hr hn)
  clear hBox hBn hr
  go_enter Try.func102, Try.ntmps102
  go_wp2_with (go_at_call 114; refine HC.out.mono ?_; rintro e w1 ⟨v, rfl, hv1, hv2, hv3⟩)
  go_ret
  exact ⟨v, rfl, hv1, hv2, hv3⟩

set_option maxHeartbeats 1000000 in
theorem Sorted_any (Bn : Nat) (sa : Option Addr) (n cap : Nat) (zs : List Int) (w : World) (hBox : w.cell? ⟨Bn, 0, none⟩ = some (.slice sa n cap)) (hBn : Bn < w.heap.size) (hr : Row w sa n zs) (hn : n ≤ 10000) :
    Calls Try.prog 81 #[.func (.func 104) #[] #[.pointer (some ⟨Bn, 0, none⟩)]] w fun e w' => ∃ a cp, e = .returned (.slice a n cp) ∧ Row w' a n (sortedI zs) ∧ Below w.heap.size w w' := by
  have HC := hide (Collect_any Bn sa n cap zs w hBox hBn hr hn)
  have HL := hide hr.len
  clear hBox hBn hr
  go_enter Try.func81, Try.ntmps81
  go_wp2_with (first | (go_at_call 102; refine HC.out.mono ?_; rintro e w1 ⟨v, rfl, hv1, hv2, hv3⟩; have H1 := hide hv1; have H2 : Hid (v = .slice none 0 0 ↔ n = 0) := hv2; have H3 := hide hv3; clear hv1 hv2 hv3) | (go_at_call 103; refine (Sort_own w.heap.size n v zs _ H1.out H2.out HL.out hn H3.out.size).mono ?_; rintro e w2 ⟨rfl, ho, hb⟩; have HO := hide ho; have HB := hide hb; clear ho hb))
  go_ret
  obtain ⟨a, cp, rfl, ho⟩ := Own.of_owns HO.out (by omega)
  exact ⟨a, cp, rfl, ho.row, H3.out.trans (HB.out)⟩

set_option maxHeartbeats 1000000 in
theorem isOrder_any (sa : Option Addr) (n cap : Nat) (zs : List Int) (w : World) (hr : Row w sa n zs) (hn : n ≤ 10000) (r : Bool) (hres : Hid (inTurn (sortedI zs) n = r)) :
    Calls Try.prog 46 #[.slice sa n cap] w fun e w' => e = .returned (.bool r) ∧ Below w.heap.size w w' := by
  have HS : Hid (Calls Try.prog 81 #[.func (.func 104) #[] #[.pointer (some ⟨w.heap.size, 0, none⟩)]] (w.alloc (.cells #[.slice sa n cap] 22)) fun e w' => ∃ a cp, e = .returned (.slice a n cp) ∧ Row w' a n (sortedI zs) ∧ Below (w.alloc (.cells #[.slice sa n cap] 22)).heap.size (w.alloc (.cells #[.slice sa n cap] 22)) w') := Sorted_any w.heap.size sa n cap zs _ (Boxed.new w _ _).cell (by simp) (hr.alloc _) hn
  clear hr
  go_enter Try.func46, Try.ntmps46
  go_wp2_with (first | (go_at_call 82; refine (Values_any _ _ _ _).mono ?_; rintro e w1 ⟨rfl, hw1⟩; subst hw1) | (go_at_call 81; refine HS.out.mono ?_; rintro e w2 ⟨a, cp, rfl, hro, hbl⟩; have HR := hide hro; have HB : Hid (Below w.heap.size w w2) := ((Below.refl _ w).alloc (Nat.le_refl _) _).trans (hbl.mono (by simp)); clear hro hbl))
  clear HS
  obtain ⟨ys, hys⟩ : ∃ ys, ys = sortedI zs := ⟨_, rfl⟩
  rw [← hys] at hres HR
  clear hys
  go_loopw [9] (fun i wr => ∃ k : Nat, k ≤ n ∧ i = .int .i64 (k : Nat) ∧ wr = w2 ∧ Hid (inTurn ys k = true)) (fun i _ => n - (intOf i).toNat)
  case atStart => exact ⟨0, Nat.zero_le _, rfl, rfl, rfl⟩
  case round =>
    obtain ⟨k, hk, rfl, hw, hin⟩ := hrel
    subst hw
    by_cases hlt : k < n
    · obtain ⟨b, off, rfl, hblt, hc⟩ := HR.out.get hlt
      obtain ⟨x, hx⟩ : ∃ x, x = ys.getD k 0 := ⟨_, rfl⟩
      rw [← hx] at hc
      by_cases he : x = (k : Int) + 1
      · have HN : Hid (inTurn ys (k + 1) = true) := by simp only [inTurn, Bool.and_eq_true, decide_eq_true_eq]; exact ⟨hin.out, by rw [← hx]; exact he⟩
        subst he
        clear hx
        go_wp2_with fail
        go_roundw
        case rel => exact ⟨k + 1, by omega, by go_num, by first | rfl | trivial, HN⟩
        case measure => simp [intOf]; omega
      · obtain rfl : r = false := by rw [← hres.out]; exact inTurn_not hlt (by rw [← hx]; exact he)
        have hq : (x != (k : Int) + 1) = true := by simp [he]
        clear hx he
        go_wp2_with fail
        go_ret
        exact ⟨rfl, HB.out⟩
    · have : k = n := by omega
      subst this
      obtain rfl : r = true := by rw [← hres.out]; exact hin.out
      go_wp2_with fail
      go_ret
      exact ⟨rfl, HB.out⟩

end Go.Proofs.Ytlnangnimbgpoaa
