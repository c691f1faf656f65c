import Derived.Test.YtadbhidpmihghaaMRange
import Derived.Test.YtadbhidpmihghaaImplShape
import Derived.Test.YtadbhidpmihghaaGrowMore
import Derived.RangeFuncNested
import Derived.RangeFuncBound
import Derived.RangeFuncCalls
import Derived.RangeFuncLeaves
import Derived.Shelf.Abstract
import Derived.Shelf.RegionOpen
import Derived.WalkKit
import Derived.OwnWalkIn
import Derived.TacticsInMore
import Derived.LoopNIn
import Derived.LoopIn
import Derived.Maps.AppendAt
import Derived.Shelf.Sort.Plain
import Derived.Ground.NamesProg
import Derived.Test.YtadbhidpmihghaaProg
import Derived.Test.YtadbhidpmihghaaOrdMath
import Derived.Test.YtadbhidpmihghaaSpecInts
import Derived.Shelf.Slices.In.SortNone
import Derived.Sort.OwnSortedInts
namespace Go.Proofs.Ytadbhidpmihghaa
open Go.RowKit Go.Shelf

attribute [local go_sem] Oper.semAt_some

theorem Values_any (sa : Option Addr) (n cap : Nat) (w : World) : Calls Try.prog 62 #[.slice sa n cap] w fun e w' => e = .returned (.func (.func 68) #[] #[.pointer (some ⟨w.heap.size, 0, none⟩)]) ∧ w' = w.alloc (.cells #[.slice sa n cap] 22) := by
  go_enter Try.func62, Try.ntmps62
  go_wp2
  go_ret
  exact ⟨rfl, rfl⟩

set_option maxRecDepth 100000 in
set_option maxHeartbeats 2000000 in
theorem values1_seq (m Bn : Nat) (sa : Option Addr) (n cap : Nat) (zs : List Int) (w0 : World) (hBox : w0.cell? ⟨Bn, 0, none⟩ = some (.slice sa n cap)) (hBn : Bn < w0.heap.size) (hr : Row w0 sa n zs) :
    SeqReads m Try.prog 68 #[.pointer (some ⟨Bn, 0, none⟩)] n (fun k => #[.int .i64 (zs.getD k 0)]) w0 := by
  intro l J W hJ hY h0
  have hsm := hr.small
  have hbox := ((hJ _ _ h0).cell (p := ⟨Bn, 0, none⟩) hBn).trans hBox
  have HJ : Hid (∀ k A, J k A → Below w0.heap.size w0 A) := hJ
  have HY : Hid (∀ k W1, k < n → J k W1 → YieldAt Fence.wide (m - 1) Try.prog l #[.int .i64 (zs.getD k 0)] W1 fun e W' => e = .returned (.bool true) ∧ J (k + 1) W') := hY
  have H0 := hide h0
  have HR := hide hr
  clear hJ hY h0 hr hBox
  refine callsIn_of_wp Try.func68 rfl trivial ?_ rfl
  simp only [Try.ntmps68, List.size_toArray, List.length_cons, List.length_nil, Nat.reduceAdd, Nat.reduceSub, Array.replicate_succ, Array.replicate_zero, List.push_toArray, List.append_toArray, List.nil_append, List.cons_append]
  gi_wp2
  gi_loopw [7] (fun i wr => ∃ k : Nat, k ≤ n ∧ i = .int .i64 (k : Nat) ∧ Hid (J k wr)) (fun i _ => n - (intOf i).toNat)
  case atStart => exact ⟨0, Nat.zero_le _, rfl, H0⟩
  case round =>
    obtain ⟨k, hk, rfl, hj⟩ := hrel
    clear H0 hbox
    by_cases hlt : k < n
    · obtain ⟨b, off, rfl, hblt, hc⟩ := (HR.out.below (Nat.le_refl _) (HJ.out _ _ hj.out)).get hlt
      obtain ⟨fn, tmps, assign, body, hy, hRr⟩ := HY.out k wr hlt hj.out
      obtain ⟨x, hx⟩ : ∃ x, x = zs.getD k 0 := ⟨_, rfl⟩
      rw [← hx] at hc hy
      clear hx
      gi_wp2
      refine ⟨fun h => (by simp [Fence.wide] at h), hRr.mono ?_⟩
      rintro e W3 ⟨rfl, hJ3⟩
      have HJ3 := hide hJ3
      clear hRr hy hJ3 hc
      gi_wp2
      go_roundw
      case rel => exact ⟨k + 1, by omega, by go_num, HJ3⟩
      case measure => simp [intOf]; omega
    · have : k = n := by omega
      subst this
      gi_wp2
      go_end0
      exact ⟨⟨_, rfl⟩, hj.out⟩

/-- k elements have been collected in a slice whose box is pb. -/
def Coll (w0 : World) (pb : Nat) (zs : List Int) (k : Nat) (W : World) : Prop :=
  (∃ v, Boxed W pb 22 v ∧ W.ownsRow w0.heap.size 3 1 v k ((zs.take k).map (Value.int .i64)) ∧ (v = .slice none 0 0 ↔ k = 0)) ∧ Below w0.heap.size w0 W

theorem Coll.putObj {w0 : World} {pb : Nat} {zs : List Int} {k : Nat} {A : World} {l : Nat} {o : Obj} (h : Coll w0 pb zs k A) (hl : w0.heap.size ≤ l) (ho : A.heap[l]? = some o) (hc : o.isCells = false) (o' : Obj) : Coll w0 pb zs k (A.putObj l o') := by
  obtain ⟨⟨v, hb, hr, hn⟩, hbl⟩ := h
  refine ⟨⟨v, ?_, ?_, hn⟩, hbl.trans (below_putObj A hl o')⟩
  · have hne : pb ≠ l := fun e => by subst e; rw [show A.heap[pb]? = _ from hb] at ho; cases ho; cases hc
    exact (World.putObj_heap_other hne).trans hb
  · rcases hr with ⟨h1, h2⟩
    refine ⟨h1, ?_⟩
    rcases h2 with h | ⟨g, cap, cur, hv, hg, hgb, rest⟩
    · exact .inl h
    · have hne : g ≠ l := fun e => by subst e; rw [hgb] at ho; cases ho; cases hc
      exact .inr ⟨g, cap, cur, hv, hg, (World.putObj_heap_other hne).trans hgb, rest⟩

theorem Coll.alloc {w0 : World} {pb : Nat} {zs : List Int} {k : Nat} {A : World} (h : Coll w0 pb zs k A) (o : Obj) : Coll w0 pb zs k (A.alloc o) := by
  obtain ⟨⟨v, hb, hr, hn⟩, hbl⟩ := h
  exact ⟨⟨v, hb.alloc o, hr.alloc o, hn⟩, hbl.alloc hbl.size o⟩

theorem eg_vals : ∀ args w, (callFunc 68 args).run Try.prog w = .ok (.enter 68 args) w := enters_of Try.func68 (by kernel_rfl) rfl

set_option maxRecDepth 100000 in
set_option maxHeartbeats 2000000 in
theorem appendSeq_any (Bn : Nat) (sa : Option Addr) (n cap : Nat) (zs : List Int) (w : World) (hBox : w.cell? ⟨Bn, 0, none⟩ = some (.slice sa n cap)) (hBn : Bn < w.heap.size) (hr : Row w sa n zs) (hn : n ≤ 10000) :
    Calls Try.prog 71 #[.slice none 0 0, .func (.func 68) #[] #[.pointer (some ⟨Bn, 0, none⟩)]] w fun e w' => ∃ v, e = .returned v ∧ w'.ownsRow w.heap.size 3 1 v n (zs.map (Value.int .i64)) ∧ (v = .slice none 0 0 ↔ n = 0) ∧ Below w.heap.size w w' := by
  refine (callsIn_wide (n := 9)).1 ?_
  obtain ⟨i0, hi, hz0, hz1, hz2⟩ := info_parts info_int
  refine callsIn_of_wp_marks Try.func71 rfl trivial ?_ rfl
  simp only [Try.ntmps71, List.size_toArray, List.length_cons, List.length_nil, Nat.reduceAdd, Nat.reduceSub, Array.replicate_succ, Array.replicate_zero, List.push_toArray, List.append_toArray, List.nil_append, List.cons_append]
  gi_wp2
  have hlen := hr.len
  obtain ⟨W, hW⟩ : ∃ W, W = w.alloc (.cells #[.slice none 0 0] 22) := ⟨_, rfl⟩
  have h0 : Coll w w.heap.size zs 0 W := by
    rw [hW]
    exact ⟨⟨.slice none 0 0, Boxed.new w _ _, by simpa using World.ownsRow_nil _ _ _ _, by simp⟩, (Below.refl _ w).alloc (Nat.le_refl _) _⟩
  have hz : W.heap.size = w.heap.size + 1 := by rw [hW]; simp
  rw [← hW]
  refine range_reads (w0 := w) (gf := 68) (lb := #[.pointer (some ⟨Bn, 0, none⟩)]) rfl eg_vals (ar := fun k => #[.int .i64 (zs.getD k 0)]) (fun _ => rfl) (values1_seq _ Bn sa n cap zs w hBox hBn hr)
    (Coll w w.heap.size zs) (fun _ _ h => h.2) (fun k A l o o' h hl ho hc => h.putObj (by omega) ho hc o') (fun o o' => (h0.alloc o).alloc o')
    (fun k => { tmps := #[.slice none 0 0, .func (.func 68) #[] #[.pointer (some ⟨Bn, 0, none⟩)], .pointer (some ⟨w.heap.size, 0, none⟩), undef, .slice none 0 0, .int .i64 (zs.getD k 0), .func (.func 68) #[] #[.pointer (some ⟨Bn, 0, none⟩)], .int .i64 (zs.getD k 0), undef, undef, undef, undef, undef], defers := [] }) ?assign ?body ?done
  case assign =>
    intro l k A K hK
    gi_wp2
    exact hK
  case body =>
    rintro l k A hk ⟨⟨v, hv, hrow, hnil⟩, hB⟩
    obtain ⟨x, hx⟩ : ∃ x, x = zs.getD k 0 := ⟨_, rfl⟩
    have hts : (zs.take (k + 1)).map (Value.int .i64) = (zs.take k).map (Value.int .i64) ++ [.int .i64 x] := by rw [take_snoc zs k (by omega), ← hx]; simp
    have HTS := hide hts
    rw [← hx]
    have hc := hv.cell
    have hf := hv.frozen
    clear hx hts h0 hnil
    gi_wp2_with (gi_at_builtin; refine wpListIn_append_own _ rfl _ _ 22 rfl w.heap.size 3 i0 (.int .i64 0) 1 8 Try.underlying22 hi hz0 hz1 hz2 rfl (by decide) _ _ _ rfl (hrow.alloc _) ⟨A.heap.size, 0, none⟩ 1 1 [.int .i64 x] rfl rfl (cell_one_new _ _ _) (by simp [Value.oneCell']) (by unfold maxLen; omega) (by omega) (by have := hB.size; simp; omega) ?_; intro v' w1 hown' hgrow _; obtain ⟨g', cap', rfl⟩ := ownsRow_succ hown'; obtain ⟨hv1, hv2, hr2, hk2, hb2⟩ := hv.appended (by decide) hrow hB.size (Nat.le_refl _) hown' hgrow; have hc1 := hv1.cell; have hf1 := hv1.frozen)
    exact ⟨hk2, ⟨_, hv2, by rw [HTS.out]; exact hr2, by simp⟩, hB.trans hb2⟩
  case done =>
    rintro D A hD ⟨⟨v, hv, hrow, hnil⟩, hB⟩ hK
    have hc := hv.cell
    have hall : zs.take n = zs := List.take_of_length_le (by omega)
    have HALL := hide hall
    clear hall h0
    gi_wp2
    refine ⟨by simp, .inl ⟨_, _, rfl, run_takeDeferred hK, ?_⟩⟩
    refine ⟨_, results_tmp rfl _ _ _, v, rfl, ?_, hnil, hB.trans (below_putObj A (by omega) _)⟩
    have h := ownsRow_putObj hrow (.deferred none) hK rfl
    rw [HALL.out] at h
    exact h

end Go.Proofs.Ytadbhidpmihghaa
namespace Go.Proofs
open Go.Shelf
def Try.sortI_ren : Go.Shelf.Ren := ⟨fun | 189 => 67 | 125 => 73 | 257 => 72 | 128 => 83 | 129 => 84 | 294 => 74 | 295 => 75 | 296 => 76 | 297 => 77 | 298 => 78 | 299 => 79 | 216 => 80 | 300 => 81 | 301 => 82 | 328 => 85 | 329 => 86 | 330 => 87 | 331 => 88 | 332 => 89 | 215 => 90 | 343 => 91 | n => n, fun | 28 => 22 | 3 => 3 | 46 => 84 | 0 => 0 | 51 => 94 | 53 => 96 | 4 => 4 | 183 => 87 | 182 => 86 | 131 => 38 | 5 => 5 | 9 => 9 | 218 => 97 | 222 => 101 | 228 => 103 | 229 => 56 | n => n, fun | n => n⟩
theorem Try.sortI : Go.Proofs.Lays.n189 Try.prog Try.sortI_ren := {
  mixed := by kernel_rfl
  f125 := Try.func73.trans (congrArg some (by kernel_rfl))
  f128 := Try.func83.trans (congrArg some (by kernel_rfl))
  f129 := Try.func84.trans (congrArg some (by kernel_rfl))
  f189 := Try.func67.trans (congrArg some (by kernel_rfl))
  f215 := Try.func90.trans (congrArg some (by kernel_rfl))
  f216 := Try.func80.trans (congrArg some (by kernel_rfl))
  f257 := Try.func72.trans (congrArg some (by kernel_rfl))
  f294 := Try.func74.trans (congrArg some (by kernel_rfl))
  f295 := Try.func75.trans (congrArg some (by kernel_rfl))
  f296 := Try.func76.trans (congrArg some (by kernel_rfl))
  f297 := Try.func77.trans (congrArg some (by kernel_rfl))
  f298 := Try.func78.trans (congrArg some (by kernel_rfl))
  f299 := Try.func79.trans (congrArg some (by kernel_rfl))
  f300 := Try.func81.trans (congrArg some (by kernel_rfl))
  f301 := Try.func82.trans (congrArg some (by kernel_rfl))
  f328 := Try.func85.trans (congrArg some (by kernel_rfl))
  f329 := Try.func86.trans (congrArg some (by kernel_rfl))
  f330 := Try.func87.trans (congrArg some (by kernel_rfl))
  f331 := Try.func88.trans (congrArg some (by kernel_rfl))
  f332 := Try.func89.trans (congrArg some (by kernel_rfl))
  f343 := Try.func91.trans (congrArg some (by kernel_rfl))
  t0 := Try.underlying0
  a0 := Try.isAgg0
  z0 := Try.sizeOf0
  v0 := Try.zeroValue0
  t3 := Try.underlying3
  a3 := Try.isAgg3
  z3 := Try.sizeOf3
  v3 := Try.zeroValue3
  t4 := Try.underlying4
  a4 := Try.isAgg4
  z4 := Try.sizeOf4
  v4 := Try.zeroValue4
  t5 := Try.underlying5
  a5 := Try.isAgg5
  z5 := Try.sizeOf5
  v5 := Try.zeroValue5
  t9 := Try.underlying9
  a9 := Try.isAgg9
  z9 := Try.sizeOf9
  v9 := Try.zeroValue9
  t28 := Try.underlying22
  a28 := Try.isAgg22
  z28 := Try.sizeOf22
  v28 := Try.zeroValue22
  t46 := Try.underlying84
  a46 := Try.isAgg84
  z46 := Try.sizeOf84
  v46 := Try.zeroValue84
  t51 := Try.underlying94
  a51 := Try.isAgg94
  z51 := Try.sizeOf94
  v51 := Try.zeroValue94
  t53 := Try.underlying96
  a53 := Try.isAgg96
  z53 := Try.sizeOf96
  v53 := Try.zeroValue96
  t131 := Try.underlying38
  a131 := Try.isAgg38
  z131 := Try.sizeOf38
  v131 := Try.zeroValue38
  t182 := Try.underlying86
  a182 := Try.isAgg86
  z182 := Try.sizeOf86
  v182 := Try.zeroValue86
  t183 := Try.underlying87
  a183 := Try.isAgg87
  z183 := Try.sizeOf87
  v183 := Try.zeroValue87
  t218 := Try.underlying97
  a218 := Try.isAgg97
  z218 := Try.sizeOf97
  v218 := Try.zeroValue97
  t222 := Try.underlying101
  a222 := Try.isAgg101
  z222 := Try.sizeOf101
  v222 := Try.zeroValue101
  t228 := Try.underlying103
  a228 := Try.isAgg103
  z228 := Try.sizeOf103
  v228 := Try.zeroValue103
  t229 := Try.underlying56
  a229 := Try.isAgg56
  z229 := Try.sizeOf56
  v229 := Try.zeroValue56 }
end Go.Proofs
namespace Go.Proofs.Ytadbhidpmihghaa
open Go.RowKit Go.Shelf

theorem Sort_own (base n : Nat) (v : Value) (zs : List Int) (w : World) (hrow : w.ownsRow base 3 1 v n (zs.map (Value.int .i64))) (hnil : v = .slice none 0 0 ↔ n = 0) (hl : zs.length = n) (hn : n ≤ 10000) (hb : base ≤ w.heap.size) :
    Calls Try.prog 67 #[v] w fun e w' => e = .returned (.tuple #[]) ∧ w'.ownsRow base 3 1 v n ((sortedI zs).map (Value.int .i64)) ∧ Below base w w' := by
  by_cases h0 : n = 0
  · obtain rfl := hnil.2 h0
    subst h0
    have hz : zs = [] := List.length_eq_zero_iff.1 hl
    subst hz
    refine (Any.slices_Sort_int_none Try.sortI none 0 w).mono ?_
    rintro e w' ⟨rfl, rfl⟩
    exact ⟨rfl, by simpa [sortedI] using hrow, Below.refl _ _⟩
  · obtain ⟨h1, h2⟩ := hrow
    rcases h2 with ⟨h, _⟩ | ⟨g, cap, cur, rfl, hg, hgb, hc1, hc2, hc3, hc4⟩
    · exact absurd (hnil.1 h) h0
    · have hH := holds_of_blockI (ss := zs) hgb (by rw [hl]; simpa using hc4)
      have hgl : g < w.heap.size := (Array.getElem?_eq_some_iff.1 hgb).1
      subst hl
      refine (Any.slices_Sort_int Try.sortI g 0 cap zs w hH hgl (by omega)).mono ?_
      rintro e w' ⟨rfl, q, os, rfl⟩
      refine ⟨rfl, ownsRow_sortedI (sortedI_len zs) hg hgb hc1 hc2 hc3, ?_⟩
      exact (Below.refl base w).grown (grownBy_sortedI _) hb (fun k e => by cases e; exact hg)

set_option maxHeartbeats 1000000 in
theorem Collect_any (Bn : Nat) (sa : Option Addr) (n cap : Nat) (zs : List Int) (w : World) (hBox : w.cell? ⟨Bn, 0, none⟩ = some (.slice sa n cap)) (hBn : Bn < w.heap.size) (hr : Row w sa n zs) (hn : n ≤ 10000) :
    Calls Try.prog 66 #[.func (.func 68) #[] #[.pointer (some ⟨Bn, 0, none⟩)]] w fun e w' => ∃ v, e = .returned v ∧ w'.ownsRow w.heap.size 3 1 v n (zs.map (Value.int .i64)) ∧ (v = .slice none 0 0 ↔ n = 0) ∧ Below w.heap.size w w' := by
  have HC := hide (appendSeq_any Bn sa n cap zs w hBox hBn hr hn)
  clear hBox hBn hr
  go_enter Try.func66, Try.ntmps66
  go_wp2_with (go_at_call 71; refine HC.out.mono ?_; rintro e w1 ⟨v, rfl, hv1, hv2, hv3⟩)
  go_ret
  exact ⟨v, rfl, hv1, hv2, hv3⟩

set_option maxHeartbeats 1000000 in
theorem Sorted_any (Bn : Nat) (sa : Option Addr) (n cap : Nat) (zs : List Int) (w : World) (hBox : w.cell? ⟨Bn, 0, none⟩ = some (.slice sa n cap)) (hBn : Bn < w.heap.size) (hr : Row w sa n zs) (hn : n ≤ 10000) :
    Calls Try.prog 61 #[.func (.func 68) #[] #[.pointer (some ⟨Bn, 0, none⟩)]] w fun e w' => ∃ a cp, e = .returned (.slice a n cp) ∧ Row w' a n (sortedI zs) ∧ Below w.heap.size w w' := by
  have HC := hide (Collect_any Bn sa n cap zs w hBox hBn hr hn)
  have HL := hide hr.len
  clear hBox hBn hr
  go_enter Try.func61, Try.ntmps61
  go_wp2_with (first | (go_at_call 66; refine HC.out.mono ?_; rintro e w1 ⟨v, rfl, hv1, hv2, hv3⟩; have H1 := hide hv1; have H2 : Hid (v = .slice none 0 0 ↔ n = 0) := hv2; have H3 := hide hv3; clear hv1 hv2 hv3) | (go_at_call 67; refine (Sort_own w.heap.size n v zs _ H1.out H2.out HL.out hn H3.out.size).mono ?_; rintro e w2 ⟨rfl, ho, hb⟩; have HO := hide ho; have HB := hide hb; clear ho hb))
  go_ret
  obtain ⟨a, cp, rfl, ho⟩ := Own.of_owns HO.out (by omega)
  exact ⟨a, cp, rfl, ho.row, H3.out.trans (HB.out)⟩

set_option maxHeartbeats 1000000 in
theorem isOrder_any (sa : Option Addr) (n cap : Nat) (zs : List Int) (w : World) (hr : Row w sa n zs) (hn : n ≤ 10000) (r : Bool) (hres : Hid (inTurn (sortedI zs) n = r)) :
    Calls Try.prog 45 #[.slice sa n cap] w fun e w' => e = .returned (.bool r) ∧ Below w.heap.size w w' := by
  have HS : Hid (Calls Try.prog 61 #[.func (.func 68) #[] #[.pointer (some ⟨w.heap.size, 0, none⟩)]] (w.alloc (.cells #[.slice sa n cap] 22)) fun e w' => ∃ a cp, e = .returned (.slice a n cp) ∧ Row w' a n (sortedI zs) ∧ Below (w.alloc (.cells #[.slice sa n cap] 22)).heap.size (w.alloc (.cells #[.slice sa n cap] 22)) w') := Sorted_any w.heap.size sa n cap zs _ (Boxed.new w _ _).cell (by simp) (hr.alloc _) hn
  clear hr
  go_enter Try.func45, Try.ntmps45
  go_wp2_with (first | (go_at_call 62; refine (Values_any _ _ _ _).mono ?_; rintro e w1 ⟨rfl, hw1⟩; subst hw1) | (go_at_call 61; refine HS.out.mono ?_; rintro e w2 ⟨a, cp, rfl, hro, hbl⟩; have HR := hide hro; have HB : Hid (Below w.heap.size w w2) := ((Below.refl _ w).alloc (Nat.le_refl _) _).trans (hbl.mono (by simp)); clear hro hbl))
  clear HS
  obtain ⟨ys, hys⟩ : ∃ ys, ys = sortedI zs := ⟨_, rfl⟩
  rw [← hys] at hres HR
  clear hys
  go_loopw [9] (fun i wr => ∃ k : Nat, k ≤ n ∧ i = .int .i64 (k : Nat) ∧ wr = w2 ∧ Hid (inTurn ys k = true)) (fun i _ => n - (intOf i).toNat)
  case atStart => exact ⟨0, Nat.zero_le _, rfl, rfl, rfl⟩
  case round =>
    obtain ⟨k, hk, rfl, hw, hin⟩ := hrel
    subst hw
    by_cases hlt : k < n
    · obtain ⟨b, off, rfl, hblt, hc⟩ := HR.out.get hlt
      obtain ⟨x, hx⟩ : ∃ x, x = ys.getD k 0 := ⟨_, rfl⟩
      rw [← hx] at hc
      by_cases he : x = (k : Int) + 1
      · have HN : Hid (inTurn ys (k + 1) = true) := by simp only [inTurn, Bool.and_eq_true, decide_eq_true_eq]; exact ⟨hin.out, by rw [← hx]; exact he⟩
        subst he
        clear hx
        go_wp2_with fail
        go_roundw
        case rel => exact ⟨k + 1, by omega, by go_num, by first | rfl | trivial, HN⟩
        case measure => simp [intOf]; omega
      · obtain rfl : r = false := by rw [← hres.out]; exact inTurn_not hlt (by rw [← hx]; exact he)
        have hq : (x != (k : Int) + 1) = true := by simp [he]
        clear hx he
        go_wp2_with fail
        go_ret
        exact ⟨rfl, HB.out⟩
    · have : k = n := by omega
      subst this
      obtain rfl : r = true := by rw [← hres.out]; exact hin.out
      go_wp2_with fail
      go_ret
      exact ⟨rfl, HB.out⟩

end Go.Proofs.Ytadbhidpmihghaa
