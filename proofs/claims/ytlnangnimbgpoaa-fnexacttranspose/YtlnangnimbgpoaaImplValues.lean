import Derived.Test.YtlnangnimbgpoaaRangeQuiet
import Derived.Test.YtlnangnimbgpoaaImplShape
import Derived.Test.YtlnangnimbgpoaaMFirst
import Derived.RangeFuncNested
import Derived.RangeFuncBound
import Derived.RangeFuncCalls
import Derived.RangeFuncLeaves
import Derived.Shelf.Abstract
import Derived.Shelf.RegionOpen
import Derived.WalkKit
import Derived.OwnWalkIn
import Derived.TacticsInMore
import Derived.LoopNIn
import Derived.LoopIn
import Derived.Maps.AppendAt
namespace Go.Proofs.Ytlnangnimbgpoaa
open Go.RowKit Go.Shelf

attribute [local go_sem] Oper.semAt_some

theorem Values_any (sa : Option Addr) (n cap : Nat) (w : World) : Calls Try.prog 82 #[.slice sa n cap] w fun e w' => e = .returned (.func (.func 104) #[] #[.pointer (some ⟨w.heap.size, 0, none⟩)]) ∧ w' = w.alloc (.cells #[.slice sa n cap] 22) := by
  go_enter Try.func82, Try.ntmps82
  go_wp2
  go_ret
  exact ⟨rfl, rfl⟩

set_option maxRecDepth 100000 in
set_option maxHeartbeats 2000000 in
theorem values1_seq (m Bn : Nat) (sa : Option Addr) (n cap : Nat) (zs : List Int) (w0 : World) (hBox : w0.cell? ⟨Bn, 0, none⟩ = some (.slice sa n cap)) (hBn : Bn < w0.heap.size) (hr : Row w0 sa n zs) :
    SeqReads m Try.prog 104 #[.pointer (some ⟨Bn, 0, none⟩)] n (fun k => #[.int .i64 (zs.getD k 0)]) w0 := by
  intro l J W hJ hY h0
  have hsm := hr.small
  have hbox := ((hJ _ _ h0).cell (p := ⟨Bn, 0, none⟩) hBn).trans hBox
  have HJ : Hid (∀ k A, J k A → Below w0.heap.size w0 A) := hJ
  have HY : Hid (∀ k W1, k < n → J k W1 → YieldAt Fence.wide (m - 1) Try.prog l #[.int .i64 (zs.getD k 0)] W1 fun e W' => e = .returned (.bool true) ∧ J (k + 1) W') := hY
  have H0 := hide h0
  have HR := hide hr
  clear hJ hY h0 hr hBox
  refine callsIn_of_wp Try.func104 rfl trivial ?_ rfl
  simp only [Try.ntmps104, List.size_toArray, List.length_cons, List.length_nil, Nat.reduceAdd, Nat.reduceSub, Array.replicate_succ, Array.replicate_zero, List.push_toArray, List.append_toArray, List.nil_append, List.cons_append]
  gi_wp2
  gi_loopw [7] (fun i wr => ∃ k : Nat, k ≤ n ∧ i = .int .i64 (k : Nat) ∧ Hid (J k wr)) (fun i _ => n - (intOf i).toNat)
  case atStart => exact ⟨0, Nat.zero_le _, rfl, H0⟩
  case round =>
    obtain ⟨k, hk, rfl, hj⟩ := hrel
    clear H0 hbox
    by_cases hlt : k < n
    · obtain ⟨b, off, rfl, hblt, hc⟩ := (HR.out.below (Nat.le_refl _) (HJ.out _ _ hj.out)).get hlt
      obtain ⟨fn, tmps, assign, body, hy, hRr⟩ := HY.out k wr hlt hj.out
      obtain ⟨x, hx⟩ : ∃ x, x = zs.getD k 0 := ⟨_, rfl⟩
      rw [← hx] at hc hy
      clear hx
      gi_wp2
      refine ⟨fun h => (by simp [Fence.wide] at h), hRr.mono ?_⟩
      rintro e W3 ⟨rfl, hJ3⟩
      have HJ3 := hide hJ3
      clear hRr hy hJ3 hc
      gi_wp2
      go_roundw
      case rel => exact ⟨k + 1, by omega, by go_num, HJ3⟩
      case measure => simp [intOf]; omega
    · have : k = n := by omega
      subst this
      gi_wp2
      go_end0
      exact ⟨⟨_, rfl⟩, hj.out⟩

/-- k elements have been collected in a slice whose box is pb. -/
def Coll (w0 : World) (pb : Nat) (zs : List Int) (k : Nat) (W : World) : Prop :=
  (∃ v, Boxed W pb 22 v ∧ W.ownsRow w0.heap.size 3 1 v k ((zs.take k).map (Value.int .i64)) ∧ (v = .slice none 0 0 ↔ k = 0)) ∧ Below w0.heap.size w0 W

theorem Coll.putObj {w0 : World} {pb : Nat} {zs : List Int} {k : Nat} {A : World} {l : Nat} {o : Obj} (h : Coll w0 pb zs k A) (hl : w0.heap.size ≤ l) (ho : A.heap[l]? = some o) (hc : o.isCells = false) (o' : Obj) : Coll w0 pb zs k (A.putObj l o') := by
  obtain ⟨⟨v, hb, hr, hn⟩, hbl⟩ := h
  refine ⟨⟨v, ?_, ?_, hn⟩, hbl.trans (below_putObj A hl o')⟩
  · have hne : pb ≠ l := fun e => by subst e; rw [show A.heap[pb]? = _ from hb] at ho; cases ho; cases hc
    exact (World.putObj_heap_other hne).trans hb
  · rcases hr with ⟨h1, h2⟩
    refine ⟨h1, ?_⟩
    rcases h2 with h | ⟨g, cap, cur, hv, hg, hgb, rest⟩
    · exact .inl h
    · have hne : g ≠ l := fun e => by subst e; rw [hgb] at ho; cases ho; cases hc
      exact .inr ⟨g, cap, cur, hv, hg, (World.putObj_heap_other hne).trans hgb, rest⟩

theorem Coll.alloc {w0 : World} {pb : Nat} {zs : List Int} {k : Nat} {A : World} (h : Coll w0 pb zs k A) (o : Obj) : Coll w0 pb zs k (A.alloc o) := by
  obtain ⟨⟨v, hb, hr, hn⟩, hbl⟩ := h
  exact ⟨⟨v, hb.alloc o, hr.alloc o, hn⟩, hbl.alloc hbl.size o⟩

theorem eg_vals : ∀ args w, (callFunc 104 args).run Try.prog w = .ok (.enter 104 args) w := enters_of Try.func104 (by kernel_rfl) rfl

set_option maxRecDepth 100000 in
set_option maxHeartbeats 2000000 in
theorem appendSeq_any (Bn : Nat) (sa : Option Addr) (n cap : Nat) (zs : List Int) (w : World) (hBox : w.cell? ⟨Bn, 0, none⟩ = some (.slice sa n cap)) (hBn : Bn < w.heap.size) (hr : Row w sa n zs) (hn : n ≤ 10000) :
    Calls Try.prog 114 #[.slice none 0 0, .func (.func 104) #[] #[.pointer (some ⟨Bn, 0, none⟩)]] w fun e w' => ∃ v, e = .returned v ∧ w'.ownsRow w.heap.size 3 1 v n (zs.map (Value.int .i64)) ∧ (v = .slice none 0 0 ↔ n = 0) ∧ Below w.heap.size w w' := by
  refine (callsIn_wide (n := 9)).1 ?_
  obtain ⟨i0, hi, hz0, hz1, hz2⟩ := info_parts info_int
  refine callsIn_of_wp_marks Try.func114 rfl trivial ?_ rfl
  simp only [Try.ntmps114, List.size_toArray, List.length_cons, List.length_nil, Nat.reduceAdd, Nat.reduceSub, Array.replicate_succ, Array.replicate_zero, List.push_toArray, List.append_toArray, List.nil_append, List.cons_append]
  gi_wp2
  have hlen := hr.len
  obtain ⟨W, hW⟩ : ∃ W, W = w.alloc (.cells #[.slice none 0 0] 22) := ⟨_, rfl⟩
  have h0 : Coll w w.heap.size zs 0 W := by
    rw [hW]
    exact ⟨⟨.slice none 0 0, Boxed.new w _ _, by simpa using World.ownsRow_nil _ _ _ _, by simp⟩, (Below.refl _ w).alloc (Nat.le_refl _) _⟩
  have hz : W.heap.size = w.heap.size + 1 := by rw [hW]; simp
  rw [← hW]
  refine range_reads (w0 := w) (gf := 104) (lb := #[.pointer (some ⟨Bn, 0, none⟩)]) rfl eg_vals (ar := fun k => #[.int .i64 (zs.getD k 0)]) (fun _ => rfl) (values1_seq _ Bn sa n cap zs w hBox hBn hr)
    (Coll w w.heap.size zs) (fun _ _ h => h.2) (fun k A l o o' h hl ho hc => h.putObj (by omega) ho hc o') (fun o o' => (h0.alloc o).alloc o')
    (fun k => { tmps := #[.slice none 0 0, .func (.func 104) #[] #[.pointer (some ⟨Bn, 0, none⟩)], .pointer (some ⟨w.heap.size, 0, none⟩), undef, .slice none 0 0, .int .i64 (zs.getD k 0), .func (.func 104) #[] #[.pointer (some ⟨Bn, 0, none⟩)], .int .i64 (zs.getD k 0), undef, undef, undef, undef, undef], defers := [] }) ?assign ?body ?done
  case assign =>
    intro l k A K hK
    gi_wp2
    exact hK
  case body =>
    rintro l k A hk ⟨⟨v, hv, hrow, hnil⟩, hB⟩
    obtain ⟨x, hx⟩ : ∃ x, x = zs.getD k 0 := ⟨_, rfl⟩
    have hts : (zs.take (k + 1)).map (Value.int .i64) = (zs.take k).map (Value.int .i64) ++ [.int .i64 x] := by rw [take_snoc zs k (by omega), ← hx]; simp
    have HTS := hide hts
    rw [← hx]
    have hc := hv.cell
    have hf := hv.frozen
    clear hx hts h0 hnil
    gi_wp2_with (gi_at_builtin; refine wpListIn_append_own _ rfl _ _ 22 rfl w.heap.size 3 i0 (.int .i64 0) 1 8 Try.underlying22 hi hz0 hz1 hz2 rfl (by decide) _ _ _ rfl (hrow.alloc _) ⟨A.heap.size, 0, none⟩ 1 1 [.int .i64 x] rfl rfl (cell_one_new _ _ _) (by simp [Value.oneCell']) (by unfold maxLen; omega) (by omega) (by have := hB.size; simp; omega) ?_; intro v' w1 hown' hgrow _; obtain ⟨g', cap', rfl⟩ := ownsRow_succ hown'; obtain ⟨hv1, hv2, hr2, hk2, hb2⟩ := hv.appended (by decide) hrow hB.size (Nat.le_refl _) hown' hgrow; have hc1 := hv1.cell; have hf1 := hv1.frozen)
    exact ⟨hk2, ⟨_, hv2, by rw [HTS.out]; exact hr2, by simp⟩, hB.trans hb2⟩
  case done =>
    rintro D A hD ⟨⟨v, hv, hrow, hnil⟩, hB⟩ hK
    have hc := hv.cell
    have hall : zs.take n = zs := List.take_of_length_le (by omega)
    have HALL := hide hall
    clear hall h0
    gi_wp2
    refine ⟨by simp, .inl ⟨_, _, rfl, run_takeDeferred hK, ?_⟩⟩
    refine ⟨_, results_tmp rfl _ _ _, v, rfl, ?_, hnil, hB.trans (below_putObj A (by omega) _)⟩
    have h := ownsRow_putObj hrow (.deferred none) hK rfl
    rw [HALL.out] at h
    exact h

end Go.Proofs.Ytlnangnimbgpoaa
