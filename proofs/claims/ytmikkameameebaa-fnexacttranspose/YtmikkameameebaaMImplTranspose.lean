import Derived.Test.YtmikkameameebaaRangeLaw
import Derived.Test.YtmikkameameebaaImplArr
import Derived.Test.YtmikkameameebaaGrowMore
import Derived.RangeFuncNested
import Derived.RangeFuncBound
import Derived.RangeFuncCalls
import Derived.RangeFuncLeaves
import Derived.Shelf.Abstract
import Derived.Shelf.RegionOpen
import Derived.WalkKit
import Derived.OwnWalkIn
import Derived.TacticsInMore
import Derived.LoopNIn
import Derived.LoopIn
import Derived.Maps.AppendAt
import Derived.Shelf.Sort.Plain
import Derived.Ground.NamesProg
import Derived.Test.YtmikkameameebaaProg
import Derived.Test.YtmikkameameebaaTransMath
import Derived.Test.YtmikkameameebaaSpecInts
import Derived.Shelf.Slices.In.SortNone
import Derived.Sort.OwnSortedInts
import Derived.Test.YtmikkameameebaaGathMath
import Derived.Test.YtmikkameameebaaRotMath
import Derived.Test.YtmikkameameebaaImplGather
import Derived.Test.YtmikkameameebaaImplList5
import Derived.Test.YtmikkameameebaaImplEnd5
import Derived.Deep.DeepCutAuto
namespace Go.Proofs.Ytmikkameameebaa
open Go.RowKit

/-- A function that hands out N rounds, the k-th with the values ar k, as long as what lay in w0 lies as it lay; it writes nothing. -/
def SeqReads (m : Nat) (P : Program) (g : Nat) (lb : Array Value) (N : Nat) (ar : Nat → Array Value) (w0 : World) : Prop :=
  ∀ (l : Nat) (J : Nat → World → Prop) (W : World), (∀ k A, J k A → Below w0.heap.size w0 A) →
    (∀ k W1, k < N → J k W1 → YieldAt Fence.wide (m - 1) P l (ar k) W1 fun e W' => e = .returned (.bool true) ∧ J (k + 1) W') →
    J 0 W → CallsIn Fence.wide m P g (#[.func (.yield l) #[] #[]] ++ lb) W fun e W' => (∃ v, e = .returned v) ∧ J N W'

/-- How a round's body is left: off its end; whatever holds no cells lies as it lay. -/
def roundEndQ (I : World → Prop) (W : World) : Exit → Act → World → Prop
  | .normal, _, W' => KeepsOthers W W' ∧ I W'
  | _, _, _ => False

/-- A range over such a function whose body never leaves it. -/
theorem range_reads {P : Program} {m N : Nat} {g : Operand} {ps : Array Tmp} {assign body : Code} {Q : Exit → Act → World → Prop} {a : Act} {w w0 : World}
    {gf : Nat} {lb : Array Value} (hg : a.eval g = .func (.func gf) #[] lb) (eg : ∀ args w, (callFunc gf args).run P w = .ok (.enter gf args) w) {ar : Nat → Array Value} (hps : ∀ k, (ar k).size = ps.size)
    (hseq : SeqReads (m - 1) P gf lb N ar w0)
    (I : Nat → World → Prop) (hI : ∀ k A, I k A → Below w0.heap.size w0 A) (hIp : ∀ k A l o o', I k A → w.heap.size ≤ l → A.heap[l]? = some o → o.isCells = false → I k (A.putObj l o')) (h0 : ∀ o o', I 0 ((w.alloc o).alloc o')) (a₁ : Nat → Act)
    (hassign : ∀ (l k : Nat) (W : World) (K : Act → World → Prop), K (a₁ k) W →
      assign.wpIn (Fence.wide.inRound l) (m - 1 - 1) P (Exit.then K (fun _ _ _ => False)) { tmps := (ps.zip (ar k)).foldl (fun t (p, v) => t.setIfInBounds p v) a.tmps, defers := [] } W)
    (hbody : ∀ (l k : Nat) (W : World), k < N → I k W → body.wpIn (Fence.wide.inRound l) (m - 1 - 1) P (roundEndQ (I (k + 1)) W) (a₁ k) W)
    (hdone : ∀ (D : Nat) (W : World), w.heap.size ≤ D → I N W → W.heap[D]? = some (.deferred (some [])) → Q .normal { a with defers := { target := .collected D, args := #[] } :: a.defers } W) :
    (Code.rangeFunc g ps assign body).wpIn Fence.wide m P Q a w := by
  refine wpIn_rangeFunc ?_
  intro fn hfn
  obtain ⟨rec, hrec⟩ : ∃ rec : LoopState → Loop, rec = fun st => { state := st, pending := none, fn, tmps := a.tmps, params := ps, assign, body, defers := w.heap.size } := ⟨_, rfl⟩
  obtain ⟨W1, hW1⟩ : ∃ W1, (w.alloc (.deferred (some []))).alloc (.loop (rec .ready)) = W1 := ⟨_, rfl⟩
  have hL1 : W1.heap[w.heap.size + 1]? = some (.loop (rec .ready)) := by
    rw [← hW1]; have := World.alloc_heap_new (w.alloc (.deferred (some []))) (.loop (rec .ready)); rwa [World.size_alloc] at this
  have hK1 : W1.heap[w.heap.size]? = some (.deferred (some [])) := by rw [← hW1]; exact (Below.heap_alloc _ _ _ (by simp)).trans (World.alloc_heap_new w _)
  refine ⟨w.heap.size + 1, [{ target := .collected w.heap.size, args := #[] }], W1, { target := .fn (.func gf) lb, args := #[.func (.yield (w.heap.size + 1)) #[] #[]] }, W1, gf,
    #[.func (.yield (w.heap.size + 1)) #[] #[]] ++ lb, W1, ?_, ?_, ?_, ?_, ?_, ?_⟩
  · rw [← hW1, hrec]; exact run_enterLoop_outer _ _ _ _ _
  · simp only [resolve, hg]; simp [go_sem]
  · intro _ _; exact trivial
  · simp [invoke, go_sem, eg]
  · intro h; simp [Fence.wide] at h
  · refine (hseq (w.heap.size + 1) (fun k W => I k W ∧ W.heap[w.heap.size + 1]? = some (.loop (rec .ready)) ∧ W.heap[w.heap.size]? = some (.deferred (some []))) W1 (fun k A h => hI k A h.1) ?_ ⟨by rw [← hW1]; exact h0 _ _, hL1, hK1⟩).mono ?_
    · rintro k W hk ⟨hi, hl, hd⟩
      have hlt : w.heap.size + 1 < W.heap.size := (Array.getElem?_eq_some_iff.1 hl).1
      have hy := run_yield (P := P) (args := ar k) hl (by rw [hrec]; exact hps k)
      rw [hrec] at hy
      refine ⟨fn, _, assign, body, hy, roundIn_of_wpIn hfn (hassign _ k W _ ⟨_, run_beginRound hl (by rw [hrec]), ?_⟩)⟩
      refine wpIn_mono (hbody _ k _ hk (hIp _ _ _ _ _ hi (by omega) hl rfl)) ?_
      rintro e a3 W3 hp
      cases e with
      | normal =>
        obtain ⟨hkeep, hi3⟩ := hp
        have hl3 := hkeep.same _ _ (World.putObj_heap_same (o := .loop { rec .ready with state := .busy }) hlt) rfl
        have hd3 := hkeep.same _ _ ((World.putObj_heap_other (r := w.heap.size + 1) (by omega)).trans hd) rfl
        have hr := run_endRound (P := P) none hl3
        have hlt3 : w.heap.size + 1 < W3.heap.size := (Array.getElem?_eq_some_iff.1 hl3).1
        refine ⟨_, _, hr, rfl, hIp _ _ _ _ _ hi3 (by omega) hl3 rfl, ?_, (World.putObj_heap_other (by omega)).trans hd3⟩
        rw [World.putObj_heap_same hlt3, hrec]; rfl
      | ret => exact hp.elim
      | exit id => exact hp.elim
      | goto t => exact hp.elim
      | panic ch => exact hp.elim
      | outgrown => exact hp.elim
    · rintro e W2 ⟨⟨v, rfl⟩, hi, hl, hd⟩
      refine ⟨none, _, by have := run_endLoop (P := P) hl (by rw [hrec]; simp); rw [hrec] at this; exact this, hdone w.heap.size _ (Nat.le_refl _) (hIp _ _ _ _ _ hi (by omega) hl rfl) ((World.putObj_heap_other (by omega)).trans hd)⟩

end Go.Proofs.Ytmikkameameebaa
namespace Go.Proofs.Ytmikkameameebaa
open Go.RowKit Go.Shelf

attribute [local go_sem] Oper.semAt_some

theorem Values_any (sa : Option Addr) (n cap : Nat) (w : World) : Calls Try.prog 62 #[.slice sa n cap] w fun e w' => e = .returned (.func (.func 74) #[] #[.pointer (some ⟨w.heap.size, 0, none⟩)]) ∧ w' = w.alloc (.cells #[.slice sa n cap] 22) := by
  go_enter Try.func62, Try.ntmps62
  go_wp2
  go_ret
  exact ⟨rfl, rfl⟩

set_option maxRecDepth 100000 in
set_option maxHeartbeats 2000000 in
theorem values1_seq (m Bn : Nat) (sa : Option Addr) (n cap : Nat) (zs : List Int) (w0 : World) (hBox : w0.cell? ⟨Bn, 0, none⟩ = some (.slice sa n cap)) (hBn : Bn < w0.heap.size) (hr : Row w0 sa n zs) :
    SeqReads m Try.prog 74 #[.pointer (some ⟨Bn, 0, none⟩)] n (fun k => #[.int .i64 (zs.getD k 0)]) w0 := by
  intro l J W hJ hY h0
  have hsm := hr.small
  have hbox := ((hJ _ _ h0).cell (p := ⟨Bn, 0, none⟩) hBn).trans hBox
  have HJ : Hid (∀ k A, J k A → Below w0.heap.size w0 A) := hJ
  have HY : Hid (∀ k W1, k < n → J k W1 → YieldAt Fence.wide (m - 1) Try.prog l #[.int .i64 (zs.getD k 0)] W1 fun e W' => e = .returned (.bool true) ∧ J (k + 1) W') := hY
  have H0 := hide h0
  have HR := hide hr
  clear hJ hY h0 hr hBox
  refine callsIn_of_wp Try.func74 rfl trivial ?_ rfl
  simp only [Try.ntmps74, List.size_toArray, List.length_cons, List.length_nil, Nat.reduceAdd, Nat.reduceSub, Array.replicate_succ, Array.replicate_zero, List.push_toArray, List.append_toArray, List.nil_append, List.cons_append]
  gi_wp2
  gi_loopw [7] (fun i wr => ∃ k : Nat, k ≤ n ∧ i = .int .i64 (k : Nat) ∧ Hid (J k wr)) (fun i _ => n - (intOf i).toNat)
  case atStart => exact ⟨0, Nat.zero_le _, rfl, H0⟩
  case round =>
    obtain ⟨k, hk, rfl, hj⟩ := hrel
    clear H0 hbox
    by_cases hlt : k < n
    · obtain ⟨b, off, rfl, hblt, hc⟩ := (HR.out.below (Nat.le_refl _) (HJ.out _ _ hj.out)).get hlt
      obtain ⟨fn, tmps, assign, body, hy, hRr⟩ := HY.out k wr hlt hj.out
      obtain ⟨x, hx⟩ : ∃ x, x = zs.getD k 0 := ⟨_, rfl⟩
      rw [← hx] at hc hy
      clear hx
      gi_wp2
      refine ⟨fun h => (by simp [Fence.wide] at h), hRr.mono ?_⟩
      rintro e W3 ⟨rfl, hJ3⟩
      have HJ3 := hide hJ3
      clear hRr hy hJ3 hc
      gi_wp2
      go_roundw
      case rel => exact ⟨k + 1, by omega, by go_num, HJ3⟩
      case measure => simp [intOf]; omega
    · have : k = n := by omega
      subst this
      gi_wp2
      go_end0
      exact ⟨⟨_, rfl⟩, hj.out⟩

/-- k elements have been collected in a slice whose box is pb. -/
def Coll (w0 : World) (pb : Nat) (zs : List Int) (k : Nat) (W : World) : Prop :=
  (∃ v, Boxed W pb 22 v ∧ W.ownsRow w0.heap.size 3 1 v k ((zs.take k).map (Value.int .i64)) ∧ (v = .slice none 0 0 ↔ k = 0)) ∧ Below w0.heap.size w0 W

theorem Coll.putObj {w0 : World} {pb : Nat} {zs : List Int} {k : Nat} {A : World} {l : Nat} {o : Obj} (h : Coll w0 pb zs k A) (hl : w0.heap.size ≤ l) (ho : A.heap[l]? = some o) (hc : o.isCells = false) (o' : Obj) : Coll w0 pb zs k (A.putObj l o') := by
  obtain ⟨⟨v, hb, hr, hn⟩, hbl⟩ := h
  refine ⟨⟨v, ?_, ?_, hn⟩, hbl.trans (below_putObj A hl o')⟩
  · have hne : pb ≠ l := fun e => by subst e; rw [show A.heap[pb]? = _ from hb] at ho; cases ho; cases hc
    exact (World.putObj_heap_other hne).trans hb
  · rcases hr with ⟨h1, h2⟩
    refine ⟨h1, ?_⟩
    rcases h2 with h | ⟨g, cap, cur, hv, hg, hgb, rest⟩
    · exact .inl h
    · have hne : g ≠ l := fun e => by subst e; rw [hgb] at ho; cases ho; cases hc
      exact .inr ⟨g, cap, cur, hv, hg, (World.putObj_heap_other hne).trans hgb, rest⟩

theorem Coll.alloc {w0 : World} {pb : Nat} {zs : List Int} {k : Nat} {A : World} (h : Coll w0 pb zs k A) (o : Obj) : Coll w0 pb zs k (A.alloc o) := by
  obtain ⟨⟨v, hb, hr, hn⟩, hbl⟩ := h
  exact ⟨⟨v, hb.alloc o, hr.alloc o, hn⟩, hbl.alloc hbl.size o⟩

theorem eg_vals : ∀ args w, (callFunc 74 args).run Try.prog w = .ok (.enter 74 args) w := enters_of Try.func74 (by kernel_rfl) rfl

set_option maxRecDepth 100000 in
set_option maxHeartbeats 2000000 in
theorem appendSeq_any (Bn : Nat) (sa : Option Addr) (n cap : Nat) (zs : List Int) (w : World) (hBox : w.cell? ⟨Bn, 0, none⟩ = some (.slice sa n cap)) (hBn : Bn < w.heap.size) (hr : Row w sa n zs) (hn : n ≤ 10000) :
    Calls Try.prog 80 #[.slice none 0 0, .func (.func 74) #[] #[.pointer (some ⟨Bn, 0, none⟩)]] w fun e w' => ∃ v, e = .returned v ∧ w'.ownsRow w.heap.size 3 1 v n (zs.map (Value.int .i64)) ∧ (v = .slice none 0 0 ↔ n = 0) ∧ Below w.heap.size w w' := by
  refine (callsIn_wide (n := 9)).1 ?_
  obtain ⟨i0, hi, hz0, hz1, hz2⟩ := info_parts info_int
  refine callsIn_of_wp_marks Try.func80 rfl trivial ?_ rfl
  simp only [Try.ntmps80, List.size_toArray, List.length_cons, List.length_nil, Nat.reduceAdd, Nat.reduceSub, Array.replicate_succ, Array.replicate_zero, List.push_toArray, List.append_toArray, List.nil_append, List.cons_append]
  gi_wp2
  have hlen := hr.len
  obtain ⟨W, hW⟩ : ∃ W, W = w.alloc (.cells #[.slice none 0 0] 22) := ⟨_, rfl⟩
  have h0 : Coll w w.heap.size zs 0 W := by
    rw [hW]
    exact ⟨⟨.slice none 0 0, Boxed.new w _ _, by simpa using World.ownsRow_nil _ _ _ _, by simp⟩, (Below.refl _ w).alloc (Nat.le_refl _) _⟩
  have hz : W.heap.size = w.heap.size + 1 := by rw [hW]; simp
  rw [← hW]
  refine range_reads (w0 := w) (gf := 74) (lb := #[.pointer (some ⟨Bn, 0, none⟩)]) rfl eg_vals (ar := fun k => #[.int .i64 (zs.getD k 0)]) (fun _ => rfl) (values1_seq _ Bn sa n cap zs w hBox hBn hr)
    (Coll w w.heap.size zs) (fun _ _ h => h.2) (fun k A l o o' h hl ho hc => h.putObj (by omega) ho hc o') (fun o o' => (h0.alloc o).alloc o')
    (fun k => { tmps := #[.slice none 0 0, .func (.func 74) #[] #[.pointer (some ⟨Bn, 0, none⟩)], .pointer (some ⟨w.heap.size, 0, none⟩), undef, .slice none 0 0, .int .i64 (zs.getD k 0), .func (.func 74) #[] #[.pointer (some ⟨Bn, 0, none⟩)], .int .i64 (zs.getD k 0), undef, undef, undef, undef, undef], defers := [] }) ?assign ?body ?done
  case assign =>
    intro l k A K hK
    gi_wp2
    exact hK
  case body =>
    rintro l k A hk ⟨⟨v, hv, hrow, hnil⟩, hB⟩
    obtain ⟨x, hx⟩ : ∃ x, x = zs.getD k 0 := ⟨_, rfl⟩
    have hts : (zs.take (k + 1)).map (Value.int .i64) = (zs.take k).map (Value.int .i64) ++ [.int .i64 x] := by rw [take_snoc zs k (by omega), ← hx]; simp
    have HTS := hide hts
    rw [← hx]
    have hc := hv.cell
    have hf := hv.frozen
    clear hx hts h0 hnil
    gi_wp2_with (gi_at_builtin; refine wpListIn_append_own _ rfl _ _ 22 rfl w.heap.size 3 i0 (.int .i64 0) 1 8 Try.underlying22 hi hz0 hz1 hz2 rfl (by decide) _ _ _ rfl (hrow.alloc _) ⟨A.heap.size, 0, none⟩ 1 1 [.int .i64 x] rfl rfl (cell_one_new _ _ _) (by simp [Value.oneCell']) (by unfold maxLen; omega) (by omega) (by have := hB.size; simp; omega) ?_; intro v' w1 hown' hgrow _; obtain ⟨g', cap', rfl⟩ := ownsRow_succ hown'; obtain ⟨hv1, hv2, hr2, hk2, hb2⟩ := hv.appended (by decide) hrow hB.size (Nat.le_refl _) hown' hgrow; have hc1 := hv1.cell; have hf1 := hv1.frozen)
    exact ⟨hk2, ⟨_, hv2, by rw [HTS.out]; exact hr2, by simp⟩, hB.trans hb2⟩
  case done =>
    rintro D A hD ⟨⟨v, hv, hrow, hnil⟩, hB⟩ hK
    have hc := hv.cell
    have hall : zs.take n = zs := List.take_of_length_le (by omega)
    have HALL := hide hall
    clear hall h0
    gi_wp2
    refine ⟨by simp, .inl ⟨_, _, rfl, run_takeDeferred hK, ?_⟩⟩
    refine ⟨_, results_tmp rfl _ _ _, v, rfl, ?_, hnil, hB.trans (below_putObj A (by omega) _)⟩
    have h := ownsRow_putObj hrow (.deferred none) hK rfl
    rw [HALL.out] at h
    exact h

end Go.Proofs.Ytmikkameameebaa
namespace Go.Proofs
open Go.Shelf
def Try.sortI_ren : Go.Shelf.Ren := ⟨fun | 189 => 73 | 125 => 82 | 257 => 81 | 128 => 95 | 129 => 96 | 294 => 86 | 295 => 87 | 296 => 88 | 297 => 89 | 298 => 90 | 299 => 91 | 216 => 92 | 300 => 93 | 301 => 94 | 328 => 97 | 329 => 98 | 330 => 99 | 331 => 100 | 332 => 101 | 215 => 102 | 343 => 103 | n => n, fun | 28 => 22 | 3 => 3 | 46 => 77 | 0 => 0 | 51 => 85 | 53 => 88 | 4 => 4 | 183 => 94 | 182 => 93 | 131 => 70 | 5 => 5 | 9 => 9 | 218 => 102 | 222 => 106 | 228 => 108 | 229 => 74 | n => n, fun | n => n⟩
theorem Try.sortI : Go.Proofs.Lays.n189 Try.prog Try.sortI_ren := {
  mixed := by kernel_rfl
  f125 := Try.func82.trans (congrArg some (by kernel_rfl))
  f128 := Try.func95.trans (congrArg some (by kernel_rfl))
  f129 := Try.func96.trans (congrArg some (by kernel_rfl))
  f189 := Try.func73.trans (congrArg some (by kernel_rfl))
  f215 := Try.func102.trans (congrArg some (by kernel_rfl))
  f216 := Try.func92.trans (congrArg some (by kernel_rfl))
  f257 := Try.func81.trans (congrArg some (by kernel_rfl))
  f294 := Try.func86.trans (congrArg some (by kernel_rfl))
  f295 := Try.func87.trans (congrArg some (by kernel_rfl))
  f296 := Try.func88.trans (congrArg some (by kernel_rfl))
  f297 := Try.func89.trans (congrArg some (by kernel_rfl))
  f298 := Try.func90.trans (congrArg some (by kernel_rfl))
  f299 := Try.func91.trans (congrArg some (by kernel_rfl))
  f300 := Try.func93.trans (congrArg some (by kernel_rfl))
  f301 := Try.func94.trans (congrArg some (by kernel_rfl))
  f328 := Try.func97.trans (congrArg some (by kernel_rfl))
  f329 := Try.func98.trans (congrArg some (by kernel_rfl))
  f330 := Try.func99.trans (congrArg some (by kernel_rfl))
  f331 := Try.func100.trans (congrArg some (by kernel_rfl))
  f332 := Try.func101.trans (congrArg some (by kernel_rfl))
  f343 := Try.func103.trans (congrArg some (by kernel_rfl))
  t0 := Try.underlying0
  a0 := Try.isAgg0
  z0 := Try.sizeOf0
  v0 := Try.zeroValue0
  t3 := Try.underlying3
  a3 := Try.isAgg3
  z3 := Try.sizeOf3
  v3 := Try.zeroValue3
  t4 := Try.underlying4
  a4 := Try.isAgg4
  z4 := Try.sizeOf4
  v4 := Try.zeroValue4
  t5 := Try.underlying5
  a5 := Try.isAgg5
  z5 := Try.sizeOf5
  v5 := Try.zeroValue5
  t9 := Try.underlying9
  a9 := Try.isAgg9
  z9 := Try.sizeOf9
  v9 := Try.zeroValue9
  t28 := Try.underlying22
  a28 := Try.isAgg22
  z28 := Try.sizeOf22
  v28 := Try.zeroValue22
  t46 := Try.underlying77
  a46 := Try.isAgg77
  z46 := Try.sizeOf77
  v46 := Try.zeroValue77
  t51 := Try.underlying85
  a51 := Try.isAgg85
  z51 := Try.sizeOf85
  v51 := Try.zeroValue85
  t53 := Try.underlying88
  a53 := Try.isAgg88
  z53 := Try.sizeOf88
  v53 := Try.zeroValue88
  t131 := Try.underlying70
  a131 := Try.isAgg70
  z131 := Try.sizeOf70
  v131 := Try.zeroValue70
  t182 := Try.underlying93
  a182 := Try.isAgg93
  z182 := Try.sizeOf93
  v182 := Try.zeroValue93
  t183 := Try.underlying94
  a183 := Try.isAgg94
  z183 := Try.sizeOf94
  v183 := Try.zeroValue94
  t218 := Try.underlying102
  a218 := Try.isAgg102
  z218 := Try.sizeOf102
  v218 := Try.zeroValue102
  t222 := Try.underlying106
  a222 := Try.isAgg106
  z222 := Try.sizeOf106
  v222 := Try.zeroValue106
  t228 := Try.underlying108
  a228 := Try.isAgg108
  z228 := Try.sizeOf108
  v228 := Try.zeroValue108
  t229 := Try.underlying74
  a229 := Try.isAgg74
  z229 := Try.sizeOf74
  v229 := Try.zeroValue74 }
end Go.Proofs
namespace Go.Proofs.Ytmikkameameebaa

def sortedI (zs : List Int) : List Int := zs.mergeSort fun x y => decide (x ≤ y)

theorem sortedI_perm (zs : List Int) : (sortedI zs).Perm zs := List.mergeSort_perm zs _
theorem sortedI_len (zs : List Int) : (sortedI zs).length = zs.length := (sortedI_perm zs).length_eq
theorem sortedI_up (zs : List Int) : (sortedI zs).Pairwise (fun x y => x ≤ y) := by
  have h := List.pairwise_mergeSort (le := fun x y : Int => decide (x ≤ y)) (fun a b c h1 h2 => by simp at *; omega) (fun a b => by simp; omega) zs
  exact h.imp fun h => by simpa using h

/-- Each number from 1 on stands at its place. -/
def inTurn (zs : List Int) : Nat → Bool
  | 0 => true
  | k + 1 => inTurn zs k && decide (zs.getD k 0 = (k : Int) + 1)

theorem inTurn_at {zs : List Int} {n : Nat} (h : inTurn zs n = true) : ∀ k, k < n → zs.getD k 0 = (k : Int) + 1 := by
  induction n with
  | zero => intro k hk; omega
  | succ n ih =>
    simp only [inTurn, Bool.and_eq_true, decide_eq_true_eq] at h
    intro k hk
    by_cases e : k = n
    · subst e; exact h.2
    · exact ih h.1 k (by omega)
theorem inTurn_of {zs : List Int} {n : Nat} (h : ∀ k, k < n → zs.getD k 0 = (k : Int) + 1) : inTurn zs n = true := by
  induction n with
  | zero => rfl
  | succ n ih =>
    simp only [inTurn, Bool.and_eq_true, decide_eq_true_eq]
    exact ⟨ih fun k hk => h k (by omega), h n (by omega)⟩
theorem inTurn_not {zs : List Int} {n k : Nat} (hk : k < n) (h : zs.getD k 0 ≠ (k : Int) + 1) : inTurn zs n = false := by
  cases e : inTurn zs n with
  | false => rfl
  | true => exact absurd (inTurn_at e k hk) h

theorem getD_eq (zs : List Int) (k : Nat) (h : k < zs.length) : zs.getD k 0 = zs[k] := by simp [List.getD, h]

theorem order_range {dt : List Int} {r : Nat} (h : orderOk dt r r = true) (i : Nat) (hi : i < r) : 1 ≤ dt.getD i 0 ∧ dt.getD i 0 ≤ r := by
  have := order_step h hi
  unfold stepOk at this
  simp only [Bool.and_eq_true, decide_eq_true_eq] at this
  exact this.1

theorem order_nodup {dt : List Int} {r : Nat} (h : orderOk dt r r = true) (hl : dt.length = r) : dt.Nodup := by
  refine List.pairwise_iff_getElem.2 fun i j hi hj hij he => ?_
  have hs := order_step h (show j < r by omega)
  have hn := stepOk_new hs
  have ht := (turned (sh := []) (orderOk_le h (show j ≤ r by omega)) i hij).2
  have : axNo dt i = axNo dt j := by unfold axNo; rw [getD_eq dt i hi, getD_eq dt j hj, he]
  rw [this, hn] at ht
  cases ht

theorem up_strict {s : List Int} (h1 : s.Pairwise (fun x y => x ≤ y)) (h2 : s.Nodup) (k : Nat) (hk : k + 1 < s.length) : s.getD k 0 < s.getD (k + 1) 0 := by
  rw [getD_eq s k (by omega), getD_eq s (k + 1) hk]
  have a := List.pairwise_iff_getElem.1 h1 k (k + 1) (by omega) hk (by omega)
  have b := List.pairwise_iff_getElem.1 h2 k (k + 1) (by omega) hk (by omega)
  omega

theorem order_sorted {dt : List Int} {r : Nat} (h : orderOk dt r r = true) (hl : dt.length = r) : inTurn (sortedI dt) r = true := by
  have hsl : (sortedI dt).length = r := by rw [sortedI_len, hl]
  have hnd : (sortedI dt).Nodup := (sortedI_perm dt).nodup_iff.2 (order_nodup h hl)
  have hst := up_strict (sortedI_up dt) hnd
  have hmem : ∀ k, k < r → 1 ≤ (sortedI dt).getD k 0 ∧ (sortedI dt).getD k 0 ≤ r := fun k hk => by
    rw [getD_eq _ k (by omega)]
    have hm : (sortedI dt)[k]'(by omega) ∈ dt := (sortedI_perm dt).mem_iff.1 (List.getElem_mem _)
    obtain ⟨i, hi, he⟩ := List.getElem_of_mem hm
    have := order_range h i (by omega)
    rw [getD_eq dt i hi, he] at this
    exact this
  have hlow : ∀ k, k < r → (k : Int) + 1 ≤ (sortedI dt).getD k 0 := by
    intro k
    induction k with
    | zero => intro hk; have := hmem 0 hk; omega
    | succ k ih => intro hk; have := ih (by omega); have := hst k (by omega); omega
  have hup : ∀ d k, k + d + 1 = r → (sortedI dt).getD k 0 ≤ (k : Int) + 1 := by
    intro d
    induction d with
    | zero => intro k hk; have := hmem k (by omega); omega
    | succ d ih => intro k hk; have := ih (k + 1) (by omega); have := hst k (by omega); omega
  refine inTurn_of fun k hk => ?_
  have a := hlow k hk
  have b := hup (r - 1 - k) k (by omega)
  omega

theorem sorted_order {dt : List Int} {r : Nat} (h : inTurn (sortedI dt) r = true) (hl : dt.length = r) : orderOk dt r r = true := by
  have hsl : (sortedI dt).length = r := by rw [sortedI_len, hl]
  have hat := inTurn_at h
  have hnd : dt.Nodup := by
    refine (sortedI_perm dt).nodup_iff.1 (List.pairwise_iff_getElem.2 fun i j hi hj hij he => ?_)
    have a := hat i (by omega)
    have b := hat j (by omega)
    rw [getD_eq _ i hi] at a
    rw [getD_eq _ j hj] at b
    omega
  have hrng : ∀ i, i < r → 1 ≤ dt.getD i 0 ∧ dt.getD i 0 ≤ r := fun i hi => by
    rw [getD_eq dt i (by omega)]
    have hm : dt[i]'(by omega) ∈ sortedI dt := (sortedI_perm dt).mem_iff.2 (List.getElem_mem _)
    obtain ⟨k, hk, he⟩ := List.getElem_of_mem hm
    have := hat k (by omega)
    rw [getD_eq _ k hk, he] at this
    omega
  have key : ∀ m, m ≤ r → orderOk dt r m = true := by
    intro m
    induction m with
    | zero => intro _; rfl
    | succ m ih =>
      intro hm
      simp only [orderOk, Bool.and_eq_true]
      refine ⟨ih (by omega), ?_⟩
      unfold stepOk
      simp only [Bool.and_eq_true, decide_eq_true_eq, Bool.not_eq_true']
      refine ⟨hrng m (by omega), ?_⟩
      cases e : (seenN dt r m).getD (axNo dt m) false with
      | false => rfl
      | true =>
        obtain ⟨i, hi, he⟩ := seen_from e
        have a := hrng i (by omega)
        have b := hrng m (by omega)
        have heq : dt.getD i 0 = dt.getD m 0 := by unfold axNo at he; omega
        rw [getD_eq dt i (by omega), getD_eq dt m (by omega)] at heq
        exact absurd heq (List.pairwise_iff_getElem.1 hnd i m (by omega) (by omega) hi)
  exact key r (Nat.le_refl _)

theorem order_is {dt : List Int} {r : Nat} (hl : dt.length = r) : orderOk dt r r = inTurn (sortedI dt) r := by
  cases e : inTurn (sortedI dt) r with
  | true => exact sorted_order e hl
  | false =>
    cases e2 : orderOk dt r r with
    | false => rfl
    | true => rw [order_sorted e2 hl] at e; cases e

end Go.Proofs.Ytmikkameameebaa
namespace Go.Proofs.Ytmikkameameebaa
open Go.RowKit Go.Shelf

theorem Sort_own (base n : Nat) (v : Value) (zs : List Int) (w : World) (hrow : w.ownsRow base 3 1 v n (zs.map (Value.int .i64))) (hnil : v = .slice none 0 0 ↔ n = 0) (hl : zs.length = n) (hn : n ≤ 10000) (hb : base ≤ w.heap.size) :
    Calls Try.prog 73 #[v] w fun e w' => e = .returned (.tuple #[]) ∧ w'.ownsRow base 3 1 v n ((sortedI zs).map (Value.int .i64)) ∧ Below base w w' := by
  by_cases h0 : n = 0
  · obtain rfl := hnil.2 h0
    subst h0
    have hz : zs = [] := List.length_eq_zero_iff.1 hl
    subst hz
    refine (Any.slices_Sort_int_none Try.sortI none 0 w).mono ?_
    rintro e w' ⟨rfl, rfl⟩
    exact ⟨rfl, by simpa [sortedI] using hrow, Below.refl _ _⟩
  · obtain ⟨h1, h2⟩ := hrow
    rcases h2 with ⟨h, _⟩ | ⟨g, cap, cur, rfl, hg, hgb, hc1, hc2, hc3, hc4⟩
    · exact absurd (hnil.1 h) h0
    · have hH := holds_of_blockI (ss := zs) hgb (by rw [hl]; simpa using hc4)
      have hgl : g < w.heap.size := (Array.getElem?_eq_some_iff.1 hgb).1
      subst hl
      refine (Any.slices_Sort_int Try.sortI g 0 cap zs w hH hgl (by omega)).mono ?_
      rintro e w' ⟨rfl, q, os, rfl⟩
      refine ⟨rfl, ownsRow_sortedI (sortedI_len zs) hg hgb hc1 hc2 hc3, ?_⟩
      exact (Below.refl base w).grown (grownBy_sortedI _) hb (fun k e => by cases e; exact hg)

set_option maxHeartbeats 1000000 in
theorem Collect_any (Bn : Nat) (sa : Option Addr) (n cap : Nat) (zs : List Int) (w : World) (hBox : w.cell? ⟨Bn, 0, none⟩ = some (.slice sa n cap)) (hBn : Bn < w.heap.size) (hr : Row w sa n zs) (hn : n ≤ 10000) :
    Calls Try.prog 72 #[.func (.func 74) #[] #[.pointer (some ⟨Bn, 0, none⟩)]] w fun e w' => ∃ v, e = .returned v ∧ w'.ownsRow w.heap.size 3 1 v n (zs.map (Value.int .i64)) ∧ (v = .slice none 0 0 ↔ n = 0) ∧ Below w.heap.size w w' := by
  have HC := hide (appendSeq_any Bn sa n cap zs w hBox hBn hr hn)
  clear hBox hBn hr
  go_enter Try.func72, Try.ntmps72
  go_wp2_with (go_at_call 80; refine HC.out.mono ?_; rintro e w1 ⟨v, rfl, hv1, hv2, hv3⟩)
  go_ret
  exact ⟨v, rfl, hv1, hv2, hv3⟩

set_option maxHeartbeats 1000000 in
theorem Sorted_any (Bn : Nat) (sa : Option Addr) (n cap : Nat) (zs : List Int) (w : World) (hBox : w.cell? ⟨Bn, 0, none⟩ = some (.slice sa n cap)) (hBn : Bn < w.heap.size) (hr : Row w sa n zs) (hn : n ≤ 10000) :
    Calls Try.prog 61 #[.func (.func 74) #[] #[.pointer (some ⟨Bn, 0, none⟩)]] w fun e w' => ∃ a cp, e = .returned (.slice a n cp) ∧ Row w' a n (sortedI zs) ∧ Below w.heap.size w w' := by
  have HC := hide (Collect_any Bn sa n cap zs w hBox hBn hr hn)
  have HL := hide hr.len
  clear hBox hBn hr
  go_enter Try.func61, Try.ntmps61
  go_wp2_with (first | (go_at_call 72; refine HC.out.mono ?_; rintro e w1 ⟨v, rfl, hv1, hv2, hv3⟩; have H1 := hide hv1; have H2 : Hid (v = .slice none 0 0 ↔ n = 0) := hv2; have H3 := hide hv3; clear hv1 hv2 hv3) | (go_at_call 73; refine (Sort_own w.heap.size n v zs _ H1.out H2.out HL.out hn H3.out.size).mono ?_; rintro e w2 ⟨rfl, ho, hb⟩; have HO := hide ho; have HB := hide hb; clear ho hb))
  go_ret
  obtain ⟨a, cp, rfl, ho⟩ := Own.of_owns HO.out (by omega)
  exact ⟨a, cp, rfl, ho.row, H3.out.trans (HB.out)⟩

set_option maxHeartbeats 1000000 in
theorem isOrder_any (sa : Option Addr) (n cap : Nat) (zs : List Int) (w : World) (hr : Row w sa n zs) (hn : n ≤ 10000) (r : Bool) (hres : Hid (inTurn (sortedI zs) n = r)) :
    Calls Try.prog 31 #[.slice sa n cap] w fun e w' => e = .returned (.bool r) ∧ Below w.heap.size w w' := by
  have HS : Hid (Calls Try.prog 61 #[.func (.func 74) #[] #[.pointer (some ⟨w.heap.size, 0, none⟩)]] (w.alloc (.cells #[.slice sa n cap] 22)) fun e w' => ∃ a cp, e = .returned (.slice a n cp) ∧ Row w' a n (sortedI zs) ∧ Below (w.alloc (.cells #[.slice sa n cap] 22)).heap.size (w.alloc (.cells #[.slice sa n cap] 22)) w') := Sorted_any w.heap.size sa n cap zs _ (Boxed.new w _ _).cell (by simp) (hr.alloc _) hn
  clear hr
  go_enter Try.func31, Try.ntmps31
  go_wp2_with (first | (go_at_call 62; refine (Values_any _ _ _ _).mono ?_; rintro e w1 ⟨rfl, hw1⟩; subst hw1) | (go_at_call 61; refine HS.out.mono ?_; rintro e w2 ⟨a, cp, rfl, hro, hbl⟩; have HR := hide hro; have HB : Hid (Below w.heap.size w w2) := ((Below.refl _ w).alloc (Nat.le_refl _) _).trans (hbl.mono (by simp)); clear hro hbl))
  clear HS
  obtain ⟨ys, hys⟩ : ∃ ys, ys = sortedI zs := ⟨_, rfl⟩
  rw [← hys] at hres HR
  clear hys
  go_loopw [9] (fun i wr => ∃ k : Nat, k ≤ n ∧ i = .int .i64 (k : Nat) ∧ wr = w2 ∧ Hid (inTurn ys k = true)) (fun i _ => n - (intOf i).toNat)
  case atStart => exact ⟨0, Nat.zero_le _, rfl, rfl, rfl⟩
  case round =>
    obtain ⟨k, hk, rfl, hw, hin⟩ := hrel
    subst hw
    by_cases hlt : k < n
    · obtain ⟨b, off, rfl, hblt, hc⟩ := HR.out.get hlt
      obtain ⟨x, hx⟩ : ∃ x, x = ys.getD k 0 := ⟨_, rfl⟩
      rw [← hx] at hc
      by_cases he : x = (k : Int) + 1
      · have HN : Hid (inTurn ys (k + 1) = true) := by simp only [inTurn, Bool.and_eq_true, decide_eq_true_eq]; exact ⟨hin.out, by rw [← hx]; exact he⟩
        subst he
        clear hx
        go_wp2_with fail
        go_roundw
        case rel => exact ⟨k + 1, by omega, by go_num, by first | rfl | trivial, HN⟩
        case measure => simp [intOf]; omega
      · obtain rfl : r = false := by rw [← hres.out]; exact inTurn_not hlt (by rw [← hx]; exact he)
        have hq : (x != (k : Int) + 1) = true := by simp [he]
        clear hx he
        go_wp2_with fail
        go_ret
        exact ⟨rfl, HB.out⟩
    · have : k = n := by omega
      subst this
      obtain rfl : r = true := by rw [← hres.out]; exact hin.out
      go_wp2_with fail
      go_ret
      exact ⟨rfl, HB.out⟩

end Go.Proofs.Ytmikkameameebaa
namespace Go.Proofs.Ytmikkameameebaa

theorem inside_of {sh ix : List Int} (h : IxIn sh ix) (k : Nat) (hk : k ≤ sh.length) : insideN sh ix k = true := by
  induction k with
  | zero => rfl
  | succ k ih => exact inside_step (ih (by omega)) (h k (by omega)).1 (h k (by omega)).2

theorem getD_drop (l : List Int) (b m : Nat) : (l.drop b).getD m 0 = l.getD (b + m) 0 := by simp [List.getD]

theorem placeN_add (sh ix : List Int) (b m : Nat) (hm : b + m ≤ sh.length) : placeN sh ix (b + m) = placeN sh ix b * prodAll ((sh.drop b).take m) + placeN (sh.drop b) (ix.drop b) m := by
  induction m with
  | zero => simp [placeN, prodAll]
  | succ m ih =>
    show placeN sh ix (b + m) * sh.getD (b + m) 0 + ix.getD (b + m) 0 = _
    rw [ih (by omega), prodAll_snoc _ _ (by simp; omega)]
    show _ = placeN sh ix b * (prodAll ((sh.drop b).take m) * (sh.drop b).getD m 0) + (placeN (sh.drop b) (ix.drop b) m * (sh.drop b).getD m 0 + (ix.drop b).getD m 0)
    rw [getD_drop, getD_drop, Int.add_mul, Int.mul_assoc, Int.add_assoc]

theorem place_split (sh ix : List Int) (a : Nat) (ha : a < sh.length) : place sh ix = (placeN sh ix a * sh.getD a 0 + ix.getD a 0) * prodAll (sh.drop (a + 1)) + place (sh.drop (a + 1)) (ix.drop (a + 1)) := by
  have h := placeN_add sh ix (a + 1) (sh.length - (a + 1)) (by omega)
  rw [show a + 1 + (sh.length - (a + 1)) = sh.length by omega, List.take_of_length_le (by simp)] at h
  unfold place
  rw [h]
  simp [placeN]

theorem placeN_same {sh x y : List Int} (k : Nat) (h : ∀ i, i < k → x.getD i 0 = y.getD i 0) : placeN sh x k = placeN sh y k := by
  induction k with
  | zero => rfl
  | succ k ih => show placeN sh x k * _ + _ = placeN sh y k * _ + _; rw [ih (fun i hi => h i (by omega)), h k (by omega)]

theorem modOf_emod {n : Int} (hn : 0 < n) (b : Int) : modOf n b = b % n := by
  unfold modOf
  rw [if_neg (by omega)]
  have h1 := Int.tmod_lt_of_pos b hn
  have h2 : -n < b.tmod n := Int.lt_tmod_of_pos b hn
  have h3 := Int.mul_tdiv_add_tmod b n
  split
  · rename_i h
    have h4 : b.tmod n < 0 := by
      by_cases h4 : b.tmod n < 0
      · exact h4
      · exfalso; apply h.2; rw [decide_eq_false h4, decide_eq_false (by omega)]
    have := (Int.ediv_emod_unique (a := b) (r := b.tmod n + n) (q := b.tdiv n - 1) hn).2 ⟨by rw [Int.mul_sub, Int.mul_one]; omega, by omega, by omega⟩
    exact this.2.symm
  · rename_i h
    have h4 : ¬ b.tmod n < 0 := by
      intro h4
      apply h
      refine ⟨by omega, ?_⟩
      rw [decide_eq_true h4, decide_eq_false (by omega)]; simp
    have := (Int.ediv_emod_unique (a := b) (r := b.tmod n) (q := b.tdiv n) hn).2 ⟨by omega, by omega, by omega⟩
    exact this.2.symm

theorem wrap_emod {n : Int} (hn : 0 < n) (b : Int) : (b.tmod n + n).tmod n = b % n := by
  have h1 := Int.tmod_lt_of_pos b hn
  have h2 : -n < b.tmod n := Int.lt_tmod_of_pos b hn
  have h3 := Int.mul_tdiv_add_tmod b n
  rw [Int.tmod_eq_emod_of_nonneg (by omega)]
  by_cases h4 : b.tmod n < 0
  · rw [Int.emod_eq_of_lt (by omega) (by omega)]
    have := (Int.ediv_emod_unique (a := b) (r := b.tmod n + n) (q := b.tdiv n - 1) hn).2 ⟨by rw [Int.mul_sub, Int.mul_one]; omega, by omega, by omega⟩
    exact this.2.symm
  · rw [Int.add_emod_right, Int.emod_eq_of_lt (by omega) (by omega)]
    have := (Int.ediv_emod_unique (a := b) (r := b.tmod n) (q := b.tdiv n) hn).2 ⟨by omega, by omega, by omega⟩
    exact this.2.symm

/-- Which element along each axis is meant where axis a is turned by k. -/
def rotF (sh : List Int) (a : Int) (k : Int) (D : List Int) (i : Nat) : Int := if (i : Int) = a then (D.getD i 0 + k) % sh.getD i 0 else D.getD i 0

theorem rot_gather {d : Bool} {sh dt : List Int} {a : Nat} {k : Int} (hf : Full sh) (ha : a < sh.length) (t : Nat) (ht : (t : Int) < prodAll sh) (n A e : Nat) (hn : sh.getD a 0 = n) (hA : prodAll (sh.drop (a + 1)) = A) (he : modOf n k = e) :
    gatherAt d sh dt (rotF sh a k) sh t = rotAt n A e dt t := by
  have hn0 : (0 : Int) < n := by rw [← hn]; exact hf a ha
  have hD := digits_in hf (t : Int)
  have hpl := place_digits hf (p := (t : Int)) (by omega) ht
  have hDl := digits_len sh (t : Int)
  obtain ⟨D, hDD⟩ : ∃ D, digits sh (t : Int) = D := ⟨_, rfl⟩
  rw [hDD] at hD hpl hDl
  have hMg := meant_get sh (rotF sh a k) D
  have hMl := meant_len sh (rotF sh a k) D
  obtain ⟨M, hM⟩ : ∃ M, meant sh (rotF sh a k) D = M := ⟨_, rfl⟩
  rw [hM] at hMg hMl
  have hoth : ∀ i, i < sh.length → i ≠ a → M.getD i 0 = D.getD i 0 := fun i hi hne => by rw [hMg i hi]; unfold rotF; rw [if_neg (by omega)]
  have hat : M.getD a 0 = (D.getD a 0 + k) % n := by rw [hMg a ha]; unfold rotF; rw [if_pos rfl, hn]
  have hMin : IxIn sh M := fun i hi => by
    by_cases e : i = a
    · subst e; rw [hat, hn]; exact ⟨Int.emod_nonneg _ (by omega), Int.emod_lt_of_pos _ hn0⟩
    · rw [hoth i hi e]; exact hD i hi
  have hdrop : M.drop (a + 1) = D.drop (a + 1) := by
    apply List.ext_getElem
    · simp; omega
    · intro i h1 h2
      have hi : a + 1 + i < sh.length := by simp at h1; omega
      have := hoth (a + 1 + i) hi (by omega)
      simp only [List.getElem_drop]
      simpa [List.getD, show a + 1 + i < M.length by omega, show a + 1 + i < D.length by omega] using this
  have hsp := place_split sh M a ha
  have hsd := place_split sh D a ha
  rw [placeN_same a (fun i hi => hoth i (by omega) (by omega)), hat, hdrop, hn, hA] at hsp
  rw [hpl, hn, hA] at hsd
  have hrest : IxIn (sh.drop (a + 1)) (D.drop (a + 1)) := fun i hi => by
    rw [getD_drop, getD_drop]; exact hD _ (by simp at hi; omega)
  have hq := place_bd hrest
  rw [hA] at hq
  have hP := (placeN_bd hD a (by omega)).1
  have hi := hD a ha
  rw [hn] at hi
  obtain ⟨p, hp⟩ : ∃ p : Nat, placeN sh D a = p := ⟨(placeN sh D a).toNat, by omega⟩
  obtain ⟨i, hi'⟩ : ∃ i : Nat, D.getD a 0 = i := ⟨(D.getD a 0).toNat, by omega⟩
  obtain ⟨q, hq'⟩ : ∃ q : Nat, place (sh.drop (a + 1)) (D.drop (a + 1)) = q := ⟨(place (sh.drop (a + 1)) (D.drop (a + 1))).toNat, by omega⟩
  rw [hp, hi', hq'] at hsd hsp
  rw [hi'] at hi
  rw [hq'] at hq
  have he2 : ((i : Int) + k) % n = (((i + e) % n : Nat) : Int) := by
    rw [modOf_emod hn0] at he
    rw [Int.natCast_emod, Int.natCast_add, ← he, Int.add_emod_emod]
  rw [he2] at hsp
  have hts : t = (p * n + i) * A + q := by exact_mod_cast hsd
  have hfrom := rotFrom_at (n := n) (A := A) (d := e) (p := p) (i := i) (q := q) (by omega) (by omega)
  have hpm : place sh M = ((rotFrom n A e t : Nat) : Int) := by rw [hts, hfrom, hsp]; push_cast; rfl
  unfold gatherAt rotAt
  rw [hDD, hM, if_pos (inside_of hMin _ (Nat.le_refl _)), hpm]
  simp

theorem vals_same {f g : Nat → Int × Int} {n : Nat} (h : ∀ i, i < n → (f i).1 = (g i).1) : vals f n = vals g n := map_range_eq h

end Go.Proofs.Ytmikkameameebaa
namespace Go.Proofs.Ytmikkameameebaa

theorem prodAll_cons (x : Int) (l : List Int) : prodAll (x :: l) = x * prodAll l := by
  have e : x :: l = [x] ++ l := rfl
  rw [e, prodAll_append]
  simp [prodAll]

theorem prodAll_perm {l1 l2 : List Int} (h : l1.Perm l2) : prodAll l1 = prodAll l2 := by
  induction h with
  | nil => rfl
  | cons x _ ih => rw [prodAll_cons, prodAll_cons, ih]
  | swap x y l => rw [prodAll_cons, prodAll_cons, prodAll_cons, prodAll_cons, Int.mul_left_comm]
  | trans _ _ h1 h2 => exact h1.trans h2

/-- The product of the numbers that are not 0. -/
def big : List Int → Int
  | [] => 1
  | x :: r => if x = 0 then big r else x * big r

theorem big_pos {l : List Int} (h : l.all inCells = true) : 1 ≤ big l := by
  induction l with
  | nil => simp [big]
  | cons x r ih =>
    simp only [List.all_cons, Bool.and_eq_true] at h
    have hx : 0 ≤ x ∧ x ≤ 10000 := by simpa [inCells] using h.1
    have := ih h.2
    unfold big
    split
    · exact this
    · have h1 : 1 * 1 ≤ x * big r := Int.mul_le_mul (by omega) this (by omega) (by omega)
      omega

theorem big_perm {l1 l2 : List Int} (h : l1.Perm l2) : big l1 = big l2 := by
  induction h with
  | nil => rfl
  | cons x _ ih => simp only [big, ih]
  | swap x y l =>
    simp only [big]
    by_cases hx : x = 0
    · by_cases hy : y = 0
      · simp [hx, hy]
      · simp [hx, hy]
    · by_cases hy : y = 0
      · simp [hx, hy]
      · simp [hx, hy, Int.mul_left_comm]
  | trans _ _ h1 h2 => exact h1.trans h2

theorem prodFrom_big (l : List Int) (h : l.all inCells = true) (n : Int) (h1 : 1 ≤ n) (h2 : n ≤ 10000) : (∃ m, prodFrom l n = some m) ↔ n * big l ≤ 10000 := by
  induction l generalizing n with
  | nil => simp [prodFrom, big, h2]
  | cons x r ih =>
    simp only [List.all_cons, Bool.and_eq_true] at h
    have hx : 0 ≤ x ∧ x ≤ 10000 := by simpa [inCells] using h.1
    have hb := big_pos h.2
    simp only [prodFrom, big]
    by_cases h0 : x = 0
    · rw [if_pos h0, if_pos h0]; exact ih h.2 n h1 h2
    · rw [if_neg h0, if_neg h0, ← Int.mul_assoc]
      have hnx : 1 * 1 ≤ n * x := Int.mul_le_mul h1 (by omega) (by omega) (by omega)
      split
      · rename_i hbig
        constructor
        · rintro ⟨m, hm⟩; cases hm
        · intro hle
          have : n * x * 1 ≤ n * x * big r := Int.mul_le_mul_of_nonneg_left hb (by omega)
          omega
      · rename_i hbig
        exact ih h.2 (n * x) (by omega) (by omega)

theorem shapeIn_perm {l1 l2 : List Int} (h : l1.Perm l2) (hs : ShapeIn l1) : ShapeIn l2 := by
  have ha : l2.all inCells = true := by
    rw [List.all_eq_true]
    exact fun x hx => List.all_eq_true.1 hs.1 x (h.mem_iff.2 hx)
  have := (prodFrom_big l1 hs.1 1 (by omega) (by omega)).1 hs.2
  rw [big_perm h] at this
  exact ⟨ha, (prodFrom_big l2 ha 1 (by omega) (by omega)).2 this⟩

theorem order_perm {dt : List Int} {r : Nat} (h : orderOk dt r r = true) (hl : dt.length = r) : ((List.range r).map (axNo dt)).Perm (List.range r) := by
  have hat := inTurn_at (order_sorted h hl)
  have hsl : (sortedI dt).length = r := by rw [sortedI_len, hl]
  have e1 : (sortedI dt).map (fun x => (x - 1).toNat) = List.range r := by
    apply List.ext_getElem
    · simp [hsl]
    · intro i h1 h2
      have hi : i < r := by simpa using h2
      have := hat i hi
      rw [getD_eq _ i (by omega)] at this
      simp [this]
  have e2 : dt.map (fun x => (x - 1).toNat) = (List.range r).map (axNo dt) := by
    apply List.ext_getElem
    · simp [hl]
    · intro i h1 h2
      have hi : i < dt.length := by simpa using h1
      simp [axNo, hi]
  rw [← e2, ← e1]
  exact ((sortedI_perm dt).map _).symm

theorem turn_perm {dt sh : List Int} {r : Nat} (h : orderOk dt r r = true) (hl : dt.length = r) (hs : sh.length = r) : (turnN dt sh r r).Perm sh := by
  have e1 : sh = ((List.range r).map (axNo dt)).map (fun k => (turnN dt sh r r).getD k 0) := by
    apply List.ext_getElem
    · simp [hs]
    · intro i h1 h2
      have := (turned (sh := sh) h i (by omega)).1
      rw [getD_eq sh i h1] at this
      simp only [List.getElem_map, List.getElem_range]
      exact this.symm
  have e2 : turnN dt sh r r = (List.range r).map (fun k => (turnN dt sh r r).getD k 0) := by
    apply List.ext_getElem
    · simp [turnN_len]
    · intro i h1 h2
      rw [List.getElem_map, List.getElem_range, getD_eq _ i h1]
  have hp := ((order_perm h hl).map (fun k => (turnN dt sh r r).getD k 0)).symm
  rw [← e1, ← e2] at hp
  exact hp

/-- Which number of an index of the turned array is meant by an axis. -/
def transF (dt D : List Int) (i : Nat) : Int := D.getD (axNo dt i) 0

theorem trans_gather {d : Bool} {dt sh dt' : List Int} (h : orderOk dt sh.length sh.length = true) (hf : Full sh) (k : Nat) : gatherAt d sh dt' (transF dt) (turnN dt sh sh.length sh.length) k = transAt dt sh dt' k := by
  have hD := digits_in (turn_full h rfl hf) (k : Int)
  have hb := back_in h rfl hD
  have e : meant sh (transF dt) (digits (turnN dt sh sh.length sh.length) k) = backIx dt (digits (turnN dt sh sh.length sh.length) k) sh.length := rfl
  unfold gatherAt transAt
  rw [e, if_pos (inside_of hb _ (Nat.le_refl _))]

theorem trans_vals {d : Bool} {dt sh dt' : List Int} (h2 : arrOk d sh dt' = true) (h : orderOk dt sh.length sh.length = true) : vals (gatherAt d sh dt' (transF dt) (turnN dt sh sh.length sh.length)) dt'.length = vals (transAt dt sh dt') dt'.length := by
  obtain ⟨hin, hp, _⟩ := shapeIn_of h2
  by_cases h0 : dt'.length = 0
  · rw [h0]; rfl
  · exact map_range_eq fun k _ => by rw [trans_gather h (full_of hin (by rw [hp]; omega))]

end Go.Proofs.Ytmikkameameebaa
namespace Go.Proofs.Ytmikkameameebaa
open Go.RowKit Go.Shelf

theorem eg_trans : ∀ args w, (callFunc 33 args).run Try.prog w = .ok (.enter 33 args) w := enters_of Try.func33 (by kernel_rfl) rfl

set_option maxRecDepth 20000 in
set_option maxHeartbeats 2000000 in
theorem transClo (pk r cd : Nat) (c : Bool) (v : Value) (kd : Option Addr) (dt zs : List Int) (w : World) (hpk : Box w pk c v (.slice kd r cd)) (hr : Row w kd r dt) (ho : orderOk dt r r = true) (hz : zs.length = r) (h5 : r ≤ 5) :
    NumOk 33 #[.pointer (some ⟨pk, 0, none⟩)] (transF dt) zs r w := by
  intro D hD hDl k hk ib W hW hB
  obtain ⟨_, _, k2, _, _, _⟩ := (hpk.below (Nat.le_refl _) hW).all
  obtain ⟨bk, ok, rfl, _, ck⟩ := (hr.below (Nat.le_refl _) hW).get hk
  have hrg := order_range ho k hk
  have hlt := stepOk_lt (order_step ho hk)
  obtain ⟨j, hj⟩ : ∃ j, axNo dt k = j := ⟨_, rfl⟩
  have hdk : dt.getD k 0 = (j : Int) + 1 := by rw [← hj]; unfold axNo; omega
  rw [hj] at hlt
  rw [hdk] at ck
  have cd' := hB.cell (i := j) (by omega)
  obtain ⟨x, hx⟩ : ∃ x, D.getD j 0 = x := ⟨_, rfl⟩
  rw [hx] at cd'
  have HF : Hid (transF dt D k = x) := by show _ = _; unfold transF; rw [hj, hx]
  have hw1 : IntKind.i64.wrap ((j : Int) + 1 - 1) = (j : Int) := by rw [IntKind.wrap_i64]; omega
  rw [hz]
  clear hW hB hD hDl hpk hr ho hz hx hj hdk hrg
  go_enter Try.func33, Try.ntmps33
  go_wp2_with fail
  go_ret
  exact ⟨ret_int HF.out.symm, Below.refl _ _⟩

set_option maxRecDepth 20000 in
set_option maxHeartbeats 4000000 in
theorem implTranspose_code (c d : Bool) (a1 a2 b1 b2 : Addr) (n1 n2 m1 m2 c1 c2 d1 d2 : Nat) (sh dt sh' dt' : List Int) (w : World) (h1 : Row w (some a1) n1 sh) (h2 : Row w (some a2) n2 dt) (k1 : Row w (some b1) m1 sh') (k2 : Row w (some b2) m2 dt') (r : Int) (hrc : codeList c d sh dt sh' dt' = r) (hr : r ≠ 0) :
    Calls Try.prog 11 #[.agg #[.bool c, .slice (some a1) n1 c1, .slice (some a2) n2 c2], .agg #[.bool d, .slice (some b1) m1 d1, .slice (some b2) m2 d2]] w (GivesOwn w (noAns r)) := by
  have HRC := hide hrc
  have hs2 := h2.small
  have hs4 := k2.small
  have hs3 := k1.small
  have H1 := hide h1
  have H2 := hide h2
  have K1 := hide k1
  have K2 := hide k2
  have q : (r != 0) = true := by simp [hr]
  clear h1 h2 k1 k2 hrc hr
  go_enter Try.func11, Try.ntmps11
  go_wp2_with (first | (go_at_call 30; refine (implListCode_any c d (some a1) (some a2) (some b1) (some b2) n1 n2 m1 m2 c1 c2 d1 d2 sh dt sh' dt' _ ((((unhide H1).alloc _).alloc _).alloc _) ((((unhide H2).alloc _).alloc _).alloc _) ((((unhide K1).alloc _).alloc _).alloc _) ((((unhide K2).alloc _).alloc _).alloc _) _ HRC).mono ?_; rintro e w1 ⟨rfl, hb1⟩; obtain ⟨B0, B1, B2, hB1⟩ := boxes3 hb1; have HB0 := hide B0; have HB1 := hide B1; have HB2 := hide B2; have HB := hide hB1; obtain ⟨x0, x1, x2, x3, x4, x5, x6⟩ := B0.all; obtain ⟨y0, y1, y2, y3, y4, y5, y6⟩ := B1.all; obtain ⟨q0, q1, q2, q3, q4, q5, q6⟩ := B2.all; clear hb1 hB1 B0 B1 B2))
  refine bodyPost_ret (v := .tuple #[.agg #[.bool false, .slice none 0 0, .slice none 0 0], .int .i64 r]) (by simp [results, Try.results11, go_sem, q0, q1, q2]) rfl ?_
  exact gives_none ((((unhide HB).setCell (by simp <;> omega) _).setCell (by simp <;> omega) _).setCell (by simp <;> omega) _)

set_option maxRecDepth 20000 in
set_option maxHeartbeats 4000000 in
theorem implTranspose_len (c d : Bool) (a1 a2 b1 b2 : Addr) (n1 n2 m1 m2 c1 c2 d1 d2 : Nat) (sh dt sh' dt' : List Int) (w : World) (h1 : Row w (some a1) n1 sh) (h2 : Row w (some a2) n2 dt) (k1 : Row w (some b1) m1 sh') (k2 : Row w (some b2) m2 dt') (hrc : codeList c d sh dt sh' dt' = 0) (hn : n2 ≠ m1) :
    Calls Try.prog 11 #[.agg #[.bool c, .slice (some a1) n1 c1, .slice (some a2) n2 c2], .agg #[.bool d, .slice (some b1) m1 d1, .slice (some b2) m2 d2]] w (GivesOwn w (noAns 5)) := by
  have HRC := hide hrc
  have hs2 := h2.small
  have hs4 := k2.small
  have hs3 := k1.small
  have H1 := hide h1
  have H2 := hide h2
  have K1 := hide k1
  have K2 := hide k2
  have q : ((n2 : Int) != (m1 : Int)) = true := by simp; omega
  clear h1 h2 k1 k2 hrc
  go_enter Try.func11, Try.ntmps11
  go_wp2_with (first | (go_at_call 30; refine (implListCode_any c d (some a1) (some a2) (some b1) (some b2) n1 n2 m1 m2 c1 c2 d1 d2 sh dt sh' dt' _ ((((unhide H1).alloc _).alloc _).alloc _) ((((unhide H2).alloc _).alloc _).alloc _) ((((unhide K1).alloc _).alloc _).alloc _) ((((unhide K2).alloc _).alloc _).alloc _) _ HRC).mono ?_; rintro e w1 ⟨rfl, hb1⟩; obtain ⟨B0, B1, B2, hB1⟩ := boxes3 hb1; have HB0 := hide B0; have HB1 := hide B1; have HB2 := hide B2; have HB := hide hB1; obtain ⟨x0, x1, x2, x3, x4, x5, x6⟩ := B0.all; obtain ⟨y0, y1, y2, y3, y4, y5, y6⟩ := B1.all; obtain ⟨q0, q1, q2, q3, q4, q5, q6⟩ := B2.all; clear hb1 hB1 B0 B1 B2))
  refine bodyPost_ret (v := .tuple #[.agg #[.bool false, .slice none 0 0, .slice none 0 0], .int .i64 5]) (by simp [results, Try.results11, go_sem, q0, q1, q2]) rfl ?_
  exact gives_none ((((unhide HB).setCell (by simp <;> omega) _).setCell (by simp <;> omega) _).setCell (by simp <;> omega) _)

set_option maxRecDepth 20000 in
set_option maxHeartbeats 4000000 in
theorem implTranspose_dom (c d : Bool) (a1 a2 b1 b2 : Addr) (n1 m1 m2 c1 c2 d1 d2 : Nat) (sh dt sh' dt' : List Int) (w : World) (h1 : Row w (some a1) n1 sh) (h2 : Row w (some a2) m1 dt) (k1 : Row w (some b1) m1 sh') (k2 : Row w (some b2) m2 dt') (hrc : codeList c d sh dt sh' dt' = 0) (h5 : m1 ≤ 5) (ho : inTurn (sortedI dt) m1 = false) :
    Calls Try.prog 11 #[.agg #[.bool c, .slice (some a1) n1 c1, .slice (some a2) m1 c2], .agg #[.bool d, .slice (some b1) m1 d1, .slice (some b2) m2 d2]] w (GivesOwn w (noAns 3)) := by
  have HRC := hide hrc
  have HOR := hide ho
  have hs2 := h2.small
  have hs4 := k2.small
  have hs3 := k1.small
  have H1 := hide h1
  have H2 := hide h2
  have K1 := hide k1
  have K2 := hide k2
  clear h1 h2 k1 k2 hrc ho
  go_enter Try.func11, Try.ntmps11
  go_wp2_with (first | (go_at_call 30; refine (implListCode_any c d (some a1) (some a2) (some b1) (some b2) n1 m1 m1 m2 c1 c2 d1 d2 sh dt sh' dt' _ ((((unhide H1).alloc _).alloc _).alloc _) ((((unhide H2).alloc _).alloc _).alloc _) ((((unhide K1).alloc _).alloc _).alloc _) ((((unhide K2).alloc _).alloc _).alloc _) _ HRC).mono ?_; rintro e w1 ⟨rfl, hb1⟩; obtain ⟨B0, B1, B2, hB1⟩ := boxes3 hb1; have HB0 := hide B0; have HB1 := hide B1; have HB2 := hide B2; have HB := hide hB1; obtain ⟨x0, x1, x2, x3, x4, x5, x6⟩ := B0.all; obtain ⟨y0, y1, y2, y3, y4, y5, y6⟩ := B1.all; obtain ⟨q0, q1, q2, q3, q4, q5, q6⟩ := B2.all; clear hb1 hB1 B0 B1 B2) | (go_at_call 31; refine (isOrder_any _ _ _ dt _ ((unhide H2).below (Nat.le_refl _) (unhide HB)) (by omega) _ HOR).mono ?_; rintro e w2 ⟨rfl, hb2⟩; have HB0' := hide ((unhide HB0).below (Nat.le_refl _) hb2); have HB1' := hide ((unhide HB1).below (Nat.le_refl _) hb2); have HB2' := hide ((unhide HB2).below (Nat.le_refl _) hb2); have HC := hide ((unhide HB).trans (hb2.mono (by omega))); clear hb2 x0 x1 x2 x3 x4 x5 x6 y0 y1 y2 y3 y4 y5 y6 q0 q1 q2 q3 q4 q5 q6 HB0 HB1 HB2 HB; obtain ⟨x0, x1, x2, x3, x4, x5, x6⟩ := (unhide HB0').all; obtain ⟨y0, y1, y2, y3, y4, y5, y6⟩ := (unhide HB1').all; obtain ⟨q0, q1, q2, q3, q4, q5, q6⟩ := (unhide HB2').all))
  refine bodyPost_ret (v := .tuple #[.agg #[.bool false, .slice none 0 0, .slice none 0 0], .int .i64 3]) (by simp [results, Try.results11, go_sem, q0, q1, q2]) rfl ?_
  exact gives_none ((((unhide HC).setCell (by simp <;> omega) _).setCell (by simp <;> omega) _).setCell (by simp <;> omega) _)

set_option maxRecDepth 20000 in
set_option maxHeartbeats 4000000 in
theorem implTranspose_good (c d : Bool) (a1 a2 b1 b2 : Addr) (n1 m1 m2 c1 c2 d1 d2 : Nat) (sh dt sh' dt' : List Int) (w : World) (h1 : Row w (some a1) n1 sh) (h2 : Row w (some a2) m1 dt) (k1 : Row w (some b1) m1 sh') (k2 : Row w (some b2) m2 dt') (hrc : codeList c d sh dt sh' dt' = 0) (hok' : arrOk d sh' dt' = true) (ho : orderOk dt m1 m1 = true) :
    Calls Try.prog 11 #[.agg #[.bool c, .slice (some a1) n1 c1, .slice (some a2) m1 c2], .agg #[.bool d, .slice (some b1) m1 d1, .slice (some b2) m2 d2]] w (GivesOwn w ⟨d, turnN dt sh' m1 m1, vals (gatherAt d sh' dt' (transF dt) (turnN dt sh' m1 m1)) m2, 0⟩) := by
  obtain ⟨hin, hpr, h5⟩ := shapeIn_of hok'
  rw [k2.len] at hpr
  rw [k1.len] at h5
  have hpm := turn_perm (sh := sh') ho h2.len k1.len
  have HPZ : Hid (prodAll (turnN dt sh' m1 m1) = (m2 : Int)) := by rw [prodAll_perm hpm]; exact hpr
  have HIZ := hide (shapeIn_perm hpm.symm hin)
  have HIN := hide hin
  have HPR := hide hpr
  have HORD := hide ho
  have HRC := hide hrc
  have HOR : Hid (inTurn (sortedI dt) m1 = true) := by rw [← order_is h2.len]; exact hide ho
  have hs2 := h2.small
  have hs4 := k2.small
  have hs3 := k1.small
  have H1 := hide h1
  have H2 := hide h2
  have K1 := hide k1
  have K2 := hide k2
  clear h1 h2 k1 k2 hrc ho hin hpr hpm
  have hmk := run_make_row' (P := Try.prog) 22 3 (.int .i64 0) 8 Try.underlying22 info_int rfl .i64 .i64 m1 (by omega) (by omega)
  go_enter Try.func11, Try.ntmps11
  go_wp2_with (first | (go_at_call 30; refine (implListCode_any c d (some a1) (some a2) (some b1) (some b2) n1 m1 m1 m2 c1 c2 d1 d2 sh dt sh' dt' _ ((((unhide H1).alloc _).alloc _).alloc _) ((((unhide H2).alloc _).alloc _).alloc _) ((((unhide K1).alloc _).alloc _).alloc _) ((((unhide K2).alloc _).alloc _).alloc _) _ HRC).mono ?_; rintro e w1 ⟨rfl, hb1⟩; obtain ⟨B0, B1, B2, hB1⟩ := boxes3 hb1; have HB0 := hide B0; have HB1 := hide B1; have HB2 := hide B2; have HB := hide hB1; obtain ⟨x0, x1, x2, x3, x4, x5, x6⟩ := B0.all; obtain ⟨y0, y1, y2, y3, y4, y5, y6⟩ := B1.all; obtain ⟨q0, q1, q2, q3, q4, q5, q6⟩ := B2.all; clear hb1 hB1 B0 B1 B2) | (go_at_call 31; refine (isOrder_any _ _ _ dt _ ((unhide H2).below (Nat.le_refl _) (unhide HB)) (by omega) _ HOR).mono ?_; rintro e w2 ⟨rfl, hb2⟩; have HB0' := hide ((unhide HB0).below (Nat.le_refl _) hb2); have HB1' := hide ((unhide HB1).below (Nat.le_refl _) hb2); have HB2' := hide ((unhide HB2).below (Nat.le_refl _) hb2); have HC := hide ((unhide HB).trans (hb2.mono (by omega))); clear hb2 x0 x1 x2 x3 x4 x5 x6 y0 y1 y2 y3 y4 y5 y6 q0 q1 q2 q3 q4 q5 q6 HB0 HB1 HB2 HB; obtain ⟨x0, x1, x2, x3, x4, x5, x6⟩ := (unhide HB0').all; obtain ⟨y0, y1, y2, y3, y4, y5, y6⟩ := (unhide HB1').all; obtain ⟨q0, q1, q2, q3, q4, q5, q6⟩ := (unhide HB2').all))
  obtain ⟨gs, hgs⟩ : ∃ gs, gs = w2.heap.size := ⟨_, rfl⟩
  obtain ⟨bx, hbx⟩ : ∃ bx, bx = w.heap.size + 1 + 1 := ⟨_, rfl⟩
  obtain ⟨wz, hwz⟩ : ∃ wz, wz = w2.alloc (.cells (madeCells #[.int .i64 0] m1) 3) := ⟨_, rfl⟩
  have hzg : gs < wz.heap.size := by rw [hwz, hgs]; simp
  have hzb : bx < gs := by rw [hbx, hgs]; exact q6
  have hwb : w.heap.size + 1 < bx := by omega
  have HZ0 : Hid (Box wz w.heap.size c (.slice (some a1) n1 c1) (.slice (some a2) m1 c2)) := by rw [hwz]; exact (unhide HB0').alloc _
  have HZ1 : Hid (Box wz (w.heap.size + 1) d (.slice (some b1) m1 d1) (.slice (some b2) m2 d2)) := by rw [hwz]; exact (unhide HB1').alloc _
  have HZ2 : Hid (Box wz bx false (.slice none 0 0) (.slice none 0 0)) := by rw [hwz, hbx]; exact (unhide HB2').alloc _
  have HG : Hid (Blk wz gs (turnN dt sh' m1 0)) := by show Blk wz gs (List.replicate m1 0); rw [hwz]; exact Blk.made _ _ _ hgs
  have HBZ : Hid (Below w.heap.size w wz) := by rw [hwz]; exact (unhide HC).alloc (by omega) _
  have H2Z := hide ((unhide H2).below (Nat.le_refl _) (unhide HBZ))
  have K1Z := hide ((unhide K1).below (Nat.le_refl _) (unhide HBZ))
  have K2Z := hide ((unhide K2).below (Nat.le_refl _) (unhide HBZ))
  have HPL : Hid ((∀ k, At (some a2) m1 k → k < w.heap.size) ∧ (∀ k, At (some b1) m1 k → k < w.heap.size) ∧ (∀ k, At (some b2) m2 k → k < w.heap.size)) := ⟨fun k h => (unhide H2).hi h, fun k h => (unhide K1).hi h, fun k h => (unhide K2).hi h⟩
  rw [← hwz, ← hgs, ← hbx]
  clear hwz hgs hbx hmk HB0' HB1' HB2' HC x0 x1 x2 x3 x4 x5 x6 y0 y1 y2 y3 y4 y5 y6 q0 q1 q2 q3 q4 q5 q6 HRC HOR H1 H2 K1 K2
  go_loopw [37] (fun i wr => ∃ k : Nat, k ≤ m1 ∧ i = .int .i64 (k : Nat) ∧ Hid (Blk wr gs (turnN dt sh' m1 k)) ∧ Hid (But (fun x => x = gs) wz wr)) (fun i _ => m1 - (intOf i).toNat)
  case atStart => exact ⟨0, Nat.zero_le _, rfl, HG, hide (But.refl _ _)⟩
  case round =>
    obtain ⟨k, hk, rfl, hb, hbut⟩ := hrel
    have hzr := hbut.out.size
    by_cases hlt : k < m1
    · obtain ⟨bb, ob, hbb, _, cs⟩ := (hbut.out.row K1Z.out (by rintro x rfl h; have := HPL.out.2.1 _ h; omega)).get hlt
      obtain ⟨ba, oa, hba, _, ck⟩ := (hbut.out.row H2Z.out (by rintro x rfl h; have := HPL.out.1 _ h; omega)).get hlt
      have hx2 := (hbut.out.cellAt (b := w.heap.size) (o := 2) (by omega) (by omega)).trans HZ0.out.all.2.2.1
      rw [hba] at hx2
      cases hbb
      cases hba
      have hrg := order_range HORD.out k hlt
      have hjl := stepOk_lt (order_step HORD.out hlt)
      obtain ⟨j, hj⟩ : ∃ j, axNo dt k = j := ⟨_, rfl⟩
      have hdk : dt.getD k 0 = (j : Int) + 1 := by rw [← hj]; unfold axNo; omega
      rw [hj] at hjl
      rw [hdk] at ck
      obtain ⟨s, hss⟩ : ∃ s, sh'.getD k 0 = s := ⟨_, rfl⟩
      rw [hss] at cs
      have cg := hb.out.cell (i := j) (by rw [turnN_len]; exact hjl)
      have cf := hb.out.free j
      have hw1 : IntKind.i64.wrap ((j : Int) + 1 - 1) = (j : Int) := by rw [IntKind.wrap_i64]; omega
      have HN : Hid (turnN dt sh' m1 (k + 1) = (turnN dt sh' m1 k).set j s) := by show (turnN dt sh' m1 k).set (axNo dt k) (sh'.getD k 0) = _; rw [hj, hss]
      clear hj hdk hss hrg
      go_wp2_with fail
      go_roundw
      case rel =>
        refine ⟨k + 1, by omega, by go_num, ?_, hide (hbut.out.setCell (p := ⟨gs, j, none⟩) rfl _)⟩
        show Blk _ _ _
        rw [HN.out]
        exact hb.out.set j s
      case measure => simp [intOf]; omega
    · obtain rfl : k = m1 := by omega
      clear hlt hk HG
      have HA1 : Hid (Box wr (w.heap.size + 1) d (.slice (some b1) k d1) (.slice (some b2) m2 d2)) := (hbut.out.block _ (by omega) (by omega)).trans HZ1.out
      have HA0 : Hid (Box wr w.heap.size c (.slice (some a1) n1 c1) (.slice (some a2) k c2)) := (hbut.out.block _ (by omega) (by omega)).trans HZ0.out
      have HA2 : Hid (Box wr bx false (.slice none 0 0) (.slice none 0 0)) := (hbut.out.block _ (by omega) (by omega)).trans HZ2.out
      have HR1 := hide (hbut.out.row K1Z.out (by rintro x rfl h; have := HPL.out.2.1 _ h; omega))
      have HR2 := hide (hbut.out.row K2Z.out (by rintro x rfl h; have := HPL.out.2.2 _ h; omega))
      have HRD := hide (hbut.out.row H2Z.out (by rintro x rfl h; have := HPL.out.1 _ h; omega))
      have HBW : Hid (Below w.heap.size w wr) := HBZ.out.trans (hbut.out.below (by omega) (by rintro x rfl; omega))
      obtain ⟨zz, hzz⟩ : ∃ zz, zz = turnN dt sh' k k := ⟨_, rfl⟩
      have HZL : Hid (zz.length = k) := by rw [hzz]; exact turnN_len _ _ _ _
      rw [← hzz] at hb HPZ HIZ
      have HZZ := hide hzz
      obtain ⟨z0, z1, z2, z3, z4, z5, z6⟩ := HA1.out.all
      obtain ⟨q0, q1, q2, q3, q4, q5, q6⟩ := HA2.out.all
      clear hzz
      go_wp2_with (go_at_call 32; refine (gathered_any d (some b1) (some b2) (some ⟨gs, 0, none⟩) k m2 d1 d2 k k sh' dt' zz 33 _ eg_trans (transF dt) _ m2 HR1.out HR2.out (hb.out.row HZL.out (by omega)) HIN.out HIZ.out h5 HPZ.out HPR.out (transClo w.heap.size k c2 c _ (some a2) dt zz _ HA0.out HRD.out HORD.out HZL.out h5)).mono ?_; rintro e wG ⟨gd, rfl, hgd, hBG, hbG⟩; have HKG := hide hbG; have HBG := hide hBG; have HGD := hide hgd; clear hgd hBG hbG z0 z1 z2 z3 z4 z5 q0 q1 q2 q3 q4 q5 q6; obtain ⟨q0, q1, q2, q3, q4, q5, q6⟩ := (HA2.out.below (Nat.le_refl _) HKG.out).all)
      have hGl := hb.out.lt
      have hzG := HKG.out.size
      have hres := Res5.set (w := w) (d := d) (zs := zz) (n := k) (N := m2) (csh := k) (ash := some ⟨gs, 0, none⟩) (HA2.out.below (Nat.le_refl _) HKG.out) ((hb.out.below (Nat.le_refl _) HKG.out).own HZL.out (by omega) (by omega)) (by have := HGD.out; omega) HBG.out (fun h => by have := at_eq h; have := HGD.out; omega) (HBW.out.trans (HKG.out.mono (by omega))) (fun h => by have := at_eq h; omega) (by have := HGD.out; omega) (by omega)
      obtain ⟨ash', csh', gd', hb', hO', hgd', hB', hne', hbl'⟩ := hres
      obtain ⟨r0, r1, r2, r3, r4, r5, r6⟩ := hb'.all
      refine bodyPost_ret (v := .tuple #[.agg #[.bool d, .slice ash' k csh', .slice (some ⟨gd', 0, none⟩) m2 m2], .int .i64 0]) (by simp [results, Try.results11, go_sem, r0, r1, r2]) rfl ?_
      rw [← HZZ.out]
      exact gives_res (by simp [vals]) (by omega) hO' hgd' hB' hne' hbl'

theorem codeListT_bad1 {c d : Bool} {sh dt sh' dt' : List Int} (h : arrOk c sh dt = false) : codeList c d sh dt sh' dt' = 3 := by unfold codeList; rw [if_neg (by simp [h])]
theorem codeListT_bad2 {c d : Bool} {sh dt sh' dt' : List Int} (h : arrOk d sh' dt' = false) : codeList c d sh dt sh' dt' = 3 := by unfold codeList; rw [if_neg (by simp [h])]
theorem codeListT_ok {c d : Bool} {sh dt sh' dt' : List Int} (h : arrOk c sh dt = true) (h' : arrOk d sh' dt' = true) : codeList c d sh dt sh' dt' = listCode c sh.length := by unfold codeList; rw [if_pos ⟨h, h'⟩]

theorem implTranspose_any (c d : Bool) (a1 a2 b1 b2 : Addr) (n1 n2 m1 m2 c1 c2 d1 d2 : Nat) (sh dt sh' dt' : List Int) (w : World) (h1 : Row w (some a1) n1 sh) (h2 : Row w (some a2) n2 dt) (k1 : Row w (some b1) m1 sh') (k2 : Row w (some b2) m2 dt') :
    Calls Try.prog 11 #[.agg #[.bool c, .slice (some a1) n1 c1, .slice (some a2) n2 c2], .agg #[.bool d, .slice (some b1) m1 d1, .slice (some b2) m2 d2]] w (GivesOwn w (transpose c d sh dt sh' dt')) := by
  cases hok : arrOk c sh dt with
  | false => rw [transpose_bad1 hok]; exact implTranspose_code c d a1 a2 b1 b2 n1 n2 m1 m2 c1 c2 d1 d2 sh dt sh' dt' w h1 h2 k1 k2 3 (codeListT_bad1 hok) (by omega)
  | true =>
    cases hok' : arrOk d sh' dt' with
    | false => rw [transpose_bad2 hok']; exact implTranspose_code c d a1 a2 b1 b2 n1 n2 m1 m2 c1 c2 d1 d2 sh dt sh' dt' w h1 h2 k1 k2 3 (codeListT_bad2 hok') (by omega)
    | true =>
      have hcl := codeListT_ok hok hok'
      by_cases h0 : listCode c sh.length = 0
      · rw [h0] at hcl
        by_cases hn : n2 = m1
        · subst hn
          have hl : dt.length = sh'.length := by rw [h2.len, k1.len]
          have h5 : n2 ≤ 5 := by rw [← k1.len]; exact (shapeIn_of hok').2.2
          cases ho : orderOk dt sh'.length sh'.length with
          | false =>
            rw [transpose_dom hok hok' h0 hl ho]
            exact implTranspose_dom c d a1 a2 b1 b2 n1 n2 m2 c1 c2 d1 d2 sh dt sh' dt' w h1 h2 k1 k2 hcl h5 (by rw [← order_is h2.len, ← k1.len]; exact ho)
          | true =>
            rw [transpose_go hok hok' h0 hl ho, ← trans_vals hok' ho, k1.len, k2.len]
            exact implTranspose_good c d a1 a2 b1 b2 n1 n2 m2 c1 c2 d1 d2 sh dt sh' dt' w h1 h2 k1 k2 hcl hok' (by rw [← k1.len]; exact ho)
        · rw [transpose_len hok hok' h0 (by rw [h2.len, k1.len]; exact hn)]
          exact implTranspose_len c d a1 a2 b1 b2 n1 n2 m1 m2 c1 c2 d1 d2 sh dt sh' dt' w h1 h2 k1 k2 hcl hn
      · rw [transpose_list hok hok' _ rfl h0]
        exact implTranspose_code c d a1 a2 b1 b2 n1 n2 m1 m2 c1 c2 d1 d2 sh dt sh' dt' w h1 h2 k1 k2 _ hcl h0

end Go.Proofs.Ytmikkameameebaa
